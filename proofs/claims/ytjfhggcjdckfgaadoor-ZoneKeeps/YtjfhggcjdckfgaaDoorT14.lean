/- The law ZoneKeeps walked. -/
import Derived.Test.YtjfhggcjdckfgaaDoorT13s
namespace Go.Proofs.YtjfhggcjdckfgaaDoor
set_option linter.unusedSimpArgs false
set_option linter.unusedVariables false
open Go.RowKit

set_option maxRecDepth 100000 in
set_option maxHeartbeats 8000000 in
theorem keeps_go (w : World) (oa : Option Addr) (no oc : Nat) (wh at_ : Nat → Int) (s : Nat → ByteArray) (kv sv : Nat → Value) (nk ns : Nat → Nat) (ks : Nat → Nat → Int) (sl : Nat → Nat → Bool)
    (iv : Nat → Value) (n : Nat → Nat) (l : Nat → Nat → ByteArray) (s0 s1 : ByteArray) (hg : Et w) (ho : Ops w oa no wh at_ s kv sv nk ns ks sl) (hi : ImA w w.heap.size iv n l) :
    Calls Tryd.prog 5 #[.slice oa no oc, .agg (brow 10 (icell iv s0 s1)).toArray] w fun e w' => e = .returned (.bool true) ∧ Since w w' := by
  have HO : Hid (Ops w oa no wh at_ s kv sv nk ns ks sl) := ho
  have HI : Hid (ImA w w.heap.size iv n l) := hi
  have HG : Hid (Et w) := hg
  clear ho hi hg
  have hL1 : (brow 10 (icell iv s0 s1)).length = 10 := brow_length _ _
  by_cases h50 : no ≤ 50
  · have h50' : (no : Int) ≤ 50 := by omega
    go_enter Tryd.func5, Tryd.ntmps5
    go_upto_region 1 with fail
    have b1 : Cel (w.alloc (.cells (brow 10 (icell iv s0 s1)).toArray 45)) w.heap.size 10 (icell iv s0 s1) := Cel.new w 10 _ _ _ (fun j hj => by rw [List.getElem?_toArray]; exact brow_get _ _ j hj) _ rfl
    have hS0 := (Since.refl w).alloc (.cells (brow 10 (icell iv s0 s1)).toArray 45)
    generalize w.alloc (.cells (brow 10 (icell iv s0 s1)).toArray 45) = w1 at *
    have q0 : w1.cell? ⟨w.heap.size, 0, none⟩ = some (iv 0) := b1.cell 0 (by omega)
    have q1 : w1.cell? ⟨w.heap.size, 1, none⟩ = some (iv 1) := b1.cell 1 (by omega)
    have q2 : w1.cell? ⟨w.heap.size, 2, none⟩ = some (iv 2) := b1.cell 2 (by omega)
    have q3 : w1.cell? ⟨w.heap.size, 3, none⟩ = some (iv 3) := b1.cell 3 (by omega)
    have q4 : w1.cell? ⟨w.heap.size, 4, none⟩ = some (iv 4) := b1.cell 4 (by omega)
    have q5 : w1.cell? ⟨w.heap.size, 5, none⟩ = some (iv 5) := b1.cell 5 (by omega)
    have q6 : w1.cell? ⟨w.heap.size, 6, none⟩ = some (iv 6) := b1.cell 6 (by omega)
    have q7 : w1.cell? ⟨w.heap.size, 7, none⟩ = some (iv 7) := b1.cell 7 (by omega)
    have q8 : w1.cell? ⟨w.heap.size, 8, none⟩ = some (.string s0) := b1.cell 8 (by omega)
    have q9 : w1.cell? ⟨w.heap.size, 9, none⟩ = some (.string s1) := b1.cell 9 (by omega)
    have eB : (brow 10 (icell iv s0 s1)).toArray = #[iv 0, iv 1, iv 2, iv 3, iv 4, iv 5, iv 6, iv 7, .string s0, .string s1] := rfl
    have EB : Hid ((brow 10 (icell iv s0 s1)).toArray = #[iv 0, iv 1, iv 2, iv 3, iv 4, iv 5, iv 6, iv 7, .string s0, .string s1]) := eB
    have B1 : Hid (Cel w1 w.heap.size 10 (icell iv s0 s1)) := b1
    have S0 : Hid (Since w w1) := hS0
    clear b1 hS0 eB hL1
    go_wp2_with fail
    rw [← EB.out]
    have hsl : ∀ z, z < 8 → Sl w1 w.heap.size (iv z) (n z) (fun j => .string (l z j)) := fun z hz => (HI.out.img S0.out (Nat.le_refl _)).sl z hz
    clear q0 q1 q2 q3 q4 q5 q6 q7 q8 q9
    refine (wide_any w.heap.size iv n l s0 s1 _ hsl).mono ?_
    rintro e wq ⟨hx, hSq⟩
    have SQ : Hid (Since w wq) := S0.out.trans hSq
    have BQ : Hid (Cel wq w.heap.size 10 (icell iv s0 s1)) := B1.out.since hSq
    clear hSq hsl B1 S0
    rcases hx with rfl | ⟨rfl, hnz, hz0, hz1⟩
    · go_wp2_with fail
      go_ret
      exact ⟨rfl, SQ.out⟩
    have HN : Hid (∀ z, z < 8 → n z ≤ 1000) := fun z hz => by have := (hnz z hz).1; omega
    clear hnz hz0 hz1
    go_wp2_with fail
    refine (newD_any _).mono ?_
    rintro e wd ⟨rb, rfl, hrb, hsz, hc, hSd⟩
    have RC : Hid (Cel wd rb 21 (rcell dv0 nilV (.slice none 0 0) (.slice none 0 0))) := hc
    have RB : Hid (wq.heap.size ≤ rb) := hrb
    have RS : Hid (wd.heap.size = rb + 1) := hsz
    have SD : Hid (Since wq wd) := hSd
    clear hc hrb hsz hSd
    go_wp2_with fail
    refine (new_any _).mono ?_
    rintro e wn ⟨rfl, hwn⟩
    have ST : Hid (∃ v lv av wv, Dev wn wd.heap.size dv0 v ∧ Ref wn rb (wd.heap.size + 1) dv0 lv av wv ∧ (∀ k, v.ownBlock = some k → wd.heap.size < k)) := by
      rw [hwn]
      exact ⟨_, _, _, _, dev_new wd, Ref.start (RC.out.since ((Since.refl wd).alloc _)) (by have := RS.out; omega) (by simp), fun k e => by cases e⟩
    have SN : Hid (Since wq wn) := by rw [hwn]; exact SD.out.trans ((Since.refl wd).alloc _)
    clear hwn
    obtain ⟨b, hb⟩ : ∃ b, b = wd.heap.size := ⟨_, rfl⟩
    rw [← hb] at ST ⊢
    have LO : Hid (wq.heap.size ≤ rb ∧ rb < b) := ⟨RB.out, by have := RS.out; omega⟩
    clear hb RC RB RS SD
    have SW : Hid (∀ wr, Since wq wr → Et wr) := fun wr hs => (HG.out.since SQ.out).since hs
    have HK : Hid (∀ j, j < no → SlA wq wq.heap.size (kv j) (nk j) (fun i => .int .i64 (ks j i))) := fun j hj => (HO.out.keeps j hj).since SQ.out
    have HV : Hid (∀ j, j < no → SlA wq wq.heap.size (sv j) (ns j) (fun i => .bool (sl j i))) := fun j hj => (HO.out.slots j hj).since SQ.out
    have HIQ : Hid (ImA wq wq.heap.size iv n l) := HI.out.since SQ.out
    clear HI HG
    go_wp2_with fail
    go_loopw [7] (fun i wr => ∃ (k : Nat) (D : Dv), k ≤ no ∧ i = .int .i64 k ∧ D.ws.length ≤ k ∧ (∃ v lv av wv, Dev wr b D v ∧ Ref wr rb (b + 1) D lv av wv ∧ (∀ k, v.ownBlock = some k → b < k)) ∧ Since wq wr) (fun i _ => no - (intOf i).toNat)
    case atStart => exact ⟨0, dv0, by omega, rfl, Nat.le_refl _, ST.out, SN.out⟩
    case round =>
      obtain ⟨k, D, hk, rfl, hws, hst, hsr⟩ := hrel
      have HST : Hid (∃ v lv av wv, Dev wr b D v ∧ Ref wr rb (b + 1) D lv av wv ∧ (∀ k, v.ownBlock = some k → b < k)) := hst
      have HSR : Hid (Since wq wr) := hsr
      have HWS : Hid (D.ws.length ≤ k) := hws
      clear hst hsr hws ST SN
      by_cases hlt : k < no
      · have hlt2 : (k : Int) < no := by omega
        obtain ⟨ka, ko, hoa, hr⟩ := HO.out.cells (by omega)
        have hR : wr.rangeAt ka (ko + k * 5) [.int .i64 (wh k), .int .i64 (at_ k), .string (s k), kv k, sv k] := fun i v hi => ((SQ.out.trans HSR.out).cell (World.block_lt_of_cell? w _ (hr k hlt i v hi))).trans (hr k hlt i v hi)
        subst hoa
        clear hr
        obtain ⟨na, nc, hkv, _⟩ := HK.out k hlt
        obtain ⟨sa, sc, hsv, _⟩ := HV.out k hlt
        have HKV : Hid (SlA wq wq.heap.size (.slice na (nk k) nc) (nk k) (fun i => .int .i64 (ks k i))) := by have := HK.out k hlt; rw [hkv] at this; exact this
        have HSV : Hid (SlA wq wq.heap.size (.slice sa (ns k) sc) (ns k) (fun i => .bool (sl k i))) := by have := HV.out k hlt; rw [hsv] at this; exact this
        rw [hkv, hsv] at hR
        clear hkv hsv
        have HAT : Hid (-9223372036854775808 ≤ at_ k ∧ at_ k ≤ 9223372036854775807) := HO.out.small k hlt
        go_upto_region 8 with (refine wpList_load_mid (by rfl) 54 _ (by rfl) ka (ko + k * 5) (by rfl) _ _ hR Tryd.underlying54 (by rfl) (by kernel_rfl) ?_)
        have HB : Hid (Bo wq (wr.alloc (.cells #[.int .i64 (wh k), .int .i64 (at_ k), .string (s k), .slice na (nk k) nc, .slice sa (ns k) sc] 54)) b rb wr.heap.size (xcell (wh k) (at_ k) (s k) (.slice na (nk k) nc) (.slice sa (ns k) sc)) D D) := bo_new _ _ _ _ _ HST.out HSR.out LO.out
        generalize wr.alloc (.cells #[.int .i64 (wh k), .int .i64 (at_ k), .string (s k), .slice na (nk k) nc, .slice sa (ns k) sc] 54) = wx at *
        clear hR HST HSR
        generalize wr.heap.size = xb at *
        have C : Hid (∀ {w' : World} {D1 D2 : Dv}, Bo wq w' b rb xb (xcell (wh k) (at_ k) (s k) (.slice na (nk k) nc) (.slice sa (ns k) sc)) D1 D2 → w'.cell? ⟨xb, 0, none⟩ = some (.int .i64 (wh k)) ∧ w'.cell? ⟨xb, 1, none⟩ = some (.int .i64 (at_ k)) ∧ w'.cell? ⟨xb, 2, none⟩ = some (.string (s k)) ∧ w'.cell? ⟨xb, 3, none⟩ = some (.slice na (nk k) nc) ∧ w'.cell? ⟨xb, 4, none⟩ = some (.slice sa (ns k) sc)) :=
          fun h => ⟨h.xc.cell 0 (by omega), h.xc.cell 1 (by omega), h.xc.cell 2 (by omega), h.xc.cell 3 (by omega), h.xc.cell 4 (by omega)⟩
        obtain ⟨c0, c1, c2, c3, c4⟩ := C.out HB.out
        generalize hxc : xcell (wh k) (at_ k) (s k) (.slice na (nk k) nc) (.slice sa (ns k) sc) = xc at *
        clear hxc
        by_cases h600 : 600 < (s k).size
        · have h6 : (600 : Int) < (s k).size := by omega
          clear h600
          go_wp2_with fail
          go_ret
          exact ⟨rfl, SQ.out.trans HB.out.since⟩
        have h6 : ¬ (600 : Int) < (s k).size := by omega
        clear h600
        by_cases h20 : 20 < nk k
        · have h2 : (20 : Int) < nk k := by omega
          clear h20
          go_wp2_with fail
          go_ret
          exact ⟨rfl, SQ.out.trans HB.out.since⟩
        have h2 : ¬ (20 : Int) < nk k := by omega
        clear h20
        by_cases h40 : 40 < ns k
        · have h4 : (40 : Int) < ns k := by omega
          clear h40
          go_wp2_with fail
          go_ret
          exact ⟨rfl, SQ.out.trans HB.out.since⟩
        have h4 : ¬ (40 : Int) < ns k := by omega
        clear h40
        go_upto_block 2 with fail
        clear h6 h2 h4 c3 c4
        go_cut [9, 10, 11, 12] from 30 to 236 (fun a1 a2 a3 a4 wc => ∃ D', Bo wq wc b rb xb xc D' D' ∧ D'.ws.length ≤ k + 1)
        case first =>
          refine sw_go _ (by kernel_rfl) wq wx b rb xb w.heap.size k xc D (wh k) (at_ k) (s k) na sa (nk k) (ns k) nc sc (ks k) (sl k) iv n l s0 s1 HB C SW HWS HAT (by omega) HKV HSV HIQ HN BQ _ _ (fun _ _ _ _ _ h => h) _ _ _ _ _ _ _ _ _ _ _ _ _ _ _ _ _ _ _ _ _ _ _ _ _ _ _ _ _ _ _ _ _ _ _ _ _ _ _ _ _ _ _ _ _ _ _ _ _ _ _ _ _ _ _ _ _ _ _ _ _ _ _ _ _ _ _ _ _ _ _ _ _ _ _ _ _ _ _ _ _ _ _ _ _ _ _ _ _ _ _ _ _ _ _ _ _ _ _ _ _ _ _ _ _ _ _ _ _ _ _ _ _ _ _ _ _ _ _ _ _ _ _ _ _ _ _ _ _ _ _ _ _ _ _ _ _ _ _ _ _ _ _ _ _ _ _ _ _ _ _ _ _ _ _ _ _ _ _ _ _ _ _ _ _ _ _ _ _ _ _ _ _ _ _ _ _ _ _ _ _ _ _ _ _ _ _ _ _ _ _ _ _ _ _ _ _ _ _ _ _ _ _ _ _ _ _ _ _ _ _ _ _ _ _ _ _ _ _ _ _ _ _ _ _ _ _ _ _ _ _ _ (fun D' wd' hb' hw' _ _ _ _ _ _ _ _ _ _ _ _ _ _ _ _ _ _ _ _ _ _ _ _ _ _ _ _ _ _ _ _ _ _ _ _ _ _ _ _ _ _ _ _ _ _ _ _ _ _ _ _ _ _ _ _ _ _ _ _ _ _ _ _ _ _ _ _ _ _ _ _ _ _ _ _ _ _ _ _ _ _ _ _ _ _ _ _ _ _ _ _ _ _ _ _ _ _ _ _ _ _ => ?_)
          dsimp only
          go_wp2_with fail
          go_meet
          exact ⟨D', hb', hw'⟩
        case rest =>
          obtain ⟨D', hbc, hwc⟩ := hcut
          have HBC : Hid (Bo wq wc b rb xb xc D' D') := hbc
          have HWC : Hid (D'.ws.length ≤ k + 1) := hwc
          clear hbc hwc HB HWS c0 c1 c2
          obtain ⟨v, lv, av, wv, hd, hr, hv⟩ := HBC.out.st
          have HD : Hid (Dev wc b D' v) := hd
          have HR : Hid (Ref wc rb (b + 1) D' lv av wv) := hr
          clear hd hr hv
          go_wp2_with fail
          refine (image_any D' v b _ HD.out).mono ?_
          rintro e wi ⟨iv1, rfl, hrow1, hS1⟩
          have R1 : Hid (∀ z, z < 8 → wi.ownsRow wc.heap.size 9 1 (iv1 z) (D'.sure z) (blks (D'.blk z) (D'.sure z))) := hrow1
          have S1 : Hid (Since wc wi) := hS1
          clear hrow1 hS1
          go_wp2_with fail
          refine (rimage_any D' lv av wv rb (b + 1) _ (HR.out.since S1.out) HD.out.ok).mono ?_
          rintro e wj ⟨iv2, rfl, hrow2, hS2⟩
          have R2 : Hid (∀ z, z < 8 → wj.ownsRow wi.heap.size 9 1 (iv2 z) (D'.sure z) (blks (D'.blk z) (D'.sure z))) := hrow2
          have S2 : Hid (Since wi wj) := hS2
          clear hrow2 hS2
          go_wp2_with fail
          have hbl : b < wc.heap.size := HD.out.lt
          have hbi : wc.heap.size ≤ wi.heap.size := S1.out.size
          refine (sameImage_any b iv1 iv2 D'.sure (fun z j => txt 128 (D'.blk z j)) (fun z j => txt 128 (D'.blk z j)) _ _ _ (fun z hz => Sl.of_own (ownsRow_since (R1.out z hz) S2.out) hbl (fun j hj => blks_get _ _ j hj)) (fun z hz => Sl.of_own (R2.out z hz) (by omega) (fun j hj => blks_get _ _ j hj)) (fun z j _ _ => rfl) (fun z hz => by have := HD.out.ok.sure z hz; have := HD.out.ok.cnt z hz; omega)).mono ?_
          rintro e wm ⟨rfl, hS3⟩
          have HBM : Hid (Bo wq wm b rb xb xc D' D') := HBC.out.go ((S1.out.trans S2.out).trans hS3)
          clear hS3 R1 R2 S1 S2 HD HR hbl hbi HBC
          obtain ⟨c0, c1, c2, _, _⟩ := C.out HBM.out
          go_upto_block 3 with fail
          have HSC : Hid (∀ q, q < 5 → (wm.alloc (.cells #[.int .i64 (at_ k), .int .i64 0, .int .i64 7, .int .i64 8, .int .i64 (-1)] 3)).cell? ⟨wm.heap.size, q, none⟩ = some (.int .i64 (zs (at_ k) q))) := fun q hq => by
            rw [World.cell?_alloc_new]
            match q, hq with
            | 0, _ => rfl
            | 1, _ => rfl
            | 2, _ => rfl
            | 3, _ => rfl
            | 4, _ => rfl
          have HBS : Hid (Bo wq (wm.alloc (.cells #[.int .i64 (at_ k), .int .i64 0, .int .i64 7, .int .i64 8, .int .i64 (-1)] 3)) b rb xb xc D' D') := HBM.out.go ((Since.refl wm).alloc _)
          generalize wm.alloc (.cells #[.int .i64 (at_ k), .int .i64 0, .int .i64 7, .int .i64 8, .int .i64 (-1)] 3) = ws at *
          generalize wm.heap.size = sb at *
          clear c0 c1 c2 HBM
          go_wp2_with fail
          go_loopw [165] (fun i wy => ∃ q : Nat, q ≤ 5 ∧ i = .int .i64 q ∧ Since ws wy) (fun i _ => 5 - (intOf i).toNat)
          case atStart => exact ⟨0, by omega, rfl, Since.refl _⟩
          case round =>
            obtain ⟨q, hq, rfl, hsy⟩ := hrel
            have HSY : Hid (Since ws wr) := hsy
            have HBY : Hid (Bo wq wr b rb xb xc D' D') := HBS.out.go hsy
            clear hsy
            by_cases hq5 : q < 5
            · have hq5' : (q : Int) < 5 := by omega
              have qc : wr.cell? ⟨sb, q, none⟩ = some (.int .i64 (zs (at_ k) q)) := (HSY.out.cell (p := ⟨sb, q, none⟩) (World.block_lt_of_cell? ws _ (HSC.out q hq5))).trans (HSC.out q hq5)
              generalize zs (at_ k) q = zq at *
              go_wp2_with fail
              refine (have_all zq HBY.out).mono ?_
              rintro e w2 ⟨rfl, rfl⟩
              go_wp2_with fail
              refine (at_all zq HBY.out).mono ?_
              rintro e w2 ⟨rfl, rfl⟩
              go_wp2_with fail
              refine (bare_ev _ _ (SW.out _ HBY.out.since)).mono ?_
              rintro e w3 ⟨rfl, hS3⟩
              have HBZ : Hid (Bo wq w3 b rb xb xc D' D') := HBY.out.go hS3
              have HSZ : Hid (Since ws w3) := HSY.out.trans hS3
              clear hS3 qc HBY HSY
              go_wp2_with fail
              refine (rread_all _ _ HBZ.out HBZ.out.ok).mono ?_
              rintro e w4 ⟨rfl, rfl⟩
              go_wp2_with fail
              refine (read_all _ _ HBZ.out).mono ?_
              rintro e w4 ⟨rfl, rfl⟩
              go_wp2_with fail
              refine (bare_ev _ _ (SW.out _ HBZ.out.since)).mono ?_
              rintro e w5 ⟨rfl, hS5⟩
              have HBT : Hid (Bo wq w5 b rb xb xc D' D') := HBZ.out.go hS5
              have HST : Hid (Since ws w5) := HSZ.out.trans hS5
              clear hS5 HBZ HSZ
              go_wp2_with fail
              refine (rget_all zq HBT.out (by have := HWC.out; omega)).mono ?_
              rintro e w6 ⟨rfl, rfl⟩
              go_wp2_with fail
              obtain ⟨v, lv, av, wv, hd, hr, hv⟩ := HBT.out.st
              refine (get_all2 zq hd).mono ?_
              rintro e w7 ⟨rfl, hS7⟩
              clear hd hr hv
              have HBU : Hid (Bo wq w7 b rb xb xc D' D') := HBT.out.go hS7
              have HSU : Hid (Since ws w7) := HST.out.trans hS7
              clear hS7 HBT HST
              go_wp2_with fail
              refine (bare_ev _ _ (SW.out _ HBU.out.since)).mono ?_
              rintro e w8 ⟨rfl, hS8⟩
              have HSV : Hid (Since ws w8) := HSU.out.trans hS8
              clear hS8 HBU HSU
              go_wp2_with fail
              go_roundw
              case rel => exact ⟨q + 1, by omega, by go_num, HSV.out⟩
              case measure => simp [intOf]; omega
            · have hqe : q = 5 := by omega
              subst hqe
              go_wp2_with fail
              go_roundw
              case rel => exact ⟨k + 1, D', by omega, by go_num, HWC.out, HBY.out.st, HBY.out.since⟩
              case measure => simp [intOf]; omega
      · have hke : k = no := by omega
        subst hke
        go_wp2_with fail
        go_ret
        exact ⟨rfl, SQ.out.trans HSR.out⟩
  · have h50' : ¬ (no : Int) ≤ 50 := by omega
    clear h50
    go_enter Tryd.func5, Tryd.ntmps5
    go_wp2_with fail
    go_ret
    exact ⟨rfl, (Since.refl w).alloc _⟩
end Go.Proofs.YtjfhggcjdckfgaaDoor
