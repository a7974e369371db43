import Derived.Deep.CutBlock
import Derived.Deep.MidRow
import Derived.Test.YtbfjklpoheooaaaGreatDoorJ18
import Derived.Test.YtbfjklpoheooaaaGreatDoorJ21
import Derived.Test.YtbfjklpoheooaaaGreatDoorJ51
set_option linter.unusedSimpArgs false
set_option linter.unusedVariables false
namespace Go.Proofs.YtbfjklpoheooaaaGreatDoor
set_option maxRecDepth 100000
namespace Vl
open Go.RowKit
open Tw (Tb tcell tval ccell)
structure Acts (w : World) (a : Option Addr) (n : Nat) (wh at_ by_ : Nat → Int) (s : Nat → ByteArray) (kv sv : Nat → Value) (nk ns : Nat → Nat) (ks : Nat → Nat → Int) (sl : Nat → Nat → Bool) : Prop where
  cells : 0 < n → ∃ k o, a = some ⟨k, o, none⟩ ∧ ∀ j, j < n → w.rangeAt k (o + j * 6) [.int .i64 (wh j), .int .i64 (at_ j), .int .i64 (by_ j), .string (s j), kv j, sv j]
  keeps : ∀ j, j < n → SlA w w.heap.size (kv j) (nk j) (fun i => .int .i64 (ks j i))
  slots : ∀ j, j < n → SlA w w.heap.size (sv j) (ns j) (fun i => .bool (sl j i))
  small : ∀ j, j < n → -9223372036854775808 ≤ at_ j ∧ at_ j ≤ 9223372036854775807
theorem wp_last {P : Program} {c : Code} {Q : Exit → Act → World → Prop} {a : Act} {w : World} (h : c.wp P (Exit.then (fun a w => Q .normal a w) Q) a w) : c.wp P Q a w := wp_mono h (fun e a w h => by cases e <;> exact h)
set_option maxHeartbeats 8000000 in
theorem tells_go (w : World) (s : ByteArray) (oa : Option Addr) (no oc : Nat) (wh at_ by_ : Nat → Int) (sx : Nat → ByteArray) (kv sv : Nat → Value) (nk ns : Nat → Nat) (ks : Nat → Nat → Int) (sl : Nat → Nat → Bool)
    (hg : Et w) (hT : Sm.Tab w) (hsum : Sm.RSum) (ho : Acts w oa no wh at_ by_ sx kv sv nk ns ks sl) :
    Calls Tryz.prog 3 #[.string s, .slice oa no oc] w fun e w' => e = .returned (.bool true) ∧ Since w w' := by
  have HO : Hid (Acts w oa no wh at_ by_ sx kv sv nk ns ks sl) := ho
  have HG : Hid (Et w) := hg
  have HT : Hid (Sm.Tab w) := hT
  have HSU : Hid (Sm.RSum) := hsum
  clear ho hg hT hsum
  by_cases h60 : 60 < s.size
  · go_enter Tryz.func3, Tryz.ntmps3
    go_wp2_with fail
    refine (lawLong_any s _).mono ?_
    rintro e w' ⟨rfl, rfl⟩
    have hd : decide (60 < s.size) = true := decide_eq_true h60
    go_wp2_with fail
    go_ret
    exact ⟨rfl, Since.refl _⟩
  have hd6 : decide (60 < s.size) = false := decide_eq_false h60
  by_cases hn6 : 60 < no
  · have hn6' : (60 : Int) < no := by omega
    go_enter Tryz.func3, Tryz.ntmps3
    go_wp2_with fail
    refine (lawLong_any s _).mono ?_
    rintro e w' ⟨rfl, rfl⟩
    go_wp2_with fail
    go_ret
    exact ⟨rfl, Since.refl _⟩
  have hn6' : (no : Int) ≤ 60 := by omega
  have hn6d : decide ((60 : Int) < no) = false := decide_eq_false (by omega)
  go_enter Tryz.func3, Tryz.ntmps3
  go_wp2_with fail
  refine (lawLong_any s _).mono ?_
  rintro e w' ⟨rfl, rfl⟩
  go_wp2_with fail
  refine (Sm.rnew_any _).mono ?_
  rintro e w1 ⟨Rb, rfl, hRb, ha1, ha2, hs1⟩
  have HA : Hid (w'.heap.size ≤ Rb ∧ Sm.Arr w1 Rb 0 8 Sm.H0.fn ∧ Sm.Arr w1 Rb 8 64 Sm.kn) := ⟨hRb, ha1, ha2⟩
  have HS1 : Hid (Since w' w1) := hs1
  clear hRb ha1 ha2 hs1
  go_wp2_with fail
  refine (newD_any _).mono ?_
  rintro e w2 ⟨rd, rfl, hrd, hrs, hrc, hs2⟩
  have HD : Hid (w1.heap.size ≤ rd ∧ w2.heap.size = rd + 1 ∧ Cel w2 rd 21 (rcell dv0 nilV (.slice none 0 0) (.slice none 0 0))) := ⟨hrd, hrs, hrc⟩
  have HS2 : Hid (Since w1 w2) := hs2
  clear hrd hrs hrc hs2
  go_wp2_with fail
  refine (new_any _).mono ?_
  rintro e w3 ⟨rfl, rfl⟩
  go_upto_region 7 with fail
  have hz5 : (((w2.alloc (.cells Tryz.zeroCells87 87)).alloc (.cells #[.int .i64 0] 31)).alloc (.cells #[.int .i64 0] 3)).heap.size = w2.heap.size + 1 + 1 + 1 := by simp
  have hs5 : Since w2 (((w2.alloc (.cells Tryz.zeroCells87 87)).alloc (.cells #[.int .i64 0] 31)).alloc (.cells #[.int .i64 0] 3)) := (((Since.refl w2).alloc _).alloc _).alloc _
  have hd5 : Dev (((w2.alloc (.cells Tryz.zeroCells87 87)).alloc (.cells #[.int .i64 0] 31)).alloc (.cells #[.int .i64 0] 3)) w2.heap.size dv0 (.slice none 0 0) := (dev_new w2).since (((Since.refl _).alloc _).alloc _)
  have hc5 : Cel (((w2.alloc (.cells Tryz.zeroCells87 87)).alloc (.cells #[.int .i64 0] 31)).alloc (.cells #[.int .i64 0] 3)) (w2.heap.size + 1) 1 (fun _ => .int .i64 0) := (Cel.new (w2.alloc (.cells Tryz.zeroCells87 87)) 1 _ _ _ (fun j hj => by rw [show j = 0 by omega]; rfl) _ (by simp)).since ((Since.refl _).alloc _)
  have hr5 : Cel (((w2.alloc (.cells Tryz.zeroCells87 87)).alloc (.cells #[.int .i64 0] 31)).alloc (.cells #[.int .i64 0] 3)) (w2.heap.size + 1 + 1) 1 (fun _ => .int .i64 0) := Cel.new _ 1 _ _ _ (fun j hj => by rw [show j = 0 by omega]; rfl) _ (by simp)
  generalize ((w2.alloc (.cells Tryz.zeroCells87 87)).alloc (.cells #[.int .i64 0] 31)).alloc (.cells #[.int .i64 0] 3) = w5 at *
  obtain ⟨hA0, hA1, hA2⟩ := HA.out
  obtain ⟨hD0, hD1, hD2⟩ := HD.out
  have hRl : Rb < w1.heap.size := arrLt hA1 (by omega)
  have hws1 := HS1.out.size
  have hs15 : Since w1 w5 := HS2.out.trans hs5
  have hs05 : Since w' w5 := HS1.out.trans hs15
  have HB5 : Hid (BD w' w5 w5.heap.size w2.heap.size (w2.heap.size + 1) Rb rd (w2.heap.size + 1 + 1) dv0 dv0 0) :=
    ⟨⟨⟨by omega, by omega, by omega, by omega, by omega⟩, ⟨by omega, by omega, by omega, by omega⟩, ⟨by omega, by omega, by omega, by omega, by omega, by omega⟩⟩,
      ⟨_, ⟨hd5, hc5, by omega, by simp [Value.ownBlock], hs05, by omega, by omega, fun k e => by simp [Value.ownBlock] at e⟩, fun k e => by simp [Value.ownBlock] at e⟩,
      ⟨⟨_, _, _, Ref.start (hD2.since hs5) (by omega) (Nat.le_refl _)⟩, hr5, ⟨hA1.since hs15, hA2.since hs15⟩, ⟨by omega, by omega, by omega, by omega, by omega, by omega⟩, hs05, by omega, by omega, by omega⟩, Nat.le_refl _⟩
  clear hz5 hs5 hd5 hc5 hr5 hA0 hA1 hA2 hD0 hD1 hD2 hRl hws1 hs15 HA HD HS1 HS2
  have HS5 : Hid (Since w' w5) := hs05
  clear hs05
  generalize w5.heap.size = N at *
  generalize w2.heap.size + 1 + 1 = rc at *
  generalize w2.heap.size + 1 = cb at *
  generalize w2.heap.size = db at *
  have hE5 : Et w5 := HG.out.since HS5.out
  by_cases h16 : s.size = 16
  · have HRB : Hid (RBase Rb s (kbOf s) (ktOf s)) := ⟨HSU.out, rkeyB HSU.out Rb s h16, rkeyT HSU.out Rb s h16, keyOf_size _ _, keyOf_size _ _⟩
    clear hE5
    go_wp2_with fail
    refine (openR HRB.out h16 (c := 0) ⟨by omega, by omega⟩ (D := dv0) (Nat.zero_le 1) HB5.out).mono ?_
    rintro e w6 ⟨rv, r, S', he, hm6, hk6⟩
    have HM6 : Hid (OMid w' w6 N db cb rv Rb rd rc s dv0 0 r S') := hm6
    clear hm6 hk6
    by_cases hr : r = 0
    · subst hr
      have he' : e = .returned (.tuple #[.pointer (some ⟨rv, 0, none⟩), .int .i64 0]) := by
        rcases he with ⟨_, h⟩ | ⟨h, _⟩
        · exact h
        · exact absurd rfl h
      subst he'
      clear he
      go_wp2_with fail
      refine (openP HT.out h16 (by omega) HM6.out).mono ?_
      rintro e w7 ⟨a, b, hab, rfl, hst, _⟩
      obtain ⟨rfl, vb, rfl⟩ : a = .pointer (some ⟨rv, 0, none⟩) ∧ ∃ vb, b = .pointer (some ⟨vb, 0, none⟩) := by
        rcases hab with ⟨_, h⟩ | ⟨h, _⟩
        · exact h
        · exact absurd rfl h
      have HST : Hid (St w' w7 N db cb Rb rd rc s (kbOf s) (ktOf s) (0 + 1) (.pointer (some ⟨rv, 0, none⟩)) (.pointer (some ⟨vb, 0, none⟩))) := hst
      have hE7 : Et w7 := HG.out.since hst.since
      clear hst hab HM6
      go_wp2_with fail
      refine (bare_ev 0 _ hE7).mono ?_
      rintro e w8 ⟨rfl, hs8⟩
      have HST8 : Hid (St w' w8 N db cb Rb rd rc s (kbOf s) (ktOf s) (0 + 1) (.pointer (some ⟨rv, 0, none⟩)) (.pointer (some ⟨vb, 0, none⟩))) := HST.out.go hs8
      clear hs8 HST hE7
      have HBS : Hid (Base w' (kbOf s) (ktOf s)) := ⟨HT.out, HRB.out.kb, HRB.out.kt⟩
      go_upto_region 12 with fail
      obtain ⟨hNl, hAl, hA5⟩ : N ≤ w8.heap.size ∧ (db < w8.heap.size ∧ cb < w8.heap.size ∧ rd < w8.heap.size ∧ rc < w8.heap.size) ∧ w'.heap.size ≤ N := by
        obtain ⟨D, c, hbd, _⟩ := HST8.out.bd
        have h1 := hbd.ap.lt
        have h2 := hbd.nN
        obtain ⟨v, hv, _⟩ := hbd.p
        have h3 := hv.lo
        exact ⟨h2, ⟨by omega, by omega, by omega, by omega⟩, by omega⟩
      have HBX : Hid (Boxes ((w8.alloc (.cells #[.slice none 0 0, .slice none 0 0, .slice none 0 0, .slice none 0 0, .slice none 0 0, .slice none 0 0, .slice none 0 0, .slice none 0 0, .string ⟨#[]⟩, .string ⟨#[]⟩] 48)).alloc (.cells #[.slice none 0 0, .slice none 0 0, .slice none 0 0, .slice none 0 0, .slice none 0 0, .slice none 0 0, .slice none 0 0, .slice none 0 0, .string ⟨#[]⟩, .string ⟨#[]⟩] 48)) N db cb rd rc w8.heap.size (w8.heap.size + 1)) := boxes_new hNl hAl
      have HST9 : Hid (St w' ((w8.alloc (.cells #[.slice none 0 0, .slice none 0 0, .slice none 0 0, .slice none 0 0, .slice none 0 0, .slice none 0 0, .slice none 0 0, .slice none 0 0, .string ⟨#[]⟩, .string ⟨#[]⟩] 48)).alloc (.cells #[.slice none 0 0, .slice none 0 0, .slice none 0 0, .slice none 0 0, .slice none 0 0, .slice none 0 0, .slice none 0 0, .slice none 0 0, .string ⟨#[]⟩, .string ⟨#[]⟩] 48)) N db cb Rb rd rc s (kbOf s) (ktOf s) (0 + 1) (.pointer (some ⟨rv, 0, none⟩)) (.pointer (some ⟨vb, 0, none⟩))) := HST8.out.go (((Since.refl w8).alloc _).alloc _)
      generalize ((w8.alloc (.cells #[.slice none 0 0, .slice none 0 0, .slice none 0 0, .slice none 0 0, .slice none 0 0, .slice none 0 0, .slice none 0 0, .slice none 0 0, .string ⟨#[]⟩, .string ⟨#[]⟩] 48)).alloc (.cells #[.slice none 0 0, .slice none 0 0, .slice none 0 0, .slice none 0 0, .slice none 0 0, .slice none 0 0, .slice none 0 0, .slice none 0 0, .string ⟨#[]⟩, .string ⟨#[]⟩] 48)) = w9 at *
      clear HST8 hNl hAl
      generalize w8.heap.size + 1 = b2 at *
      generalize w8.heap.size = b1 at *
      clear HB5
      go_wp2_with fail
      go_loopw [10, 11, 12, 13, 16, 17, 18] (fun a _ b _ i _ _ wr => ∃ k : Nat, k ≤ no ∧ i = .int .i64 k ∧ St w' wr N db cb Rb rd rc s (kbOf s) (ktOf s) ((k : Int) + 1) a b ∧ Boxes wr N db cb rd rc b1 b2) (fun _ _ _ _ i _ _ _ => no - (intOf i).toNat)
      case atStart => exact ⟨0, by omega, rfl, HST9.out, HBX.out⟩
      case round =>
        obtain ⟨k, hk, rfl, hst, hbx⟩ := hrel
        have HST : Hid (St w' wr N db cb Rb rd rc s (kbOf s) (ktOf s) ((k : Int) + 1) u10 u12) := hst
        have HBX : Hid (Boxes wr N db cb rd rc b1 b2) := hbx
        clear hst hbx HST9
        by_cases hlt : k < no
        · have hlt2 : (k : Int) < no := by omega
          obtain ⟨ka, ko, hoa, hr⟩ := HO.out.cells (by omega)
          have hR : wr.rangeAt ka (ko + k * 6) [.int .i64 (wh k), .int .i64 (at_ k), .int .i64 (by_ k), .string (sx k), kv k, sv k] := fun i v hi => (HST.out.since.cell (World.block_lt_of_cell? w' _ (hr k hlt i v hi))).trans (hr k hlt i v hi)
          subst hoa
          clear hr
          obtain ⟨na, nc, hkv, _⟩ := HO.out.keeps k hlt
          obtain ⟨sa, sc, hsv, _⟩ := HO.out.slots k hlt
          have HKV : Hid (SlA w' w'.heap.size (.slice na (nk k) nc) (nk k) (fun i => .int .i64 (ks k i))) := by have := HO.out.keeps k hlt; rw [hkv] at this; exact this
          have HSV : Hid (SlA w' w'.heap.size (.slice sa (ns k) sc) (ns k) (fun i => .bool (sl k i))) := by have := HO.out.slots k hlt; rw [hsv] at this; exact this
          rw [hkv, hsv] at hR
          clear hkv hsv
          have HAT : Hid (-9223372036854775808 ≤ at_ k ∧ at_ k ≤ 9223372036854775807) := HO.out.small k hlt
          go_upto_region 16 with (refine wpList_load_mid (by rfl) 52 _ (by rfl) ka (ko + k * 6) (by rfl) _ _ hR Tryz.underlying52 (by rfl) (by kernel_rfl) ?_)
          have HAB : Hid (ActB (wr.alloc (.cells #[.int .i64 (wh k), .int .i64 (at_ k), .int .i64 (by_ k), .string (sx k), .slice na (nk k) nc, .slice sa (ns k) sc] 52)) db cb rd rc wr.heap.size (acell (wh k) (at_ k) (by_ k) (sx k) (.slice na (nk k) nc) (.slice sa (ns k) sc))) := by
            obtain ⟨D, c, hbd, _⟩ := HST.out.bd
            have h1 := hbd.ap.lt
            have h2 := hbd.nN
            exact ⟨Cel.new wr 6 _ _ _ (fun j hj => by
              match j, hj with
              | 0, _ => rfl
              | 1, _ => rfl
              | 2, _ => rfl
              | 3, _ => rfl
              | 4, _ => rfl
              | 5, _ => rfl) _ rfl, Ty.new wr _ 52, ⟨by omega, by omega, by omega, by omega⟩⟩
          have HST1 : Hid (St w' (wr.alloc (.cells #[.int .i64 (wh k), .int .i64 (at_ k), .int .i64 (by_ k), .string (sx k), .slice na (nk k) nc, .slice sa (ns k) sc] 52)) N db cb Rb rd rc s (kbOf s) (ktOf s) ((k : Int) + 1) u10 u12) := HST.out.go ((Since.refl wr).alloc _)
          have HBX1 : Hid (Boxes (wr.alloc (.cells #[.int .i64 (wh k), .int .i64 (at_ k), .int .i64 (by_ k), .string (sx k), .slice na (nk k) nc, .slice sa (ns k) sc] 52)) N db cb rd rc b1 b2) := HBX.out.keeps (Keeps.of_since ((Since.refl wr).alloc _))
          generalize wr.alloc (.cells #[.int .i64 (wh k), .int .i64 (at_ k), .int .i64 (by_ k), .string (sx k), .slice na (nk k) nc, .slice sa (ns k) sc] 52) = wx at *
          clear hR HST HBX
          generalize wr.heap.size = xb at *
          have c0 : wx.cell? ⟨xb, 0, none⟩ = some (.int .i64 (wh k)) := HAB.out.cel.cell 0 (by omega)
          have c3 : wx.cell? ⟨xb, 3, none⟩ = some (.string (sx k)) := HAB.out.cel.cell 3 (by omega)
          have c4 : wx.cell? ⟨xb, 4, none⟩ = some (.slice na (nk k) nc) := HAB.out.cel.cell 4 (by omega)
          have c5 : wx.cell? ⟨xb, 5, none⟩ = some (.slice sa (ns k) sc) := HAB.out.cel.cell 5 (by omega)
          by_cases h120 : 120 < (sx k).size
          · have h6 : (120 : Int) < (sx k).size := by omega
            clear h120
            go_wp2_with fail
            go_ret
            exact ⟨rfl, HST1.out.since⟩
          have h6 : ¬ (120 : Int) < (sx k).size := by omega
          clear h120
          by_cases h20 : 20 < nk k
          · have h2 : (20 : Int) < nk k := by omega
            clear h20
            go_wp2_with fail
            go_ret
            exact ⟨rfl, HST1.out.since⟩
          have h2 : ¬ (20 : Int) < nk k := by omega
          clear h20
          by_cases h40 : 20 < ns k
          · have h4 : (20 : Int) < ns k := by omega
            clear h40
            go_wp2_with fail
            go_ret
            exact ⟨rfl, HST1.out.since⟩
          have h4 : ¬ (20 : Int) < ns k := by omega
          clear h40
          go_upto_region 18 with fail
          clear h6 h2 h4 c3 c4 c5
          go_cut [18] from 57 to 237 (fun g wc => g = .bool (again (wh k)) ∧ wc = wx)
          case first =>
            cases h3 : (wh k == 3) with
            | true =>
              have HG3 : Hid (again (wh k) = true) := by show again (wh k) = true; unfold again; rw [h3]; simp
              go_wp2_with fail
              go_meet
              case rel => exact ⟨by rw [HG3.out], rfl⟩
            | false =>
              cases h5 : (wh k == 5) with
              | true =>
                have HG3 : Hid (again (wh k) = true) := by show again (wh k) = true; unfold again; rw [h3, h5]; simp
                go_wp2_with fail
                go_meet
                case rel => exact ⟨by rw [HG3.out], rfl⟩
              | false =>
                cases h7 : (wh k == 7) with
                | true =>
                  have HG3 : Hid (again (wh k) = true) := by show again (wh k) = true; unfold again; rw [h3, h5, h7]; simp
                  go_wp2_with fail
                  go_meet
                  case rel => exact ⟨by rw [HG3.out], rfl⟩
                | false =>
                  cases h8 : (wh k == 8) with
                  | true =>
                    have HG3 : Hid (again (wh k) = true) := by show again (wh k) = true; unfold again; rw [h3, h5, h7, h8]; rfl
                    go_wp2_with fail
                    go_meet
                    case rel => exact ⟨by rw [HG3.out], rfl⟩
                  | false =>
                    have HG3 : Hid (again (wh k) = false) := by show again (wh k) = false; unfold again; rw [h3, h5, h7, h8]; rfl
                    go_wp2_with fail
                    go_meet
                    case rel => exact ⟨by rw [HG3.out], rfl⟩
          case rest =>
            obtain ⟨rfl, hwc⟩ := hcut
            subst hwc
            go_upto_block 2 with fail
            go_cut [4] from 57 to 237 (fun _ wd => Done w' wd N db cb Rb rd rc b1 b2 s (kbOf s) (ktOf s) ((k : Int) + 1) (wh k) u10 u12)
            case first =>
              refine sw_go _ (by kernel_rfl) w' wc N db cb Rb rd rc b1 b2 xb s (kbOf s) (ktOf s) ((k : Int) + 1) (wh k) (at_ k) (by_ k) (sx k) na sa (nk k) nc (ns k) sc (ks k) (sl k) u10 u12 HST1 HBX1 HAB HBS HRB HG (by omega) HAT.out.2 HKV HSV _ _ (fun _ _ _ _ _ h => h) _ _ _ _ _ _ _ _ _ _ _ _ _ _ _ _ _ _ _ _ _ _ _ _ _ _ _ _ _ _ _ _ _ _ _ _ _ _ _ _ _ _ _ _ _ _ _ _ _ _ _ _ _ _ _ _ _ _ _ _ _ _ _ _ _ _ _ _ _ _ _ _ _ _ _ _ _ _ _ _ _ _ _ _ _ _ _ _ _ _ _ _ _ _ _ _ _ _ _ _ _ _ _ _ _ _ _ _ _ _ _ _ _ _ _ _ _ _ _ _ _ _ _ _ _ _ _ _ _ _ _ _ _ _ _ _ _ _ _ _ _ _ _ _ _ _ _ _ _ _ _ _ _ _ _ _ _ _ _ _ _ _ _ _ _ _ _ _ _ _ _ _ _ _ _ _ _ _ _ _ _ _ _ _ _ _ _ _ _ _ _ _ _ _ _ _ _ _ _ _ _ _ _ _ _ _ _ _ _ _ _ _ _ _ _ _ _ _ _ _ _ _ _ _ _ _ _ (fun we hdn _ _ _ _ _ _ _ _ _ _ _ _ _ _ _ _ _ _ _ _ _ _ _ _ _ _ _ _ _ _ _ _ _ _ _ _ _ _ _ _ _ _ _ _ _ _ _ _ _ _ _ _ _ _ _ _ _ _ _ _ _ _ _ _ _ _ _ _ _ _ _ _ _ _ _ _ _ _ _ _ _ _ _ _ _ _ _ _ _ _ _ => ?_)
              dsimp only
              go_wp2_with fail
              go_meet
              exact hdn
            case rest =>
              have HDN : Hid (Done w' wc N db cb Rb rd rc b1 b2 s (kbOf s) (ktOf s) ((k : Int) + 1) (wh k) u10 u12) := hcut
              clear hcut HST1 HBX1 HAB c0
              rename_i aK
              refine aK _ _ ?_
              refine wp_seq ?_
              refine op_go _ (by kernel_rfl) w' wc N db cb Rb rd rc b1 b2 s ((k : Int) + 1) (wh k) (again (wh k)) u10 u12 HDN rfl HT HRB HG (by omega) h16 _ _ _ _ _ _ _ _ _ _ _ _ _ _ _ _ _ _ _ _ _ _ _ _ _ _ _ _ _ _ _ _ _ _ _ _ _ _ _ _ _ _ _ _ _ _ _ _ _ _ _ _ _ _ _ _ _ _ _ _ _ _ _ _ _ _ _ _ _ _ _ _ _ _ _ _ _ _ _ _ _ _ _ _ _ _ _ _ _ _ _ _ _ _ _ _ _ _ _ _ _ _ _ _ _ _ _ _ _ _ _ _ _ _ _ _ _ _ _ _ _ _ _ _ _ _ _ _ _ _ _ _ _ _ _ _ _ _ _ _ _ _ _ _ _ _ _ _ _ _ _ _ _ _ _ _ _ _ _ _ _ _ _ _ _ _ _ _ _ _ _ _ _ _ _ _ _ _ _ _ _ _ _ _ _ _ _ _ _ _ _ _ _ _ _ _ _ _ _ _ _ _ _ _ _ _ _ _ _ _ _ _ _ _ _ _ _ _ _ _ _ _ _ _ _ _ _ _ _ _ _ (fun we z10 z11 z12 z13 _ _ _ _ _ _ _ _ _ _ _ _ _ _ _ _ _ _ _ _ _ _ _ _ _ hst hbx => ?_)
              have HSTe : Hid (St w' we N db cb Rb rd rc s (kbOf s) (ktOf s) ((k : Int) + 1 + 1) z10 z12) := hst
              have HBXe : Hid (Boxes we N db cb rd rc b1 b2) := hbx
              clear hst hbx HDN aK
              refine wp_last ?_
              refine ck_go _ (by kernel_rfl) w' we N db cb Rb rd rc s (kbOf s) (ktOf s) ((k : Int) + 1 + 1) z10 z12 HSTe HG _ _ (fun _ _ _ _ _ h => h) _ _ _ _ _ _ _ _ _ _ _ _ _ _ _ _ _ _ _ _ _ _ _ _ _ _ _ _ _ _ _ _ _ _ _ _ _ _ _ _ _ _ _ _ _ _ _ _ _ _ _ _ _ _ _ _ _ _ _ _ _ _ _ _ _ _ _ _ _ _ _ _ _ _ _ _ _ _ _ _ _ _ _ _ _ _ _ _ _ _ _ _ _ _ _ _ _ _ _ _ _ _ _ _ _ _ _ _ _ _ _ _ _ _ _ _ _ _ _ _ _ _ _ _ _ _ _ _ _ _ _ _ _ _ _ _ _ _ _ _ _ _ _ _ _ _ _ _ _ _ _ _ _ _ _ _ _ _ _ _ _ _ _ _ _ _ _ _ _ _ _ _ _ _ _ _ _ _ _ _ _ _ _ _ _ _ _ _ _ _ _ _ _ _ _ _ _ _ _ _ _ _ _ _ _ _ _ _ _ _ _ _ _ _ _ _ _ _ _ _ _ _ _ _ _ _ _ _ _ _ _ _ (fun wg hsg _ _ _ _ _ _ _ _ _ _ _ _ _ _ _ _ _ _ _ _ _ => ?_)
              have HSTg : Hid (St w' wg N db cb Rb rd rc s (kbOf s) (ktOf s) (((k + 1 : Nat) : Int) + 1) z10 z12) := by
                show St w' wg N db cb Rb rd rc s (kbOf s) (ktOf s) (((k + 1 : Nat) : Int) + 1) z10 z12
                rw [show ((k + 1 : Nat) : Int) + 1 = (k : Int) + 1 + 1 by omega]
                exact HSTe.out.go hsg
              have HBXg : Hid (Boxes wg N db cb rd rc b1 b2) := HBXe.out.keeps (Keeps.of_since hsg)
              clear hsg HSTe HBXe
              dsimp only [Exit.inBlock, Exit.then]
              go_wp2_with fail
              go_roundw
              case rel => exact ⟨k + 1, by omega, by go_num, HSTg.out, HBXg.out⟩
              case measure => simp [intOf]; omega
        · have hlt2 : ¬ (k : Int) < no := by omega
          have HSF : Hid (Since w' wr) := HST.out.since
          go_wp2_with fail
          go_ret
          exact ⟨rfl, HSF.out⟩
    · have he' : e = .returned (.tuple #[.pointer none, .int .i64 r]) := by
        rcases he with ⟨h, _⟩ | ⟨_, h⟩
        · exact absurd h hr
        · exact h
      subst he'
      clear he
      go_wp2_with fail
      refine (openP HT.out h16 (by omega) HM6.out).mono ?_
      rintro e w7 ⟨a, b, hab, rfl, hst, _⟩
      obtain ⟨rfl, rfl⟩ : a = .pointer none ∧ b = .pointer none := by
        rcases hab with ⟨h, _⟩ | ⟨_, h⟩
        · exact absurd h hr
        · exact h
      have HS7 : Hid (Since w' w7) := hst.since
      have hE7 : Et w7 := HG.out.since hst.since
      clear hst hab HM6
      generalize hev : ev r = er at *
      have HBA : Hid (∀ W, Et W → Calls Tryz.prog 10 #[er, .int .i64 r] W fun e w' => e = .returned (.bool true) ∧ Since W w') := fun W hW => by rw [← hev]; exact bare_ev r W hW
      clear hev
      go_wp2_with fail
      refine (HBA.out _ hE7).mono ?_
      rintro e w8 ⟨rfl, hs8⟩
      go_wp2_with fail
      refine (HBA.out _ (hE7.since hs8)).mono ?_
      rintro e w9 ⟨rfl, hs9⟩
      go_wp2_with fail
      go_ret
      exact ⟨rfl, (HS7.out.trans hs8).trans hs9⟩
  · go_wp2_with fail
    refine (ropen_secret Rb rd rc s _ h16).mono ?_
    rintro e w6 ⟨rfl, rfl⟩
    go_wp2_with fail
    refine (open_secret db cb s _ h16).mono ?_
    rintro e w7 ⟨rfl, rfl⟩
    go_wp2_with fail
    refine (bare_ev 1 _ hE5).mono ?_
    rintro e w8 ⟨rfl, hs8⟩
    go_wp2_with fail
    refine (bare_ev 1 _ (hE5.since hs8)).mono ?_
    rintro e w9 ⟨rfl, hs9⟩
    go_wp2_with fail
    go_ret
    exact ⟨rfl, (HS5.out.trans hs8).trans hs9⟩
end Vl
end Go.Proofs.YtbfjklpoheooaaaGreatDoor
