import Derived.Test.YtifnhnfjelfddaaGreatDoorJ51
set_option linter.unusedSimpArgs false
set_option linter.unusedVariables false
namespace Go.Proofs.YtifnhnfjelfddaaGreatDoor
set_option maxRecDepth 100000
namespace Vl
open Go.RowKit
open Tw (Tb nul may Same Rt)
section
variable {w0 w w' : World} {vb db cb N : Nat} {kb kt : ByteArray} {S S' : Vs} {v v' : Value} {D D' : Dv} {c n : Int}
theorem fr_wide {b : Nat} {g : Option Nat} (h : Fr b none w w') : Fr b g w w' := ⟨h.os, h.tape, h.output, h.size, fun k hk hb _ => h.block k hk hb (by simp)⟩
theorem fuse_vol (m : Int) (hm : m ≤ 9223372036854775807) (h : Vol w0 w vb db cb kb kt S v) :
    Calls Tryz.prog 12 #[.pointer (some ⟨db, 0, none⟩), .int .i64 m] w fun e w' => e = .returned (.tuple #[]) ∧ Vto w0 w w' vb db cb kb kt { S with D := S.D.fuse m } v := by
  refine (fuse_any S.D v db m w h.dev hm).mono ?_
  rintro e w' ⟨rfl, hd', hf⟩
  exact ⟨rfl, h.devTo hd' (fr_wide hf) (Nx.refl _ _)⟩
theorem fuse_al {T : Tb} (h : Good kb kt S n) (hs : Sure kb kt S.D S.c T S.X) (hw : S.D.ws = []) (hsu : ∀ z, z < 8 → S.D.sure z ≤ S.D.cnt z) (m : Int) : Al kb kt { S with D := S.D.fuse m } n T S.X :=
  ⟨h.on.dead, h.on.c16, h.ok.dev _ rfl h.ok.ws, hsu, h.lie, hs, hw⟩
theorem Lists.vto {M : Nat} {mv : Value} {xs : Nat → Value} {X : Nat → Nat → ByteArray} (h : Lists w N M mv xs X) (hN : vb < N ∧ db < N ∧ cb < N) (hV : Vol w0 w vb db cb kb kt S v) (hf : Fs (VP vb db cb v) w w') : Lists w' N M mv xs X :=
  ⟨own_vto hN h.had (by decide) hV hf, fun k hk => own_vto hN (h.row k hk) (by decide) hV hf⟩
theorem CC.mono {P Q : (Nat → ByteArray) → Prop} (h : CC kb kt D c P) (hpq : ∀ Z, P Z → Q Z) : CC kb kt D c Q := by
  obtain ⟨T, Y, h1, h2, h3⟩ := h
  refine ⟨T, Y, h1, hpq _ h2, ?_⟩
  rcases h3 with h3 | ⟨U, X, a, b, c, d, e, f⟩
  · exact Or.inl h3
  · exact Or.inr ⟨U, X, a, b, c, d, hpq _ e, f⟩
def In (X : Nat → Nat → ByteArray) (M : Nat) (Z : Nat → ByteArray) : Prop := ∃ k, k < M ∧ ∀ i, i < 24 → X k i = Z i
theorem In.push {X : Nat → Nat → ByteArray} {M : Nat} {Z Y : Nat → ByteArray} (h : In X M Z) : In (upd X M Y) (M + 1) Z := by
  obtain ⟨k, hk, he⟩ := h
  exact ⟨k, by omega, fun i hi => by rw [upd_ne _ _ _ (show k ≠ M by omega)]; exact he i hi⟩
theorem In.last (X : Nat → Nat → ByteArray) (M : Nat) (Y : Nat → ByteArray) : In (upd X M Y) (M + 1) Y := ⟨M, by omega, fun i hi => by rw [upd_at]⟩
def Wl (kb kt : ByteArray) (S : Vs) (c0 : Int) (j : Nat) (P : (Nat → ByteArray) → Prop) (err : Value) : Prop :=
  (err = .nilIface ∧ (∃ T Y, Al kb kt S (1000 + j) T Y ∧ P Y) ∧ Ph S (120 + j) ∧ tot S.D ≤ 108 ∧ c0 ≤ S.c) ∨
  (err = .iface 45 (.int .i64 14) ∧ S.dead = true ∧ CC kb kt S.D S.c P ∧ c0 ≤ S.c ∧ tot S.D ≤ 112 ∧ c16 S.D ∧ S.ok (1000 + j))
end
set_option maxHeartbeats 8000000 in
theorem whole_go (w : World) (l : List Stp) (lv : Value) (m : Stp) (tv : Value) (fz : Int) (kv sv : Value) (nk ns : Nat) (ks : Nat → Int) (sl : Nat → Bool) (hl : Sts w lv l) (hm : SlA w w.heap.size tv m.tx.length (tlf m.tx)) (hk : SlA w w.heap.size kv nk (fun j => .int .i64 (ks j))) (hs : SlA w w.heap.size sv ns (fun j => .bool (sl j))) (hT : Sm.Tab w) (hE : Et w) :
    Calls Tryz.prog 3 #[lv, m.val tv, .int .i64 fz, kv, sv] w fun e w' => e = .returned (.bool true) ∧ Since w w' := by
  obtain ⟨la, lc, rfl⟩ := hl.form
  have HL : Hid (Sts w (.slice la l.length lc) l) := hl
  have HT : Hid (Sm.Tab w) := hT
  have HE : Hid (Et w) := hE
  have HMM : Hid (SlA w w.heap.size tv m.tx.length (tlf m.tx)) := hm
  have HKK : Hid (SlA w w.heap.size kv nk (fun j => .int .i64 (ks j))) := hk
  have HSS0 : Hid (SlA w w.heap.size sv ns (fun j => .bool (sl j))) := hs
  obtain ⟨ta, tc, rfl, _⟩ := hm
  obtain ⟨ka, kc, rfl, _⟩ := hk
  obtain ⟨sa, sc, rfl, _⟩ := hs
  clear hT hl hE
  unfold Stp.val
  go_enter Tryz.func3, Tryz.ntmps3
  go_wp2_with fail
  have q0 : (w.alloc (.cells #[.int .i64 m.at_, .slice ta m.tx.length tc] 25)).cell? ⟨w.heap.size, 0, none⟩ = some (.int .i64 m.at_) := by simp
  have q1 : (w.alloc (.cells #[.int .i64 m.at_, .slice ta m.tx.length tc] 25)).cell? ⟨w.heap.size, 1, none⟩ = some (.slice ta m.tx.length tc) := by simp
  have HS1 : Hid (Since w (w.alloc (.cells #[.int .i64 m.at_, .slice ta m.tx.length tc] 25))) := (Since.refl w).alloc _
  have HZ1 : Hid ((w.alloc (.cells #[.int .i64 m.at_, .slice ta m.tx.length tc] 25)).heap.size = w.heap.size + 1) := by show _ = _; simp
  generalize w.alloc (.cells #[.int .i64 m.at_, .slice ta m.tx.length tc] 25) = w1 at *
  have HQ : Hid (w1.cell? ⟨w.heap.size, 0, none⟩ = some (.int .i64 m.at_) ∧ w1.cell? ⟨w.heap.size, 1, none⟩ = some (.slice ta m.tx.length tc)) := ⟨q0, q1⟩
  clear q0 q1
  refine (steps_any l _ _ (HL.out.since HS1.out)).mono ?_
  rintro e w2 ⟨hx, hs2⟩
  have HS2 : Hid (Since w1 w2) := hs2
  clear hs2
  rcases hx with ⟨rfl, hf⟩ | rfl
  case inr =>
    go_wp2_with fail
    go_ret
    exact ⟨rfl, HS1.out.trans HS2.out⟩
  have HF : Hid (few12 l) := hf
  clear hf
  have q0 := (HS2.out.cell (p := ⟨w.heap.size, 0, none⟩) (World.block_lt_of_cell? _ _ HQ.out.1)).trans HQ.out.1
  have q1 := (HS2.out.cell (p := ⟨w.heap.size, 1, none⟩) (World.block_lt_of_cell? _ _ HQ.out.2)).trans HQ.out.2
  go_wp2_with fail
  have hsm : Sts (w2.alloc (.cells #[.int .i64 m.at_, .slice ta m.tx.length tc] 25)) (.slice (some ⟨w2.heap.size, 0, none⟩) [m].length 1) [m] := by
    refine ⟨_, 1, rfl, fun _ => ⟨w2.heap.size, 0, rfl, by simp, fun j s hj => ?_⟩⟩
    have hj0 : j = 0 := by have := (List.getElem?_eq_some_iff.1 hj).1; simpa using this
    subst hj0
    obtain rfl : m = s := by simpa using hj
    exact ⟨.slice ta m.tx.length tc, HMM.out.since ((HS1.out.trans HS2.out).alloc _), by simp, by simp⟩
  refine (steps_any [m] _ _ hsm).mono ?_
  clear hsm q0 q1
  rintro e w3 ⟨hx, hs3⟩
  have HS3 : Hid (Since w1 w3) := (HS2.out.alloc _).trans hs3
  clear hs3 HS2
  rcases hx with ⟨rfl, hf⟩ | rfl
  case inr =>
    go_wp2_with fail
    go_ret
    exact ⟨rfl, HS1.out.trans HS3.out⟩
  have HSH : Hid (m.short) := hf.2 m (by simp)
  clear hf
  by_cases hnk : (20 : Int) < (nk : Nat)
  · have hd : decide ((20 : Int) < (nk : Nat)) = true := decide_eq_true hnk
    clear hnk
    go_wp2_with fail
    go_ret
    exact ⟨rfl, HS1.out.trans HS3.out⟩
  have hdk : decide ((20 : Int) < (nk : Nat)) = false := decide_eq_false hnk
  clear hnk
  by_cases hns : (20 : Int) < (ns : Nat)
  · have hd : decide ((20 : Int) < (ns : Nat)) = true := decide_eq_true hns
    clear hns
    go_wp2_with fail
    go_ret
    exact ⟨rfl, HS1.out.trans HS3.out⟩
  have hds : decide ((20 : Int) < (ns : Nat)) = false := decide_eq_false hns
  clear hns
  go_wp2_with fail
  refine (kept_any _ (HT.out.since (HS1.out.trans HS3.out))).mono ?_
  rintro e w4 ⟨rfl, hs4⟩
  have HS4 : Hid (Since w1 w4) := HS3.out.trans hs4
  clear hs4 HS3
  go_wp2_with fail
  have HSW4 : Hid (Since w w4) := HS1.out.trans HS4.out
  refine (laid_any l _ _ (HL.out.since HSW4.out) HF.out (HT.out.since HSW4.out)).mono ?_
  rintro e w5 ⟨vb, db, cb, N, S, v, hv, iv, xs, X, ivs, E, cs, Ts, rfl, hV, hG, hPh, hN, hH, hPa, hE4⟩
  have HV : Hid (Vol w4 w5 vb db cb (kbOf sec) (ktOf sec) S v) := hV
  have HG : Hid (Good (kbOf sec) (ktOf sec) S 1000 ∧ Ph S 120) := ⟨hG, hPh⟩
  have HB : Hid (Base w4 (kbOf sec) (ktOf sec)) := ⟨HT.out.since HSW4.out, keyOf_size _ _, keyOf_size _ _⟩
  have HN : Hid (vb < N ∧ db < N ∧ cb < N) := hN
  have HSU : Hid (Sure (kbOf sec) (ktOf sec) S.D S.c S.T S.X ∧ S.D.ws = []) := by
    obtain ⟨e1, e2, e3, e4⟩ := hE4
    have h1 := hPa.sure l.length (by omega)
    have h2 := hPa.ws l.length (by omega)
    rw [e1, e2, e3, e4] at h1
    rw [e1] at h2
    exact ⟨h1, h2⟩
  have hrowL := hH.row l.length (by omega)
  rw [hE4.2.1] at hrowL
  obtain ⟨xa, xc, hxe, _⟩ := own_slice2 hrowL
  obtain ⟨ha, hc, rfl, _⟩ := own_slice2 hH.had
  obtain ⟨a', c', he', hcc⟩ := Sl.of_own (b := db) (f := xs) hH.had hN.2.1 (fun j hj => by simp [hj])
  injection he' with e1 _ e3
  subst e1 e3
  obtain ⟨hk1, ho1, rfl, _, hcell⟩ := hcc (by omega)
  have q0 := hcell l.length (by omega)
  rw [hxe] at q0 hrowL
  have HROW : Hid (w5.ownsRow N 9 1 (.slice xa 24 xc) 24 (texts S.X 24)) := hrowL
  have hNw : N ≤ w5.heap.size := by
    rcases hH.had.2 with ⟨_, h0⟩ | ⟨g, c, u, _, h1, h2, _⟩
    · omega
    · have := (Array.getElem?_eq_some_iff.1 h2).1; omega
  have HNW : Hid (N ≤ w5.heap.size ∧ w4.heap.size ≤ N) := by
    refine ⟨hNw, ?_⟩
    have := HV.out.lo.1
    omega
  have hmg := Mt.get_any cb S.c w5 (HV.out.ctr.cell 0 (by omega))
  have HMG : Hid (Calls Tryz.prog 11 #[.pointer (some ⟨cb, 0, none⟩)] w5 fun e w' => e = .returned (.int .i64 S.c) ∧ w' = w5) := hmg
  have hL12 := HF.out.1
  generalize hM : l.length + 1 = M at *
  have hML : (M : Int) - 1 = (l.length : Int) := by omega
  have hwL : wrap64 (l.length : Int) = l.length := by unfold wrap64; omega
  have hLM : (l.length : Int) < M := by omega
  have hLM2 : l.length < M := by omega
  clear hM
  clear hV hG hPh hN hH hPa hE4 hcc hcell hxe hNw hmg hrowL
  generalize hkb : kbOf sec = kb at *
  generalize hkt : ktOf sec = kt at *
  have HK : Hid (kbOf sec = kb ∧ ktOf sec = kt) := ⟨hkb, hkt⟩
  clear hkb hkt
  go_wp2_with fail
  refine HMG.out.mono ?_
  rintro e w' ⟨rfl, rfl⟩
  go_wp2_with fail
  have HLS : Hid (Lists (w'.alloc (.cells #[.slice xa 24 xc] 23)) N 1 (.slice (some ⟨w'.heap.size, 0, none⟩) 1 1) (fun _ => .slice xa 24 xc) (fun _ => S.X)) := by
    refine ⟨own_new (N := N) w' #[.slice xa 24 xc] 23 1 rfl HNW.out.1, fun k hk => ownsRow_since HROW.out ((Since.refl w').alloc _)⟩
  have HV6 : Hid (Vol w4 (w'.alloc (.cells #[.slice xa 24 xc] 23)) vb db cb kb kt S v) := HV.out.go ((Since.refl w').alloc _)
  clear q0 HROW
  generalize w'.alloc (.cells #[.slice xa 24 xc] 23) = w6 at *
  generalize (Value.slice (some ⟨w'.heap.size, 0, none⟩) 1 1) = mv0 at *
  refine (pickN_any 30 fz w6 (by omega) (by omega)).mono ?_
  rintro e w'' ⟨rfl, rfl⟩
  have hp30 := pkN_lt 30 fz (by omega)
  generalize pkN 30 fz = fu at *
  have HFU : Hid (Calls Tryz.prog 12 #[.pointer (some ⟨db, 0, none⟩), .int .i64 fu] w'' fun e w' => e = .returned (.tuple #[]) ∧ Vto w4 w'' w' vb db cb kb kt { S with D := S.D.fuse fu } v) := fuse_vol fu (by omega) HV6.out
  go_wp2_with fail
  refine HFU.out.mono ?_
  rintro e w7 ⟨rfl, v7, hv7, hf7, _⟩
  have HLS7 : Hid (Lists w7 N 1 mv0 (fun _ => .slice xa 24 xc) (fun _ => S.X)) := HLS.out.vto HN.out HV6.out hf7
  have HW7 : Hid (Wl kb kt { S with D := S.D.fuse fu } S.c 0 (In (fun _ => S.X) 1) .nilIface) := Or.inl ⟨rfl, ⟨S.T, S.X, by simpa using fuse_al HG.out.1 HSU.out.1 HSU.out.2 HV.out.dev.ok.sure fu, 0, by omega, fun _ _ => rfl⟩, HG.out.2.cnt rfl, HG.out.2.most (by omega), Int.le_refl _⟩
  have HV7 : Hid (Vol w4 w7 vb db cb kb kt { S with D := S.D.fuse fu } v7) := hv7
  have HBX : Hid (∀ W, Since w4 W → W.cell? ⟨w.heap.size, 0, none⟩ = some (.int .i64 m.at_) ∧ W.cell? ⟨w.heap.size, 1, none⟩ = some (.slice ta m.tx.length tc)) := fun W hW => ⟨((HS4.out.trans hW).cell (p := ⟨w.heap.size, 0, none⟩) (World.block_lt_of_cell? _ _ HQ.out.1)).trans HQ.out.1, ((HS4.out.trans hW).cell (p := ⟨w.heap.size, 1, none⟩) (World.block_lt_of_cell? _ _ HQ.out.2)).trans HQ.out.2⟩
  have HC0 : Hid (0 ≤ S.c ∧ S.c < 2000 ∧ w.heap.size < w4.heap.size) := ⟨HG.out.1.ok.c0, by have := HG.out.1.ok.cn; omega, by have h1 := HZ1.out; have h2 := HS4.out.size; omega⟩
  clear hv7 hf7 HFU HV6 HLS HG HSU HV HQ HMG HNW hp30
  generalize ({ S with D := S.D.fuse fu } : Vs) = S7 at *
  generalize S.c = c0 at *
  go_wp2_with fail
  obtain ⟨iJ, hJ1, hJ2, hJ3, hJ4⟩ := info_parts' infoL
  have HJ : Hid (Tryz.prog.info? 23 = some iJ ∧ iJ.zero = some (.slice none 0 0) ∧ iJ.size = 1 ∧ iJ.bytes = 24) := ⟨hJ1, hJ2, hJ3, hJ4⟩
  clear hJ1 hJ2 hJ3 hJ4
  have h10 : m.tx.length ≤ 10 := HSH.out.1
  go_loopw [19, 18, 17] (fun i err mv wr => ∃ (j : Nat) (S1 : Vs) (v1 : Value) (xs : Nat → Value) (X : Nat → Nat → ByteArray), j ≤ m.tx.length ∧ i = .int .i64 j ∧ Vol w4 wr vb db cb kb kt S1 v1 ∧ Lists wr N (j + 1) mv xs X ∧ Wl kb kt S1 c0 j (In X (j + 1)) err) (fun i _ _ _ => m.tx.length - (intOf i).toNat)
  case atStart => exact ⟨0, S7, v7, _, _, by omega, rfl, HV7.out, HLS7.out, HW7.out⟩
  case round =>
    obtain ⟨j, S1, v1, xs, X, hj, rfl, hV, hLs, hWl⟩ := hrel
    have HV1 : Hid (Vol w4 wr vb db cb kb kt S1 v1) := hV
    have HL1 : Hid (Lists wr N (j + 1) u17 xs X) := hLs
    obtain ⟨p0, p1⟩ := HBX.out wr hV.since
    clear hV hLs
    have hN1 : N ≤ wr.heap.size := by
      rcases HL1.out.had.2 with ⟨_, h0⟩ | ⟨g, c, u, _, h1, h2, _⟩
      · omega
      · have := (Array.getElem?_eq_some_iff.1 h2).1; omega
    have HN1 : Hid (N ≤ wr.heap.size) := hN1
    clear hN1
    rcases hWl with ⟨rfl, hal, hph, h108, hcc⟩ | ⟨rfl, hdead, hcc, hc1, h112, h16, hok⟩
    · by_cases hlt : j < m.tx.length
      · have hlt2 : (j : Int) < m.tx.length := by omega
        have hlt3 : decide ((j : Int) < m.tx.length) = true := decide_eq_true hlt2
        have HAL : Hid ((∃ T Y, Al kb kt S1 (1000 + j) T Y ∧ In X (j + 1) Y) ∧ Ph S1 (120 + j) ∧ tot S1.D ≤ 108 ∧ c0 ≤ S1.c) := ⟨hal, hph, h108, hcc⟩
        clear hal hph h108 hcc
        obtain ⟨ka1, ko1, rfl, hka, hkc⟩ : ∃ ka ko, ta = some ⟨ka, ko, none⟩ ∧ ka < w.heap.size ∧ ∀ j, j < m.tx.length → w.cell? ⟨ka, ko + j, none⟩ = some (tlf m.tx j) := by
          obtain ⟨a', c', he, hh⟩ := HMM.out
          injection he with e1 _ _
          subst e1
          exact hh (by omega)
        have ht80 : (m.tx.getD j ⟨#[]⟩).size ≤ 80 := by
          rw [List.getD_eq_getElem?_getD, List.getElem?_eq_getElem hlt]
          exact HSH.out.2 _ (List.getElem_mem hlt)
        have hct : ∀ W, Since w4 W → W.cell? ⟨ka1, ko1 + j, none⟩ = some (.string (m.tx.getD j ⟨#[]⟩)) := fun W hW => ((HSW4.out.trans hW).cell (p := ⟨ka1, ko1 + j, none⟩) hka).trans (hkc j hlt)
        have HT80 : Hid ((m.tx.getD j ⟨#[]⟩).size ≤ 80) := ht80
        have HCT : Hid (∀ W, Since w4 W → W.cell? ⟨ka1, ko1 + j, none⟩ = some (.string (m.tx.getD j ⟨#[]⟩))) := hct
        clear ht80 hct hka hkc
        generalize m.tx.getD j ⟨#[]⟩ = t at *
        go_wp2_with fail
        refine (all_any HV1.out).mono ?_
        rintro e wC ⟨x1, rfl, hx1, hsC⟩
        obtain ⟨ya, yn, yc, rfl, rfl⟩ := own_slice hx1
        have HXC : Hid ((wC.alloc (.cells #[.slice ya 24 yc] 23)).ownsRow N 9 1 (.slice ya 24 yc) 24 (texts S1.X 24)) := ownsRow_since (ownsRow_base hx1 HN1.out) ((Since.refl wC).alloc _)
        have HLC : Hid (Lists (wC.alloc (.cells #[.slice ya 24 yc] 23)) N (j + 1) u17 xs X) := HL1.out.since (hsC.alloc _)
        have HVC : Hid (Vol w4 (wC.alloc (.cells #[.slice ya 24 yc] 23)) vb db cb kb kt S1 v1) := HV1.out.go (hsC.alloc _)
        have hNC : N ≤ (wC.alloc (.cells #[.slice ya 24 yc] 23)).heap.size := by have h1 := HN1.out; have h2 := hsC.size; simp; omega
        clear hx1 hsC p0 p1
        go_wp2_with (at_builtin; refine wpList_append_own _ (by rfl) _ _ _ (by rfl) N 23 iJ _ 1 24 Tryz.underlying33 HJ.out.1 HJ.out.2.1 HJ.out.2.2.1 HJ.out.2.2.2 (by rfl) (by decide) _ (j + 1) ((List.range (j + 1)).map xs) (by rfl) HLC.out.had ⟨wC.heap.size, 0, none⟩ 1 1 [.slice ya 24 yc] (by rfl) (by rfl) (World.news_of_block (heap_alloc_new wC _)) (by simp [Value.oneCell']) (by unfold maxLen; omega) (by omega) hNC ?_; intro x' w3 hown1 hgrow _)
        have HVD : Hid (Vol w4 w3 vb db cb kb kt S1 v1) := HVC.out.grown HN.out (by have h1 := HVC.out.lo.1; have h2 := HN.out.1; omega) HLC.out.had (by decide) hgrow
        have HLD : Hid (Lists w3 N (j + 1 + 1) x' (upd xs (j + 1) (.slice ya 24 yc)) (upd X (j + 1) S1.X)) := by
          refine ⟨by rw [map_upd]; exact hown1, fun k hk => ?_⟩
          by_cases e : k = j + 1
          · subst e
            rw [upd_at, upd_at]
            exact own_grown HXC.out HLC.out.had (by decide) hgrow
          · rw [upd_ne _ _ _ e, upd_ne _ _ _ e]
            exact own_grown (HLC.out.row k (by omega)) HLC.out.had (by decide) hgrow
        clear hown1 hgrow hNC HXC HLC HVC
        have HSS : Hid (∀ W : World, Since w4 W → (W.cell? ⟨w.heap.size, 0, none⟩ = some (.int .i64 m.at_) ∧ W.cell? ⟨w.heap.size, 1, none⟩ = some (.slice (some ⟨ka1, ko1, none⟩) m.tx.length tc) ∧ W.cell? ⟨ka1, ko1 + j, none⟩ = some (.string t))) := fun W hW => ⟨(HBX.out W hW).1, (HBX.out W hW).2, HCT.out W hW⟩
        obtain ⟨p0, p1, p2⟩ := HSS.out w3 HVD.out.since
        have HW : Hid (∀ (W : World), Since w3 W → ∀ i : Nat, i < 24 → Calls Tryz.prog 15 #[.pointer (some ⟨vb, 0, none⟩), .int .i64 i, .string t] W fun e w' => ∃ err S2 v2, e = .returned err ∧ Vol w4 w' vb db cb kb kt S2 v2 ∧ Lists w' N (j + 1 + 1) x' (upd xs (j + 1) (.slice ya 24 yc)) (upd X (j + 1) S1.X) ∧ Wl kb kt S2 c0 (j + 1) (In (upd X (j + 1) S1.X) (j + 1 + 1)) err) := fun W hW i hi => by
          obtain ⟨⟨T, Y, hal, hY⟩, hph, h108, hcc⟩ := HAL.out
          have hV := HVD.out.go hW
          have hok2 := hal.ok.write kb kt i t
          refine (write_any HB.out (1000 + j) hal.ok (by omega) i t hV).mono ?_
          rintro e w' ⟨rfl, v2, hv2, hf2, _⟩
          have hL := (HLD.out.since hW).vto HN.out hV hf2
          rcases write_al hal (by omega) hph h108 (by omega) i hi t HT80.out (In (upd X (j + 1) S1.X) (j + 1 + 1)) hY.push (In.last _ _ _) with ⟨e1, e2, e3, e4, e5, e6⟩ | ⟨e1, e2, e3, e4, e5, e6⟩
          · rw [e1]
            obtain ⟨T', Y', f1, f2⟩ := e2
            exact ⟨.nilIface, _, v2, rfl, hv2, hL, Or.inl ⟨rfl, ⟨T', Y', f1.le (by omega), f2⟩, e3.le (by omega), e4, by omega⟩⟩
          · rw [e1]
            exact ⟨.iface 45 (.int .i64 14), _, v2, rfl, hv2, hL, Or.inr ⟨rfl, e2, e3, by omega, e5, e6, hok2.le (by omega)⟩⟩
        clear HLD HCT HT80
        go_region_held3 (fun W => W.cell? ⟨w.heap.size, 0, none⟩ = some (.int .i64 m.at_) ∧ W.cell? ⟨w.heap.size, 1, none⟩ = some (.slice (some ⟨ka1, ko1, none⟩) m.tx.length tc) ∧ W.cell? ⟨ka1, ko1 + j, none⟩ = some (.string t)) (first | exact HSS.out _ HVD.out.since | exact HSS.out _ (HVD.out.since.drew) | exact HSS.out _ HR3.out.1.since) (first
          | (go_simp; go_at_call 13; refine (pick24_any _ _).mono ?_; rintro e w2 ⟨rfl, rfl⟩; dsimp only)
          | (go_simp; go_at_call 15; refine (HW.out _ (Since.refl w3).drew _ (pkN_lt 24 _ (by omega))).mono ?_; rintro e w9 ⟨err, S2, v2, rfl, hv9, hl9, hw9⟩; have HR3 : Hid (Vol w4 w9 vb db cb kb kt S2 v2 ∧ Lists w9 N (j + 1 + 1) x' (upd xs (j + 1) (.slice ya 24 yc)) (upd X (j + 1) S1.X) ∧ Wl kb kt S2 c0 (j + 1) (In (upd X (j + 1) S1.X) (j + 1 + 1)) err) := ⟨hv9, hl9, hw9⟩; clear hv9 hl9 hw9; dsimp only))
        clear p0 p1 p2
        go_wp2_with fail
        go_roundw
        case rel => exact ⟨j + 1, S2, v2, _, _, by omega, by go_num, HR3.out.1, HR3.out.2.1, HR3.out.2.2⟩
        case measure => simp [intOf]; omega
      · have HAL : Hid ((∃ T Y, Al kb kt S1 (1000 + j) T Y ∧ In X (j + 1) Y) ∧ Ph S1 (120 + j) ∧ tot S1.D ≤ 108 ∧ c0 ≤ S1.c) := ⟨hal, hph, h108, hcc⟩
        have hjd : decide ((j : Int) < m.tx.length) = false := decide_eq_false (by omega)
        clear hal hph h108 hcc
        go_wp2_with fail
        refine (all_any HV1.out).mono ?_
        rintro e wC ⟨x1, rfl, hx1, hsC⟩
        obtain ⟨ya, yn, yc, rfl, rfl⟩ := own_slice hx1
        have HXC : Hid ((wC.alloc (.cells #[.slice ya 24 yc] 23)).ownsRow N 9 1 (.slice ya 24 yc) 24 (texts S1.X 24)) := ownsRow_since (ownsRow_base hx1 HN1.out) ((Since.refl wC).alloc _)
        have HLC : Hid (Lists (wC.alloc (.cells #[.slice ya 24 yc] 23)) N (j + 1) u17 xs X) := HL1.out.since (hsC.alloc _)
        have HVC : Hid (Vol w4 (wC.alloc (.cells #[.slice ya 24 yc] 23)) vb db cb kb kt S1 v1) := HV1.out.go (hsC.alloc _)
        have hNC : N ≤ (wC.alloc (.cells #[.slice ya 24 yc] 23)).heap.size := by have h1 := HN1.out; have h2 := hsC.size; simp; omega
        clear hx1 hsC p0 p1
        go_wp2_with (at_builtin; refine wpList_append_own _ (by rfl) _ _ _ (by rfl) N 23 iJ _ 1 24 Tryz.underlying33 HJ.out.1 HJ.out.2.1 HJ.out.2.2.1 HJ.out.2.2.2 (by rfl) (by decide) _ (j + 1) ((List.range (j + 1)).map xs) (by rfl) HLC.out.had ⟨wC.heap.size, 0, none⟩ 1 1 [.slice ya 24 yc] (by rfl) (by rfl) (World.news_of_block (heap_alloc_new wC _)) (by simp [Value.oneCell']) (by unfold maxLen; omega) (by omega) hNC ?_; intro x' w3 hown1 hgrow _)
        have HVD : Hid (Vol w4 w3 vb db cb kb kt S1 v1) := HVC.out.grown HN.out (by have h1 := HVC.out.lo.1; have h2 := HN.out.1; omega) HLC.out.had (by decide) hgrow
        have HLD : Hid (Lists w3 N (j + 1 + 1) x' (upd xs (j + 1) (.slice ya 24 yc)) (upd X (j + 1) S1.X)) := by
          refine ⟨by rw [map_upd]; exact hown1, fun k hk => ?_⟩
          by_cases e : k = j + 1
          · subst e
            rw [upd_at, upd_at]
            exact own_grown HXC.out HLC.out.had (by decide) hgrow
          · rw [upd_ne _ _ _ e, upd_ne _ _ _ e]
            exact own_grown (HLC.out.row k (by omega)) HLC.out.had (by decide) hgrow
        clear hown1 hgrow hNC HXC HLC HVC
        have HFl : Hid (Calls Tryz.prog 16 #[.pointer (some ⟨vb, 0, none⟩)] w3 fun e w' => (∃ S2 v2, e = .returned .nilIface ∧ Vol w4 w' vb db cb kb kt S2 v2 ∧ Lists w' N (j + 1 + 1) x' (upd xs (j + 1) (.slice ya 24 yc)) (upd X (j + 1) S1.X) ∧ CC kb kt S2.D S2.c (fun Z => ∀ i, i < 24 → S1.X i = Z i) ∧ (c0 ≤ S2.c ∧ tot S2.D ≤ 112 ∧ c16 S2.D ∧ S2.c < 3000 ∧ 0 ≤ S2.c)) ∨ (∃ S2 v2, e = .returned (.iface 45 (.int .i64 14)) ∧ Vol w4 w' vb db cb kb kt S2 v2 ∧ Lists w' N (j + 1 + 1) x' (upd xs (j + 1) (.slice ya 24 yc)) (upd X (j + 1) S1.X) ∧ S2.dead = true ∧ CC kb kt S2.D S2.c (In (upd X (j + 1) S1.X) (j + 1 + 1)) ∧ (c0 ≤ S2.c ∧ tot S2.D ≤ 112 ∧ c16 S2.D ∧ S2.c < 3000 ∧ 0 ≤ S2.c))) := by
          obtain ⟨⟨T, Y, hal, hY⟩, hph, h108, hcc⟩ := HAL.out
          have hc0 := hal.ok.c0
          have hcn := hal.ok.cn
          refine (flush_any HB.out (hal.ok.next (by omega)) hal.ok.nc HVD.out).mono ?_
          rintro e w' ⟨rfl, v2, hv2, hf2, _⟩
          have hL := HLD.out.vto HN.out HVD.out hf2
          rcases flush_al hal (by omega) (In (upd X (j + 1) S1.X) (j + 1 + 1)) hY.push (In.last _ _ _) with ⟨e1, e2, e3, e4, e5⟩ | ⟨e1, e2, e3, e4, e5⟩
          · rw [e1]
            have ht : tot (S1.flush kt).2.D = tot S1.D := by unfold tot; rw [e3]
            exact Or.inl ⟨_, v2, rfl, hv2, hL, ⟨_, _, e2.sure, fun i _ => rfl, Or.inl e2.ws⟩, by omega, by omega, e2.c16, by omega, by omega⟩
          · rw [e1]
            have ht : tot (S1.flush kt).2.D = tot S1.D := by unfold tot; rw [e5]
            exact Or.inr ⟨_, v2, rfl, hv2, hL, e2, e3, by omega, by omega, by unfold c16; rw [e5]; exact hal.c16, by omega, by omega⟩
        have HKt : Hid (0 < j + 1 + 1 ∧ j + 1 + 1 ≤ 1000) := ⟨by omega, by omega⟩
        have HK1 : Hid (j + 1 + 1 - 1 = j + 1) := rfl
        have HPl0 : Hid (∀ Z : Nat → ByteArray, (∀ i, i < 24 → S1.X i = Z i) → ∀ i, i < 24 → upd X (j + 1) S1.X (j + 1) i = Z i) := fun Z h i hi => by rw [upd_at]; exact h i hi
        have HPt0 : Hid (∀ Z : Nat → ByteArray, (∀ i, i < 24 → S1.X i = Z i) → ∃ k, k < j + 1 + 1 ∧ ∀ i, i < 24 → upd X (j + 1) S1.X k i = Z i) := fun Z h => ⟨j + 1, by omega, fun i hi => by rw [upd_at]; exact h i hi⟩
        have HPt1 : Hid (∀ Z, In (upd X (j + 1) S1.X) (j + 1 + 1) Z → ∃ k, k < j + 1 + 1 ∧ ∀ i, i < 24 → upd X (j + 1) S1.X k i = Z i) := fun Z h => h
        refine HFl.out.mono ?_
        clear HVD HLD HAL
        rintro e wt (⟨St, vt, rfl, hvt, hlt', hct, hbt⟩ | ⟨St, vt, rfl, hvt, hlt', hdt, hct, hbt⟩)
        · have HVt : Hid (Vol w4 wt vb db cb kb kt St vt) := hvt
          have HLt : Hid (Lists wt N (j + 1 + 1) x' (upd xs (j + 1) (.slice ya 24 yc)) (upd X (j + 1) S1.X)) := hlt'
          have HCt : Hid (CC kb kt St.D St.c (fun Z => ∀ i, i < 24 → S1.X i = Z i)) := hct
          have HBt : Hid (c0 ≤ St.c ∧ tot St.D ≤ 112 ∧ c16 St.D ∧ St.c < 3000 ∧ 0 ≤ St.c) := hbt
          have HPl : Hid (∀ Z : Nat → ByteArray, (fun Z : Nat → ByteArray => ∀ i, i < 24 → S1.X i = Z i) Z → ∀ i, i < 24 → upd X (j + 1) S1.X (j + 1) i = Z i) := HPl0.out
          have HPt : Hid (∀ Z : Nat → ByteArray, (fun Z : Nat → ByteArray => ∀ i, i < 24 → S1.X i = Z i) Z → ∃ k, k < j + 1 + 1 ∧ ∀ i, i < 24 → upd X (j + 1) S1.X k i = Z i) := HPt0.out
          clear hvt hlt' hct hbt HPl0 HPt0 HPt1 HFl
          generalize (fun Z : Nat → ByteArray => ∀ i, i < 24 → S1.X i = Z i) = P at *
          generalize upd X (j + 1) S1.X = Xt at *
          generalize upd xs (j + 1) (.slice ya 24 yc) = xst at *
          generalize x' = mt at *
          generalize j + 1 + 1 = K at *
          generalize j + 1 = K1 at *
          go_wp2_with fail
          refine (crash_any St.D vt db nk ns _ _ ks sl wt HVt.out.dev (HKK.out.sl (HSW4.out.trans HVt.out.since) (by have h1 := HVt.out.lo.2.1; have h2 := HSW4.out.size; omega)) (HSS0.out.sl (HSW4.out.trans HVt.out.since) (by have h1 := HVt.out.lo.2.1; have h2 := HSW4.out.size; omega))).mono ?_
          rintro e wc ⟨rfl, hdc, hfc⟩
          have HDC : Hid (DC w4 wc db cb (St.D.crashed nk ks ns sl) St.c (.slice none 0 0)) := HVt.out.dc.turn hdc hfc rfl
          have hFc : Fs (fun k => k = db) wt wc := Fs.of_fr hfc rfl (fun k h => by cases h)
          have HLc : Hid (Lists wc N K mt xst Xt) := ⟨ownFs HLt.out.had hFc (fun j hj q => by have := (HLt.out.had.lt j hj).1; have := HN.out.2.1; omega), fun k hk => ownFs (HLt.out.row k hk) hFc (fun j hj q => by have := ((HLt.out.row k hk).lt j hj).1; have := HN.out.2.1; omega)⟩
          have HOP : Hid (Calls Tryz.prog 19 #[.pointer (some ⟨db, 0, none⟩), .pointer (some ⟨cb, 0, none⟩), .string ⟨#[48, 49, 50, 51, 52, 53, 54, 55, 56, 57, 97, 98, 99, 100, 101, 102]⟩] wc fun e w' => ∃ vc S' v' Y, e = .returned (.tuple #[.pointer (some ⟨vc, 0, none⟩), .nilIface]) ∧ Vol w4 w' vc db cb kb kt S' v' ∧ c0 ≤ S'.T.count ∧ Good kb kt S' (St.c + 1) ∧ tot S'.D ≤ 112 ∧ P Y ∧ (∀ i, i < 24 → S'.X i = Y i) ∧ Fs (fun k => k = db ∨ k = cb) wc w') := by
            obtain ⟨e1, e2⟩ := HK.out
            subst e1 e2
            obtain ⟨b1, b2, b3, b4, b5⟩ := HBt.out
            have hsu := HVt.out.dev.ok.sure
            refine (open_any sec rfl HB.out.tab ⟨b5, by omega⟩ HDC.out).mono ?_
            rintro e w' ⟨vc, r, S', v', hto, he, _, hv, hf, _⟩
            obtain ⟨g1, g2, g3, g4, g5, Y, g6, g7⟩ := cc_open HCt.out b5 b3 hsu nk ks ns sl (show OpenIs (kbOf sec) (ktOf sec) (St.D.crashed nk ks ns sl) St.c r S' from hto)
            subst g1
            rcases he with ⟨_, rfl⟩ | ⟨h0, _⟩
            · refine ⟨vc, S', v', Y, rfl, hv, by rw [g5.ok.cnt]; omega, g5, by rw [g2]; have := crash_tot hsu nk ks ns sl; omega, g6, g7, ⟨hf.os, hf.tape, hf.output, hf.size, fun k hk hs => hf.block k hk (fun q => by
                rcases q with q | q | q
                · exact hs (Or.inl q)
                · exact hs (Or.inr q)
                · simp [Value.ownBlock] at q)⟩⟩
            · exact absurd rfl h0
          clear hdc hfc hFc HVt HLt
          go_wp2_with fail
          refine HOP.out.mono ?_
          rintro e wo ⟨vc, So, vo, Y, rfl, hvo, hco, hgo, hto, hPY, hYo, hfo⟩
          have HVo : Hid (Vol w4 wo vc db cb kb kt So vo) := hvo
          have HGo : Hid (Good kb kt So (St.c + 1) ∧ tot So.D ≤ 112 ∧ St.c < 3000) := ⟨hgo, hto, HBt.out.2.2.2.1⟩
          have HYo : Hid (P Y ∧ ∀ i, i < 24 → So.X i = Y i) := ⟨hPY, hYo⟩
          have HLo : Hid (Lists wo N K mt xst Xt) := ⟨ownFs HLc.out.had hfo (fun j hj q => by have := (HLc.out.had.lt j hj).1; have := HN.out; omega), fun k hk => ownFs (HLc.out.row k hk) hfo (fun j hj q => by have := ((HLc.out.row k hk).lt j hj).1; have := HN.out; omega)⟩
          have hdc0 : decide (So.T.count < c0) = false := decide_eq_false (by omega)
          have HCN : Hid (Calls Tryz.prog 20 #[.pointer (some ⟨vc, 0, none⟩)] wo fun e w' => e = .returned (.int .i64 So.T.count) ∧ w' = wo) := count_any HVo.out
          clear hvo hco hgo hto hPY hYo hfo HOP HDC HLc
          go_wp2_with fail
          refine HCN.out.mono ?_
          rintro e wo' ⟨rfl, rfl⟩
          go_wp2_with fail
          refine (all_any HVo.out).mono ?_
          rintro e wa ⟨za, rfl, hza, hsa⟩
          obtain ⟨zb, zn, zc, rfl, rfl⟩ := own_slice hza
          have HZA : Hid (wa.ownsRow N 9 1 (.slice zb 24 zc) 24 (texts So.X 24)) := ownsRow_base hza (by
            rcases HLo.out.had.2 with ⟨_, h0⟩ | ⟨g, c, u, _, h1, h2, _⟩
            · have := HKt.out.1; omega
            · have := (Array.getElem?_eq_some_iff.1 h2).1; omega)
          have HVa : Hid (Vol w4 wa vc db cb kb kt So vo) := HVo.out.go hsa
          have HLa : Hid (Lists wa N K mt xst Xt) := HLo.out.since hsa
          clear hza hsa HVo HLo
          have f3 : (wa.alloc (.cells #[.slice zb 24 zc] 23)).cell? ⟨wa.heap.size, 0, none⟩ = some (.slice zb 24 zc) := by simp
          have HSb : Hid (Since wa (wa.alloc (.cells #[.slice zb 24 zc] 23))) := (Since.refl wa).alloc _
          go_wp2_with fail
          have HVb : Hid (Vol w4 (wa.alloc (.cells #[.slice zb 24 zc] 23)) vc db cb kb kt So vo) := HVa.out.go HSb.out
          have HLb : Hid (Lists (wa.alloc (.cells #[.slice zb 24 zc] 23)) N K mt xst Xt) := HLa.out.since HSb.out
          have HZb : Hid ((wa.alloc (.cells #[.slice zb 24 zc] 23)).ownsRow N 9 1 (.slice zb 24 zc) 24 (texts So.X 24)) := ownsRow_since HZA.out HSb.out
          have HFb : Hid ((wa.alloc (.cells #[.slice zb 24 zc] 23)).cell? ⟨wa.heap.size, 0, none⟩ = some (.slice zb 24 zc)) := f3
          generalize wa.alloc (.cells #[.slice zb 24 zc] 23) = wz at *
          generalize wa.heap.size = bx at *
          obtain ⟨ma, mc, hme, _⟩ := own_slice2 HLb.out.had
          subst hme
          have HHIT : Hid (∃ k, k < K ∧ ∀ i, i < 24 → Xt k i = So.X i) := by
            obtain ⟨h1, h2⟩ := HYo.out
            obtain ⟨k, hk, he⟩ := HPt.out Y h1
            exact ⟨k, hk, fun i hi => by rw [he i hi, h2 i hi]⟩
          have HN0 : Hid (0 < N) := (by have := HN.out.1; omega : 0 < N)
          clear HVa HLa HZA HSb
          obtain ⟨a2, c2, he2, hcc2⟩ := Sl.of_own (b := 0) (f := xst) HLb.out.had HN0.out (fun j hj => by simp [hj])
          injection he2 with e1 _ e3
          subst e1 e3
          obtain ⟨mk1, mo1, rfl, _, hmcell⟩ := hcc2 HKt.out.1
          have hmq := hmcell K1 (by have := HK1.out; have := HKt.out.1; omega)
          have HRW : Hid (wz.ownsRow N 9 1 (xst K1) 24 (texts (Xt K1) 24)) := HLb.out.row K1 (by have := HK1.out; have := HKt.out.1; omega)
          obtain ⟨pa, pc, hpe, _⟩ := own_slice2 HRW.out
          have HRX : Hid (wz.ownsRow N 9 1 (.slice pa 24 pc) 24 (texts (Xt K1) 24)) := by
            show wz.ownsRow _ _ _ _ _ _
            rw [← hpe]; exact HRW.out
          rw [hpe] at hmq
          have HEQ : Hid (∀ i, i < 24 → So.X i = Xt K1 i) := fun i hi => by
            obtain ⟨h1, h2⟩ := HYo.out
            rw [h2 i hi, HPl.out Y h1 i hi]
          have hK2 : (K : Int) - 1 = (K1 : Int) := by have := HK1.out; have := HKt.out.1; omega
          have hK3 : wrap64 (K1 : Int) = (K1 : Int) := by have h1 := HK1.out; have h2 := HKt.out.2; unfold wrap64; omega
          have hK4 : (K1 : Int) < (K : Int) := by have := HK1.out; have := HKt.out.1; omega
          clear hcc2 hmcell hpe HRW
          go_quiet ((first
            | (go_at_call 21; exact Calls.quiet_of (CFss_any bx (.slice zb 24 zc) _ xst Xt So.X _ HN0.out HN0.out HKt.out.2 (HLb.out.since ((Since.refl _).drewN _)) (ownsRow_since HZb.out ((Since.refl _).drewN _)) ((((Since.refl _).drewN _).cell (p := ⟨bx, 0, none⟩) (World.block_lt_of_cell? _ _ HFb.out)).trans HFb.out) HHIT.out))
            | (go_at_call 23; exact Calls.quiet_of (eq_quiet 0 24 _ _ So.X (Xt K1) _ (Sl.of_own (ownsRow_since HZb.out ((Since.refl _).drewN _)) HN0.out (fun j hj => brow_get 24 _ j hj)) (Sl.of_own (ownsRow_since HRX.out ((Since.refl _).drewN _)) HN0.out (fun j hj => brow_get 24 _ j hj)) HEQ.out (by omega)))))
          have HZW : Hid (∀ W, Since wz W → Calls Tryz.prog 15 #[.pointer (some ⟨vc, 0, none⟩), .int .i64 0, .string ⟨#[122]⟩] W fun e w' => e = .returned .nilIface ∧ ∃ S2 v2, Vol w4 w' vc db cb kb kt S2 v2 ∧ Good kb kt S2 (St.c + 1 + 1)) := fun W hW => by
            obtain ⟨g1, g2, g3⟩ := HGo.out
            obtain ⟨r1, r2⟩ := write_room g1 (by omega) g2 0 (by omega) ⟨#[122]⟩ (by decide)
            refine (write_any HB.out (St.c + 1) g1.ok (by omega) ((0 : Nat) : Int) ⟨#[122]⟩ (HVb.out.go hW)).mono ?_
            rintro e w' ⟨rfl, v2, hv2, _, _⟩
            rw [r1]
            exact ⟨rfl, _, v2, hv2, r2⟩
          clear f3
          go_wp2_with fail
          refine (HZW.out _ ((Since.refl wz).drewN _)).mono ?_
          rintro e we ⟨rfl, S2, v2, hv2, hg2⟩
          have HV2 : Hid (Vol w4 we vc db cb kb kt S2 v2) := hv2
          have HG2 : Hid (Good kb kt S2 (St.c + 1 + 1) ∧ St.c < 3000) := ⟨hg2, HGo.out.2.2⟩
          clear hv2 hg2
          go_wp2_with fail
          refine (flushG HB.out HG2.out.1 (by have := HG2.out.2; omega) HV2.out).mono ?_
          rintro e wf ⟨rfl, v3, hv3, _, _⟩
          go_wp2_with fail
          go_ret
          exact ⟨rfl, HSW4.out.trans hv3.since⟩
        · have HVt : Hid (Vol w4 wt vb db cb kb kt St vt) := hvt
          have HLt : Hid (Lists wt N (j + 1 + 1) x' (upd xs (j + 1) (.slice ya 24 yc)) (upd X (j + 1) S1.X)) := hlt'
          have HDt : Hid (St.dead = true) := hdt
          have HCt : Hid (CC kb kt St.D St.c (In (upd X (j + 1) S1.X) (j + 1 + 1))) := hct
          have HBt : Hid (c0 ≤ St.c ∧ tot St.D ≤ 112 ∧ c16 St.D ∧ St.c < 3000 ∧ 0 ≤ St.c) := hbt
          have HPt : Hid (∀ Z, In (upd X (j + 1) S1.X) (j + 1 + 1) Z → ∃ k, k < j + 1 + 1 ∧ ∀ i, i < 24 → upd X (j + 1) S1.X k i = Z i) := HPt1.out
          clear hvt hlt' hct hbt hdt HPl0 HPt0 HPt1 HFl HK1
          generalize In (upd X (j + 1) S1.X) (j + 1 + 1) = P at *
          generalize upd X (j + 1) S1.X = Xt at *
          generalize upd xs (j + 1) (.slice ya 24 yc) = xst at *
          generalize x' = mt at *
          generalize j + 1 + 1 = K at *
          go_wp2_with fail
          refine (tell_hit 14 _ (HE.out.since (HSW4.out.trans HVt.out.since))).mono ?_
          rintro e wt1 ⟨rfl, hst1⟩
          have HVu : Hid (Vol w4 wt1 vb db cb kb kt St vt) := HVt.out.go hst1
          have HLu : Hid (Lists wt1 N K mt xst Xt) := HLt.out.since hst1
          clear hst1 HVt HLt
          have HFD : Hid (Calls Tryz.prog 16 #[.pointer (some ⟨vb, 0, none⟩)] wt1 fun e w' => e = .returned (.iface 45 (.int .i64 6)) ∧ w' = wt1) := flush_dead HVu.out HDt.out
          go_wp2_with fail
          refine HFD.out.mono ?_
          rintro e wt2 ⟨rfl, rfl⟩
          go_wp2_with fail
          refine (tell_hit 6 _ (HE.out.since (HSW4.out.trans HVu.out.since))).mono ?_
          rintro e wt ⟨rfl, hst1⟩
          have HVt : Hid (Vol w4 wt vb db cb kb kt St vt) := HVu.out.go hst1
          have HLt : Hid (Lists wt N K mt xst Xt) := HLu.out.since hst1
          clear hst1 HVu HLu
          go_wp2_with fail
          refine (crash_any St.D vt db nk ns _ _ ks sl wt HVt.out.dev (HKK.out.sl (HSW4.out.trans HVt.out.since) (by have h1 := HVt.out.lo.2.1; have h2 := HSW4.out.size; omega)) (HSS0.out.sl (HSW4.out.trans HVt.out.since) (by have h1 := HVt.out.lo.2.1; have h2 := HSW4.out.size; omega))).mono ?_
          rintro e wc ⟨rfl, hdc, hfc⟩
          have HDC : Hid (DC w4 wc db cb (St.D.crashed nk ks ns sl) St.c (.slice none 0 0)) := HVt.out.dc.turn hdc hfc rfl
          have hFc : Fs (fun k => k = db) wt wc := Fs.of_fr hfc rfl (fun k h => by cases h)
          have HLc : Hid (Lists wc N K mt xst Xt) := ⟨ownFs HLt.out.had hFc (fun j hj q => by have := (HLt.out.had.lt j hj).1; have := HN.out.2.1; omega), fun k hk => ownFs (HLt.out.row k hk) hFc (fun j hj q => by have := ((HLt.out.row k hk).lt j hj).1; have := HN.out.2.1; omega)⟩
          have HOP : Hid (Calls Tryz.prog 19 #[.pointer (some ⟨db, 0, none⟩), .pointer (some ⟨cb, 0, none⟩), .string ⟨#[48, 49, 50, 51, 52, 53, 54, 55, 56, 57, 97, 98, 99, 100, 101, 102]⟩] wc fun e w' => ∃ vc S' v' Y, e = .returned (.tuple #[.pointer (some ⟨vc, 0, none⟩), .nilIface]) ∧ Vol w4 w' vc db cb kb kt S' v' ∧ c0 ≤ S'.T.count ∧ Good kb kt S' (St.c + 1) ∧ tot S'.D ≤ 112 ∧ P Y ∧ (∀ i, i < 24 → S'.X i = Y i) ∧ Fs (fun k => k = db ∨ k = cb) wc w') := by
            obtain ⟨e1, e2⟩ := HK.out
            subst e1 e2
            obtain ⟨b1, b2, b3, b4, b5⟩ := HBt.out
            have hsu := HVt.out.dev.ok.sure
            refine (open_any sec rfl HB.out.tab ⟨b5, by omega⟩ HDC.out).mono ?_
            rintro e w' ⟨vc, r, S', v', hto, he, _, hv, hf, _⟩
            obtain ⟨g1, g2, g3, g4, g5, Y, g6, g7⟩ := cc_open HCt.out b5 b3 hsu nk ks ns sl (show OpenIs (kbOf sec) (ktOf sec) (St.D.crashed nk ks ns sl) St.c r S' from hto)
            subst g1
            rcases he with ⟨_, rfl⟩ | ⟨h0, _⟩
            · refine ⟨vc, S', v', Y, rfl, hv, by rw [g5.ok.cnt]; omega, g5, by rw [g2]; have := crash_tot hsu nk ks ns sl; omega, g6, g7, ⟨hf.os, hf.tape, hf.output, hf.size, fun k hk hs => hf.block k hk (fun q => by
                rcases q with q | q | q
                · exact hs (Or.inl q)
                · exact hs (Or.inr q)
                · simp [Value.ownBlock] at q)⟩⟩
            · exact absurd rfl h0
          clear hdc hfc hFc HVt HLt
          go_wp2_with fail
          refine HOP.out.mono ?_
          rintro e wo ⟨vc, So, vo, Y, rfl, hvo, hco, hgo, hto, hPY, hYo, hfo⟩
          have HVo : Hid (Vol w4 wo vc db cb kb kt So vo) := hvo
          have HGo : Hid (Good kb kt So (St.c + 1) ∧ tot So.D ≤ 112 ∧ St.c < 3000) := ⟨hgo, hto, HBt.out.2.2.2.1⟩
          have HYo : Hid (P Y ∧ ∀ i, i < 24 → So.X i = Y i) := ⟨hPY, hYo⟩
          have HLo : Hid (Lists wo N K mt xst Xt) := ⟨ownFs HLc.out.had hfo (fun j hj q => by have := (HLc.out.had.lt j hj).1; have := HN.out; omega), fun k hk => ownFs (HLc.out.row k hk) hfo (fun j hj q => by have := ((HLc.out.row k hk).lt j hj).1; have := HN.out; omega)⟩
          have hdc0 : decide (So.T.count < c0) = false := decide_eq_false (by omega)
          have HCN : Hid (Calls Tryz.prog 20 #[.pointer (some ⟨vc, 0, none⟩)] wo fun e w' => e = .returned (.int .i64 So.T.count) ∧ w' = wo) := count_any HVo.out
          clear hvo hco hgo hto hPY hYo hfo HOP HDC HLc
          go_wp2_with fail
          refine HCN.out.mono ?_
          rintro e wo' ⟨rfl, rfl⟩
          go_wp2_with fail
          refine (all_any HVo.out).mono ?_
          rintro e wa ⟨za, rfl, hza, hsa⟩
          obtain ⟨zb, zn, zc, rfl, rfl⟩ := own_slice hza
          have HZA : Hid (wa.ownsRow N 9 1 (.slice zb 24 zc) 24 (texts So.X 24)) := ownsRow_base hza (by
            rcases HLo.out.had.2 with ⟨_, h0⟩ | ⟨g, c, u, _, h1, h2, _⟩
            · have := HKt.out.1; omega
            · have := (Array.getElem?_eq_some_iff.1 h2).1; omega)
          have HVa : Hid (Vol w4 wa vc db cb kb kt So vo) := HVo.out.go hsa
          have HLa : Hid (Lists wa N K mt xst Xt) := HLo.out.since hsa
          clear hza hsa HVo HLo
          have f3 : (wa.alloc (.cells #[.slice zb 24 zc] 23)).cell? ⟨wa.heap.size, 0, none⟩ = some (.slice zb 24 zc) := by simp
          have HSb : Hid (Since wa (wa.alloc (.cells #[.slice zb 24 zc] 23))) := (Since.refl wa).alloc _
          go_wp2_with fail
          have HVb : Hid (Vol w4 (wa.alloc (.cells #[.slice zb 24 zc] 23)) vc db cb kb kt So vo) := HVa.out.go HSb.out
          have HLb : Hid (Lists (wa.alloc (.cells #[.slice zb 24 zc] 23)) N K mt xst Xt) := HLa.out.since HSb.out
          have HZb : Hid ((wa.alloc (.cells #[.slice zb 24 zc] 23)).ownsRow N 9 1 (.slice zb 24 zc) 24 (texts So.X 24)) := ownsRow_since HZA.out HSb.out
          have HFb : Hid ((wa.alloc (.cells #[.slice zb 24 zc] 23)).cell? ⟨wa.heap.size, 0, none⟩ = some (.slice zb 24 zc)) := f3
          generalize wa.alloc (.cells #[.slice zb 24 zc] 23) = wz at *
          generalize wa.heap.size = bx at *
          obtain ⟨ma, mc, hme, _⟩ := own_slice2 HLb.out.had
          subst hme
          have HHIT : Hid (∃ k, k < K ∧ ∀ i, i < 24 → Xt k i = So.X i) := by
            obtain ⟨h1, h2⟩ := HYo.out
            obtain ⟨k, hk, he⟩ := HPt.out Y h1
            exact ⟨k, hk, fun i hi => by rw [he i hi, h2 i hi]⟩
          have HN0 : Hid (0 < N) := (by have := HN.out.1; omega : 0 < N)
          clear HVa HLa HZA HSb
          go_quiet ((go_at_call 21; exact Calls.quiet_of (CFss_any bx (.slice zb 24 zc) _ xst Xt So.X _ HN0.out HN0.out HKt.out.2 (HLb.out.since ((Since.refl _).drewN _)) (ownsRow_since HZb.out ((Since.refl _).drewN _)) ((((Since.refl _).drewN _).cell (p := ⟨bx, 0, none⟩) (World.block_lt_of_cell? _ _ HFb.out)).trans HFb.out) HHIT.out)))
          have HZW : Hid (∀ W, Since wz W → Calls Tryz.prog 15 #[.pointer (some ⟨vc, 0, none⟩), .int .i64 0, .string ⟨#[122]⟩] W fun e w' => e = .returned .nilIface ∧ ∃ S2 v2, Vol w4 w' vc db cb kb kt S2 v2 ∧ Good kb kt S2 (St.c + 1 + 1)) := fun W hW => by
            obtain ⟨g1, g2, g3⟩ := HGo.out
            obtain ⟨r1, r2⟩ := write_room g1 (by omega) g2 0 (by omega) ⟨#[122]⟩ (by decide)
            refine (write_any HB.out (St.c + 1) g1.ok (by omega) ((0 : Nat) : Int) ⟨#[122]⟩ (HVb.out.go hW)).mono ?_
            rintro e w' ⟨rfl, v2, hv2, _, _⟩
            rw [r1]
            exact ⟨rfl, _, v2, hv2, r2⟩
          clear f3
          go_wp2_with fail
          refine (HZW.out _ ((Since.refl wz).drewN _)).mono ?_
          rintro e we ⟨rfl, S2, v2, hv2, hg2⟩
          have HV2 : Hid (Vol w4 we vc db cb kb kt S2 v2) := hv2
          have HG2 : Hid (Good kb kt S2 (St.c + 1 + 1) ∧ St.c < 3000) := ⟨hg2, HGo.out.2.2⟩
          clear hv2 hg2
          go_wp2_with fail
          refine (flushG HB.out HG2.out.1 (by have := HG2.out.2; omega) HV2.out).mono ?_
          rintro e wf ⟨rfl, v3, hv3, _, _⟩
          go_wp2_with fail
          go_ret
          exact ⟨rfl, HSW4.out.trans hv3.since⟩
    · have HD1 : Hid (S1.dead = true ∧ CC kb kt S1.D S1.c (In X (j + 1)) ∧ c0 ≤ S1.c ∧ tot S1.D ≤ 112 ∧ c16 S1.D ∧ S1.ok (1000 + j)) := ⟨hdead, hcc, hc1, h112, h16, hok⟩
      clear hdead hcc hc1 h112 h16 hok
      rcases Nat.lt_or_ge j m.tx.length with hjl | hjl
      all_goals
        go_wp2_with fail
        refine (all_any HV1.out).mono ?_
        rintro e wC ⟨x1, rfl, hx1, hsC⟩
        obtain ⟨ya, yn, yc, rfl, rfl⟩ := own_slice hx1
        have HXC : Hid ((wC.alloc (.cells #[.slice ya 24 yc] 23)).ownsRow N 9 1 (.slice ya 24 yc) 24 (texts S1.X 24)) := ownsRow_since (ownsRow_base hx1 HN1.out) ((Since.refl wC).alloc _)
        have HLC : Hid (Lists (wC.alloc (.cells #[.slice ya 24 yc] 23)) N (j + 1) u17 xs X) := HL1.out.since (hsC.alloc _)
        have HVC : Hid (Vol w4 (wC.alloc (.cells #[.slice ya 24 yc] 23)) vb db cb kb kt S1 v1) := HV1.out.go (hsC.alloc _)
        have hNC : N ≤ (wC.alloc (.cells #[.slice ya 24 yc] 23)).heap.size := by have h1 := HN1.out; have h2 := hsC.size; simp; omega
        clear hx1 hsC p0 p1
        go_wp2_with (at_builtin; refine wpList_append_own _ (by rfl) _ _ _ (by rfl) N 23 iJ _ 1 24 Tryz.underlying33 HJ.out.1 HJ.out.2.1 HJ.out.2.2.1 HJ.out.2.2.2 (by rfl) (by decide) _ (j + 1) ((List.range (j + 1)).map xs) (by rfl) HLC.out.had ⟨wC.heap.size, 0, none⟩ 1 1 [.slice ya 24 yc] (by rfl) (by rfl) (World.news_of_block (heap_alloc_new wC _)) (by simp [Value.oneCell']) (by unfold maxLen; omega) (by omega) hNC ?_; intro x' w3 hown1 hgrow _)
        have HVD : Hid (Vol w4 w3 vb db cb kb kt S1 v1) := HVC.out.grown HN.out (by have h1 := HVC.out.lo.1; have h2 := HN.out.1; omega) HLC.out.had (by decide) hgrow
        have HLD : Hid (Lists w3 N (j + 1 + 1) x' (upd xs (j + 1) (.slice ya 24 yc)) (upd X (j + 1) S1.X)) := by
          refine ⟨by rw [map_upd]; exact hown1, fun k hk => ?_⟩
          by_cases e : k = j + 1
          · subst e
            rw [upd_at, upd_at]
            exact own_grown HXC.out HLC.out.had (by decide) hgrow
          · rw [upd_ne _ _ _ e, upd_ne _ _ _ e]
            exact own_grown (HLC.out.row k (by omega)) HLC.out.had (by decide) hgrow
        clear hown1 hgrow hNC HXC HLC HVC
        have HDt : Hid (S1.dead = true) := HD1.out.1
        have HCt : Hid (CC kb kt S1.D S1.c (In (upd X (j + 1) S1.X) (j + 1 + 1))) := HD1.out.2.1.mono (fun Z h => h.push)
        have HPt : Hid (∀ Z, In (upd X (j + 1) S1.X) (j + 1 + 1) Z → ∃ k, k < j + 1 + 1 ∧ ∀ i, i < 24 → upd X (j + 1) S1.X k i = Z i) := fun Z h => h
        have HBt : Hid (c0 ≤ S1.c ∧ tot S1.D ≤ 112 ∧ c16 S1.D ∧ S1.c < 3000 ∧ 0 ≤ S1.c) := by
          obtain ⟨_, _, b1, b2, b3, b4⟩ := HD1.out
          exact ⟨b1, b2, b3, by have := b4.cn; omega, b4.c0⟩
        have HKt : Hid (0 < j + 1 + 1 ∧ j + 1 + 1 ≤ 1000) := ⟨by omega, by omega⟩
        generalize In (upd X (j + 1) S1.X) (j + 1 + 1) = P at *
        generalize upd X (j + 1) S1.X = Xt at *
        generalize upd xs (j + 1) (.slice ya 24 yc) = xst at *
        generalize x' = mt at *
        generalize j + 1 + 1 = K at *
        generalize S1 = St at *
        generalize v1 = vt at *
        generalize w3 = wt at *
        have HVt : Hid (Vol w4 wt vb db cb kb kt St vt) := HVD.out
        have HLt : Hid (Lists wt N K mt xst Xt) := HLD.out
        clear HVD HLD HD1
        go_wp2_with fail
        refine (tell_hit 14 _ (HE.out.since (HSW4.out.trans HVt.out.since))).mono ?_
        rintro e wt1 ⟨rfl, hst1⟩
        have HVu : Hid (Vol w4 wt1 vb db cb kb kt St vt) := HVt.out.go hst1
        have HLu : Hid (Lists wt1 N K mt xst Xt) := HLt.out.since hst1
        clear hst1 HVt HLt
        have HFD : Hid (Calls Tryz.prog 16 #[.pointer (some ⟨vb, 0, none⟩)] wt1 fun e w' => e = .returned (.iface 45 (.int .i64 6)) ∧ w' = wt1) := flush_dead HVu.out HDt.out
        go_wp2_with fail
        refine HFD.out.mono ?_
        rintro e wt2 ⟨rfl, rfl⟩
        go_wp2_with fail
        refine (tell_hit 6 _ (HE.out.since (HSW4.out.trans HVu.out.since))).mono ?_
        rintro e wt ⟨rfl, hst1⟩
        have HVt : Hid (Vol w4 wt vb db cb kb kt St vt) := HVu.out.go hst1
        have HLt : Hid (Lists wt N K mt xst Xt) := HLu.out.since hst1
        clear hst1 HVu HLu
        go_wp2_with fail
        refine (crash_any St.D vt db nk ns _ _ ks sl wt HVt.out.dev (HKK.out.sl (HSW4.out.trans HVt.out.since) (by have h1 := HVt.out.lo.2.1; have h2 := HSW4.out.size; omega)) (HSS0.out.sl (HSW4.out.trans HVt.out.since) (by have h1 := HVt.out.lo.2.1; have h2 := HSW4.out.size; omega))).mono ?_
        rintro e wc ⟨rfl, hdc, hfc⟩
        have HDC : Hid (DC w4 wc db cb (St.D.crashed nk ks ns sl) St.c (.slice none 0 0)) := HVt.out.dc.turn hdc hfc rfl
        have hFc : Fs (fun k => k = db) wt wc := Fs.of_fr hfc rfl (fun k h => by cases h)
        have HLc : Hid (Lists wc N K mt xst Xt) := ⟨ownFs HLt.out.had hFc (fun j hj q => by have := (HLt.out.had.lt j hj).1; have := HN.out.2.1; omega), fun k hk => ownFs (HLt.out.row k hk) hFc (fun j hj q => by have := ((HLt.out.row k hk).lt j hj).1; have := HN.out.2.1; omega)⟩
        have HOP : Hid (Calls Tryz.prog 19 #[.pointer (some ⟨db, 0, none⟩), .pointer (some ⟨cb, 0, none⟩), .string ⟨#[48, 49, 50, 51, 52, 53, 54, 55, 56, 57, 97, 98, 99, 100, 101, 102]⟩] wc fun e w' => ∃ vc S' v' Y, e = .returned (.tuple #[.pointer (some ⟨vc, 0, none⟩), .nilIface]) ∧ Vol w4 w' vc db cb kb kt S' v' ∧ c0 ≤ S'.T.count ∧ Good kb kt S' (St.c + 1) ∧ tot S'.D ≤ 112 ∧ P Y ∧ (∀ i, i < 24 → S'.X i = Y i) ∧ Fs (fun k => k = db ∨ k = cb) wc w') := by
          obtain ⟨e1, e2⟩ := HK.out
          subst e1 e2
          obtain ⟨b1, b2, b3, b4, b5⟩ := HBt.out
          have hsu := HVt.out.dev.ok.sure
          refine (open_any sec rfl HB.out.tab ⟨b5, by omega⟩ HDC.out).mono ?_
          rintro e w' ⟨vc, r, S', v', hto, he, _, hv, hf, _⟩
          obtain ⟨g1, g2, g3, g4, g5, Y, g6, g7⟩ := cc_open HCt.out b5 b3 hsu nk ks ns sl (show OpenIs (kbOf sec) (ktOf sec) (St.D.crashed nk ks ns sl) St.c r S' from hto)
          subst g1
          rcases he with ⟨_, rfl⟩ | ⟨h0, _⟩
          · refine ⟨vc, S', v', Y, rfl, hv, by rw [g5.ok.cnt]; omega, g5, by rw [g2]; have := crash_tot hsu nk ks ns sl; omega, g6, g7, ⟨hf.os, hf.tape, hf.output, hf.size, fun k hk hs => hf.block k hk (fun q => by
              rcases q with q | q | q
              · exact hs (Or.inl q)
              · exact hs (Or.inr q)
              · simp [Value.ownBlock] at q)⟩⟩
          · exact absurd rfl h0
        clear hdc hfc hFc HVt HLt
        go_wp2_with fail
        refine HOP.out.mono ?_
        rintro e wo ⟨vc, So, vo, Y, rfl, hvo, hco, hgo, hto, hPY, hYo, hfo⟩
        have HVo : Hid (Vol w4 wo vc db cb kb kt So vo) := hvo
        have HGo : Hid (Good kb kt So (St.c + 1) ∧ tot So.D ≤ 112 ∧ St.c < 3000) := ⟨hgo, hto, HBt.out.2.2.2.1⟩
        have HYo : Hid (P Y ∧ ∀ i, i < 24 → So.X i = Y i) := ⟨hPY, hYo⟩
        have HLo : Hid (Lists wo N K mt xst Xt) := ⟨ownFs HLc.out.had hfo (fun j hj q => by have := (HLc.out.had.lt j hj).1; have := HN.out; omega), fun k hk => ownFs (HLc.out.row k hk) hfo (fun j hj q => by have := ((HLc.out.row k hk).lt j hj).1; have := HN.out; omega)⟩
        have hdc0 : decide (So.T.count < c0) = false := decide_eq_false (by omega)
        have HCN : Hid (Calls Tryz.prog 20 #[.pointer (some ⟨vc, 0, none⟩)] wo fun e w' => e = .returned (.int .i64 So.T.count) ∧ w' = wo) := count_any HVo.out
        clear hvo hco hgo hto hPY hYo hfo HOP HDC HLc
        go_wp2_with fail
        refine HCN.out.mono ?_
        rintro e wo' ⟨rfl, rfl⟩
        go_wp2_with fail
        refine (all_any HVo.out).mono ?_
        rintro e wa ⟨za, rfl, hza, hsa⟩
        obtain ⟨zb, zn, zc, rfl, rfl⟩ := own_slice hza
        have HZA : Hid (wa.ownsRow N 9 1 (.slice zb 24 zc) 24 (texts So.X 24)) := ownsRow_base hza (by
          rcases HLo.out.had.2 with ⟨_, h0⟩ | ⟨g, c, u, _, h1, h2, _⟩
          · have := HKt.out.1; omega
          · have := (Array.getElem?_eq_some_iff.1 h2).1; omega)
        have HVa : Hid (Vol w4 wa vc db cb kb kt So vo) := HVo.out.go hsa
        have HLa : Hid (Lists wa N K mt xst Xt) := HLo.out.since hsa
        clear hza hsa HVo HLo
        have f3 : (wa.alloc (.cells #[.slice zb 24 zc] 23)).cell? ⟨wa.heap.size, 0, none⟩ = some (.slice zb 24 zc) := by simp
        have HSb : Hid (Since wa (wa.alloc (.cells #[.slice zb 24 zc] 23))) := (Since.refl wa).alloc _
        go_wp2_with fail
        have HVb : Hid (Vol w4 (wa.alloc (.cells #[.slice zb 24 zc] 23)) vc db cb kb kt So vo) := HVa.out.go HSb.out
        have HLb : Hid (Lists (wa.alloc (.cells #[.slice zb 24 zc] 23)) N K mt xst Xt) := HLa.out.since HSb.out
        have HZb : Hid ((wa.alloc (.cells #[.slice zb 24 zc] 23)).ownsRow N 9 1 (.slice zb 24 zc) 24 (texts So.X 24)) := ownsRow_since HZA.out HSb.out
        have HFb : Hid ((wa.alloc (.cells #[.slice zb 24 zc] 23)).cell? ⟨wa.heap.size, 0, none⟩ = some (.slice zb 24 zc)) := f3
        generalize wa.alloc (.cells #[.slice zb 24 zc] 23) = wz at *
        generalize wa.heap.size = bx at *
        obtain ⟨ma, mc, hme, _⟩ := own_slice2 HLb.out.had
        subst hme
        have HHIT : Hid (∃ k, k < K ∧ ∀ i, i < 24 → Xt k i = So.X i) := by
          obtain ⟨h1, h2⟩ := HYo.out
          obtain ⟨k, hk, he⟩ := HPt.out Y h1
          exact ⟨k, hk, fun i hi => by rw [he i hi, h2 i hi]⟩
        have HN0 : Hid (0 < N) := (by have := HN.out.1; omega : 0 < N)
        clear HVa HLa HZA HSb
        go_quiet ((go_at_call 21; exact Calls.quiet_of (CFss_any bx (.slice zb 24 zc) _ xst Xt So.X _ HN0.out HN0.out HKt.out.2 (HLb.out.since ((Since.refl _).drewN _)) (ownsRow_since HZb.out ((Since.refl _).drewN _)) ((((Since.refl _).drewN _).cell (p := ⟨bx, 0, none⟩) (World.block_lt_of_cell? _ _ HFb.out)).trans HFb.out) HHIT.out)))
        have HZW : Hid (∀ W, Since wz W → Calls Tryz.prog 15 #[.pointer (some ⟨vc, 0, none⟩), .int .i64 0, .string ⟨#[122]⟩] W fun e w' => e = .returned .nilIface ∧ ∃ S2 v2, Vol w4 w' vc db cb kb kt S2 v2 ∧ Good kb kt S2 (St.c + 1 + 1)) := fun W hW => by
          obtain ⟨g1, g2, g3⟩ := HGo.out
          obtain ⟨r1, r2⟩ := write_room g1 (by omega) g2 0 (by omega) ⟨#[122]⟩ (by decide)
          refine (write_any HB.out (St.c + 1) g1.ok (by omega) ((0 : Nat) : Int) ⟨#[122]⟩ (HVb.out.go hW)).mono ?_
          rintro e w' ⟨rfl, v2, hv2, _, _⟩
          rw [r1]
          exact ⟨rfl, _, v2, hv2, r2⟩
        clear f3
        go_wp2_with fail
        refine (HZW.out _ ((Since.refl wz).drewN _)).mono ?_
        rintro e we ⟨rfl, S2, v2, hv2, hg2⟩
        have HV2 : Hid (Vol w4 we vc db cb kb kt S2 v2) := hv2
        have HG2 : Hid (Good kb kt S2 (St.c + 1 + 1) ∧ St.c < 3000) := ⟨hg2, HGo.out.2.2⟩
        clear hv2 hg2
        go_wp2_with fail
        refine (flushG HB.out HG2.out.1 (by have := HG2.out.2; omega) HV2.out).mono ?_
        rintro e wf ⟨rfl, v3, hv3, _, _⟩
        go_wp2_with fail
        go_ret
        exact ⟨rfl, HSW4.out.trans hv3.since⟩
end Vl
end Go.Proofs.YtifnhnfjelfddaaGreatDoor
