/- The law SpaceFinds walked, over what package space's functions are asked for. -/
import Derived.Test.YtegileohambjbaaV2
import Derived.Test.YtegileohambjbaaV4
import Derived.BigFrame
namespace Go.Proofs.Ytegileohambjbaa
set_option linter.unusedSimpArgs false
set_option linter.unusedVariables false
set_option maxRecDepth 100000
namespace Sp
open Go.RowKit
open Tw (Tb tcell tval ccell tab_cel tab_cells tab_all idx_cell ln73)

def FreeOk : Prop := ∀ (v : Value) (n b : Nat) (f : Nat → Int) (w : World), Ls w b v n f → n ≤ 1000 → Calls Try.prog 8 #[v] w fun e w' => e = .returned (.int .i64 (freeTo f n)) ∧ Since w w'
def OpenOk : Prop := ∀ (v : Value) (n b : Nat) (f : Nat → Int) (but : Int) (w : World), Ls w b v n f → n ≤ 1000 → Calls Try.prog 7 #[v, .int .i64 but] w fun e w' => (∃ z ok, e = .returned (.tuple #[.int .i64 z, .bool ok]) ∧ IsRoom n f but z ok) ∧ Since w w'
def VicOk : Prop := ∀ (v u : Value) (n m b : Nat) (f g : Nat → Int) (w : World), Ls w b v n f → Ls w b u m g → n ≤ 1000 → m ≤ 1000 → Calls Try.prog 11 #[v, u] w fun e w' => (∃ z ok, e = .returned (.tuple #[.int .i64 z, .bool ok]) ∧ IsVic n m f g z ok) ∧ Since w w'
def liveF (T : Tb) (z : Nat) : Int := ((inI T (z : Int) 24).length : Int)
def inF (T : Tb) (z : Int) (j : Nat) : Int := (((inI T z 24).getD j 0 : Nat) : Int)
def LiveOk : Prop := ∀ (T : Tb) (w : World), Calls Try.prog 13 #[.agg (brow 73 (tcell T)).toArray] w fun e w' => ∃ x, e = .returned x ∧ Ls w' w'.heap.size x 8 (liveF T) ∧ Since w w'
def InOk : Prop := ∀ (T : Tb) (z : Int) (w : World), Calls Try.prog 15 #[.agg (brow 73 (tcell T)).toArray, .int .i64 z] w fun e w' => ∃ x, e = .returned x ∧ Ls w' w'.heap.size x (inI T z 24).length (inF T z) ∧ Since w w'
theorem liveV_get (T : Tb) (j : Nat) (hj : j < 8) : (liveV T 8)[j]? = some (.int .i64 (liveF T j)) := by
  unfold liveV liveF
  rw [List.getElem?_map, List.getElem?_range hj]
  rfl
theorem vals_get (T : Tb) (z : Int) (j : Nat) (hj : j < (inI T z 24).length) : (vals (inI T z 24))[j]? = some (.int .i64 (inF T z j)) := by
  unfold vals inF
  rw [List.getElem?_map, List.getElem?_eq_getElem hj, List.getD_eq_getElem?_getD, List.getElem?_eq_getElem hj]
  rfl
theorem long_any (s : ByteArray) (w : World) : Calls Try.prog 19 #[.string s] w fun e w' => e = .returned (.bool (decide (60 < s.size))) ∧ w' = w := by
  by_cases h : 60 < s.size
  · have h2 : (60 : Int) < s.size := by omega
    rw [decide_eq_true h]
    go_enter Try.func19, Try.ntmps19
    go_wp2_with fail
    go_ret
    exact ⟨rfl, rfl⟩
  · have h2 : ¬ (60 : Int) < s.size := by omega
    rw [decide_eq_false h]
    go_enter Try.func19, Try.ntmps19
    go_wp2_with fail
    go_ret
    exact ⟨rfl, rfl⟩
theorem longTable_any (T : Tb) (w : World) : Calls Try.prog 5 #[tval T] w fun e w' => (∃ x : Bool, e = .returned (.bool x)) ∧ Since w w' := by
  have HC : Hid (Cel (w.alloc (.cells (brow 73 (tcell T)).toArray 27)) w.heap.size 73 (tcell T)) := tab_cel T w
  have HS : Hid (Since w (w.alloc (.cells (brow 73 (tcell T)).toArray 27))) := (Since.refl w).alloc _
  unfold tval
  generalize (brow 73 (tcell T)).toArray = cs at *
  go_enter Try.func5, Try.ntmps5
  go_wp2_with fail
  go_loopw [3] (fun i wr => ∃ k : Nat, k ≤ 24 ∧ i = .int .i64 k ∧ Cel wr w.heap.size 73 (tcell T) ∧ Since w wr) (fun i _ => 24 - (intOf i).toNat)
  case atStart => exact ⟨0, by omega, rfl, HC.out, HS.out⟩
  case round =>
    obtain ⟨k, hk, rfl, hc, hs⟩ := hrel
    clear HC HS
    have HC : Hid (Cel wr w.heap.size 73 (tcell T)) := hc
    have HS : Hid (Since w wr) := hs
    clear hc hs
    by_cases hlt : k < 24
    · have hlt2 : (k : Int) < 24 := by omega
      have q2 := HC.out.cell (1 + k * 3 + 2) (by omega)
      rw [Tw.tcell_at T k 2 (by omega), show Tw.tpart T k 2 = .string (T.tag k) from rfl] at q2
      go_wp2_with fail
      refine (long_any _ _).mono ?_
      rintro e w1 ⟨rfl, hw1⟩
      subst hw1
      clear q2
      generalize decide (60 < (T.tag k).size) = x
      cases x with
      | true =>
        go_wp2_with fail
        go_ret
        exact ⟨⟨true, rfl⟩, HS.out⟩
      | false =>
        go_wp2_with fail
        go_roundw
        case rel => exact ⟨k + 1, by omega, by go_num, HC.out, HS.out⟩
        case measure => simp [intOf]; omega
    · have hke : k = 24 := by omega
      subst hke
      go_wp2_with fail
      go_ret
      exact ⟨⟨false, rfl⟩, HS.out⟩
theorem wpList_load_want {P : Program} {ops : Array Oper} {rest : List Oper} {op : Oper} {a : Act} {w : World} {Q : Exit → Act → World → Prop} (hw : Region.wanted op (yielded ops a.tmps) = true) (ty : TypeId) (x : Operand) (ho : op.op = .load ty x)
    (b o : Nat) (hx : a.eval x = .pointer (some ⟨b, o, none⟩)) (cs : List Value) (d : TypeDesc) (hc : w.rangeAt b o cs)
    (hu : P.underlying ty = some d) (hd : d.isRow = true) (hi : (P.info? ty).map (·.size) = some cs.length)
    (h : wpList P ops Q rest (a.put op.dst (.agg cs.toArray)) w) : wpList P ops Q (op :: rest) a w :=
  BigFrame.wpList_want hw fun _ hK => wp_load_mid ty x ho b o hx cs d hc hu hd hi (hK _ _ h)
set_option maxHeartbeats 8000000 in
theorem space_go (hfree : FreeOk) (hopen : OpenOk) (hvic : VicOk) (hlive : LiveOk) (hin : InOk) (w : World) (v u : Value) (nv nu : Nat) (f g : Nat → Int) (but : Int) (T : Tb) (z : Int) (hv : Ls w w.heap.size v nv f) (hu : Ls w w.heap.size u nu g) :
    Calls Try.prog 3 #[v, u, .int .i64 but, tval T, .int .i64 z] w fun e w' => e = .returned (.bool true) ∧ Since w w' := by
  have HV : Hid (Ls w w.heap.size v nv f) := hv
  have HU : Hid (Ls w w.heap.size u nu g) := hu
  obtain ⟨a, c, rfl, hc, _⟩ := hv
  obtain ⟨a2, c2, rfl, hc2, _⟩ := hu
  have HC0 : Hid (Cel (w.alloc (.cells (brow 73 (tcell T)).toArray 27)) w.heap.size 73 (tcell T)) := tab_cel T w
  have HS0 : Hid (Since w (w.alloc (.cells (brow 73 (tcell T)).toArray 27))) := (Since.refl w).alloc _
  have HLT : Hid (∀ W, Calls Try.prog 5 #[.agg (brow 73 (tcell T)).toArray] W fun e w' => (∃ x : Bool, e = .returned (.bool x)) ∧ Since W w') := fun W => longTable_any T W
  have hR := tab_all HC0.out
  have hL := ln73 T
  unfold tval
  by_cases h20 : 20 < nv
  · have e1 : (20 : Int) < nv := by omega
    go_enter Try.func3, Try.ntmps3
    go_wp2_with fail
    go_ret
    exact ⟨rfl, HS0.out⟩
  have e1 : ¬ (20 : Int) < nv := by omega
  by_cases h20b : 20 < nu
  · have e2 : (20 : Int) < nu := by omega
    go_enter Try.func3, Try.ntmps3
    go_wp2_with fail
    go_ret
    exact ⟨rfl, HS0.out⟩
  have e2 : ¬ (20 : Int) < nu := by omega
  go_enter Try.func3, Try.ntmps3
  go_wp2_with (refine wpList_load_want (Tw.wanted_by rfl rfl rfl rfl) 27 _ (by rfl) w.heap.size 0 (by rfl) _ _ hR Try.underlying27 (by rfl) (by rw [hL]; kernel_rfl) ?_)
  refine (HLT.out _).mono ?_
  rintro e w1 ⟨⟨xl, rfl⟩, h1⟩
  have HC1 : Hid (Cel w1 w.heap.size 73 (tcell T)) := HC0.out.since h1
  have HS1 : Hid (Since w w1) := HS0.out.trans h1
  clear h1 hR HLT HC0 HS0
  cases xl with
  | true =>
    go_wp2_with fail
    go_ret
    exact ⟨rfl, HS1.out⟩
  | false =>
  go_wp2_with fail
  refine (rroom_any _ nv _ f but _ (HV.out.since HS1.out) (by omega)).mono ?_
  rintro e w1' ⟨⟨z1, o1, rfl, hr1⟩, hw1⟩
  subst hw1
  go_wp2_with fail
  refine (hopen _ nv _ f but _ (HV.out.since HS1.out) (by omega)).mono ?_
  rintro e w2 ⟨⟨z2, o2, rfl, hr2⟩, h2⟩
  obtain ⟨rfl, rfl⟩ := hr1.one hr2
  have HC2 : Hid (Cel w2 w.heap.size 73 (tcell T)) := HC1.out.since h2
  have HS2 : Hid (Since w w2) := HS1.out.trans h2
  clear h2 hr1 hr2 HC1 HS1
  go_wp2_with fail
  refine (hfree _ nv _ f _ (HV.out.since HS2.out) (by omega)).mono ?_
  rintro e w3 ⟨rfl, h3⟩
  have HC3 : Hid (Cel w3 w.heap.size 73 (tcell T)) := HC2.out.since h3
  have HS3 : Hid (Since w w3) := HS2.out.trans h3
  clear h3 HC2 HS2
  go_wp2_with fail
  refine (rfree_any _ nv _ f _ (HV.out.since HS3.out) (by omega)).mono ?_
  rintro e w3' ⟨rfl, hw3⟩
  subst hw3
  go_wp2_with fail
  refine (rvictim_any _ _ nv nu _ f g _ (HV.out.since HS3.out) (HU.out.since HS3.out) (by omega) (by omega)).mono ?_
  rintro e w3b ⟨⟨z3, o3, rfl, hr3⟩, h3b⟩
  have HC3b : Hid (Cel w3b w.heap.size 73 (tcell T)) := HC3.out.since h3b
  have HS3b : Hid (Since w w3b) := HS3.out.trans h3b
  clear h3b HC3 HS3
  go_wp2_with fail
  refine (hvic _ _ nv nu _ f g _ (HV.out.since HS3b.out) (HU.out.since HS3b.out) (by omega) (by omega)).mono ?_
  rintro e w4o ⟨⟨z4, o4, rfl, hr4⟩, h4⟩
  obtain ⟨rfl, rfl⟩ := hr3.one hr4
  have HC4o : Hid (Cel w4o w.heap.size 73 (tcell T)) := HC3b.out.since h4
  have HS4o : Hid (Since w w4o) := HS3b.out.trans h4
  clear h4 hr3 hr4 HC3b HS3b
  go_wp2_with fail
  have HC4 : Hid (Cel w4o.drew w.heap.size 73 (tcell T)) := HC4o.out.since (Since.refl _).drew
  have HS4 : Hid (Since w w4o.drew) := HS4o.out.drew
  have hS4 : (fun W : World => W.rangeAt w.heap.size 0 (brow 73 (tcell T))) w4o.drew := tab_all HC4.out
  refine wp_region_held (S := fun W : World => W.rangeAt w.heap.size 0 (brow 73 (tcell T))) (by kernel_rfl) ?_
  refine Tw.takeD (i := 0) (d := 66) (v := ?w0) rfl rfl (by kernel_rfl) (by kernel_rfl) (by kernel_rfl) (fun _ _ _ h => h) (Or.inl ⟨by rfl, ?hw0⟩) hS4 ?q0
  case hw0 => (intro w _; go_simp; try with_reducible rfl)
  simp only [Act.put, List.setIfInBounds_toArray, List.set_cons_zero, List.set_cons_succ]
  refine Tw.takeD (i := 1) (d := 67) (v := ?w1) rfl rfl (by kernel_rfl) (by kernel_rfl) (by kernel_rfl) (fun _ _ _ h => h) (Or.inl ⟨by rfl, ?hw1⟩) hS4 ?q1
  case hw1 => (intro w _; go_simp; try with_reducible rfl)
  simp only [Act.put, List.setIfInBounds_toArray, List.set_cons_zero, List.set_cons_succ]
  refine Tw.takeD (i := 2) (d := 68) (v := ?w2) rfl rfl (by kernel_rfl) (by kernel_rfl) (by kernel_rfl) (fun _ _ _ h => h) (Or.inl ⟨by rfl, ?hw2⟩) hS4 ?q2
  case hw2 => (intro w _; go_simp; try with_reducible rfl)
  simp only [Act.put, List.setIfInBounds_toArray, List.set_cons_zero, List.set_cons_succ]
  refine Tw.takeD (i := 3) (d := 69) (v := ?w3) rfl rfl (by kernel_rfl) (by kernel_rfl) (by kernel_rfl) (fun _ _ _ h => h) (Or.inl ⟨by rfl, ?hw3⟩) hS4 ?q3
  case hw3 => (intro w _; go_simp; try with_reducible rfl)
  simp only [Act.put, List.setIfInBounds_toArray, List.set_cons_zero, List.set_cons_succ]
  refine Tw.takeD (i := 4) (d := 70) (v := ?w4) rfl rfl (by kernel_rfl) (by kernel_rfl) (by kernel_rfl) (fun _ _ _ h => h) (Or.inl ⟨Tw.wanted_by rfl rfl rfl rfl, ?hw4⟩) hS4 ?q4
  case hw4 => (intro w _; go_simp; try with_reducible rfl)
  simp only [Act.put, List.setIfInBounds_toArray, List.set_cons_zero, List.set_cons_succ]
  refine Tw.takeD (i := 5) (d := 71) (v := ?w5) rfl rfl (by kernel_rfl) (by kernel_rfl) (by kernel_rfl) (fun _ _ _ h => h) (Or.inl ⟨Tw.wanted_by rfl rfl rfl rfl, ?hw5⟩) hS4 ?q5
  case hw5 => (intro w _; go_simp; try with_reducible rfl)
  simp only [Act.put, List.setIfInBounds_toArray, List.set_cons_zero, List.set_cons_succ]
  refine Tw.takeD (i := 6) (d := 72) (v := ?w6) rfl rfl (by kernel_rfl) (by kernel_rfl) (by kernel_rfl) (fun _ _ _ h => h) (Or.inl ⟨Tw.wanted_by rfl rfl rfl rfl, ?hw6⟩) hS4 ?q6
  case hw6 => (intro w _; go_simp; try with_reducible rfl)
  simp only [Act.put, List.setIfInBounds_toArray, List.set_cons_zero, List.set_cons_succ]
  refine Tw.takeD (i := 7) (d := 73) (v := ?w7) rfl rfl (by kernel_rfl) (by kernel_rfl) (by kernel_rfl) (fun _ _ _ h => h) (Or.inl ⟨by rfl, ?hw7⟩) hS4 ?q7
  case hw7 => (intro w _; go_simp; try with_reducible rfl)
  simp only [Act.put, List.setIfInBounds_toArray, List.set_cons_zero, List.set_cons_succ]
  refine Tw.takeD (i := 8) (d := 74) (v := ?w8) rfl rfl (by kernel_rfl) (by kernel_rfl) (by kernel_rfl) (fun _ _ _ h => h) (Or.inl ⟨by rfl, ?hw8⟩) hS4 ?q8
  case hw8 => (intro w _; go_simp; try with_reducible rfl)
  simp only [Act.put, List.setIfInBounds_toArray, List.set_cons_zero, List.set_cons_succ]
  refine Tw.takeD (i := 9) (d := 75) (v := .agg (brow 73 (tcell T)).toArray) rfl rfl (by kernel_rfl) (by kernel_rfl) (by kernel_rfl) (fun _ _ _ h => h) (yieldsIf_load_mid (Tw.wanted_by rfl rfl rfl rfl) 27 _ (by rfl) w.heap.size 0 (by rfl) _ _ (fun w hSw => hSw) Try.underlying27 (by rfl) (by rw [ln73]; kernel_rfl)) hS4 ?q9
  simp only [Act.put, List.setIfInBounds_toArray, List.set_cons_zero, List.set_cons_succ]
  refine Tw.takeD (i := 11) (d := 77) (v := .agg (brow 73 (tcell T)).toArray) rfl rfl (by kernel_rfl) (by kernel_rfl) (by kernel_rfl) (fun _ _ _ h => h) (yieldsIf_load_mid (Tw.wanted_by rfl rfl rfl rfl) 27 _ (by rfl) w.heap.size 0 (by rfl) _ _ (fun w hSw => hSw) Try.underlying27 (by rfl) (by rw [ln73]; kernel_rfl)) hS4 ?q11
  simp only [Act.put, List.setIfInBounds_toArray, List.set_cons_zero, List.set_cons_succ]
  refine wpAnyH_ready (rs := [10]) (by kernel_rfl) (by simp) (AllReadyH.cons rfl (fun K hK => ?_) AllReadyH.nil)
  rw [if_pos (Tw.wanted_by rfl rfl rfl rfl)]
  go_simp
  refine (hlive T _).mono ?_
  rintro e w5 ⟨x1, rfl, l1, h5⟩
  simp only []
  have HC5 : Hid (Cel w5 w.heap.size 73 (tcell T)) := HC4.out.since h5
  have HS5 : Hid (Since w w5) := HS4.out.trans h5
  have L1 : Hid (Ls w5 w5.heap.size x1 8 (liveF T)) := l1
  have hS5 : (fun W : World => W.rangeAt w.heap.size 0 (brow 73 (tcell T))) w5 := tab_all HC5.out
  clear h5
  refine hK.out _ _ hS5 (fun _ => ?_)
  clear hK K
  (try simp only [Act.put, List.setIfInBounds_toArray, List.set_cons_zero, List.set_cons_succ])
  refine wpAnyH_ready (rs := [12]) (by kernel_rfl) (by simp) (AllReadyH.cons rfl (fun K hK => ?_) AllReadyH.nil)
  rw [if_pos (Tw.wanted_by rfl rfl rfl rfl)]
  go_simp
  refine (rLive_any T _).mono ?_
  rintro e w6 ⟨x2, rfl, l2, h6⟩
  simp only []
  have HC6 : Hid (Cel w6 w.heap.size 73 (tcell T)) := HC5.out.since h6
  have HS6 : Hid (Since w w6) := HS5.out.trans h6
  have L2 : Hid (Ls w6 w6.heap.size x2 8 (liveF T)) := Ls.of_own l2 (fun j hj => liveV_get T j hj)
  have L1b : Hid (Ls w6 _ x1 8 (liveF T)) := L1.out.since h6
  have hS6 : (fun W : World => W.rangeAt w.heap.size 0 (brow 73 (tcell T))) w6 := tab_all HC6.out
  clear h6
  refine hK.out _ _ hS6 (fun _ => ?_)
  clear hK K
  (try simp only [Act.put, List.setIfInBounds_toArray, List.set_cons_zero, List.set_cons_succ])
  refine wpAnyH_ready (rs := [13]) (by kernel_rfl) (by simp) (AllReadyH.cons rfl (fun K hK => ?_) AllReadyH.nil)
  rw [if_pos (Tw.wanted_by rfl rfl rfl rfl)]
  go_simp
  refine (sameInts_any x1 x2 8 _ _ (liveF T) _ L1b.out L2.out (by omega)).mono ?_
  rintro e w7 ⟨rfl, h7⟩
  simp only []
  have HC7 : Hid (Cel w7 w.heap.size 73 (tcell T)) := HC6.out.since h7
  have HS7 : Hid (Since w w7) := HS6.out.trans h7
  have hS7 : (fun W : World => W.rangeAt w.heap.size 0 (brow 73 (tcell T))) w7 := tab_all HC7.out
  clear h7
  refine hK.out _ _ hS7 (fun _ => ?_)
  clear hK K
  (try simp only [Act.put, List.setIfInBounds_toArray, List.set_cons_zero, List.set_cons_succ])
  refine Tw.takeD (i := 14) (d := 80) (v := ?w14) rfl rfl (by kernel_rfl) (by kernel_rfl) (by kernel_rfl) (fun _ _ _ h => h) (Or.inl ⟨by rfl, ?hw14⟩) hS7 ?q14
  case hw14 => (intro w _; go_simp; try with_reducible rfl)
  simp only [Act.put, List.setIfInBounds_toArray, List.set_cons_zero, List.set_cons_succ]
  refine Tw.takeD (i := 15) (d := 81) (v := ?w15) rfl rfl (by kernel_rfl) (by kernel_rfl) (by kernel_rfl) (fun _ _ _ h => h) (Or.inl ⟨by rfl, ?hw15⟩) hS7 ?q15
  case hw15 => (intro w _; go_simp; try with_reducible rfl)
  simp only [Act.put, List.setIfInBounds_toArray, List.set_cons_zero, List.set_cons_succ]
  refine Tw.takeD (i := 16) (d := 82) (v := .agg (brow 73 (tcell T)).toArray) rfl rfl (by kernel_rfl) (by kernel_rfl) (by kernel_rfl) (fun _ _ _ h => h) (yieldsIf_load_mid (Tw.wanted_by rfl rfl rfl rfl) 27 _ (by rfl) w.heap.size 0 (by rfl) _ _ (fun w hSw => hSw) Try.underlying27 (by rfl) (by rw [ln73]; kernel_rfl)) hS7 ?q16
  simp only [Act.put, List.setIfInBounds_toArray, List.set_cons_zero, List.set_cons_succ]
  refine Tw.takeD (i := 17) (d := 83) (v := ?w17) rfl rfl (by kernel_rfl) (by kernel_rfl) (by kernel_rfl) (fun _ _ _ h => h) (Or.inl ⟨Tw.wanted_by rfl rfl rfl rfl, ?hw17⟩) hS7 ?q17
  case hw17 => (intro w _; go_simp; try with_reducible rfl)
  simp only [Act.put, List.setIfInBounds_toArray, List.set_cons_zero, List.set_cons_succ]
  refine Tw.takeD (i := 19) (d := 85) (v := .agg (brow 73 (tcell T)).toArray) rfl rfl (by kernel_rfl) (by kernel_rfl) (by kernel_rfl) (fun _ _ _ h => h) (yieldsIf_load_mid (Tw.wanted_by rfl rfl rfl rfl) 27 _ (by rfl) w.heap.size 0 (by rfl) _ _ (fun w hSw => hSw) Try.underlying27 (by rfl) (by rw [ln73]; kernel_rfl)) hS7 ?q19
  simp only [Act.put, List.setIfInBounds_toArray, List.set_cons_zero, List.set_cons_succ]
  refine Tw.takeD (i := 20) (d := 86) (v := ?w20) rfl rfl (by kernel_rfl) (by kernel_rfl) (by kernel_rfl) (fun _ _ _ h => h) (Or.inl ⟨Tw.wanted_by rfl rfl rfl rfl, ?hw20⟩) hS7 ?q20
  case hw20 => (intro w _; go_simp; try with_reducible rfl)
  simp only [Act.put, List.setIfInBounds_toArray, List.set_cons_zero, List.set_cons_succ]
  refine wpAnyH_ready (rs := [18]) (by kernel_rfl) (by simp) (AllReadyH.cons rfl (fun K hK => ?_) AllReadyH.nil)
  rw [if_pos (Tw.wanted_by rfl rfl rfl rfl)]
  go_simp
  refine (hin T z _).mono ?_
  rintro e w8 ⟨x3, rfl, l3, h8⟩
  simp only []
  have HC8 : Hid (Cel w8 w.heap.size 73 (tcell T)) := HC7.out.since h8
  have HS8 : Hid (Since w w8) := HS7.out.trans h8
  have L3 : Hid (Ls w8 w8.heap.size x3 (inI T z 24).length (inF T z)) := l3
  have hS8 : (fun W : World => W.rangeAt w.heap.size 0 (brow 73 (tcell T))) w8 := tab_all HC8.out
  clear h8
  refine hK.out _ _ hS8 (fun _ => ?_)
  clear hK K
  (try simp only [Act.put, List.setIfInBounds_toArray, List.set_cons_zero, List.set_cons_succ])
  refine wpAnyH_ready (rs := [21]) (by kernel_rfl) (by simp) (AllReadyH.cons rfl (fun K hK => ?_) AllReadyH.nil)
  rw [if_pos (Tw.wanted_by rfl rfl rfl rfl)]
  go_simp
  refine (rIn_any T z _).mono ?_
  rintro e w9 ⟨x4, rfl, l4, h9⟩
  simp only []
  have HC9 : Hid (Cel w9 w.heap.size 73 (tcell T)) := HC8.out.since h9
  have HS9 : Hid (Since w w9) := HS8.out.trans h9
  have L4 : Hid (Ls w9 w9.heap.size x4 (inI T z 24).length (inF T z)) := Ls.of_own l4 (fun j hj => vals_get T z j hj)
  have L3b : Hid (Ls w9 _ x3 (inI T z 24).length (inF T z)) := L3.out.since h9
  have hS9 : (fun W : World => W.rangeAt w.heap.size 0 (brow 73 (tcell T))) w9 := tab_all HC9.out
  clear h9
  refine hK.out _ _ hS9 (fun _ => ?_)
  clear hK K
  (try simp only [Act.put, List.setIfInBounds_toArray, List.set_cons_zero, List.set_cons_succ])
  refine wpAnyH_ready (rs := [22]) (by kernel_rfl) (by simp) (AllReadyH.cons rfl (fun K hK => ?_) AllReadyH.nil)
  rw [if_pos (Tw.wanted_by rfl rfl rfl rfl)]
  go_simp
  refine (sameInts_any x3 x4 (inI T z 24).length _ _ (inF T z) _ L3b.out L4.out (by have := inI_len T z 24; omega)).mono ?_
  rintro e w10 ⟨rfl, h10⟩
  simp only []
  have HC10 : Hid (Cel w10 w.heap.size 73 (tcell T)) := HC9.out.since h10
  have HS10 : Hid (Since w w10) := HS9.out.trans h10
  have hS10 : (fun W : World => W.rangeAt w.heap.size 0 (brow 73 (tcell T))) w10 := tab_all HC10.out
  clear h10
  refine hK.out _ _ hS10 (fun _ => ?_)
  clear hK K
  (try simp only [Act.put, List.setIfInBounds_toArray, List.set_cons_zero, List.set_cons_succ])
  refine Tw.takeD (i := 23) (d := 89) (v := ?w23) rfl rfl (by kernel_rfl) (by kernel_rfl) (by kernel_rfl) (fun _ _ _ h => h) (Or.inl ⟨by rfl, ?hw23⟩) hS10 ?q23
  case hw23 => (intro w _; go_simp; try with_reducible rfl)
  simp only [Act.put, List.setIfInBounds_toArray, List.set_cons_zero, List.set_cons_succ]
  refine Tw.takeD (i := 24) (d := 10) (v := ?w24) rfl rfl (by kernel_rfl) (by kernel_rfl) (by kernel_rfl) (fun _ _ _ h => h) (Or.inl ⟨by rfl, ?hw24⟩) hS10 ?q24
  case hw24 => (intro w _; go_simp; try with_reducible rfl)
  simp only [Act.put, List.setIfInBounds_toArray, List.set_cons_zero, List.set_cons_succ]
  refine wpAnyH_done (by kernel_rfl) ?_ _
  go_wp2_with fail
  go_ret
  exact ⟨rfl, HS10.out⟩
end Sp
end Go.Proofs.Ytegileohambjbaa
