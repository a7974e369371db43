/- The law TableWrites walked. -/
import Derived.Test.YtjfhggcjdckfgaaDoorYE
import Derived.Test.YtjfhggcjdckfgaaDoorW15
import Derived.BigFrame
namespace Go.Proofs.YtjfhggcjdckfgaaDoor
set_option linter.unusedSimpArgs false
set_option linter.unusedVariables false
set_option maxRecDepth 100000
namespace Tw
open Go.RowKit
open Sm (Tab RSum Arr H0 kn rnew_any)

theorem longTable_any (T : Tb) (w : World) : Calls Tryd.prog 69 #[tval T] w fun e w' => (∃ x : Bool, e = .returned (.bool x)) ∧ Since w w' := by
  have HC : Hid (Cel (w.alloc (.cells (brow 73 (tcell T)).toArray 100)) w.heap.size 73 (tcell T)) := tab_cel T w
  have HS : Hid (Since w (w.alloc (.cells (brow 73 (tcell T)).toArray 100))) := (Since.refl w).alloc _
  unfold tval
  generalize (brow 73 (tcell T)).toArray = cs at *
  go_enter Tryd.func69, Tryd.ntmps69
  go_wp2_with fail
  go_loopw [3] (fun i wr => ∃ k : Nat, k ≤ 24 ∧ i = .int .i64 k ∧ Cel wr w.heap.size 73 (tcell T) ∧ Since w wr) (fun i _ => 24 - (intOf i).toNat)
  case atStart => exact ⟨0, by omega, rfl, HC.out, HS.out⟩
  case round =>
    obtain ⟨k, hk, rfl, hc, hs⟩ := hrel
    clear HC HS
    have HC : Hid (Cel wr w.heap.size 73 (tcell T)) := hc
    have HS : Hid (Since w wr) := hs
    clear hc hs
    by_cases hlt : k < 24
    · have hlt2 : (k : Int) < 24 := by omega
      have q2 := HC.out.cell (1 + k * 3 + 2) (by omega)
      rw [tcell_at T k 2 (by omega), show tpart T k 2 = .string (T.tag k) from rfl] at q2
      go_wp2_with fail
      refine (lawLong_any _ _).mono ?_
      rintro e w1 ⟨rfl, hw1⟩
      subst hw1
      clear q2
      generalize decide (60 < (T.tag k).size) = x
      cases x with
      | true =>
        go_wp2_with fail
        go_ret
        exact ⟨⟨true, rfl⟩, HS.out⟩
      | false =>
        go_wp2_with fail
        go_roundw
        case rel => exact ⟨k + 1, by omega, by go_num, HC.out, HS.out⟩
        case measure => simp [intOf]; omega
    · have hke : k = 24 := by omega
      subst hke
      go_wp2_with fail
      go_ret
      exact ⟨⟨false, rfl⟩, HS.out⟩
theorem wpList_load_want {P : Program} {ops : Array Oper} {rest : List Oper} {op : Oper} {a : Act} {w : World} {Q : Exit → Act → World → Prop} (hw : Region.wanted op (yielded ops a.tmps) = true) (ty : TypeId) (x : Operand) (ho : op.op = .load ty x)
    (b o : Nat) (hx : a.eval x = .pointer (some ⟨b, o, none⟩)) (cs : List Value) (d : TypeDesc) (hc : w.rangeAt b o cs)
    (hu : P.underlying ty = some d) (hd : d.isRow = true) (hi : (P.info? ty).map (·.size) = some cs.length)
    (h : wpList P ops Q rest (a.put op.dst (.agg cs.toArray)) w) : wpList P ops Q (op :: rest) a w :=
  BigFrame.wpList_want hw fun _ hK => wp_load_mid ty x ho b o hx cs d hc hu hd hi (hK _ _ h)
theorem tab_self2 (w : World) (U : Tb) : (binOp .neq 100 (.agg (brow 73 (tcell U)).toArray) (.agg (brow 73 (tcell U)).toArray)).run Tryd.prog w = .ok (.bool false) w := tab_self w U
attribute [local go_sem ↓] tab_self2
def four (a b c d : ByteArray) : Nat → ByteArray := fun j => if j = 0 then a else if j = 1 then b else if j = 2 then c else d
theorem four_cells (w : World) (a b c d : ByteArray) (t : TypeId) (j : Nat) (hj : j < 4) : (w.alloc (.cells #[.string a, .string b, .string c, .string d] t)).cell? ⟨w.heap.size, j, none⟩ = some (.string (four a b c d j)) := by
  rw [World.cell?_alloc_new]
  match j, hj with
  | 0, _ => rfl
  | 1, _ => rfl
  | 2, _ => rfl
  | 3, _ => rfl
theorem four_size (a b c d : ByteArray) (ha : a.size ≤ 900) (hb : b.size ≤ 900) (hc : c.size ≤ 900) (hd : d.size ≤ 900) (j : Nat) : (four a b c d j).size ≤ 900 := by
  unfold four; split
  · assumption
  · split
    · assumption
    · split <;> assumption
set_option maxHeartbeats 8000000 in
theorem table_go (hsum : RSum) (w : World) (key : ByteArray) (T : Tb) (s : ByteArray) (hg : Et w) (hT : Tab w) :
    Calls Tryd.prog 10 #[.string key, tval T, .string s] w fun e w' => e = .returned (.bool true) ∧ Since w w' := by
  have HG : Hid (Et w) := hg
  have HT : Hid (Tab w) := hT
  clear hg hT
  obtain ⟨A, n, ev, hA, hr, hp, hbr, _⟩ := both_write hsum key T
  have HR : Hid (∀ b W, Arr W b 0 8 H0.fn → Arr W b 8 64 kn → Calls Tryd.prog 70 #[.pointer (some ⟨b, 0, none⟩), .string key, .agg (brow 73 (tcell T)).toArray] W fun e w' => e = .returned (.tuple #[.string A, .int .i64 n]) ∧ Since W w') := hr
  have HP : Hid (∀ W, Tab W → Calls Tryd.prog 71 #[.string key, .agg (brow 73 (tcell T)).toArray] W fun e w' => e = .returned (.tuple #[.string A, ev]) ∧ Since W w') := hp
  have HB : Hid (BareOk ev n) := hbr
  clear hr hp hbr
  have HC0 : Hid (Cel (w.alloc (.cells (brow 73 (tcell T)).toArray 100)) w.heap.size 73 (tcell T)) := tab_cel T w
  have HS0 : Hid (Since w (w.alloc (.cells (brow 73 (tcell T)).toArray 100))) := (Since.refl w).alloc _
  have hR := tab_all HC0.out
  have hL := ln73 T
  have HLT : Hid (∀ W, Calls Tryd.prog 69 #[.agg (brow 73 (tcell T)).toArray] W fun e w' => (∃ x : Bool, e = .returned (.bool x)) ∧ Since W w') := fun W => longTable_any T W
  unfold tval
  go_enter Tryd.func10, Tryd.ntmps10
  go_wp2_with fail
  refine (lawLong_any _ _).mono ?_
  rintro e w1 ⟨rfl, hw1⟩
  subst hw1
  generalize decide (60 < key.size) = x60
  cases x60 with
  | true =>
    go_wp2_with fail
    go_ret
    exact ⟨rfl, HS0.out⟩
  | false =>
  go_wp2_with fail
  refine wp_load_mid 100 _ (by rfl) w.heap.size 0 (by rfl) _ _ hR Tryd.underlying100 (by rfl) (by rw [hL]; kernel_rfl) ?_
  go_wp2_with fail
  refine (HLT.out _).mono ?_
  rintro e w1 ⟨⟨xl, rfl⟩, h1⟩
  have HC1 : Hid (Cel w1 w.heap.size 73 (tcell T)) := HC0.out.since h1
  have HS1 : Hid (Since w w1) := HS0.out.trans h1
  clear h1 hR HLT HC0 HS0
  cases xl with
  | true =>
    go_wp2_with fail
    go_ret
    exact ⟨rfl, HS1.out⟩
  | false =>
  by_cases h600 : 600 < s.size
  · have e2 : (600 : Int) < s.size := by omega
    go_wp2_with fail
    go_ret
    exact ⟨rfl, HS1.out⟩
  have e2 : ¬ (600 : Int) < s.size := by omega
  go_wp2_with fail
  refine (rnew_any _).mono ?_
  rintro e w2 ⟨b, rfl, _, hh, hk2, h2⟩
  have HH : Hid (Arr w2 b 0 8 H0.fn) := hh
  have HK : Hid (Arr w2 b 8 64 kn) := hk2
  have HC2 : Hid (Cel w2 w.heap.size 73 (tcell T)) := HC1.out.since h2
  have HS2 : Hid (Since w w2) := HS1.out.trans h2
  clear hh hk2 h2 HC1 HS1
  have hR := tab_all HC2.out
  go_wp2_with (refine wpList_load_mid (by rfl) 100 _ (by rfl) w.heap.size 0 (by rfl) _ _ hR Tryd.underlying100 (by rfl) (by rw [hL]; kernel_rfl) ?_)
  refine (HR.out b _ HH.out HK.out).mono ?_
  rintro e w3 ⟨rfl, h3⟩
  have HH3 : Hid (Arr w3 b 0 8 H0.fn) := HH.out.since h3
  have HK3 : Hid (Arr w3 b 8 64 kn) := HK.out.since h3
  have HC3 : Hid (Cel w3 w.heap.size 73 (tcell T)) := HC2.out.since h3
  have HS3 : Hid (Since w w3) := HS2.out.trans h3
  clear h3 hR HH HK HC2 HS2 HR
  have hR := tab_all HC3.out
  go_wp2_with (refine wpList_load_mid (by rfl) 100 _ (by rfl) w.heap.size 0 (by rfl) _ _ hR Tryd.underlying100 (by rfl) (by rw [hL]; kernel_rfl) ?_)
  refine (HP.out _ (HT.out.since HS3.out)).mono ?_
  rintro e w4 ⟨rfl, h4⟩
  have HH4 : Hid (Arr w4 b 0 8 H0.fn) := HH3.out.since h4
  have HK4 : Hid (Arr w4 b 8 64 kn) := HK3.out.since h4
  have HC4 : Hid (Cel w4 w.heap.size 73 (tcell T)) := HC3.out.since h4
  have HS4 : Hid (Since w w4) := HS3.out.trans h4
  clear h4 hR HH3 HK3 HC3 HS3 HP
  go_wp2_with fail
  have hS0 : (fun W : World => W.rangeAt w.heap.size 0 (brow 73 (tcell T))) w4.drew := tab_all (HC4.out.since (Since.refl _).drew)
  refine wp_region_held (S := fun W : World => W.rangeAt w.heap.size 0 (brow 73 (tcell T))) (by kernel_rfl) ?_
  refine takeD (i := 0) (d := 43) (v := ?w0) rfl rfl (by kernel_rfl) (by kernel_rfl) (by kernel_rfl) (fun _ _ _ h => h) (Or.inl ⟨by rfl, ?hw0⟩) hS0 ?q0
  case hw0 => (intro w _; go_simp; try with_reducible rfl)
  simp only [Act.put, List.setIfInBounds_toArray, List.set_cons_zero, List.set_cons_succ]
  refine takeD (i := 1) (d := 44) (v := ?w1) rfl rfl (by kernel_rfl) (by kernel_rfl) (by kernel_rfl) (fun _ _ _ h => h) (Or.inl ⟨by rfl, ?hw1⟩) hS0 ?q1
  case hw1 => (intro w _; go_simp; try with_reducible rfl)
  simp only [Act.put, List.setIfInBounds_toArray, List.set_cons_zero, List.set_cons_succ]
  refine wpAnyH_ready (rs := [2]) (by kernel_rfl) (by simp) (AllReadyH.cons rfl (fun K hK => ?_) AllReadyH.nil)
  go_simp
  refine (HB.out _ (HG.out.since HS4.out.drew)).mono ?_
  rintro e w5 ⟨rfl, h5⟩
  simp only []
  have HC5 : Hid (Cel w5 w.heap.size 73 (tcell T)) := (HC4.out.since (Since.refl _).drew).since h5
  have HS5 : Hid (Since w w5) := HS4.out.drew.trans h5
  have hS1 : (fun W : World => W.rangeAt w.heap.size 0 (brow 73 (tcell T))) w5 := tab_all HC5.out
  have HX5 : Hid (Since w4.drew w5) := h5
  clear h5
  refine hK.out _ _ hS1 (fun _ => ?_)
  clear hK K
  (try simp only [Act.put, List.setIfInBounds_toArray, List.set_cons_zero, List.set_cons_succ])
  refine takeD (i := 3) (d := 46) (v := ?w3) rfl rfl (by kernel_rfl) (by kernel_rfl) (by kernel_rfl) (fun _ _ _ h => h) (Or.inl ⟨by rfl, ?hw3⟩) hS1 ?q3
  case hw3 => (intro w _; go_simp; try with_reducible rfl)
  simp only [Act.put, List.setIfInBounds_toArray, List.set_cons_zero, List.set_cons_succ]
  refine takeD (i := 4) (d := 47) (v := ?w4) rfl rfl (by kernel_rfl) (by kernel_rfl) (by kernel_rfl) (fun _ _ _ h => h) (Or.inl ⟨by rfl, ?hw4⟩) hS1 ?q4
  case hw4 => (intro w _; go_simp; try with_reducible rfl)
  simp only [Act.put, List.setIfInBounds_toArray, List.set_cons_zero, List.set_cons_succ]
  refine takeD (i := 5) (d := 48) (v := ?w5) rfl rfl (by kernel_rfl) (by kernel_rfl) (by kernel_rfl) (fun _ _ _ h => h) (Or.inl ⟨wanted_by rfl rfl rfl rfl, ?hw5⟩) hS1 ?q5
  case hw5 => (intro w _; go_simp; try with_reducible rfl)
  simp only [Act.put, List.setIfInBounds_toArray, List.set_cons_zero, List.set_cons_succ]
  refine takeD (i := 6) (d := 49) (v := ?w6) rfl rfl (by kernel_rfl) (by kernel_rfl) (by kernel_rfl) (fun _ _ _ h => h) (Or.inl ⟨wanted_by rfl rfl rfl rfl, ?hw6⟩) hS1 ?q6
  case hw6 => (intro w _; go_simp; try with_reducible rfl)
  simp only [Act.put, List.setIfInBounds_toArray, List.set_cons_zero, List.set_cons_succ]
  refine takeD (i := 7) (d := 50) (v := ?w7) rfl rfl (by kernel_rfl) (by kernel_rfl) (by kernel_rfl) (fun _ _ _ h => h) (Or.inl ⟨wanted_by rfl rfl rfl rfl, ?hw7⟩) hS1 ?q7
  case hw7 => (intro w _; go_simp; try with_reducible rfl)
  simp only [Act.put, List.setIfInBounds_toArray, List.set_cons_zero, List.set_cons_succ]
  refine takeD (i := 8) (d := 51) (v := ?w8) rfl rfl (by kernel_rfl) (by kernel_rfl) (by kernel_rfl) (fun _ _ _ h => h) (Or.inl ⟨by rfl, ?hw8⟩) hS1 ?q8
  case hw8 => (intro w _; go_simp; try with_reducible rfl)
  simp only [Act.put, List.setIfInBounds_toArray, List.set_cons_zero, List.set_cons_succ]
  refine takeD (i := 9) (d := 52) (v := ?w9) rfl rfl (by kernel_rfl) (by kernel_rfl) (by kernel_rfl) (fun _ _ _ h => h) (Or.inl ⟨by rfl, ?hw9⟩) hS1 ?q9
  case hw9 => (intro w _; go_simp; try with_reducible rfl)
  simp only [Act.put, List.setIfInBounds_toArray, List.set_cons_zero, List.set_cons_succ]
  refine takeD (i := 10) (d := 53) (v := .agg (brow 73 (tcell T)).toArray) rfl rfl (by kernel_rfl) (by kernel_rfl) (by kernel_rfl) (fun _ _ _ h => h) (yieldsIf_load_mid (wanted_by rfl rfl rfl rfl) 100 _ (by rfl) w.heap.size 0 (by rfl) _ _ (fun w hSw => hSw) Tryd.underlying100 (by rfl) (by rw [ln73]; kernel_rfl)) hS1 ?q10
  simp only [Act.put, List.setIfInBounds_toArray, List.set_cons_zero, List.set_cons_succ]
  refine takeD (i := 12) (d := 55) (v := .agg (brow 73 (tcell T)).toArray) rfl rfl (by kernel_rfl) (by kernel_rfl) (by kernel_rfl) (fun _ _ _ h => h) (yieldsIf_load_mid (wanted_by rfl rfl rfl rfl) 100 _ (by rfl) w.heap.size 0 (by rfl) _ _ (fun w hSw => hSw) Tryd.underlying100 (by rfl) (by rw [ln73]; kernel_rfl)) hS1 ?q12
  simp only [Act.put, List.setIfInBounds_toArray, List.set_cons_zero, List.set_cons_succ]
  refine wpAnyH_ready (rs := [11]) (by kernel_rfl) (by simp) (AllReadyH.cons rfl (fun K hK => ?_) AllReadyH.nil)
  rw [if_pos (wanted_by rfl rfl rfl rfl)]
  go_simp
  refine (right_any T _).mono ?_
  rintro e w6 ⟨rfl, h6⟩
  simp only []
  have HC6 : Hid (Cel w6 w.heap.size 73 (tcell T)) := HC5.out.since h6
  have HS6 : Hid (Since w w6) := HS5.out.trans h6
  have hS2 : (fun W : World => W.rangeAt w.heap.size 0 (brow 73 (tcell T))) w6 := tab_all HC6.out
  have HX6 : Hid (Since w4.drew w6) := HX5.out.trans h6
  clear h6 HX5
  refine hK.out _ _ hS2 (fun _ => ?_)
  clear hK K
  (try simp only [Act.put, List.setIfInBounds_toArray, List.set_cons_zero, List.set_cons_succ])
  refine wpAnyH_ready (rs := [13]) (by kernel_rfl) (by simp) (AllReadyH.cons rfl (fun K hK => ?_) AllReadyH.nil)
  rw [if_pos (wanted_by rfl rfl rfl rfl)]
  go_simp
  refine (rright_any T _).mono ?_
  rintro e w7 ⟨rfl, h7⟩
  simp only []
  have HC7 : Hid (Cel w7 w.heap.size 73 (tcell T)) := HC6.out.since h7
  have HS7 : Hid (Since w w7) := HS6.out.trans h7
  have hS3 : (fun W : World => W.rangeAt w.heap.size 0 (brow 73 (tcell T))) w7 := tab_all HC7.out
  have HX7 : Hid (Since w4.drew w7) := HX6.out.trans h7
  clear h7 HX6
  refine hK.out _ _ hS3 (fun _ => ?_)
  clear hK K
  (try simp only [Act.put, List.setIfInBounds_toArray, List.set_cons_zero, List.set_cons_succ])
  generalize rtB T = xr at *
  refine takeD (i := 14) (d := 57) (v := ?w14) rfl rfl (by kernel_rfl) (by kernel_rfl) (by kernel_rfl) (fun _ _ _ h => h) (Or.inl ⟨wanted_by rfl rfl rfl rfl, ?hw14⟩) hS3 ?q14
  case hw14 => (intro w _; go_simp; try with_reducible rfl)
  simp only [Act.put, List.setIfInBounds_toArray, List.set_cons_zero, List.set_cons_succ]
  refine takeD (i := 15) (d := 58) (v := ?w15) rfl rfl (by kernel_rfl) (by kernel_rfl) (by kernel_rfl) (fun _ _ _ h => h) (Or.inl ⟨by rfl, ?hw15⟩) hS3 ?q15
  case hw15 => (intro w _; go_simp; try with_reducible rfl)
  simp only [Act.put, List.setIfInBounds_toArray, List.set_cons_zero, List.set_cons_succ]
  refine wpAnyH_done (by kernel_rfl) ?_ _
  have HH7 : Hid (Arr w7 b 0 8 H0.fn) := (HH4.out.since ((Since.refl _).drew)).since HX7.out
  have HK7 : Hid (Arr w7 b 8 64 kn) := (HK4.out.since ((Since.refl _).drew)).since HX7.out
  clear hS0 hS1 hS2 hS3 HH4 HK4 HC4 HC5 HC6 HC7 HS4 HS5 HS6
  have hax0 : A.size + (⟨#[0, 0]⟩ : ByteArray).size ≤ 9223372036854775807 := by show A.size + 2 ≤ _; omega
  have hax : A.size + (⟨#[120]⟩ : ByteArray).size ≤ 9223372036854775807 := by show A.size + 1 ≤ _; omega
  have haz0 : (A ++ (⟨#[0, 0]⟩ : ByteArray)).size ≤ 900 := by rw [ByteArray.size_append]; show A.size + 2 ≤ 900; omega
  have haz : (A ++ (⟨#[120]⟩ : ByteArray)).size ≤ 900 := by rw [ByteArray.size_append]; show A.size + 1 ≤ 900; omega
  have HC : Hid (∀ j, j < 4 → (w7.alloc (.cells #[.string s, .string A, .string (A ++ (⟨#[0, 0]⟩ : ByteArray)), .string (A ++ (⟨#[120]⟩ : ByteArray))] 9)).cell? ⟨w7.heap.size, j, none⟩ = some (.string (four s A (A ++ (⟨#[0, 0]⟩ : ByteArray)) (A ++ (⟨#[120]⟩ : ByteArray)) j))) := fun j hj => four_cells w7 s A _ _ 9 j hj
  have HZ : Hid (∀ j, (four s A (A ++ (⟨#[0, 0]⟩ : ByteArray)) (A ++ (⟨#[120]⟩ : ByteArray)) j).size ≤ 900) := four_size s A _ _ (by omega) (by omega) haz0 haz
  clear haz0 haz
  go_wp2_with fail
  have HS8 : Hid (Since w7 (w7.alloc (.cells #[.string s, .string A, .string (A ++ (⟨#[0, 0]⟩ : ByteArray)), .string (A ++ (⟨#[120]⟩ : ByteArray))] 9))) := (Since.refl _).alloc _
  have hlt7 : w7.heap.size < (w7.alloc (.cells #[.string s, .string A, .string (A ++ (⟨#[0, 0]⟩ : ByteArray)), .string (A ++ (⟨#[120]⟩ : ByteArray))] 9)).heap.size := by simp
  generalize (w7.alloc (.cells #[.string s, .string A, .string (A ++ (⟨#[0, 0]⟩ : ByteArray)), .string (A ++ (⟨#[120]⟩ : ByteArray))] 9)) = w8 at *
  generalize four s A (A ++ (⟨#[0, 0]⟩ : ByteArray)) (A ++ (⟨#[120]⟩ : ByteArray)) = ps at *
  have HLT7 : Hid (w7.heap.size < w8.heap.size) := hlt7
  clear hlt7 hax hax0
  generalize w7.heap.size = bl at *
  go_loopw [67, 13, 14, 15, 16, 17] (fun i _ _ _ _ _ wr => ∃ k : Nat, k ≤ 4 ∧ i = .int .i64 k ∧ Since w8 wr) (fun i _ _ _ _ _ _ => 4 - (intOf i).toNat)
  case atStart => exact ⟨0, by omega, rfl, Since.refl _⟩
  case round =>
    obtain ⟨k, hk, rfl, hS⟩ := hrel
    have HS : Hid (Since w8 wr) := hS
    clear hS
    by_cases hlt : k < 4
    · have hltI : (k : Int) < 4 := by omega
      have hck : wr.cell? ⟨bl, k, none⟩ = some (.string (ps k)) := by
        rw [HS.out.cell (p := ⟨bl, k, none⟩) HLT7.out]; exact HC.out k hlt
      obtain ⟨U, n2, ev2, hr2, hp2, hb2⟩ := both_parse hsum key (ps k) (HZ.out k)
      have HR2 : Hid (RParses key (ps k) U n2) := hr2
      have HP2 : Hid (Parses key (ps k) U ev2) := hp2
      have HB2 : Hid (BareOk ev2 n2) := hb2
      clear hr2 hp2 hb2
      generalize ps k = x at *
      have HSr : Hid (Since w7 wr) := HS8.out.trans HS.out
      go_wp2_with fail
      refine (HR2.out b _ (HH7.out.since HSr.out) (HK7.out.since HSr.out)).mono ?_
      rintro e w9 ⟨rfl, h9⟩
      clear hck
      have HS9 : Hid (Since w8 w9) := HS.out.trans h9
      clear h9
      obtain ⟨hst, hc10⟩ := tab_stored (zeroTab_cel w9 w9.heap.size rfl) U
      have HC10 : Hid (Cel ((w9.alloc (.cells Tryd.zeroCells100 100)).setCells w9.heap.size 0 (brow 73 (tcell U))) w9.heap.size 73 (tcell U)) := hc10
      have HS10 : Hid (Since w8 ((w9.alloc (.cells Tryd.zeroCells100 100)).setCells w9.heap.size 0 (brow 73 (tcell U)))) := (HS9.out.alloc _).setCells HS9.out.size _ _
      clear hc10
      generalize ((w9.alloc (.cells Tryd.zeroCells100 100)).setCells w9.heap.size 0 (brow 73 (tcell U))) = w10 at *
      rw [show tval U = .agg (brow 73 (tcell U)).toArray from rfl]
      go_wp2_with fail
      clear hst
      generalize w9.heap.size = b9 at *
      refine (HP2.out _ (HT.out.since (HS7.out.trans (HS8.out.trans HS10.out)))).mono ?_
      rintro e w11 ⟨rfl, h11⟩
      have HC11 : Hid (Cel w11 b9 73 (tcell U)) := HC10.out.since h11
      have HS11 : Hid (Since w8 w11) := HS10.out.trans h11
      clear h11 HC10 HS10
      obtain ⟨hst, hc12⟩ := tab_stored (zeroTab_cel w11 w11.heap.size rfl) U
      have HC12 : Hid (Cel ((w11.alloc (.cells Tryd.zeroCells100 100)).setCells w11.heap.size 0 (brow 73 (tcell U))) w11.heap.size 73 (tcell U)) := hc12
      have HD12 : Hid (Cel ((w11.alloc (.cells Tryd.zeroCells100 100)).setCells w11.heap.size 0 (brow 73 (tcell U))) b9 73 (tcell U)) := (HC11.out.since ((Since.refl _).alloc _)).setRow_other _ (by have := HC11.out.lt (by omega); omega)
      have HS12 : Hid (Since w8 ((w11.alloc (.cells Tryd.zeroCells100 100)).setCells w11.heap.size 0 (brow 73 (tcell U)))) := (HS11.out.alloc _).setCells HS11.out.size _ _
      clear hc12
      generalize ((w11.alloc (.cells Tryd.zeroCells100 100)).setCells w11.heap.size 0 (brow 73 (tcell U))) = w12 at *
      rw [show tval U = .agg (brow 73 (tcell U)).toArray from rfl]
      go_wp2_with fail
      clear hst
      generalize w11.heap.size = b11 at *
      refine (HB2.out _ (HG.out.since (HS7.out.trans (HS8.out.trans HS12.out)))).mono ?_
      rintro e w13 ⟨rfl, h13⟩
      have HC13 : Hid (Cel w13 b11 73 (tcell U)) := HC12.out.since h13
      have HD13 : Hid (Cel w13 b9 73 (tcell U)) := HD12.out.since h13
      have HS13 : Hid (Since w8 w13) := HS12.out.trans h13
      clear h13 HC12 HD12 HS12 HC11 HS11
      have hR1 := tab_all HC13.out
      have hR2 := tab_all HD13.out
      have hLU := ln73 U
      go_wp2_with (first
        | refine wpList_load_want (wanted_by rfl rfl rfl rfl) 100 _ (by rfl) b11 0 (by rfl) _ _ hR1 Tryd.underlying100 (by rfl) (by rw [hLU]; kernel_rfl) ?_
        | refine wpList_load_want (wanted_by rfl rfl rfl rfl) 100 _ (by rfl) b9 0 (by rfl) _ _ hR2 Tryd.underlying100 (by rfl) (by rw [hLU]; kernel_rfl) ?_)
      go_roundw
      case rel => exact ⟨k + 1, by omega, by go_num, HS13.out⟩
      case measure => simp [intOf]; omega
    · have hke : k = 4 := by omega
      subst hke
      go_wp2_with fail
      go_ret
      exact ⟨rfl, HS7.out.trans (HS8.out.trans HS.out)⟩
end Tw
end Go.Proofs.YtjfhggcjdckfgaaDoor
