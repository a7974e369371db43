/- The reference's device: NewDevice, spent, Have, Read, Fuse, Reset. -/
import Derived.Test.YtjfhggcjdckfgaaDoorT0
namespace Go.Proofs.YtjfhggcjdckfgaaDoor
set_option linter.unusedSimpArgs false
set_option linter.unusedVariables false
open Go.RowKit

def nilV : Nat → Value := fun _ => .slice none 0 0
def r0cells : Array Value := #[.slice none 0 0, .slice none 0 0, .slice none 0 0, .slice none 0 0, .slice none 0 0, .slice none 0 0, .slice none 0 0, .slice none 0 0, .int .i64 0, .int .i64 0, .int .i64 0, .int .i64 0, .int .i64 0, .int .i64 0, .int .i64 0, .int .i64 0, .string (txt 500 (fun _ => 0)), .string (txt 500 (fun _ => 0)), .slice none 0 0, .slice none 0 0, .int .i64 (-1)]
theorem r0_get : ∀ j, j < 21 → r0cells[j]? = some (rcell dv0 nilV (.slice none 0 0) (.slice none 0 0) j) := by
  intro j hj
  match j, hj with
  | 0, _ => rfl
  | 1, _ => rfl
  | 2, _ => rfl
  | 3, _ => rfl
  | 4, _ => rfl
  | 5, _ => rfl
  | 6, _ => rfl
  | 7, _ => rfl
  | 8, _ => rfl
  | 9, _ => rfl
  | 10, _ => rfl
  | 11, _ => rfl
  | 12, _ => rfl
  | 13, _ => rfl
  | 14, _ => rfl
  | 15, _ => rfl
  | 16, _ => rfl
  | 17, _ => rfl
  | 18, _ => rfl
  | 19, _ => rfl
  | 20, _ => rfl
  | n + 21, h => exact absurd h (by omega)
theorem newD_any (w : World) : Calls Tryd.prog 27 #[] w fun e w' => ∃ rb, e = .returned (.pointer (some ⟨rb, 0, none⟩)) ∧ w.heap.size ≤ rb ∧ w'.heap.size = rb + 1 ∧ Cel w' rb 21 (rcell dv0 nilV (.slice none 0 0) (.slice none 0 0)) ∧ Since w w' := by
  go_enter Tryd.func27, Tryd.ntmps27
  go_wp2_with fail
  refine (zeros_any 500 _ (by omega)).mono ?_
  rintro e w1 ⟨rfl, h1⟩
  go_wp2_with fail
  refine (zeros_any 500 _ (by omega)).mono ?_
  rintro e w2 ⟨rfl, h2⟩
  have hS := h1.trans h2
  clear h1 h2
  go_wp2_with fail
  go_ret
  refine ⟨w2.heap.size, rfl, hS.size, by simp, ?_, hS.alloc _⟩
  exact Cel.new w2 21 _ _ r0cells r0_get _ rfl
theorem Ref.start {w : World} {rb N : Nat} (h : Cel w rb 21 (rcell dv0 nilV (.slice none 0 0) (.slice none 0 0))) (h1 : rb < N) (h2 : N ≤ w.heap.size) : Ref w rb N dv0 nilV (.slice none 0 0) (.slice none 0 0) :=
  ⟨h, fun z _ => World.ownsRow_nil _ _ _ _, World.ownsRow_nil _ _ _ _, World.ownsRow_nil _ _ _ _, fun _ _ => Or.inl rfl, h1, h2⟩

/-- the fuse alone has turned -/
theorem rcell_fuse (D D' : Dv) (lv : Nat → Value) (av wv : Value) (h1 : D'.sure = D.sure) (h2 : D'.slot = D.slot) (j : Nat) (hj : j < 21) : updv (rcell D lv av wv) 20 (.int .i64 D'.fz) j = rcell D' lv av wv j := by
  unfold updv
  by_cases h : j = 20
  · subst h; rw [if_pos rfl, rcell_f]
  · rw [if_neg h]
    unfold rcell
    rw [h1, h2]
    split
    · rfl
    · split
      · rfl
      · split
        · rfl
        · split
          · rfl
          · split
            · rfl
            · split
              · rfl
              · exfalso; omega
theorem spent_any (D : Dv) (lv : Nat → Value) (av wv : Value) (rb N : Nat) (w : World) (hd : Ref w rb N D lv av wv) (hl : 0 ≤ D.left ∧ D.left ≤ 9223372036854775807) :
    Calls Tryd.prog 96 #[.pointer (some ⟨rb, 0, none⟩)] w fun e w' => e = .returned (.bool (!D.may)) ∧ (D.may = false → w' = w) ∧ (D.may = true → Ref w' rb N D.burnt lv av wv ∧ Fr rb none w w') := by
  have c1 := hd.cel.cell 20 (by omega)
  have f1 := hd.cel.frozen 20 (by omega)
  rw [rcell_f] at c1
  have HD : Hid (Ref w rb N D lv av wv) := hd
  clear hd
  by_cases hf : D.fused = true
  · have hz : D.fz = D.left := by unfold Dv.fz; rw [if_pos hf]
    rw [hz] at c1
    have HF : Hid (D.fused = true) := hf
    have HZ : Hid (D.fz = D.left) := hz
    clear hf hz
    by_cases h0 : D.left = 0
    · have hm : D.may = false := by unfold Dv.may; rw [HF.out, h0]; rfl
      rw [h0] at c1
      rw [hm]
      clear h0 hm
      go_enter Tryd.func96, Tryd.ntmps96
      go_wp2_with fail
      go_ret
      exact ⟨rfl, fun _ => rfl, fun h => by cases h⟩
    · have hm : D.may = true := by unfold Dv.may; rw [HF.out]; simp [h0]
      rw [hm]
      obtain ⟨l0, l1⟩ := hl
      have hp : (0 : Int) < D.left := by omega
      have hbz : D.burnt.fz = D.left - 1 := by unfold Dv.burnt Dv.fz; rw [if_pos HF.out, if_pos HF.out]
      have hc := (HD.out.cel.set 20 (by omega) (.int .i64 (D.left - 1))).congr (g := rcell D.burnt lv av wv) (fun j hj => by rw [← hbz]; exact rcell_fuse D D.burnt lv av wv (by unfold Dv.burnt; rw [if_pos HF.out]) (by unfold Dv.burnt; rw [if_pos HF.out]) j hj)
      have hr : Ref (w.setCell ⟨rb, 20, none⟩ (.int .i64 (D.left - 1))) rb N D.burnt lv av wv := by
        refine ⟨hc, fun z hz => ?_, ?_, ?_, HD.out.apart, HD.out.lt, by have := HD.out.le; simpa [World.setCell] using this⟩
        · have e1 : D.burnt.cnt = D.cnt := by unfold Dv.burnt; rw [if_pos HF.out]
          have e2 : D.burnt.blk = D.blk := by unfold Dv.burnt; rw [if_pos HF.out]
          rw [e1, e2]
          exact ownsRow_setCell_below (HD.out.row z hz) HD.out.lt _
        · have e1 : D.burnt.ws = D.ws := by unfold Dv.burnt; rw [if_pos HF.out]
          rw [e1]
          exact ownsRow_setCell_below HD.out.at_ HD.out.lt _
        · have e1 : D.burnt.ws = D.ws := by unfold Dv.burnt; rw [if_pos HF.out]
          rw [e1]
          exact ownsRow_setCell_below HD.out.what HD.out.lt _
      have HR : Hid (Ref (w.setCell ⟨rb, 20, none⟩ (.int .i64 (D.left - 1))) rb N D.burnt lv av wv) := hr
      clear hm hbz hc hr h0
      go_enter Tryd.func96, Tryd.ntmps96
      go_wp2_with fail
      go_ret
      exact ⟨rfl, fun h => (by cases h), fun _ => ⟨HR.out, Fr.setCell _ _ _ _ _⟩⟩
  · have hf' : D.fused = false := by simpa using hf
    have hz : D.fz = -1 := by unfold Dv.fz; rw [if_neg hf]
    have hm : D.may = true := by unfold Dv.may; rw [hf']; rfl
    have hb : D.burnt = D := by unfold Dv.burnt; rw [if_neg hf]
    rw [hz] at c1
    rw [hm, hb]
    clear hf hf' hz hm hb
    go_enter Tryd.func96, Tryd.ntmps96
    go_wp2_with fail
    go_ret
    exact ⟨rfl, fun h => (by cases h), fun _ => ⟨HD.out, Fr.refl _ _ _⟩⟩

theorem iz_true {z : Nat} (h : z < 8) : (decide ((0 : Int) ≤ (z : Int)) && decide ((z : Int) ≤ 7)) = true := by simp; omega
theorem iz_false {z : Int} (h : ¬ (0 ≤ z ∧ z < 8)) : (decide (0 ≤ z) && decide (z ≤ 7)) = false := by simp; omega
theorem is_true {z : Nat} (h : z < 2) : (decide ((0 : Int) ≤ (z : Int)) && decide ((z : Int) ≤ 1)) = true := by simp; omega
theorem is_false {z : Int} (h : ¬ (0 ≤ z ∧ z < 2)) : (decide (0 ≤ z) && decide (z ≤ 1)) = false := by simp; omega

theorem have_bad (rb : Nat) (z : Int) (w : World) (hz : ¬ (0 ≤ z ∧ z < 8)) :
    Calls Tryd.prog 46 #[.pointer (some ⟨rb, 0, none⟩), .int .i64 z] w fun e w' => e = .returned (.tuple #[.int .i64 0, .int .i64 2]) ∧ w' = w := by
  have hh := iz_false hz
  go_enter Tryd.func46, Tryd.ntmps46
  go_wp2_with fail
  refine (in_any _ _ _ _).mono ?_
  rintro e w' ⟨rfl, rfl⟩
  rw [hh]
  go_wp2_with fail
  go_ret2
  exact ⟨rfl, rfl⟩
theorem have_any (D : Dv) (lv : Nat → Value) (av wv : Value) (rb N z : Nat) (w : World) (hd : Ref w rb N D lv av wv) (hz : z < 8) :
    Calls Tryd.prog 46 #[.pointer (some ⟨rb, 0, none⟩), .int .i64 z] w fun e w' => e = .returned (.tuple #[.int .i64 (D.cnt z), .int .i64 0]) ∧ w' = w := by
  have hh := iz_true hz
  have hz2 : (z : Int) < 8 := by omega
  have c1 := hd.cel.cell z (by omega)
  rw [rcell_l _ _ _ _ z hz] at c1
  obtain ⟨a, c, e, _⟩ : ∃ a c, lv z = .slice a (D.cnt z) c ∧ True := by
    rcases (hd.row z hz).2 with ⟨h1, h0⟩ | ⟨g, cap, cur, h1, _⟩
    · exact ⟨none, 0, by rw [h1, h0], trivial⟩
    · exact ⟨_, _, h1, trivial⟩
  rw [e] at c1
  clear e hd
  go_enter Tryd.func46, Tryd.ntmps46
  go_wp2_with fail
  refine (in_any _ _ _ _).mono ?_
  rintro e w' ⟨rfl, rfl⟩
  rw [hh]
  go_wp2_with fail
  go_ret2
  exact ⟨rfl, rfl⟩
theorem rread_bad (rb : Nat) (z k : Int) (w : World) (hz : ¬ (0 ≤ z ∧ z < 8)) :
    Calls Tryd.prog 48 #[.pointer (some ⟨rb, 0, none⟩), .int .i64 z, .int .i64 k] w fun e w' => e = .returned (.tuple #[.string ⟨#[]⟩, .int .i64 2]) ∧ w' = w := by
  have hh := iz_false hz
  go_enter Tryd.func48, Tryd.ntmps48
  go_wp2_with fail
  refine (in_any _ _ _ _).mono ?_
  rintro e w' ⟨rfl, rfl⟩
  rw [hh]
  go_wp2_with fail
  go_ret2
  exact ⟨rfl, rfl⟩
theorem rread_any (D : Dv) (lv : Nat → Value) (av wv : Value) (rb N z k : Nat) (w : World) (hd : Ref w rb N D lv av wv) (hz : z < 8) (hk : k < D.cnt z) (h16 : D.cnt z ≤ 16) :
    Calls Tryd.prog 48 #[.pointer (some ⟨rb, 0, none⟩), .int .i64 z, .int .i64 k] w fun e w' => e = .returned (.tuple #[.string (txt 128 (D.blk z k)), .int .i64 0]) ∧ w' = w := by
  have hh := iz_true hz
  have hz2 : (z : Int) < 8 := by omega
  have c1 := hd.cel.cell z (by omega)
  rw [rcell_l _ _ _ _ z hz] at c1
  obtain ⟨g, cap, e, c2⟩ : ∃ g cap, lv z = .slice (some ⟨g, 0, none⟩) (D.cnt z) cap ∧ w.cell? ⟨g, k, none⟩ = some (.string (txt 128 (D.blk z k))) := by
    rcases (hd.row z hz).2 with ⟨_, h0⟩ | ⟨g, cap, cur, h1, h2, h3, h4, h5, h6, h7⟩
    · omega
    · refine ⟨g, cap, h1, ?_⟩
      have e : (blks (D.blk z) (D.cnt z))[k]? = some (.string (txt 128 (D.blk z k))) := by simp [blks, hk]
      rw [← h7, List.getElem?_take_of_lt (by omega), Array.getElem?_toList] at e
      simp [World.cell?, h3, e]
  rw [e] at c1
  clear e hd
  have hk2 : (k : Int) < D.cnt z := by omega
  have hin : (decide ((0 : Int) ≤ (k : Int)) && decide ((k : Int) ≤ (D.cnt z : Int) - 1)) = true := by simp; omega
  go_enter Tryd.func48, Tryd.ntmps48
  go_wp2_with fail
  refine (in_any _ _ _ _).mono ?_
  rintro e w' ⟨rfl, rfl⟩
  rw [hh]
  go_wp2_with fail
  refine (in_any _ _ _ _).mono ?_
  rintro e w' ⟨rfl, rfl⟩
  rw [hin]
  go_wp2_with fail
  go_ret2
  exact ⟨rfl, rfl⟩
theorem rread_miss (D : Dv) (lv : Nat → Value) (av wv : Value) (rb N z : Nat) (k : Int) (w : World) (hd : Ref w rb N D lv av wv) (hz : z < 8) (hk : ¬ (0 ≤ k ∧ k < D.cnt z)) (h16 : D.cnt z ≤ 16) :
    Calls Tryd.prog 48 #[.pointer (some ⟨rb, 0, none⟩), .int .i64 z, .int .i64 k] w fun e w' => e = .returned (.tuple #[.string ⟨#[]⟩, .int .i64 7]) ∧ w' = w := by
  have hh := iz_true hz
  have hz2 : (z : Int) < 8 := by omega
  have c1 := hd.cel.cell z (by omega)
  rw [rcell_l _ _ _ _ z hz] at c1
  obtain ⟨a, c, e, _⟩ : ∃ a c, lv z = .slice a (D.cnt z) c ∧ True := by
    rcases (hd.row z hz).2 with ⟨h1, h0⟩ | ⟨g, cap, cur, h1, _⟩
    · exact ⟨none, 0, by rw [h1, h0], trivial⟩
    · exact ⟨_, _, h1, trivial⟩
  rw [e] at c1
  clear e hd
  have hin : (decide ((0 : Int) ≤ k) && decide (k ≤ (D.cnt z : Int) - 1)) = false := by simp; omega
  go_enter Tryd.func48, Tryd.ntmps48
  go_wp2_with fail
  refine (in_any _ _ _ _).mono ?_
  rintro e w' ⟨rfl, rfl⟩
  rw [hh]
  go_wp2_with fail
  refine (in_any _ _ _ _).mono ?_
  rintro e w' ⟨rfl, rfl⟩
  rw [hin]
  go_wp2_with fail
  go_ret2
  exact ⟨rfl, rfl⟩
end Go.Proofs.YtjfhggcjdckfgaaDoor
