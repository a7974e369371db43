/- burn, At, Read, add, Append. -/
import Derived.Test.YtjfhggcjdckfgaaDoorZ1
import Derived.Lib.ConvBytes
namespace Go.Proofs.YtjfhggcjdckfgaaDoor
set_option linter.unusedSimpArgs false
set_option linter.unusedVariables false
open Go.RowKit

/-- the fuse lets something be done -/
def Dv.may (D : Dv) : Bool := !D.fused || decide (D.left ≠ 0)
/-- one off the fuse -/
def Dv.burnt (D : Dv) : Dv := if D.fused then { D with left := D.left - 1 } else D

theorem burn_off (D : Dv) (v : Value) (b : Nat) (w : World) (hd : Dev w b D v) (hf : D.fused = false) :
    Calls Tryd.prog 100 #[.pointer (some ⟨b, 0, none⟩)] w fun e w' => e = .returned (.bool true) ∧ w' = w := by
  have c1 := hd.cel.cell 17401 (by omega)
  rw [dcell_fused, hf] at c1
  go_enter Tryd.func100, Tryd.ntmps100
  go_wp2_with fail
  go_ret
  exact ⟨rfl, rfl⟩
theorem burn_no (D : Dv) (v : Value) (b : Nat) (w : World) (hd : Dev w b D v) (hf : D.fused = true) (hl : D.left = 0) :
    Calls Tryd.prog 100 #[.pointer (some ⟨b, 0, none⟩)] w fun e w' => e = .returned (.bool false) ∧ w' = w := by
  have c1 := hd.cel.cell 17401 (by omega)
  rw [dcell_fused, hf] at c1
  have c2 := hd.cel.cell 17402 (by omega)
  rw [dcell_left, hl] at c2
  go_enter Tryd.func100, Tryd.ntmps100
  go_wp2_with fail
  go_ret
  exact ⟨rfl, rfl⟩
theorem burn_yes (D : Dv) (v : Value) (b : Nat) (w : World) (hd : Dev w b D v) (hf : D.fused = true) (hl : D.left ≠ 0) :
    Calls Tryd.prog 100 #[.pointer (some ⟨b, 0, none⟩)] w fun e w' => e = .returned (.bool true) ∧ w' = w.setCell ⟨b, 17402, none⟩ (.int .i64 (D.left - 1)) := by
  have c1 := hd.cel.cell 17401 (by omega)
  rw [dcell_fused, hf] at c1
  have c2 := hd.cel.cell 17402 (by omega)
  rw [dcell_left] at c2
  have f2 := hd.cel.frozen 17402 (by omega)
  have hl0 := hd.ok.left
  clear hd
  obtain ⟨h0, h1⟩ := hl0
  go_enter Tryd.func100, Tryd.ntmps100
  go_wp2_with fail
  go_ret
  exact ⟨rfl, rfl⟩
theorem burnt_dev (D : Dv) (v : Value) (b : Nat) (w : World) (hd : Dev w b D v) (hf : D.fused = true) (hl : D.left ≠ 0) : Dev (w.setCell ⟨b, 17402, none⟩ (.int .i64 (D.left - 1))) b D.burnt v := by
  have hl0 := hd.ok.left
  refine hd.turn ((hd.cel.set 17402 (by omega) _).congr (fun j hj => ?_)) (Fr.setCell _ _ _ _ _) (by simp [Dv.burnt, hf]) ?_
  · unfold updv Dv.burnt
    rw [if_pos hf]
    by_cases e : j = 17402
    · subst e; rw [if_pos rfl, dcell_left]
    · rw [if_neg e]
      unfold dcell
      have h3 : j < 16400 ∨ (¬ j < 16400 ∧ j < 17400) ∨ j = 17400 ∨ j = 17401 := by omega
      rcases h3 with h | ⟨h, h'⟩ | rfl | rfl
      · rw [if_pos h, if_pos h]
      · rw [if_neg h, if_neg h, if_pos h', if_pos h']
      · rfl
      · rfl
  · have := hd.ok
    unfold Dv.burnt
    rw [if_pos hf]
    exact ⟨this.cnt, this.sure, this.zero, by show 0 ≤ D.left - 1 ∧ D.left - 1 ≤ _; omega, this.ws, this.few⟩
/-- burn, whatever the fuse is -/
theorem burn_any (D : Dv) (v : Value) (b : Nat) (w : World) (hd : Dev w b D v) :
    Calls Tryd.prog 100 #[.pointer (some ⟨b, 0, none⟩)] w fun e w' => e = .returned (.bool D.may) ∧ (D.may = false → w' = w) ∧ (D.may = true → Dev w' b D.burnt v ∧ Fr b none w w') := by
  by_cases hf : D.fused = true
  · by_cases hl : D.left = 0
    · refine (burn_no D v b w hd hf hl).mono ?_
      rintro e w' ⟨rfl, rfl⟩
      have hm : D.may = false := by simp [Dv.may, hf, hl]
      exact ⟨by rw [hm], fun _ => rfl, fun h => by rw [hm] at h; cases h⟩
    · refine (burn_yes D v b w hd hf hl).mono ?_
      rintro e w' ⟨rfl, rfl⟩
      have hm : D.may = true := by simp [Dv.may, hf, hl]
      exact ⟨by rw [hm], (fun h => by rw [hm] at h; cases h), fun _ => ⟨burnt_dev D v b w hd hf hl, Fr.setCell _ _ _ _ _⟩⟩
  · have hf' : D.fused = false := by simpa using hf
    refine (burn_off D v b w hd hf').mono ?_
    rintro e w' ⟨rfl, rfl⟩
    have hm : D.may = true := by simp [Dv.may, hf']
    exact ⟨by rw [hm], fun _ => rfl, fun _ => ⟨by unfold Dv.burnt; rw [if_neg hf]; exact hd, Fr.refl _ _ _⟩⟩

theorem at_bad (b : Nat) (z : Int) (w : World) (hz : ¬ (0 ≤ z ∧ z < 8)) :
    Calls Tryd.prog 47 #[.pointer (some ⟨b, 0, none⟩), .int .i64 z] w fun e w' => e = .returned (.tuple #[.int .i64 0, .iface 30 (.int .i64 2)]) ∧ w' = w := by
  have hh : (decide (0 ≤ z) && decide (z < 8)) = false := by simp; omega
  go_enter Tryd.func47, Tryd.ntmps47
  go_wp2_with fail
  refine (orNew_any _ _).mono ?_
  rintro e w' ⟨rfl, rfl⟩
  go_wp2_with fail
  refine (hasZone_any _ _).mono ?_
  rintro e w' ⟨rfl, rfl⟩
  rw [hh]
  go_wp2_with fail
  go_ret2
  exact ⟨rfl, rfl⟩
theorem at_any (D : Dv) (v : Value) (b z : Nat) (w : World) (hd : Dev w b D v) (hz : z < 8) :
    Calls Tryd.prog 47 #[.pointer (some ⟨b, 0, none⟩), .int .i64 z] w fun e w' => e = .returned (.tuple #[.int .i64 (D.cnt z), .nilIface]) ∧ w' = w := by
  have hh : (decide (0 ≤ (z : Int)) && decide ((z : Int) < 8)) = true := by simp; omega
  have c1 := hd.cel.cell (z * 2050 + 2048) (by omega)
  rw [dcell_cnt D v z hz] at c1
  go_enter Tryd.func47, Tryd.ntmps47
  go_wp2_with fail
  refine (orNew_any _ _).mono ?_
  rintro e w' ⟨rfl, rfl⟩
  go_wp2_with fail
  refine (hasZone_any _ _).mono ?_
  rintro e w' ⟨rfl, rfl⟩
  rw [hh]
  have hz2 : (z : Int) < 8 := by omega
  go_wp2_with fail
  go_ret2
  exact ⟨rfl, rfl⟩
theorem read_bad (b : Nat) (z k : Int) (w : World) (hz : ¬ (0 ≤ z ∧ z < 8)) :
    Calls Tryd.prog 49 #[.pointer (some ⟨b, 0, none⟩), .int .i64 z, .int .i64 k] w fun e w' => e = .returned (.tuple #[.string ⟨#[]⟩, .iface 30 (.int .i64 2)]) ∧ w' = w := by
  have hh : (decide (0 ≤ z) && decide (z < 8)) = false := by simp; omega
  go_enter Tryd.func49, Tryd.ntmps49
  go_wp2_with fail
  refine (orNew_any _ _).mono ?_
  rintro e w' ⟨rfl, rfl⟩
  go_wp2_with fail
  refine (hasZone_any _ _).mono ?_
  rintro e w' ⟨rfl, rfl⟩
  rw [hh]
  go_wp2_with fail
  go_ret2
  exact ⟨rfl, rfl⟩
theorem read_miss (D : Dv) (v : Value) (b z : Nat) (k : Int) (w : World) (hd : Dev w b D v) (hz : z < 8) (hk : ¬ (0 ≤ k ∧ k < D.cnt z)) :
    Calls Tryd.prog 49 #[.pointer (some ⟨b, 0, none⟩), .int .i64 z, .int .i64 k] w fun e w' => e = .returned (.tuple #[.string ⟨#[]⟩, .iface 30 (.int .i64 7)]) ∧ w' = w := by
  have hh : (decide (0 ≤ (z : Int)) && decide ((z : Int) < 8)) = true := by simp; omega
  have c1 := hd.cel.cell (z * 2050 + 2048) (by omega)
  rw [dcell_cnt D v z hz] at c1
  have hz2 : (z : Int) < 8 := by omega
  by_cases hk0 : k < 0
  · go_enter Tryd.func49, Tryd.ntmps49
    go_wp2_with fail
    refine (orNew_any _ _).mono ?_
    rintro e w' ⟨rfl, rfl⟩
    go_wp2_with fail
    refine (hasZone_any _ _).mono ?_
    rintro e w' ⟨rfl, rfl⟩
    rw [hh]
    go_wp2_with fail
    go_ret2
    exact ⟨rfl, rfl⟩
  · have hk1 : ((D.cnt z : Nat) : Int) ≤ k := by omega
    go_enter Tryd.func49, Tryd.ntmps49
    go_wp2_with fail
    refine (orNew_any _ _).mono ?_
    rintro e w' ⟨rfl, rfl⟩
    go_wp2_with fail
    refine (hasZone_any _ _).mono ?_
    rintro e w' ⟨rfl, rfl⟩
    rw [hh]
    go_wp2_with fail
    go_ret2
    exact ⟨rfl, rfl⟩
theorem conv_txt (w : World) (b o n cap : Nat) (f : Nat → UInt8) (hb : ∀ i, i < n → w.cell? ⟨b, o + i, none⟩ = some (bv (f i))) :
    (convert 120 9 (.slice (some ⟨b, o, none⟩) n cap)).run Tryd.prog w = .ok (.string (txt n f)) w := by
  have h := run_convert_bytes_arg (P := Tryd.prog) w 120 5 Tryd.underlying120 Tryd.underlying5 b o n cap ((List.range n).map fun i => ((f i).toNat : Int)) (by simp) (fun i hi => by
    have hi' : i < n := by simpa using hi
    rw [hb i hi']; simp [bv, hi']) 9 Tryd.underlying9
  rw [h]
  have e : strOfNums ((List.range n).map fun i => ((f i).toNat : Int)) = txt n f := by
    unfold txt strOfNums
    simp
  rw [e]
set_option maxRecDepth 100000 in
theorem read_any (D : Dv) (v : Value) (b z k : Nat) (w : World) (hd : Dev w b D v) (hz : z < 8) (hk : k < D.cnt z) :
    Calls Tryd.prog 49 #[.pointer (some ⟨b, 0, none⟩), .int .i64 z, .int .i64 k] w fun e w' => e = .returned (.tuple #[.string (txt 128 (D.blk z k)), .nilIface]) ∧ w' = w := by
  have hh : (decide (0 ≤ (z : Int)) && decide ((z : Int) < 8)) = true := by simp; omega
  have hc16 := hd.ok.cnt z hz
  have c1 := hd.cel.cell (z * 2050 + 2048) (by omega)
  rw [dcell_cnt D v z hz] at c1
  have hz2 : (z : Int) < 8 := by omega
  have hk2 : (k : Int) < D.cnt z := by omega
  have hk3 : (k : Int) < 16 := by omega
  have hcv := conv_txt w b (z * 2050 + k * 128) 128 128 (D.blk z k) (fun i hi => by rw [hd.cel.cell _ (by omega), dcell_blk D v z k i hz (by omega) hi])
  go_enter Tryd.func49, Tryd.ntmps49
  go_wp2_with fail
  refine (orNew_any _ _).mono ?_
  rintro e w' ⟨rfl, rfl⟩
  go_wp2_with fail
  refine (hasZone_any _ _).mono ?_
  rintro e w' ⟨rfl, rfl⟩
  rw [hh]
  go_wp2_with fail
  go_ret2
  exact ⟨rfl, rfl⟩
end Go.Proofs.YtjfhggcjdckfgaaDoor
