/- Append, Reset. -/
import Derived.Test.YtjfhggcjdckfgaaDoorZ3
namespace Go.Proofs.YtjfhggcjdckfgaaDoor
set_option linter.unusedSimpArgs false
set_option linter.unusedVariables false
open Go.RowKit

/-- an error's number as an error: 0 is nil -/
def ev (e : Int) : Value := if e = 0 then .nilIface else .iface 30 (.int .i64 e)
theorem hz_true {z : Nat} (h : z < 8) : (decide (0 ≤ (z : Int)) && decide ((z : Int) < 8)) = true := by simp; omega
theorem hz_false {z : Int} (h : ¬ (0 ≤ z ∧ z < 8)) : (decide (0 ≤ z) && decide (z < 8)) = false := by simp; omega
theorem hs_true {z : Nat} (h : z < 2) : (decide (0 ≤ (z : Int)) && decide ((z : Int) < 2)) = true := by simp; omega
theorem hs_false {z : Int} (h : ¬ (0 ≤ z ∧ z < 2)) : (decide (0 ≤ z) && decide (z < 2)) = false := by simp; omega

theorem append_bad (b : Nat) (z : Int) (s : ByteArray) (w : World) (hz : ¬ (0 ≤ z ∧ z < 8)) :
    Calls Tryd.prog 30 #[.pointer (some ⟨b, 0, none⟩), .int .i64 z, .string s] w fun e w' => e = .returned (.tuple #[.int .i64 0, .iface 30 (.int .i64 2)]) ∧ w' = w := by
  have hh := hz_false hz
  go_enter Tryd.func30, Tryd.ntmps30
  go_wp2_with fail
  refine (orNew_any _ _).mono ?_
  rintro e w' ⟨rfl, rfl⟩
  go_wp2_with fail
  refine (hasZone_any _ _).mono ?_
  rintro e w' ⟨rfl, rfl⟩
  rw [hh]
  go_wp2_with fail
  go_ret2
  exact ⟨rfl, rfl⟩
theorem append_long (b z : Nat) (s : ByteArray) (w : World) (hz : z < 8) (hs : 128 < s.size) :
    Calls Tryd.prog 30 #[.pointer (some ⟨b, 0, none⟩), .int .i64 z, .string s] w fun e w' => e = .returned (.tuple #[.int .i64 0, .iface 30 (.int .i64 4)]) ∧ w' = w := by
  have hh := hz_true hz
  have hs2 : (128 : Int) < s.size := by omega
  go_enter Tryd.func30, Tryd.ntmps30
  go_wp2_with fail
  refine (orNew_any _ _).mono ?_
  rintro e w' ⟨rfl, rfl⟩
  go_wp2_with fail
  refine (hasZone_any _ _).mono ?_
  rintro e w' ⟨rfl, rfl⟩
  rw [hh]
  go_wp2_with fail
  go_ret2
  exact ⟨rfl, rfl⟩
theorem append_full (D : Dv) (v : Value) (b z : Nat) (s : ByteArray) (w : World) (hd : Dev w b D v) (hz : z < 8) (hs : s.size ≤ 128) (hc : D.cnt z = 16) :
    Calls Tryd.prog 30 #[.pointer (some ⟨b, 0, none⟩), .int .i64 z, .string s] w fun e w' => e = .returned (.tuple #[.int .i64 0, .iface 30 (.int .i64 12)]) ∧ w' = w := by
  have hh := hz_true hz
  have c1 := hd.cel.cell (z * 2050 + 2048) (by omega)
  rw [dcell_cnt D v z hz, hc] at c1
  have hz2 : (z : Int) < 8 := by omega
  go_enter Tryd.func30, Tryd.ntmps30
  go_wp2_with fail
  refine (orNew_any _ _).mono ?_
  rintro e w' ⟨rfl, rfl⟩
  go_wp2_with fail
  refine (hasZone_any _ _).mono ?_
  rintro e w' ⟨rfl, rfl⟩
  rw [hh]
  go_wp2_with fail
  go_ret2
  exact ⟨rfl, rfl⟩
theorem append_spent (D : Dv) (v : Value) (b z : Nat) (s : ByteArray) (w : World) (hd : Dev w b D v) (hz : z < 8) (hs : s.size ≤ 128) (hc : D.cnt z < 16) (hm : D.may = false) :
    Calls Tryd.prog 30 #[.pointer (some ⟨b, 0, none⟩), .int .i64 z, .string s] w fun e w' => e = .returned (.tuple #[.int .i64 0, .iface 30 (.int .i64 14)]) ∧ w' = w := by
  have hh := hz_true hz
  have c1 := hd.cel.cell (z * 2050 + 2048) (by omega)
  rw [dcell_cnt D v z hz] at c1
  have hz2 : (z : Int) < 8 := by omega
  have hc2 : ¬ ((D.cnt z : Nat) : Int) = 16 := by omega
  go_enter Tryd.func30, Tryd.ntmps30
  go_wp2_with fail
  refine (orNew_any _ _).mono ?_
  rintro e w' ⟨rfl, rfl⟩
  go_wp2_with fail
  refine (hasZone_any _ _).mono ?_
  rintro e w' ⟨rfl, rfl⟩
  rw [hh]
  go_wp2_with fail
  refine (burn_any D v b _ hd).mono ?_
  rintro e w1 ⟨rfl, h1, _⟩
  obtain rfl := h1 hm
  rw [hm]
  go_wp2_with fail
  go_ret2
  exact ⟨rfl, rfl⟩
theorem burnt_cnt (D : Dv) : D.burnt.cnt = D.cnt := by unfold Dv.burnt; split <;> rfl
set_option maxRecDepth 100000 in
theorem append_any (D : Dv) (v : Value) (b z : Nat) (s : ByteArray) (w : World) (hd : Dev w b D v) (hz : z < 8) (hs : s.size ≤ 128) (hc : D.cnt z < 16) (hm : D.may = true) :
    Calls Tryd.prog 30 #[.pointer (some ⟨b, 0, none⟩), .int .i64 z, .string s] w fun e w' => e = .returned (.tuple #[.int .i64 (D.cnt z), .nilIface]) ∧ Dev w' b (D.burnt.app z s) v ∧ Fr b none w w' := by
  have hh := hz_true hz
  have c1 := hd.cel.cell (z * 2050 + 2048) (by omega)
  rw [dcell_cnt D v z hz] at c1
  have hz2 : (z : Int) < 8 := by omega
  have hc2 : ¬ ((D.cnt z : Nat) : Int) = 16 := by omega
  have HD := (show Hid (Dev w b D v) from hd)
  clear hd
  go_enter Tryd.func30, Tryd.ntmps30
  go_wp2_with fail
  refine (orNew_any _ _).mono ?_
  rintro e w' ⟨rfl, rfl⟩
  go_wp2_with fail
  refine (hasZone_any _ _).mono ?_
  rintro e w' ⟨rfl, rfl⟩
  rw [hh]
  go_wp2_with fail
  refine (burn_any D v b _ HD.out).mono ?_
  rintro e w1 ⟨rfl, _, h1⟩
  obtain ⟨hd1, hf1⟩ := h1 hm
  rw [hm]
  have hcb := burnt_cnt D
  go_wp2_with fail
  refine (add_any b (z * 2050) (D.cnt z) 17403 _ s _ hd1.cel (by omega) (by rw [dcell_cnt _ v z hz, hcb]) hc).mono ?_
  rintro e w2 ⟨rfl, hw2⟩
  have hd2 : Dev w2 b (D.burnt.app z s) v := by
    have := app_dev D.burnt v b z s w1 hd1 hz (by rw [hcb]; exact hc)
    rw [hcb] at this
    rw [hw2]
    exact this
  have hf2 : Fr b none w1 w2 := by rw [hw2]; exact app_fr _ _ _ _ _ _ _
  have c2 : w2.cell? ⟨b, z * 2050 + 2048, none⟩ = some (.int .i64 ((D.cnt z : Nat) + 1 : Int)) := by
    rw [hd2.cel.cell (z * 2050 + 2048) (by omega), dcell_cnt _ v z hz]
    simp [Dv.app, hcb]
  have HF := (show Hid (Fr b none w' w2) from hf1.trans' hf2)
  have HD2 := (show Hid _ from hd2)
  clear hw2 hd2 hf1 hf2 hd1 h1 hcb
  go_wp2_with fail
  go_ret2
  exact ⟨by simp, HD2.out, HF.out⟩
end Go.Proofs.YtjfhggcjdckfgaaDoor
