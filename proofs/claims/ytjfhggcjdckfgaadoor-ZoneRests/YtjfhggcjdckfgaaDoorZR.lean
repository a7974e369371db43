/- Reset. -/
import Derived.Test.YtjfhggcjdckfgaaDoorZ7
namespace Go.Proofs.YtjfhggcjdckfgaaDoor
set_option linter.unusedSimpArgs false
set_option linter.unusedVariables false
open Go.RowKit

/-- zone z has no blocks -/
def Dv.reset (D : Dv) (z : Nat) : Dv :=
  { D with blk := fun z' k i => if z' = z then 0 else D.blk z' k i, cnt := fun z' => if z' = z then 0 else D.cnt z', sure := fun z' => if z' = z then 0 else D.sure z' }
theorem reset_ok (D : Dv) (z : Nat) (h : D.ok) : (D.reset z).ok where
  cnt z' hz' := by
    show (if z' = z then _ else _) ≤ 16
    split
    · omega
    · exact h.cnt z' hz'
  sure z' hz' := by
    show (if z' = z then _ else _) ≤ (if z' = z then _ else _)
    split
    · omega
    · exact h.sure z' hz'
  zero z' k i hz' hk hk2 hi := by
    show (if z' = z then _ else _) = _
    have hk' : (if z' = z then 0 else D.cnt z') ≤ k := hk
    by_cases e : z' = z
    · rw [if_pos e]
    · rw [if_neg e] at hk' ⊢
      exact h.zero z' k i hz' hk' hk2 hi
  left := h.left
  ws := h.ws
  few := h.few
set_option maxRecDepth 100000 in
theorem reset_dev (D : Dv) (v : Value) (b z : Nat) (w : World) (hd : Dev w b D v) (hz : z < 8) : Dev (w.setCells b (z * 2050) (brow 2050 (scell (fun _ _ => 0) 0 0))) b (D.reset z) v := by
  refine hd.turn ((hd.cel.setRow (z * 2050) 2050 (by omega) _).congr (fun j hj => ?_)) (Fr.setCells _ _ _ _ _) rfl (reset_ok D z hd.ok)
  refine dcell_turn D (D.reset z) v z hz _ (fun j hj => ?_) (fun j hj => ?_) (fun z' h => ?_) (fun z' h => ?_) (fun z' h => ?_) rfl rfl rfl j
  · unfold updl
    rw [if_pos (by omega), show z * 2050 + j - z * 2050 = j by omega]
    have e1 : (D.reset z).blk z = fun _ _ => 0 := by funext k i; simp [Dv.reset]
    have e2 : (D.reset z).cnt z = 0 := by simp [Dv.reset]
    have e3 : (D.reset z).sure z = 0 := by simp [Dv.reset]
    rw [e1, e2, e3]
  · unfold updl
    rw [if_neg (by omega)]
  · funext k i; simp [Dv.reset, h]
  · simp [Dv.reset, h]
  · simp [Dv.reset, h]
theorem reset_bad (b : Nat) (z : Int) (w : World) (hz : ¬ (0 ≤ z ∧ z < 8)) :
    Calls Tryd.prog 31 #[.pointer (some ⟨b, 0, none⟩), .int .i64 z] w fun e w' => e = .returned (.iface 30 (.int .i64 2)) ∧ w' = w := by
  have hh := hz_false hz
  go_enter Tryd.func31, Tryd.ntmps31
  go_wp2_with fail
  refine (orNew_any _ _).mono ?_
  rintro e w' ⟨rfl, rfl⟩
  go_wp2_with fail
  refine (hasZone_any _ _).mono ?_
  rintro e w' ⟨rfl, rfl⟩
  rw [hh]
  go_wp2_with fail
  go_ret
  exact ⟨rfl, rfl⟩
theorem reset_spent (D : Dv) (v : Value) (b z : Nat) (w : World) (hd : Dev w b D v) (hz : z < 8) (hm : D.may = false) :
    Calls Tryd.prog 31 #[.pointer (some ⟨b, 0, none⟩), .int .i64 z] w fun e w' => e = .returned (.iface 30 (.int .i64 14)) ∧ w' = w := by
  have hh := hz_true hz
  go_enter Tryd.func31, Tryd.ntmps31
  go_wp2_with fail
  refine (orNew_any _ _).mono ?_
  rintro e w' ⟨rfl, rfl⟩
  go_wp2_with fail
  refine (hasZone_any _ _).mono ?_
  rintro e w' ⟨rfl, rfl⟩
  rw [hh]
  go_wp2_with fail
  refine (burn_any D v b _ hd).mono ?_
  rintro e w1 ⟨rfl, h1, _⟩
  obtain rfl := h1 hm
  rw [hm]
  go_wp2_with fail
  go_ret
  exact ⟨rfl, rfl⟩
set_option maxRecDepth 100000 in
theorem reset_any (D : Dv) (v : Value) (b z : Nat) (w : World) (hd : Dev w b D v) (hz : z < 8) (hm : D.may = true) :
    Calls Tryd.prog 31 #[.pointer (some ⟨b, 0, none⟩), .int .i64 z] w fun e w' => e = .returned .nilIface ∧ Dev w' b (D.burnt.reset z) v ∧ Fr b none w w' := by
  have hh := hz_true hz
  have hz2 : (z : Int) < 8 := by omega
  have HD := (show Hid (Dev w b D v) from hd)
  clear hd
  go_enter Tryd.func31, Tryd.ntmps31
  go_wp2_with fail
  refine (orNew_any _ _).mono ?_
  rintro e w' ⟨rfl, rfl⟩
  go_wp2_with fail
  refine (hasZone_any _ _).mono ?_
  rintro e w' ⟨rfl, rfl⟩
  rw [hh]
  go_wp2_with fail
  refine (burn_any D v b _ HD.out).mono ?_
  rintro e w1 ⟨rfl, _, h1⟩
  obtain ⟨hd1, hf1⟩ := h1 hm
  rw [hm]
  have hst := hd1.cel.store Tryd.prog (z * 2050) 2050 (by omega) (scell (fun _ _ => 0) 0 0) (fun _ _ => scell_one _ _ _ _)
  have hzl := zeroStrip_list
  have HD1 := (show Hid _ from hd1)
  have HF := (show Hid _ from hf1)
  clear h1 hd1 hf1
  go_wp2_with fail
  go_ret
  exact ⟨rfl, reset_dev _ v b z w1 HD1.out hz, HF.out.trans' (Fr.setCells _ _ _ _ _)⟩

end Go.Proofs.YtjfhggcjdckfgaaDoor
