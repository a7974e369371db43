/- crash of a zone. -/
import Derived.Test.YtjfhggcjdckfgaaDoorZ11
import Derived.BigRegion
namespace Go.Proofs.YtjfhggcjdckfgaaDoor
set_option linter.unusedSimpArgs false
set_option linter.unusedVariables false
open Go.RowKit

/-- how many blocks a zone has behind a crash -/
def kept1 (c s : Nat) (keep : Int) : Nat := s + min keep.toNat (c - s)
theorem zcells_get (n j : Nat) (hj : j < n * 128) : (Builtin.zeroCells Tryd.zeroCells146 n)[j]? = some (bv 0) := by
  unfold Builtin.zeroCells
  have hsz := Tryd.zeroCells146_size
  rw [Array.getElem?_map, hsz, Array.getElem?_eq_getElem (by simpa using hj)]
  have h := zeroBlock_get (j % 128) (by omega)
  simp only [Array.getElem_range, Option.map_some]
  rw [getElem!_def, h]
theorem zcells_list (n : Nat) : (Builtin.zeroCells Tryd.zeroCells146 n).toList = brow (n * 128) (fun _ => bv 0) := by
  refine brow_of ?_ (fun j hj => by rw [Array.getElem?_toList]; exact zcells_get n j hj)
  unfold Builtin.zeroCells
  simp [Tryd.zeroCells146_size]
theorem clear_any (w : World) (ty b o m cap n : Nat) (f : Nat → Value) (hc : Cel w b n f) (hm : o + m * 128 ≤ n) :
    (Builtin.clear_ #[200] ty #[.slice (some ⟨b, o, none⟩) m cap]).run Tryd.prog w = .ok (.tuple #[]) (w.setCells b o (brow (m * 128) (fun _ => bv 0))) := by
  cases m with
  | zero =>
    simp [Builtin.clear_, run_underlying Tryd.underlying200, brow, World.setCells]
  | succ m =>
    have hst := hc.store Tryd.prog o ((m + 1) * 128) hm (fun _ => bv 0) (fun _ _ => rfl)
    have hz := Tryd.zeroValue146 w
    have hl := zcells_list (m + 1)
    simp [Builtin.clear_, run_underlying Tryd.underlying200, hz, Value.cells, hl, hst]
theorem clear_if (w : World) (ty b o q n : Nat) (f : Nat → Value) (hc : Cel w b n f) (hm : o + 2048 ≤ n) (hq : q ≤ 16) :
    (Builtin.clear_ #[200] ty #[.slice (some (if 16 = q then ⟨b, o, none⟩ else ⟨b, o + q * 128, none⟩)) (16 - q) (16 - q)]).run Tryd.prog w = .ok (.tuple #[]) (w.setCells b (o + q * 128) (brow ((16 - q) * 128) (fun _ => bv 0))) := by
  by_cases h : 16 = q
  · subst h
    have h1 := clear_any w ty b o 0 0 n f hc (by omega)
    rw [if_pos rfl]
    exact h1
  · rw [if_neg h]
    exact clear_any w ty b (o + q * 128) (16 - q) (16 - q) n f hc (by omega)
/-- a zone's cells behind a crash -/
def crashed (f : Nat → Value) (o k : Nat) : Nat → Value := updl (updv (updv f (o + 2048) (.int .i64 k)) (o + 2049) (.int .i64 k)) (o + k * 128) ((16 - k) * 128) (fun _ => bv 0)
end Go.Proofs.YtjfhggcjdckfgaaDoor
