/- A text with its length ahead and 0 behind: the program's filled and emptied, the reference's zeros and long. -/
import Derived.Test.YtjfhggcjdckfgaaDoorZ0
import Derived.Test.YtjfhggcjdckfgaaDoorSh
import Derived.Deep.QuietTactic
import Derived.BigQuiet
import Derived.Deep.RegionWith
namespace Go.Proofs.YtjfhggcjdckfgaaDoor
set_option linter.unusedSimpArgs false
set_option linter.unusedVariables false
set_option maxRecDepth 100000
namespace Sl
open Go.RowKit

theorem sb_zero (s : ByteArray) (i : Nat) (h : s.size ≤ i) : sb s i = 0 := by
  have hsz : s.data.size = s.size := rfl
  unfold sb
  rw [Array.getElem?_eq_none (by omega)]
  rfl
theorem conv_txt (w : World) (b o n cap : Nat) (f : Nat → UInt8) (hb : ∀ i, i < n → w.cell? ⟨b, o + i, none⟩ = some (bv (f i))) :
    (convert 120 9 (.slice (some ⟨b, o, none⟩) n cap)).run Tryd.prog w = .ok (.string (txt n f)) w := by
  have h := run_convert_bytes_arg (P := Tryd.prog) w 120 5 Tryd.underlying120 Tryd.underlying5 b o n cap ((List.range n).map fun i => ((f i).toNat : Int)) (by simp) (fun i hi => by
    have hi' : i < n := by simpa using hi
    rw [hb i hi']; simp [bv, hi']) 9 Tryd.underlying9
  rw [h]
  have e : strOfNums ((List.range n).map fun i => ((f i).toNat : Int)) = txt n f := by
    unfold txt strOfNums
    simp
  rw [e]
theorem first_bytes (s : ByteArray) (n : Nat) (hn : n ≤ s.size) : (s.data.toList.map fun b => Value.int .u8 (b.toNat : Int)).take n = brow n (fun i => bv (sb s i)) := by
  have hsz : s.data.size = s.size := rfl
  apply brow_of
  · simp; omega
  · intro j hj
    rw [List.getElem?_take_of_lt hj, List.getElem?_map, Array.getElem?_toList, Array.getElem?_eq_getElem (by omega)]
    unfold bv sb
    rw [Array.getElem?_eq_getElem (by omega)]
    rfl
theorem copy_str (w : World) (ty b o m cap n : Nat) (f : Nat → Value) (s : ByteArray) (hc : Cel w b n f) (hm : o + m ≤ n) :
    (Builtin.copy_ #[120, 9] ty #[.slice (some ⟨b, o, none⟩) m cap, .string s]).run Tryd.prog w = .ok (.int .i64 ((min s.size m : Nat) : Int)) (w.setCells b o (brow (min s.size m) (fun i => bv (sb s i)))) := by
  have hst := hc.store Tryd.prog o (min s.size m) (by omega) (fun i => bv (sb s i)) (fun _ _ => rfl)
  have hfb := first_bytes s (min s.size m) (Nat.min_le_left _ _)
  have hz : (Go.sizeOf 5).run Tryd.prog w = .ok 1 w := Tryd.sizeOf5 w
  have hmin : s.size.min m = min s.size m := rfl
  simp [Builtin.copy_, run_underlying Tryd.underlying120, Builtin.lenOf, Builtin.firstCells, hz]
  rw [hmin, hfb, hst]
  rfl
theorem rep0 (n : Nat) : (⟨(Lib.repeatL (⟨#[0]⟩ : ByteArray).data.toList n).toArray⟩ : ByteArray) = txt n (fun _ => 0) := by
  have e : ∀ n, Lib.repeatL [0] n = List.replicate n 0 := fun n => by
    induction n with
    | zero => rfl
    | succ n ih => simp [Lib.repeatL, List.replicate_succ] at ih ⊢; exact ih
  unfold txt
  congr 2
  show Lib.repeatL [0] n = _
  rw [e]
  apply List.ext_getElem?
  intro i
  by_cases h : i < n
  · simp [h]
  · simp [h]
theorem zeros_any (n : Nat) (w : World) (hn : n ≤ 1000) : Calls Tryd.prog 95 #[.int .i64 (n : Int)] w fun e w' => e = .returned (.string (txt n (fun _ => 0))) ∧ Since w w' := by
  go_enter Tryd.func95, Tryd.ntmps95
  go_wp2_with fail
  refine (repeat_any ⟨#[0]⟩ n _ (by omega) (by show 1 * n ≤ _; omega)).mono ?_
  rintro e w' ⟨rfl, hS⟩
  rw [rep0]
  have hS2 : Since w w' := hS
  clear hS
  go_wp2_with fail
  go_ret
  exact ⟨rfl, hS2⟩
/-- a text and 0 behind it, up to m bytes -/
theorem padm (s : ByteArray) (m : Nat) (h : s.size ≤ m) : s ++ txt (m - s.size) (fun _ => 0) = txt m (sb s) := by
  have hsz : s.data.size = s.size := rfl
  apply ByteArray.ext
  apply Array.ext_getElem?
  intro i
  have e1 : (txt m (sb s)).data[i]? = ((List.range m).map (sb s))[i]? := by unfold txt; exact List.getElem?_toArray ..
  rw [e1, ByteArray.data_append, Array.getElem?_append, List.getElem?_map]
  by_cases h1 : i < s.size
  · rw [if_pos (by omega), List.getElem?_range (by omega)]
    simp only [Option.map_some]
    unfold sb
    rw [Array.getElem?_eq_getElem (by omega)]
    rfl
  · rw [if_neg (by omega)]
    have e2 : (txt (m - s.size) (fun _ => 0)).data[i - s.data.size]? = ((List.range (m - s.size)).map (fun _ => (0 : UInt8)))[i - s.data.size]? := by unfold txt; exact List.getElem?_toArray ..
    rw [e2, List.getElem?_map]
    by_cases h2 : i < m
    · rw [List.getElem?_range (by omega), List.getElem?_range (by omega)]
      simp only [Option.map_some]
      rw [sb_zero s i (by omega)]
    · rw [List.getElem?_eq_none (by simp; omega), List.getElem?_eq_none (by simp; omega)]
      rfl
theorem cutm (s : ByteArray) (m : Nat) (h : m ≤ s.size) : s.extract 0 m = txt m (sb s) := by
  have hsz : s.data.size = s.size := rfl
  apply ByteArray.ext
  apply Array.ext_getElem?
  intro i
  have e1 : (txt m (sb s)).data[i]? = ((List.range m).map (sb s))[i]? := by unfold txt; exact List.getElem?_toArray ..
  rw [e1, List.getElem?_map, ByteArray.data_extract, Array.getElem?_extract]
  by_cases h1 : i < m
  · rw [if_pos (by omega), List.getElem?_range (by omega), Nat.zero_add]
    simp only [Option.map_some]
    unfold sb
    rw [Array.getElem?_eq_getElem (by omega)]
    rfl
  · rw [if_neg (by omega), List.getElem?_eq_none (by simp; omega)]
    rfl
set_option maxHeartbeats 1000000 in
theorem rlong_any (s : ByteArray) (m : Nat) (w : World) (hm : m ≤ 1000) : Calls Tryd.prog 97 #[.string s, .int .i64 (m : Int)] w fun e w' => e = .returned (.string (txt m (sb s))) ∧ Since w w' := by
  by_cases h : s.size < m
  · have h2 : (s.size : Int) < m := by omega
    have E1 : Hid ((m : Int) - s.size = ((m - s.size : Nat) : Int)) := show (m : Int) - s.size = ((m - s.size : Nat) : Int) by omega
    have HP : Hid (s ++ txt (m - s.size) (fun _ => 0) = txt m (sb s)) := padm s m (by omega)
    go_enter Tryd.func97, Tryd.ntmps97
    go_wp2_with fail
    rw [E1.out]
    refine (zeros_any _ _ (by omega)).mono ?_
    rintro e w' ⟨rfl, hS⟩
    have hz : (txt (m - s.size) (fun _ => 0)).size = m - s.size := txt_size _ _
    have hz2 : (txt m (sb s)).size = m := txt_size _ _
    have hcut : (txt m (sb s)).extract 0 m = txt m (sb s) := by rw [cutm _ m (by rw [txt_size]; omega)]; exact txt_congr (fun i hi => sb_txt m _ i hi)
    have hsum : s.size + (txt (m - s.size) (fun _ => 0)).size ≤ 9223372036854775807 := by omega
    go_wp2_with fail
    rw [HP.out]
    go_wp2_with fail
    rw [hcut]
    go_ret
    exact ⟨rfl, hS⟩
  · have h2 : ¬ (s.size : Int) < m := by omega
    have hc := cutm s m (by omega)
    go_enter Tryd.func97, Tryd.ntmps97
    go_wp2_with fail
    go_ret
    first | exact ⟨rfl, Since.refl _⟩ | exact ⟨by rw [hc], Since.refl _⟩

/-- byte j of a text of 81 bytes: how many bytes s has, s, and 0 up to 80 -/
def fillF (s : ByteArray) (j : Nat) : UInt8 := if j = 0 then UInt8.ofNat s.size else sb s (j - 1)
def fill (s : ByteArray) : ByteArray := txt 81 (fillF s)
theorem fill_size (s : ByteArray) : (fill s).size = 81 := txt_size _ _
/-- the reference's way -/
theorem fill_ref (s : ByteArray) (h : s.size ≤ 80) : strOfNums [(s.size : Int)] ++ txt 80 (sb s) = fill s := by
  apply ByteArray.ext
  apply Array.ext_getElem?
  intro i
  have e1 : (fill s).data[i]? = ((List.range 81).map (fillF s))[i]? := by unfold fill txt; exact List.getElem?_toArray ..
  have e2 : (txt 80 (sb s)).data = ((List.range 80).map (sb s)).toArray := rfl
  rw [e1, ByteArray.data_append, List.getElem?_map, e2]
  have e3 : (strOfNums [(s.size : Int)]).data = #[UInt8.ofNat s.size] := by simp [strOfNums]
  rw [e3, Array.getElem?_append]
  by_cases h0 : i = 0
  · subst h0
    simp [fillF]
  · rw [if_neg (by simp; omega)]
    simp only [List.getElem?_toArray, List.getElem?_map]
    by_cases h2 : i < 81
    · rw [List.getElem?_range (by simp; omega), List.getElem?_range (by omega)]
      simp [fillF, h0]
    · rw [List.getElem?_eq_none (by simp; omega), List.getElem?_eq_none (by simp; omega)]
      rfl
end Sl
end Go.Proofs.YtjfhggcjdckfgaaDoor
