/- Package entry: Print. -/
import Derived.Test.YtceoamhenpohhaaGreatDoorEF
namespace Go.Proofs.YtceoamhenpohhaaGreatDoor
set_option linter.unusedSimpArgs false
set_option linter.unusedVariables false
set_option maxRecDepth 100000
namespace En
open Go.RowKit
def errV (n : Int) : Value := .iface 24 (.int .i64 n)
theorem print_no (l : List Fi) (v : Value) (w : World) (hl : Fls w v l) (hz : Sized l) (hr : right l = false) :
    Calls Tryz.prog 6 #[v] w fun e w' => e = .returned (.tuple #[.string ⟨#[]⟩, errV 1]) ∧ Since w w' := by
  have hra := right_any l v w hl hz
  rw [hr] at hra
  go_enter Tryz.func6, Tryz.ntmps6
  go_wp2_with fail
  refine hra.mono ?_
  rintro e w1 ⟨rfl, h1⟩
  go_wp2_with fail
  go_ret2
  exact ⟨rfl, h1⟩
theorem print_take (l : List Fi) (k : Nat) (f : Fi) (h : l[k]? = some f) : print (l.take (k + 1)) = print (l.take k) ++ line f := by
  rw [List.take_add_one, h]
  simp [print]
theorem print_take_le (l : List Fi) (k : Nat) : (print (l.take k)).length ≤ (print l).length := by
  have : print l = print (l.take k) ++ print (l.drop k) := by
    unfold print
    rw [← List.flatten_append, ← List.map_append, List.take_append_drop]
  rw [this, List.length_append]
  omega
set_option maxHeartbeats 4000000 in
theorem print_yes (l : List Fi) (v : Value) (w : World) (hl : Fls w v l) (hz : Sized l) (hb : Lb w) (hr : right l = true) :
    Calls Tryz.prog 6 #[v] w fun e w' => e = .returned (.tuple #[.string ⟨(print l).toArray⟩, .nilIface]) ∧ Since w w' := by
  have hra := right_any l v w hl hz
  rw [hr] at hra
  obtain ⟨a, c, rfl, hcap, hrest⟩ := hl
  have HL : Hid (Fls w (.slice a l.length c) l) := ⟨a, c, rfl, hcap, hrest⟩
  have HB : Hid (Lb w) := hb
  have HP : Hid ((print l).length ≤ 200) := print_fits hr
  have HG : Hid (∀ f, f ∈ l → Good f) := right_good hr
  have hn8 : l.length ≤ 8 := by
    rw [right, Bool.and_eq_true, decide_eq_true_eq] at hr
    exact hr.1
  clear hrest hb hz hr
  go_enter Tryz.func6, Tryz.ntmps6
  go_wp2_with fail
  refine hra.mono ?_
  rintro e w1 ⟨rfl, h1⟩
  have HS1 : Hid (Since w w1) := h1
  clear h1 hra
  go_upto_region 4 with fail
  have hb0 : Lib.IsBuilderF 51 5 w1.heap.size w1.heap.size [] (w1.alloc (.cells #[.pointer none, .slice none 0 0] 51)) := Lib.IsBuilderF.of (Lib.fresh_isBuilder 51 5 w1)
  have HB0 : Hid (Lib.IsBuilderF 51 5 w1.heap.size w1.heap.size [] (w1.alloc (.cells #[.pointer none, .slice none 0 0] 51))) := hb0
  have HS2 : Hid (Since w1 (w1.alloc (.cells #[.pointer none, .slice none 0 0] 51))) := (Since.refl _).alloc _
  clear hb0
  generalize w1.alloc (.cells #[.pointer none, .slice none 0 0] 51) = w2 at *
  go_wp2_with fail
  go_loopw [13, 6] (fun i _ wr => ∃ k : Nat, k ≤ l.length ∧ i = .int .i64 k ∧ Lib.IsBuilderF 51 5 w1.heap.size w1.heap.size (Lib.byteCells (print (l.take k))) wr ∧ Since w1 wr) (fun i _ _ => l.length - (intOf i).toNat)
  case atStart => exact ⟨0, by omega, rfl, by simpa [print, Lib.byteCells] using HB0.out, HS2.out⟩
  case round =>
    obtain ⟨k, hk, rfl, hbk, hs⟩ := hrel
    have HBK : Hid (Lib.IsBuilderF 51 5 w1.heap.size w1.heap.size (Lib.byteCells (print (l.take k))) wr) := hbk
    have HSK : Hid (Since w1 wr) := hs
    clear hbk hs
    by_cases hlt : k < l.length
    · have hlt2 : (k : Int) < l.length := by omega
      have hE : Hid (l[k]? = some l[k]) := List.getElem?_eq_getElem hlt
      have HGF : Hid (Good l[k]) := HG.out l[k] (List.getElem_mem hlt)
      have HPT : Hid (print (l.take (k + 1)) = print (l.take k) ++ line l[k]) := print_take l k l[k] hE.out
      have HPL : Hid ((print (l.take (k + 1))).length ≤ 200) := Nat.le_trans (print_take_le l (k + 1)) HP.out
      generalize l[k] = f at *
      obtain ⟨kb, ko, cv, rfl, hi, hkb, q0, q1, q2⟩ := (HL.out.since (HS1.out.trans HSK.out)).at_ hE.out
      have HI : Hid (Ints wr cv f.cs) := hi
      clear hi
      obtain ⟨ca, cc, rfl⟩ : ∃ ca cc, cv = .slice ca f.cs.length cc := by
        obtain ⟨ca, cc, h, _⟩ := HI.out
        exact ⟨ca, cc, h⟩
      have HSA : Hid (Since wr (wr.alloc (.cells #[.string f.nm, .int .i64 f.sz, .slice ca f.cs.length cc] 44))) := (Since.refl _).alloc _
      go_wp2_with fail
      refine (line_any f (.slice ca f.cs.length cc) _ HGF.out (HI.out.since HSA.out) (HB.out.since ((HS1.out.trans HSK.out).trans HSA.out))).mono ?_
      rintro e w3 ⟨rfl, h3⟩
      have HB3 : Hid (Lib.IsBuilderF 51 5 w1.heap.size w1.heap.size (Lib.byteCells (print (l.take k))) w3) := builder_since HBK.out (HSA.out.trans h3)
      have HS3 : Hid (Since w1 w3) := (HSK.out.trans HSA.out).trans h3
      clear h3 q0 q1 q2
      have HLS : Hid ((⟨(line f).toArray⟩ : ByteArray).size = (line f).length) := List.size_toArray
      have hll : (Lib.byteCells (print (l.take k))).length + (⟨(line f).toArray⟩ : ByteArray).size ≤ 140737488355328 := by
        rw [Lib.byteCells_length, HLS.out]
        have := HPL.out
        rw [HPT.out, List.length_append] at this
        omega
      have HLL : Hid ((Lib.byteCells (print (l.take k))).length + (⟨(line f).toArray⟩ : ByteArray).size ≤ 140737488355328) := hll
      clear hll
      go_wp2_with fail
      refine (writeString_any w1.heap.size w1.heap.size _ ⟨(line f).toArray⟩ _ HB3.out HLL.out HS3.out.size).mono ?_
      rintro e w4 ⟨rfl, h4, b4, _⟩
      have HS4 : Hid (Since w1 w4) := Below.trans HS3.out b4
      have HB4 : Hid (Lib.IsBuilderF 51 5 w1.heap.size w1.heap.size (Lib.byteCells (print (l.take (k + 1)))) w4) := by
        refine Or.inr ?_
        rw [Lib.strCells_eq] at h4
        rw [HPT.out]
        simpa [Lib.byteCells] using h4
      clear h4 b4
      go_wp2_with fail
      go_roundw
      case rel => exact ⟨k + 1, by omega, by go_num, HB4.out, HS4.out⟩
      case measure => simp [intOf]; omega
    · have hke : k = l.length := by omega
      subst hke
      rw [List.take_length] at HBK
      go_wp2_with fail
      refine (Tryz.Builder_String_any_k w1.heap.size w1.heap.size _ _ HBK.out HSK.out.size).mono ?_
      rintro e w3 ⟨rfl, _, b3, _⟩
      have HS3 : Hid (Since w1 w3) := Below.trans HSK.out b3
      clear b3
      go_wp2_with fail
      go_ret2
      exact ⟨rfl, HS1.out.trans HS3.out⟩
end En
end Go.Proofs.YtceoamhenpohhaaGreatDoor
