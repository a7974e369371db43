/- Package meter: a counter, the map of what keys are for. -/
import Derived.Test.YtjfhggcjdckfgaaDoorB0
import Derived.MapKept
namespace Go.Proofs.YtjfhggcjdckfgaaDoor
set_option linter.unusedSimpArgs false
set_option linter.unusedVariables false
set_option maxRecDepth 100000
namespace Mt
open Go.RowKit

theorem orZero_any (b : Nat) (w : World) : Calls Tryd.prog 126 #[.pointer (some ⟨b, 0, none⟩)] w fun e w' => e = .returned (.pointer (some ⟨b, 0, none⟩)) ∧ w' = w := by
  go_enter Tryd.func126, Tryd.ntmps126
  go_wp2_with fail
  go_ret
  exact ⟨rfl, rfl⟩
theorem raise_not (b : Nat) (c n : Int) (w : World) (hc : w.cell? ⟨b, 0, none⟩ = some (.int .i64 c)) (h : n ≤ c) :
    Calls Tryd.prog 61 #[.pointer (some ⟨b, 0, none⟩), .int .i64 n] w fun e w' => e = .returned (.iface 30 (.int .i64 10)) ∧ w' = w := by
  go_enter Tryd.func61, Tryd.ntmps61
  go_wp2_with fail
  refine (orZero_any _ _).mono ?_
  rintro e w' ⟨rfl, rfl⟩
  go_wp2_with fail
  go_ret
  exact ⟨rfl, rfl⟩
theorem raise_up (b : Nat) (c n : Int) (w : World) (hc : w.cell? ⟨b, 0, none⟩ = some (.int .i64 c)) (hf : w.frozen? ⟨b, 0, none⟩ = false) (h : ¬ n ≤ c) :
    Calls Tryd.prog 61 #[.pointer (some ⟨b, 0, none⟩), .int .i64 n] w fun e w' => e = .returned .nilIface ∧ w' = w.setCell ⟨b, 0, none⟩ (.int .i64 n) := by
  go_enter Tryd.func61, Tryd.ntmps61
  go_wp2_with fail
  refine (orZero_any _ _).mono ?_
  rintro e w' ⟨rfl, rfl⟩
  go_wp2_with fail
  go_ret
  exact ⟨rfl, rfl⟩
theorem get_any (b : Nat) (c : Int) (w : World) (hc : w.cell? ⟨b, 0, none⟩ = some (.int .i64 c)) :
    Calls Tryd.prog 62 #[.pointer (some ⟨b, 0, none⟩)] w fun e w' => e = .returned (.int .i64 c) ∧ w' = w := by
  go_enter Tryd.func62, Tryd.ntmps62
  go_wp2_with fail
  refine (orZero_any _ _).mono ?_
  rintro e w' ⟨rfl, rfl⟩
  go_wp2_with fail
  go_ret
  exact ⟨rfl, rfl⟩

theorem map_put (w : World) (es : Array MapEntry) (c : Nat) (k : Int) (v : Value) (hf : Instr.findNow (.int .u8) (.int .u8 k) es.toList 0 = some none) :
    (Instr.mapUpdate 178 (.map (some w.heap.size)) (.int .u8 k) v).run Tryd.prog (w.alloc (.map es c)) = .ok () (w.alloc (.map (es.push { key := .int .u8 k, val := v, born := c }) (c + 1))) := by
  have hb : (w.alloc (.map es c)).heap[w.heap.size]? = some (.map es c) := by show (w.heap.push _)[w.heap.size]? = _; simp
  have hc : (Instr.checkKey false 10000 5 (.int .u8 k)).run Tryd.prog (w.alloc (.map es c)) = .ok () (w.alloc (.map es c)) := MapKept.run_checkKey Tryd.underlying5 (by simp [MapKept.IsKey]) false 9999
  simp [Instr.mapUpdate, run_underlying Tryd.underlying178, MapKept.run_getObj_map hb, hc, MapKept.run_findKey Tryd.underlying5 hf, MapKept.run_setObj_map _ hb, Result.andThen]
  simp [World.alloc, -World.alloc_eq]
  apply Array.ext_getElem?
  intro i
  by_cases hi : i = w.heap.size
  · subst hi; simp
  · rw [Array.getElem?_setIfInBounds_ne (Ne.symm hi), Array.getElem?_push, Array.getElem?_push, if_neg hi, if_neg hi]
theorem map_get (w : World) (es : Array MapEntry) (c r : Nat) (k : Int) (a : Option (Nat × Value)) (hb : w.heap[r]? = some (.map es c)) (hf : Instr.findNow (.int .u8) (.int .u8 k) es.toList 0 = some a) :
    (Instr.lookup 178 (.map (some r)) (.int .u8 k) true).run Tryd.prog w = .ok (.tuple (match a with | some (_, v) => #[v, .bool true] | none => #[.agg #[.string ⟨#[]⟩], .bool false])) w := by
  have hc : (Instr.checkKey es.isEmpty 10000 5 (.int .u8 k)).run Tryd.prog w = .ok () w := MapKept.run_checkKey Tryd.underlying5 (by simp [MapKept.IsKey]) _ 9999
  have hz : (zeroValue 176).run Tryd.prog w = .ok (.agg #[.string ⟨#[]⟩]) w := by kernel_rfl
  rcases a with _ | ⟨i, v⟩
  · simp [Instr.lookup, run_underlying Tryd.underlying178, MapKept.run_getObj_map hb, hc, MapKept.run_findKey Tryd.underlying5 hf, hz, Result.andThen]
  · simp [Instr.lookup, run_underlying Tryd.underlying178, MapKept.run_getObj_map hb, hc, MapKept.run_findKey Tryd.underlying5 hf, hz, Result.andThen]

/-- the words of uses: blocks, tables -/
def wBlocks : ByteArray := ⟨#[98, 108, 111, 99, 107, 115]⟩
def wTables : ByteArray := ⟨#[116, 97, 98, 108, 101, 115]⟩
def uses : Array MapEntry := #[{ key := .int .u8 98, val := .agg #[.string wBlocks], born := 0 }, { key := .int .u8 116, val := .agg #[.string wTables], born := 1 }]
theorem purposes_any (w : World) : Calls Tryd.prog 127 #[] w fun e w' => e = .returned (.map (some w.heap.size)) ∧ w' = w.alloc (.map uses 2) := by
  have hmm := @run_makeMap Tryd.prog
  have p1 := map_put w #[] 0 98 (.agg #[.string wBlocks]) rfl
  have p2 := map_put w #[{ key := .int .u8 98, val := .agg #[.string wBlocks], born := 0 }] 1 116 (.agg #[.string wTables]) rfl
  simp only [wBlocks, wTables, List.push_toArray, List.nil_append, List.cons_append, Nat.zero_add] at p1 p2
  go_enter Tryd.func127, Tryd.ntmps127
  go_wp2_with fail
  go_ret
  exact ⟨rfl, rfl⟩
end Mt
end Go.Proofs.YtjfhggcjdckfgaaDoor
