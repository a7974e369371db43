/- Package table: Parse. -/
import Derived.Test.YtjfhggcjdckfgaaDoorY9
import Derived.Test.YtjfhggcjdckfgaaDoorY6
namespace Go.Proofs.YtjfhggcjdckfgaaDoor
set_option linter.unusedSimpArgs false
set_option linter.unusedVariables false
set_option maxRecDepth 100000
namespace Tw
open Go.RowKit
open Sm (Tab)

theorem zeroTab_list : Tryd.zeroCells100.toList = brow 73 (tcell Tb.zero) := by rw [zeroTab]
theorem results_row2 {fn : Func} {p q : Tmp} {ty : TypeId} (h : fn.results = #[.cell p ty, .tmp q]) (tmps : Array Value) (P : Program) (w : World) (b : Nat) (cs : List Value) (d : TypeDesc) (v : Value)
    (hx : tmps.getD p undef = .pointer (some ⟨b, 0, none⟩)) (hc : w.rangeAt b 0 cs) (hu : P.underlying ty = some d) (hd : d.isRow = true) (hi : (P.info? ty).map (·.size) = some cs.length) (hq : tmps.getD q undef = v) :
    (results fn tmps).run P w = .ok (.tuple #[.agg cs.toArray, v]) w := by
  simp only [results, h]
  have h1 := run_loadVar_mid (P := P) w b 0 ty cs d hc hu hd hi
  have h2 : tmps[p]?.getD undef = .pointer (some ⟨b, 0, none⟩) := by simpa using hx
  have h3 : tmps[q]?.getD undef = v := by simpa using hq
  simp [asAddr, h2, h1, h3]
/-- a table is stored where a table is -/
theorem tab_stored {w : World} {b : Nat} {T : Tb} (h : Cel w b 73 (tcell T)) (U : Tb) : (storeCells ⟨b, 0, none⟩ (brow 73 (tcell U))).run Tryd.prog w = .ok () (w.setCells b 0 (brow 73 (tcell U))) ∧ Cel (w.setCells b 0 (brow 73 (tcell U))) b 73 (tcell U) :=
  ⟨h.store Tryd.prog 0 73 (by omega) (tcell U) (fun j _ => tcell_one _ j), (h.setRow 0 73 (by omega) (tcell U)).congr (fun j hj => by unfold updl; rw [if_pos (by omega)]; rfl)⟩
theorem zero_stored {w : World} {b : Nat} {T : Tb} (h : Cel w b 73 (tcell T)) : (storeCells ⟨b, 0, none⟩ Tryd.zeroCells100.toList).run Tryd.prog w = .ok () (w.setCells b 0 Tryd.zeroCells100.toList) ∧ (w.setCells b 0 Tryd.zeroCells100.toList).rangeAt b 0 (brow 73 (tcell Tb.zero)) := by
  rw [zeroTab_list]
  exact ⟨(tab_stored h _).1, tab_all (tab_stored h _).2⟩
theorem ln73 (T : Tb) : (brow 73 (tcell T)).length = 73 := brow_length _ _
set_option maxHeartbeats 1000000 in
theorem parse_key (key s : ByteArray) (w : World) (h : key.size ≠ 32) :
    Calls Tryd.prog 75 #[.string key, .string s] w fun e w' => e = .returned (.tuple #[tval Tb.zero, .iface 30 (.int .i64 1)]) ∧ Since w w' := by
  have e1 : ¬ (key.size : Int) = 32 := by omega
  obtain ⟨hst, hR⟩ := zero_stored (zeroTab_cel w w.heap.size rfl)
  have HR : Hid (((w.alloc (.cells Tryd.zeroCells100 100)).setCells w.heap.size 0 Tryd.zeroCells100.toList).rangeAt w.heap.size 0 (brow 73 (tcell Tb.zero))) := hR
  have HS : Hid (Since w ((w.alloc (.cells Tryd.zeroCells100 100)).setCells w.heap.size 0 Tryd.zeroCells100.toList)) := ((Since.refl w).alloc _).setCells (Nat.le_refl _) _ _
  clear hR
  go_enter Tryd.func75, Tryd.ntmps75
  go_wp2_with fail
  exact bodyPost_ret (results_row2 Tryd.results75 _ _ _ w.heap.size _ _ _ (by rfl) HR.out Tryd.underlying100 (by rfl) (by rw [ln73]; kernel_rfl) rfl) rfl ⟨rfl, HS.out⟩
set_option maxHeartbeats 1000000 in
theorem parse_short (key s : ByteArray) (w : World) (h : key.size = 32) (hs : s.size < 456) :
    Calls Tryd.prog 75 #[.string key, .string s] w fun e w' => e = .returned (.tuple #[tval Tb.zero, .iface 30 (.int .i64 15)]) ∧ Since w w' := by
  have e1 : (key.size : Int) = 32 := by omega
  have e2 : (s.size : Int) < 456 := by omega
  obtain ⟨hst, hR⟩ := zero_stored (zeroTab_cel w w.heap.size rfl)
  have HR : Hid (((w.alloc (.cells Tryd.zeroCells100 100)).setCells w.heap.size 0 Tryd.zeroCells100.toList).rangeAt w.heap.size 0 (brow 73 (tcell Tb.zero))) := hR
  have HS : Hid (Since w ((w.alloc (.cells Tryd.zeroCells100 100)).setCells w.heap.size 0 Tryd.zeroCells100.toList)) := ((Since.refl w).alloc _).setCells (Nat.le_refl _) _ _
  clear hR
  go_enter Tryd.func75, Tryd.ntmps75
  go_wp2_with fail
  exact bodyPost_ret (results_row2 Tryd.results75 _ _ _ w.heap.size _ _ _ (by rfl) HR.out Tryd.underlying100 (by rfl) (by rw [ln73]; kernel_rfl) rfl) rfl ⟨rfl, HS.out⟩
theorem tail_zeros (s : ByteArray) (w : World) (hs : 456 ≤ s.size) (hz : s.size ≤ 900) : Calls Tryd.prog 133 #[.string (s.extract 456 s.size)] w fun e w' => (∃ x : Bool, e = .returned (.bool x) ∧ (x = true ↔ tail0 s)) ∧ w' = w := by
  have h := zeros_text (s.extract 456 s.size) w (by rw [ByteArray.size_extract]; omega)
  refine h.mono ?_
  rintro e w' ⟨rfl, rfl⟩
  refine ⟨⟨_, rfl, ?_⟩, rfl⟩
  rw [decide_eq_true_iff]
  have hsz : (s.extract 456 s.size).size = s.size - 456 := by rw [ByteArray.size_extract]; omega
  constructor
  · intro h j h1 h2
    have := h (j - 456) (by omega)
    rw [sb_ext s 456 s.size (j - 456) (by omega) (Nat.le_refl _), show 456 + (j - 456) = j by omega] at this
    exact this
  · intro h j hj
    rw [sb_ext s 456 s.size j (by omega) (Nat.le_refl _)]
    exact h (456 + j) (by omega) (by omega)
set_option maxHeartbeats 1000000 in
theorem parse_tail (key s : ByteArray) (w : World) (h : key.size = 32) (hs : 456 ≤ s.size) (hz : s.size ≤ 900) (ht : ¬ tail0 s) :
    Calls Tryd.prog 75 #[.string key, .string s] w fun e w' => e = .returned (.tuple #[tval Tb.zero, .iface 30 (.int .i64 15)]) ∧ Since w w' := by
  have e1 : (key.size : Int) = 32 := by omega
  have e2 : ¬ (s.size : Int) < 456 := by omega
  have e3 : (456 : Int) ≤ s.size := by omega
  obtain ⟨hst, hR⟩ := zero_stored (zeroTab_cel w w.heap.size rfl)
  have HR : Hid (((w.alloc (.cells Tryd.zeroCells100 100)).setCells w.heap.size 0 Tryd.zeroCells100.toList).rangeAt w.heap.size 0 (brow 73 (tcell Tb.zero))) := hR
  have HS : Hid (Since w ((w.alloc (.cells Tryd.zeroCells100 100)).setCells w.heap.size 0 Tryd.zeroCells100.toList)) := ((Since.refl w).alloc _).setCells (Nat.le_refl _) _ _
  have HZ : Hid (∀ W, Calls Tryd.prog 133 #[.string (s.extract 456 s.size)] W fun e w' => e = .returned (.bool false) ∧ w' = W) := fun W => (tail_zeros s W hs hz).mono (fun e w' ⟨⟨x, hx, hi⟩, hw⟩ => ⟨by
    cases x with
    | true => exact absurd (hi.1 rfl) ht
    | false => exact hx, hw⟩)
  clear hR ht
  go_enter Tryd.func75, Tryd.ntmps75
  go_wp2_with fail
  refine (HZ.out _).mono ?_
  rintro e w1 ⟨rfl, hw1⟩
  subst hw1
  go_wp2_with fail
  exact bodyPost_ret (results_row2 Tryd.results75 _ _ _ w.heap.size _ _ _ (by rfl) HR.out Tryd.underlying100 (by rfl) (by rw [ln73]; kernel_rfl) rfl) rfl ⟨rfl, HS.out⟩
end Tw
end Go.Proofs.YtjfhggcjdckfgaaDoor
