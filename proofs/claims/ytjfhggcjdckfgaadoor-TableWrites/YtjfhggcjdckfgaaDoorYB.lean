/- Package table: Parse of a text that is long enough. -/
import Derived.Test.YtjfhggcjdckfgaaDoorYA
namespace Go.Proofs.YtjfhggcjdckfgaaDoor
set_option linter.unusedSimpArgs false
set_option linter.unusedVariables false
set_option maxRecDepth 100000
namespace Tw
open Go.RowKit
open Sm (Tab)

theorem neq_list {a b : ByteArray} (h : ¬ a = b) : (a.toList == b.toList) = false := by
  rw [ByteArray.toList_eq, ByteArray.toList_eq]
  rw [beq_eq_false_iff_ne]
  exact fun e => h (ByteArray.ext (Array.toList_inj.1 e))
/-- what Write tells of the table that was read: WritesAs -/
def WritesAs (key : ByteArray) (T : Tb) (A : ByteArray) (ev : Value) : Prop := ∀ W, Tab W → Calls Tryd.prog 71 #[.string key, tval T] W fun e w' => e = .returned (.tuple #[.string A, ev]) ∧ Since W w'
set_option maxHeartbeats 2000000 in
theorem parse_long (key s : ByteArray) (w : World) (h : key.size = 32) (hs : 456 ≤ s.size) (hz : s.size ≤ 900) (ht : tail0 s) (hT : Tab w) (A : ByteArray) (ev res : Value) (hw : WritesAs key (rd s) A ev)
    (hres : (ev = .iface 30 (.int .i64 1) ∧ res = .tuple #[tval Tb.zero, .iface 30 (.int .i64 15)]) ∨ (ev = .nilIface ∧ ¬ A = s.extract 0 456 ∧ res = .tuple #[tval Tb.zero, .iface 30 (.int .i64 15)]) ∨ (ev = .nilIface ∧ A = s.extract 0 456 ∧ res = .tuple #[tval (rd s), .nilIface])) :
    Calls Tryd.prog 75 #[.string key, .string s] w fun e w' => e = .returned res ∧ Since w w' := by
  have e1 : (key.size : Int) = 32 := by omega
  have e2 : ¬ (s.size : Int) < 456 := by omega
  have e3 : (456 : Int) ≤ s.size := by omega
  have HT : Hid (Tab w) := hT
  have HZ : Hid (∀ W, Calls Tryd.prog 133 #[.string (s.extract 456 s.size)] W fun e w' => e = .returned (.bool true) ∧ w' = W) := fun W => (tail_zeros s W hs hz).mono (fun e w' ⟨⟨x, hx, hi⟩, hw⟩ => ⟨by
    cases x with
    | false => exact absurd (hi.2 ht) (by decide)
    | true => exact hx, hw⟩)
  have z1 : (s.extract 0 456).size = 456 := by rw [ByteArray.size_extract]; omega
  have HRD : Hid (∀ W, Calls Tryd.prog 134 #[.string (s.extract 0 456)] W fun e w' => e = .returned (tval (rd s)) ∧ Since W w') := fun W => by
    have := read_any (s.extract 0 456) W z1
    rw [rd_cut s hs] at this
    exact this
  have HW : Hid (WritesAs key (rd s) A ev) := hw
  have HRS : Hid ((ev = .iface 30 (.int .i64 1) ∧ res = .tuple #[tval Tb.zero, .iface 30 (.int .i64 15)]) ∨ (ev = .nilIface ∧ ¬ A = s.extract 0 456 ∧ res = .tuple #[tval Tb.zero, .iface 30 (.int .i64 15)]) ∨ (ev = .nilIface ∧ A = s.extract 0 456 ∧ res = .tuple #[tval (rd s), .nilIface])) := hres
  have HC0 : Hid (Cel (w.alloc (.cells Tryd.zeroCells100 100)) w.heap.size 73 (tcell Tb.zero)) := zeroTab_cel w w.heap.size rfl
  have HS0 : Hid (Since w (w.alloc (.cells Tryd.zeroCells100 100))) := (Since.refl w).alloc _
  clear ht hT hw hres
  generalize rd s = T at *
  go_enter Tryd.func75, Tryd.ntmps75
  go_wp2_with fail
  refine (HZ.out _).mono ?_
  rintro e w1 ⟨rfl, hw1⟩
  rw [← hw1] at HC0 HS0
  clear hw1
  go_wp2_with fail
  refine (HRD.out _).mono ?_
  rintro e w2 ⟨rfl, h2⟩
  have HC2 : Hid (Cel w2 w.heap.size 73 (tcell Tb.zero)) := HC0.out.since h2
  have HS2 : Hid (Since w w2) := HS0.out.trans h2
  clear h2 HC0 HS0 HRD HZ
  have hC3 := zeroTab_cel w2 w2.heap.size rfl
  obtain ⟨hst, hC4⟩ := tab_stored hC3 T
  have HC4 : Hid (Cel ((w2.alloc (.cells Tryd.zeroCells100 100)).setCells w2.heap.size 0 (brow 73 (tcell T))) w2.heap.size 73 (tcell T)) := hC4
  have HD4 : Hid (Cel ((w2.alloc (.cells Tryd.zeroCells100 100)).setCells w2.heap.size 0 (brow 73 (tcell T))) w.heap.size 73 (tcell Tb.zero)) := (HC2.out.since ((Since.refl _).alloc _)).setRow_other _ (by have := HC2.out.lt (by omega); omega)
  have HS4 : Hid (Since w ((w2.alloc (.cells Tryd.zeroCells100 100)).setCells w2.heap.size 0 (brow 73 (tcell T)))) := (HS2.out.alloc _).setCells HS2.out.size _ _
  clear hC3 hC4
  have hR := tab_all HC4.out
  have hL := ln73 T
  generalize ((w2.alloc (.cells Tryd.zeroCells100 100)).setCells w2.heap.size 0 (brow 73 (tcell T))) = w3 at *
  have hV : ∀ U, tval U = .agg (brow 73 (tcell U)).toArray := fun U => rfl
  rw [hV T]
  go_wp2_with (refine wpList_load_mid (by rfl) 100 _ (by rfl) w2.heap.size 0 (by rfl) _ _ hR Tryd.underlying100 (by rfl) (by rw [hL]; kernel_rfl) ?_)
  refine (HW.out _ (HT.out.since HS4.out)).mono ?_
  rintro e w5 ⟨rfl, h5⟩
  have HC5 : Hid (Cel w5 w2.heap.size 73 (tcell T)) := HC4.out.since h5
  have HD5 : Hid (Cel w5 w.heap.size 73 (tcell Tb.zero)) := HD4.out.since h5
  have HS5 : Hid (Since w w5) := HS4.out.trans h5
  clear h5 HC4 HD4 HS4 hst hR HW
  rcases HRS.out with ⟨he, hr⟩ | ⟨he, hne, hr⟩ | ⟨he, heq, hr⟩
  · subst he
    have HR : Hid (res = .tuple #[tval Tb.zero, .iface 30 (.int .i64 15)]) := hr
    clear hr HRS
    obtain ⟨hst, hR⟩ := zero_stored HD5.out
    have HR6 : Hid ((w5.setCells w.heap.size 0 Tryd.zeroCells100.toList).rangeAt w.heap.size 0 (brow 73 (tcell Tb.zero))) := hR
    have HS6 : Hid (Since w (w5.setCells w.heap.size 0 Tryd.zeroCells100.toList)) := HS5.out.setCells (Nat.le_refl _) _ _
    clear hR hV
    go_wp2_with fail
    exact bodyPost_ret (results_row2 Tryd.results75 _ _ _ w.heap.size _ _ _ (by rfl) HR6.out Tryd.underlying100 (by rfl) (by rw [ln73]; kernel_rfl) rfl) rfl ⟨by rw [HR.out]; rfl, HS6.out⟩
  · subst he
    have HR : Hid (res = .tuple #[tval Tb.zero, .iface 30 (.int .i64 15)]) := hr
    have hnl := neq_list hne
    clear hr HRS hne
    obtain ⟨hst, hR⟩ := zero_stored HD5.out
    have HR6 : Hid ((w5.setCells w.heap.size 0 Tryd.zeroCells100.toList).rangeAt w.heap.size 0 (brow 73 (tcell Tb.zero))) := hR
    have HS6 : Hid (Since w (w5.setCells w.heap.size 0 Tryd.zeroCells100.toList)) := HS5.out.setCells (Nat.le_refl _) _ _
    clear hR hV
    go_wp2_with fail
    exact bodyPost_ret (results_row2 Tryd.results75 _ _ _ w.heap.size _ _ _ (by rfl) HR6.out Tryd.underlying100 (by rfl) (by rw [ln73]; kernel_rfl) rfl) rfl ⟨by rw [HR.out]; rfl, HS6.out⟩
  · subst he
    subst heq
    have HR : Hid (res = .tuple #[tval T, .nilIface]) := hr
    clear hr HRS
    obtain ⟨hst, hC6⟩ := tab_stored HD5.out T
    have HR6 : Hid ((w5.setCells w.heap.size 0 (brow 73 (tcell T))).rangeAt w.heap.size 0 (brow 73 (tcell T))) := tab_all hC6
    have HS6 : Hid (Since w (w5.setCells w.heap.size 0 (brow 73 (tcell T)))) := HS5.out.setCells (Nat.le_refl _) _ _
    have hR := tab_all HC5.out
    clear hC6 hV
    go_wp2_with (refine wpList_load_mid (by rfl) 100 _ (by rfl) w2.heap.size 0 (by rfl) _ _ hR Tryd.underlying100 (by rfl) (by rw [hL]; kernel_rfl) ?_)
    exact bodyPost_ret (results_row2 Tryd.results75 _ _ _ w.heap.size _ _ _ (by rfl) HR6.out Tryd.underlying100 (by rfl) (by rw [ln73]; kernel_rfl) rfl) rfl ⟨by rw [HR.out]; rfl, HS6.out⟩
end Tw
end Go.Proofs.YtjfhggcjdckfgaaDoor
