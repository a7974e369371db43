/- What the law TableWrites asks: both ways of Write and of Parse give the same. -/
import Derived.Test.YtjfhggcjdckfgaaDoorYD
import Derived.Test.YtjfhggcjdckfgaaDoorE9
namespace Go.Proofs.YtjfhggcjdckfgaaDoor
set_option linter.unusedSimpArgs false
set_option linter.unusedVariables false
set_option maxRecDepth 100000
namespace Tw
open Go.RowKit
open Sm (Tab RSum Arr H0 kn)

/-- an error, held against a number -/
def BareOk (ev : Value) (n : Int) : Prop := ∀ w : World, Et w → Calls Tryd.prog 23 #[ev, .int .i64 n] w fun e w' => e = .returned (.bool true) ∧ Since w w'
theorem bareOk_nil : BareOk .nilIface 0 := fun w _ => (bare_nil w).mono (fun e w' ⟨h1, h2⟩ => ⟨h1, by rw [h2]; exact Since.refl _⟩)
theorem bareOk_hit (n : Int) : BareOk (.iface 30 (.int .i64 n)) n := fun w h => bare_hit n w h
theorem both_write (hsum : RSum) (key : ByteArray) (T : Tb) :
    ∃ (A : ByteArray) (n : Int) (ev : Value), A.size ≤ 456 ∧ (∀ b, RWritesAs b key T A n) ∧ WritesAs key T A ev ∧ BareOk ev n ∧
      ((n = 1 ∧ ev = .iface 30 (.int .i64 1)) ∨ (key.size = 32 ∧ n = 0 ∧ ev = .nilIface ∧ A = text key T ∧ A.size = 456)) := by
  by_cases h : key.size = 32
  · by_cases hr : Rt T
    · exact ⟨text key T, 0, .nilIface, by rw [text_size hr.2]; omega, fun b W hh hk => rwrite_ok hsum b key T W h hr hh hk, fun W hT => write_ok key T W h hr hT, bareOk_nil, Or.inr ⟨h, rfl, rfl, rfl, text_size hr.2⟩⟩
    · exact ⟨⟨#[]⟩, 1, .iface 30 (.int .i64 1), by decide, fun b W _ _ => rwrite_not b key T W h (rtB_false hr), fun W _ => write_not key T W h (rtB_false hr), bareOk_hit 1, Or.inl ⟨rfl, rfl⟩⟩
  · exact ⟨⟨#[]⟩, 1, .iface 30 (.int .i64 1), by decide, fun b W _ _ => rwrite_key b key T W h, fun W _ => write_key key T W h, bareOk_hit 1, Or.inl ⟨rfl, rfl⟩⟩
def RParses (key s : ByteArray) (U : Tb) (n : Int) : Prop := ∀ (b : Nat) (w : World), Arr w b 0 8 H0.fn → Arr w b 8 64 kn →
    Calls Tryd.prog 74 #[.pointer (some ⟨b, 0, none⟩), .string key, .string s] w fun e w' => e = .returned (.tuple #[tval U, .int .i64 n]) ∧ Since w w'
def Parses (key s : ByteArray) (U : Tb) (ev : Value) : Prop := ∀ w : World, Tab w →
    Calls Tryd.prog 75 #[.string key, .string s] w fun e w' => e = .returned (.tuple #[tval U, ev]) ∧ Since w w'
theorem both_parse (hsum : RSum) (key s : ByteArray) (hz : s.size ≤ 900) :
    ∃ (U : Tb) (n : Int) (ev : Value), RParses key s U n ∧ Parses key s U ev ∧ BareOk ev n := by
  by_cases h : key.size = 32
  · by_cases hs : s.size < 456
    · exact ⟨Tb.zero, 15, .iface 30 (.int .i64 15), fun b w _ _ => rparse_short b key s w h hs, fun w _ => parse_short key s w h hs, bareOk_hit 15⟩
    · have hs' : 456 ≤ s.size := by omega
      obtain ⟨A, n, ev, hA, hrw, hpw, _, hcase⟩ := both_write hsum key (rd s)
      rcases hcase with ⟨rfl, rfl⟩ | ⟨_, rfl, rfl, _, hA4⟩
      · refine ⟨Tb.zero, 15, .iface 30 (.int .i64 15), fun b w hh hk => rparse_long b key s w h hs' hz hh hk A 1 _ (by omega) (hrw b) (Or.inl ⟨rfl, rfl⟩), fun w hT => ?_, bareOk_hit 15⟩
        by_cases ht : tail0 s
        · exact parse_long key s w h hs' hz ht hT A _ _ hpw (Or.inl ⟨rfl, rfl⟩)
        · exact parse_tail key s w h hs' hz ht
      · have hw := whole_iff s A hA4 hs'
        by_cases hg : s = A ++ txt (s.size - 456) (fun _ => 0)
        · obtain ⟨g1, g2⟩ := hw.1 hg
          exact ⟨rd s, 0, .nilIface, fun b w hh hk => rparse_long b key s w h hs' hz hh hk A 0 _ (by omega) (hrw b) (Or.inr (Or.inr ⟨rfl, hg, rfl⟩)), fun w hT => parse_long key s w h hs' hz g2 hT A _ _ hpw (Or.inr (Or.inr ⟨rfl, g1.symm, rfl⟩)), bareOk_nil⟩
        · refine ⟨Tb.zero, 15, .iface 30 (.int .i64 15), fun b w hh hk => rparse_long b key s w h hs' hz hh hk A 0 _ (by omega) (hrw b) (Or.inr (Or.inl ⟨rfl, hg, rfl⟩)), fun w hT => ?_, bareOk_hit 15⟩
          by_cases ht : tail0 s
          · exact parse_long key s w h hs' hz ht hT A _ _ hpw (Or.inr (Or.inl ⟨rfl, fun e => hg (hw.2 ⟨e.symm, ht⟩), rfl⟩))
          · exact parse_tail key s w h hs' hz ht
  · exact ⟨Tb.zero, 1, .iface 30 (.int .i64 1), fun b w _ _ => rparse_key b key s w h, fun w _ => parse_key key s w h, bareOk_hit 1⟩

/-- two tables that are one are alike -/
theorem part_cell (w : World) (T : Tb) (k : Nat) (hk : k < 24) : (part 97 (brow 72 (ccell T)).toArray (k * 3)).run Tryd.prog w = .ok (.agg #[.int .i64 (T.zone k), .int .i64 (T.off k), .string (T.tag k)]) w := by
  have ha : (isAgg 97).run Tryd.prog w = .ok true w := Tryd.isAgg97 w
  have hz : (Go.sizeOf 97).run Tryd.prog w = .ok 3 w := Tryd.sizeOf97 w
  have hx : (brow 72 (ccell T)).toArray.extract (k * 3) (k * 3 + 3) = #[.int .i64 (T.zone k), .int .i64 (T.off k), .string (T.tag k)] := by
    apply Array.ext_getElem?
    intro i
    rw [Array.getElem?_extract]
    have hsz : (brow 72 (ccell T)).toArray.size = 72 := by simp [brow]
    by_cases hi : i < 3
    · rw [if_pos (by omega), List.getElem?_toArray, brow_get _ _ _ (by omega), ccell_at T k i hi]
      match i, hi with
      | 0, _ => rfl
      | 1, _ => rfl
      | 2, _ => rfl
    · rw [if_neg (by omega), Array.getElem?_eq_none (by simp; omega)]
  simp only [part, Sem.run_bind, ha, Result.andThen_ok, if_true, hz, Sem.run_pure, hx]
theorem cell_self (w : World) (d : Nat) (z o : Int) (t : ByteArray) : (Op.equalIn (d + 2) 97 (.agg #[.int .i64 z, .int .i64 o, .string t]) (.agg #[.int .i64 z, .int .i64 o, .string t])).run Tryd.prog w = .ok true w := by
  go_simp
theorem items_self (w : World) (d : Nat) (T : Tb) : ∀ l : List Nat, (∀ i ∈ l, i < 24) → (Op.eqItems (d + 2) 97 3 (brow 72 (ccell T)).toArray (brow 72 (ccell T)).toArray l).run Tryd.prog w = .ok true w
  | [], _ => by simp [Op.eqItems]
  | i :: r, h => by
    have hp := part_cell w T i (h i (by simp))
    have hq := cell_self w d (T.zone i) (T.off i) (T.tag i)
    have hr := items_self w d T r (fun j hj => h j (by simp [hj]))
    simp only [Op.eqItems, Sem.run_bind, hp, Result.andThen_ok, hq, Bool.not_true, Bool.false_eq_true, if_false, hr]
theorem infoCell : ∃ i, Tryd.prog.info? 97 = some i := by
  cases h : Tryd.prog.info? 97 with
  | none => exact absurd h (by
      have : (Tryd.prog.info? 97).isSome = true := by kernel_rfl
      intro e; rw [e] at this; cases this)
  | some i => exact ⟨i, rfl⟩
theorem cellsCell : Tryd.prog.cellsOf 97 = 3 := by kernel_rfl
theorem tab_self (w : World) (T : Tb) : (binOp .neq 100 (tval T) (tval T)).run Tryd.prog w = .ok (.bool false) w := by
  obtain ⟨i, hi⟩ := infoCell
  have ha := run_equalIn_array (P := Tryd.prog) w 9998 (brow 72 (ccell T)).toArray (brow 72 (ccell T)).toArray Tryd.underlying98 hi
  rw [cellsCell, items_self w 9996 T (List.range 24) (fun i hi => List.mem_range.1 hi)] at ha
  have hg : (brow 73 (tcell T)).toArray[0]? = some (.int .i64 T.count) := tab_get T 0 (by omega)
  have hx : (brow 73 (tcell T)).toArray.extract 1 73 = (brow 72 (ccell T)).toArray := by
    apply Array.ext_getElem?
    intro i
    rw [Array.getElem?_extract]
    have hsz : (brow 73 (tcell T)).toArray.size = 73 := by simp [brow]
    by_cases hi : i < 72
    · rw [if_pos (by omega), List.getElem?_toArray, List.getElem?_toArray, brow_get _ _ _ (by omega), brow_get _ _ _ hi, tcell_succ]
    · rw [if_neg (by omega), Array.getElem?_eq_none (by simp [brow]; omega)]
  unfold tval
  generalize (brow 73 (tcell T)).toArray = xs at *
  generalize (brow 72 (ccell T)).toArray = ys at *
  have ha2 : (Op.equalIn 9999 98 (.agg ys) (.agg ys)).run Tryd.prog w = .ok true w := ha
  have hi2 : (Op.equalIn 9999 3 (.int .i64 T.count) (.int .i64 T.count)).run Tryd.prog w = .ok true w := by
    have := run_equalIn_int (P := Tryd.prog) w 9998 3 .i64 .i64 T.count T.count Tryd.underlying3
    rw [beq_self_eq_true] at this
    exact this
  go_simp
end Tw
end Go.Proofs.YtjfhggcjdckfgaaDoor
