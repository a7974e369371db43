/- The reference's device: a list copied; Append. -/
import Derived.Test.YtjfhggcjdckfgaaDoorT3
namespace Go.Proofs.YtjfhggcjdckfgaaDoor
set_option linter.unusedSimpArgs false
set_option linter.unusedVariables false
open Go.RowKit

/-- n texts -/
def strL (l : Nat → ByteArray) (n : Nat) : List Value := (List.range n).map fun j => .string (l j)
theorem strL_get (l : Nat → ByteArray) (n j : Nat) (hj : j < n) : (strL l n)[j]? = some (.string (l j)) := by simp [strL, hj]
theorem strL_length (l : Nat → ByteArray) (n : Nat) : (strL l n).length = n := by simp [strL]
theorem strL_blks (blk : Nat → Nat → UInt8) (n : Nat) : strL (fun j => txt 128 (blk j)) n = blks blk n := rfl
theorem strL_one (l : Nat → ByteArray) (n : Nat) : ∀ u ∈ strL l n, u.oneCell' = true := by
  intro u hu
  simp only [strL, List.mem_map] at hu
  obtain ⟨j, _, rfl⟩ := hu
  rfl
/-- n texts lie at a -/
def Tx (w : World) (a : Option Addr) (n : Nat) (l : Nat → ByteArray) : Prop := 0 < n → ∃ k o, a = some ⟨k, o, none⟩ ∧ ∀ j, j < n → w.cell? ⟨k, o + j, none⟩ = some (.string (l j))
theorem Tx.since {w w' : World} {a : Option Addr} {n : Nat} {l : Nat → ByteArray} (h : Tx w a n l) (hs : Since w w') : Tx w' a n l := fun hn => by
  obtain ⟨k, o, ha, hc⟩ := h hn
  exact ⟨k, o, ha, fun j hj => (hs.cell (p := ⟨k, o + j, none⟩) (World.block_lt_of_cell? w _ (hc j hj))).trans (hc j hj)⟩
theorem Tx.take {w : World} {a : Option Addr} {n m : Nat} {l : Nat → ByteArray} (h : Tx w a n l) (hm : m ≤ n) : Tx w a m l := fun hn => by
  obtain ⟨k, o, ha, hc⟩ := h (by omega)
  exact ⟨k, o, ha, fun j hj => hc j (by omega)⟩
theorem Tx.of_own {w : World} {base n : Nat} {v : Value} {l : Nat → ByteArray} (h : w.ownsRow base 9 1 v n (strL l n)) : ∃ a c, v = .slice a n c ∧ n ≤ c ∧ Tx w a n l := by
  rcases h.2 with ⟨rfl, h0⟩ | ⟨g, cap, cur, rfl, hg, hh, h1, h2, h3, h4⟩
  · exact ⟨none, 0, by rw [h0], by omega, fun hn => by omega⟩
  · refine ⟨_, _, rfl, h1, fun _ => ⟨g, 0, rfl, fun j hj => ?_⟩⟩
    have e := strL_get l n j hj
    rw [← h4, List.getElem?_take_of_lt (by omega), Array.getElem?_toList] at e
    rw [Nat.zero_add]
    simp [World.cell?, hh, e]
set_option maxRecDepth 100000 in
theorem run_spread (w : World) (ty base g0 : Nat) (a : Option Addr) (n c : Nat) (l : Nat → ByteArray) (hown : w.ownsRow base 9 1 (.slice (some ⟨g0, 0, none⟩) 0 0) 0 []) (hx : Tx w a n l) (hn : n ≤ 1000) (hbase : base ≤ w.heap.size) :
    ∃ g cap w', (Builtin.append_ #[22, 22] ty #[.slice (some ⟨g0, 0, none⟩) 0 0, .slice a n c]).run Tryd.prog w = .ok (.slice (some ⟨g, 0, none⟩) n cap) w' ∧ w'.ownsRow base 9 1 (.slice (some ⟨g, 0, none⟩) n cap) n (strL l n) ∧ w.grownBy w' (some g0) ∧ (g0 = g ∨ g = w.heap.size) := by
  obtain ⟨i0, hi, hz0, hz1, hz2⟩ := info_parts' infoS
  by_cases h0 : n = 0
  · subst h0
    refine ⟨g0, 0, w, ?_, hown, ⟨rfl, rfl, rfl, Nat.le_refl _, fun _ _ _ => rfl⟩, Or.inl rfl⟩
    refine run_append_nothing w 22 22 ty 9 i0 Tryd.underlying22 hi _ 0 0 (Nat.le_refl _) _ ⟨Or.inl ⟨9, Tryd.underlying22⟩, fun w' => ?_, ?_, ?_, by simp, by simp⟩
    · simp [Builtin.lenOf]
    · cases a <;> simp [Builtin.firstCells, loadCells, loadCellsFrom]
    · cases a <;> simp [Builtin.firstCells, loadCells, loadCellsFrom]
  · obtain ⟨k, o, rfl, hc⟩ := hx (by omega)
    obtain ⟨g, cap, w', hr, h2, h3, h4, h5⟩ := run_append_lies (P := Tryd.prog) w 22 ty base 9 i0 (.string ⟨#[]⟩) 1 16 Tryd.underlying22 hi hz0 hz1 hz2 rfl (by decide) (.slice (some ⟨g0, 0, none⟩) 0 0) 0 [] hown ⟨k, o, none⟩ n c (strL l n) (by rw [strL_length]; omega) (fun j u hu => by
      have hj : j < n := by have := (List.getElem?_eq_some_iff.1 hu).1; rwa [strL_length] at this
      rw [strL_get l n j hj] at hu
      injection hu with hu
      subst hu
      rw [Addr.add_mid]; exact hc j hj) (strL_one l n) (by omega) (by unfold maxLen; omega) (by omega) hbase w.heap.size rfl
    rw [Nat.zero_add, List.nil_append] at h2
    rw [Nat.zero_add] at hr
    refine ⟨g, cap, w', hr, h2, h3, ?_⟩
    rcases h4 with h4 | h4
    · exact Or.inl (by simpa [Value.ownBlock] using h4)
    · exact Or.inr h4
/-- append, as it was run, at a step of a region -/
theorem step_run {P : Program} {ops : Array Oper} {o : Oper} {a : Act} {w w' : World} {K : Act → World → Prop} {Q : Exit → Act → World → Prop} {E : Prop} (hgd : o.guard = none) (s x : Operand) (t : TypeId) (vs vx r : Value)
    (ho : o.op = .call { callee := .builtin .append, args := #[s, x], argTypes := #[t, t] }) (hs : a.eval s = vs) (hx : a.eval x = vx) (hr : (Builtin.append_ #[t, t] o.type #[vs, vx]).run P w = .ok r w') (h : K (a.put o.dst r) w') :
    if Region.wanted o (yielded ops a.tmps) = true then Oper.wp P o a w K Q else E := by
  have hw : Region.wanted o (yielded ops a.tmps) = true := by simp [Region.wanted, hgd]
  rw [if_pos hw]
  unfold Oper.wp execOp
  simp only [ho, resolve, invoke, builtin, Sem.run_bind, Sem.run_pure, Result.andThen_ok, List.map_toArray, List.map_cons, List.map_nil, hs, hx, hr]
  exact h
theorem list_run {P : Program} {ops : Array Oper} {rest : List Oper} {o : Oper} {a : Act} {w w' : World} {Q : Exit → Act → World → Prop} (hgd : o.guard = none) (s x : Operand) (t : TypeId) (vs vx r : Value)
    (ho : o.op = .call { callee := .builtin .append, args := #[s, x], argTypes := #[t, t] }) (hs : a.eval s = vs) (hx : a.eval x = vx) (hr : (Builtin.append_ #[t, t] o.type #[vs, vx]).run P w = .ok r w') (h : wpList P ops Q rest (a.put o.dst r) w') : wpList P ops Q (o :: rest) a w :=
  wpList_plain hgd fun K hK => by
    unfold Oper.wp execOp
    simp only [ho, resolve, invoke, builtin, Sem.run_bind, Sem.run_pure, Result.andThen_ok, List.map_toArray, List.map_cons, List.map_nil, hs, hx, hr]
    exact hK _ _ h
theorem rappend_bad (rb : Nat) (z : Int) (s : ByteArray) (w : World) (hz : ¬ (0 ≤ z ∧ z < 8)) :
    Calls Tryd.prog 29 #[.pointer (some ⟨rb, 0, none⟩), .int .i64 z, .string s] w fun e w' => e = .returned (.tuple #[.int .i64 0, .int .i64 2]) ∧ w' = w := by
  have hh := iz_false hz
  go_enter Tryd.func29, Tryd.ntmps29
  go_wp2_with fail
  refine (in_any _ _ _ _).mono ?_
  rintro e w' ⟨rfl, rfl⟩
  rw [hh]
  go_wp2_with fail
  go_ret2
  exact ⟨rfl, rfl⟩
theorem rappend_long (rb z : Nat) (s : ByteArray) (w : World) (hz : z < 8) (hs : 128 < s.size) :
    Calls Tryd.prog 29 #[.pointer (some ⟨rb, 0, none⟩), .int .i64 z, .string s] w fun e w' => e = .returned (.tuple #[.int .i64 0, .int .i64 4]) ∧ w' = w := by
  have hh := iz_true hz
  have hs2 : (128 : Int) < s.size := by omega
  go_enter Tryd.func29, Tryd.ntmps29
  go_wp2_with fail
  refine (in_any _ _ _ _).mono ?_
  rintro e w' ⟨rfl, rfl⟩
  rw [hh]
  go_wp2_with fail
  go_ret2
  exact ⟨rfl, rfl⟩
theorem rappend_full (D : Dv) (lv : Nat → Value) (av wv : Value) (rb N z : Nat) (s : ByteArray) (w : World) (hd : Ref w rb N D lv av wv) (hz : z < 8) (hs : s.size ≤ 128) (hc : D.cnt z = 16) :
    Calls Tryd.prog 29 #[.pointer (some ⟨rb, 0, none⟩), .int .i64 z, .string s] w fun e w' => e = .returned (.tuple #[.int .i64 0, .int .i64 12]) ∧ w' = w := by
  have hh := iz_true hz
  have hz2 : (z : Int) < 8 := by omega
  have hs2 : ¬ (128 : Int) < s.size := by omega
  have c1 := hd.cel.cell z (by omega)
  rw [rcell_l _ _ _ _ z hz] at c1
  obtain ⟨a, c, e, _, _⟩ := Tx.of_own (hd.row z hz)
  rw [e, hc] at c1
  clear e hd hc
  go_enter Tryd.func29, Tryd.ntmps29
  go_wp2_with fail
  refine (in_any _ _ _ _).mono ?_
  rintro e w' ⟨rfl, rfl⟩
  rw [hh]
  go_wp2_with fail
  go_ret2
  exact ⟨rfl, rfl⟩
theorem rappend_spent (D : Dv) (lv : Nat → Value) (av wv : Value) (rb N z : Nat) (s : ByteArray) (w : World) (hd : Ref w rb N D lv av wv) (hl : 0 ≤ D.left ∧ D.left ≤ 9223372036854775807) (hz : z < 8) (hs : s.size ≤ 128) (hc : D.cnt z < 16) (hm : D.may = false) :
    Calls Tryd.prog 29 #[.pointer (some ⟨rb, 0, none⟩), .int .i64 z, .string s] w fun e w' => e = .returned (.tuple #[.int .i64 0, .int .i64 14]) ∧ w' = w := by
  have hh := iz_true hz
  have hz2 : (z : Int) < 8 := by omega
  have hs2 : ¬ (128 : Int) < s.size := by omega
  have c1 := hd.cel.cell z (by omega)
  rw [rcell_l _ _ _ _ z hz] at c1
  obtain ⟨a, c, e, _, _⟩ := Tx.of_own (hd.row z hz)
  rw [e] at c1
  have HD : Hid (Ref w rb N D lv av wv) := hd
  have hc2 : ¬ (16 : Int) ≤ D.cnt z := by omega
  clear e hd
  go_enter Tryd.func29, Tryd.ntmps29
  go_wp2_with fail
  refine (in_any _ _ _ _).mono ?_
  rintro e w' ⟨rfl, rfl⟩
  rw [hh]
  go_wp2_with fail
  refine (spent_any D lv av wv rb N _ HD.out hl).mono ?_
  rintro e w1 ⟨rfl, h1, _⟩
  obtain rfl := h1 hm
  rw [hm]
  go_wp2_with fail
  go_ret2
  exact ⟨rfl, rfl⟩
/-- zone z has another list: block s more -/
theorem rapp_ref {w w5 : World} {rb N z : Nat} {s : ByteArray} {D : Dv} {lv : Nat → Value} {av wv x : Value} (h : Ref w rb N D lv av wv) (hS : Since w w5) (hz : z < 8) (hx : w5.ownsRow N 9 1 x (D.cnt z + 1) (blks (D.blk z) (D.cnt z) ++ [.string (txt 128 (sb s))])) (hnew : ∀ k, x.ownBlock = some k → w.heap.size ≤ k) :
    Ref (w5.setCell ⟨rb, z, none⟩ x) rb N (D.app z s) (updv lv z x) av wv where
  cel := by
    refine ((h.cel.since hS).set z (by omega) _).congr (fun j hj => ?_)
    unfold updv rcell
    by_cases h2 : j = z
    · rw [if_pos h2, if_pos (by omega)]
      dsimp only
      rw [if_pos h2]
    · rw [if_neg h2]
      by_cases h3 : j < 8
      · rw [if_pos h3, if_pos h3]
        dsimp only
        rw [if_neg h2]
      · rw [if_neg h3, if_neg h3]
        rfl
  row y hy := by
    by_cases e : y = z
    · subst e
      have e1 : (D.app y s).cnt y = D.cnt y + 1 := by simp [Dv.app]
      have e2 : blks ((D.app y s).blk y) (D.cnt y + 1) = blks (D.blk y) (D.cnt y) ++ [.string (txt 128 (sb s))] := by
        rw [blks_succ]
        congr 1
        · unfold blks
          exact List.map_congr_left (fun j hj => by
            have hj2 := List.mem_range.1 hj
            have : (D.app y s).blk y j = D.blk y j := by funext i; simp [Dv.app, show ¬ j = D.cnt y by omega]
            rw [this])
        · have : (D.app y s).blk y (D.cnt y) = sb s := by funext i; simp [Dv.app]
          rw [this]
      rw [e1, e2, show updv lv y x y = x by unfold updv; rw [if_pos rfl]]
      exact ownsRow_setCell_below hx h.lt _
    · have e1 : (D.app z s).cnt y = D.cnt y := by simp [Dv.app, e]
      have e2 : (D.app z s).blk y = D.blk y := by funext k i; simp [Dv.app, e]
      rw [e1, e2, show updv lv z x y = lv y by unfold updv; rw [if_neg e]]
      exact ownsRow_setCell_below (ownsRow_since (h.row y hy) hS) h.lt _
  at_ := ownsRow_setCell_below (ownsRow_since h.at_ hS) h.lt _
  what := ownsRow_setCell_below (ownsRow_since h.what hS) h.lt _
  apart y hy := by
    by_cases e : y = z
    · subst e
      rw [show updv lv y x y = x by unfold updv; rw [if_pos rfl]]
      cases hb : x.ownBlock with
      | none => exact Or.inl rfl
      | some q =>
        right
        intro e2
        have h1 := hnew q hb
        have h2 := (h.what.lt q e2.symm).2
        omega
    · rw [show updv lv z x y = lv y by unfold updv; rw [if_neg e]]
      exact h.apart y hy
  lt := h.lt
  le := by have h1 := h.le; have h2 := hS.size; have : (w5.setCell ⟨rb, z, none⟩ x).heap.size = w5.heap.size := by simp [World.setCell]
           omega
end Go.Proofs.YtjfhggcjdckfgaaDoor
