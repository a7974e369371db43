/- ZoneHolds: what it calls; its facts. -/
import Derived.Test.YtjfhggcjdckfgaaDoorH2
import Derived.Test.YtjfhggcjdckfgaaDoorE8
namespace Go.Proofs.YtjfhggcjdckfgaaDoor
set_option linter.unusedSimpArgs false
set_option linter.unusedVariables false
open Go.RowKit

theorem holdsF_tells : Tells 53 (fun s => decide (140 < s.size)) := by
  refine ⟨enters_of Tryd.func53 (by kernel_rfl) rfl, fun s w => ?_⟩
  go_enter Tryd.func53, Tryd.ntmps53
  go_wp2_with fail
  go_ret
  refine ⟨?_, rfl⟩
  simp
  omega
theorem burnt_off {D : Dv} (h : D.fused = false) : D.burnt = D := by unfold Dv.burnt; rw [h]; rfl
theorem may_off {D : Dv} (h : D.fused = false) : D.may = true := by unfold Dv.may; rw [h]; rfl
/-- v is a list of n values that lie below block N -/
def SlA (w : World) (N : Nat) (v : Value) (n : Nat) (f : Nat → Value) : Prop :=
  ∃ a c, v = .slice a n c ∧ (0 < n → ∃ k o, a = some ⟨k, o, none⟩ ∧ k < N ∧ ∀ j, j < n → w.cell? ⟨k, o + j, none⟩ = some (f j))
theorem SlA.sl {w w' : World} {N b : Nat} {v : Value} {n : Nat} {f : Nat → Value} (h : SlA w N v n f) (hs : Since w w') (hb : N ≤ b) : Sl w' b v n f := by
  obtain ⟨a, c, hv, h⟩ := h
  refine ⟨a, c, hv, fun hn => ?_⟩
  obtain ⟨k, o, ha, hk, hc⟩ := h hn
  exact ⟨k, o, ha, by omega, fun j hj => (hs.cell (p := ⟨k, o + j, none⟩) (World.block_lt_of_cell? w _ (hc j hj))).trans (hc j hj)⟩
/-- l and 0 up to 128 bytes -/
theorem padded (s : ByteArray) (h : s.size ≤ 128) : s ++ txt (128 - s.size) (fun _ => 0) = txt 128 (sb s) := by
  have hsz : s.data.size = s.size := rfl
  apply ByteArray.ext
  apply Array.ext_getElem?
  intro i
  have e1 : (txt 128 (sb s)).data[i]? = ((List.range 128).map (sb s))[i]? := by unfold txt; exact List.getElem?_toArray ..
  rw [e1, ByteArray.data_append, Array.getElem?_append, List.getElem?_map]
  by_cases h1 : i < s.size
  · rw [if_pos (by omega), List.getElem?_range (by omega)]
    simp only [Option.map_some]
    unfold sb
    rw [Array.getElem?_eq_getElem (by omega)]
    rfl
  · rw [if_neg (by omega)]
    have e2 : (txt (128 - s.size) (fun _ => 0)).data[i - s.data.size]? = ((List.range (128 - s.size)).map (fun _ => (0 : UInt8)))[i - s.data.size]? := by unfold txt; exact List.getElem?_toArray ..
    rw [e2, List.getElem?_map]
    by_cases h2 : i < 128
    · rw [List.getElem?_range (by omega), List.getElem?_range (by omega)]
      simp only [Option.map_some]
      rw [sb_zero s i (by omega)]
    · rw [List.getElem?_eq_none (by simp; omega), List.getElem?_eq_none (by simp; omega)]
      rfl
/-- what was wanted: a list a zone, apart from one another, above block N -/
structure Want (w : World) (N Bw : Nat) (D : Dv) (wv : Nat → Value) : Prop where
  cel : Cel w Bw 8 wv
  row : ∀ z, z < 8 → w.ownsRow N 9 1 (wv z) (D.cnt z) (blks (D.blk z) (D.cnt z))
  apart : ∀ z y k, z < 8 → y < 8 → (wv z).ownBlock = some k → (wv y).ownBlock = some k → z = y
theorem Want.fr {w w' : World} {N Bw b : Nat} {D D' : Dv} {wv : Nat → Value} (h : Want w N Bw D wv) (hf : Fr b none w w') (hb : b < N) (hB : Bw ≠ b) (hc : ∀ z, z < 8 → D'.cnt z = D.cnt z) (hk : ∀ z j, z < 8 → j < D.cnt z → D'.blk z j = D.blk z j) : Want w' N Bw D' wv where
  cel := h.cel.fr hf hB (by simp)
  row z hz := by
    have h1 := ownsRow_fr (h.row z hz) hf (fun e => by have := ((h.row z hz).lt _ e).1; omega) (by
      cases hv : (wv z).ownBlock with
      | none => exact Or.inl rfl
      | some k => exact Or.inr (by simp))
    rw [hc z hz]
    have e : blks (D'.blk z) (D.cnt z) = blks (D.blk z) (D.cnt z) := by
      unfold blks
      exact List.map_congr_left (fun j hj => by rw [hk z j hz (List.mem_range.1 hj)])
    rw [e]
    exact h1
  apart := h.apart
theorem Want.since {w w' : World} {N Bw : Nat} {D : Dv} {wv : Nat → Value} (h : Want w N Bw D wv) (hs : Since w w') : Want w' N Bw D wv :=
  ⟨h.cel.since hs, fun z hz => ownsRow_since (h.row z hz) hs, h.apart⟩
theorem own_form {w : World} {base n : Nat} {e : TypeId} {v : Value} {xs : List Value} (h : w.ownsRow base e 1 v n xs) : ∃ a c, v = .slice a n c := by
  rcases h.2 with ⟨rfl, rfl⟩ | ⟨g, cap, cur, rfl, _⟩
  · exact ⟨_, _, rfl⟩
  · exact ⟨_, _, rfl⟩
theorem i64_sub (n : Nat) (h : n ≤ 128) : IntKind.i64.wrap (128 - (n : Int)) = ((128 - n : Nat) : Int) := by
  simp only [IntKind.wrap, IntKind.bits, IntKind.signed]
  simp
  split <;> omega
theorem grown_fr {w w7 : World} {Bw z : Nat} {g : Option Nat} {x : Value} (hg : w.grownBy w7 g) : Fr Bw g w (w7.setCell ⟨Bw, z, none⟩ x) :=
  (Fr.trans' ⟨hg.os, hg.tape, hg.output, hg.size, fun k hk _ h => hg.block k hk h⟩ (Fr.setCell Bw g z w7 x))
theorem Want.own {w : World} {N Bw : Nat} {D : Dv} {wv : Nat → Value} (h : Want w N Bw D wv) (z : Nat) (hz : z < 8) : ∀ k, (wv z).ownBlock = some k → N ≤ k ∧ k < w.heap.size := (h.row z hz).lt
theorem want_cel {w w7 : World} {N Bw z : Nat} {D : Dv} {wv : Nat → Value} (h : Want w N Bw D wv) (hz : z < 8) (hN : Bw < N) (hg : w.grownBy w7 (wv z).ownBlock) : Cel w7 Bw 8 wv :=
  h.cel.fr (b' := Bw + 1) ⟨hg.os, hg.tape, hg.output, hg.size, fun k hk _ h => hg.block k hk h⟩ (by omega) (fun e => by have := (h.own z hz Bw e.symm).1; omega)
/-- a block more is wanted of zone z -/
theorem want_app {w w7 : World} {N Bw z g cap : Nat} {D : Dv} {wv : Nat → Value} {s : ByteArray} (h : Want w N Bw D wv) (hz : z < 8) (hN : Bw < N) (hg : w.grownBy w7 (wv z).ownBlock)
    (hown : w7.ownsRow N 9 1 (.slice (some ⟨g, 0, none⟩) (D.cnt z + 1) cap) (D.cnt z + 1) (blks (D.blk z) (D.cnt z) ++ [.string (txt 128 (sb s))])) (hat : (wv z).ownBlock = some g ∨ g = w.heap.size) :
    Want (w7.setCell ⟨Bw, z, none⟩ (.slice (some ⟨g, 0, none⟩) (D.cnt z + 1) cap)) N Bw (D.app z s) (updv wv z (.slice (some ⟨g, 0, none⟩) (D.cnt z + 1) cap)) where
  cel := (want_cel h hz hN hg).set z hz _
  row y hy := by
    by_cases e : y = z
    · subst e
      have e1 : updv wv y (.slice (some ⟨g, 0, none⟩) (D.cnt y + 1) cap) y = .slice (some ⟨g, 0, none⟩) (D.cnt y + 1) cap := by unfold updv; rw [if_pos rfl]
      have e2 : (D.app y s).cnt y = D.cnt y + 1 := by show (if y = y then _ else _) = _; rw [if_pos rfl]
      have e3 : blks ((D.app y s).blk y) (D.cnt y + 1) = blks (D.blk y) (D.cnt y) ++ [.string (txt 128 (sb s))] := by
        rw [blks_succ]
        congr 1
        · unfold blks
          refine List.map_congr_left (fun j hj => ?_)
          have hj := List.mem_range.1 hj
          have : (D.app y s).blk y j = D.blk y j := by funext i; show (if y = y ∧ j = D.cnt y then _ else _) = _; rw [if_neg (by omega)]
          rw [this]
        · have : (D.app y s).blk y (D.cnt y) = sb s := by funext i; show (if y = y ∧ D.cnt y = D.cnt y then _ else _) = _; rw [if_pos ⟨rfl, rfl⟩]
          rw [this]
      rw [e1, e2, e3]
      exact ownsRow_fr hown (Fr.setCell Bw none y w7 _) (fun e => by have := (hown.lt _ e).1; omega) (Or.inr (by simp [Value.ownBlock]))
    · have e1 : updv wv z (.slice (some ⟨g, 0, none⟩) (D.cnt z + 1) cap) y = wv y := by unfold updv; rw [if_neg e]
      have e2 : (D.app z s).cnt y = D.cnt y := by show (if y = z then _ else _) = _; rw [if_neg e]
      have e3 : (D.app z s).blk y = D.blk y := by funext j i; show (if y = z ∧ j = D.cnt z then _ else _) = _; rw [if_neg (by omega)]
      rw [e1, e2, e3]
      refine ownsRow_fr (h.row y hy) (grown_fr hg) (fun e => by have := (h.own y hy _ e).1; omega) ?_
      cases hv : (wv y).ownBlock with
      | none => exact Or.inl rfl
      | some k => exact Or.inr (fun e' => e (h.apart y z k hy hz hv e'.symm))
  apart y x k hy hx h1 h2 := by
    have hh : ∀ u, u < 8 → u ≠ z → (wv u).ownBlock = some g → False := fun u hu hne e => by
      rcases hat with h3 | h3
      · exact hne (h.apart u z g hu hz e h3)
      · have := (h.own u hu g e).2; omega
    unfold updv at h1 h2
    by_cases e1 : y = z
    · by_cases e2 : x = z
      · omega
      · rw [if_pos e1] at h1
        rw [if_neg e2] at h2
        have : g = k := by simpa [Value.ownBlock] using h1
        subst this
        exact (hh x hx e2 h2).elim
    · by_cases e2 : x = z
      · rw [if_neg e1] at h1
        rw [if_pos e2] at h2
        have : g = k := by simpa [Value.ownBlock] using h2
        subst this
        exact (hh y hy e1 h1).elim
      · rw [if_neg e1] at h1
        rw [if_neg e2] at h2
        exact h.apart y x k hy hx h1 h2
theorem blks_get (blk : Nat → Nat → UInt8) (n j : Nat) (hj : j < n) : (blks blk n)[j]? = some (.string (txt 128 (blk j))) := by simp [blks, hj]
theorem own_cell {w : World} {base n : Nat} {e : TypeId} {v : Value} {xs : List Value} (h : w.ownsRow base e 1 v n xs) (hn : 0 < n) : ∃ g c, v = .slice (some ⟨g, 0, none⟩) n c ∧ ∀ j, j < n → w.cell? ⟨g, j, none⟩ = xs[j]? := by
  rcases h.2 with ⟨rfl, rfl⟩ | ⟨g, cap, cur, rfl, hg, hh, h1, h2, h3, h4⟩
  · omega
  · refine ⟨g, cap, rfl, fun j hj => ?_⟩
    rw [← h4, List.getElem?_take_of_lt (by omega), Array.getElem?_toList]
    simp [World.cell?, hh]
end Go.Proofs.YtjfhggcjdckfgaaDoor
