/- The reference's device: where its cells lie, and that it is the device D. -/
import Derived.Test.YtjfhggcjdckfgaaDoorZ14
import Derived.Test.YtjfhggcjdckfgaaDoorZR
import Derived.Test.YtjfhggcjdckfgaaDoorSh
namespace Go.Proofs.YtjfhggcjdckfgaaDoor
set_option linter.unusedSimpArgs false
set_option linter.unusedVariables false
open Go.RowKit

/-- the reference's fuse -/
def Dv.fz (D : Dv) : Int := if D.fused then D.left else -1
/-- cell j of the reference's device -/
def rcell (D : Dv) (lv : Nat → Value) (av wv : Value) (j : Nat) : Value :=
  if j < 8 then lv j else if j < 16 then .int .i64 (D.sure (j - 8)) else if j = 16 then .string (txt 500 (D.slot 0)) else if j = 17 then .string (txt 500 (D.slot 1))
  else if j = 18 then av else if j = 19 then wv else .int .i64 D.fz
theorem rcell_l (D : Dv) (lv : Nat → Value) (av wv : Value) (z : Nat) (hz : z < 8) : rcell D lv av wv z = lv z := by unfold rcell; rw [if_pos hz]
theorem rcell_sure (D : Dv) (lv : Nat → Value) (av wv : Value) (z : Nat) (hz : z < 8) : rcell D lv av wv (8 + z) = .int .i64 (D.sure z) := by
  unfold rcell; rw [if_neg (by omega), if_pos (by omega), show 8 + z - 8 = z by omega]
theorem rcell_slot (D : Dv) (lv : Nat → Value) (av wv : Value) (k : Nat) (hk : k < 2) : rcell D lv av wv (16 + k) = .string (txt 500 (D.slot k)) := by
  match k, hk with
  | 0, _ => rfl
  | 1, _ => rfl
theorem rcell_at (D : Dv) (lv : Nat → Value) (av wv : Value) : rcell D lv av wv 18 = av := rfl
theorem rcell_what (D : Dv) (lv : Nat → Value) (av wv : Value) : rcell D lv av wv 19 = wv := rfl
theorem rcell_f (D : Dv) (lv : Nat → Value) (av wv : Value) : rcell D lv av wv 20 = .int .i64 D.fz := rfl
/-- which slots were written, and what with -/
def atL (ws : List (Nat × ByteArray)) : List Value := ws.map fun p => .int .i64 (p.1 : Int)
def whatL (ws : List (Nat × ByteArray)) : List Value := ws.map fun p => .string (txt 500 (sb p.2))
/-- the reference's device D lies in block rb, its lists at or above block N -/
structure Ref (w : World) (rb N : Nat) (D : Dv) (lv : Nat → Value) (av wv : Value) : Prop where
  cel : Cel w rb 21 (rcell D lv av wv)
  row : ∀ z, z < 8 → w.ownsRow N 9 1 (lv z) (D.cnt z) (blks (D.blk z) (D.cnt z))
  at_ : w.ownsRow N 3 1 av D.ws.length (atL D.ws)
  what : w.ownsRow N 9 1 wv D.ws.length (whatL D.ws)
  apart : ∀ z, z < 8 → (lv z).ownBlock = none ∨ (lv z).ownBlock ≠ wv.ownBlock
  lt : rb < N
  le : N ≤ w.heap.size
theorem Ref.since {w w' : World} {rb N : Nat} {D : Dv} {lv : Nat → Value} {av wv : Value} (h : Ref w rb N D lv av wv) (hs : Since w w') : Ref w' rb N D lv av wv :=
  ⟨h.cel.since hs, fun z hz => ownsRow_since (h.row z hz) hs, ownsRow_since h.at_ hs, ownsRow_since h.what hs, h.apart, h.lt, Nat.le_trans h.le hs.size⟩
theorem ne_of_base {w : World} {N b e s n : Nat} {v : Value} {xs : List Value} (h : w.ownsRow N e s v n xs) (hb : b < N) : v.ownBlock ≠ some b := fun e => by have := (h.lt _ e).1; omega
/-- blocks b and g alone were written: b below N, g none of the reference's -/
theorem Ref.fr {w w' : World} {rb N b : Nat} {g : Option Nat} {D : Dv} {lv : Nat → Value} {av wv : Value} (h : Ref w rb N D lv av wv) (hf : Fr b g w w') (hb : b < N) (hne : rb ≠ b) (hg0 : some rb ≠ g)
    (hg : ∀ z, z < 8 → (lv z).ownBlock = none ∨ (lv z).ownBlock ≠ g) (hga : av.ownBlock = none ∨ av.ownBlock ≠ g) (hgw : wv.ownBlock = none ∨ wv.ownBlock ≠ g) : Ref w' rb N D lv av wv :=
  ⟨h.cel.fr hf hne hg0, fun z hz => ownsRow_fr (h.row z hz) hf (ne_of_base (h.row z hz) hb) (hg z hz), ownsRow_fr h.at_ hf (ne_of_base h.at_ hb) hga, ownsRow_fr h.what hf (ne_of_base h.what hb) hgw, h.apart, h.lt, Nat.le_trans h.le hf.size⟩
theorem none_or (x : Option Nat) : x = none ∨ x ≠ none := by cases x <;> simp
theorem Ref.fr0 {w w' : World} {rb N b : Nat} {D : Dv} {lv : Nat → Value} {av wv : Value} (h : Ref w rb N D lv av wv) (hf : Fr b none w w') (hb : b < N) (hne : rb ≠ b) : Ref w' rb N D lv av wv :=
  h.fr hf hb hne (by simp) (fun z _ => none_or _) (none_or _) (none_or _)
/-- another device of the same lists -/
theorem Ref.turn {w : World} {rb N : Nat} {D D' : Dv} {lv : Nat → Value} {av wv : Value} (h : Ref w rb N D lv av wv) (hc : Cel w rb 21 (rcell D' lv av wv)) (h1 : ∀ z, z < 8 → D'.cnt z = D.cnt z) (h2 : ∀ z j, z < 8 → j < D.cnt z → D'.blk z j = D.blk z j) (h3 : D'.ws = D.ws) : Ref w rb N D' lv av wv where
  cel := hc
  row z hz := by
    rw [h1 z hz]
    have e : blks (D'.blk z) (D.cnt z) = blks (D.blk z) (D.cnt z) := by
      unfold blks
      exact List.map_congr_left (fun j hj => by rw [h2 z j hz (List.mem_range.1 hj)])
    rw [e]
    exact h.row z hz
  at_ := by rw [h3]; exact h.at_
  what := by rw [h3]; exact h.what
  apart := h.apart
  lt := h.lt
  le := h.le

theorem in_any (n lo hi : Int) (w : World) : Calls Tryd.prog 87 #[.int .i64 n, .int .i64 lo, .int .i64 hi] w fun e w' => e = .returned (.bool (decide (lo ≤ n) && decide (n ≤ hi))) ∧ w' = w := by
  by_cases h : lo ≤ n
  · by_cases h2 : n ≤ hi
    · go_enter Tryd.func87, Tryd.ntmps87
      go_wp2_with fail
      go_ret
      exact ⟨by simp [h, h2], rfl⟩
    · go_enter Tryd.func87, Tryd.ntmps87
      go_wp2_with fail
      go_ret
      exact ⟨by simp [h, h2], rfl⟩
  · go_enter Tryd.func87, Tryd.ntmps87
    go_wp2_with fail
    go_ret
    exact ⟨by simp; omega, rfl⟩
theorem rep0 (n : Nat) : (⟨(Lib.repeatL (⟨#[0]⟩ : ByteArray).data.toList n).toArray⟩ : ByteArray) = txt n (fun _ => 0) := by
  have e : ∀ n, Lib.repeatL [0] n = List.replicate n 0 := fun n => by
    induction n with
    | zero => rfl
    | succ n ih => simp [Lib.repeatL, List.replicate_succ] at ih ⊢; exact ih
  unfold txt
  congr 2
  show Lib.repeatL [0] n = _
  rw [e]
  apply List.ext_getElem?
  intro i
  by_cases h : i < n
  · simp [h]
  · simp [h]
theorem zeros_any (n : Nat) (w : World) (hn : n ≤ 1000) : Calls Tryd.prog 95 #[.int .i64 (n : Int)] w fun e w' => e = .returned (.string (txt n (fun _ => 0))) ∧ Since w w' := by
  go_enter Tryd.func95, Tryd.ntmps95
  go_wp2_with fail
  refine (repeat_any ⟨#[0]⟩ n _ (by omega) (by show 1 * n ≤ _; omega)).mono ?_
  rintro e w' ⟨rfl, hS⟩
  rw [rep0]
  have hS2 : Since w w' := hS
  clear hS
  go_wp2_with fail
  go_ret
  exact ⟨rfl, hS2⟩
/-- a text and 0 behind it, up to m bytes -/
theorem padm (s : ByteArray) (m : Nat) (h : s.size ≤ m) : s ++ txt (m - s.size) (fun _ => 0) = txt m (sb s) := by
  have hsz : s.data.size = s.size := rfl
  apply ByteArray.ext
  apply Array.ext_getElem?
  intro i
  have e1 : (txt m (sb s)).data[i]? = ((List.range m).map (sb s))[i]? := by unfold txt; exact List.getElem?_toArray ..
  rw [e1, ByteArray.data_append, Array.getElem?_append, List.getElem?_map]
  by_cases h1 : i < s.size
  · rw [if_pos (by omega), List.getElem?_range (by omega)]
    simp only [Option.map_some]
    unfold sb
    rw [Array.getElem?_eq_getElem (by omega)]
    rfl
  · rw [if_neg (by omega)]
    have e2 : (txt (m - s.size) (fun _ => 0)).data[i - s.data.size]? = ((List.range (m - s.size)).map (fun _ => (0 : UInt8)))[i - s.data.size]? := by unfold txt; exact List.getElem?_toArray ..
    rw [e2, List.getElem?_map]
    by_cases h2 : i < m
    · rw [List.getElem?_range (by omega), List.getElem?_range (by omega)]
      simp only [Option.map_some]
      rw [sb_zero s i (by omega)]
    · rw [List.getElem?_eq_none (by simp; omega), List.getElem?_eq_none (by simp; omega)]
      rfl
theorem cutm (s : ByteArray) (m : Nat) (h : m ≤ s.size) : s.extract 0 m = txt m (sb s) := by
  have hsz : s.data.size = s.size := rfl
  apply ByteArray.ext
  apply Array.ext_getElem?
  intro i
  have e1 : (txt m (sb s)).data[i]? = ((List.range m).map (sb s))[i]? := by unfold txt; exact List.getElem?_toArray ..
  rw [e1, List.getElem?_map, ByteArray.data_extract, Array.getElem?_extract]
  by_cases h1 : i < m
  · rw [if_pos (by omega), List.getElem?_range (by omega), Nat.zero_add]
    simp only [Option.map_some]
    unfold sb
    rw [Array.getElem?_eq_getElem (by omega)]
    rfl
  · rw [if_neg (by omega), List.getElem?_eq_none (by simp; omega)]
    rfl
set_option maxHeartbeats 1000000 in
theorem rlong_any (s : ByteArray) (m : Nat) (w : World) (hm : m ≤ 1000) : Calls Tryd.prog 97 #[.string s, .int .i64 (m : Int)] w fun e w' => e = .returned (.string (txt m (sb s))) ∧ Since w w' := by
  by_cases h : s.size < m
  · have h2 : (s.size : Int) < m := by omega
    have E1 : Hid ((m : Int) - s.size = ((m - s.size : Nat) : Int)) := show (m : Int) - s.size = ((m - s.size : Nat) : Int) by omega
    have HP : Hid (s ++ txt (m - s.size) (fun _ => 0) = txt m (sb s)) := padm s m (by omega)
    go_enter Tryd.func97, Tryd.ntmps97
    go_wp2_with fail
    rw [E1.out]
    refine (zeros_any _ _ (by omega)).mono ?_
    rintro e w' ⟨rfl, hS⟩
    have hz : (txt (m - s.size) (fun _ => 0)).size = m - s.size := txt_size _ _
    have hz2 : (txt m (sb s)).size = m := txt_size _ _
    have hcut : (txt m (sb s)).extract 0 m = txt m (sb s) := by rw [cutm _ m (by rw [txt_size]; omega)]; exact txt_congr (fun i hi => sb_txt m _ i hi)
    have hsum : s.size + (txt (m - s.size) (fun _ => 0)).size ≤ 9223372036854775807 := by omega
    go_wp2_with fail
    rw [HP.out]
    go_wp2_with fail
    rw [hcut]
    go_ret
    exact ⟨rfl, hS⟩
  · have h2 : ¬ (s.size : Int) < m := by omega
    have hc := cutm s m (by omega)
    go_enter Tryd.func97, Tryd.ntmps97
    go_wp2_with fail
    go_ret
    first | exact ⟨rfl, Since.refl _⟩ | exact ⟨by rw [hc], Since.refl _⟩
end Go.Proofs.YtjfhggcjdckfgaaDoor
