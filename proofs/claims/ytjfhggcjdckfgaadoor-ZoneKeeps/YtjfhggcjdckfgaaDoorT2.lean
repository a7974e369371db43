/- The reference's device: Fuse, Reset, Put. -/
import Derived.Test.YtjfhggcjdckfgaaDoorT1
import Derived.Deep.AppendLies
namespace Go.Proofs.YtjfhggcjdckfgaaDoor
set_option linter.unusedSimpArgs false
set_option linter.unusedVariables false
open Go.RowKit

/-- cells of the device alone were written -/
theorem Ref.cells {w w' : World} {rb N : Nat} {D D' : Dv} {lv : Nat → Value} {av wv : Value} (h : Ref w rb N D lv av wv) (hf : Fr rb none w w') (hc : Cel w' rb 21 (rcell D' lv av wv)) (h1 : ∀ z, z < 8 → D'.cnt z = D.cnt z) (h2 : ∀ z j, z < 8 → j < D.cnt z → D'.blk z j = D.blk z j) (h3 : D'.ws = D.ws) : Ref w' rb N D' lv av wv where
  cel := hc
  row z hz := by
    rw [h1 z hz]
    have e : blks (D'.blk z) (D.cnt z) = blks (D.blk z) (D.cnt z) := by
      unfold blks
      exact List.map_congr_left (fun j hj => by rw [h2 z j hz (List.mem_range.1 hj)])
    rw [e]
    exact ownsRow_fr (h.row z hz) hf (ne_of_base (h.row z hz) h.lt) (none_or _)
  at_ := by rw [h3]; exact ownsRow_fr h.at_ hf (ne_of_base h.at_ h.lt) (none_or _)
  what := by rw [h3]; exact ownsRow_fr h.what hf (ne_of_base h.what h.lt) (none_or _)
  apart := h.apart
  lt := h.lt
  le := Nat.le_trans h.le hf.size
theorem rfuse_any (D : Dv) (lv : Nat → Value) (av wv : Value) (rb N : Nat) (n : Int) (w : World) (hd : Ref w rb N D lv av wv) :
    Calls Tryd.prog 38 #[.pointer (some ⟨rb, 0, none⟩), .int .i64 n] w fun e w' => e = .returned (.tuple #[]) ∧ Ref w' rb N (D.fuse n) lv av wv ∧ Fr rb none w w' := by
  have c1 := hd.cel.cell 20 (by omega)
  have f1 := hd.cel.frozen 20 (by omega)
  rw [rcell_f] at c1
  have HD : Hid (Ref w rb N D lv av wv) := hd
  clear hd
  by_cases h0 : n < 0
  · have hz : (D.fuse n).fz = -1 := by unfold Dv.fuse Dv.fz; rw [if_neg (by simp; omega)]
    have hr : Ref ((w.setCell ⟨rb, 20, none⟩ (.int .i64 n)).setCell ⟨rb, 20, none⟩ (.int .i64 (-1))) rb N (D.fuse n) lv av wv := by
      refine HD.out.cells ((Fr.setCell _ _ _ _ _).trans' (Fr.setCell _ _ _ _ _)) (((HD.out.cel.set 20 (by omega) _).set 20 (by omega) _).congr (fun j hj => ?_)) (fun _ _ => rfl) (fun _ _ _ _ => rfl) rfl
      have := rcell_fuse D (D.fuse n) lv av wv rfl rfl j hj
      rw [hz] at this
      rw [← this]
      unfold updv
      by_cases h : j = 20
      · rw [if_pos h, if_pos h]
      · rw [if_neg h, if_neg h, if_neg h]
    have HR : Hid (Ref _ rb N (D.fuse n) lv av wv) := hr
    clear hz hr
    go_enter Tryd.func38, Tryd.ntmps38
    go_wp2_with fail
    go_end0
    exact ⟨rfl, HR.out, (Fr.setCell _ _ _ _ _).trans' (Fr.setCell _ _ _ _ _)⟩
  · have hz : (D.fuse n).fz = n := by unfold Dv.fuse Dv.fz; rw [if_pos (by simp; omega)]; show max n 0 = n; omega
    have hr : Ref (w.setCell ⟨rb, 20, none⟩ (.int .i64 n)) rb N (D.fuse n) lv av wv := by
      refine HD.out.cells (Fr.setCell _ _ _ _ _) ((HD.out.cel.set 20 (by omega) _).congr (fun j hj => ?_)) (fun _ _ => rfl) (fun _ _ _ _ => rfl) rfl
      have := rcell_fuse D (D.fuse n) lv av wv rfl rfl j hj
      rw [hz] at this
      exact this
    have HR : Hid (Ref _ rb N (D.fuse n) lv av wv) := hr
    clear hz hr
    go_enter Tryd.func38, Tryd.ntmps38
    go_wp2_with fail
    go_end0
    exact ⟨rfl, HR.out, Fr.setCell _ _ _ _ _⟩

theorem rreset_bad (rb : Nat) (z : Int) (w : World) (hz : ¬ (0 ≤ z ∧ z < 8)) :
    Calls Tryd.prog 32 #[.pointer (some ⟨rb, 0, none⟩), .int .i64 z] w fun e w' => e = .returned (.int .i64 2) ∧ w' = w := by
  have hh := iz_false hz
  go_enter Tryd.func32, Tryd.ntmps32
  go_wp2_with fail
  refine (in_any _ _ _ _).mono ?_
  rintro e w' ⟨rfl, rfl⟩
  rw [hh]
  go_wp2_with fail
  go_ret
  exact ⟨rfl, rfl⟩
theorem rreset_spent (D : Dv) (lv : Nat → Value) (av wv : Value) (rb N z : Nat) (w : World) (hd : Ref w rb N D lv av wv) (hl : 0 ≤ D.left ∧ D.left ≤ 9223372036854775807) (hz : z < 8) (hm : D.may = false) :
    Calls Tryd.prog 32 #[.pointer (some ⟨rb, 0, none⟩), .int .i64 z] w fun e w' => e = .returned (.int .i64 14) ∧ w' = w := by
  have hh := iz_true hz
  go_enter Tryd.func32, Tryd.ntmps32
  go_wp2_with fail
  refine (in_any _ _ _ _).mono ?_
  rintro e w' ⟨rfl, rfl⟩
  rw [hh]
  go_wp2_with fail
  refine (spent_any D lv av wv rb N _ hd hl).mono ?_
  rintro e w1 ⟨rfl, h1, _⟩
  obtain rfl := h1 hm
  rw [hm]
  go_wp2_with fail
  go_ret
  exact ⟨rfl, rfl⟩
/-- zone z has no blocks -/
theorem rreset_ref {w : World} {rb N z : Nat} {D : Dv} {lv : Nat → Value} {av wv : Value} (h : Ref w rb N D lv av wv) (hz : z < 8) :
    Ref ((w.setCell ⟨rb, z, none⟩ (.slice none 0 0)).setCell ⟨rb, 8 + z, none⟩ (.int .i64 0)) rb N (D.reset z) (updv lv z (.slice none 0 0)) av wv where
  cel := by
    refine ((h.cel.set z (by omega) _).set (8 + z) (by omega) _).congr (fun j hj => ?_)
    unfold updv rcell
    by_cases h1 : j = 8 + z
    · rw [if_pos h1, if_neg (by omega), if_pos (by omega)]
      simp [Dv.reset, show j - 8 = z by omega]
    · rw [if_neg h1]
      by_cases h2 : j = z
      · rw [if_pos h2, if_pos (by omega)]
        dsimp only
        rw [if_pos h2]
      · rw [if_neg h2]
        by_cases h3 : j < 8
        · rw [if_pos h3, if_pos h3]
          dsimp only
          rw [if_neg h2]
        · rw [if_neg h3, if_neg h3]
          by_cases h4 : j < 16
          · rw [if_pos h4, if_pos h4]
            simp [Dv.reset, show ¬ j - 8 = z by omega]
          · rw [if_neg h4, if_neg h4]
            rfl
  row y hy := by
    by_cases e : y = z
    · subst e
      have e1 : (D.reset y).cnt y = 0 := by simp [Dv.reset]
      rw [e1, show updv lv y (.slice none 0 0) y = .slice none 0 0 by unfold updv; rw [if_pos rfl]]
      exact World.ownsRow_nil _ _ _ _
    · have e1 : (D.reset z).cnt y = D.cnt y := by simp [Dv.reset, e]
      have e2 : (D.reset z).blk y = D.blk y := by funext k i; simp [Dv.reset, e]
      rw [e1, e2, show updv lv z (.slice none 0 0) y = lv y by unfold updv; rw [if_neg e]]
      exact ownsRow_setCell_below (ownsRow_setCell_below (h.row y hy) h.lt _) h.lt _
  at_ := ownsRow_setCell_below (ownsRow_setCell_below h.at_ h.lt _) h.lt _
  what := ownsRow_setCell_below (ownsRow_setCell_below h.what h.lt _) h.lt _
  apart y hy := by
    by_cases e : y = z
    · subst e
      rw [show updv lv y (.slice none 0 0) y = .slice none 0 0 by unfold updv; rw [if_pos rfl]]
      exact Or.inl rfl
    · rw [show updv lv z (.slice none 0 0) y = lv y by unfold updv; rw [if_neg e]]
      exact h.apart y hy
  lt := h.lt
  le := by have := h.le; simpa [World.setCell] using this
set_option maxRecDepth 100000 in
set_option maxHeartbeats 1000000 in
theorem rreset_any (D : Dv) (lv : Nat → Value) (av wv : Value) (rb N z : Nat) (w : World) (hd : Ref w rb N D lv av wv) (hl : 0 ≤ D.left ∧ D.left ≤ 9223372036854775807) (hz : z < 8) (hm : D.may = true) :
    Calls Tryd.prog 32 #[.pointer (some ⟨rb, 0, none⟩), .int .i64 z] w fun e w' => e = .returned (.int .i64 0) ∧ (∃ lv', Ref w' rb N (D.burnt.reset z) lv' av wv) ∧ Fr rb none w w' := by
  have hh := iz_true hz
  have hz2 : (z : Int) < 8 := by omega
  have HD : Hid (Ref w rb N D lv av wv) := hd
  clear hd
  go_enter Tryd.func32, Tryd.ntmps32
  go_wp2_with fail
  refine (in_any _ _ _ _).mono ?_
  rintro e w' ⟨rfl, rfl⟩
  rw [hh]
  go_wp2_with fail
  refine (spent_any D lv av wv rb N _ HD.out hl).mono ?_
  rintro e w1 ⟨rfl, _, h1⟩
  obtain ⟨hd1, hf1⟩ := h1 hm
  rw [hm]
  have c1 := hd1.cel.cell z (by omega)
  have f1 := hd1.cel.frozen z (by omega)
  have c2 := hd1.cel.cell (8 + z) (by omega)
  have f2 := hd1.cel.frozen (8 + z) (by omega)
  have hne : ¬ 8 + z = z := by omega
  have HR : Hid (Ref ((w1.setCell ⟨rb, z, none⟩ (.slice none 0 0)).setCell ⟨rb, 8 + z, none⟩ (.int .i64 0)) rb N (D.burnt.reset z) (updv lv z (.slice none 0 0)) av wv) := rreset_ref hd1 hz
  have HF : Hid (Fr rb none w' ((w1.setCell ⟨rb, z, none⟩ (.slice none 0 0)).setCell ⟨rb, 8 + z, none⟩ (.int .i64 0))) := (hf1.trans' (Fr.setCell _ _ _ _ _)).trans' (Fr.setCell _ _ _ _ _)
  clear h1 hd1 hf1
  go_wp2_with fail
  go_region
  all_goals
    go_wp2_with fail
    go_ret
    refine ⟨rfl, ⟨updv lv z (.slice none 0 0), ?_⟩, ?_⟩
    · first
      | exact HR.out
      | exact HR.out.since (Since.refl _).drew
    · first
      | exact HF.out
      | exact HF.out.trans' (Fr.of_since (Since.refl _).drew)
theorem rput_bad (rb : Nat) (k : Int) (s : ByteArray) (w : World) (hk : ¬ (0 ≤ k ∧ k < 2)) :
    Calls Tryd.prog 34 #[.pointer (some ⟨rb, 0, none⟩), .int .i64 k, .string s] w fun e w' => e = .returned (.int .i64 2) ∧ w' = w := by
  have hh := is_false hk
  go_enter Tryd.func34, Tryd.ntmps34
  go_wp2_with fail
  refine (in_any _ _ _ _).mono ?_
  rintro e w' ⟨rfl, rfl⟩
  rw [hh]
  go_wp2_with fail
  go_ret
  exact ⟨rfl, rfl⟩
theorem rput_long (rb k : Nat) (s : ByteArray) (w : World) (hk : k < 2) (hs : 500 < s.size) :
    Calls Tryd.prog 34 #[.pointer (some ⟨rb, 0, none⟩), .int .i64 k, .string s] w fun e w' => e = .returned (.int .i64 4) ∧ w' = w := by
  have hh := is_true hk
  have hs2 : (500 : Int) < s.size := by omega
  go_enter Tryd.func34, Tryd.ntmps34
  go_wp2_with fail
  refine (in_any _ _ _ _).mono ?_
  rintro e w' ⟨rfl, rfl⟩
  rw [hh]
  go_wp2_with fail
  go_ret
  exact ⟨rfl, rfl⟩
theorem rput_spent (D : Dv) (lv : Nat → Value) (av wv : Value) (rb N k : Nat) (s : ByteArray) (w : World) (hd : Ref w rb N D lv av wv) (hl : 0 ≤ D.left ∧ D.left ≤ 9223372036854775807) (hk : k < 2) (hs : s.size ≤ 500) (hm : D.may = false) :
    Calls Tryd.prog 34 #[.pointer (some ⟨rb, 0, none⟩), .int .i64 k, .string s] w fun e w' => e = .returned (.int .i64 14) ∧ w' = w := by
  have hh := is_true hk
  have hs2 : ¬ (500 : Int) < s.size := by omega
  go_enter Tryd.func34, Tryd.ntmps34
  go_wp2_with fail
  refine (in_any _ _ _ _).mono ?_
  rintro e w' ⟨rfl, rfl⟩
  rw [hh]
  go_wp2_with fail
  refine (spent_any D lv av wv rb N _ hd hl).mono ?_
  rintro e w1 ⟨rfl, h1, _⟩
  obtain rfl := h1 hm
  rw [hm]
  go_wp2_with fail
  go_ret
  exact ⟨rfl, rfl⟩
end Go.Proofs.YtjfhggcjdckfgaaDoor
