/- The reference's device: Get. -/
import Derived.Test.YtjfhggcjdckfgaaDoorT5
import Derived.Test.YtjfhggcjdckfgaaDoorZ10
namespace Go.Proofs.YtjfhggcjdckfgaaDoor
set_option linter.unusedSimpArgs false
set_option linter.unusedVariables false
open Go.RowKit

theorem own_cells {w : World} {base n : Nat} {e : TypeId} {v : Value} {xs : List Value} (h : w.ownsRow base e 1 v n xs) : ∃ a c, v = .slice a n c ∧ n ≤ c ∧ (0 < n → ∃ g, a = some ⟨g, 0, none⟩ ∧ base ≤ g ∧ ∀ j x, j < n → xs[j]? = some x → w.cell? ⟨g, j, none⟩ = some x) := by
  rcases h.2 with ⟨rfl, h0⟩ | ⟨g, cap, cur, rfl, hg, hh, h1, h2, h3, h4⟩
  · exact ⟨none, 0, by rw [h0], by omega, fun hn => by omega⟩
  · refine ⟨_, _, rfl, h1, fun _ => ⟨g, rfl, hg, fun j x hj e => ?_⟩⟩
    rw [← h4, List.getElem?_take_of_lt (by omega), Array.getElem?_toList] at e
    simp [World.cell?, hh, e]
/-- what slot k is once the first n writes have been gone through, those that are kept -/
def Dv.getTo (D : Dv) (k : Nat) (kept : Nat → Bool) : Nat → ByteArray
  | 0 => txt 500 (D.slot k)
  | n + 1 => if (D.ws.getD n (0, ⟨#[]⟩)).1 = k ∧ kept n = true then txt 500 (sb (D.ws.getD n (0, ⟨#[]⟩)).2) else D.getTo k kept n
theorem getTo_find (D : Dv) (k : Nat) (kept : Nat → Bool) : ∀ n, D.getTo k kept n = match ((List.range n).map fun j => item D.ws (n - 1 - j)).find? (hit k kept) with | some x => txt 500 (sb x.2.2) | none => txt 500 (D.slot k)
  | 0 => rfl
  | n + 1 => by
    have e : (List.range (n + 1)).map (fun j => item D.ws (n + 1 - 1 - j)) = item D.ws n :: (List.range n).map (fun j => item D.ws (n - 1 - j)) := by
      rw [List.range_succ_eq_map, List.map_cons, List.map_map]
      congr 1
      exact List.map_congr_left (fun j hj => by
        show item D.ws (n + 1 - 1 - (j + 1)) = _
        rw [show n + 1 - 1 - (j + 1) = n - 1 - j by omega])
    rw [e, List.find?_cons]
    unfold Dv.getTo
    by_cases hh : (D.ws.getD n (0, ⟨#[]⟩)).1 = k ∧ kept n = true
    · have : hit k kept (item D.ws n) = true := by unfold hit item; simp only [Bool.and_eq_true, beq_iff_eq]; exact hh
      rw [if_pos hh, this]
      rfl
    · have : hit k kept (item D.ws n) = false := by
        cases hc : hit k kept (item D.ws n) with
        | false => rfl
        | true =>
          unfold hit item at hc
          simp only [Bool.and_eq_true, beq_iff_eq] at hc
          exact absurd hc hh
      rw [if_neg hh, this]
      exact getTo_find D k kept n
theorem getTo_slot (D : Dv) (k : Nat) (kept : Nat → Bool) : D.getTo k kept D.ws.length = txt 500 (D.slotBy k kept) := by
  rw [getTo_find]
  unfold Dv.slotBy lastW dn
  split <;> (rename_i h; rw [h])
theorem atL_get (ws : List (Nat × ByteArray)) (j : Nat) (hj : j < ws.length) : (atL ws)[j]? = some (.int .i64 ((ws.getD j (0, ⟨#[]⟩)).1 : Int)) := by
  simp [atL, List.getD_eq_getElem?_getD, List.getElem?_eq_getElem hj]
theorem whatL_get (ws : List (Nat × ByteArray)) (j : Nat) (hj : j < ws.length) : (whatL ws)[j]? = some (.string (txt 500 (sb (ws.getD j (0, ⟨#[]⟩)).2))) := by
  simp [whatL, List.getD_eq_getElem?_getD, List.getElem?_eq_getElem hj]

theorem rget_bad (rb : Nat) (k : Int) (w : World) (hk : ¬ (0 ≤ k ∧ k < 2)) :
    Calls Tryd.prog 50 #[.pointer (some ⟨rb, 0, none⟩), .int .i64 k] w fun e w' => e = .returned (.tuple #[.string ⟨#[]⟩, .int .i64 2]) ∧ w' = w := by
  have hh := is_false hk
  go_enter Tryd.func50, Tryd.ntmps50
  go_wp2_with fail
  refine (in_any _ _ _ _).mono ?_
  rintro e w' ⟨rfl, rfl⟩
  rw [hh]
  go_wp2_with fail
  go_ret2
  exact ⟨rfl, rfl⟩
set_option maxRecDepth 100000 in
set_option maxHeartbeats 1000000 in
theorem rget_any (D : Dv) (lv : Nat → Value) (av wv : Value) (rb N k : Nat) (w : World) (hd : Ref w rb N D lv av wv) (hk : k < 2) (hn : D.ws.length ≤ 1000) :
    Calls Tryd.prog 50 #[.pointer (some ⟨rb, 0, none⟩), .int .i64 k] w fun e w' => e = .returned (.tuple #[.string (txt 500 (D.slotBy k (fun _ => true))), .int .i64 0]) ∧ w' = w := by
  have hh := is_true hk
  have hk2 : (k : Int) < 2 := by omega
  obtain ⟨aa, ac, ea, _, ha⟩ := own_cells hd.at_
  obtain ⟨wa, wc, ew, _, hw⟩ := own_cells hd.what
  have c1 := hd.cel.cell (16 + k) (by omega)
  rw [rcell_slot _ _ _ _ k hk] at c1
  have c2 := hd.cel.cell 18 (by omega)
  rw [rcell_at, ea] at c2
  have c3 := hd.cel.cell 19 (by omega)
  rw [rcell_what, ew] at c3
  have HA : Hid (0 < D.ws.length → ∃ g, aa = some ⟨g, 0, none⟩ ∧ N ≤ g ∧ ∀ j x, j < D.ws.length → (atL D.ws)[j]? = some x → w.cell? ⟨g, j, none⟩ = some x) := ha
  have HW : Hid (0 < D.ws.length → ∃ g, wa = some ⟨g, 0, none⟩ ∧ N ≤ g ∧ ∀ j x, j < D.ws.length → (whatL D.ws)[j]? = some x → w.cell? ⟨g, j, none⟩ = some x) := hw
  have HG : Hid (D.getTo k (fun _ => true) D.ws.length = txt 500 (D.slotBy k (fun _ => true))) := getTo_slot D k _
  clear hd ea ew ha hw
  go_enter Tryd.func50, Tryd.ntmps50
  go_wp2_with fail
  refine (in_any _ _ _ _).mono ?_
  rintro e w' ⟨rfl, rfl⟩
  rw [hh]
  go_wp2_with fail
  go_loopw [23, 6] (fun i s wr => ∃ n : Nat, n ≤ D.ws.length ∧ i = .int .i64 n ∧ s = .string (D.getTo k (fun _ => true) n) ∧ wr = w') (fun i _ _ => D.ws.length - (intOf i).toNat)
  case atStart => exact ⟨0, by omega, rfl, rfl, rfl⟩
  case round =>
    obtain ⟨n, hnl, rfl, rfl, rfl⟩ := hrel
    by_cases hlt : n < D.ws.length
    · have hlt2 : (n : Int) < D.ws.length := by omega
      obtain ⟨ga, rfl, _, ha⟩ := HA.out (by omega)
      obtain ⟨gw, rfl, _, hw⟩ := HW.out (by omega)
      have q1 := ha n _ hlt (atL_get _ n hlt)
      have q2 := hw n _ hlt (whatL_get _ n hlt)
      clear ha hw
      by_cases he : (D.ws.getD n (0, ⟨#[]⟩)).1 = k
      · rw [he] at q1
        have HN : Hid (D.getTo k (fun _ => true) (n + 1) = txt 500 (sb (D.ws.getD n (0, ⟨#[]⟩)).2)) := by
          show D.getTo k (fun _ => true) (n + 1) = _
          rw [Dv.getTo, if_pos ⟨he, rfl⟩]
        generalize D.ws.getD n (0, ⟨#[]⟩) = p at *
        clear he
        go_wp2_with fail
        go_roundw
        case rel => exact ⟨n + 1, by omega, by go_num, by rw [HN.out], by first | rfl | trivial⟩
        case measure => simp [intOf]; omega
      · have HN : Hid (D.getTo k (fun _ => true) (n + 1) = D.getTo k (fun _ => true) n) := by
          show D.getTo k (fun _ => true) (n + 1) = _
          rw [Dv.getTo, if_neg (fun h => he h.1)]
        have he2 : ¬ (((D.ws.getD n (0, ⟨#[]⟩)).1 : Nat) : Int) = (k : Int) := by omega
        generalize D.ws.getD n (0, ⟨#[]⟩) = p at *
        clear he
        go_wp2_with fail
        go_roundw
        case rel => exact ⟨n + 1, by omega, by go_num, by rw [HN.out], by first | rfl | trivial⟩
        case measure => simp [intOf]; omega
    · have hne : n = D.ws.length := by omega
      subst hne
      rw [HG.out]
      go_wp2_with fail
      go_ret2
      exact ⟨rfl, rfl⟩
end Go.Proofs.YtjfhggcjdckfgaaDoor
