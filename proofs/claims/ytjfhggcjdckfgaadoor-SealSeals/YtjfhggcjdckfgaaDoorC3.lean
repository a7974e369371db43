import Derived.Test.YtjfhggcjdckfgaaDoorC2
namespace Go.Proofs.YtjfhggcjdckfgaaDoor
set_option maxRecDepth 100000
namespace Sm.Sr
set_option linter.unusedSimpArgs false
set_option linter.unusedVariables false
open Go.RowKit
attribute [local go_sem] U_add U_mulc U_xor U_and U_or U_shr U_shl U_not U_conv U_byte U_cells U_match U_oneCell U_store U_store1

/-- behind the first k additions -/
def addTo (f g : Nat → BitVec 32) (k : Nat) : Nat → BitVec 32 := fun j => if j < k then g j + f j else g j
theorem add_step (f g : Nat → BitVec 32) (k j : Nat) : upd (addTo f g k) k (g k + f k) j = addTo f g (k + 1) j := by
  unfold upd addTo
  by_cases e : j = k
  · subst e; rw [if_pos rfl, if_pos (by omega)]
  · rw [if_neg e]
    by_cases h : j < k
    · rw [if_pos h, if_pos (by omega)]
    · rw [if_neg h, if_neg (by omega)]

set_option maxHeartbeats 1000000 in
set_option maxRecDepth 100000 in
theorem mixed_any (f : Nat → BitVec 32) (w : World) :
    Calls Tryd.prog 93 #[.agg (row 16 f).toArray] w fun e w' => e = .returned (.agg (row 16 (mixd f)).toArray) ∧ Since w w' := by
  have er : (row 16 f).toArray = #[U (f 0), U (f 1), U (f 2), U (f 3), U (f 4), U (f 5), U (f 6), U (f 7), U (f 8), U (f 9), U (f 10), U (f 11), U (f 12), U (f 13), U (f 14), U (f 15)] := rfl
  rw [er]
  clear er
  go_enter Tryd.func93, Tryd.ntmps93
  go_wp2_with fail
  go_loopw [6] (fun i wr => ∃ k : Nat, k ≤ 10 ∧ i = .int .i64 k ∧ Arr wr w.heap.size 0 16 f ∧ Arr wr (w.heap.size + 1) 0 16 (fun _ => 0) ∧ Arr wr (w.heap.size + 2) 0 16 (rnds f k) ∧ Since w wr) (fun i _ => 10 - (intOf i).toNat)
  case atStart =>
    exact ⟨0, by omega, rfl, ((Arr.new w 16 f _ _ (by rfl) _ rfl).alloc _).alloc _, (Arr.new (w.alloc _) 16 _ _ _ (by rfl) _ (by simp)).alloc _, Arr.new ((w.alloc _).alloc _) 16 f _ _ (by rfl) _ (by simp), (((Since.refl _).alloc _).alloc _).alloc _⟩
  case round =>
    obtain ⟨k, hk, rfl, hF, hR, hA, hS⟩ := hrel
    by_cases hlt : k < 10
    · generalize hg : rnds f k = g at *
      have HG := (show Hid (rnds f k = g) from hg)
      clear hg
      have HF := (show Hid (Arr wr w.heap.size 0 16 f) from hF)
      have HR := (show Hid (Arr wr (w.heap.size + 1) 0 16 (fun _ => 0)) from hR)
      clear hF hR
      have hRg := hA.range
      go_wp2_with (refine wpList_load_mid (by rfl) 136 _ (by rfl) (w.heap.size + 2) 0 (by rfl) _ _ hRg Tryd.underlying136 (by rfl) (by rw [row_length]; kernel_rfl) ?_)
      refine (columns_any g _).mono ?_
      rintro e w1 ⟨rfl, h1⟩
      go_wp2_with fail
      refine (diagonals_any (rnd 0 g) _).mono ?_
      rintro e w2 ⟨rfl, h2⟩
      have h12 := h1.trans h2
      have hst := (hA.since h12).store Tryd.prog (rnd 1 (rnd 0 g))
      have hL : (row 16 (rnd 1 (rnd 0 g))).length = 16 := row_length _ _
      go_wp2_with fail
      refine ⟨⟨k + 1, by omega, by go_num, ?_, ?_, ?_, ?_⟩, by simp [intOf]; omega⟩
      · exact (HF.out.since h12).setRow_other _ (by omega)
      · exact (HR.out.since h12).setRow_other _ (by omega)
      · have e1 : rnds f (k + 1) = rnd 1 (rnd 0 g) := by rw [← HG.out]; rfl
        rw [e1]; exact (hA.since h12).setRow _
      · exact (hS.trans h12).setCells (by omega) _ _
    · have hke : k = 10 := by omega
      subst hke
      generalize hg : rnds f 10 = g at *
      have HG := (show Hid (rnds f 10 = g) from hg)
      clear hg
      go_wp2_with fail
      go_loopw [12] (fun i wr => ∃ k : Nat, k ≤ 16 ∧ i = .int .i64 k ∧ Arr wr w.heap.size 0 16 f ∧ Arr wr (w.heap.size + 1) 0 16 (fun _ => 0) ∧ Arr wr (w.heap.size + 2) 0 16 (addTo f g k) ∧ Since w wr) (fun i _ => 16 - (intOf i).toNat)
      case atStart => exact ⟨0, by omega, rfl, hF, hR, hA.congr (fun j _ => rfl), hS⟩
      case round =>
        obtain ⟨k, hk2, rfl, hF2, hR2, hA2, hS2⟩ := hrel
        by_cases hlt2 : k < 16
        · have c0 := hF2.cell k (by omega)
          have c1 := hA2.cell k (by omega)
          have f1 := hA2.frozen k (by omega)
          rw [Nat.zero_add] at c0 c1 f1
          have e0 : addTo f g k k = g k := by unfold addTo; rw [if_neg (by omega)]
          rw [e0] at c1
          clear e0
          have HF2 := (show Hid (Arr wr w.heap.size 0 16 f) from hF2)
          have HR2 := (show Hid (Arr wr (w.heap.size + 1) 0 16 (fun _ => 0)) from hR2)
          have HA2 := (show Hid (Arr wr (w.heap.size + 2) 0 16 (addTo f g k)) from hA2)
          have HS2 := (show Hid (Since w wr) from hS2)
          clear hF hR hA hF2 hR2 hA2 hS2
          go_wp2_with fail
          go_region
          all_goals
            go_wp2_with fail
            go_roundw
            case rel =>
              have h3 := HA2.out.set k hlt2 (g k + f k)
              rw [Nat.zero_add] at h3
              exact ⟨k + 1, by omega, by go_num, (HF2.out.other (by simp; omega) _).since (Since.refl _).drew, (HR2.out.other (by simp) _).since (Since.refl _).drew, (h3.congr (fun j _ => add_step f g k j)).since (Since.refl _).drew, (HS2.out.setCell (by simp; omega) _).drew⟩
            case measure => simp [intOf]; omega
        · have hke : k = 16 := by omega
          subst hke
          have hA3 : Arr wr (w.heap.size + 2) 0 16 (mixd f) := hA2.congr (fun j hj => by unfold addTo mixd; rw [if_pos hj, HG.out])
          have hRg := hA3.range
          have hst := hR2.store Tryd.prog (mixd f)
          have hL : (row 16 (mixd f)).length = 16 := row_length _ _
          go_wp2_with (refine wpList_load_mid (by rfl) 136 _ (by rfl) (w.heap.size + 2) 0 (by rfl) _ _ hRg Tryd.underlying136 (by rfl) (by rw [row_length]; kernel_rfl) ?_)
          exact bodyPost_ret (results_row Tryd.results93 _ _ _ (w.heap.size + 1) _ _ (by rfl) (hR2.setRow (mixd f)).range Tryd.underlying136 (by rfl) (by rw [row_length]; kernel_rfl)) rfl ⟨rfl, hS2.setCells (by omega) _ _⟩
end Sm.Sr
end Go.Proofs.YtjfhggcjdckfgaaDoor
