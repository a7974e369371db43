/- sameTexts, sameImage, wide. -/
import Derived.Test.YtjfhggcjdckfgaaDoorT10
import Derived.Test.YtjfhggcjdckfgaaDoorH2
import Derived.BigQuiet
import Derived.Deep.RegionWith
namespace Go.Proofs.YtjfhggcjdckfgaaDoor
set_option linter.unusedSimpArgs false
set_option linter.unusedVariables false
open Go.RowKit

set_option maxHeartbeats 1000000 in
theorem texts_quiet (b n : Nat) (v1 v2 : Value) (l1 l2 : Nat → ByteArray) (w : World) (h1 : Sl w b v1 n (fun j => .string (l1 j))) (h2 : Sl w b v2 n (fun j => .string (l2 j))) (he : ∀ j, j < n → l1 j = l2 j) (hn : n ≤ 1000) :
    Calls Tryd.prog 115 #[v1, v2] w fun e w' => e = .returned (.bool true) ∧ ∃ m, w' = w.drewN m := by
  obtain ⟨a1, c1, rfl, hs1⟩ := h1
  obtain ⟨a2, c2, rfl, hs2⟩ := h2
  have HS1 : Hid _ := hs1
  have HS2 : Hid _ := hs2
  have HE : Hid _ := he
  clear hs1 hs2 he
  go_enter Tryd.func115, Tryd.ntmps115
  go_wp2_with fail
  go_loopw [5] (fun i wr => ∃ k : Nat, k ≤ n ∧ i = .int .i64 k ∧ ∃ m, wr = w.drewN m) (fun i _ => n - (intOf i).toNat)
  case atStart => exact ⟨0, by omega, rfl, 0, rfl⟩
  case round =>
    obtain ⟨k, hk, rfl, mm, hmm⟩ := hrel
    have hS : Since w wr := by rw [hmm]; exact (Since.refl w).drewN mm
    have HMM : Hid (wr = w.drewN mm) := hmm
    clear hmm
    by_cases hlt : k < n
    · have hlt2 : (k : Int) < n := by omega
      obtain ⟨kb1, ko1, rfl, _, hc1⟩ := HS1.out (by omega)
      obtain ⟨kb2, ko2, rfl, _, hc2⟩ := HS2.out (by omega)
      have q1 : wr.cell? ⟨kb1, ko1 + k, none⟩ = some (.string (l1 k)) := (hS.cell (p := ⟨kb1, ko1 + k, none⟩) (World.block_lt_of_cell? w _ (hc1 k hlt))).trans (hc1 k hlt)
      have q2 : wr.cell? ⟨kb2, ko2 + k, none⟩ = some (.string (l2 k)) := (hS.cell (p := ⟨kb2, ko2 + k, none⟩) (World.block_lt_of_cell? w _ (hc2 k hlt))).trans (hc2 k hlt)
      rw [← HE.out k hlt] at q2
      clear hc1 hc2 hS
      go_wp2_with fail
      go_quiet (fail)
      go_wp2_with fail
      go_roundw
      case rel => exact ⟨k + 1, by omega, by go_num, _, by rw [HMM.out, World.drewN_drewN]⟩
      case measure => simp [intOf]; omega
    · have hke : k = n := by omega
      subst hke
      clear hS
      go_wp2_with fail
      go_ret
      exact ⟨rfl, mm, HMM.out⟩
theorem texts_any (b n : Nat) (v1 v2 : Value) (l1 l2 : Nat → ByteArray) (w : World) (h1 : Sl w b v1 n (fun j => .string (l1 j))) (h2 : Sl w b v2 n (fun j => .string (l2 j))) (he : ∀ j, j < n → l1 j = l2 j) (hn : n ≤ 1000) :
    Calls Tryd.prog 115 #[v1, v2] w fun e w' => e = .returned (.bool true) ∧ Since w w' := by
  refine (texts_quiet b n v1 v2 l1 l2 w h1 h2 he hn).mono ?_
  rintro e w' ⟨rfl, m, rfl⟩
  exact ⟨rfl, (Since.refl w).drewN m⟩
set_option maxRecDepth 100000 in
set_option maxHeartbeats 1000000 in
theorem sameImage_any (b : Nat) (iv1 iv2 : Nat → Value) (n : Nat → Nat) (l1 l2 : Nat → Nat → ByteArray) (s0 s1 : ByteArray) (w : World)
    (h1 : ∀ z, z < 8 → Sl w b (iv1 z) (n z) (fun j => .string (l1 z j))) (h2 : ∀ z, z < 8 → Sl w b (iv2 z) (n z) (fun j => .string (l2 z j))) (he : ∀ z j, z < 8 → j < n z → l1 z j = l2 z j) (hn : ∀ z, z < 8 → n z ≤ 1000) :
    Calls Tryd.prog 43 #[.agg (brow 10 (icell iv1 s0 s1)).toArray, .agg (brow 10 (icell iv2 s0 s1)).toArray] w fun e w' => e = .returned (.bool true) ∧ Since w w' := by
  have H1 : Hid (∀ z, z < 8 → Sl w b (iv1 z) (n z) (fun j => .string (l1 z j))) := h1
  have H2 : Hid (∀ z, z < 8 → Sl w b (iv2 z) (n z) (fun j => .string (l2 z j))) := h2
  have HE : Hid (∀ z j, z < 8 → j < n z → l1 z j = l2 z j) := he
  have HN : Hid (∀ z, z < 8 → n z ≤ 1000) := hn
  clear h1 h2 he hn
  have hL1 : (brow 10 (icell iv1 s0 s1)).length = 10 := brow_length _ _
  have hL2 : (brow 10 (icell iv2 s0 s1)).length = 10 := brow_length _ _
  go_enter Tryd.func43, Tryd.ntmps43
  go_wp2_with fail
  have b1 : Cel ((w.alloc (.cells (brow 10 (icell iv1 s0 s1)).toArray 45)).alloc (.cells (brow 10 (icell iv2 s0 s1)).toArray 45)) w.heap.size 10 (icell iv1 s0 s1) := (Cel.new w 10 _ _ _ (fun j hj => by rw [List.getElem?_toArray]; exact brow_get _ _ j hj) _ rfl).since ((Since.refl _).alloc _)
  have b2 : Cel ((w.alloc (.cells (brow 10 (icell iv1 s0 s1)).toArray 45)).alloc (.cells (brow 10 (icell iv2 s0 s1)).toArray 45)) (w.heap.size + 1) 10 (icell iv2 s0 s1) := Cel.new _ 10 _ _ _ (fun j hj => by rw [List.getElem?_toArray]; exact brow_get _ _ j hj) _ (by simp)
  have hS0 := ((Since.refl w).alloc (.cells (brow 10 (icell iv1 s0 s1)).toArray 45)).alloc (.cells (brow 10 (icell iv2 s0 s1)).toArray 45)
  generalize (w.alloc (.cells (brow 10 (icell iv1 s0 s1)).toArray 45)).alloc (.cells (brow 10 (icell iv2 s0 s1)).toArray 45) = w0 at *
  have B1 : Hid (Cel w0 w.heap.size 10 (icell iv1 s0 s1)) := b1
  have B2 : Hid (Cel w0 (w.heap.size + 1) 10 (icell iv2 s0 s1)) := b2
  have S0 : Hid (Since w w0) := hS0
  clear b1 b2 hS0 hL1 hL2
  go_loopw [5] (fun i wr => ∃ k : Nat, k ≤ 8 ∧ i = .int .i64 k ∧ Since w0 wr) (fun i _ => 8 - (intOf i).toNat)
  case atStart => exact ⟨0, by omega, rfl, Since.refl _⟩
  case round =>
    obtain ⟨k, hk, rfl, hS⟩ := hrel
    have HS : Hid (Since w0 wr) := hS
    clear hS
    by_cases hlt : k < 8
    · have hlt2 : (k : Int) < 8 := by omega
      have q1 := ((B1.out.since HS.out).since (Since.refl _).drew).cell k (by omega)
      have q2 := ((B2.out.since HS.out).since (Since.refl _).drew).cell k (by omega)
      rw [show icell iv1 s0 s1 k = iv1 k by unfold icell; rw [if_pos hlt]] at q1
      rw [show icell iv2 s0 s1 k = iv2 k by unfold icell; rw [if_pos hlt]] at q2
      go_wp2_with fail
      go_region_with (go_at_call 115; refine (texts_any b (n k) (iv1 k) (iv2 k) (l1 k) (l2 k) _ ((H1.out k hlt).fr (Fr.of_since ((S0.out.trans HS.out).trans (Since.refl _).drew))) ((H2.out k hlt).fr (Fr.of_since ((S0.out.trans HS.out).trans (Since.refl _).drew))) (fun j hj => HE.out k j hlt hj) (HN.out k hlt)).mono ?_; rintro e w2 ⟨rfl, hS2⟩)
      all_goals
        go_wp2_with fail
        go_roundw
        case rel => exact ⟨k + 1, by omega, by go_num, (HS.out.trans (Since.refl _).drew).trans hS2⟩
        case measure => simp [intOf]; omega
    · have hke : k = 8 := by omega
      subst hke
      have q1 := (B1.out.since HS.out).cell 8 (by omega)
      have q2 := (B1.out.since HS.out).cell 9 (by omega)
      have q3 := (B2.out.since HS.out).cell 8 (by omega)
      have q4 := (B2.out.since HS.out).cell 9 (by omega)
      rw [show icell iv1 s0 s1 8 = .string s0 from rfl] at q1
      rw [show icell iv1 s0 s1 9 = .string s1 from rfl] at q2
      rw [show icell iv2 s0 s1 8 = .string s0 from rfl] at q3
      rw [show icell iv2 s0 s1 9 = .string s1 from rfl] at q4
      have he2 := eq2 s0 s1 wr
      go_wp2_with fail
      go_ret
      exact ⟨rfl, S0.out.trans HS.out⟩
set_option maxRecDepth 100000 in
set_option maxHeartbeats 1000000 in
theorem wide_any (b : Nat) (iv : Nat → Value) (n : Nat → Nat) (l : Nat → Nat → ByteArray) (s0 s1 : ByteArray) (w : World)
    (h1 : ∀ z, z < 8 → Sl w b (iv z) (n z) (fun j => .string (l z j))) :
    Calls Tryd.prog 26 #[.agg (brow 10 (icell iv s0 s1)).toArray] w fun e w' => (e = .returned (.bool true) ∨ (e = .returned (.bool false) ∧ (∀ z, z < 8 → n z ≤ 20 ∧ ∀ j, j < n z → (l z j).size ≤ 200) ∧ s0.size ≤ 600 ∧ s1.size ≤ 600)) ∧ Since w w' := by
  have H1 : Hid (∀ z, z < 8 → Sl w b (iv z) (n z) (fun j => .string (l z j))) := h1
  clear h1
  have hL1 : (brow 10 (icell iv s0 s1)).length = 10 := brow_length _ _
  go_enter Tryd.func26, Tryd.ntmps26
  go_wp2_with fail
  have b1 : Cel (w.alloc (.cells (brow 10 (icell iv s0 s1)).toArray 45)) w.heap.size 10 (icell iv s0 s1) := Cel.new w 10 _ _ _ (fun j hj => by rw [List.getElem?_toArray]; exact brow_get _ _ j hj) _ rfl
  have hS0 := (Since.refl w).alloc (.cells (brow 10 (icell iv s0 s1)).toArray 45)
  generalize w.alloc (.cells (brow 10 (icell iv s0 s1)).toArray 45) = w0 at *
  have B1 : Hid (Cel w0 w.heap.size 10 (icell iv s0 s1)) := b1
  have S0 : Hid (Since w w0) := hS0
  clear b1 hS0 hL1
  go_loop [3] (fun i => ∃ k : Nat, k ≤ 8 ∧ i = .int .i64 k ∧ Hid (∀ z, z < k → n z ≤ 20 ∧ ∀ j, j < n z → (l z j).size ≤ 200)) (fun i => 8 - (intOf i).toNat)
  case atStart => exact ⟨0, by omega, rfl, fun z hz => by omega⟩
  case round =>
    obtain ⟨k, hk, rfl, HR⟩ := hrel
    by_cases hlt : k < 8
    · have hlt2 : (k : Int) < 8 := by omega
      have q1 := B1.out.cell k (by omega)
      rw [show icell iv s0 s1 k = iv k by unfold icell; rw [if_pos hlt]] at q1
      obtain ⟨a, c, hv, hs⟩ := (H1.out k hlt).fr (Fr.of_since S0.out)
      rw [hv] at q1
      have HS : Hid _ := hs
      clear hs hv
      by_cases h20 : n k ≤ 20
      · have h20' : (n k : Int) ≤ 20 := by omega
        go_wp2_with fail
        go_loop [4] (fun i => ∃ q : Nat, q ≤ n k ∧ i = .int .i64 q ∧ Hid (∀ j, j < q → (l k j).size ≤ 200)) (fun i => n k - (intOf i).toNat)
        case atStart => exact ⟨0, by omega, rfl, fun z hz => by omega⟩
        case round =>
          obtain ⟨q, hq, rfl, HQ⟩ := hrel
          by_cases hlq : q < n k
          · have hlq2 : (q : Int) < n k := by omega
            obtain ⟨kb, ko, rfl, _, hc⟩ := HS.out (by omega)
            have q2 := hc q hlq
            clear hc
            by_cases h200 : (l k q).size ≤ 200
            · have h200' : ((l k q).size : Int) ≤ 200 := by omega
              go_wp2_with fail
              go_round
              case rel =>
                refine ⟨q + 1, by omega, by go_num, fun j hj => ?_⟩
                rcases Nat.lt_or_ge j q with h | h
                · exact HQ.out j h
                · rw [show j = q by omega]; exact h200
              case measure => simp [intOf]; omega
            · have h200' : ¬ ((l k q).size : Int) ≤ 200 := by omega
              go_wp2_with fail
              go_ret
              exact ⟨Or.inl rfl, S0.out⟩
          · have hke : q = n k := by omega
            subst hke
            go_wp2_with fail
            go_round
            case rel =>
              refine ⟨k + 1, by omega, by go_num, fun z hz => ?_⟩
              rcases Nat.lt_or_ge z k with h | h
              · exact HR.out z h
              · rw [show z = k by omega]; exact ⟨h20, HQ.out⟩
            case measure => simp [intOf]; omega
      · have h20' : ¬ (n k : Int) ≤ 20 := by omega
        go_wp2_with fail
        go_ret
        exact ⟨Or.inl rfl, S0.out⟩
    · have hke : k = 8 := by omega
      subst hke
      have q1 := B1.out.cell 8 (by omega)
      have q2 := B1.out.cell 9 (by omega)
      rw [show icell iv s0 s1 8 = .string s0 from rfl] at q1
      rw [show icell iv s0 s1 9 = .string s1 from rfl] at q2
      by_cases h0 : s0.size ≤ 600
      · have h0' : ¬ (600 : Int) < s0.size := by omega
        have G0 : Hid (s0.size ≤ 600) := h0
        clear h0
        by_cases h1 : s1.size ≤ 600
        · have h1' : ¬ (600 : Int) < s1.size := by omega
          have G1 : Hid (s1.size ≤ 600) := h1
          clear h1
          go_wp2_with fail
          go_ret
          exact ⟨Or.inr ⟨by simp [h0', h1'], HR.out, G0.out, G1.out⟩, S0.out⟩
        · have h1' : (600 : Int) < s1.size := by omega
          clear h1
          go_wp2_with fail
          go_ret
          exact ⟨Or.inl (by simp [h1']), S0.out⟩
      · have h0' : (600 : Int) < s0.size := by omega
        clear h0
        go_wp2_with fail
        go_ret
        exact ⟨Or.inl (by simp [h0']), S0.out⟩
end Go.Proofs.YtjfhggcjdckfgaaDoor
