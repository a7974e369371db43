/- few, alike. -/
import Derived.Test.YtjfhggcjdckfgaaDoorH1
import Derived.Deep.RegionWith
namespace Go.Proofs.YtjfhggcjdckfgaaDoor
set_option linter.unusedSimpArgs false
set_option linter.unusedVariables false
open Go.RowKit

theorem fewF_tells : Tells 124 (fun s => decide (80 < s.size)) := by
  refine ⟨enters_of Tryd.func124 (by kernel_rfl) rfl, fun s w => ?_⟩
  go_enter Tryd.func124, Tryd.ntmps124
  go_wp2_with fail
  go_ret
  refine ⟨?_, rfl⟩
  simp
  omega
theorem few_any (b n : Nat) (v : Value) (l : Nat → ByteArray) (w : World) (hs : Sl w b v n (fun j => .string (l j))) (hn : n ≤ 9223372036854775807) :
    Calls Tryd.prog 58 #[v] w fun e w' => ((e = .returned (.bool true) ∧ n ≤ 20 ∧ ∀ j, j < n → (l j).size ≤ 80) ∨ e = .returned (.bool false)) ∧ w' = w := by
  obtain ⟨a, c, rfl, hs'⟩ := hs
  have HS : Hid (Sl w b (.slice a n c) n (fun j => .string (l j))) := ⟨a, c, rfl, hs'⟩
  clear hs'
  by_cases h20 : n ≤ 20
  · have h20' : (n : Int) ≤ 20 := by omega
    go_enter Tryd.func58, Tryd.ntmps58
    go_wp2_with fail
    refine (cf_any b n 124 _ l _ _ HS.out fewF_tells hn).mono ?_
    rintro e w' ⟨hx, rfl⟩
    rcases hx with ⟨rfl, hj⟩ | ⟨rfl, hj⟩
    · clear hj
      go_wp2_with fail
      go_ret
      exact ⟨Or.inr rfl, rfl⟩
    · have HJ : Hid _ := hj
      clear hj
      go_wp2_with fail
      go_ret
      refine ⟨Or.inl ⟨rfl, h20, fun j hj => ?_⟩, rfl⟩
      have := HJ.out j hj
      simp at this
      exact this
  · have h20' : ¬ (n : Int) ≤ 20 := by omega
    go_enter Tryd.func58, Tryd.ntmps58
    go_wp2_with fail
    go_ret
    first
    | exact ⟨rfl, rfl⟩
    | exact ⟨Or.inr rfl, rfl⟩

theorem part9 (xs : Array Value) (i : Nat) (s : ByteArray) (w : World) (h : xs[i]? = some (.string s)) : (part 9 xs i).run Tryd.prog w = .ok (.string s) w := by
  simp [part, h, go_sem, Tryd.isAgg9, Tryd.sizeOf9]
theorem eq2g (d : Nat) (s0 s1 : ByteArray) (w : World) : (Op.equalIn (d + 1 + 1) 43 (.agg #[.string s0, .string s1]) (.agg #[.string s0, .string s1])).run Tryd.prog w = .ok true w := by
  have e0 := fun s => run_equalIn_string (P := Tryd.prog) w d 9 s s Tryd.underlying9
  have p0 := part9 #[.string s0, .string s1] 0 s0 w rfl
  have p1 := part9 #[.string s0, .string s1] 1 s1 w rfl
  rw [Op.equalIn]
  simp only [Sem.run_bind, run_underlying Tryd.underlying43, Result.andThen_ok, Tryd.sizeOf9, Std.Legacy.Range.forIn_eq_forIn_range', Std.Legacy.Range.size]
  simp [List.range', p0, p1, e0]
theorem eq2 (s0 s1 : ByteArray) (w : World) : (Op.equalIn 10000 43 (.agg #[.string s0, .string s1]) (.agg #[.string s0, .string s1])).run Tryd.prog w = .ok true w := eq2g 9998 s0 s1 w
set_option maxRecDepth 100000 in
set_option maxHeartbeats 1000000 in
theorem alike_any (b : Nat) (iv1 iv2 : Nat → Value) (n : Nat → Nat) (l1 l2 : Nat → Nat → ByteArray) (s0 s1 : ByteArray) (w : World)
    (h1 : ∀ z, z < 8 → Sl w b (iv1 z) (n z) (fun j => .string (l1 z j))) (h2 : ∀ z, z < 8 → Sl w b (iv2 z) (n z) (fun j => .string (l2 z j))) (he : ∀ z j, z < 8 → j < n z → l1 z j = l2 z j) (hn : ∀ z, z < 8 → n z ≤ 1000) :
    Calls Tryd.prog 60 #[.agg (brow 10 (icell iv1 s0 s1)).toArray, .agg (brow 10 (icell iv2 s0 s1)).toArray] w fun e w' => e = .returned (.bool true) ∧ Since w w' := by
  have H1 : Hid (∀ z, z < 8 → Sl w b (iv1 z) (n z) (fun j => .string (l1 z j))) := h1
  have H2 : Hid (∀ z, z < 8 → Sl w b (iv2 z) (n z) (fun j => .string (l2 z j))) := h2
  have HE : Hid (∀ z j, z < 8 → j < n z → l1 z j = l2 z j) := he
  have HN : Hid (∀ z, z < 8 → n z ≤ 1000) := hn
  clear h1 h2 he hn
  have hL1 : (brow 10 (icell iv1 s0 s1)).length = 10 := brow_length _ _
  have hL2 : (brow 10 (icell iv2 s0 s1)).length = 10 := brow_length _ _
  go_enter Tryd.func60, Tryd.ntmps60
  go_wp2_with fail
  have b1 : Cel ((w.alloc (.cells (brow 10 (icell iv1 s0 s1)).toArray 45)).alloc (.cells (brow 10 (icell iv2 s0 s1)).toArray 45)) w.heap.size 10 (icell iv1 s0 s1) := (Cel.new w 10 _ _ _ (fun j hj => by rw [List.getElem?_toArray]; exact brow_get _ _ j hj) _ rfl).since ((Since.refl _).alloc _)
  have b2 : Cel ((w.alloc (.cells (brow 10 (icell iv1 s0 s1)).toArray 45)).alloc (.cells (brow 10 (icell iv2 s0 s1)).toArray 45)) (w.heap.size + 1) 10 (icell iv2 s0 s1) := Cel.new _ 10 _ _ _ (fun j hj => by rw [List.getElem?_toArray]; exact brow_get _ _ j hj) _ (by simp)
  have hS0 := ((Since.refl w).alloc (.cells (brow 10 (icell iv1 s0 s1)).toArray 45)).alloc (.cells (brow 10 (icell iv2 s0 s1)).toArray 45)
  generalize (w.alloc (.cells (brow 10 (icell iv1 s0 s1)).toArray 45)).alloc (.cells (brow 10 (icell iv2 s0 s1)).toArray 45) = w0 at *
  have B1 : Hid (Cel w0 w.heap.size 10 (icell iv1 s0 s1)) := b1
  have B2 : Hid (Cel w0 (w.heap.size + 1) 10 (icell iv2 s0 s1)) := b2
  have S0 : Hid (Since w w0) := hS0
  clear b1 b2 hS0 hL1 hL2
  go_loopw [5] (fun i wr => ∃ k : Nat, k ≤ 8 ∧ i = .int .i64 k ∧ Since w0 wr) (fun i _ => 8 - (intOf i).toNat)
  case atStart => exact ⟨0, by omega, rfl, Since.refl _⟩
  case round =>
    obtain ⟨k, hk, rfl, hS⟩ := hrel
    have HS : Hid (Since w0 wr) := hS
    clear hS
    by_cases hlt : k < 8
    · have hlt2 : (k : Int) < 8 := by omega
      have q1 := ((B1.out.since HS.out).since (Since.refl _).drew).cell k (by omega)
      have q2 := ((B2.out.since HS.out).since (Since.refl _).drew).cell k (by omega)
      rw [show icell iv1 s0 s1 k = iv1 k by unfold icell; rw [if_pos hlt]] at q1
      rw [show icell iv2 s0 s1 k = iv2 k by unfold icell; rw [if_pos hlt]] at q2
      go_wp2_with fail
      go_region_with (go_at_call 125; refine (eq_any b (n k) (iv1 k) (iv2 k) (l1 k) (l2 k) _ ((H1.out k hlt).fr (Fr.of_since ((S0.out.trans HS.out).trans (Since.refl _).drew))) ((H2.out k hlt).fr (Fr.of_since ((S0.out.trans HS.out).trans (Since.refl _).drew))) (fun j hj => HE.out k j hlt hj) (HN.out k hlt)).mono ?_; rintro e w2 ⟨rfl, hS2⟩)
      all_goals
        go_wp2_with fail
        go_roundw
        case rel => exact ⟨k + 1, by omega, by go_num, (HS.out.trans (Since.refl _).drew).trans hS2⟩
        case measure => simp [intOf]; omega
    · have hke : k = 8 := by omega
      subst hke
      have q1 := (B1.out.since HS.out).cell 8 (by omega)
      have q2 := (B1.out.since HS.out).cell 9 (by omega)
      have q3 := (B2.out.since HS.out).cell 8 (by omega)
      have q4 := (B2.out.since HS.out).cell 9 (by omega)
      rw [show icell iv1 s0 s1 8 = .string s0 from rfl] at q1
      rw [show icell iv1 s0 s1 9 = .string s1 from rfl] at q2
      rw [show icell iv2 s0 s1 8 = .string s0 from rfl] at q3
      rw [show icell iv2 s0 s1 9 = .string s1 from rfl] at q4
      have he2 := eq2 s0 s1 wr
      go_wp2_with fail
      go_ret
      exact ⟨rfl, S0.out.trans HS.out⟩
end Go.Proofs.YtjfhggcjdckfgaaDoor
