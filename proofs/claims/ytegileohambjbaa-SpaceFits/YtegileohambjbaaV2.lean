/- The reference's Victim. -/
import Derived.Test.YtegileohambjbaaV1
namespace Go.Proofs.Ytegileohambjbaa
set_option linter.unusedSimpArgs false
set_option linter.unusedVariables false
set_option maxRecDepth 100000
namespace Sp
open Go.RowKit

def cand (n m : Nat) (f : Nat → Int) (i : Nat) : Prop := i < n ∧ i < m ∧ 16 ≤ f i
/-- of zones from k on: the first of those with the least live -/
def VicFrom (n m : Nat) (f g : Nat → Int) (k : Nat) (z : Int) (ok : Bool) : Prop :=
  (ok = true ∧ ∃ v : Nat, z = v ∧ k ≤ v ∧ cand n m f v ∧ ∀ i, k ≤ i → cand n m f i → g v < g i ∨ (g v = g i ∧ v ≤ i)) ∨ (ok = false ∧ z = 0 ∧ ∀ i, k ≤ i → ¬ cand n m f i)
def IsVic (n m : Nat) (f g : Nat → Int) (z : Int) (ok : Bool) : Prop := VicFrom n m f g 0 z ok
theorem IsVic.one {n m : Nat} {f g : Nat → Int} {z z' : Int} {ok ok' : Bool} (h : IsVic n m f g z ok) (h' : IsVic n m f g z' ok') : z = z' ∧ ok = ok' := by
  rcases h with ⟨rfl, v, rfl, _, hv, hl⟩ | ⟨rfl, rfl, hl⟩ <;> rcases h' with ⟨rfl, v', rfl, _, hv', hl'⟩ | ⟨rfl, rfl, hl'⟩
  · refine ⟨?_, rfl⟩
    have h1 := hl v' (by omega) hv'
    have h2 := hl' v (by omega) hv
    omega
  · exact absurd hv (hl' v (by omega))
  · exact absurd hv' (hl v' (by omega))
  · exact ⟨rfl, rfl⟩
theorem vic_end (n m : Nat) (f g : Nat → Int) : VicFrom n m f g n 0 false := Or.inr ⟨rfl, rfl, fun i hi h => by have := h.1; omega⟩
theorem vic_skip {n m : Nat} {f g : Nat → Int} {k : Nat} {z : Int} {ok : Bool} (h : VicFrom n m f g (k + 1) z ok) (hc : ¬ cand n m f k) : VicFrom n m f g k z ok := by
  have hi : ∀ i, k ≤ i → cand n m f i → k + 1 ≤ i := fun i h1 h2 => by
    by_cases e : i = k
    · subst e; exact absurd h2 hc
    · omega
  rcases h with ⟨rfl, v, rfl, h1, h2, h3⟩ | ⟨rfl, rfl, h1⟩
  · exact Or.inl ⟨rfl, v, rfl, by omega, h2, fun i a b => h3 i (hi i a b) b⟩
  · exact Or.inr ⟨rfl, rfl, fun i a b => h1 i (hi i a b) b⟩
theorem vic_first {n m : Nat} {f g : Nat → Int} {k : Nat} {z : Int} (h : VicFrom n m f g (k + 1) z false) (hc : cand n m f k) : VicFrom n m f g k k true := by
  rcases h with ⟨h0, _⟩ | ⟨_, rfl, h1⟩
  · cases h0
  · refine Or.inl ⟨rfl, k, rfl, by omega, hc, fun i a b => ?_⟩
    by_cases e : i = k
    · subst e; exact Or.inr ⟨rfl, by omega⟩
    · exact absurd b (h1 i (by omega))
theorem vic_take {n m : Nat} {f g : Nat → Int} {k v : Nat} (h : VicFrom n m f g (k + 1) v true) (hc : cand n m f k) (hle : g k ≤ g v) : VicFrom n m f g k k true := by
  rcases h with ⟨_, v', hv, h1, h2, h3⟩ | ⟨h0, _⟩
  · have hvv : v' = v := by omega
    subst hvv
    refine Or.inl ⟨rfl, k, rfl, by omega, hc, fun i a b => ?_⟩
    by_cases e : i = k
    · subst e; exact Or.inr ⟨rfl, by omega⟩
    · rcases h3 i (by omega) b with h4 | h4
      · exact Or.inl (by omega)
      · by_cases e2 : g k < g i
        · exact Or.inl e2
        · exact Or.inr ⟨by omega, by omega⟩
  · cases h0
theorem vic_keep {n m : Nat} {f g : Nat → Int} {k v : Nat} (h : VicFrom n m f g (k + 1) v true) (hlt : g v < g k) : VicFrom n m f g k v true := by
  rcases h with ⟨_, v', hv, h1, h2, h3⟩ | ⟨h0, _⟩
  · have hvv : v' = v := by omega
    subst hvv
    refine Or.inl ⟨rfl, v', rfl, by omega, h2, fun i a b => ?_⟩
    by_cases e : i = k
    · subst e; exact Or.inl hlt
    · exact h3 i (by omega) b
  · cases h0
theorem vic_lt {n m : Nat} {f g : Nat → Int} {k : Nat} {z : Int} (h : VicFrom n m f g k z true) : ∃ v : Nat, z = v ∧ v < n ∧ v < m := by
  rcases h with ⟨_, v, hv, _, h2, _⟩ | ⟨h0, _⟩
  · exact ⟨v, hv, h2.1, h2.2.1⟩
  · cases h0
set_option maxHeartbeats 4000000 in
theorem rvictim_any (v u : Value) (n m b : Nat) (f g : Nat → Int) (w : World) (h : Ls w b v n f) (h2 : Ls w b u m g) (hn : n ≤ 1000) (hm : m ≤ 1000) :
    Calls Try.prog 10 #[v, u] w fun e w' => (∃ z ok, e = .returned (.tuple #[.int .i64 z, .bool ok]) ∧ IsVic n m f g z ok) ∧ Since w w' := by
  obtain ⟨a, c, rfl, hc, h'⟩ := h
  obtain ⟨a2, c2, rfl, hc2, h2'⟩ := h2
  have HL : Hid (0 < n → ∃ k o, a = some ⟨k, o, none⟩ ∧ k < b ∧ ∀ j, j < n → w.cell? ⟨k, o + j, none⟩ = some (.int .i64 (f j))) := h'
  have HM : Hid (0 < m → ∃ k o, a2 = some ⟨k, o, none⟩ ∧ k < b ∧ ∀ j, j < m → w.cell? ⟨k, o + j, none⟩ = some (.int .i64 (g j))) := h2'
  clear h' h2'
  go_enter Try.func10, Try.ntmps10
  go_wp2_with fail
  go_loopw [8, 6, 7] (fun i z ok wr => ∃ (k : Nat) (zz : Int) (o : Bool), k ≤ n ∧ i = .int .i64 ((k : Int) - 1) ∧ z = .int .i64 zz ∧ ok = .bool o ∧ VicFrom n m f g k zz o ∧ Since w wr) (fun i _ _ _ => (intOf i + 1).toNat)
  case atStart => exact ⟨n, 0, false, by omega, rfl, rfl, rfl, vic_end n m f g, Since.refl _⟩
  case round =>
    obtain ⟨k, zz, o, hk, rfl, rfl, rfl, hv, hs⟩ := hrel
    have HV : Hid (VicFrom n m f g k zz o) := hv
    have HS : Hid (Since w wr) := hs
    clear hv hs
    match k with
    | 0 =>
      go_wp2_with fail
      go_ret2
      exact ⟨⟨zz, o, rfl, HV.out⟩, HS.out⟩
    | k + 1 =>
      rw [show ((k + 1 : Nat) : Int) - 1 = k by omega]
      by_cases hkm : k < m
      · have hkm2 : decide ((k : Int) < m) = true := by simp; omega
        obtain ⟨lk, lo, rfl, _, hcell⟩ := HL.out (by omega)
        obtain ⟨mk, mo, rfl, _, hcell2⟩ := HM.out (by omega)
        have q := (HS.out.cell (p := ⟨lk, lo + k, none⟩) (World.block_lt_of_cell? w _ (hcell k (by omega)))).trans (hcell k (by omega))
        have q2 := (HS.out.cell (p := ⟨mk, mo + k, none⟩) (World.block_lt_of_cell? w _ (hcell2 k (by omega)))).trans (hcell2 k (by omega))
        by_cases h16 : 16 ≤ f k
        · have hc : cand n m f k := ⟨by omega, hkm, h16⟩
          have HCD : Hid (cand n m f k) := hc
          clear hc
          have h16d : decide (16 ≤ f k) = true := by simp; omega
          cases o with
          | false =>
            have HV2 : Hid (VicFrom n m f g k k true) := vic_first HV.out HCD.out
            clear hcell hcell2 h16
            go_wp2_with fail
            go_quiet (fail)
            go_wp2_with fail
            go_roundw
            case rel => exact ⟨k, k, true, by omega, rfl, rfl, rfl, HV2.out, HS.out.drewN _⟩
            case measure => simp [intOf]
          | true =>
            obtain ⟨vv, rfl, hvn, hvm⟩ := vic_lt HV.out
            have q3 := (HS.out.cell (p := ⟨mk, mo + vv, none⟩) (World.block_lt_of_cell? w _ (hcell2 vv (by omega)))).trans (hcell2 vv (by omega))
            have hvm2 : (vv : Int) < m := by omega
            by_cases hle : g k ≤ g vv
            · have hled : decide (g k ≤ g vv) = true := by simp; omega
              have HV2 : Hid (VicFrom n m f g k k true) := vic_take HV.out HCD.out hle
              clear hcell hcell2 h16 hle
              go_wp2_with fail
              go_quiet (fail)
              go_wp2_with fail
              go_roundw
              case rel => exact ⟨k, k, true, by omega, rfl, rfl, rfl, HV2.out, HS.out.drewN _⟩
              case measure => simp [intOf]
            · have hled : decide (g k ≤ g vv) = false := by simp; omega
              have HV2 : Hid (VicFrom n m f g k vv true) := vic_keep HV.out (by omega)
              clear hcell hcell2 h16 hle
              go_wp2_with fail
              go_quiet (fail)
              go_wp2_with fail
              go_roundw
              case rel => exact ⟨k, vv, true, by omega, rfl, rfl, rfl, HV2.out, HS.out.drewN _⟩
              case measure => simp [intOf]
        · have h16d : decide (16 ≤ f k) = false := by simp; omega
          have HV2 : Hid (VicFrom n m f g k zz o) := vic_skip HV.out (fun hc => h16 hc.2.2)
          clear hcell hcell2 h16
          go_wp2_with fail
          go_quiet (fail)
          go_wp2_with fail
          go_roundw
          case rel => exact ⟨k, zz, o, by omega, rfl, rfl, rfl, HV2.out, HS.out.drewN _⟩
          case measure => simp [intOf]
      · have hkm2 : decide ((k : Int) < m) = false := by simp; omega
        have HV2 : Hid (VicFrom n m f g k zz o) := vic_skip HV.out (fun hc => hkm hc.2.1)
        go_wp2_with fail
        go_quiet (fail)
        go_wp2_with fail
        go_roundw
        case rel => exact ⟨k, zz, o, by omega, rfl, rfl, rfl, HV2.out, HS.out.drewN _⟩
        case measure => simp [intOf]
end Sp
end Go.Proofs.Ytegileohambjbaa
