/- The law SealSeals walked. -/
import Derived.Test.YtjfhggcjdckfgaaDoorJ4
import Derived.Test.YtjfhggcjdckfgaaDoorE9
namespace Go.Proofs.YtjfhggcjdckfgaaDoor
set_option linter.unusedSimpArgs false
set_option linter.unusedVariables false
set_option maxRecDepth 100000
namespace Sl
open Go.RowKit
open Sm (Tab RSum Arr H0 kn rnew_any)

/-- an error, held against a number -/
def BareOk (ev : Value) (n : Int) : Prop := ∀ w : World, Et w → Calls Tryd.prog 23 #[ev, .int .i64 n] w fun e w' => e = .returned (.bool true) ∧ Since w w'
theorem bareOk_nil : BareOk .nilIface 0 := fun w _ => (bare_nil w).mono (fun e w' ⟨h1, h2⟩ => ⟨h1, by rw [h2]; exact Since.refl _⟩)
theorem bareOk_hit (n : Int) : BareOk (.iface 30 (.int .i64 n)) n := fun w h => bare_hit n w h
def RSeals (key : ByteArray) (cell : Int) (t A : ByteArray) (n : Int) : Prop := ∀ (b : Nat) (w : World), Arr w b 0 8 H0.fn → Arr w b 8 64 kn →
    Calls Tryd.prog 65 #[.pointer (some ⟨b, 0, none⟩), .string key, .int .i64 cell, .string t] w fun e w' => e = .returned (.tuple #[.string A, .int .i64 n]) ∧ Since w w'
def Seals (key : ByteArray) (cell : Int) (t A : ByteArray) (ev : Value) : Prop := ∀ (w : World), Tab w →
    Calls Tryd.prog 66 #[.string key, .int .i64 cell, .string t] w fun e w' => e = .returned (.tuple #[.string A, ev]) ∧ Since w w'
theorem both_seal (hsum : RSum) (key : ByteArray) (cell : Int) (t : ByteArray) :
    ∃ (A : ByteArray) (n : Int) (ev : Value), A.size ≤ 109 ∧ RSeals key cell t A n ∧ Seals key cell t A ev ∧ BareOk ev n := by
  by_cases h : key.size ≠ 32 ∨ cell < 0 ∨ 24 ≤ cell
  · refine ⟨⟨#[]⟩, 1, .iface 30 (.int .i64 1), by decide, fun b w _ _ => ?_, fun w _ => ?_, bareOk_hit 1⟩
    · exact (rseal_arg b key cell t w h).mono (fun e w' ⟨h1, h2⟩ => ⟨h1, by rw [h2]; exact Since.refl _⟩)
    · exact (seal_arg key cell t w h).mono (fun e w' ⟨h1, h2⟩ => ⟨h1, by rw [h2]; exact Since.refl _⟩)
  · have h1 : key.size = 32 := by omega
    have h2 : 0 ≤ cell := by omega
    have h3 : cell < 24 := by omega
    by_cases ht : 80 < t.size
    · refine ⟨⟨#[]⟩, 4, .iface 30 (.int .i64 4), by decide, fun b w _ _ => ?_, fun w _ => ?_, bareOk_hit 4⟩
      · exact (rseal_limit b key cell t w h1 h2 h3 ht).mono (fun e w' ⟨h1, h2⟩ => ⟨h1, by rw [h2]; exact Since.refl _⟩)
      · exact (seal_limit key cell t w h1 h2 h3 ht).mono (fun e w' ⟨h1, h2⟩ => ⟨h1, by rw [h2]; exact Since.refl _⟩)
    · refine ⟨sealOf key cell t, 0, .nilIface, by rw [seal_size]; omega, fun b w hh hk => ?_, fun w hT => ?_, bareOk_nil⟩
      · exact rseal_ok hsum b key cell t w h1 h2 h3 (by omega) hh hk
      · exact seal_ok key cell t w h1 h2 h3 (by omega) hT
def ROpens (key : ByteArray) (cell : Int) (s A B : ByteArray) (n : Int) : Prop := ∀ (b : Nat) (w : World), Arr w b 0 8 H0.fn → Arr w b 8 64 kn →
    Calls Tryd.prog 67 #[.pointer (some ⟨b, 0, none⟩), .string key, .int .i64 cell, .string s] w fun e w' => e = .returned (.tuple #[.string A, .string B, .int .i64 n]) ∧ Since w w'
def Opens (key : ByteArray) (cell : Int) (s A B : ByteArray) (ev : Value) : Prop := ∀ (w : World), Tab w →
    Calls Tryd.prog 68 #[.string key, .int .i64 cell, .string s] w fun e w' => e = .returned (.tuple #[.string A, .string B, ev]) ∧ Since w w'
theorem both_open (hsum : RSum) (key : ByteArray) (cell : Int) (s : ByteArray) (hz : s.size ≤ 900) :
    ∃ (A B : ByteArray) (n : Int) (ev : Value), ROpens key cell s A B n ∧ Opens key cell s A B ev ∧ BareOk ev n := by
  by_cases h : key.size = 32
  · by_cases hs : s.size < 109
    · refine ⟨⟨#[]⟩, ⟨#[]⟩, 15, .iface 30 (.int .i64 15), fun b w _ _ => runseal_short b key cell s w h hs, fun w _ => ?_, bareOk_hit 15⟩
      exact (open_short key cell s w h hs).mono (fun e w' ⟨h1, h2⟩ => ⟨h1, by rw [h2]; exact Since.refl _⟩)
    · by_cases hb : s.extract 0 16 = tagOf key cell s
      · exact ⟨s.extract 0 16, textOf key s, 0, .nilIface, fun b w hh hk => runseal_ok hsum b key cell s w h (by omega) hz hb hh hk, fun w hT => open_ok key cell s w h (by omega) hz hb hT, bareOk_nil⟩
      · exact ⟨⟨#[]⟩, ⟨#[]⟩, 15, .iface 30 (.int .i64 15), fun b w hh hk => runseal_bad hsum b key cell s w h (by omega) hz hb hh hk, fun w hT => open_bad key cell s w h (by omega) hz hb hT, bareOk_hit 15⟩
  · refine ⟨⟨#[]⟩, ⟨#[]⟩, 1, .iface 30 (.int .i64 1), fun b w _ _ => ?_, fun w _ => ?_, bareOk_hit 1⟩
    · exact (runseal_arg b key cell s w h).mono (fun e w' ⟨h1, h2⟩ => ⟨h1, by rw [h2]; exact Since.refl _⟩)
    · exact (open_arg key cell s w h).mono (fun e w' ⟨h1, h2⟩ => ⟨h1, by rw [h2]; exact Since.refl _⟩)

set_option maxHeartbeats 4000000 in
theorem seal_go (hsum : RSum) (w : World) (key : ByteArray) (cell : Int) (t s : ByteArray) (hg : Et w) (hT : Tab w) :
    Calls Tryd.prog 9 #[.string key, .int .i64 cell, .string t, .string s] w fun e w' => e = .returned (.bool true) ∧ Since w w' := by
  have HG : Hid (Et w) := hg
  have HT : Hid (Tab w) := hT
  clear hg hT
  obtain ⟨A, n, ev, hA, hr, hp, hbr⟩ := both_seal hsum key cell t
  have HR : Hid (RSeals key cell t A n) := hr
  have HP : Hid (Seals key cell t A ev) := hp
  have HB : Hid (BareOk ev n) := hbr
  clear hr hp hbr
  go_enter Tryd.func9, Tryd.ntmps9
  go_wp2_with fail
  refine (lawLong_any _ _).mono ?_
  rintro e w1 ⟨rfl, rfl⟩
  by_cases h60 : 60 < key.size
  · rw [decide_eq_true h60]
    go_wp2_with fail
    go_ret
    exact ⟨rfl, Since.refl _⟩
  rw [decide_eq_false h60]
  by_cases h120 : 120 < t.size
  · have e1 : (120 : Int) < t.size := by omega
    go_wp2_with fail
    go_ret
    exact ⟨rfl, Since.refl _⟩
  have e1 : ¬ (120 : Int) < t.size := by omega
  by_cases h200 : 200 < s.size
  · have e2 : (200 : Int) < s.size := by omega
    go_wp2_with fail
    go_ret
    exact ⟨rfl, Since.refl _⟩
  have e2 : ¬ (200 : Int) < s.size := by omega
  go_wp2_with fail
  refine (rnew_any _).mono ?_
  rintro e w2 ⟨b, rfl, _, hh, hk2, h2⟩
  have HH : Hid (Arr w2 b 0 8 H0.fn) := hh
  have HK : Hid (Arr w2 b 8 64 kn) := hk2
  have HS2 : Hid (Since w1 w2) := h2
  clear hh hk2 h2
  go_wp2_with fail
  refine (HR.out b _ HH.out HK.out).mono ?_
  rintro e w3 ⟨rfl, h3⟩
  go_wp2_with fail
  refine (HP.out _ (HT.out.since (HS2.out.trans h3))).mono ?_
  rintro e w4 ⟨rfl, h4⟩
  go_wp2_with fail
  refine (HB.out _ (HG.out.since (HS2.out.trans (h3.trans h4)))).mono ?_
  rintro e w5 ⟨rfl, h5⟩
  have HS5 : Hid (Since w2 w5) := h3.trans (h4.trans h5)
  clear h3 h4 h5
  have hax : A.size + (⟨#[120]⟩ : ByteArray).size ≤ 9223372036854775807 := by show A.size + 1 ≤ _; omega
  go_wp2_with fail
  have haz : (A ++ (⟨#[120]⟩ : ByteArray)).size ≤ 110 := by rw [ByteArray.size_append]; show A.size + 1 ≤ 110; omega
  have hcs := three_cells w5 s A (A ++ (⟨#[120]⟩ : ByteArray)) 9
  have hss := three_size s A (A ++ (⟨#[120]⟩ : ByteArray)) (by omega) (by omega) (by omega)
  have HC : Hid (∀ j, j < 3 → (w5.alloc (.cells #[.string s, .string A, .string (A ++ (⟨#[120]⟩ : ByteArray))] 9)).cell? ⟨w5.heap.size, 0 + j, none⟩ = some (.string (three s A (A ++ (⟨#[120]⟩ : ByteArray)) j))) := hcs
  have HZ : Hid (∀ j, (three s A (A ++ (⟨#[120]⟩ : ByteArray)) j).size ≤ 900) := hss
  clear hcs hss haz hax
  have HS6 : Hid (Since w2 (w5.alloc (.cells #[.string s, .string A, .string (A ++ (⟨#[120]⟩ : ByteArray))] 9))) := HS5.out.alloc _
  have hlt5 : w5.heap.size < (w5.alloc (.cells #[.string s, .string A, .string (A ++ (⟨#[120]⟩ : ByteArray))] 9)).heap.size := by simp
  clear HS5
  generalize (w5.alloc (.cells #[.string s, .string A, .string (A ++ (⟨#[120]⟩ : ByteArray))] 9)) = w6 at *
  generalize three s A (A ++ (⟨#[120]⟩ : ByteArray)) = ps at *
  generalize w5.heap.size = bl at *
  go_loopw [65] (fun i wr => ∃ k : Nat, k ≤ 3 ∧ i = .int .i64 k ∧ Since w6 wr) (fun i _ => 3 - (intOf i).toNat)
  case atStart => exact ⟨0, by omega, rfl, Since.refl _⟩
  case round =>
    obtain ⟨k, hk, rfl, hS⟩ := hrel
    have HS : Hid (Since w6 wr) := hS
    clear hS
    by_cases hlt : k < 3
    · have hltI : (k : Int) < 3 := by omega
      have hck : wr.cell? ⟨bl, k, none⟩ = some (.string (ps k)) := by
        have hc := HC.out k hlt
        rw [Nat.zero_add] at hc
        rw [HS.out.cell (p := ⟨bl, k, none⟩) hlt5]; exact hc
      obtain ⟨A2, B2, n2, ev2, hr2, hp2, hb2⟩ := both_open hsum key cell (ps k) (HZ.out k)
      have HR2 : Hid (ROpens key cell (ps k) A2 B2 n2) := hr2
      have HP2 : Hid (Opens key cell (ps k) A2 B2 ev2) := hp2
      have HB2 : Hid (BareOk ev2 n2) := hb2
      clear hr2 hp2 hb2
      generalize ps k = x at *
      have HSr : Hid (Since w2 wr) := HS6.out.trans HS.out
      go_wp2_with fail
      refine (HR2.out b _ (HH.out.since HSr.out) (HK.out.since HSr.out)).mono ?_
      rintro e w7 ⟨rfl, h7⟩
      clear hck
      go_wp2_with fail
      refine (HP2.out _ (HT.out.since (HS2.out.trans (HSr.out.trans h7)))).mono ?_
      rintro e w8 ⟨rfl, h8⟩
      go_wp2_with fail
      refine (HB2.out _ (HG.out.since (HS2.out.trans (HSr.out.trans (h7.trans h8))))).mono ?_
      rintro e w9 ⟨rfl, h9⟩
      have HS9 : Hid (Since w6 w9) := HS.out.trans (h7.trans (h8.trans h9))
      clear h7 h8 h9
      go_wp2_with fail
      go_roundw
      case rel => exact ⟨k + 1, by omega, by go_num, HS9.out⟩
      case measure => simp [intOf]; omega
    · have hke : k = 3 := by omega
      subst hke
      go_wp2_with fail
      go_ret
      exact ⟨rfl, HS2.out.trans (HS6.out.trans HS.out)⟩
end Sl
end Go.Proofs.YtjfhggcjdckfgaaDoor
