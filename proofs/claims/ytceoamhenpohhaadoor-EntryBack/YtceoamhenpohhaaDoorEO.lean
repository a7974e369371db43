/- The law EntryFree walked. -/
import Derived.Test.YtceoamhenpohhaaDoorEL
namespace Go.Proofs.YtceoamhenpohhaaDoor
set_option linter.unusedSimpArgs false
set_option linter.unusedVariables false
set_option maxRecDepth 100000
namespace En
open Go.RowKit
theorem heldF_any (f : Fi) (a : Option Addr) (n c : Nat) (w : World) : Calls Tryd.prog 17 #[fval f (.slice a n c)] w fun e w' => (∃ b : Bool, e = .returned (.bool b)) ∧ Since w w' := by
  unfold fval
  by_cases h : (40 : Int) < (f.nm.size : Nat)
  · have hd : decide ((40 : Int) < (f.nm.size : Nat)) = true := decide_eq_true h
    clear h
    go_enter Tryd.func17, Tryd.ntmps17
    go_wp2_with fail
    go_ret
    exact ⟨⟨_, rfl⟩, (Since.refl w).alloc _⟩
  · have hd : decide ((40 : Int) < (f.nm.size : Nat)) = false := decide_eq_false h
    clear h
    go_enter Tryd.func17, Tryd.ntmps17
    go_wp2_with fail
    go_ret
    exact ⟨⟨_, rfl⟩, (Since.refl w).alloc _⟩
set_option maxHeartbeats 2000000 in
theorem IFf_any (l : List Fi) (v : Value) (w : World) (hl : Fls w v l) (hn : l.length ≤ 1000) :
    Calls Tryd.prog 37 #[v, .func (.func 17) #[] #[]] w fun e w' => (∃ i : Int, e = .returned (.int .i64 i)) ∧ Since w w' := by
  obtain ⟨a, c, rfl, hc⟩ := hl.form
  have HL : Hid (Fls w (.slice a l.length c) l) := hl
  clear hl
  go_enter Tryd.func37, Tryd.ntmps37
  go_wp2_with fail
  go_loopw [8, 5] (fun i _ wr => ∃ k : Nat, k ≤ l.length ∧ i = .int .i64 k ∧ Since w wr) (fun i _ _ => l.length - (intOf i).toNat)
  case atStart => exact ⟨0, by omega, rfl, Since.refl _⟩
  case round =>
    obtain ⟨k, hk, rfl, hs⟩ := hrel
    have HS : Hid (Since w wr) := hs
    clear hs
    by_cases hlt : k < l.length
    · have hlt2 : (k : Int) < l.length := by omega
      have hE : Hid (l[k]? = some l[k]) := List.getElem?_eq_getElem hlt
      generalize l[k] = f at *
      obtain ⟨k1, o1, u1, rfl, hi1, hl1, p0, p1, p2⟩ := (HL.out.since HS.out).at_ hE.out
      obtain ⟨a1, b1, rfl⟩ := hi1.form
      clear hi1
      go_wp2_with fail
      refine (heldF_any f a1 _ b1 _).mono ?_
      rintro e w1 ⟨⟨b, rfl⟩, h1⟩
      have HS1 : Hid (Since w w1) := HS.out.trans h1
      clear h1 p0 p1 p2
      cases b with
      | true =>
        go_wp2_with fail
        go_ret
        exact ⟨⟨_, rfl⟩, HS1.out⟩
      | false =>
        go_wp2_with fail
        go_roundw
        case rel => exact ⟨k + 1, by omega, by go_num, HS1.out⟩
        case measure => simp [intOf]; omega
    · have hke : k = l.length := by omega
      subst hke
      go_wp2_with fail
      go_ret
      exact ⟨⟨_, rfl⟩, HS.out⟩
theorem held_any (l : List Fi) (v : Value) (w : World) (hl : Fls w v l) : Calls Tryd.prog 5 #[v] w fun e w' => (∃ b : Bool, e = .returned (.bool b)) ∧ Since w w' := by
  by_cases hn : l.length ≤ 12
  · have hif := IFf_any l v w hl (by omega)
    obtain ⟨a, c, rfl, hc⟩ := hl.form
    have hcf : Calls Tryd.prog 16 #[.slice a l.length c, .func (.func 17) #[] #[]] w fun e w' => (∃ b : Bool, e = .returned (.bool b)) ∧ Since w w' := by
      clear hl
      go_enter Tryd.func16, Tryd.ntmps16
      go_wp2_with fail
      refine hif.mono ?_
      rintro e w1 ⟨⟨i, rfl⟩, h1⟩
      go_wp2_with fail
      go_ret
      exact ⟨⟨_, rfl⟩, h1⟩
    have hd : decide ((l.length : Int) ≤ 12) = true := decide_eq_true (by omega)
    clear hl hif
    go_enter Tryd.func5, Tryd.ntmps5
    go_wp2_with fail
    refine hcf.mono ?_
    rintro e w1 ⟨⟨b, rfl⟩, h1⟩
    go_wp2_with fail
    go_ret
    exact ⟨⟨_, rfl⟩, h1⟩
  · obtain ⟨a, c, rfl, hc⟩ := hl.form
    have hd : decide ((l.length : Int) ≤ 12) = false := decide_eq_false (by omega)
    clear hl
    go_enter Tryd.func5, Tryd.ntmps5
    go_wp2_with fail
    go_ret
    exact ⟨⟨_, rfl⟩, Since.refl _⟩
/-- the two files of the fact that is asked first -/
def twoL : List Fi := [⟨⟨#[97]⟩, 81, [5, 3]⟩, ⟨⟨#[98]⟩, 0, []⟩]
theorem two_right : right twoL = true := by
  simp [right, twoL, rightFrom, gtB, Lib.toList_data, Op.bytesLess, nameB, isLet, filled, need, takeB, cellB]
theorem two_print : print twoL = [97, 32, 56, 49, 32, 53, 32, 51, 10, 98, 32, 48, 10] := by
  have d81 : Lib.itoa 81 = [56, 49] := by rw [itoa_dec (by decide)]; exact Lib.decDigits_two (by decide) (by decide)
  have d5 : Lib.itoa 5 = [53] := by rw [itoa_dec (by decide)]; exact Lib.decDigits_one (by decide)
  have d3 : Lib.itoa 3 = [51] := by rw [itoa_dec (by decide)]; exact Lib.decDigits_one (by decide)
  have d0 : Lib.itoa 0 = [48] := by rw [itoa_dec (by decide)]; exact Lib.decDigits_one (by decide)
  simp [print, twoL, line, words, d81, d5, d3, d0, Lib.join, List.intercalate]
set_option maxHeartbeats 4000000 in
theorem entered_any (w : World) (hb : Lb w) : Calls Tryd.prog 6 #[] w fun e w' => e = .returned (.bool true) ∧ Since w w' := by
  have HB : Hid (Lb w) := hb
  clear hb
  go_enter Tryd.func6, Tryd.ntmps6
  go_upto_region 2 with fail
  have hS : Since w ((w.alloc (.cells #[.int .i64 5, .int .i64 3] 3)).alloc (.cells #[.string ⟨#[97]⟩, .int .i64 81, .slice (some ⟨w.heap.size, 0, none⟩) 2 2, .string ⟨#[98]⟩, .int .i64 0, .slice none 0 0] 38)) := ((Since.refl w).alloc _).alloc _
  have hI : Ints ((w.alloc (.cells #[.int .i64 5, .int .i64 3] 3)).alloc (.cells #[.string ⟨#[97]⟩, .int .i64 81, .slice (some ⟨w.heap.size, 0, none⟩) 2 2, .string ⟨#[98]⟩, .int .i64 0, .slice none 0 0] 38)) (.slice (some ⟨w.heap.size, 0, none⟩) 2 2) [5, 3] := by
    have h0 : Ints (w.alloc (.cells #[.int .i64 5, .int .i64 3] 3)) (.slice (some ⟨w.heap.size, 0, none⟩) 2 2) [5, 3] := ⟨some ⟨w.heap.size, 0, none⟩, 2, rfl, Nat.le_refl _, fun _ => ⟨w.heap.size, 0, rfl, by simp, fun j x hj => by
      rw [World.cell?_alloc_new]
      match j, hj with
      | 0, hj => cases hj; rfl
      | 1, hj => cases hj; rfl
      | j + 2, hj => simp at hj⟩⟩
    exact h0.since ((Since.refl _).alloc _)
  have hF : Fls ((w.alloc (.cells #[.int .i64 5, .int .i64 3] 3)).alloc (.cells #[.string ⟨#[97]⟩, .int .i64 81, .slice (some ⟨w.heap.size, 0, none⟩) 2 2, .string ⟨#[98]⟩, .int .i64 0, .slice none 0 0] 38)) (.slice (some ⟨w.heap.size + 1, 0, none⟩) 2 2) twoL := by
    have hsz : (w.alloc (.cells #[.int .i64 5, .int .i64 3] 3)).heap.size = w.heap.size + 1 := World.size_alloc _ _
    have hc : ∀ i, ((w.alloc (.cells #[.int .i64 5, .int .i64 3] 3)).alloc (.cells #[.string ⟨#[97]⟩, .int .i64 81, .slice (some ⟨w.heap.size, 0, none⟩) 2 2, .string ⟨#[98]⟩, .int .i64 0, .slice none 0 0] 38)).cell? ⟨w.heap.size + 1, i, none⟩ = (#[.string ⟨#[97]⟩, .int .i64 81, .slice (some ⟨w.heap.size, 0, none⟩) 2 2, .string ⟨#[98]⟩, .int .i64 0, .slice none 0 0] : Array Value)[i]? := fun i => by
      rw [← hsz]
      exact World.cell?_alloc_new _ _ _ _
    refine ⟨some ⟨w.heap.size + 1, 0, none⟩, 2, rfl, Nat.le_refl _, fun _ => ⟨w.heap.size + 1, 0, rfl, by simp, fun j f hj => ?_⟩⟩
    match j, hj with
    | 0, hj =>
      cases hj
      exact ⟨_, hI, by rw [hc]; rfl, by rw [hc]; rfl, by rw [hc]; rfl⟩
    | 1, hj =>
      cases hj
      exact ⟨.slice none 0 0, ⟨none, 0, rfl, Nat.le_refl _, fun h => by simp at h⟩, by rw [hc]; rfl, by rw [hc]; rfl, by rw [hc]; rfl⟩
    | j + 2, hj => simp [twoL] at hj
  have HS : Hid (Since w ((w.alloc (.cells #[.int .i64 5, .int .i64 3] 3)).alloc (.cells #[.string ⟨#[97]⟩, .int .i64 81, .slice (some ⟨w.heap.size, 0, none⟩) 2 2, .string ⟨#[98]⟩, .int .i64 0, .slice none 0 0] 38))) := hS
  have HF : Hid (Fls ((w.alloc (.cells #[.int .i64 5, .int .i64 3] 3)).alloc (.cells #[.string ⟨#[97]⟩, .int .i64 81, .slice (some ⟨w.heap.size, 0, none⟩) 2 2, .string ⟨#[98]⟩, .int .i64 0, .slice none 0 0] 38)) (.slice (some ⟨w.heap.size + 1, 0, none⟩) 2 2) twoL) := hF
  clear hS hI hF
  generalize ((w.alloc (.cells #[.int .i64 5, .int .i64 3] 3)).alloc (.cells #[.string ⟨#[97]⟩, .int .i64 81, .slice (some ⟨w.heap.size, 0, none⟩) 2 2, .string ⟨#[98]⟩, .int .i64 0, .slice none 0 0] 38)) = w0 at *
  have hz : Sized twoL := fun f hf => by
    simp only [twoL, List.mem_cons, List.not_mem_nil, or_false] at hf
    rcases hf with rfl | rfl
    · exact ⟨by decide, by decide⟩
    · exact ⟨by decide, by decide⟩
  have hpr := print_yes twoL _ w0 HF.out hz (HB.out.since HS.out) two_right
  rw [two_print] at hpr
  go_wp2_with fail
  refine hpr.mono ?_
  rintro e w1 ⟨rfl, h1⟩
  have HS1 : Hid (Since w w1) := HS.out.trans h1
  clear h1 hpr hz
  have hpa := parse_any ⟨#[97, 32, 56, 49, 32, 53, 32, 51, 10, 98, 32, 48, 10]⟩ (by decide) w1 (HB.out.since HS1.out)
  have hpe : parse (⟨#[97, 32, 56, 49, 32, 53, 32, 51, 10, 98, 32, 48, 10]⟩ : ByteArray).data.toList = some twoL := (parse_iff _ _).2 ⟨two_right, two_print⟩
  rw [hpe] at hpa
  go_wp2_with fail
  refine hpa.mono ?_
  rintro e w2 ⟨he, h2⟩
  obtain ⟨v, rfl, hfl⟩ : ∃ v, e = .returned (.tuple #[v, .nilIface]) ∧ Fls w2 v twoL := by
    rcases he with ⟨l, v, hl, he, hf⟩ | ⟨hl, _⟩
    · injection hl with hl
      subst hl
      exact ⟨v, he, hf⟩
    · cases hl
  have HS2 : Hid (Since w w2) := HS1.out.trans h2
  clear h2 hpa hpe he
  obtain ⟨a, c, rfl, hc⟩ := hfl.form
  obtain ⟨kb, ko, cv, rfl, hi, _, q0, q1, q2⟩ := hfl.at_ (j := 0) (f := ⟨⟨#[97]⟩, 81, [5, 3]⟩) rfl
  have HI : Hid (Ints w2 cv [5, 3]) := hi
  have hl2 : twoL.length = 2 := rfl
  rw [hl2] at *
  clear hi hfl
  have HI2 : Hid (Ints (w2.alloc (.cells #[.int .i64 5, .int .i64 3] 3)) (.slice (some ⟨w2.heap.size, 0, none⟩) 2 2) [5, 3]) := ⟨some ⟨w2.heap.size, 0, none⟩, 2, rfl, Nat.le_refl _, fun _ => ⟨w2.heap.size, 0, rfl, by simp, fun j x hj => by
      rw [World.cell?_alloc_new]
      match j, hj with
      | 0, hj => cases hj; rfl
      | 1, hj => cases hj; rfl
      | j + 2, hj => simp at hj⟩⟩
  have HSA : Hid (Since w2 (w2.alloc (.cells #[.int .i64 5, .int .i64 3] 3))) := (Since.refl _).alloc _
  have hnd := need_any 80 (by decide)
  rw [show need 80 = 1 by decide] at hnd
  go_wp2_with fail
  refine (eqI_any [5, 3] _ _ _ (HI.out.since HSA.out) HI2.out (by decide)).mono ?_
  rintro e w3 ⟨rfl, n, rfl⟩
  go_wp2_with (go_at_call 19; refine (hnd _).mono ?_; rintro e w' ⟨rfl, rfl⟩)
  go_ret
  exact ⟨rfl, (HS2.out.trans HSA.out).drewN n⟩
theorem contains_any (l : List Int) (v : Value) (x : Int) (w : World) (h : Ints w v l) (hn : l.length ≤ 1000) : Calls Tryd.prog 14 #[v, .int .i64 x] w fun e w' => e = .returned (.bool (l.contains x)) ∧ w' = w := by
  obtain ⟨a, c, hv, hc, hh⟩ := h
  subst hv
  by_cases h0 : l = []
  · subst h0
    exact Tryd.slices_Contains_int_empty a c x w
  · obtain ⟨k, o, rfl, _, hcell⟩ := hh (List.length_pos_iff.2 h0)
    have := Tryd.slices_Contains_int k o l.length c l x w (Nat.le_refl _) (by omega) (fun j hj => by
      rw [hcell j l[j] (List.getElem?_eq_getElem hj)]
      simp [List.getD, hj])
    rw [List.take_length] at this
    exact this
end En
end Go.Proofs.YtceoamhenpohhaaDoor
