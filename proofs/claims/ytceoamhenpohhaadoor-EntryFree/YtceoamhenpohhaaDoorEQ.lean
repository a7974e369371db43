/- The law EntryFree walked. -/
import Derived.Test.YtceoamhenpohhaaDoorEO
namespace Go.Proofs.YtceoamhenpohhaaDoor
set_option linter.unusedSimpArgs false
set_option linter.unusedVariables false
set_option maxRecDepth 100000
namespace En
open Go.RowKit
theorem ints_of_own {w : World} {b : Nat} {v : Value} {l : List Int} (h : w.ownsRow b 3 1 v l.length (ivals l)) : Ints w v l := by
  have h0 := h
  rcases h.2 with ⟨rfl, hn⟩ | ⟨g, cap, cur, rfl, hb, hg, hc, hm, hs, ht⟩
  · exact ⟨none, 0, by rw [hn], by omega, fun h => by omega⟩
  · refine ⟨some ⟨g, 0, none⟩, cap, rfl, hc, fun _ => ⟨g, 0, rfl, heap_lt hg, fun j x hj => ?_⟩⟩
    have hjl := (List.getElem?_eq_some_iff.1 hj).1
    rw [Nat.zero_add, h0.cellAt j (by omega)]
    simp only [ivals, List.getElem?_map, hj]
    rfl
theorem allC_len_le (l : List Fi) (k : Nat) : (allC (l.take k)).length ≤ (allC l).length := by
  have : allC l = allC (l.take k) ++ allC (l.drop k) := by
    unfold allC
    rw [← List.flatten_append, ← List.map_append, List.take_append_drop]
  rw [this, List.length_append]
  omega
set_option maxHeartbeats 8000000 in
theorem free_go (l : List Fi) (v : Value) (w : World) (hl : Fls w v l) (hz : Sized l) (hb : Lb w) : Calls Tryd.prog 4 #[v] w fun e w' => e = .returned (.bool true) ∧ Since w w' := by
  obtain ⟨a, c, rfl, hc⟩ := hl.form
  have HL : Hid (Fls w (.slice a l.length c) l) := hl
  have HZ : Hid (Sized l) := hz
  have HB : Hid (Lb w) := hb
  clear hl hz hb
  go_enter Tryd.func4, Tryd.ntmps4
  go_wp2_with fail
  refine (held_any l _ _ HL.out).mono ?_
  rintro e w1 ⟨⟨bh, rfl⟩, h1⟩
  have HS1 : Hid (Since w w1) := h1
  clear h1
  cases bh with
  | false =>
    go_wp2_with fail
    go_ret
    exact ⟨rfl, HS1.out⟩
  | true =>
    go_wp2_with fail
    refine (entered_any _ (HB.out.since HS1.out)).mono ?_
    rintro e w2 ⟨rfl, h2⟩
    have HS2 : Hid (Since w w2) := HS1.out.trans h2
    clear h2
    cases hrt : right l with
    | false =>
      go_wp2_with fail
      refine (print_no l _ _ (HL.out.since HS2.out) HZ.out hrt).mono ?_
      rintro e w3 ⟨rfl, h3⟩
      unfold errV
      clear hrt
      go_wp2_with fail
      go_ret
      exact ⟨rfl, HS2.out.trans h3⟩
    | true =>
      have HR : Hid (right l = true) := hrt
      have hpl := print_fits hrt
      have HC : Hid ((freeL l).length + (allC l).length = 21) := free_count hrt
      have hl8 : l.length ≤ 8 := by rw [right, Bool.and_eq_true, decide_eq_true_eq] at hrt; exact hrt.1
      have HG : Hid (∀ f, f ∈ l → Good f) := right_good hrt
      clear hrt
      go_wp2_with fail
      refine (print_yes l _ _ (HL.out.since HS2.out) HZ.out (HB.out.since HS2.out) HR.out).mono ?_
      rintro e w3 ⟨rfl, h3⟩
      have HS3 : Hid (Since w w3) := HS2.out.trans h3
      clear h3
      have hps : (⟨(print l).toArray⟩ : ByteArray).size ≤ 200 := by rw [show (⟨(print l).toArray⟩ : ByteArray).size = (print l).length from List.size_toArray]; exact hpl
      clear hpl
      generalize (⟨(print l).toArray⟩ : ByteArray) = T at *
      have hpd : decide ((240 : Int) < (T.size : Nat)) = false := decide_eq_false (by omega)
      have hpd2 : ((T.size : Nat) : Int) ≤ 240 := by omega
      go_wp2_with fail
      refine (free_any l _ _ (HL.out.since HS3.out) HR.out).mono ?_
      rintro e w4 ⟨x, rfl, hown, h4⟩
      have HS4 : Hid (Since w w4) := HS3.out.trans h4
      have HI4 : Hid (Ints w4 x (freeL l)) := ints_of_own hown
      obtain ⟨fa, fc, rfl⟩ := (ints_of_own hown).form
      clear h4 hown
      have hcn := HC.out
      go_wp2_with fail
      go_loopw [7, 6, 8] (fun i s _ wr => ∃ k : Nat, k ≤ l.length ∧ i = .int .i64 k ∧ s = .int .i64 ((allC (l.take k)).length : Nat) ∧ wr = w4) (fun i _ _ _ => l.length - (intOf i).toNat)
      case atStart => exact ⟨0, by omega, rfl, rfl, rfl⟩
      case round =>
        obtain ⟨k, hk, rfl, rfl, rfl⟩ := hrel
        have hal := allC_len_le l k
        by_cases hlt : k < l.length
        · have hlt2 : (k : Int) < l.length := by omega
          have hE : Hid (l[k]? = some l[k]) := List.getElem?_eq_getElem hlt
          have HMF : Hid (l[k] ∈ l) := List.getElem_mem hlt
          have HAT : Hid ((allC (l.take (k + 1))).length = (allC (l.take k)).length + l[k].cs.length) := by
            show (allC (l.take (k + 1))).length = _
            rw [allC_take l k l[k] hE.out, List.length_append]
          have hal2 := allC_len_le l (k + 1)
          rw [HAT.out] at hal2
          generalize l[k] = f at *
          obtain ⟨k1, o1, u1, rfl, hi1, hl1, p0, p1, p2⟩ := (HL.out.since HS4.out).at_ hE.out
          obtain ⟨a1, b1, rfl⟩ := hi1.form
          have HI1 : Hid (Ints wr (.slice a1 f.cs.length b1) f.cs) := hi1
          clear hi1 p0 p1
          go_wp2_with fail
          go_loopw [8] (fun i wq => ∃ j : Nat, j ≤ f.cs.length ∧ i = .int .i64 j ∧ wq = wr) (fun i _ => f.cs.length - (intOf i).toNat)
          case atStart => exact ⟨0, by omega, rfl, rfl⟩
          case round =>
            obtain ⟨j, hj, rfl, rfl⟩ := hrel
            by_cases hjl : j < f.cs.length
            · have hjl2 : (j : Int) < f.cs.length := by omega
              have HNC : Hid ((freeL l).contains f.cs[j] = false) := by
                have h1 := free_not (mem_allC HMF.out (List.getElem_mem hjl))
                show (freeL l).contains f.cs[j] = false
                cases hq : (freeL l).contains f.cs[j] with
                | false => rfl
                | true => exact absurd (List.contains_iff_mem.1 hq) h1
              obtain ⟨ib, io, rfl, q⟩ := HI1.out.at_ (List.getElem?_eq_getElem hjl)
              generalize f.cs[j] = x at *
              have hct := contains_any (freeL l) _ x _ HI4.out (by omega)
              rw [HNC.out] at hct
              go_wp2_with (go_at_call 14; refine hct.mono ?_; rintro e w' ⟨rfl, rfl⟩)
              go_roundw
              case rel => exact ⟨j + 1, by omega, by go_num, trivial⟩
              case measure => simp [intOf]; omega
            · have hje : j = f.cs.length := by omega
              subst hje
              go_wp2_with fail
              go_roundw
              case rel => exact ⟨k + 1, by omega, by go_num, by rw [HAT.out]; congr 1, trivial⟩
              case measure => simp [intOf]; omega
        · have hke : k = l.length := by omega
          subst hke
          rw [List.take_length]
          have hee : (((allC l).length : Int) + ((freeL l).length : Nat)) = 21 := by omega
          have hee2 : ((((allC l).length : Int) + ((freeL l).length : Nat)) == 21) = true := by rw [hee]; rfl
          go_wp2_with fail
          refine (sorted_any (freeL l) _ _ HI4.out (by omega) (free_sorted l)).mono ?_
          rintro e w5 ⟨rfl, h5⟩
          go_wp2_with fail
          go_ret
          exact ⟨rfl, HS4.out.trans h5⟩
end En
end Go.Proofs.YtceoamhenpohhaaDoor
