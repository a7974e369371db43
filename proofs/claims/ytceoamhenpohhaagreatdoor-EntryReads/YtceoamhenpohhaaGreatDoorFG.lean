/- The law EntryReads walked. -/
import Derived.Test.YtceoamhenpohhaaGreatDoorFF
import Derived.Test.YtceoamhenpohhaaGreatDoorE9
namespace Go.Proofs.YtceoamhenpohhaaGreatDoor
set_option linter.unusedSimpArgs false
set_option linter.unusedVariables false
set_option maxRecDepth 100000
namespace En
open Go.RowKit
theorem fls_nil (w : World) : Fls w (.slice none 0 0) [] := ⟨none, 0, rfl, Nat.le_refl _, fun h => by simp at h⟩
/-- both Prints answer alike -/
theorem prints (l : List Fi) (v : Value) (w : World) (hl : Fls w v l) (hz : Sized l) (hb : Lb w) (he : Et w) (hs : shortL l) :
    ∃ (T : ByteArray) (E : Int) (EV : Value), (∀ W, Since w W → Calls Tryz.prog 5 #[v] W fun e w' => e = .returned (.tuple #[.string T, .int .i64 E]) ∧ Since W w') ∧
      (∀ W, Since w W → Calls Tryz.prog 6 #[v] W fun e w' => e = .returned (.tuple #[.string T, EV]) ∧ Since W w') ∧
      (∀ W, Since w W → Calls Tryz.prog 7 #[EV, .int .i64 E] W fun e w' => e = .returned (.bool true) ∧ Since W w') ∧
      ((E = 0 ∧ right l = true) ∨ E = 1) := by
  cases hr : right l with
  | false =>
    exact ⟨⟨#[]⟩, 1, errV 1, fun W hW => rprint_no l v W (hl.since hW) hz (by have := hs.1; omega) (fun f hf => by have := hs.2 f hf; omega) hr, fun W hW => print_no l v W (hl.since hW) hz hr, fun W hW => bare_hit 1 W (he.since hW), Or.inr rfl⟩
  | true =>
    exact ⟨_, 0, .nilIface, fun W hW => rprint_yes l v W (hl.since hW) (hb.since hW) hr, fun W hW => print_yes l v W (hl.since hW) hz (hb.since hW) hr, fun W hW => (bare_nil W).mono (fun e w' ⟨h1, h2⟩ => ⟨h1, by rw [h2]; exact Since.refl _⟩), Or.inl ⟨rfl, rfl⟩⟩
/-- both Parses answer alike -/
theorem parses (s : ByteArray) (hs : s.size ≤ 400) (w : World) (hb : Lb w) (he : Et w) :
    ∃ (L : List Fi) (E : Int) (EV : Value), (∀ W, Since w W → Calls Tryz.prog 17 #[.string s] W fun e w' => ∃ v, e = .returned (.tuple #[v, .int .i64 E]) ∧ Fls w' v L ∧ Since W w') ∧
      (∀ W, Since w W → Calls Tryz.prog 18 #[.string s] W fun e w' => ∃ v, e = .returned (.tuple #[v, EV]) ∧ Fls w' v L ∧ Since W w') ∧
      (∀ W, Since w W → Calls Tryz.prog 7 #[EV, .int .i64 E] W fun e w' => e = .returned (.bool true) ∧ Since W w') ∧
      L.length ≤ 1000 ∧ ∀ f, f ∈ L → f.cs.length ≤ 100000 := by
  cases hp : parseR s.data.toList with
  | none =>
    refine ⟨[], 3, errV 3, fun W hW => (rparse_any s hs W (hb.since hW)).mono ?_, fun W hW => (parse_any s (by omega) W (hb.since hW)).mono ?_, fun W hW => bare_hit 3 W (he.since hW), by simp, fun f hf => by cases hf⟩
    · rintro e w' ⟨⟨l, v, h1, _⟩ | ⟨_, h2⟩, h3⟩
      · rw [hp] at h1; cases h1
      · exact ⟨_, h2, fls_nil _, h3⟩
    · rintro e w' ⟨⟨l, v, h1, _⟩ | ⟨_, h2⟩, h3⟩
      · rw [parse_same, hp] at h1; cases h1
      · exact ⟨_, h2, fls_nil _, h3⟩
  | some L =>
    have hr : right L = true := by
      unfold parseR at hp
      split at hp
      · rename_i h
        injection hp with hp
        rw [← hp]
        exact h.1
      · cases hp
    have hg := right_good hr
    rw [right, Bool.and_eq_true, decide_eq_true_eq] at hr
    refine ⟨L, 0, .nilIface, fun W hW => (rparse_any s hs W (hb.since hW)).mono ?_, fun W hW => (parse_any s (by omega) W (hb.since hW)).mono ?_, fun W hW => (bare_nil W).mono (fun e w' ⟨h1, h2⟩ => ⟨h1, by rw [h2]; exact Since.refl _⟩), by omega, fun f hf => by have := (hg f hf).cs_le; omega⟩
    · rintro e w' ⟨⟨l, v, h1, h2, h4⟩ | ⟨h1, h2⟩, h3⟩
      · rw [hp] at h1
        injection h1 with h1
        subst h1
        exact ⟨_, h2, h4, h3⟩
      · rw [hp] at h1; cases h1
    · rintro e w' ⟨⟨l, v, h1, h2, h4⟩ | ⟨h1, h2⟩, h3⟩
      · rw [parse_same, hp] at h1
        injection h1 with h1
        subst h1
        exact ⟨_, h2, h4, h3⟩
      · rw [parse_same, hp] at h1; cases h1
set_option maxHeartbeats 8000000 in
theorem reads_go (l : List Fi) (v : Value) (s : ByteArray) (n : Int) (w : World) (hl : Fls w v l) (hz : Sized l) (hb : Lb w) (he : Et w) (hn : -9223372036854775808 ≤ n ∧ n ≤ 9223372036854775807) :
    Calls Tryz.prog 3 #[v, .string s, .int .i64 n] w fun e w' => e = .returned (.bool true) ∧ Since w w' := by
  obtain ⟨a, c, rfl, hc⟩ := hl.form
  have HL : Hid (Fls w (.slice a l.length c) l) := hl
  have HZ : Hid (Sized l) := hz
  have HB : Hid (Lb w) := hb
  have HE : Hid (Et w) := he
  have HN : Hid (-9223372036854775808 ≤ n ∧ n ≤ 9223372036854775807) := hn
  clear hl hz hb he hn
  go_enter Tryz.func3, Tryz.ntmps3
  go_wp2_with fail
  refine (short_any l _ _ HL.out).mono ?_
  rintro e w1 ⟨⟨bh, rfl, hsh⟩, hw1⟩
  have HSH : Hid (bh = true → shortL l) := hsh
  clear hsh
  rw [hw1]
  clear hw1 w1
  cases bh with
  | false =>
    go_wp2_with fail
    go_ret
    exact ⟨rfl, Since.refl _⟩
  | true =>
    by_cases hs4 : s.size ≤ 400
    · have hd4 : decide ((400 : Int) < (s.size : Nat)) = false := decide_eq_false (by omega)
      obtain ⟨T, E, EV, h1, h2, h3, h4⟩ := prints l _ w HL.out HZ.out HB.out HE.out (HSH.out rfl)
      have HP1 : Hid (∀ W, Since w W → Calls Tryz.prog 5 #[.slice a l.length c] W fun e w' => e = .returned (.tuple #[.string T, .int .i64 E]) ∧ Since W w') := h1
      have HP2 : Hid (∀ W, Since w W → Calls Tryz.prog 6 #[.slice a l.length c] W fun e w' => e = .returned (.tuple #[.string T, EV]) ∧ Since W w') := h2
      have HP3 : Hid (∀ W, Since w W → Calls Tryz.prog 7 #[EV, .int .i64 E] W fun e w' => e = .returned (.bool true) ∧ Since W w') := h3
      have HP4 : Hid ((E = 0 ∧ right l = true) ∨ E = 1) := h4
      clear h1 h2 h3 h4
      obtain ⟨L, E2, EV2, h1, h2, h3, h4, h5⟩ := parses s hs4 w HB.out HE.out
      have HQ1 : Hid (∀ W, Since w W → Calls Tryz.prog 17 #[.string s] W fun e w' => ∃ v, e = .returned (.tuple #[v, .int .i64 E2]) ∧ Fls w' v L ∧ Since W w') := h1
      have HQ2 : Hid (∀ W, Since w W → Calls Tryz.prog 18 #[.string s] W fun e w' => ∃ v, e = .returned (.tuple #[v, EV2]) ∧ Fls w' v L ∧ Since W w') := h2
      have HQ3 : Hid (∀ W, Since w W → Calls Tryz.prog 7 #[EV2, .int .i64 E2] W fun e w' => e = .returned (.bool true) ∧ Since W w') := h3
      have HQ4 : Hid (L.length ≤ 1000 ∧ ∀ f, f ∈ L → f.cs.length ≤ 100000) := ⟨h4, h5⟩
      clear h1 h2 h3 h4 h5
      have hTT : (T.toList == T.toList) = true := by simp
      have hTT2 : (T.data.toList == T.data.toList) = true := by simp
      have HRA : Hid (∀ W, Since w W → Calls Tryz.prog 8 #[.slice a l.length c] W fun e w' => e = .returned (.bool (right l)) ∧ Since W w') := fun W hW => right_any l _ W (HL.out.since hW) HZ.out
      have HRB : Hid (∀ W, Since w W → Calls Tryz.prog 9 #[.slice a l.length c] W fun e w' => e = .returned (.bool (right l)) ∧ Since W w') := fun W hW => rright_any l _ W (HL.out.since hW) HZ.out (by have := (HSH.out rfl).1; omega) (fun f hf => by have := (HSH.out rfl).2 f hf; omega)
      have HNA : Hid (∀ W, Calls Tryz.prog 10 #[.string s] W fun e w' => e = .returned (.bool (nameB s.data.toList)) ∧ w' = W) := name_any s
      have HNB : Hid (∀ W, Calls Tryz.prog 11 #[.string s] W fun e w' => e = .returned (.bool (nameB s.data.toList)) ∧ w' = W) := rname_any s (by omega)
      have HDA : Hid (∀ W, Calls Tryz.prog 12 #[.int .i64 n] W fun e w' => e = .returned (.int .i64 (need n)) ∧ w' = W) := need_any n HN.out
      have HDB : Hid (∀ W, Calls Tryz.prog 13 #[.int .i64 n] W fun e w' => e = .returned (.int .i64 (need n)) ∧ w' = W) := rneed_any n HN.out
      have HFA : Hid (right l = true → ∀ W, Since w W → Calls Tryz.prog 15 #[.slice a l.length c] W fun e w' => ∃ x, e = .returned x ∧ Ints w' x (freeL l) ∧ Since W w') := fun hr W hW => (free_any l _ W (HL.out.since hW) hr).mono (fun e w' ⟨x, h1, h2, h3⟩ => ⟨x, h1, (ints_row rfl h2).1, h3⟩)
      have HFB : Hid (right l = true → ∀ W, Since w W → Calls Tryz.prog 16 #[.slice a l.length c] W fun e w' => ∃ x, e = .returned x ∧ Ints w' x (freeL l) ∧ Since W w') := fun hr W hW => (rfree_any l _ W (HL.out.since hW) hr).mono (fun e w' ⟨x, h1, h2, h3⟩ => ⟨x, h1, (ints_row rfl h2).1, h3⟩)
      have HFL : Hid ((freeL l).length ≤ 100000) := by
        show (freeL l).length ≤ 100000
        rw [← freeK_all]
        have := freeK_len (allC l) 21
        omega
      generalize nameB s.data.toList = nb at *
      generalize need n = nd at *
      generalize hrl : right l = rl at *
      clear hrl
      go_wp2_with fail
      refine (HP1.out _ (Since.refl _)).mono ?_
      rintro e wa ⟨rfl, ha⟩
      have HSA : Hid (Since w wa) := ha
      clear ha
      go_wp2_with fail
      refine (HP2.out _ HSA.out).mono ?_
      rintro e wb ⟨rfl, h⟩
      have HSB : Hid (Since w wb) := HSA.out.trans h
      clear h
      go_wp2_with fail
      refine (HP3.out _ HSB.out).mono ?_
      rintro e wc ⟨rfl, h⟩
      have HSC : Hid (Since w wc) := HSB.out.trans h
      clear h
      go_wp2_with fail
      refine (HRA.out _ HSC.out).mono ?_
      rintro e wd ⟨rfl, h⟩
      have HSD : Hid (Since w wd) := HSC.out.trans h
      clear h
      go_wp2_with fail
      refine (HRB.out _ HSD.out).mono ?_
      rintro e we ⟨rfl, h⟩
      have HSE : Hid (Since w we) := HSD.out.trans h
      clear h
      go_wp2_with fail
      refine (HNA.out _).mono ?_
      rintro e wx ⟨rfl, hx⟩
      rw [hx]
      clear hx wx
      go_wp2_with fail
      refine (HNB.out _).mono ?_
      rintro e wx ⟨rfl, hx⟩
      rw [hx]
      clear hx wx
      have hp4 := HP4.out
      by_cases hn6 : n ≤ 1152921504606846976
      · go_wp2_with fail
        refine (HDA.out _).mono ?_
        rintro e wx ⟨rfl, hx⟩
        rw [hx]
        clear hx wx
        go_wp2_with fail
        refine (HDB.out _).mono ?_
        rintro e wx ⟨rfl, hx⟩
        rw [hx]
        clear hx wx
        rcases hp4 with ⟨rfl, hr⟩ | rfl
        · go_wp2_with fail
          refine (HFA.out hr _ HSE.out).mono ?_
          rintro e wy ⟨x1, rfl, hi1, h⟩
          have HSY : Hid (Since w wy) := HSE.out.trans h
          have HI1 : Hid (Ints wy x1 (freeL l)) := hi1
          obtain ⟨xa, xc, rfl⟩ := hi1.form'
          clear h hi1
          go_wp2_with fail
          refine (HFB.out hr _ HSY.out).mono ?_
          rintro e wz ⟨x2, rfl, hi2, h⟩
          have HSZ : Hid (Since w wz) := HSY.out.trans h
          have HI2 : Hid (Ints wz x2 (freeL l)) := hi2
          have HI1z : Hid (Ints wz (.slice xa (freeL l).length xc) (freeL l)) := HI1.out.since h
          obtain ⟨ya, yc, rfl⟩ := hi2.form'
          clear h hi2
          go_wp2_with fail
          refine (sameInts_any (freeL l) _ _ _ HI1z.out HI2.out HFL.out).mono ?_
          rintro e wj ⟨rfl, nj, hj⟩
          have HSJ : Hid (Since w wj) := by
            show Since w wj
            rw [hj]
            exact HSZ.out.drewN nj
          clear hj
          go_wp2_with fail
          refine (HQ1.out _ HSJ.out).mono ?_
          rintro e wf ⟨rv, rfl, hf1, h⟩
          have HSF : Hid (Since w wf) := HSJ.out.trans h
          have HF1 : Hid (Fls wf rv L) := hf1
          obtain ⟨ra, rc, rfl, _⟩ := hf1.form
          clear h hf1
          go_wp2_with fail
          refine (HQ2.out _ HSF.out).mono ?_
          rintro e wg ⟨ev, rfl, hf2, h⟩
          have HSG : Hid (Since w wg) := HSF.out.trans h
          have HF2 : Hid (Fls wg ev L) := hf2
          have HF1g : Hid (Fls wg (.slice ra L.length rc) L) := HF1.out.since h
          obtain ⟨ea, ec, rfl, _⟩ := hf2.form
          clear h hf2
          go_wp2_with fail
          refine (HQ3.out _ HSG.out).mono ?_
          rintro e wh ⟨rfl, h⟩
          have HSH2 : Hid (Since w wh) := HSG.out.trans h
          have HF1h : Hid (Fls wh (.slice ra L.length rc) L) := HF1g.out.since h
          have HF2h : Hid (Fls wh (.slice ea L.length ec) L) := HF2.out.since h
          clear h
          go_wp2_with fail
          refine (sameFiles_any L _ _ _ HF2h.out HF1h.out HQ4.out.2 HQ4.out.1).mono ?_
          rintro e wi ⟨rfl, h⟩
          go_wp2_with fail
          go_ret
          exact ⟨rfl, HSH2.out.trans h⟩
        · go_wp2_with fail
          refine (HQ1.out _ HSE.out).mono ?_
          rintro e wf ⟨rv, rfl, hf1, h⟩
          have HSF : Hid (Since w wf) := HSE.out.trans h
          have HF1 : Hid (Fls wf rv L) := hf1
          obtain ⟨ra, rc, rfl, _⟩ := hf1.form
          clear h hf1
          go_wp2_with fail
          refine (HQ2.out _ HSF.out).mono ?_
          rintro e wg ⟨ev, rfl, hf2, h⟩
          have HSG : Hid (Since w wg) := HSF.out.trans h
          have HF2 : Hid (Fls wg ev L) := hf2
          have HF1g : Hid (Fls wg (.slice ra L.length rc) L) := HF1.out.since h
          obtain ⟨ea, ec, rfl, _⟩ := hf2.form
          clear h hf2
          go_wp2_with fail
          refine (HQ3.out _ HSG.out).mono ?_
          rintro e wh ⟨rfl, h⟩
          have HSH2 : Hid (Since w wh) := HSG.out.trans h
          have HF1h : Hid (Fls wh (.slice ra L.length rc) L) := HF1g.out.since h
          have HF2h : Hid (Fls wh (.slice ea L.length ec) L) := HF2.out.since h
          clear h
          go_wp2_with fail
          refine (sameFiles_any L _ _ _ HF2h.out HF1h.out HQ4.out.2 HQ4.out.1).mono ?_
          rintro e wi ⟨rfl, h⟩
          go_wp2_with fail
          go_ret
          exact ⟨rfl, HSH2.out.trans h⟩
      · rcases hp4 with ⟨rfl, hr⟩ | rfl
        · go_wp2_with fail
          refine (HFA.out hr _ HSE.out).mono ?_
          rintro e wy ⟨x1, rfl, hi1, h⟩
          have HSY : Hid (Since w wy) := HSE.out.trans h
          have HI1 : Hid (Ints wy x1 (freeL l)) := hi1
          obtain ⟨xa, xc, rfl⟩ := hi1.form'
          clear h hi1
          go_wp2_with fail
          refine (HFB.out hr _ HSY.out).mono ?_
          rintro e wz ⟨x2, rfl, hi2, h⟩
          have HSZ : Hid (Since w wz) := HSY.out.trans h
          have HI2 : Hid (Ints wz x2 (freeL l)) := hi2
          have HI1z : Hid (Ints wz (.slice xa (freeL l).length xc) (freeL l)) := HI1.out.since h
          obtain ⟨ya, yc, rfl⟩ := hi2.form'
          clear h hi2
          go_wp2_with fail
          refine (sameInts_any (freeL l) _ _ _ HI1z.out HI2.out HFL.out).mono ?_
          rintro e wj ⟨rfl, nj, hj⟩
          have HSJ : Hid (Since w wj) := by
            show Since w wj
            rw [hj]
            exact HSZ.out.drewN nj
          clear hj
          go_wp2_with fail
          refine (HQ1.out _ HSJ.out).mono ?_
          rintro e wf ⟨rv, rfl, hf1, h⟩
          have HSF : Hid (Since w wf) := HSJ.out.trans h
          have HF1 : Hid (Fls wf rv L) := hf1
          obtain ⟨ra, rc, rfl, _⟩ := hf1.form
          clear h hf1
          go_wp2_with fail
          refine (HQ2.out _ HSF.out).mono ?_
          rintro e wg ⟨ev, rfl, hf2, h⟩
          have HSG : Hid (Since w wg) := HSF.out.trans h
          have HF2 : Hid (Fls wg ev L) := hf2
          have HF1g : Hid (Fls wg (.slice ra L.length rc) L) := HF1.out.since h
          obtain ⟨ea, ec, rfl, _⟩ := hf2.form
          clear h hf2
          go_wp2_with fail
          refine (HQ3.out _ HSG.out).mono ?_
          rintro e wh ⟨rfl, h⟩
          have HSH2 : Hid (Since w wh) := HSG.out.trans h
          have HF1h : Hid (Fls wh (.slice ra L.length rc) L) := HF1g.out.since h
          have HF2h : Hid (Fls wh (.slice ea L.length ec) L) := HF2.out.since h
          clear h
          go_wp2_with fail
          refine (sameFiles_any L _ _ _ HF2h.out HF1h.out HQ4.out.2 HQ4.out.1).mono ?_
          rintro e wi ⟨rfl, h⟩
          go_wp2_with fail
          go_ret
          exact ⟨rfl, HSH2.out.trans h⟩
        · go_wp2_with fail
          refine (HQ1.out _ HSE.out).mono ?_
          rintro e wf ⟨rv, rfl, hf1, h⟩
          have HSF : Hid (Since w wf) := HSE.out.trans h
          have HF1 : Hid (Fls wf rv L) := hf1
          obtain ⟨ra, rc, rfl, _⟩ := hf1.form
          clear h hf1
          go_wp2_with fail
          refine (HQ2.out _ HSF.out).mono ?_
          rintro e wg ⟨ev, rfl, hf2, h⟩
          have HSG : Hid (Since w wg) := HSF.out.trans h
          have HF2 : Hid (Fls wg ev L) := hf2
          have HF1g : Hid (Fls wg (.slice ra L.length rc) L) := HF1.out.since h
          obtain ⟨ea, ec, rfl, _⟩ := hf2.form
          clear h hf2
          go_wp2_with fail
          refine (HQ3.out _ HSG.out).mono ?_
          rintro e wh ⟨rfl, h⟩
          have HSH2 : Hid (Since w wh) := HSG.out.trans h
          have HF1h : Hid (Fls wh (.slice ra L.length rc) L) := HF1g.out.since h
          have HF2h : Hid (Fls wh (.slice ea L.length ec) L) := HF2.out.since h
          clear h
          go_wp2_with fail
          refine (sameFiles_any L _ _ _ HF2h.out HF1h.out HQ4.out.2 HQ4.out.1).mono ?_
          rintro e wi ⟨rfl, h⟩
          go_wp2_with fail
          go_ret
          exact ⟨rfl, HSH2.out.trans h⟩
    · have hd4 : decide ((400 : Int) < (s.size : Nat)) = true := decide_eq_true (by omega)
      go_wp2_with fail
      go_ret
      exact ⟨rfl, Since.refl _⟩
end En
end Go.Proofs.YtceoamhenpohhaaGreatDoor
