/- The law EntryBack walked. -/
import Derived.Test.YtceoamhenpohhaaDoorEO
namespace Go.Proofs.YtceoamhenpohhaaDoor
set_option linter.unusedSimpArgs false
set_option linter.unusedVariables false
set_option maxRecDepth 100000
namespace En
open Go.RowKit
theorem rightFrom_take : ∀ (l : List Fi) (b : ByteArray) (L : List Int) (k : Nat), rightFrom b L l = true → rightFrom b L (l.take k) = true
  | [], _, _, _, _ => by simp [rightFrom]
  | f :: r, b, L, 0, _ => by simp [rightFrom]
  | f :: r, b, L, k + 1, h => by
    rw [rightFrom, Bool.and_eq_true] at h
    rw [List.take_succ_cons, rightFrom, h.1, rightFrom_take r _ _ k h.2]
    rfl
theorem right_take {l : List Fi} (h : right l = true) (k : Nat) : right (l.take k) = true := by
  rw [right, Bool.and_eq_true, decide_eq_true_eq] at h ⊢
  exact ⟨by rw [List.length_take]; omega, rightFrom_take l _ _ k h.2⟩
theorem cut_print : ∀ (l : List Fi) (c : Nat), (∀ f, f ∈ l → Good f) → c ≤ (print l).length → (c = 0 ∨ (print l)[c - 1]? = some 10) →
    (print l).take c = print (l.take (((print l).take c).count 10)) ∧ ((print l).take c).count 10 ≤ l.length
  | [], c, _, hc, _ => by
    have : print [] = [] := rfl
    rw [this]
    simp [print]
  | f :: r, c, hg, hc, h => by
    have e : print (f :: r) = Lib.join (words f) [32] ++ 10 :: print r := by simp [print, line]
    have h10 := (hg f (by simp)).line10
    rw [e] at hc h ⊢
    generalize Lib.join (words f) [32] = J at *
    by_cases hcJ : c ≤ J.length
    · have hc0 : c = 0 := by
        rcases h with h | h
        · exact h
        · by_cases h0 : c = 0
          · exact h0
          · exfalso
            rw [List.getElem?_append_left (by omega)] at h
            exact h10 (List.mem_of_getElem? h)
      subst hc0
      simp [print]
    · obtain ⟨d, rfl⟩ : ∃ d, c = J.length + (d + 1) := ⟨c - J.length - 1, by omega⟩
      have hd : d ≤ (print r).length := by simp at hc; omega
      have hh : d = 0 ∨ (print r)[d - 1]? = some 10 := by
        by_cases h0 : d = 0
        · exact Or.inl h0
        · refine Or.inr ?_
          rcases h with h | h
          · omega
          · rw [List.getElem?_append_right (by omega), show J.length + (d + 1) - 1 - J.length = (d - 1) + 1 by omega, List.getElem?_cons_succ] at h
            exact h
      obtain ⟨i1, i2⟩ := cut_print r d (fun g hg' => hg g (by simp [hg'])) hd hh
      have et : (J ++ 10 :: print r).take (J.length + (d + 1)) = J ++ 10 :: (print r).take d := by
        rw [List.take_length_add_append, List.take_succ_cons]
      have ec : (J ++ 10 :: (print r).take d).count 10 = ((print r).take d).count 10 + 1 := by
        rw [List.count_append, List.count_eq_zero.2 h10, List.count_cons_self]
        omega
      rw [et, ec, List.take_succ_cons]
      refine ⟨?_, by simp; omega⟩
      rw [show print (f :: r.take (((print r).take d).count 10)) = line f ++ print (r.take (((print r).take d).count 10)) by simp [print], ← i1]
      have el : line f = J ++ [10] := by
        have : print (f :: r) = line f ++ print r := by simp [print]
        rw [e] at this
        have h2 : (J ++ [10]) ++ print r = line f ++ print r := by rw [← this]; simp
        exact (List.append_cancel_right h2).symm
      rw [el]
      simp
theorem print_last : ∀ (l : List Fi), print l = [] ∨ (print l)[(print l).length - 1]? = some 10 := by
  intro l
  by_cases h : l = []
  · subst h; exact Or.inl rfl
  · refine Or.inr ?_
    have e : print l = print l.dropLast ++ line (l.getLast h) := by
      have := List.dropLast_concat_getLast h
      have h2 : print (l.dropLast ++ [l.getLast h]) = print l.dropLast ++ line (l.getLast h) := by simp [print]
      rw [this] at h2
      exact h2
    have e2 : print l = (print l.dropLast ++ Lib.join (words (l.getLast h)) [32]) ++ [10] := by
      rw [e]; simp [line]
    rw [e2]
    simp
theorem cut_none {l : List Fi} {c : Nat} (hc : c ≤ (print l).length) (h0 : 0 < c) (h : (print l)[c - 1]? ≠ some 10) : parse ((print l).take c) = none := by
  cases hp : parse ((print l).take c) with
  | none => rfl
  | some m =>
    exfalso
    have h1 := (parse_iff _ _).1 hp
    have hlen : (print m).length = c := by rw [h1.2, List.length_take]; omega
    rcases print_last m with h2 | h2
    · rw [h2] at hlen; simp at hlen; omega
    · rw [hlen, h1.2, List.getElem?_take_of_lt (by omega)] at h2
      exact h h2
theorem pick_any (a : Int) (n : Nat) (w : World) (h0 : -9223372036854775808 ≤ a) (h1 : a ≤ 9223372036854775807) (hn : 0 < n) (hn2 : n ≤ 1000) :
    Calls Tryd.prog 11 #[.int .i64 a, .int .i64 n] w fun e w' => (∃ k : Nat, k < n ∧ e = .returned (.int .i64 k)) ∧ w' = w := by
  have hnz : ¬ (n : Int) = 0 := by omega
  have hw : IntKind.u64.wrap (n : Int) = n := by
    simp [IntKind.wrap, IntKind.bits, IntKind.signed]
    omega
  go_enter Tryd.func11, Tryd.ntmps11
  go_wp2_with fail
  go_ret
  have e1 : IntKind.u64.wrap a = a % 18446744073709551616 := by simp [IntKind.wrap, IntKind.bits, IntKind.signed]
  have h2 : 0 ≤ (IntKind.u64.wrap a).tmod n ∧ (IntKind.u64.wrap a).tmod n < n := by
    rw [e1, Int.tmod_eq_emod_of_nonneg (by omega)]
    exact ⟨Int.emod_nonneg _ (by omega), Int.emod_lt_of_pos _ (by omega)⟩
  have e3 : wrap64 ((IntKind.u64.wrap a).tmod n) = ((((IntKind.u64.wrap a).tmod n).toNat : Nat) : Int) := by
    unfold wrap64
    omega
  exact ⟨⟨((IntKind.u64.wrap a).tmod n).toNat, by omega, congrArg (fun x => Ending.returned (Value.int .i64 x)) e3⟩, rfl⟩
theorem good_sized {l : List Fi} (h : ∀ f, f ∈ l → Good f) : Sized l := fun f hf => ⟨by have := (h f hf).sz0; omega, by have := (h f hf).sz1; omega⟩
theorem Fls.take {w : World} {a : Option Addr} {c : Nat} {l : List Fi} (h : Fls w (.slice a l.length c) l) (k : Nat) (hk : k ≤ l.length) : Fls w (.slice a k c) (l.take k) := by
  have hlen : (l.take k).length = k := by rw [List.length_take]; omega
  obtain ⟨a', c', hv, hc, hh⟩ := h
  injection hv with e1 e2 e3
  subst e1 e3
  refine ⟨a, c, by rw [hlen], by omega, fun hp => ?_⟩
  obtain ⟨kb, o, ha, hkb, hcell⟩ := hh (by omega)
  exact ⟨kb, o, ha, hkb, fun j f hj => hcell j f (by rw [List.getElem?_take] at hj; split at hj; exact hj; cases hj)⟩
set_option maxHeartbeats 8000000 in
theorem back_go (l : List Fi) (v : Value) (s : ByteArray) (cut : Int) (w : World) (hl : Fls w v l) (hz : Sized l) (hb : Lb w) (hcut : -9223372036854775808 ≤ cut ∧ cut ≤ 9223372036854775807) :
    Calls Tryd.prog 3 #[v, .string s, .int .i64 cut] w fun e w' => e = .returned (.bool true) ∧ Since w w' := by
  obtain ⟨a, c, rfl, hc⟩ := hl.form
  have HL : Hid (Fls w (.slice a l.length c) l) := hl
  have HZ : Hid (Sized l) := hz
  have HB : Hid (Lb w) := hb
  have HCUT : Hid (-9223372036854775808 ≤ cut ∧ cut ≤ 9223372036854775807) := hcut
  clear hl hz hb hcut
  go_enter Tryd.func3, Tryd.ntmps3
  go_wp2_with fail
  refine (held_any l _ _ HL.out).mono ?_
  rintro e w1 ⟨⟨bh, rfl⟩, h1⟩
  have HS1 : Hid (Since w w1) := h1
  clear h1
  cases bh with
  | false =>
    go_wp2_with fail
    go_ret
    exact ⟨rfl, HS1.out⟩
  | true =>
    by_cases h400 : (400 : Int) < (s.size : Nat)
    · have hd : decide ((400 : Int) < (s.size : Nat)) = true := decide_eq_true h400
      clear h400
      go_wp2_with fail
      go_ret
      exact ⟨rfl, HS1.out⟩
    · have hd : decide ((400 : Int) < (s.size : Nat)) = false := decide_eq_false h400
      have hs4 : s.size ≤ 400 := by omega
      clear h400
      go_wp2_with fail
      refine (entered_any _ (HB.out.since HS1.out)).mono ?_
      rintro e w2 ⟨rfl, h2⟩
      have HS2 : Hid (Since w w2) := HS1.out.trans h2
      clear h2
      go_wp2_with fail
      refine (parse_any s (by omega) _ (HB.out.since HS2.out)).mono ?_
      rintro e w3 ⟨he, h3⟩
      have HS3 : Hid (Since w w3) := HS2.out.trans h3
      clear h3
      rcases he with ⟨m, mv, hp, rfl, hf⟩ | ⟨hp, rfl⟩
      · have hri := (parse_iff _ _).1 hp
        have hpy := print_yes m mv w3 hf (good_sized (right_good hri.1)) (HB.out.since HS3.out) hri.1
        rw [hri.2] at hpy
        obtain ⟨ma, mc, rfl, _⟩ := hf.form
        clear hf hp hri
        have hsb : (⟨s.data.toList.toArray⟩ : ByteArray) = s := by cases s; simp
        rw [hsb] at hpy
        have hst : (s.data.toList == s.data.toList) = true := by simp
        have hst2 : (s.toList == s.toList) = true := by simp
        clear hsb
        go_wp2_with fail
        refine hpy.mono ?_
        rintro e w4 ⟨rfl, h4⟩
        have HSX : Hid (Since w w4) := HS3.out.trans h4
        clear h4 hpy
        go_upto_region 10 with fail
        cases hrt : right l with
        | false =>
          have hrn := fun W hW => right_any l (.slice a l.length c) W hW HZ.out
          rw [hrt] at hrn
          have HRN : Hid (∀ W, Fls W (.slice a l.length c) l → Calls Tryd.prog 9 #[.slice a l.length c] W fun e w' => e = .returned (.bool false) ∧ Since W w') := hrn
          go_wp2_with fail
          refine (print_no l _ _ (HL.out.since HSX.out) HZ.out hrt).mono ?_
          rintro e w5 ⟨rfl, h5⟩
          have HS5 : Hid (Since w w5) := HSX.out.trans h5
          clear h5 hrt hrn
          unfold errV
          go_wp2_with fail
          refine (HRN.out _ (HL.out.since HS5.out)).mono ?_
          rintro e w6 ⟨rfl, h6⟩
          go_wp2_with fail
          go_ret
          exact ⟨rfl, HS5.out.trans h6⟩
        | true =>
          have HR : Hid (right l = true) := hrt
          have HG : Hid (∀ f, f ∈ l → Good f) := right_good hrt
          have HP2 : Hid ((print l).length ≤ 200) := print_fits hrt
          have hl8 : l.length ≤ 8 := by rw [right, Bool.and_eq_true, decide_eq_true_eq] at hrt; exact hrt.1
          clear hrt
          go_wp2_with fail
          refine (print_yes l _ _ (HL.out.since HSX.out) HZ.out (HB.out.since HSX.out) HR.out).mono ?_
          rintro e w5 ⟨rfl, h5⟩
          have HS5 : Hid (Since w w5) := HSX.out.trans h5
          clear h5
          have HTD : Hid ((⟨(print l).toArray⟩ : ByteArray).data.toList = print l) := by show (⟨(print l).toArray⟩ : ByteArray).data.toList = print l; simp
          have HTS : Hid ((⟨(print l).toArray⟩ : ByteArray).size = (print l).length) := List.size_toArray
          generalize (⟨(print l).toArray⟩ : ByteArray) = T at *
          have hT2 : T.size ≤ 200 := by rw [HTS.out]; exact HP2.out
          have HPT : Hid (parse T.data.toList = some l) := by
            show parse T.data.toList = some l
            rw [HTD.out]
            exact (parse_iff _ _).2 ⟨HR.out, rfl⟩
          have hpa := parse_any T (by omega) w5 (HB.out.since HS5.out)
          rw [HPT.out] at hpa
          go_wp2_with fail
          refine hpa.mono ?_
          rintro e w6 ⟨he6, h6⟩
          obtain ⟨mv, rfl, hmf⟩ : ∃ v, e = .returned (.tuple #[v, .nilIface]) ∧ Fls w6 v l := by
            rcases he6 with ⟨l', v, hl', he', hf'⟩ | ⟨hl', _⟩
            · injection hl' with hl'
              subst hl'
              exact ⟨v, he', hf'⟩
            · cases hl'
          have HS6 : Hid (Since w w6) := HS5.out.trans h6
          have HMF : Hid (Fls w6 mv l) := hmf
          obtain ⟨ma, mc, rfl, _⟩ := hmf.form
          clear h6 hpa he6 hmf
          have HCS : Hid (∀ f, f ∈ l → f.cs.length ≤ 100000) := fun f hf => by have := (HG.out f hf).cs_le; omega
          go_wp2_with fail
          refine (same_any l _ _ _ HMF.out (HL.out.since HS6.out) HCS.out (by omega)).mono ?_
          rintro e w7 ⟨rfl, h7⟩
          have HS7 : Hid (Since w w7) := HS6.out.trans h7
          clear h7
          go_wp2_with fail
          refine (pick_any cut (T.size + 1) _ HCUT.out.1 HCUT.out.2 (by omega) (by omega)).mono ?_
          rintro e w8 ⟨⟨k, hk, rfl⟩, hw8⟩
          rw [hw8]
          clear hw8 w8
          have hkI : (k : Int) ≤ (T.size : Nat) := by omega
          have HEX : Hid ((T.extract 0 k).data.toList = (print l).take k) := by
            show (T.extract 0 k).data.toList = _
            rw [Lib.extract_from_zero, HTD.out]
          have hexs : (T.extract 0 k).size ≤ 1000 := by rw [ByteArray.size_extract]; omega
          have hpb := parse_any (T.extract 0 k) hexs w7 (HB.out.since HS7.out)
          rw [HEX.out] at hpb
          have HKL : Hid (k ≤ (print l).length) := by
            have := HTS.out
            show k ≤ (print l).length
            omega
          have HBY : Hid (∀ h : k - 1 < T.size, (print l)[k - 1]? = some T[k - 1]) := fun h => by
            rw [← HTD.out, List.getElem?_eq_getElem (by rw [Array.length_toList]; exact h), Array.getElem_toList]
            rfl
          go_wp2_with fail
          refine hpb.mono ?_
          rintro e w9 ⟨he9, h9⟩
          have HS9 : Hid (Since w w9) := HS7.out.trans h9
          clear h9 hpb
          by_cases hend : k = 0 ∨ (print l)[k - 1]? = some 10
          · have hcp := cut_print l k HG.out HKL.out hend
            have hpk : parse ((print l).take k) = some (l.take (((print l).take k).count 10)) := (parse_iff _ _).2 ⟨right_take HR.out _, hcp.1.symm⟩
            rw [hpk] at he9
            obtain ⟨mv2, rfl, hmf2⟩ : ∃ v, e = .returned (.tuple #[v, .nilIface]) ∧ Fls w9 v (l.take (((print l).take k).count 10)) := by
              rcases he9 with ⟨l', v, hl', he', hf'⟩ | ⟨hl', _⟩
              · injection hl' with hl'
                subst hl'
                exact ⟨v, he', hf'⟩
              · cases hl'
            have HMF2 : Hid (Fls w9 mv2 (l.take (((print l).take k).count 10))) := hmf2
            have HCL : Hid (((print l).take k).count 10 ≤ l.length) := hcp.2
            obtain ⟨ma2, mc2, rfl, _⟩ := hmf2.form
            clear he9 hmf2 hcp hpk
            have hcnt := Tryd.strings_Count_one (T.extract 0 k) 10
            have HCT : Hid ((Lib.countByte (T.extract 0 k).data.toList 10 : Nat) = ((print l).take k).count 10) := by
              show Lib.countByte _ _ = _
              rw [HEX.out]
              rfl
            rw [HCT.out] at hcnt
            generalize ((print l).take k).count 10 = q at *
            have hq1 : (q : Int) ≤ l.length := by have := HCL.out; omega
            have hq2 : (q : Int) ≤ c := by omega
            have HFT : Hid (Fls w9 (.slice a q c) (l.take q)) := (HL.out.since HS9.out).take q HCL.out
            have HCS2 : Hid (∀ f, f ∈ l.take q → f.cs.length ≤ 100000) := fun f hf => HCS.out f (List.mem_of_mem_take hf)
            have hsm := fun W (h1 : Fls W (.slice ma2 (l.take q).length mc2) (l.take q)) (h2 : Fls W (.slice a q c) (l.take q)) => same_any (l.take q) _ _ W h1 h2 HCS2.out (by rw [List.length_take]; omega)
            have HSM : Hid (∀ W, Fls W (.slice ma2 (l.take q).length mc2) (l.take q) → Fls W (.slice a q c) (l.take q) → Calls Tryd.prog 10 #[.slice ma2 (l.take q).length mc2, .slice a q c] W fun e w' => e = .returned (.bool true) ∧ Since W w') := hsm
            clear hsm
            generalize (l.take q).length = ql at *
            by_cases hk0 : k = 0
            · have hkd : decide (0 < k) = false := decide_eq_false (by omega)
              clear hk0 hend
              go_wp2_with (go_at_call 12; refine (hcnt _).mono ?_; rintro e w' ⟨rfl, rfl⟩)
              refine (HSM.out _ HMF2.out HFT.out).mono ?_
              rintro e w10 ⟨rfl, h10⟩
              go_wp2_with fail
              go_ret
              exact ⟨rfl, HS9.out.trans h10⟩
            · have hkd : decide (0 < k) = true := decide_eq_true (by omega)
              have hkt : k - 1 < T.size := by omega
              have hb10 : T[k - 1] = 10 := by
                rcases hend with h | h
                · exact absurd h hk0
                · have := HBY.out hkt
                  rw [h] at this
                  injection this with this
                  exact this.symm
              clear hend
              go_wp2_with (go_at_call 12; refine (hcnt _).mono ?_; rintro e w' ⟨rfl, rfl⟩)
              refine (HSM.out _ HMF2.out HFT.out).mono ?_
              rintro e w10 ⟨rfl, h10⟩
              go_wp2_with fail
              go_ret
              exact ⟨rfl, HS9.out.trans h10⟩
          · have hpn : parse ((print l).take k) = none := by
              have hk0 : 0 < k := by
                by_cases h : k = 0
                · exact absurd (Or.inl h) hend
                · omega
              exact cut_none HKL.out hk0 (fun h => hend (Or.inr h))
            rw [hpn] at he9
            have he9' : e = .returned (.tuple #[.slice none 0 0, errV 3]) := by
              rcases he9 with ⟨l', v, hl', _⟩ | ⟨_, h⟩
              · cases hl'
              · exact h
            subst he9'
            have hk0 : 0 < k := by
              by_cases h : k = 0
              · exact absurd (Or.inl h) hend
              · omega
            have hkd : decide (0 < k) = true := decide_eq_true (by omega)
            have hkt : k - 1 < T.size := by omega
            have hbn : (((T[k - 1].toNat : Nat) : Int) != 10) = true := by
              have h1 := HBY.out hkt
              have h2 : T[k - 1] ≠ 10 := fun e => hend (Or.inr (by rw [h1, e]))
              have h3 : ¬ ((T[k - 1].toNat : Nat) : Int) = 10 := fun e => h2 (UInt8.toNat_inj.1 (by rw [show (10 : UInt8).toNat = 10 from rfl]; omega))
              simpa using h3
            clear he9 hpn hend
            unfold errV
            go_wp2_with fail
            go_ret
            exact ⟨rfl, HS9.out⟩
      · have HSX : Hid (Since w w3) := HS3.out
        clear hp
        unfold errV
        go_upto_region 10 with fail
        cases hrt : right l with
        | false =>
          have hrn := fun W hW => right_any l (.slice a l.length c) W hW HZ.out
          rw [hrt] at hrn
          have HRN : Hid (∀ W, Fls W (.slice a l.length c) l → Calls Tryd.prog 9 #[.slice a l.length c] W fun e w' => e = .returned (.bool false) ∧ Since W w') := hrn
          go_wp2_with fail
          refine (print_no l _ _ (HL.out.since HSX.out) HZ.out hrt).mono ?_
          rintro e w5 ⟨rfl, h5⟩
          have HS5 : Hid (Since w w5) := HSX.out.trans h5
          clear h5 hrt hrn
          unfold errV
          go_wp2_with fail
          refine (HRN.out _ (HL.out.since HS5.out)).mono ?_
          rintro e w6 ⟨rfl, h6⟩
          go_wp2_with fail
          go_ret
          exact ⟨rfl, HS5.out.trans h6⟩
        | true =>
          have HR : Hid (right l = true) := hrt
          have HG : Hid (∀ f, f ∈ l → Good f) := right_good hrt
          have HP2 : Hid ((print l).length ≤ 200) := print_fits hrt
          have hl8 : l.length ≤ 8 := by rw [right, Bool.and_eq_true, decide_eq_true_eq] at hrt; exact hrt.1
          clear hrt
          go_wp2_with fail
          refine (print_yes l _ _ (HL.out.since HSX.out) HZ.out (HB.out.since HSX.out) HR.out).mono ?_
          rintro e w5 ⟨rfl, h5⟩
          have HS5 : Hid (Since w w5) := HSX.out.trans h5
          clear h5
          have HTD : Hid ((⟨(print l).toArray⟩ : ByteArray).data.toList = print l) := by show (⟨(print l).toArray⟩ : ByteArray).data.toList = print l; simp
          have HTS : Hid ((⟨(print l).toArray⟩ : ByteArray).size = (print l).length) := List.size_toArray
          generalize (⟨(print l).toArray⟩ : ByteArray) = T at *
          have hT2 : T.size ≤ 200 := by rw [HTS.out]; exact HP2.out
          have HPT : Hid (parse T.data.toList = some l) := by
            show parse T.data.toList = some l
            rw [HTD.out]
            exact (parse_iff _ _).2 ⟨HR.out, rfl⟩
          have hpa := parse_any T (by omega) w5 (HB.out.since HS5.out)
          rw [HPT.out] at hpa
          go_wp2_with fail
          refine hpa.mono ?_
          rintro e w6 ⟨he6, h6⟩
          obtain ⟨mv, rfl, hmf⟩ : ∃ v, e = .returned (.tuple #[v, .nilIface]) ∧ Fls w6 v l := by
            rcases he6 with ⟨l', v, hl', he', hf'⟩ | ⟨hl', _⟩
            · injection hl' with hl'
              subst hl'
              exact ⟨v, he', hf'⟩
            · cases hl'
          have HS6 : Hid (Since w w6) := HS5.out.trans h6
          have HMF : Hid (Fls w6 mv l) := hmf
          obtain ⟨ma, mc, rfl, _⟩ := hmf.form
          clear h6 hpa he6 hmf
          have HCS : Hid (∀ f, f ∈ l → f.cs.length ≤ 100000) := fun f hf => by have := (HG.out f hf).cs_le; omega
          go_wp2_with fail
          refine (same_any l _ _ _ HMF.out (HL.out.since HS6.out) HCS.out (by omega)).mono ?_
          rintro e w7 ⟨rfl, h7⟩
          have HS7 : Hid (Since w w7) := HS6.out.trans h7
          clear h7
          go_wp2_with fail
          refine (pick_any cut (T.size + 1) _ HCUT.out.1 HCUT.out.2 (by omega) (by omega)).mono ?_
          rintro e w8 ⟨⟨k, hk, rfl⟩, hw8⟩
          rw [hw8]
          clear hw8 w8
          have hkI : (k : Int) ≤ (T.size : Nat) := by omega
          have HEX : Hid ((T.extract 0 k).data.toList = (print l).take k) := by
            show (T.extract 0 k).data.toList = _
            rw [Lib.extract_from_zero, HTD.out]
          have hexs : (T.extract 0 k).size ≤ 1000 := by rw [ByteArray.size_extract]; omega
          have hpb := parse_any (T.extract 0 k) hexs w7 (HB.out.since HS7.out)
          rw [HEX.out] at hpb
          have HKL : Hid (k ≤ (print l).length) := by
            have := HTS.out
            show k ≤ (print l).length
            omega
          have HBY : Hid (∀ h : k - 1 < T.size, (print l)[k - 1]? = some T[k - 1]) := fun h => by
            rw [← HTD.out, List.getElem?_eq_getElem (by rw [Array.length_toList]; exact h), Array.getElem_toList]
            rfl
          go_wp2_with fail
          refine hpb.mono ?_
          rintro e w9 ⟨he9, h9⟩
          have HS9 : Hid (Since w w9) := HS7.out.trans h9
          clear h9 hpb
          by_cases hend : k = 0 ∨ (print l)[k - 1]? = some 10
          · have hcp := cut_print l k HG.out HKL.out hend
            have hpk : parse ((print l).take k) = some (l.take (((print l).take k).count 10)) := (parse_iff _ _).2 ⟨right_take HR.out _, hcp.1.symm⟩
            rw [hpk] at he9
            obtain ⟨mv2, rfl, hmf2⟩ : ∃ v, e = .returned (.tuple #[v, .nilIface]) ∧ Fls w9 v (l.take (((print l).take k).count 10)) := by
              rcases he9 with ⟨l', v, hl', he', hf'⟩ | ⟨hl', _⟩
              · injection hl' with hl'
                subst hl'
                exact ⟨v, he', hf'⟩
              · cases hl'
            have HMF2 : Hid (Fls w9 mv2 (l.take (((print l).take k).count 10))) := hmf2
            have HCL : Hid (((print l).take k).count 10 ≤ l.length) := hcp.2
            obtain ⟨ma2, mc2, rfl, _⟩ := hmf2.form
            clear he9 hmf2 hcp hpk
            have hcnt := Tryd.strings_Count_one (T.extract 0 k) 10
            have HCT : Hid ((Lib.countByte (T.extract 0 k).data.toList 10 : Nat) = ((print l).take k).count 10) := by
              show Lib.countByte _ _ = _
              rw [HEX.out]
              rfl
            rw [HCT.out] at hcnt
            generalize ((print l).take k).count 10 = q at *
            have hq1 : (q : Int) ≤ l.length := by have := HCL.out; omega
            have hq2 : (q : Int) ≤ c := by omega
            have HFT : Hid (Fls w9 (.slice a q c) (l.take q)) := (HL.out.since HS9.out).take q HCL.out
            have HCS2 : Hid (∀ f, f ∈ l.take q → f.cs.length ≤ 100000) := fun f hf => HCS.out f (List.mem_of_mem_take hf)
            have hsm := fun W (h1 : Fls W (.slice ma2 (l.take q).length mc2) (l.take q)) (h2 : Fls W (.slice a q c) (l.take q)) => same_any (l.take q) _ _ W h1 h2 HCS2.out (by rw [List.length_take]; omega)
            have HSM : Hid (∀ W, Fls W (.slice ma2 (l.take q).length mc2) (l.take q) → Fls W (.slice a q c) (l.take q) → Calls Tryd.prog 10 #[.slice ma2 (l.take q).length mc2, .slice a q c] W fun e w' => e = .returned (.bool true) ∧ Since W w') := hsm
            clear hsm
            generalize (l.take q).length = ql at *
            by_cases hk0 : k = 0
            · have hkd : decide (0 < k) = false := decide_eq_false (by omega)
              clear hk0 hend
              go_wp2_with (go_at_call 12; refine (hcnt _).mono ?_; rintro e w' ⟨rfl, rfl⟩)
              refine (HSM.out _ HMF2.out HFT.out).mono ?_
              rintro e w10 ⟨rfl, h10⟩
              go_wp2_with fail
              go_ret
              exact ⟨rfl, HS9.out.trans h10⟩
            · have hkd : decide (0 < k) = true := decide_eq_true (by omega)
              have hkt : k - 1 < T.size := by omega
              have hb10 : T[k - 1] = 10 := by
                rcases hend with h | h
                · exact absurd h hk0
                · have := HBY.out hkt
                  rw [h] at this
                  injection this with this
                  exact this.symm
              clear hend
              go_wp2_with (go_at_call 12; refine (hcnt _).mono ?_; rintro e w' ⟨rfl, rfl⟩)
              refine (HSM.out _ HMF2.out HFT.out).mono ?_
              rintro e w10 ⟨rfl, h10⟩
              go_wp2_with fail
              go_ret
              exact ⟨rfl, HS9.out.trans h10⟩
          · have hpn : parse ((print l).take k) = none := by
              have hk0 : 0 < k := by
                by_cases h : k = 0
                · exact absurd (Or.inl h) hend
                · omega
              exact cut_none HKL.out hk0 (fun h => hend (Or.inr h))
            rw [hpn] at he9
            have he9' : e = .returned (.tuple #[.slice none 0 0, errV 3]) := by
              rcases he9 with ⟨l', v, hl', _⟩ | ⟨_, h⟩
              · cases hl'
              · exact h
            subst he9'
            have hk0 : 0 < k := by
              by_cases h : k = 0
              · exact absurd (Or.inl h) hend
              · omega
            have hkd : decide (0 < k) = true := decide_eq_true (by omega)
            have hkt : k - 1 < T.size := by omega
            have hbn : (((T[k - 1].toNat : Nat) : Int) != 10) = true := by
              have h1 := HBY.out hkt
              have h2 : T[k - 1] ≠ 10 := fun e => hend (Or.inr (by rw [h1, e]))
              have h3 : ¬ ((T[k - 1].toNat : Nat) : Int) = 10 := fun e => h2 (UInt8.toNat_inj.1 (by rw [show (10 : UInt8).toNat = 10 from rfl]; omega))
              simpa using h3
            clear he9 hpn hend
            unfold errV
            go_wp2_with fail
            go_ret
            exact ⟨rfl, HS9.out⟩
end En
end Go.Proofs.YtceoamhenpohhaaDoor
