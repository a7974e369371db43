import Derived.BigRegion
import Derived.Deep.RegionHeld3
import Derived.Test.YtifnhnfjelfddaaGreatDoorJ12
import Derived.Test.YtifnhnfjelfddaaGreatDoorJ30
import Derived.Test.YtifnhnfjelfddaaGreatDoorJ33
set_option linter.unusedSimpArgs false
set_option linter.unusedVariables false
section
namespace Go.Proofs.YtifnhnfjelfddaaGreatDoor
set_option maxRecDepth 100000
namespace Vl
open Go.RowKit
open Tw (Tb tcell tval ccell)
theorem vcell_set (db cb : Nat) (kb kt : ByteArray) (T : Tb) (X : Nat → ByteArray) (f : Bool) (i : Nat) (hi : i < 24) (z o : Int) (t : ByteArray) (j : Nat) (hj : j < 102) :
    updv (updv (updv (vcell db cb kb kt T X f) (5 + i * 3) (.int .i64 z)) (5 + i * 3 + 1) (.int .i64 o)) (5 + i * 3 + 2) (.string t) j = vcell db cb kb kt (updT T i z o t) X f j := by
  unfold updv
  by_cases hr : 5 ≤ j ∧ j < 77
  · have e : ∀ U, vcell db cb kb kt U X f j = Tw.tpart U ((j - 5) / 3) ((j - 5) % 3) := fun U => by
      have := vcell_tab db cb kb kt U X f (j - 4) (by omega)
      rw [show 4 + (j - 4) = j by omega] at this
      rw [this]
      unfold tcell
      rw [if_neg (by omega), show j - 4 - 1 = j - 5 by omega]
    rw [e, e]
    by_cases h2 : j = 5 + i * 3 + 2
    · subst h2
      rw [if_pos rfl, show (5 + i * 3 + 2 - 5) / 3 = i by omega, show (5 + i * 3 + 2 - 5) % 3 = 2 by omega]
      simp [Tw.tpart, updT]
    · rw [if_neg h2]
      by_cases h1 : j = 5 + i * 3 + 1
      · subst h1
        rw [if_pos rfl, show (5 + i * 3 + 1 - 5) / 3 = i by omega, show (5 + i * 3 + 1 - 5) % 3 = 1 by omega]
        simp [Tw.tpart, updT]
      · rw [if_neg h1]
        by_cases h0 : j = 5 + i * 3
        · subst h0
          rw [if_pos rfl, show (5 + i * 3 - 5) / 3 = i by omega, show (5 + i * 3 - 5) % 3 = 0 by omega]
          simp [Tw.tpart, updT]
        · rw [if_neg h0]
          have hne : ¬ (j - 5) / 3 = i := by omega
          unfold Tw.tpart updT
          simp only [if_neg hne]
  · rw [if_neg (by omega), if_neg (by omega), if_neg (by omega)]
    unfold vcell
    by_cases h4 : j < 77
    · have h44 : j ≤ 4 := by omega
      by_cases h5 : j = 4
      · subst h5; rfl
      · match j, (show j < 4 by omega) with
        | 0, _ => rfl
        | 1, _ => rfl
        | 2, _ => rfl
        | 3, _ => rfl
    · simp only [if_neg h4]
theorem vcell_setX (db cb : Nat) (kb kt : ByteArray) (T : Tb) (X : Nat → ByteArray) (f : Bool) (i : Nat) (hi : i < 24) (t : ByteArray) (j : Nat) (hj : j < 102) :
    updv (vcell db cb kb kt T X f) (77 + i) (.string t) j = vcell db cb kb kt T (updX X i t) f j := by
  unfold updv
  by_cases e : j = 77 + i
  · subst e
    rw [if_pos rfl, vcell_says _ _ _ _ _ _ _ i hi]
    simp [updX]
  · rw [if_neg e]
    unfold vcell
    by_cases h4 : j < 77
    · simp only [if_pos h4]
    · by_cases h5 : j < 101
      · have hne : ¬ j - 77 = i := by omega
        simp only [if_neg h4, if_pos h5, updX, if_neg hne]
      · simp only [if_neg h4, if_neg h5]
section
variable {w0 w : World} {vb db cb : Nat} {kb kt : ByteArray} {S : Vs} {v : Value}
set_option maxHeartbeats 4000000 in
theorem set_any (i : Nat) (z o : Int) (tag t : ByteArray) (hi : i < 24) (hg : tag.size ≤ 600) (ht : t.size ≤ 600) (h : Vol w0 w vb db cb kb kt S v) :
    Calls Tryz.prog 40 #[.pointer (some ⟨vb, 0, none⟩), .int .i64 (i : Int), .agg #[.int .i64 z, .int .i64 o, .string tag], .string t] w fun e w' => e = .returned (.tuple #[]) ∧ Vto w0 w w' vb db cb kb kt (S.set i z o tag t) v := by
  have hi2 : (i : Int) < 24 := by omega
  have HCT : Hid (∀ W, Calls Tryz.prog 65 #[.string tag] W fun e w' => e = .returned (.string tag) ∧ Since W w') := fun W => Tw.clone_any tag W hg
  have HCX : Hid (∀ W, Calls Tryz.prog 65 #[.string t] W fun e w' => e = .returned (.string t) ∧ Since W w') := fun W => Tw.clone_any t W ht
  have H : Hid (Vol w0 w vb db cb kb kt S v) := h
  have HV : Hid (vb < w.heap.size) := h.cel.lt (by omega)
  clear h hg ht
  have HB : Hid (Cel (w.alloc (.cells #[.int .i64 z, .int .i64 o, .string tag] 89)) w.heap.size 3 (fun j => if j = 0 then .int .i64 z else if j = 1 then .int .i64 o else .string tag)) := Cel.new w _ _ _ _ (fun j hj => by
    match j, hj with
    | 0, _ => rfl
    | 1, _ => rfl
    | 2, _ => rfl) _ rfl
  have HS : Hid (Since w (w.alloc (.cells #[.int .i64 z, .int .i64 o, .string tag] 89))) := (Since.refl w).alloc _
  go_enter Tryz.func40, Tryz.ntmps40
  go_wp2_with fail
  refine (HCT.out _).mono ?_
  rintro e w1 ⟨rfl, h1⟩
  have HB1 : Hid (Cel w1 w.heap.size 3 (fun j => if j = 0 then .int .i64 z else if j = 1 then .int .i64 o else .string tag)) := HB.out.since h1
  have HS1 : Hid (Since w w1) := HS.out.trans h1
  clear h1 HB HS HCT
  have b0 := HB1.out.cell 2 (by omega)
  have b1 := HB1.out.frozen 2 (by omega)
  have HB2 : Hid (Cel (w1.setCell ⟨w.heap.size, 2, none⟩ (.string tag)) w.heap.size 3 (fun j => if j = 0 then .int .i64 z else if j = 1 then .int .i64 o else .string tag)) := (HB1.out.set 2 (by omega) (.string tag)).congr (fun j hj => by
    match j, hj with
    | 0, _ => rfl
    | 1, _ => rfl
    | 2, _ => rfl)
  have HS2 : Hid (Since w (w1.setCell ⟨w.heap.size, 2, none⟩ (.string tag))) := HS1.out.setCell (Nat.le_refl _) _
  go_wp2_with fail
  clear HB1 HS1 b0 b1
  generalize w1.setCell ⟨w.heap.size, 2, none⟩ (.string tag) = w2 at *
  have HD : Hid (Since w2 w2.drew) := (Since.refl w2).drew
  have HB3 : Hid (Cel w2.drew w.heap.size 3 (fun j => if j = 0 then .int .i64 z else if j = 1 then .int .i64 o else .string tag)) := HB2.out.since HD.out
  have HC3 : Hid (Cel w2.drew vb 102 (vcell db cb kb kt S.T S.X S.dead)) := H.out.cel.since (HS2.out.trans HD.out)
  have HC2 : Hid (Cel w2 vb 102 (vcell db cb kb kt S.T S.X S.dead)) := H.out.cel.since HS2.out
  have a0 : w2.cell? ⟨w.heap.size, 0, none⟩ = some (.int .i64 z) := HB2.out.cell 0 (by omega)
  have a1 : w2.cell? ⟨w.heap.size, 1, none⟩ = some (.int .i64 o) := HB2.out.cell 1 (by omega)
  have a2 : w2.cell? ⟨w.heap.size, 2, none⟩ = some (.string tag) := HB2.out.cell 2 (by omega)
  have b0 : w2.drew.cell? ⟨w.heap.size, 0, none⟩ = some (.int .i64 z) := HB3.out.cell 0 (by omega)
  have b1 : w2.drew.cell? ⟨w.heap.size, 1, none⟩ = some (.int .i64 o) := HB3.out.cell 1 (by omega)
  have b2 : w2.drew.cell? ⟨w.heap.size, 2, none⟩ = some (.string tag) := HB3.out.cell 2 (by omega)
  have c0 := HC2.out.cell (5 + i * 3) (by omega)
  have c1 := HC2.out.cell (5 + i * 3 + 1) (by omega)
  have c2 := HC2.out.cell (5 + i * 3 + 2) (by omega)
  have d0 := HC3.out.cell (5 + i * 3) (by omega)
  have d1 := HC3.out.cell (5 + i * 3 + 1) (by omega)
  have d2 := HC3.out.cell (5 + i * 3 + 2) (by omega)
  have f0 := HC2.out.frozen (5 + i * 3) (by omega)
  have f1 := HC2.out.frozen (5 + i * 3 + 1) (by omega)
  have f2 := HC2.out.frozen (5 + i * 3 + 2) (by omega)
  have g0 := HC3.out.frozen (5 + i * 3) (by omega)
  have g1 := HC3.out.frozen (5 + i * 3 + 1) (by omega)
  have g2 := HC3.out.frozen (5 + i * 3 + 2) (by omega)
  clear HB2 HB3 HC2 HC3 HD
  go_region
  have HTO : Hid (Vto w0 w (((w2.setCell ⟨vb, 5 + i * 3, none⟩ (.int .i64 z)).setCell ⟨vb, 5 + i * 3 + 1, none⟩ (.int .i64 o)).setCell ⟨vb, 5 + i * 3 + 2, none⟩ (.string tag)).drew vb db cb kb kt { S with T := updT S.T i z o tag } v) := by
    refine (H.out.to HS2.out).then fun v1 h1 => ?_
    refine Vto.go ?_ (Since.refl _).drew
    exact h1.celTo (T' := updT S.T i z o tag) (X' := S.X) (f' := S.dead) ((((h1.cel.set (5 + i * 3) (by omega) _).set (5 + i * 3 + 1) (by omega) _).set (5 + i * 3 + 2) (by omega) _).congr (fun j hj => vcell_set _ _ _ _ _ _ _ i hi z o tag j hj)) (((Fr.setCell _ _ _ _ _).trans' (Fr.setCell _ _ _ _ _)).trans' (Fr.setCell _ _ _ _ _)) (((h1.ty.setCell _ _).setCell _ _).setCell _ _)
  clear a0 a1 a2 b0 b1 b2 c0 c1 c2 d0 d1 d2 f0 f1 f2 g0 g1 g2 HS2 H
  go_wp2_with fail
  generalize (((w2.setCell ⟨vb, 5 + i * 3, none⟩ (.int .i64 z)).setCell ⟨vb, 5 + i * 3 + 1, none⟩ (.int .i64 o)).setCell ⟨vb, 5 + i * 3 + 2, none⟩ (.string tag)).drew = w3 at *
  obtain ⟨v3, h3, F3⟩ := HTO.out.cont
  have H3 : Hid (Vol w0 w3 vb db cb kb kt { S with T := updT S.T i z o tag } v3) := h3
  have HF3 : Hid (∀ w' S', Vto w0 w3 w' vb db cb kb kt S' v3 → Vto w0 w w' vb db cb kb kt S' v) := F3
  clear h3 F3 HTO
  go_region_held3 (fun _ => True) (trivial) (first
    | (go_simp; go_at_call 65; refine (HCX.out _).mono ?_; rintro e w4 ⟨rfl, h4⟩; have H4 : Hid (Since w3 w4) := (Since.refl w3).drew.trans h4; have k0 := (H3.out.cel.since H4.out).cell (77 + i) (by omega); have k1 := (H3.out.cel.since H4.out).frozen (77 + i) (by omega); clear h4; dsimp only))
  all_goals
    go_wp2_with fail
    go_end0
    refine ⟨rfl, HF3.out _ _ ((H3.out.to H4.out).then fun v5 h5 => ?_)⟩
    exact h5.celTo (T' := updT S.T i z o tag) (X' := updX S.X i t) (f' := S.dead) ((h5.cel.set (77 + i) (by omega) _).congr (fun j hj => vcell_setX _ _ _ _ _ _ _ i hi t j hj)) (Fr.setCell _ _ _ _ _) (h5.ty.setCell _ _)
end
end Vl
end Go.Proofs.YtifnhnfjelfddaaGreatDoor
end
section
namespace Go.Proofs.YtifnhnfjelfddaaGreatDoor
set_option maxRecDepth 100000
namespace Vl
open Go.RowKit
open Tw (Tb tcell tval ccell)
theorem ev0 : ev 0 = .nilIface := by unfold ev; rw [if_pos rfl]
theorem evn (n : Int) (h : n ≠ 0) : ev n = .iface 45 (.int .i64 n) := by unfold ev; rw [if_neg h]
section
variable {w0 w : World} {vb db cb : Nat} {kb kt : ByteArray} {S : Vs} {v : Value}
theorem Vol.tabW (B : Base w0 kb kt) (h : Vol w0 w vb db cb kb kt S v) : Sm.Tab w := B.tab.since h.since
set_option maxHeartbeats 4000000 in
theorem put_any (B : Base w0 kb kt) (i : Nat) (t : ByteArray) (but : Int) (hi : i < 24) (ht : t.size ≤ 80) (h : Vol w0 w vb db cb kb kt S v) :
    Calls Tryz.prog 41 #[.pointer (some ⟨vb, 0, none⟩), .int .i64 (i : Int), .string t, .int .i64 but] w fun e w' => e = .returned (ev (S.put kb i but t).1) ∧ Vto w0 w w' vb db cb kb kt (S.put kb i but t).2 v := by
  have H : Hid (Vol w0 w vb db cb kb kt S v) := h
  have HB : Hid (Base w0 kb kt) := B
  clear h B
  go_enter Tryz.func41, Tryz.ntmps41
  go_wp2_with fail
  refine (at_any H.out).mono ?_
  rintro e w1 ⟨⟨x, rfl, hx⟩, hs⟩
  have HX : Hid (Sp.Ls w1 w1.heap.size x 8 S.atf) := hx
  have HS : Hid (Since w w1) := hs
  clear hx hs
  go_wp2_with fail
  refine (Sp.open_any x 8 _ _ but _ HX.out (by omega)).mono ?_
  rintro e w2 ⟨⟨z, ok, rfl, hr⟩, rfl⟩
  have HR : Hid _ := room_of hr
  clear hr
  rcases HR.out with ⟨rfl, k, rfl, hk⟩ | ⟨rfl, rfl, hk⟩
  · have hk3 := room_some hk
    have HK : Hid (room S.atf but = some k) := hk
    have HK3 : Hid (k < 8 ∧ (k : Int) ≠ but ∧ S.atf k < 16) := hk3
    clear hk hk3 HR
    have H1 : Hid (Vol w0 w2 vb db cb kb kt S v) := H.out.go HS.out
    have q2 := H1.out.c2
    go_wp2_with fail
    have hi0 : (0 : Int) ≤ (i : Int) := by omega
    refine (Sl.seal_ok kb i t _ HB.out.kb (by omega) (by omega) ht (H1.out.tabW HB.out)).mono ?_
    rintro e w3 ⟨rfl, h3⟩
    have H3 : Hid (Vol w0 w3 vb db cb kb kt S v) := H1.out.go h3
    have HS3 : Hid (Since w w3) := HS.out.trans h3
    have q0 := H3.out.c0
    have HZ : Hid ((Sl.sealOf kb i t).size = 109) := Sl.seal_size kb i t
    have HP : Hid (S.put kb i but t = if S.D.may = false then (14, { S with dead := true }) else (0, { S with D := S.D.burnt.app k (Sl.sealOf kb i t), T := updT S.T i k (S.D.cnt k) ((Sl.sealOf kb i t).extract 0 16), X := updX S.X i t })) := by
      show S.put kb i but t = _
      unfold Vs.put
      rw [HK.out]
    clear h3 q2 H1
    generalize Sl.sealOf kb i t = s at *
    have HC16 : Hid (S.D.cnt k < 16) := by
      have := HK3.out.2.2
      unfold Vs.atf at this
      show S.D.cnt k < 16
      omega
    cases hm : S.D.may with
    | false =>
      have HM : Hid (S.D.may = false) := hm
      clear hm
      go_wp2_with fail
      refine (append_spent S.D v db k s _ H3.out.dev HK3.out.1 (by have := HZ.out; omega) HC16.out HM.out).mono ?_
      rintro e w4 ⟨rfl, rfl⟩
      go_wp2_with fail
      have hh := heed_any 14 H3.out
      rw [evn 14 (by decide)] at hh
      refine hh.mono ?_
      clear hh
      rintro e w5 ⟨rfl, h5⟩
      go_wp2_with fail
      go_ret
      refine ⟨?_, ?_⟩
      · rw [HP.out, if_pos HM.out, evn 14 (by decide)]; rfl
      · rw [HP.out, if_pos HM.out]
        have h6 := Vto.pre HS3.out h5
        simpa using h6
    | true =>
      have HM : Hid (S.D.may = true) := hm
      clear hm
      go_wp2_with fail
      refine (append_any S.D v db k s _ H3.out.dev HK3.out.1 (by have := HZ.out; omega) HC16.out HM.out).mono ?_
      rintro e w4 ⟨rfl, hd4, hf4⟩
      have HT4 : Hid (Vto w0 w3 w4 vb db cb kb kt { S with D := S.D.burnt.app k s } v) := H3.out.devTo hd4 (Fr.wide hf4) (Nx.refl _ _)
      clear hd4 hf4
      obtain ⟨v4, h4, F4⟩ := (Vto.pre HS3.out HT4.out).cont
      have H4 : Hid (Vol w0 w4 vb db cb kb kt { S with D := S.D.burnt.app k s } v4) := h4
      have HF4 : Hid (∀ w' S', Vto w0 w4 w' vb db cb kb kt S' v4 → Vto w0 w w' vb db cb kb kt S' v) := F4
      clear h4 F4 HT4
      go_wp2_with fail
      have hh := heed_any 0 H4.out
      rw [ev0] at hh
      refine hh.mono ?_
      clear hh
      rintro e w5 ⟨rfl, h5⟩
      obtain ⟨v5, h6, F5⟩ := h5.cont
      have h66 : Vol w0 w5 vb db cb kb kt { S with D := S.D.burnt.app k s } v5 := by simpa using h6
      have H5 : Hid (Vol w0 w5 vb db cb kb kt { S with D := S.D.burnt.app k s } v5) := h66
      have HF5 : Hid (∀ w' S', Vto w0 w5 w' vb db cb kb kt S' v5 → Vto w0 w w' vb db cb kb kt S' v) := fun w' S' h7 => HF4.out w' S' (F5 w' S' h7)
      clear h5 h6 h66 F5 HF4 H4 q0
      have hs16 : (16 : Int) ≤ s.size := by have := HZ.out; omega
      have HE : Hid ((s.extract 0 16).size ≤ 600) := by
        show (s.extract 0 16).size ≤ 600
        rw [ByteArray.size_extract]; omega
      go_wp2_with fail
      refine (set_any i k (S.D.cnt k) (s.extract 0 16) t hi HE.out (by omega) H5.out).mono ?_
      rintro e w6 ⟨rfl, h7⟩
      go_wp2_with fail
      go_ret
      refine ⟨?_, ?_⟩
      · rw [HP.out, if_neg (by rw [HM.out]; decide), ev0]; rfl
      · rw [HP.out, if_neg (by rw [HM.out]; decide)]
        exact HF5.out _ _ h7
  · have HK : Hid (room S.atf but = none) := hk
    clear hk HR
    go_wp2_with fail
    go_ret
    have HP : S.put kb i but t = (12, S) := by unfold Vs.put; rw [HK.out]
    rw [HP]
    exact ⟨by rw [evn 12 (by decide)]; rfl, H.out.to HS.out⟩
end
end Vl
end Go.Proofs.YtifnhnfjelfddaaGreatDoor
end
