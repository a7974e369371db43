/- crash of a zone. -/
import Derived.Test.YtjfhggcjdckfgaaDoorZ12a
import Derived.BigRegion
namespace Go.Proofs.YtjfhggcjdckfgaaDoor
set_option linter.unusedSimpArgs false
set_option linter.unusedVariables false
open Go.RowKit
set_option maxRecDepth 100000 in
set_option maxHeartbeats 1000000 in
theorem crash1_neg (b o c s n : Nat) (keep : Int) (f : Nat → Value) (w : World) (hc : Cel w b n f) (hn : o + 2050 ≤ n) (hcnt : f (o + 2048) = .int .i64 c) (hsr : f (o + 2049) = .int .i64 s) (hc16 : c ≤ 16) (hs : s ≤ c) (h0 : keep < 0) :
    Calls Tryd.prog 109 #[.pointer (some ⟨b, o, none⟩), .int .i64 keep] w fun e w' => e = .returned (.tuple #[]) ∧ Cel w' b n (crashed f o (kept1 c s keep)) ∧ Fr b none w w' := by
  have hcd := hc.since (Since.refl w).drew
  have c1 := hcd.cell (o + 2048) (by omega)
  have f1 := hcd.frozen (o + 2048) (by omega)
  rw [hcnt] at c1
  have c2 := hcd.cell (o + 2049) (by omega)
  rw [hsr] at c2
  have g0 : (0 : Int) ≤ c - s := by omega
  have g1 : ¬ (c : Int) - s < 0 := by omega
  have ek : kept1 c s keep = s := by unfold kept1; omega
  rw [ek]
  clear hcd
  go_enter Tryd.func109, Tryd.ntmps109
  go_wp2_with fail
  go_region
  have hC1 : Cel (w.setCell ⟨b, o + 2048, none⟩ (.int .i64 (s : Nat))).drew b n (updv f (o + 2048) (.int .i64 (s : Nat))) := (hc.set (o + 2048) (by omega) _).since (Since.refl _).drew
  have hF1 : Fr b none w (w.setCell ⟨b, o + 2048, none⟩ (.int .i64 (s : Nat))).drew := (Fr.setCell _ _ _ _ _).trans' (Fr.of_since (Since.refl _).drew)
  have HC := (show Hid _ from hc)
  clear hc c1 f1 c2
  generalize (w.setCell ⟨b, o + 2048, none⟩ (.int .i64 ((s : Nat) : Int))).drew = w1 at *
  have q1 := hC1.cell (o + 2048) (by omega)
  have q2 := hC1.cell (o + 2049) (by omega)
  have p2 := hC1.frozen (o + 2049) (by omega)
  rw [show updv f (o + 2048) (.int .i64 ((s : Nat) : Int)) (o + 2048) = .int .i64 ((s : Nat) : Int) by unfold updv; rw [if_pos rfl]] at q1
  have hC2 := hC1.set (o + 2049) (by omega) (.int .i64 ((s : Nat) : Int))
  have hF2 := hF1.trans' (Fr.setCell b none (o + 2049) w1 (.int .i64 ((s : Nat) : Int)))
  have HC1 := (show Hid _ from hC1)
  clear hC1 hF1
  generalize hq : s = q at *
  have hq16 : q ≤ 16 := by omega
  have HQ := (show Hid _ from hq)
  clear hq
  go_wp2_with fail
  generalize w1.setCell ⟨b, o + 2049, none⟩ (.int .i64 (q : Int)) = w2 at *
  clear q1 q2 p2
  have hC3 := hC2.since (Since.refl _).drew
  have q3 := hC3.cell (o + 2048) (by omega)
  rw [show updv (updv f (o + 2048) (.int .i64 (q : Int))) (o + 2049) (.int .i64 (q : Int)) (o + 2048) = .int .i64 (q : Int) by unfold updv; rw [if_neg (by omega), if_pos rfl]] at q3
  have q4 : (q : Int) ≤ 16 := by omega
  have HC3 := (show Hid _ from hC3)
  have HF2 := (show Hid _ from hF2)
  by_cases h16 : q = 16
  · have hcl := clear_any w2.drew 0 b o 0 0 n _ hC3 (by omega)
    clear hC3 hC2 hF2 HC HC1 hcnt hsr ek g0 g1 hs h0 hc16
    (try clear h1)
    (try clear g2)
    have HQ2 := (show Hid _ from HQ.out.trans h16)
    clear HQ
    subst h16
    go_region
    go_wp2_with fail
    go_end0
    exact ⟨rfl, by rw [HQ2.out]; exact (HC3.out.setRow _ _ (by omega) _).congr (fun j hj => by unfold crashed updl; rw [if_neg (by omega), if_neg (by omega)]), (HF2.out.trans' (Fr.of_since (Since.refl _).drew)).trans' (Fr.setCells _ _ _ _ _)⟩
  · have h17 : ¬ 16 = q := by omega
    have hcl := clear_any w2.drew 0 b (o + q * 128) (16 - q) (16 - q) n _ hC3 (by omega)
    clear hC3 hC2 hF2 HC HC1 hcnt hsr ek g0 g1 hs h0 hc16
    (try clear h1)
    (try clear g2)
    have HH := (show Hid _ from h16)
    go_region
    go_wp2_with fail
    go_end0
    exact ⟨rfl, by rw [HQ.out]; exact HC3.out.setRow _ _ (by omega) _, (HF2.out.trans' (Fr.of_since (Since.refl _).drew)).trans' (Fr.setCells _ _ _ _ _)⟩
set_option maxRecDepth 100000 in
set_option maxHeartbeats 1000000 in
theorem crash1_few (b o c s n : Nat) (keep : Int) (f : Nat → Value) (w : World) (hc : Cel w b n f) (hn : o + 2050 ≤ n) (hcnt : f (o + 2048) = .int .i64 c) (hsr : f (o + 2049) = .int .i64 s) (hc16 : c ≤ 16) (hs : s ≤ c) (h0 : 0 ≤ keep) (h1 : keep ≤ c - s) :
    Calls Tryd.prog 109 #[.pointer (some ⟨b, o, none⟩), .int .i64 keep] w fun e w' => e = .returned (.tuple #[]) ∧ Cel w' b n (crashed f o (kept1 c s keep)) ∧ Fr b none w w' := by
  have hcd := hc.since (Since.refl w).drew
  have c1 := hcd.cell (o + 2048) (by omega)
  have f1 := hcd.frozen (o + 2048) (by omega)
  rw [hcnt] at c1
  have c2 := hcd.cell (o + 2049) (by omega)
  rw [hsr] at c2
  obtain ⟨m, rfl⟩ := Int.eq_ofNat_of_zero_le h0
  have g0 : ¬ (m : Int) < 0 := by omega
  have g1 : (m : Int) ≤ (c : Int) - s := by omega
  have ek : kept1 c s m = s + m := by unfold kept1; omega
  rw [ek]
  clear hcd
  go_enter Tryd.func109, Tryd.ntmps109
  go_wp2_with fail
  go_region
  rw [show ((s : Int) + (m : Int)) = ((s + m : Nat) : Int) by omega]
  have hC1 : Cel (w.setCell ⟨b, o + 2048, none⟩ (.int .i64 ((s + m) : Nat))).drew b n (updv f (o + 2048) (.int .i64 ((s + m) : Nat))) := (hc.set (o + 2048) (by omega) _).since (Since.refl _).drew
  have hF1 : Fr b none w (w.setCell ⟨b, o + 2048, none⟩ (.int .i64 ((s + m) : Nat))).drew := (Fr.setCell _ _ _ _ _).trans' (Fr.of_since (Since.refl _).drew)
  have HC := (show Hid _ from hc)
  clear hc c1 f1 c2
  generalize (w.setCell ⟨b, o + 2048, none⟩ (.int .i64 (((s + m) : Nat) : Int))).drew = w1 at *
  have q1 := hC1.cell (o + 2048) (by omega)
  have q2 := hC1.cell (o + 2049) (by omega)
  have p2 := hC1.frozen (o + 2049) (by omega)
  rw [show updv f (o + 2048) (.int .i64 (((s + m) : Nat) : Int)) (o + 2048) = .int .i64 (((s + m) : Nat) : Int) by unfold updv; rw [if_pos rfl]] at q1
  have hC2 := hC1.set (o + 2049) (by omega) (.int .i64 (((s + m) : Nat) : Int))
  have hF2 := hF1.trans' (Fr.setCell b none (o + 2049) w1 (.int .i64 (((s + m) : Nat) : Int)))
  have HC1 := (show Hid _ from hC1)
  clear hC1 hF1
  generalize hq : (s + m) = q at *
  have hq16 : q ≤ 16 := by omega
  have HQ := (show Hid _ from hq)
  clear hq
  go_wp2_with fail
  generalize w1.setCell ⟨b, o + 2049, none⟩ (.int .i64 (q : Int)) = w2 at *
  clear q1 q2 p2
  have hC3 := hC2.since (Since.refl _).drew
  have q3 := hC3.cell (o + 2048) (by omega)
  rw [show updv (updv f (o + 2048) (.int .i64 (q : Int))) (o + 2049) (.int .i64 (q : Int)) (o + 2048) = .int .i64 (q : Int) by unfold updv; rw [if_neg (by omega), if_pos rfl]] at q3
  have q4 : (q : Int) ≤ 16 := by omega
  have HC3 := (show Hid _ from hC3)
  have HF2 := (show Hid _ from hF2)
  by_cases h16 : q = 16
  · have hcl := clear_any w2.drew 0 b o 0 0 n _ hC3 (by omega)
    clear hC3 hC2 hF2 HC HC1 hcnt hsr ek g0 g1 hs h0 hc16
    (try clear h1)
    (try clear g2)
    have HQ2 := (show Hid _ from HQ.out.trans h16)
    clear HQ
    subst h16
    go_region
    go_wp2_with fail
    go_end0
    exact ⟨rfl, by rw [HQ2.out]; exact (HC3.out.setRow _ _ (by omega) _).congr (fun j hj => by unfold crashed updl; rw [if_neg (by omega), if_neg (by omega)]), (HF2.out.trans' (Fr.of_since (Since.refl _).drew)).trans' (Fr.setCells _ _ _ _ _)⟩
  · have h17 : ¬ 16 = q := by omega
    have hcl := clear_any w2.drew 0 b (o + q * 128) (16 - q) (16 - q) n _ hC3 (by omega)
    clear hC3 hC2 hF2 HC HC1 hcnt hsr ek g0 g1 hs h0 hc16
    (try clear h1)
    (try clear g2)
    have HH := (show Hid _ from h16)
    go_region
    go_wp2_with fail
    go_end0
    exact ⟨rfl, by rw [HQ.out]; exact HC3.out.setRow _ _ (by omega) _, (HF2.out.trans' (Fr.of_since (Since.refl _).drew)).trans' (Fr.setCells _ _ _ _ _)⟩
set_option maxRecDepth 100000 in
set_option maxHeartbeats 1000000 in
theorem crash1_all (b o c s n : Nat) (keep : Int) (f : Nat → Value) (w : World) (hc : Cel w b n f) (hn : o + 2050 ≤ n) (hcnt : f (o + 2048) = .int .i64 c) (hsr : f (o + 2049) = .int .i64 s) (hc16 : c ≤ 16) (hs : s ≤ c) (h0 : 0 ≤ keep) (h1 : (c : Int) - s < keep) :
    Calls Tryd.prog 109 #[.pointer (some ⟨b, o, none⟩), .int .i64 keep] w fun e w' => e = .returned (.tuple #[]) ∧ Cel w' b n (crashed f o (kept1 c s keep)) ∧ Fr b none w w' := by
  have hcd := hc.since (Since.refl w).drew
  have c1 := hcd.cell (o + 2048) (by omega)
  have f1 := hcd.frozen (o + 2048) (by omega)
  rw [hcnt] at c1
  have c2 := hcd.cell (o + 2049) (by omega)
  rw [hsr] at c2
  have g0 : ¬ keep < 0 := by omega
  have g1 : (c : Int) - s < keep := by omega
  have g2 : (s : Int) + (c - s) = c := by omega
  have ek : kept1 c s keep = c := by unfold kept1; omega
  rw [ek]
  clear hcd
  go_enter Tryd.func109, Tryd.ntmps109
  go_wp2_with fail
  go_region
  have hC1 : Cel (w.setCell ⟨b, o + 2048, none⟩ (.int .i64 (c : Nat))).drew b n (updv f (o + 2048) (.int .i64 (c : Nat))) := (hc.set (o + 2048) (by omega) _).since (Since.refl _).drew
  have hF1 : Fr b none w (w.setCell ⟨b, o + 2048, none⟩ (.int .i64 (c : Nat))).drew := (Fr.setCell _ _ _ _ _).trans' (Fr.of_since (Since.refl _).drew)
  have HC := (show Hid _ from hc)
  clear hc c1 f1 c2
  generalize (w.setCell ⟨b, o + 2048, none⟩ (.int .i64 ((c : Nat) : Int))).drew = w1 at *
  have q1 := hC1.cell (o + 2048) (by omega)
  have q2 := hC1.cell (o + 2049) (by omega)
  have p2 := hC1.frozen (o + 2049) (by omega)
  rw [show updv f (o + 2048) (.int .i64 ((c : Nat) : Int)) (o + 2048) = .int .i64 ((c : Nat) : Int) by unfold updv; rw [if_pos rfl]] at q1
  have hC2 := hC1.set (o + 2049) (by omega) (.int .i64 ((c : Nat) : Int))
  have hF2 := hF1.trans' (Fr.setCell b none (o + 2049) w1 (.int .i64 ((c : Nat) : Int)))
  have HC1 := (show Hid _ from hC1)
  clear hC1 hF1
  generalize hq : c = q at *
  have hq16 : q ≤ 16 := by omega
  have HQ := (show Hid _ from hq)
  clear hq
  go_wp2_with fail
  generalize w1.setCell ⟨b, o + 2049, none⟩ (.int .i64 (q : Int)) = w2 at *
  clear q1 q2 p2
  have hC3 := hC2.since (Since.refl _).drew
  have q3 := hC3.cell (o + 2048) (by omega)
  rw [show updv (updv f (o + 2048) (.int .i64 (q : Int))) (o + 2049) (.int .i64 (q : Int)) (o + 2048) = .int .i64 (q : Int) by unfold updv; rw [if_neg (by omega), if_pos rfl]] at q3
  have q4 : (q : Int) ≤ 16 := by omega
  have HC3 := (show Hid _ from hC3)
  have HF2 := (show Hid _ from hF2)
  by_cases h16 : q = 16
  · have hcl := clear_any w2.drew 0 b o 0 0 n _ hC3 (by omega)
    clear hC3 hC2 hF2 HC HC1 hcnt hsr ek g0 g1 hs h0 hc16
    (try clear h1)
    (try clear g2)
    have HQ2 := (show Hid _ from HQ.out.trans h16)
    clear HQ
    subst h16
    go_region
    go_wp2_with fail
    go_end0
    exact ⟨rfl, by rw [HQ2.out]; exact (HC3.out.setRow _ _ (by omega) _).congr (fun j hj => by unfold crashed updl; rw [if_neg (by omega), if_neg (by omega)]), (HF2.out.trans' (Fr.of_since (Since.refl _).drew)).trans' (Fr.setCells _ _ _ _ _)⟩
  · have h17 : ¬ 16 = q := by omega
    have hcl := clear_any w2.drew 0 b (o + q * 128) (16 - q) (16 - q) n _ hC3 (by omega)
    clear hC3 hC2 hF2 HC HC1 hcnt hsr ek g0 g1 hs h0 hc16
    (try clear h1)
    (try clear g2)
    have HH := (show Hid _ from h16)
    go_region
    go_wp2_with fail
    go_end0
    exact ⟨rfl, by rw [HQ.out]; exact HC3.out.setRow _ _ (by omega) _, (HF2.out.trans' (Fr.of_since (Since.refl _).drew)).trans' (Fr.setCells _ _ _ _ _)⟩
end Go.Proofs.YtjfhggcjdckfgaaDoor
