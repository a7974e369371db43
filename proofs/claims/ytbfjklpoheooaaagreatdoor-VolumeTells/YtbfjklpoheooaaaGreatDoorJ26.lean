import Derived.BigRegion
import Derived.Test.YtbfjklpoheooaaaGreatDoorJ24
import Derived.Test.YtbfjklpoheooaaaGreatDoorJ25
set_option linter.unusedSimpArgs false
set_option linter.unusedVariables false
section
namespace Go.Proofs.YtbfjklpoheooaaaGreatDoor
open Go.RowKit
set_option maxRecDepth 100000 in
set_option maxHeartbeats 1000000 in
theorem crash1_neg (b o c s n : Nat) (keep : Int) (f : Nat → Value) (w : World) (hc : Cel w b n f) (hn : o + 2050 ≤ n) (hcnt : f (o + 2048) = .int .i64 c) (hsr : f (o + 2049) = .int .i64 s) (hc16 : c ≤ 16) (hs : s ≤ c) (h0 : keep < 0) :
    Calls Tryz.prog 55 #[.pointer (some ⟨b, o, none⟩), .int .i64 keep] w fun e w' => e = .returned (.tuple #[]) ∧ Cel w' b n (crashed f o (kept1 c s keep)) ∧ Fr b none w w' := by
  have hcd := hc.since (Since.refl w).drew
  have c1 := hcd.cell (o + 2048) (by omega)
  have f1 := hcd.frozen (o + 2048) (by omega)
  rw [hcnt] at c1
  have c2 := hcd.cell (o + 2049) (by omega)
  rw [hsr] at c2
  have g0 : (0 : Int) ≤ c - s := by omega
  have g1 : ¬ (c : Int) - s < 0 := by omega
  have ek : kept1 c s keep = s := by unfold kept1; omega
  rw [ek]
  clear hcd
  go_enter Tryz.func55, Tryz.ntmps55
  go_wp2_with fail
  go_region
  have hC1 : Cel (w.setCell ⟨b, o + 2048, none⟩ (.int .i64 (s : Nat))).drew b n (updv f (o + 2048) (.int .i64 (s : Nat))) := (hc.set (o + 2048) (by omega) _).since (Since.refl _).drew
  have hF1 : Fr b none w (w.setCell ⟨b, o + 2048, none⟩ (.int .i64 (s : Nat))).drew := (Fr.setCell _ _ _ _ _).trans' (Fr.of_since (Since.refl _).drew)
  have HC := (show Hid _ from hc)
  clear hc c1 f1 c2
  generalize (w.setCell ⟨b, o + 2048, none⟩ (.int .i64 ((s : Nat) : Int))).drew = w1 at *
  have q1 := hC1.cell (o + 2048) (by omega)
  have q2 := hC1.cell (o + 2049) (by omega)
  have p2 := hC1.frozen (o + 2049) (by omega)
  rw [show updv f (o + 2048) (.int .i64 ((s : Nat) : Int)) (o + 2048) = .int .i64 ((s : Nat) : Int) by unfold updv; rw [if_pos rfl]] at q1
  have hC2 := hC1.set (o + 2049) (by omega) (.int .i64 ((s : Nat) : Int))
  have hF2 := hF1.trans' (Fr.setCell b none (o + 2049) w1 (.int .i64 ((s : Nat) : Int)))
  have HC1 := (show Hid _ from hC1)
  clear hC1 hF1
  generalize hq : s = q at *
  have hq16 : q ≤ 16 := by omega
  have HQ := (show Hid _ from hq)
  clear hq
  go_wp2_with fail
  generalize w1.setCell ⟨b, o + 2049, none⟩ (.int .i64 (q : Int)) = w2 at *
  clear q1 q2 p2
  have hC3 := hC2.since (Since.refl _).drew
  have q3 := hC3.cell (o + 2048) (by omega)
  rw [show updv (updv f (o + 2048) (.int .i64 (q : Int))) (o + 2049) (.int .i64 (q : Int)) (o + 2048) = .int .i64 (q : Int) by unfold updv; rw [if_neg (by omega), if_pos rfl]] at q3
  have q4 : (q : Int) ≤ 16 := by omega
  have HC3 := (show Hid _ from hC3)
  have HF2 := (show Hid _ from hF2)
  by_cases h16 : q = 16
  · have hcl := clear_any w2.drew 0 b o 0 0 n _ hC3 (by omega)
    clear hC3 hC2 hF2 HC HC1 hcnt hsr ek g0 g1 hs h0 hc16
    (try clear h1)
    (try clear g2)
    have HQ2 := (show Hid _ from HQ.out.trans h16)
    clear HQ
    subst h16
    go_region
    go_wp2_with fail
    go_end0
    exact ⟨rfl, by rw [HQ2.out]; exact (HC3.out.setRow _ _ (by omega) _).congr (fun j hj => by unfold crashed updl; rw [if_neg (by omega), if_neg (by omega)]), (HF2.out.trans' (Fr.of_since (Since.refl _).drew)).trans' (Fr.setCells _ _ _ _ _)⟩
  · have h17 : ¬ 16 = q := by omega
    have hcl := clear_any w2.drew 0 b (o + q * 128) (16 - q) (16 - q) n _ hC3 (by omega)
    clear hC3 hC2 hF2 HC HC1 hcnt hsr ek g0 g1 hs h0 hc16
    (try clear h1)
    (try clear g2)
    have HH := (show Hid _ from h16)
    go_region
    go_wp2_with fail
    go_end0
    exact ⟨rfl, by rw [HQ.out]; exact HC3.out.setRow _ _ (by omega) _, (HF2.out.trans' (Fr.of_since (Since.refl _).drew)).trans' (Fr.setCells _ _ _ _ _)⟩
set_option maxRecDepth 100000 in
set_option maxHeartbeats 1000000 in
theorem crash1_few (b o c s n : Nat) (keep : Int) (f : Nat → Value) (w : World) (hc : Cel w b n f) (hn : o + 2050 ≤ n) (hcnt : f (o + 2048) = .int .i64 c) (hsr : f (o + 2049) = .int .i64 s) (hc16 : c ≤ 16) (hs : s ≤ c) (h0 : 0 ≤ keep) (h1 : keep ≤ c - s) :
    Calls Tryz.prog 55 #[.pointer (some ⟨b, o, none⟩), .int .i64 keep] w fun e w' => e = .returned (.tuple #[]) ∧ Cel w' b n (crashed f o (kept1 c s keep)) ∧ Fr b none w w' := by
  have hcd := hc.since (Since.refl w).drew
  have c1 := hcd.cell (o + 2048) (by omega)
  have f1 := hcd.frozen (o + 2048) (by omega)
  rw [hcnt] at c1
  have c2 := hcd.cell (o + 2049) (by omega)
  rw [hsr] at c2
  obtain ⟨m, rfl⟩ := Int.eq_ofNat_of_zero_le h0
  have g0 : ¬ (m : Int) < 0 := by omega
  have g1 : (m : Int) ≤ (c : Int) - s := by omega
  have ek : kept1 c s m = s + m := by unfold kept1; omega
  rw [ek]
  clear hcd
  go_enter Tryz.func55, Tryz.ntmps55
  go_wp2_with fail
  go_region
  rw [show ((s : Int) + (m : Int)) = ((s + m : Nat) : Int) by omega]
  have hC1 : Cel (w.setCell ⟨b, o + 2048, none⟩ (.int .i64 ((s + m) : Nat))).drew b n (updv f (o + 2048) (.int .i64 ((s + m) : Nat))) := (hc.set (o + 2048) (by omega) _).since (Since.refl _).drew
  have hF1 : Fr b none w (w.setCell ⟨b, o + 2048, none⟩ (.int .i64 ((s + m) : Nat))).drew := (Fr.setCell _ _ _ _ _).trans' (Fr.of_since (Since.refl _).drew)
  have HC := (show Hid _ from hc)
  clear hc c1 f1 c2
  generalize (w.setCell ⟨b, o + 2048, none⟩ (.int .i64 (((s + m) : Nat) : Int))).drew = w1 at *
  have q1 := hC1.cell (o + 2048) (by omega)
  have q2 := hC1.cell (o + 2049) (by omega)
  have p2 := hC1.frozen (o + 2049) (by omega)
  rw [show updv f (o + 2048) (.int .i64 (((s + m) : Nat) : Int)) (o + 2048) = .int .i64 (((s + m) : Nat) : Int) by unfold updv; rw [if_pos rfl]] at q1
  have hC2 := hC1.set (o + 2049) (by omega) (.int .i64 (((s + m) : Nat) : Int))
  have hF2 := hF1.trans' (Fr.setCell b none (o + 2049) w1 (.int .i64 (((s + m) : Nat) : Int)))
  have HC1 := (show Hid _ from hC1)
  clear hC1 hF1
  generalize hq : (s + m) = q at *
  have hq16 : q ≤ 16 := by omega
  have HQ := (show Hid _ from hq)
  clear hq
  go_wp2_with fail
  generalize w1.setCell ⟨b, o + 2049, none⟩ (.int .i64 (q : Int)) = w2 at *
  clear q1 q2 p2
  have hC3 := hC2.since (Since.refl _).drew
  have q3 := hC3.cell (o + 2048) (by omega)
  rw [show updv (updv f (o + 2048) (.int .i64 (q : Int))) (o + 2049) (.int .i64 (q : Int)) (o + 2048) = .int .i64 (q : Int) by unfold updv; rw [if_neg (by omega), if_pos rfl]] at q3
  have q4 : (q : Int) ≤ 16 := by omega
  have HC3 := (show Hid _ from hC3)
  have HF2 := (show Hid _ from hF2)
  by_cases h16 : q = 16
  · have hcl := clear_any w2.drew 0 b o 0 0 n _ hC3 (by omega)
    clear hC3 hC2 hF2 HC HC1 hcnt hsr ek g0 g1 hs h0 hc16
    (try clear h1)
    (try clear g2)
    have HQ2 := (show Hid _ from HQ.out.trans h16)
    clear HQ
    subst h16
    go_region
    go_wp2_with fail
    go_end0
    exact ⟨rfl, by rw [HQ2.out]; exact (HC3.out.setRow _ _ (by omega) _).congr (fun j hj => by unfold crashed updl; rw [if_neg (by omega), if_neg (by omega)]), (HF2.out.trans' (Fr.of_since (Since.refl _).drew)).trans' (Fr.setCells _ _ _ _ _)⟩
  · have h17 : ¬ 16 = q := by omega
    have hcl := clear_any w2.drew 0 b (o + q * 128) (16 - q) (16 - q) n _ hC3 (by omega)
    clear hC3 hC2 hF2 HC HC1 hcnt hsr ek g0 g1 hs h0 hc16
    (try clear h1)
    (try clear g2)
    have HH := (show Hid _ from h16)
    go_region
    go_wp2_with fail
    go_end0
    exact ⟨rfl, by rw [HQ.out]; exact HC3.out.setRow _ _ (by omega) _, (HF2.out.trans' (Fr.of_since (Since.refl _).drew)).trans' (Fr.setCells _ _ _ _ _)⟩
set_option maxRecDepth 100000 in
set_option maxHeartbeats 1000000 in
theorem crash1_all (b o c s n : Nat) (keep : Int) (f : Nat → Value) (w : World) (hc : Cel w b n f) (hn : o + 2050 ≤ n) (hcnt : f (o + 2048) = .int .i64 c) (hsr : f (o + 2049) = .int .i64 s) (hc16 : c ≤ 16) (hs : s ≤ c) (h0 : 0 ≤ keep) (h1 : (c : Int) - s < keep) :
    Calls Tryz.prog 55 #[.pointer (some ⟨b, o, none⟩), .int .i64 keep] w fun e w' => e = .returned (.tuple #[]) ∧ Cel w' b n (crashed f o (kept1 c s keep)) ∧ Fr b none w w' := by
  have hcd := hc.since (Since.refl w).drew
  have c1 := hcd.cell (o + 2048) (by omega)
  have f1 := hcd.frozen (o + 2048) (by omega)
  rw [hcnt] at c1
  have c2 := hcd.cell (o + 2049) (by omega)
  rw [hsr] at c2
  have g0 : ¬ keep < 0 := by omega
  have g1 : (c : Int) - s < keep := by omega
  have g2 : (s : Int) + (c - s) = c := by omega
  have ek : kept1 c s keep = c := by unfold kept1; omega
  rw [ek]
  clear hcd
  go_enter Tryz.func55, Tryz.ntmps55
  go_wp2_with fail
  go_region
  have hC1 : Cel (w.setCell ⟨b, o + 2048, none⟩ (.int .i64 (c : Nat))).drew b n (updv f (o + 2048) (.int .i64 (c : Nat))) := (hc.set (o + 2048) (by omega) _).since (Since.refl _).drew
  have hF1 : Fr b none w (w.setCell ⟨b, o + 2048, none⟩ (.int .i64 (c : Nat))).drew := (Fr.setCell _ _ _ _ _).trans' (Fr.of_since (Since.refl _).drew)
  have HC := (show Hid _ from hc)
  clear hc c1 f1 c2
  generalize (w.setCell ⟨b, o + 2048, none⟩ (.int .i64 ((c : Nat) : Int))).drew = w1 at *
  have q1 := hC1.cell (o + 2048) (by omega)
  have q2 := hC1.cell (o + 2049) (by omega)
  have p2 := hC1.frozen (o + 2049) (by omega)
  rw [show updv f (o + 2048) (.int .i64 ((c : Nat) : Int)) (o + 2048) = .int .i64 ((c : Nat) : Int) by unfold updv; rw [if_pos rfl]] at q1
  have hC2 := hC1.set (o + 2049) (by omega) (.int .i64 ((c : Nat) : Int))
  have hF2 := hF1.trans' (Fr.setCell b none (o + 2049) w1 (.int .i64 ((c : Nat) : Int)))
  have HC1 := (show Hid _ from hC1)
  clear hC1 hF1
  generalize hq : c = q at *
  have hq16 : q ≤ 16 := by omega
  have HQ := (show Hid _ from hq)
  clear hq
  go_wp2_with fail
  generalize w1.setCell ⟨b, o + 2049, none⟩ (.int .i64 (q : Int)) = w2 at *
  clear q1 q2 p2
  have hC3 := hC2.since (Since.refl _).drew
  have q3 := hC3.cell (o + 2048) (by omega)
  rw [show updv (updv f (o + 2048) (.int .i64 (q : Int))) (o + 2049) (.int .i64 (q : Int)) (o + 2048) = .int .i64 (q : Int) by unfold updv; rw [if_neg (by omega), if_pos rfl]] at q3
  have q4 : (q : Int) ≤ 16 := by omega
  have HC3 := (show Hid _ from hC3)
  have HF2 := (show Hid _ from hF2)
  by_cases h16 : q = 16
  · have hcl := clear_any w2.drew 0 b o 0 0 n _ hC3 (by omega)
    clear hC3 hC2 hF2 HC HC1 hcnt hsr ek g0 g1 hs h0 hc16
    (try clear h1)
    (try clear g2)
    have HQ2 := (show Hid _ from HQ.out.trans h16)
    clear HQ
    subst h16
    go_region
    go_wp2_with fail
    go_end0
    exact ⟨rfl, by rw [HQ2.out]; exact (HC3.out.setRow _ _ (by omega) _).congr (fun j hj => by unfold crashed updl; rw [if_neg (by omega), if_neg (by omega)]), (HF2.out.trans' (Fr.of_since (Since.refl _).drew)).trans' (Fr.setCells _ _ _ _ _)⟩
  · have h17 : ¬ 16 = q := by omega
    have hcl := clear_any w2.drew 0 b (o + q * 128) (16 - q) (16 - q) n _ hC3 (by omega)
    clear hC3 hC2 hF2 HC HC1 hcnt hsr ek g0 g1 hs h0 hc16
    (try clear h1)
    (try clear g2)
    have HH := (show Hid _ from h16)
    go_region
    go_wp2_with fail
    go_end0
    exact ⟨rfl, by rw [HQ.out]; exact HC3.out.setRow _ _ (by omega) _, (HF2.out.trans' (Fr.of_since (Since.refl _).drew)).trans' (Fr.setCells _ _ _ _ _)⟩
end Go.Proofs.YtbfjklpoheooaaaGreatDoor
end
section
namespace Go.Proofs.YtbfjklpoheooaaaGreatDoor
open Go.RowKit
def Sl (w : World) (b : Nat) (v : Value) (n : Nat) (f : Nat → Value) : Prop :=
  ∃ a c, v = .slice a n c ∧ (0 < n → ∃ k o, a = some ⟨k, o, none⟩ ∧ k ≠ b ∧ ∀ j, j < n → w.cell? ⟨k, o + j, none⟩ = some (f j))
theorem Sl.fr {w w' : World} {b : Nat} {v : Value} {n : Nat} {f : Nat → Value} (h : Sl w b v n f) (hf : Fr b none w w') : Sl w' b v n f := by
  obtain ⟨a, c, hv, h⟩ := h
  refine ⟨a, c, hv, fun hn => ?_⟩
  obtain ⟨k, o, ha, hk, hc⟩ := h hn
  exact ⟨k, o, ha, hk, fun j hj => (hf.cell (p := ⟨k, o + j, none⟩) (World.block_lt_of_cell? w _ (hc j hj)) hk (by simp)).trans (hc j hj)⟩
def keptBy (n : Nat) (sl : Nat → Bool) : Nat → Bool := fun i => decide (i < n) && sl i
theorem crashF_any (b B n i : Nat) (v : Value) (sl : Nat → Bool) (w : World) (hB : w.cell? ⟨B, 0, none⟩ = some v) (hs : Sl w b v n (fun j => .bool (sl j))) :
    Calls Tryz.prog 57 #[.int .i64 i, .pointer (some ⟨B, 0, none⟩)] w fun e w' => e = .returned (.bool (keptBy n sl i)) ∧ w' = w := by
  obtain ⟨a, c, rfl, hs⟩ := hs
  unfold keptBy
  by_cases h : i < n
  · obtain ⟨k, o, rfl, _, hc⟩ := hs (by omega)
    have c1 := hc i h
    have h2 : (i : Int) < n := by omega
    rw [decide_eq_true h, Bool.true_and]
    clear hc hs
    go_enter Tryz.func57, Tryz.ntmps57
    go_wp2_with fail
    go_ret
    exact ⟨rfl, rfl⟩
  · have h2 : ¬ (i : Int) < n := by omega
    rw [decide_eq_false h, Bool.false_and]
    clear hs
    go_enter Tryz.func57, Tryz.ntmps57
    go_wp2_with fail
    go_ret
    exact ⟨rfl, rfl⟩
theorem crashF_enters : ∀ args w, (callFunc 57 args).run Tryz.prog w = .ok (.enter 57 args) w := enters_of Tryz.func57 (by kernel_rfl) rfl
def Dv.crashZ (D : Dv) (ks : Nat → Int) (k : Nat) : Dv :=
  { D with blk := fun z j i => if z < k ∧ kept1 (D.cnt z) (D.sure z) (ks z) ≤ j then 0 else D.blk z j i,
           cnt := fun z => if z < k then kept1 (D.cnt z) (D.sure z) (ks z) else D.cnt z,
           sure := fun z => if z < k then kept1 (D.cnt z) (D.sure z) (ks z) else D.sure z }
theorem kept1_le (c s : Nat) (x : Int) (h : s ≤ c) : kept1 c s x ≤ c := by unfold kept1; omega
theorem crashZ_ok (D : Dv) (ks : Nat → Int) (k : Nat) (h : D.ok) : (D.crashZ ks k).ok where
  cnt z hz := by
    show (if z < k then _ else _) ≤ 16
    have := h.cnt z hz
    split
    · have := kept1_le (D.cnt z) (D.sure z) (ks z) (h.sure z hz); omega
    · exact this
  sure z hz := by
    show (if z < k then _ else _) ≤ (if z < k then _ else _)
    split
    · exact Nat.le_refl _
    · exact h.sure z hz
  zero z j i hz hj hj2 hi := by
    show (if z < k ∧ _ then _ else _) = _
    have hj' : (if z < k then kept1 (D.cnt z) (D.sure z) (ks z) else D.cnt z) ≤ j := hj
    by_cases e : z < k
    · rw [if_pos e] at hj'
      rw [if_pos ⟨e, hj'⟩]
    · rw [if_neg e] at hj'
      rw [if_neg (fun h => e h.1)]
      exact h.zero z j i hz hj' hj2 hi
  left := h.left
  ws := h.ws
  few := h.few
set_option maxRecDepth 100000 in
theorem crashZ_cells (D : Dv) (ks : Nat → Int) (v : Value) (k : Nat) (hk : k < 8) (j : Nat) (hk16 : kept1 (D.cnt k) (D.sure k) (ks k) ≤ 16) :
    crashed (dcell (D.crashZ ks k) v) (k * 2050) (kept1 (D.cnt k) (D.sure k) (ks k)) j = dcell (D.crashZ ks (k + 1)) v j := by
  refine dcell_turn (D.crashZ ks k) (D.crashZ ks (k + 1)) v k hk _ (fun j hj => ?_) (fun j hj => ?_) (fun z' h => ?_) (fun z' h => ?_) (fun z' h => ?_) rfl rfl rfl j
  · have e1 : (D.crashZ ks (k + 1)).cnt k = kept1 (D.cnt k) (D.sure k) (ks k) := by show (if _ then _ else _) = _; rw [if_pos (by omega)]
    have e2 : (D.crashZ ks (k + 1)).sure k = kept1 (D.cnt k) (D.sure k) (ks k) := by show (if _ then _ else _) = _; rw [if_pos (by omega)]
    have e3 : (D.crashZ ks (k + 1)).blk k = fun j i => if kept1 (D.cnt k) (D.sure k) (ks k) ≤ j then 0 else D.blk k j i := by
      funext j i
      show (if k < k + 1 ∧ _ then _ else _) = _
      by_cases h : kept1 (D.cnt k) (D.sure k) (ks k) ≤ j
      · rw [if_pos ⟨by omega, h⟩, if_pos h]
      · rw [if_neg (fun h' => h h'.2), if_neg h]
    rw [e1, e2, e3]
    generalize kept1 (D.cnt k) (D.sure k) (ks k) = q at *
    unfold crashed updl updv
    by_cases h0 : q * 128 ≤ j ∧ j < 2048
    · rw [if_pos (by omega)]
      unfold scell
      dsimp only
      rw [if_pos (by omega), if_pos (by omega)]
    · rw [if_neg (by omega)]
      by_cases h1 : j = 2049
      · rw [if_pos (by omega)]
        unfold scell
        rw [if_neg (by omega), if_neg (by omega)]
      · rw [if_neg (by omega)]
        by_cases h2 : j = 2048
        · rw [if_pos (by omega)]
          unfold scell
          rw [if_neg (by omega), if_pos h2]
        · rw [if_neg (by omega), dcell_zone _ v k j hk hj]
          unfold scell
          dsimp only
          rw [if_pos (by omega), if_pos (by omega), if_neg (by omega)]
          congr 1
          show (if k < k ∧ _ then _ else _) = _
          rw [if_neg (by omega)]
  · unfold crashed updl updv
    rw [if_neg (by omega), if_neg (by omega), if_neg (by omega)]
  · funext j i
    show (if z' < k + 1 ∧ _ then _ else _) = (if z' < k ∧ _ then _ else _)
    have : (z' < k + 1) = (z' < k) := by apply propext; omega
    simp only [this]
  · show (if z' < k + 1 then _ else _) = (if z' < k then _ else _)
    have : (z' < k + 1) = (z' < k) := by apply propext; omega
    simp only [this]
  · show (if z' < k + 1 then _ else _) = (if z' < k then _ else _)
    have : (z' < k + 1) = (z' < k) := by apply propext; omega
    simp only [this]
theorem crash1_any (D : Dv) (ks : Nat → Int) (v : Value) (b k : Nat) (w : World) (hd : Dev w b (D.crashZ ks k) v) (hD : D.ok) (hk : k < 8) :
    Calls Tryz.prog 55 #[.pointer (some ⟨b, k * 2050, none⟩), .int .i64 (ks k)] w fun e w' => e = .returned (.tuple #[]) ∧ Dev w' b (D.crashZ ks (k + 1)) v ∧ Fr b none w w' := by
  have e1 : (D.crashZ ks k).cnt k = D.cnt k := by show (if _ then _ else _) = _; rw [if_neg (by omega)]
  have e2 : (D.crashZ ks k).sure k = D.sure k := by show (if _ then _ else _) = _; rw [if_neg (by omega)]
  have hc := hD.cnt k hk
  have hs := hD.sure k hk
  have hcnt := dcell_cnt (D.crashZ ks k) v k hk
  have hsr := dcell_sure (D.crashZ ks k) v k hk
  rw [e1] at hcnt
  rw [e2] at hsr
  have hk16 : kept1 (D.cnt k) (D.sure k) (ks k) ≤ 16 := by have := kept1_le (D.cnt k) (D.sure k) (ks k) hs; omega
  have fin : ∀ w', Cel w' b 17403 (crashed (dcell (D.crashZ ks k) v) (k * 2050) (kept1 (D.cnt k) (D.sure k) (ks k))) → Fr b none w w' → Dev w' b (D.crashZ ks (k + 1)) v := fun w' h1 h2 =>
    hd.turn (h1.congr (fun j _ => crashZ_cells D ks v k hk j hk16)) h2 rfl (crashZ_ok D ks (k + 1) hD)
  by_cases h0 : ks k < 0
  · refine (crash1_neg b (k * 2050) (D.cnt k) (D.sure k) 17403 (ks k) _ w hd.cel (by omega) hcnt hsr hc hs h0).mono ?_
    rintro e w' ⟨rfl, h1, h2⟩
    exact ⟨rfl, fin w' h1 h2, h2⟩
  · by_cases h1 : ks k ≤ (D.cnt k : Int) - D.sure k
    · refine (crash1_few b (k * 2050) (D.cnt k) (D.sure k) 17403 (ks k) _ w hd.cel (by omega) hcnt hsr hc hs (by omega) h1).mono ?_
      rintro e w' ⟨rfl, h1, h2⟩
      exact ⟨rfl, fin w' h1 h2, h2⟩
    · refine (crash1_all b (k * 2050) (D.cnt k) (D.sure k) 17403 (ks k) _ w hd.cel (by omega) hcnt hsr hc hs (by omega) (by omega)).mono ?_
      rintro e w' ⟨rfl, h1, h2⟩
      exact ⟨rfl, fin w' h1 h2, h2⟩
def keepAt (n : Nat) (ks : Nat → Int) : Nat → Int := fun z => if z < n then ks z else 0
def Dv.crashed (D : Dv) (nk : Nat) (ks : Nat → Int) (ns : Nat) (sl : Nat → Bool) : Dv := ((D.crashZ (keepAt nk ks) 8).settled (keptBy ns sl)).fuse (-1)
set_option maxRecDepth 100000 in
set_option maxHeartbeats 2000000 in
theorem crash_any (D : Dv) (v : Value) (b nk ns : Nat) (kv sv : Value) (ks : Nat → Int) (sl : Nat → Bool) (w : World) (hd : Dev w b D v)
    (hk : Sl w b kv nk (fun j => .int .i64 (ks j))) (hs : Sl w b sv ns (fun j => .bool (sl j))) :
    Calls Tryz.prog 18 #[.pointer (some ⟨b, 0, none⟩), kv, sv] w fun e w' => e = .returned (.tuple #[]) ∧ Dev w' b (D.crashed nk ks ns sl) (.slice none 0 0) ∧ Fr b none w w' := by
  obtain ⟨a1, c1, rfl, hk1⟩ := hk
  obtain ⟨a2, c2, rfl, hs1⟩ := hs
  have hbl := hd.lt
  have HD := (show Hid _ from hd)
  have HK := (show Hid (Sl w b (.slice a1 nk c1) nk (fun j => .int .i64 (ks j))) from ⟨a1, c1, rfl, hk1⟩)
  have HS := (show Hid (Sl w b (.slice a2 ns c2) ns (fun j => .bool (sl j))) from ⟨a2, c2, rfl, hs1⟩)
  clear hd hk1 hs1
  go_enter Tryz.func18, Tryz.ntmps18
  go_wp2_with fail
  refine (orNew_any _ _).mono ?_
  rintro e w' ⟨rfl, rfl⟩
  have hd0 := HD.out.since ((Since.refl w).alloc (.cells #[.slice a2 ns c2] 50))
  have hb0 : (w.alloc (.cells #[.slice a2 ns c2] 50)).cell? ⟨w.heap.size, 0, none⟩ = some (.slice a2 ns c2) := by simp
  have hf0 : Fr b none w (w.alloc (.cells #[.slice a2 ns c2] 50)) := Fr.of_since ((Since.refl w).alloc _)
  have hz0 : (w.alloc (.cells #[.slice a2 ns c2] 50)).heap.size = w.heap.size + 1 := by simp
  generalize w.alloc (.cells #[.slice a2 ns c2] 50) = w0 at *
  have HD0 := (show Hid _ from hd0)
  have HB0 := (show Hid _ from hb0)
  have HF0 := (show Hid _ from hf0)
  clear hd0 hb0 hf0
  go_wp2_with fail
  go_loopw [10] (fun i wr => ∃ k : Nat, k ≤ 8 ∧ i = .int .i64 k ∧ Dev wr b (D.crashZ (keepAt nk ks) k) v ∧ Fr b none w0 wr) (fun i _ => 8 - (intOf i).toNat)
  case atStart =>
    refine ⟨0, by omega, rfl, ?_, Fr.refl _ _ _⟩
    have e : D.crashZ (keepAt nk ks) 0 = D := by
      unfold Dv.crashZ
      cases D
      simp
    rw [e]
    exact HD0.out
  case round =>
    obtain ⟨k, hk, rfl, hdk, hfk⟩ := hrel
    have HDK := (show Hid _ from hdk)
    have HFK := (show Hid _ from hfk)
    clear hfk hdk
    by_cases hlt : k < 8
    · have hlt2 : (k : Int) < 8 := by omega
      by_cases hkn : k < nk
      · have hkn2 : (k : Int) < nk := by omega
        obtain ⟨a3, c3, he, hk3⟩ := (HK.out.fr HF0.out).fr HFK.out
        injection he with he1 he2 he3
        subst he1
        obtain ⟨kb, ko, rfl, _, hkc⟩ := hk3 (by omega)
        have q1 := hkc k hkn
        have hka : keepAt nk ks k = ks k := by unfold keepAt; rw [if_pos hkn]
        have HKA := (show Hid _ from hka)
        clear hkc hk3 hka he3
        go_wp2_with fail
        rw [← HKA.out]
        refine (crash1_any D (keepAt nk ks) v b k _ HDK.out HD.out.ok hlt).mono ?_
        rintro e w2 ⟨rfl, hd2, hf2⟩
        have HD2 := (show Hid _ from hd2)
        clear hd2
        go_wp2_with fail
        go_roundw
        case rel => exact ⟨k + 1, by omega, by go_num, HD2.out, HFK.out.trans' hf2⟩
        case measure => simp [intOf]; omega
      · have hkn2 : ¬ (k : Int) < nk := by omega
        have hka : keepAt nk ks k = 0 := by unfold keepAt; rw [if_neg hkn]
        have HKA := (show Hid _ from hka)
        clear hka
        go_wp2_with fail
        have hcr := crash1_any D (keepAt nk ks) v b k wr HDK.out HD.out.ok hlt
        rw [HKA.out] at hcr
        refine hcr.mono ?_
        clear hcr
        rintro e w2 ⟨rfl, hd2, hf2⟩
        have HD2 := (show Hid _ from hd2)
        clear hd2
        go_wp2_with fail
        go_roundw
        case rel => exact ⟨k + 1, by omega, by go_num, HD2.out, HFK.out.trans' hf2⟩
        case measure => simp [intOf]; omega
    · have hke : k = 8 := by omega
      subst hke
      go_wp2_with fail
      refine (settle_any (D.crashZ (keepAt nk ks) 8) v b 57 #[.pointer (some ⟨w.heap.size, 0, none⟩)] (keptBy ns sl) _ HDK.out crashF_enters (fun i W hW => crashF_any b w.heap.size ns i (.slice a2 ns c2) sl W ?_ (((HS.out.fr HF0.out).fr HFK.out).fr hW))).mono ?_
      · have hf := HFK.out.trans' hW
        rw [hf.cell (p := ⟨w.heap.size, 0, none⟩) (by show w.heap.size < _; omega) (by show w.heap.size ≠ b; omega) (by simp)]
        exact HB0.out
      rintro e w2 ⟨rfl, hd2, hf2⟩
      have HD2 := (show Hid _ from hd2)
      clear hd2
      go_wp2_with fail
      refine (fuse_any _ _ b (-1) _ HD2.out (by omega)).mono ?_
      rintro e w3 ⟨rfl, hd3, hf3⟩
      have HD3 := (show Hid _ from hd3)
      clear hd3
      go_wp2_with fail
      go_end0
      exact ⟨rfl, HD3.out, ((HF0.out.trans' HFK.out).trans' hf2).trans' hf3⟩
end Go.Proofs.YtbfjklpoheooaaaGreatDoor
end
section
namespace Go.Proofs.YtbfjklpoheooaaaGreatDoor
open Go.RowKit
theorem infoS : (Tryz.prog.info? 9).map (fun i => (i.zero, i.size, i.bytes)) = some (some (.string ⟨#[]⟩), 1, 16) := by kernel_rfl
def blks (blk : Nat → Nat → UInt8) (n : Nat) : List Value := (List.range n).map fun k => .string (txt 128 (blk k))
theorem blks_succ (blk : Nat → Nat → UInt8) (n : Nat) : blks blk (n + 1) = blks blk n ++ [.string (txt 128 (blk n))] := by
  unfold blks
  rw [List.range_succ, List.map_append]
  rfl
set_option maxRecDepth 100000 in
set_option maxHeartbeats 1000000 in
theorem image1_any (D : Dv) (v : Value) (b z : Nat) (w : World) (hd : Dev w b D v) (hz : z < 8) :
    Calls Tryz.prog 61 #[.pointer (some ⟨b, z * 2050, none⟩)] w fun e w' => ∃ x, e = .returned x ∧ w'.ownsRow w.heap.size 9 1 x (D.sure z) (blks (D.blk z) (D.sure z)) ∧ Since w w' := by
  have c1 := hd.cel.cell (z * 2050 + 2049) (by omega)
  rw [dcell_sure D v z hz] at c1
  have hs16 : D.sure z ≤ 16 := Nat.le_trans (hd.ok.sure z hz) (hd.ok.cnt z hz)
  have HD := (show Hid _ from hd)
  obtain ⟨i0, hi, hz0, hz1, hz2⟩ := info_parts' infoS
  have HI := (show Hid (Tryz.prog.info? 9 = some i0 ∧ i0.zero = some (.string ⟨#[]⟩) ∧ i0.size = 1 ∧ i0.bytes = 16) from ⟨hi, hz0, hz1, hz2⟩)
  clear hd hi hz0 hz1 hz2
  go_enter Tryz.func61, Tryz.ntmps61
  go_wp2_with fail
  go_loopw [9, 3] (fun i x wr => ∃ k : Nat, k ≤ D.sure z ∧ i = .int .i64 k ∧ wr.ownsRow w.heap.size 9 1 x k (blks (D.blk z) k) ∧ Since w wr) (fun i _ _ => D.sure z - (intOf i).toNat)
  case atStart => exact ⟨0, by omega, rfl, World.ownsRow_nil _ _ _ _, Since.refl _⟩
  case round =>
    obtain ⟨k, hk, rfl, hown, hS⟩ := hrel
    have HO : Hid (wr.ownsRow w.heap.size 9 1 u3 k (blks (D.blk z) k)) := hown
    have HS : Hid (Since w wr) := hS
    by_cases hlt : k < D.sure z
    · have hlt2 : (k : Int) < D.sure z := by omega
      have hk16 : (k : Int) < 16 := by omega
      have hcv := conv_txt wr b (z * 2050 + k * 128) 128 128 (D.blk z k) (fun i hi => by rw [(HD.out.since hS).cel.cell _ (by omega), dcell_blk D v z k i hz (by omega) hi])
      clear hown hS
      go_wp2_with (at_builtin; refine wpList_append_own _ (by rfl) _ _ _ (by rfl) w.heap.size 9 i0 _ 1 16 Tryz.underlying44 HI.out.1 HI.out.2.1 HI.out.2.2.1 HI.out.2.2.2 (by rfl) (by decide) _ k (blks (D.blk z) k) (by rfl) (World.ownsRow.alloc HO.out _) ⟨wr.heap.size, 0, none⟩ 1 1 [.string (txt 128 (D.blk z k))] (by rfl) (by rfl) (World.news_of_block (heap_alloc_new wr _)) (by simp [Value.oneCell']) (by unfold maxLen; omega) (by omega) (by have := HS.out.size; simp; omega) ?_; intro x' w1 hown1 hgrow _)
      refine ⟨⟨k + 1, by omega, by go_num, by rw [blks_succ]; exact hown1, ?_⟩, by simp [intOf]; omega⟩
      exact Below.grown (Since.alloc HS.out _) hgrow (by have := HS.out.size; simp; omega) (fun j hj => (HO.out.lt j hj).1)
    · have hke : k = D.sure z := by omega
      subst hke
      clear hown hS
      go_wp2_with fail
      go_ret
      exact ⟨_, rfl, HO.out, HS.out⟩
theorem ownsRow_base {w : World} {base base' e size n : Nat} {v : Value} {xs : List Value} (h : w.ownsRow base e size v n xs) (hb : base' ≤ base) : w.ownsRow base' e size v n xs := by
  refine ⟨h.1, ?_⟩
  rcases h.2 with hn | ⟨k, cap, cur, hv, hbk, hk, rest⟩
  · exact .inl hn
  · exact .inr ⟨k, cap, cur, hv, by omega, hk, rest⟩
def icell (iv : Nat → Value) (s0 s1 : ByteArray) (j : Nat) : Value := if j < 8 then iv j else if j = 8 then .string s0 else .string s1
def ivTo (iv : Nat → Value) (k : Nat) : Nat → Value := fun j => if j < k then iv j else .slice none 0 0
theorem ownsRow_since {w w' : World} {base e size n : Nat} {v : Value} {xs : List Value} (h : w.ownsRow base e size v n xs) (hs : Since w w') : w'.ownsRow base e size v n xs :=
  ownsRow_fr h (b := w.heap.size) (g := none) (Fr.of_since hs) (fun e => by have := (h.lt _ e).2; omega) (by
    cases hv : v.ownBlock with
    | none => exact Or.inl rfl
    | some k => exact Or.inr (by simp))
set_option maxRecDepth 100000 in
set_option maxHeartbeats 1000000 in
theorem image_any (D : Dv) (v : Value) (b : Nat) (w : World) (hd : Dev w b D v) :
    Calls Tryz.prog 20 #[.pointer (some ⟨b, 0, none⟩)] w fun e w' => ∃ iv, e = .returned (.agg (brow 10 (icell iv (txt 500 (D.slot 0)) (txt 500 (D.slot 1)))).toArray) ∧ (∀ z, z < 8 → w'.ownsRow w.heap.size 9 1 (iv z) (D.sure z) (blks (D.blk z) (D.sure z))) ∧ Since w w' := by
  have hbl := hd.lt
  have HD : Hid (Dev w b D v) := hd
  clear hd
  go_enter Tryz.func20, Tryz.ntmps20
  go_wp2_with fail
  refine (orNew_any _ _).mono ?_
  rintro e w' ⟨rfl, rfl⟩
  go_wp2_with fail
  go_loopw [8] (fun i wr => ∃ (k : Nat) (iv : Nat → Value), k ≤ 8 ∧ i = .int .i64 k ∧ Cel wr (w.heap.size + 1) 10 (icell (ivTo iv k) ⟨#[]⟩ ⟨#[]⟩) ∧ Cel wr w.heap.size 10 (icell (ivTo iv 0) ⟨#[]⟩ ⟨#[]⟩) ∧ (∀ z, z < k → wr.ownsRow (w.heap.size + 2) 9 1 (iv z) (D.sure z) (blks (D.blk z) (D.sure z))) ∧ Since w wr ∧ w.heap.size + 2 ≤ wr.heap.size) (fun i _ => 8 - (intOf i).toNat)
  case atStart =>
    have hz : ∀ j, j < 10 → #[Value.slice none 0 0, .slice none 0 0, .slice none 0 0, .slice none 0 0, .slice none 0 0, .slice none 0 0, .slice none 0 0, .slice none 0 0, .string ⟨#[]⟩, .string ⟨#[]⟩][j]? = some (icell (ivTo (fun _ => undef) 0) ⟨#[]⟩ ⟨#[]⟩ j) := by
      intro j hj
      match j, hj with
      | 0, _ => rfl
      | 1, _ => rfl
      | 2, _ => rfl
      | 3, _ => rfl
      | 4, _ => rfl
      | 5, _ => rfl
      | 6, _ => rfl
      | 7, _ => rfl
      | 8, _ => rfl
      | 9, _ => rfl
    exact ⟨0, fun _ => undef, by omega, rfl, Cel.new _ _ _ _ _ hz _ (by simp), (Cel.new w _ _ _ _ hz _ rfl).since ((Since.refl _).alloc _), fun z hz => by omega, ((Since.refl _).alloc _).alloc _, by simp⟩
  case round =>
    obtain ⟨k, iv, hk, rfl, hm, hr, hrow, hS, hsz⟩ := hrel
    have HM : Hid (Cel wr (w.heap.size + 1) 10 (icell (ivTo iv k) ⟨#[]⟩ ⟨#[]⟩)) := hm
    have HR : Hid (Cel wr w.heap.size 10 (icell (ivTo iv 0) ⟨#[]⟩ ⟨#[]⟩)) := hr
    have HW : Hid (∀ z, z < k → wr.ownsRow (w.heap.size + 2) 9 1 (iv z) (D.sure z) (blks (D.blk z) (D.sure z))) := hrow
    have HS : Hid (Since w wr) := hS
    by_cases hlt : k < 8
    · have hlt2 : (k : Int) < 8 := by omega
      clear hm hr hrow hS
      go_wp2_with fail
      refine (image1_any D v b k _ (HD.out.since HS.out) hlt).mono ?_
      rintro e w2 ⟨x, rfl, hx, hS2⟩
      have hm2 := HM.out.since hS2
      have c1 := hm2.cell k (by omega)
      have f1 := hm2.frozen k (by omega)
      have hx1 : x.oneCell' = true ∧ ∃ xa xn xc, x = .slice xa xn xc := by
        rcases hx.2 with ⟨h, _⟩ | ⟨g, cap, cur, h, _⟩ <;> subst h <;> exact ⟨rfl, _, _, _, rfl⟩
      obtain ⟨_, xa, xn, xc, rfl⟩ := hx1
      have HX : Hid (w2.ownsRow wr.heap.size 9 1 (.slice xa xn xc) (D.sure k) (blks (D.blk k) (D.sure k))) := hx
      have HM2 : Hid (Cel w2 (w.heap.size + 1) 10 (icell (ivTo iv k) ⟨#[]⟩ ⟨#[]⟩)) := hm2
      clear hm2 hx
      go_wp2_with fail
      go_roundw
      case rel =>
        refine ⟨k + 1, fun z => if z = k then .slice xa xn xc else iv z, by omega, by go_num, (HM2.out.set k (by omega) _).congr (fun j hj => ?_), ((HR.out.since hS2).other (by simp) _).congr (fun j hj => rfl), fun z hz => ?_, (HS.out.trans hS2).setCell (by simp) _, by have := hS2.size; simp; omega⟩
        · unfold updv icell ivTo
          by_cases h1 : j = k
          · subst h1
            dsimp only
            rw [if_pos rfl, if_pos hlt, if_pos (by omega), if_pos rfl]
          · rw [if_neg h1]
            by_cases h2 : j < 8
            · rw [if_pos h2, if_pos h2]
              by_cases h3 : j < k
              · dsimp only
                rw [if_pos h3, if_pos (by omega), if_neg h1]
              · rw [if_neg h3, if_neg (by omega)]
            · rw [if_neg h2, if_neg h2]
        · by_cases h1 : z = k
          · subst h1
            simp only [if_true]
            exact ownsRow_setCell_below (ownsRow_base HX.out (by omega)) (by simp) _
          · simp only [if_neg h1]
            exact ownsRow_setCell_below (ownsRow_since (HW.out z (by omega)) hS2) (by simp) _
      case measure => simp [intOf]; omega
    · have hke : k = 8 := by omega
      subst hke
      clear hm hr hrow hS
      go_wp2_with fail
      have hiv : ∀ j, j < 8 → ivTo iv 8 j = iv j := fun j hj => by unfold ivTo; rw [if_pos hj]
      have hcv0 := conv_txt wr b 16400 500 500 (D.slot 0) (fun i hi => by rw [(HD.out.since HS.out).cel.cell _ (by omega)]; exact congrArg some (dcell_slot D v 0 i (by omega) hi))
      have c8 := HM.out.cell 8 (by omega)
      have f8 := HM.out.frozen 8 (by omega)
      refine wp_loop_rounds 3 ?_
      rw [rounds_succ]
      go_wp2_with fail
      have hm1 := HM.out.set 8 (by omega) (.string (txt 500 (D.slot 0)))
      have hr1 := HR.out.other (a := ⟨w.heap.size + 1, 8, none⟩) (by simp) (.string (txt 500 (D.slot 0)))
      have hS1 := HS.out.setCell (p := ⟨w.heap.size + 1, 8, none⟩) (by simp) (.string (txt 500 (D.slot 0)))
      have hw1 : ∀ z, z < 8 → (wr.setCell ⟨w.heap.size + 1, 8, none⟩ (.string (txt 500 (D.slot 0)))).ownsRow (w.heap.size + 2) 9 1 (iv z) (D.sure z) (blks (D.blk z) (D.sure z)) := fun z hz => ownsRow_setCell_below (HW.out z hz) (by simp) _
      generalize wr.setCell ⟨w.heap.size + 1, 8, none⟩ (.string (txt 500 (D.slot 0))) = w1 at *
      have hcv1 := conv_txt w1 b 16900 500 500 (D.slot 1) (fun i hi => by rw [(HD.out.since hS1).cel.cell _ (by omega)]; exact congrArg some (dcell_slot D v 1 i (by omega) hi))
      have c9 := hm1.cell 9 (by omega)
      have f9 := hm1.frozen 9 (by omega)
      have HM1 : Hid (Cel w1 (w.heap.size + 1) 10 _) := hm1
      have HR1 : Hid (Cel w1 w.heap.size 10 _) := hr1
      have HS1 : Hid (Since w w1) := hS1
      have HW1 : Hid (∀ z, z < 8 → w1.ownsRow (w.heap.size + 2) 9 1 (iv z) (D.sure z) (blks (D.blk z) (D.sure z))) := hw1
      clear hm1 hr1 hS1 hw1 hcv0 c8 f8
      rw [rounds_succ]
      go_wp2_with fail
      have hm2 := HM1.out.set 9 (by omega) (.string (txt 500 (D.slot 1)))
      have hr2 := HR1.out.other (a := ⟨w.heap.size + 1, 9, none⟩) (by simp) (.string (txt 500 (D.slot 1)))
      have hS2 := HS1.out.setCell (p := ⟨w.heap.size + 1, 9, none⟩) (by simp) (.string (txt 500 (D.slot 1)))
      have hw2 : ∀ z, z < 8 → (w1.setCell ⟨w.heap.size + 1, 9, none⟩ (.string (txt 500 (D.slot 1)))).ownsRow (w.heap.size + 2) 9 1 (iv z) (D.sure z) (blks (D.blk z) (D.sure z)) := fun z hz => ownsRow_setCell_below (HW1.out z hz) (by simp) _
      generalize w1.setCell ⟨w.heap.size + 1, 9, none⟩ (.string (txt 500 (D.slot 1))) = w2 at *
      have hm3 : Cel w2 (w.heap.size + 1) 10 (icell iv (txt 500 (D.slot 0)) (txt 500 (D.slot 1))) := hm2.congr (fun j hj => by
        unfold updv icell
        by_cases h9 : j = 9
        · subst h9; rfl
        · rw [if_neg h9]
          by_cases h8 : j = 8
          · subst h8; rfl
          · rw [if_neg h8, if_pos (by omega), if_pos (by omega), hiv j (by omega)])
      have hR := hm3.range 0 10 (by omega)
      simp only [Nat.zero_add] at hR
      have hic1 : ∀ j, j < 10 → (icell iv (txt 500 (D.slot 0)) (txt 500 (D.slot 1)) j).oneCell' = true := fun j hj => by
        unfold icell
        by_cases h : j < 8
        · rw [if_pos h]
          rcases (hw2 j h).2 with ⟨e, _⟩ | ⟨g, cap, cur, e, _⟩ <;> rw [e] <;> rfl
        · rw [if_neg h]
          split <;> rfl
      have hst := hr2.store Tryz.prog 0 10 (by omega) (icell iv (txt 500 (D.slot 0)) (txt 500 (D.slot 1))) hic1
      have hL : (brow 10 (icell iv (txt 500 (D.slot 0)) (txt 500 (D.slot 1)))).length = 10 := brow_length _ _
      have hr3 := (hr2.setRow 0 10 (by omega) (icell iv (txt 500 (D.slot 0)) (txt 500 (D.slot 1)))).congr (g := icell iv (txt 500 (D.slot 0)) (txt 500 (D.slot 1))) (fun j hj => by unfold updl; rw [if_pos (by omega)]; rfl)
      have hR3 := hr3.range 0 10 (by omega)
      simp only [Nat.zero_add] at hR3
      have HR3 : Hid _ := hR3
      have HS3 : Hid (Since w _) := hS2.setCells (b := w.heap.size) (by simp) (brow 10 (icell iv (txt 500 (D.slot 0)) (txt 500 (D.slot 1)))) 0
      have HW3 : Hid (∀ z, z < 8 → (w2.setCells w.heap.size 0 (brow 10 (icell iv (txt 500 (D.slot 0)) (txt 500 (D.slot 1))))).ownsRow w.heap.size 9 1 (iv z) (D.sure z) (blks (D.blk z) (D.sure z))) := fun z hz =>
        ownsRow_base (ownsRow_fr (hw2 z hz) (Fr.setCells w.heap.size none _ 0 w2) (fun e => by have := ((hw2 z hz).lt _ e).1; omega) (by
          cases hv : (iv z).ownBlock with
          | none => exact Or.inl rfl
          | some k => exact Or.inr (by simp))) (by omega)
      clear hm2 hr2 hS2 hw2 hm3 hic1 hr3 hR3 hcv1 c9 f9
      rw [rounds_succ]
      generalize hcs : brow 10 (icell iv (txt 500 (D.slot 0)) (txt 500 (D.slot 1))) = cs at *
      go_wp2_with (refine wpList_load_mid (by rfl) 48 _ (by rfl) (w.heap.size + 1) 0 (by rfl) _ _ hR Tryz.underlying48 (by rfl) (by rw [hL]; kernel_rfl) ?_)
      refine bodyPost_ret (results_row Tryz.results20 _ _ _ w.heap.size _ _ (by rfl) HR3.out Tryz.underlying48 (by rfl) (by rw [hL]; kernel_rfl)) rfl ⟨iv, by rw [hcs], HW3.out, HS3.out⟩
end Go.Proofs.YtbfjklpoheooaaaGreatDoor
end
section
namespace Go.Proofs.YtbfjklpoheooaaaGreatDoor
open Go.RowKit
def laidBlk (l : Nat → ByteArray) (m : Nat) : Nat → Nat → UInt8 := fun k i => if k < m then sb (l k) i else 0
theorem laidBlk_succ (l : Nat → ByteArray) (m : Nat) : (fun k i => if k = m then sb (l m) i else laidBlk l m k i) = laidBlk l (m + 1) := by
  funext k i
  unfold laidBlk
  by_cases h : k = m
  · subst h; rw [if_pos rfl, if_pos (by omega)]
  · rw [if_neg h]
    by_cases h2 : k < m
    · rw [if_pos h2, if_pos (by omega)]
    · rw [if_neg h2, if_neg (by omega)]
theorem scell_sure (blk : Nat → Nat → UInt8) (m s j : Nat) (hj : j < 2050) : updv (scell blk m s) 2049 (.int .i64 m) j = scell blk m m j := by
  unfold updv scell
  by_cases h : j = 2049
  · rw [if_pos h, if_neg (by omega), if_neg (by omega)]
  · rw [if_neg h]
    by_cases h1 : j < 2048
    · rw [if_pos h1, if_pos h1]
    · rw [if_neg h1, if_neg h1, if_pos (by omega), if_pos (by omega)]
def Txs (w : World) (a : Option Addr) (n : Nat) (l : Nat → ByteArray) : Prop := 0 < n → ∃ k o, a = some ⟨k, o, none⟩ ∧ ∀ j, j < n → w.cell? ⟨k, o + j, none⟩ = some (.string (l j))
set_option maxRecDepth 100000 in
set_option maxHeartbeats 2000000 in
theorem laid_few (a : Option Addr) (n c : Nat) (l : Nat → ByteArray) (w : World) (hs : Txs w a n l) (hc : n ≤ c) (hn : n ≤ 16) :
    Calls Tryz.prog 62 #[.slice a n c] w fun e w' => e = .returned (.agg (brow 2050 (scell (laidBlk l n) n n)).toArray) ∧ Since w w' := by
  have HT : Hid (Txs w a n l) := hs
  clear hs
  have hB : Cel ((w.alloc (.cells Tryz.zeroCells81 81)).alloc (.cells Tryz.zeroCells81 81)) w.heap.size 2050 (scell (fun _ _ => 0) 0 0) := (Cel.new w _ _ _ _ (fun j hj => zeroStrip_get j hj) _ rfl).since ((Since.refl _).alloc _)
  have hA : Cel ((w.alloc (.cells Tryz.zeroCells81 81)).alloc (.cells Tryz.zeroCells81 81)) (w.heap.size + 1) 2050 (scell (laidBlk l 0) 0 0) := (Cel.new (w.alloc _) _ _ _ _ (fun j hj => zeroStrip_get j hj) _ (by simp))
  have hS : Since w ((w.alloc (.cells Tryz.zeroCells81 81)).alloc (.cells Tryz.zeroCells81 81)) := ((Since.refl w).alloc _).alloc _
  have HB : Hid (Cel _ w.heap.size 2050 (scell (fun _ _ => 0) 0 0)) := hB
  have HA : Hid (Cel _ (w.heap.size + 1) 2050 (scell (laidBlk l 0) 0 0)) := hA
  have HS : Hid (Since w _) := hS
  have HC : Hid (n ≤ c) := hc
  clear hA hB hS
  have hni : (n : Int) ≤ 16 := by omega
  go_enter Tryz.func62, Tryz.ntmps62
  go_wp2_with fail
  skip
  go_loopw [12] (fun i wr => ∃ k : Nat, k ≤ n ∧ i = .int .i64 k ∧ Cel wr (w.heap.size + 1) 2050 (scell (laidBlk l k) k 0) ∧ Cel wr w.heap.size 2050 (scell (fun _ _ => 0) 0 0) ∧ Since w wr) (fun i _ => n - (intOf i).toNat)
  case atStart => exact ⟨0, by omega, rfl, HA.out, HB.out, HS.out⟩
  case round =>
    obtain ⟨k, hk, rfl, hz, hr, hsn⟩ := hrel
    have HZ : Hid (Cel wr (w.heap.size + 1) 2050 (scell (laidBlk l k) k 0)) := hz
    have HR : Hid (Cel wr w.heap.size 2050 (scell (fun _ _ => 0) 0 0)) := hr
    have HSN : Hid (Since w wr) := hsn
    clear hz hr hsn HA HB HS
    by_cases hlt : k < n
    · have hlt2 : (k : Int) < (n : Nat) := by omega
      obtain ⟨lk, lo, rfl, hlc⟩ := HT.out (by omega)
      have q1 := (HSN.out.cell (p := ⟨lk, lo + k, none⟩) (World.block_lt_of_cell? w _ (hlc k (by omega)))).trans (hlc k (by omega))
      clear hlc
      go_wp2_with fail
      refine (add_any (w.heap.size + 1) 0 k 2050 (scell (laidBlk l k) k 0) (l k) _ HZ.out (by omega) (by unfold scell; rfl) (by omega)).mono ?_
      rintro e w2 ⟨rfl, hw2⟩
      have hz2 : Cel w2 (w.heap.size + 1) 2050 (scell (laidBlk l (k + 1)) (k + 1) 0) := by
        rw [hw2, Nat.zero_add, Nat.zero_add]
        refine (((HZ.out.since (Since.refl _).drew).setRow (k * 128) (min (l k).size 128) (by omega) (fun i => bv (sb (l k) i))).set 2048 (by omega) (.int .i64 (k + 1))).congr (fun j hj => ?_)
        rw [scell_add (laidBlk l k) k 0 (l k) (by omega) (fun i _ => by unfold laidBlk; rw [if_neg (by omega)]) j hj, laidBlk_succ]
      have hr2 : Cel w2 w.heap.size 2050 (scell (fun _ _ => 0) 0 0) := by
        rw [hw2]
        exact ((HR.out.since (Since.refl _).drew).setRow_other _ (by omega)).other (by simp) _
      have hs2 : Since w w2 := by
        rw [hw2]
        exact ((HSN.out.drew).setCells (by omega) _ _).setCell (by simp) _
      have HZ2 : Hid (Cel w2 (w.heap.size + 1) 2050 (scell (laidBlk l (k + 1)) (k + 1) 0)) := hz2
      have HR2 : Hid (Cel w2 w.heap.size 2050 (scell (fun _ _ => 0) 0 0)) := hr2
      have HS2 : Hid (Since w w2) := hs2
      clear hw2 hz2 hr2 hs2 q1
      go_wp2_with fail
      go_roundw
      case rel => exact ⟨k + 1, by omega, by go_num, HZ2.out, HR2.out, HS2.out⟩
      case measure => simp [intOf]; omega
    · have hke : n = k := by omega
      subst hke
      have c1 := HZ.out.cell 2048 (by omega)
      rw [show scell (laidBlk l n) n 0 2048 = .int .i64 (n : Nat) by unfold scell; rfl] at c1
      have c2 := HZ.out.cell 2049 (by omega)
      have f2 := HZ.out.frozen 2049 (by omega)
      have hz3 : Cel (wr.setCell ⟨w.heap.size + 1, 2049, none⟩ (.int .i64 (n : Nat))) (w.heap.size + 1) 2050 (scell (laidBlk l n) n n) := (HZ.out.set 2049 (by omega) _).congr (fun j hj => scell_sure _ n 0 j hj)
      have hr3 : Cel (wr.setCell ⟨w.heap.size + 1, 2049, none⟩ (.int .i64 (n : Nat))) w.heap.size 2050 (scell (fun _ _ => 0) 0 0) := HR.out.other (by simp) _
      have hs3 : Since w (wr.setCell ⟨w.heap.size + 1, 2049, none⟩ (.int .i64 (n : Nat))) := HSN.out.setCell (by simp) _
      skip
      have hR := hz3.range 0 2050 (by omega)
      simp only [Nat.zero_add] at hR
      have hst := hr3.store Tryz.prog 0 2050 (by omega) (scell (laidBlk l n) n n) (fun _ _ => scell_one _ _ _ _)
      have hr4 := (hr3.setRow 0 2050 (by omega) (scell (laidBlk l n) n n)).congr (g := scell (laidBlk l n) n n) (fun j hj => by unfold updl; rw [if_pos (by omega)]; congr 1)
      have hR4 := hr4.range 0 2050 (by omega)
      simp only [Nat.zero_add] at hR4
      have hL : (brow 2050 (scell (laidBlk l n) n n)).length = 2050 := brow_length _ _
      have HR4 : Hid _ := hR4
      have HS4 : Hid (Since w _) := hs3.setCells (b := w.heap.size) (Nat.le_refl _) (brow 2050 (scell (laidBlk l n) n n)) 0
      clear hz3 hr3 hs3 hr4 hR4
      generalize hcs : brow 2050 (scell (laidBlk l n) n n) = cs at *
      go_wp2_with (refine wpList_load_mid (by rfl) 81 _ (by rfl) (w.heap.size + 1) 0 (by rfl) _ _ hR Tryz.underlying81 (by rfl) (by rw [hL]; kernel_rfl) ?_)
      exact bodyPost_ret (results_row Tryz.results62 _ _ _ w.heap.size _ _ (by rfl) HR4.out Tryz.underlying81 (by rfl) (by rw [hL]; kernel_rfl)) rfl ⟨by rw [hcs], HS4.out⟩
set_option maxRecDepth 100000 in
set_option maxHeartbeats 2000000 in
theorem laid_many (a : Option Addr) (n c : Nat) (l : Nat → ByteArray) (w : World) (hs : Txs w a n l) (hc : n ≤ c) (hn : 16 < n) :
    Calls Tryz.prog 62 #[.slice a n c] w fun e w' => e = .returned (.agg (brow 2050 (scell (laidBlk l 16) 16 16)).toArray) ∧ Since w w' := by
  have HT : Hid (Txs w a n l) := hs
  clear hs
  have hB : Cel ((w.alloc (.cells Tryz.zeroCells81 81)).alloc (.cells Tryz.zeroCells81 81)) w.heap.size 2050 (scell (fun _ _ => 0) 0 0) := (Cel.new w _ _ _ _ (fun j hj => zeroStrip_get j hj) _ rfl).since ((Since.refl _).alloc _)
  have hA : Cel ((w.alloc (.cells Tryz.zeroCells81 81)).alloc (.cells Tryz.zeroCells81 81)) (w.heap.size + 1) 2050 (scell (laidBlk l 0) 0 0) := (Cel.new (w.alloc _) _ _ _ _ (fun j hj => zeroStrip_get j hj) _ (by simp))
  have hS : Since w ((w.alloc (.cells Tryz.zeroCells81 81)).alloc (.cells Tryz.zeroCells81 81)) := ((Since.refl w).alloc _).alloc _
  have HB : Hid (Cel _ w.heap.size 2050 (scell (fun _ _ => 0) 0 0)) := hB
  have HA : Hid (Cel _ (w.heap.size + 1) 2050 (scell (laidBlk l 0) 0 0)) := hA
  have HS : Hid (Since w _) := hS
  have HC : Hid (n ≤ c) := hc
  clear hA hB hS
  have hni : ¬ (n : Int) ≤ 16 := by omega
  have h16c : 16 ≤ c := by omega
  go_enter Tryz.func62, Tryz.ntmps62
  go_wp2_with fail
  try rw [show (max (16 : Int) 0) = 16 from rfl]
  go_loopw [12] (fun i wr => ∃ k : Nat, k ≤ 16 ∧ i = .int .i64 k ∧ Cel wr (w.heap.size + 1) 2050 (scell (laidBlk l k) k 0) ∧ Cel wr w.heap.size 2050 (scell (fun _ _ => 0) 0 0) ∧ Since w wr) (fun i _ => 16 - (intOf i).toNat)
  case atStart => exact ⟨0, by omega, rfl, HA.out, HB.out, HS.out⟩
  case round =>
    obtain ⟨k, hk, rfl, hz, hr, hsn⟩ := hrel
    have HZ : Hid (Cel wr (w.heap.size + 1) 2050 (scell (laidBlk l k) k 0)) := hz
    have HR : Hid (Cel wr w.heap.size 2050 (scell (fun _ _ => 0) 0 0)) := hr
    have HSN : Hid (Since w wr) := hsn
    clear hz hr hsn HA HB HS
    by_cases hlt : k < 16
    · have hlt2 : (k : Int) < (16 : Nat) := by omega
      obtain ⟨lk, lo, rfl, hlc⟩ := HT.out (by omega)
      have q1 := (HSN.out.cell (p := ⟨lk, lo + k, none⟩) (World.block_lt_of_cell? w _ (hlc k (by omega)))).trans (hlc k (by omega))
      clear hlc
      go_wp2_with fail
      refine (add_any (w.heap.size + 1) 0 k 2050 (scell (laidBlk l k) k 0) (l k) _ HZ.out (by omega) (by unfold scell; rfl) (by omega)).mono ?_
      rintro e w2 ⟨rfl, hw2⟩
      have hz2 : Cel w2 (w.heap.size + 1) 2050 (scell (laidBlk l (k + 1)) (k + 1) 0) := by
        rw [hw2, Nat.zero_add, Nat.zero_add]
        refine (((HZ.out.since (Since.refl _).drew).setRow (k * 128) (min (l k).size 128) (by omega) (fun i => bv (sb (l k) i))).set 2048 (by omega) (.int .i64 (k + 1))).congr (fun j hj => ?_)
        rw [scell_add (laidBlk l k) k 0 (l k) (by omega) (fun i _ => by unfold laidBlk; rw [if_neg (by omega)]) j hj, laidBlk_succ]
      have hr2 : Cel w2 w.heap.size 2050 (scell (fun _ _ => 0) 0 0) := by
        rw [hw2]
        exact ((HR.out.since (Since.refl _).drew).setRow_other _ (by omega)).other (by simp) _
      have hs2 : Since w w2 := by
        rw [hw2]
        exact ((HSN.out.drew).setCells (by omega) _ _).setCell (by simp) _
      have HZ2 : Hid (Cel w2 (w.heap.size + 1) 2050 (scell (laidBlk l (k + 1)) (k + 1) 0)) := hz2
      have HR2 : Hid (Cel w2 w.heap.size 2050 (scell (fun _ _ => 0) 0 0)) := hr2
      have HS2 : Hid (Since w w2) := hs2
      clear hw2 hz2 hr2 hs2 q1
      go_wp2_with fail
      go_roundw
      case rel => exact ⟨k + 1, by omega, by go_num, HZ2.out, HR2.out, HS2.out⟩
      case measure => simp [intOf]; omega
    · have hke : 16 = k := by omega
      subst hke
      have c1 := HZ.out.cell 2048 (by omega)
      rw [show scell (laidBlk l 16) 16 0 2048 = .int .i64 (16 : Nat) by unfold scell; rfl] at c1
      have c2 := HZ.out.cell 2049 (by omega)
      have f2 := HZ.out.frozen 2049 (by omega)
      have hz3 : Cel (wr.setCell ⟨w.heap.size + 1, 2049, none⟩ (.int .i64 (16 : Nat))) (w.heap.size + 1) 2050 (scell (laidBlk l 16) 16 16) := (HZ.out.set 2049 (by omega) _).congr (fun j hj => scell_sure _ 16 0 j hj)
      have hr3 : Cel (wr.setCell ⟨w.heap.size + 1, 2049, none⟩ (.int .i64 (16 : Nat))) w.heap.size 2050 (scell (fun _ _ => 0) 0 0) := HR.out.other (by simp) _
      have hs3 : Since w (wr.setCell ⟨w.heap.size + 1, 2049, none⟩ (.int .i64 (16 : Nat))) := HSN.out.setCell (by simp) _
      simp only [Int.cast_ofNat_Int] at c1 hz3 hr3 hs3
      have hR := hz3.range 0 2050 (by omega)
      simp only [Nat.zero_add] at hR
      have hst := hr3.store Tryz.prog 0 2050 (by omega) (scell (laidBlk l 16) 16 16) (fun _ _ => scell_one _ _ _ _)
      have hr4 := (hr3.setRow 0 2050 (by omega) (scell (laidBlk l 16) 16 16)).congr (g := scell (laidBlk l 16) 16 16) (fun j hj => by unfold updl; rw [if_pos (by omega)]; congr 1)
      have hR4 := hr4.range 0 2050 (by omega)
      simp only [Nat.zero_add] at hR4
      have hL : (brow 2050 (scell (laidBlk l 16) 16 16)).length = 2050 := brow_length _ _
      have HR4 : Hid _ := hR4
      have HS4 : Hid (Since w _) := hs3.setCells (b := w.heap.size) (Nat.le_refl _) (brow 2050 (scell (laidBlk l 16) 16 16)) 0
      clear hz3 hr3 hs3 hr4 hR4
      generalize hcs : brow 2050 (scell (laidBlk l 16) 16 16) = cs at *
      go_wp2_with (refine wpList_load_mid (by rfl) 81 _ (by rfl) (w.heap.size + 1) 0 (by rfl) _ _ hR Tryz.underlying81 (by rfl) (by rw [hL]; kernel_rfl) ?_)
      exact bodyPost_ret (results_row Tryz.results62 _ _ _ w.heap.size _ _ (by rfl) HR4.out Tryz.underlying81 (by rfl) (by rw [hL]; kernel_rfl)) rfl ⟨by rw [hcs], HS4.out⟩
theorem laid_any (a : Option Addr) (n c : Nat) (l : Nat → ByteArray) (w : World) (hs : Txs w a n l) (hc : n ≤ c) :
    Calls Tryz.prog 62 #[.slice a n c] w fun e w' => e = .returned (.agg (brow 2050 (scell (laidBlk l (min n 16)) (min n 16) (min n 16))).toArray) ∧ Since w w' := by
  by_cases h : n ≤ 16
  · rw [Nat.min_eq_left h]; exact laid_few a n c l w hs hc h
  · rw [Nat.min_eq_right (by omega)]; exact laid_many a n c l w hs hc (by omega)
end Go.Proofs.YtbfjklpoheooaaaGreatDoor
end
section
namespace Go.Proofs.YtbfjklpoheooaaaGreatDoor
open Go.RowKit
def Dv.layTo (D : Dv) (n : Nat → Nat) (l : Nat → Nat → ByteArray) (k : Nat) : Dv :=
  { D with blk := fun z => if z < k then laidBlk (l z) (min (n z) 16) else D.blk z, cnt := fun z => if z < k then min (n z) 16 else D.cnt z, sure := fun z => if z < k then min (n z) 16 else D.sure z }
theorem layTo_ok (D : Dv) (n : Nat → Nat) (l : Nat → Nat → ByteArray) (k : Nat) (h : D.ok) : (D.layTo n l k).ok where
  cnt z hz := by
    show (if z < k then _ else _) ≤ 16
    split
    · omega
    · exact h.cnt z hz
  sure z hz := by
    show (if z < k then _ else _) ≤ (if z < k then _ else _)
    split
    · exact Nat.le_refl _
    · exact h.sure z hz
  zero z j i hz hk hk2 hi := by
    show (if z < k then laidBlk (l z) (min (n z) 16) else D.blk z) j i = 0
    have hk' : (if z < k then min (n z) 16 else D.cnt z) ≤ j := hk
    by_cases e : z < k
    · rw [if_pos e] at hk' ⊢
      unfold laidBlk
      rw [if_neg (by omega)]
    · rw [if_neg e] at hk' ⊢
      exact h.zero z j i hz hk' hk2 hi
  left := h.left
  ws := h.ws
  few := h.few
set_option maxRecDepth 100000 in
theorem layTo_dev (D : Dv) (v : Value) (b k : Nat) (n : Nat → Nat) (l : Nat → Nat → ByteArray) (w : World) (hd : Dev w b (D.layTo n l k) v) (hok : D.ok) (hk : k < 8) : Dev (w.setCells b (k * 2050) (brow 2050 (scell (laidBlk (l k) (min (n k) 16)) (min (n k) 16) (min (n k) 16)))) b (D.layTo n l (k + 1)) v := by
  refine hd.turn ((hd.cel.setRow (k * 2050) 2050 (by omega) _).congr (fun j hj => ?_)) (Fr.setCells _ _ _ _ _) rfl (layTo_ok D n l (k + 1) hok)
  have hne : ∀ {α : Type} (z' : Nat) (x y : α), z' ≠ k → (if z' < k + 1 then x else y) = if z' < k then x else y := fun z' x y h => by
    by_cases h1 : z' < k
    · rw [if_pos h1, if_pos (by omega)]
    · rw [if_neg h1, if_neg (by omega)]
  refine dcell_turn (D.layTo n l k) (D.layTo n l (k + 1)) v k hk _ (fun j hj => ?_) (fun j hj => ?_) (fun z' h => ?_) (fun z' h => ?_) (fun z' h => ?_) rfl rfl rfl j
  · unfold updl
    rw [if_pos (by omega), show k * 2050 + j - k * 2050 = j by omega]
    have e1 : (D.layTo n l (k + 1)).blk k = laidBlk (l k) (min (n k) 16) := by show (if k < k + 1 then _ else _) = _; rw [if_pos (by omega)]
    have e2 : (D.layTo n l (k + 1)).cnt k = min (n k) 16 := by show (if k < k + 1 then _ else _) = _; rw [if_pos (by omega)]
    have e3 : (D.layTo n l (k + 1)).sure k = min (n k) 16 := by show (if k < k + 1 then _ else _) = _; rw [if_pos (by omega)]
    rw [e1, e2, e3]
  · unfold updl
    rw [if_neg (by omega)]
  · exact hne z' _ _ h
  · exact hne z' _ _ h
  · exact hne z' _ _ h
def Dv.laidBy (D : Dv) (n : Nat → Nat) (l : Nat → Nat → ByteArray) (s0 s1 : ByteArray) : Dv := (((D.layTo n l 8).slotTo 0 (sb s0)).slotTo 1 (sb s1)).none
theorem part_any (t : TypeId) (xs : Array Value) (i : Nat) (x : Value) (w : World) (ha : (isAgg t).run Tryz.prog w = .ok false w) (h : xs[i]? = some x) : (part t xs i).run Tryz.prog w = .ok x w := by
  simp [part, h, ha, Result.andThen]
theorem idx_azs (iv : Nat → Value) (k : Nat) (hk : k < 8) (w : World) : (Instr.index 45 (.agg (brow 8 iv).toArray) (.int .i64 (k : Int))).run Tryz.prog w = .ok (iv k) w := by
  have hp := part_any 44 (brow 8 iv).toArray k (iv k) w (Tryz.isAgg44 w) (by rw [List.getElem?_toArray]; exact brow_get _ _ _ hk)
  have hz : (Go.sizeOf 44).run Tryz.prog w = .ok 1 w := Tryz.sizeOf44 w
  have h2 : (0 : Int) ≤ k ∧ (k : Int) < 8 := by omega
  simp [Instr.index, go_sem, run_underlying Tryz.underlying45, hz, hk, brow_get 8 iv k hk, Result.andThen]
theorem idx_ass (sv : Nat → Value) (k : Nat) (hk : k < 2) (w : World) : (Instr.index 46 (.agg (brow 2 sv).toArray) (.int .i64 (k : Int))).run Tryz.prog w = .ok (sv k) w := by
  have hp := part_any 9 (brow 2 sv).toArray k (sv k) w (Tryz.isAgg9 w) (by rw [List.getElem?_toArray]; exact brow_get _ _ _ hk)
  have hz : (Go.sizeOf 9).run Tryz.prog w = .ok 1 w := Tryz.sizeOf9 w
  have h2 : (0 : Int) ≤ k ∧ (k : Int) < 2 := by omega
  simp [Instr.index, go_sem, run_underlying Tryz.underlying46, hz, hk, brow_get 2 sv k hk, Result.andThen]
structure Img (w : World) (b : Nat) (iv : Nat → Value) (n : Nat → Nat) (l : Nat → Nat → ByteArray) : Prop where
  row : ∀ z, z < 8 → ∃ a c, iv z = .slice a (n z) c ∧ n z ≤ c ∧ (0 < n z → ∃ k o, a = some ⟨k, o, none⟩ ∧ k ≠ b ∧ ∀ j, j < n z → w.cell? ⟨k, o + j, none⟩ = some (.string (l z j)))
theorem Img.fr {w w' : World} {b : Nat} {iv : Nat → Value} {n : Nat → Nat} {l : Nat → Nat → ByteArray} (h : Img w b iv n l) (hf : Fr b none w w') : Img w' b iv n l where
  row z hz := by
    obtain ⟨a, c, h1, h2, h3⟩ := h.row z hz
    refine ⟨a, c, h1, h2, fun hn => ?_⟩
    obtain ⟨k, o, ha, hk, hc⟩ := h3 hn
    exact ⟨k, o, ha, hk, fun j hj => (hf.cell (p := ⟨k, o + j, none⟩) (World.block_lt_of_cell? w _ (hc j hj)) hk (by simp)).trans (hc j hj)⟩
theorem img_get (iv : Nat → Value) (s0 s1 : ByteArray) (j : Nat) (hj : j < 10) : (brow 10 (icell iv s0 s1)).toArray[j]? = some (icell iv s0 s1 j) := by
  rw [List.getElem?_toArray]; exact brow_get _ _ _ hj
set_option maxRecDepth 100000 in
set_option maxHeartbeats 2000000 in
theorem lay_any (D : Dv) (v : Value) (b : Nat) (iv : Nat → Value) (s0 s1 : ByteArray) (n : Nat → Nat) (l : Nat → Nat → ByteArray) (w : World) (hd : Dev w b D v) (hi : Img w b iv n l) :
    Calls Tryz.prog 22 #[.pointer (some ⟨b, 0, none⟩), .agg (brow 10 (icell iv s0 s1)).toArray] w fun e w' => e = .returned (.tuple #[]) ∧ Dev w' b (D.laidBy n l s0 s1) (.slice none 0 0) ∧ Fr b none w w' := by
  have HD : Hid (Dev w b D v) := hd
  have HI : Hid (Img w b iv n l) := hi
  have hbl : b ≠ w.heap.size := by have := hd.lt; omega
  clear hd hi
  go_enter Tryz.func22, Tryz.ntmps22
  go_wp2_with fail
  have hC : Cel (w.alloc (.cells (brow 10 (icell iv s0 s1)).toArray 48)) w.heap.size 10 (icell iv s0 s1) := Cel.new w _ _ _ _ (img_get iv s0 s1) _ rfl
  have hS : Since w (w.alloc (.cells (brow 10 (icell iv s0 s1)).toArray 48)) := (Since.refl w).alloc _
  generalize w.alloc (.cells (brow 10 (icell iv s0 s1)).toArray 48) = w0 at *
  have HC : Hid (Cel w0 w.heap.size 10 (icell iv s0 s1)) := hC
  have HD0 : Hid (Dev w0 b (D.layTo n l 0) v) := HD.out.since hS
  have HI0 : Hid (Img w0 b iv n l) := HI.out.fr (Fr.of_since hS)
  have HF0 : Hid (Fr b none w w0) := Fr.of_since hS
  have HOK : Hid (D.ok) := HD.out.ok
  clear hC hS HD HI
  refine (orNew_any _ _).mono ?_
  rintro e w' ⟨rfl, rfl⟩
  have hR : w'.rangeAt w.heap.size 0 (brow 8 iv) := by
    have h := HC.out.range 0 8 (by omega)
    have e : brow 8 (fun j => icell iv s0 s1 (0 + j)) = brow 8 iv := by
      unfold brow
      exact List.map_congr_left (fun j hj => by unfold icell; rw [Nat.zero_add, if_pos (List.mem_range.1 hj)])
    rw [e] at h
    exact h
  have hL : (brow 8 iv).length = 8 := brow_length _ _
  have hix := fun (k : Nat) (hk : k < 8) (w : World) => idx_azs iv k hk w
  have HIX : Hid (∀ (k : Nat) (hk : k < 8) (w : World), (Instr.index 45 (.agg (brow 8 iv).toArray) (.int .i64 (k : Int))).run Tryz.prog w = .ok (iv k) w) := hix
  clear hix
  generalize hcs : brow 8 iv = cs at *
  go_wp2_with (refine wpList_load_mid (by rfl) 45 _ (by rfl) w.heap.size 0 (by rfl) _ _ hR Tryz.underlying45 (by rfl) (by rw [hL]; kernel_rfl) ?_)
  clear hR hL
  go_loopw [12] (fun i wr => ∃ k : Nat, k ≤ 8 ∧ i = .int .i64 k ∧ Dev wr b (D.layTo n l k) v ∧ Fr b none w' wr) (fun i _ => 8 - (intOf i).toNat)
  case atStart => exact ⟨0, by omega, rfl, HD0.out, Fr.refl _ _ _⟩
  case round =>
    obtain ⟨k, hk, rfl, hd, hf⟩ := hrel
    have HDK : Hid (Dev wr b (D.layTo n l k) v) := hd
    have HFK : Hid (Fr b none w' wr) := hf
    clear hd hf
    by_cases hlt : k < 8
    · have hlt2 : (k : Int) < 8 := by omega
      have hix := HIX.out k hlt
      obtain ⟨a, c, hiv, hnc, htx⟩ := (HI0.out.fr HFK.out).row k hlt
      rw [hiv] at hix
      have HTX : Hid (0 < n k → ∃ kb o, a = some ⟨kb, o, none⟩ ∧ kb ≠ b ∧ ∀ j, j < n k → wr.cell? ⟨kb, o + j, none⟩ = some (.string (l k j))) := htx
      clear htx hiv
      go_wp2_with fail
      clear hix
      go_region_with (go_at_call 62; refine (laid_any a (n k) c (l k) _ (fun h0 => by obtain ⟨kb, o, h1, _, h3⟩ := HTX.out h0; exact ⟨kb, o, h1, h3⟩) hnc).mono ?_; rintro e w1 ⟨rfl, hS1⟩; have hd1 := (HDK.out.since (Since.refl _).drew).since hS1; have hst := hd1.cel.store Tryz.prog (k * 2050) 2050 (by omega) (scell (laidBlk (l k) (min (n k) 16)) (min (n k) 16) (min (n k) 16)) (fun _ _ => scell_one _ _ _ _); have HD1 : Hid (Dev w1 b (D.layTo n l k) v) := hd1; clear hd1; have hL : (brow 2050 (scell (laidBlk (l k) (min (n k) 16)) (min (n k) 16) (min (n k) 16))).length = 2050 := brow_length _ _)
      have hd2 := layTo_dev D v b k n l w1 HD1.out HOK.out hlt
      have hf2 : Fr b none w' (w1.setCells b (k * 2050) (brow 2050 (scell (laidBlk (l k) (min (n k) 16)) (min (n k) 16) (min (n k) 16)))) := (HFK.out.trans' (Fr.of_since (Since.trans (Since.refl _).drew hS1))).trans' (Fr.setCells _ _ _ _ _)
      generalize w1.setCells b (k * 2050) _ = w2 at *
      have HD2 : Hid (Dev w2 b (D.layTo n l (k + 1)) v) := hd2
      have HF2 : Hid (Fr b none w' w2) := hf2
      clear hd2 hf2 hst HD1 hS1 hL
      go_wp2_with fail
      go_roundw
      case rel => exact ⟨k + 1, by omega, by go_num, HD2.out, HF2.out⟩
      case measure => simp [intOf]; omega
    · have hke : 8 = k := by omega
      subst hke
      have hC3 := HC.out.fr HFK.out (by omega) (by simp)
      have hR : wr.rangeAt w.heap.size 8 (brow 2 (fun j => if j = 0 then .string s0 else .string s1)) := by
        have h := hC3.range 8 2 (by omega)
        have e : brow 2 (fun j => icell iv s0 s1 (8 + j)) = brow 2 (fun j => if j = 0 then .string s0 else .string s1) := rfl
        rw [e] at h
        exact h
      have hL : (brow 2 (fun j => if j = 0 then Value.string s0 else .string s1)).length = 2 := brow_length _ _
      have hx0 := idx_ass (fun j => if j = 0 then .string s0 else .string s1) 0 (by omega)
      have hx1 := idx_ass (fun j => if j = 0 then .string s0 else .string s1) 1 (by omega)
      simp only [if_true, Nat.one_ne_zero, if_false, Int.cast_ofNat_Int] at hx0 hx1
      generalize hcs2 : brow 2 (fun j => if j = 0 then Value.string s0 else .string s1) = cs2 at *
      clear hC3
      go_wp2_with (refine wpList_load_mid (by rfl) 46 _ (by rfl) w.heap.size 8 (by rfl) _ _ hR Tryz.underlying46 (by rfl) (by rw [hL]; kernel_rfl) ?_)
      clear hR hL
      refine wp_loop_rounds 3 ?_
      rw [rounds_succ]
      go_wp2_with fail
      go_region_with (go_at_call 63; refine (slotOf_any s0 _).mono ?_; rintro e w1 ⟨rfl, hS1⟩; have hd1 := (HDK.out.since (Since.refl _).drew).since hS1; have hst := hd1.cel.store Tryz.prog 16400 500 (by omega) (fun i => bv (sb s0 i)) (fun _ _ => rfl); have HD1 : Hid (Dev w1 b (D.layTo n l 8) v) := hd1; clear hd1; have hL : (brow 500 (fun i => bv (sb s0 i))).length = 500 := brow_length _ _)
      have hd2 := slotTo_dev _ v b 0 (sb s0) w1 HD1.out (by omega)
      have hf2 : Fr b none w' (w1.setCells b (16400 + 0 * 500) (brow 500 (fun i => bv (sb s0 i)))) := (HFK.out.trans' (Fr.of_since (Since.trans (Since.refl _).drew hS1))).trans' (Fr.setCells _ _ _ _ _)
      rw [show 16400 + 0 * 500 = 16400 from rfl] at hd2 hf2
      generalize w1.setCells b 16400 (brow 500 (fun i => bv (sb s0 i))) = w2 at *
      have HD2 : Hid (Dev w2 b ((D.layTo n l 8).slotTo 0 (sb s0)) v) := hd2
      have HF2 : Hid (Fr b none w' w2) := hf2
      clear hd2 hf2 hst HD1 hS1 hL hx0
      go_wp2_with fail
      rw [rounds_succ]
      go_wp2_with fail
      go_region_with (go_at_call 63; refine (slotOf_any s1 _).mono ?_; rintro e w3 ⟨rfl, hS3⟩; have hd3 := (HD2.out.since (Since.refl _).drew).since hS3; have hst := hd3.cel.store Tryz.prog 16900 500 (by omega) (fun i => bv (sb s1 i)) (fun _ _ => rfl); have HD3 : Hid (Dev w3 b ((D.layTo n l 8).slotTo 0 (sb s0)) v) := hd3; clear hd3; have hL : (brow 500 (fun i => bv (sb s1 i))).length = 500 := brow_length _ _)
      have hd4 := slotTo_dev _ v b 1 (sb s1) w3 HD3.out (by omega)
      have hf4 : Fr b none w' (w3.setCells b (16400 + 1 * 500) (brow 500 (fun i => bv (sb s1 i)))) := (HF2.out.trans' (Fr.of_since (Since.trans (Since.refl _).drew hS3))).trans' (Fr.setCells _ _ _ _ _)
      rw [show 16400 + 1 * 500 = 16900 from rfl] at hd4 hf4
      generalize w3.setCells b 16900 (brow 500 (fun i => bv (sb s1 i))) = w4 at *
      have c4 := hd4.cel.cell 17400 (by omega)
      have f4 := hd4.cel.frozen 17400 (by omega)
      rw [dcell_ws] at c4
      have HD4 : Hid (Dev w4 b (((D.layTo n l 8).slotTo 0 (sb s0)).slotTo 1 (sb s1)) v) := hd4
      have HF4 : Hid (Fr b none w' w4) := hf4
      clear hd4 hf4 hst HD3 hS3 hL hx1
      go_wp2_with fail
      rw [rounds_succ]
      go_wp2_with fail
      go_end0
      exact ⟨rfl, none_dev _ v b w4 HD4.out, (HF0.out.trans' HF4.out).trans' (Fr.setCell _ _ _ _ _)⟩
end Go.Proofs.YtbfjklpoheooaaaGreatDoor
end
