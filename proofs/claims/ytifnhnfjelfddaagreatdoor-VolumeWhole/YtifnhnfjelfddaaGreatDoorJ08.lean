import Derived.BigRegion
import Derived.Test.YtifnhnfjelfddaaGreatDoorJ07
set_option linter.unusedSimpArgs false
set_option linter.unusedVariables false
section
namespace Go.Proofs.YtifnhnfjelfddaaGreatDoor
open Go.RowKit
set_option maxRecDepth 100000 in
set_option maxHeartbeats 1000000 in
theorem crash1_neg (b o c s n : Nat) (keep : Int) (f : Nat → Value) (w : World) (hc : Cel w b n f) (hn : o + 2050 ≤ n) (hcnt : f (o + 2048) = .int .i64 c) (hsr : f (o + 2049) = .int .i64 s) (hc16 : c ≤ 16) (hs : s ≤ c) (h0 : keep < 0) :
    Calls Tryz.prog 46 #[.pointer (some ⟨b, o, none⟩), .int .i64 keep] w fun e w' => e = .returned (.tuple #[]) ∧ Cel w' b n (crashed f o (kept1 c s keep)) ∧ Fr b none w w' := by
  have hcd := hc.since (Since.refl w).drew
  have c1 := hcd.cell (o + 2048) (by omega)
  have f1 := hcd.frozen (o + 2048) (by omega)
  rw [hcnt] at c1
  have c2 := hcd.cell (o + 2049) (by omega)
  rw [hsr] at c2
  have g0 : (0 : Int) ≤ c - s := by omega
  have g1 : ¬ (c : Int) - s < 0 := by omega
  have ek : kept1 c s keep = s := by unfold kept1; omega
  rw [ek]
  clear hcd
  go_enter Tryz.func46, Tryz.ntmps46
  go_wp2_with fail
  go_region
  have hC1 : Cel (w.setCell ⟨b, o + 2048, none⟩ (.int .i64 (s : Nat))).drew b n (updv f (o + 2048) (.int .i64 (s : Nat))) := (hc.set (o + 2048) (by omega) _).since (Since.refl _).drew
  have hF1 : Fr b none w (w.setCell ⟨b, o + 2048, none⟩ (.int .i64 (s : Nat))).drew := (Fr.setCell _ _ _ _ _).trans' (Fr.of_since (Since.refl _).drew)
  have HC := (show Hid _ from hc)
  clear hc c1 f1 c2
  generalize (w.setCell ⟨b, o + 2048, none⟩ (.int .i64 ((s : Nat) : Int))).drew = w1 at *
  have q1 := hC1.cell (o + 2048) (by omega)
  have q2 := hC1.cell (o + 2049) (by omega)
  have p2 := hC1.frozen (o + 2049) (by omega)
  rw [show updv f (o + 2048) (.int .i64 ((s : Nat) : Int)) (o + 2048) = .int .i64 ((s : Nat) : Int) by unfold updv; rw [if_pos rfl]] at q1
  have hC2 := hC1.set (o + 2049) (by omega) (.int .i64 ((s : Nat) : Int))
  have hF2 := hF1.trans' (Fr.setCell b none (o + 2049) w1 (.int .i64 ((s : Nat) : Int)))
  have HC1 := (show Hid _ from hC1)
  clear hC1 hF1
  generalize hq : s = q at *
  have hq16 : q ≤ 16 := by omega
  have HQ := (show Hid _ from hq)
  clear hq
  go_wp2_with fail
  generalize w1.setCell ⟨b, o + 2049, none⟩ (.int .i64 (q : Int)) = w2 at *
  clear q1 q2 p2
  have hC3 := hC2.since (Since.refl _).drew
  have q3 := hC3.cell (o + 2048) (by omega)
  rw [show updv (updv f (o + 2048) (.int .i64 (q : Int))) (o + 2049) (.int .i64 (q : Int)) (o + 2048) = .int .i64 (q : Int) by unfold updv; rw [if_neg (by omega), if_pos rfl]] at q3
  have q4 : (q : Int) ≤ 16 := by omega
  have HC3 := (show Hid _ from hC3)
  have HF2 := (show Hid _ from hF2)
  by_cases h16 : q = 16
  · have hcl := clear_any w2.drew 0 b o 0 0 n _ hC3 (by omega)
    clear hC3 hC2 hF2 HC HC1 hcnt hsr ek g0 g1 hs h0 hc16
    (try clear h1)
    (try clear g2)
    have HQ2 := (show Hid _ from HQ.out.trans h16)
    clear HQ
    subst h16
    go_region
    go_wp2_with fail
    go_end0
    exact ⟨rfl, by rw [HQ2.out]; exact (HC3.out.setRow _ _ (by omega) _).congr (fun j hj => by unfold crashed updl; rw [if_neg (by omega), if_neg (by omega)]), (HF2.out.trans' (Fr.of_since (Since.refl _).drew)).trans' (Fr.setCells _ _ _ _ _)⟩
  · have h17 : ¬ 16 = q := by omega
    have hcl := clear_any w2.drew 0 b (o + q * 128) (16 - q) (16 - q) n _ hC3 (by omega)
    clear hC3 hC2 hF2 HC HC1 hcnt hsr ek g0 g1 hs h0 hc16
    (try clear h1)
    (try clear g2)
    have HH := (show Hid _ from h16)
    go_region
    go_wp2_with fail
    go_end0
    exact ⟨rfl, by rw [HQ.out]; exact HC3.out.setRow _ _ (by omega) _, (HF2.out.trans' (Fr.of_since (Since.refl _).drew)).trans' (Fr.setCells _ _ _ _ _)⟩
set_option maxRecDepth 100000 in
set_option maxHeartbeats 1000000 in
theorem crash1_few (b o c s n : Nat) (keep : Int) (f : Nat → Value) (w : World) (hc : Cel w b n f) (hn : o + 2050 ≤ n) (hcnt : f (o + 2048) = .int .i64 c) (hsr : f (o + 2049) = .int .i64 s) (hc16 : c ≤ 16) (hs : s ≤ c) (h0 : 0 ≤ keep) (h1 : keep ≤ c - s) :
    Calls Tryz.prog 46 #[.pointer (some ⟨b, o, none⟩), .int .i64 keep] w fun e w' => e = .returned (.tuple #[]) ∧ Cel w' b n (crashed f o (kept1 c s keep)) ∧ Fr b none w w' := by
  have hcd := hc.since (Since.refl w).drew
  have c1 := hcd.cell (o + 2048) (by omega)
  have f1 := hcd.frozen (o + 2048) (by omega)
  rw [hcnt] at c1
  have c2 := hcd.cell (o + 2049) (by omega)
  rw [hsr] at c2
  obtain ⟨m, rfl⟩ := Int.eq_ofNat_of_zero_le h0
  have g0 : ¬ (m : Int) < 0 := by omega
  have g1 : (m : Int) ≤ (c : Int) - s := by omega
  have ek : kept1 c s m = s + m := by unfold kept1; omega
  rw [ek]
  clear hcd
  go_enter Tryz.func46, Tryz.ntmps46
  go_wp2_with fail
  go_region
  rw [show ((s : Int) + (m : Int)) = ((s + m : Nat) : Int) by omega]
  have hC1 : Cel (w.setCell ⟨b, o + 2048, none⟩ (.int .i64 ((s + m) : Nat))).drew b n (updv f (o + 2048) (.int .i64 ((s + m) : Nat))) := (hc.set (o + 2048) (by omega) _).since (Since.refl _).drew
  have hF1 : Fr b none w (w.setCell ⟨b, o + 2048, none⟩ (.int .i64 ((s + m) : Nat))).drew := (Fr.setCell _ _ _ _ _).trans' (Fr.of_since (Since.refl _).drew)
  have HC := (show Hid _ from hc)
  clear hc c1 f1 c2
  generalize (w.setCell ⟨b, o + 2048, none⟩ (.int .i64 (((s + m) : Nat) : Int))).drew = w1 at *
  have q1 := hC1.cell (o + 2048) (by omega)
  have q2 := hC1.cell (o + 2049) (by omega)
  have p2 := hC1.frozen (o + 2049) (by omega)
  rw [show updv f (o + 2048) (.int .i64 (((s + m) : Nat) : Int)) (o + 2048) = .int .i64 (((s + m) : Nat) : Int) by unfold updv; rw [if_pos rfl]] at q1
  have hC2 := hC1.set (o + 2049) (by omega) (.int .i64 (((s + m) : Nat) : Int))
  have hF2 := hF1.trans' (Fr.setCell b none (o + 2049) w1 (.int .i64 (((s + m) : Nat) : Int)))
  have HC1 := (show Hid _ from hC1)
  clear hC1 hF1
  generalize hq : (s + m) = q at *
  have hq16 : q ≤ 16 := by omega
  have HQ := (show Hid _ from hq)
  clear hq
  go_wp2_with fail
  generalize w1.setCell ⟨b, o + 2049, none⟩ (.int .i64 (q : Int)) = w2 at *
  clear q1 q2 p2
  have hC3 := hC2.since (Since.refl _).drew
  have q3 := hC3.cell (o + 2048) (by omega)
  rw [show updv (updv f (o + 2048) (.int .i64 (q : Int))) (o + 2049) (.int .i64 (q : Int)) (o + 2048) = .int .i64 (q : Int) by unfold updv; rw [if_neg (by omega), if_pos rfl]] at q3
  have q4 : (q : Int) ≤ 16 := by omega
  have HC3 := (show Hid _ from hC3)
  have HF2 := (show Hid _ from hF2)
  by_cases h16 : q = 16
  · have hcl := clear_any w2.drew 0 b o 0 0 n _ hC3 (by omega)
    clear hC3 hC2 hF2 HC HC1 hcnt hsr ek g0 g1 hs h0 hc16
    (try clear h1)
    (try clear g2)
    have HQ2 := (show Hid _ from HQ.out.trans h16)
    clear HQ
    subst h16
    go_region
    go_wp2_with fail
    go_end0
    exact ⟨rfl, by rw [HQ2.out]; exact (HC3.out.setRow _ _ (by omega) _).congr (fun j hj => by unfold crashed updl; rw [if_neg (by omega), if_neg (by omega)]), (HF2.out.trans' (Fr.of_since (Since.refl _).drew)).trans' (Fr.setCells _ _ _ _ _)⟩
  · have h17 : ¬ 16 = q := by omega
    have hcl := clear_any w2.drew 0 b (o + q * 128) (16 - q) (16 - q) n _ hC3 (by omega)
    clear hC3 hC2 hF2 HC HC1 hcnt hsr ek g0 g1 hs h0 hc16
    (try clear h1)
    (try clear g2)
    have HH := (show Hid _ from h16)
    go_region
    go_wp2_with fail
    go_end0
    exact ⟨rfl, by rw [HQ.out]; exact HC3.out.setRow _ _ (by omega) _, (HF2.out.trans' (Fr.of_since (Since.refl _).drew)).trans' (Fr.setCells _ _ _ _ _)⟩
set_option maxRecDepth 100000 in
set_option maxHeartbeats 1000000 in
theorem crash1_all (b o c s n : Nat) (keep : Int) (f : Nat → Value) (w : World) (hc : Cel w b n f) (hn : o + 2050 ≤ n) (hcnt : f (o + 2048) = .int .i64 c) (hsr : f (o + 2049) = .int .i64 s) (hc16 : c ≤ 16) (hs : s ≤ c) (h0 : 0 ≤ keep) (h1 : (c : Int) - s < keep) :
    Calls Tryz.prog 46 #[.pointer (some ⟨b, o, none⟩), .int .i64 keep] w fun e w' => e = .returned (.tuple #[]) ∧ Cel w' b n (crashed f o (kept1 c s keep)) ∧ Fr b none w w' := by
  have hcd := hc.since (Since.refl w).drew
  have c1 := hcd.cell (o + 2048) (by omega)
  have f1 := hcd.frozen (o + 2048) (by omega)
  rw [hcnt] at c1
  have c2 := hcd.cell (o + 2049) (by omega)
  rw [hsr] at c2
  have g0 : ¬ keep < 0 := by omega
  have g1 : (c : Int) - s < keep := by omega
  have g2 : (s : Int) + (c - s) = c := by omega
  have ek : kept1 c s keep = c := by unfold kept1; omega
  rw [ek]
  clear hcd
  go_enter Tryz.func46, Tryz.ntmps46
  go_wp2_with fail
  go_region
  have hC1 : Cel (w.setCell ⟨b, o + 2048, none⟩ (.int .i64 (c : Nat))).drew b n (updv f (o + 2048) (.int .i64 (c : Nat))) := (hc.set (o + 2048) (by omega) _).since (Since.refl _).drew
  have hF1 : Fr b none w (w.setCell ⟨b, o + 2048, none⟩ (.int .i64 (c : Nat))).drew := (Fr.setCell _ _ _ _ _).trans' (Fr.of_since (Since.refl _).drew)
  have HC := (show Hid _ from hc)
  clear hc c1 f1 c2
  generalize (w.setCell ⟨b, o + 2048, none⟩ (.int .i64 ((c : Nat) : Int))).drew = w1 at *
  have q1 := hC1.cell (o + 2048) (by omega)
  have q2 := hC1.cell (o + 2049) (by omega)
  have p2 := hC1.frozen (o + 2049) (by omega)
  rw [show updv f (o + 2048) (.int .i64 ((c : Nat) : Int)) (o + 2048) = .int .i64 ((c : Nat) : Int) by unfold updv; rw [if_pos rfl]] at q1
  have hC2 := hC1.set (o + 2049) (by omega) (.int .i64 ((c : Nat) : Int))
  have hF2 := hF1.trans' (Fr.setCell b none (o + 2049) w1 (.int .i64 ((c : Nat) : Int)))
  have HC1 := (show Hid _ from hC1)
  clear hC1 hF1
  generalize hq : c = q at *
  have hq16 : q ≤ 16 := by omega
  have HQ := (show Hid _ from hq)
  clear hq
  go_wp2_with fail
  generalize w1.setCell ⟨b, o + 2049, none⟩ (.int .i64 (q : Int)) = w2 at *
  clear q1 q2 p2
  have hC3 := hC2.since (Since.refl _).drew
  have q3 := hC3.cell (o + 2048) (by omega)
  rw [show updv (updv f (o + 2048) (.int .i64 (q : Int))) (o + 2049) (.int .i64 (q : Int)) (o + 2048) = .int .i64 (q : Int) by unfold updv; rw [if_neg (by omega), if_pos rfl]] at q3
  have q4 : (q : Int) ≤ 16 := by omega
  have HC3 := (show Hid _ from hC3)
  have HF2 := (show Hid _ from hF2)
  by_cases h16 : q = 16
  · have hcl := clear_any w2.drew 0 b o 0 0 n _ hC3 (by omega)
    clear hC3 hC2 hF2 HC HC1 hcnt hsr ek g0 g1 hs h0 hc16
    (try clear h1)
    (try clear g2)
    have HQ2 := (show Hid _ from HQ.out.trans h16)
    clear HQ
    subst h16
    go_region
    go_wp2_with fail
    go_end0
    exact ⟨rfl, by rw [HQ2.out]; exact (HC3.out.setRow _ _ (by omega) _).congr (fun j hj => by unfold crashed updl; rw [if_neg (by omega), if_neg (by omega)]), (HF2.out.trans' (Fr.of_since (Since.refl _).drew)).trans' (Fr.setCells _ _ _ _ _)⟩
  · have h17 : ¬ 16 = q := by omega
    have hcl := clear_any w2.drew 0 b (o + q * 128) (16 - q) (16 - q) n _ hC3 (by omega)
    clear hC3 hC2 hF2 HC HC1 hcnt hsr ek g0 g1 hs h0 hc16
    (try clear h1)
    (try clear g2)
    have HH := (show Hid _ from h16)
    go_region
    go_wp2_with fail
    go_end0
    exact ⟨rfl, by rw [HQ.out]; exact HC3.out.setRow _ _ (by omega) _, (HF2.out.trans' (Fr.of_since (Since.refl _).drew)).trans' (Fr.setCells _ _ _ _ _)⟩
end Go.Proofs.YtifnhnfjelfddaaGreatDoor
end
section
namespace Go.Proofs.YtifnhnfjelfddaaGreatDoor
open Go.RowKit
def Sl (w : World) (b : Nat) (v : Value) (n : Nat) (f : Nat → Value) : Prop :=
  ∃ a c, v = .slice a n c ∧ (0 < n → ∃ k o, a = some ⟨k, o, none⟩ ∧ k ≠ b ∧ ∀ j, j < n → w.cell? ⟨k, o + j, none⟩ = some (f j))
theorem Sl.fr {w w' : World} {b : Nat} {v : Value} {n : Nat} {f : Nat → Value} (h : Sl w b v n f) (hf : Fr b none w w') : Sl w' b v n f := by
  obtain ⟨a, c, hv, h⟩ := h
  refine ⟨a, c, hv, fun hn => ?_⟩
  obtain ⟨k, o, ha, hk, hc⟩ := h hn
  exact ⟨k, o, ha, hk, fun j hj => (hf.cell (p := ⟨k, o + j, none⟩) (World.block_lt_of_cell? w _ (hc j hj)) hk (by simp)).trans (hc j hj)⟩
def keptBy (n : Nat) (sl : Nat → Bool) : Nat → Bool := fun i => decide (i < n) && sl i
theorem crashF_any (b B n i : Nat) (v : Value) (sl : Nat → Bool) (w : World) (hB : w.cell? ⟨B, 0, none⟩ = some v) (hs : Sl w b v n (fun j => .bool (sl j))) :
    Calls Tryz.prog 48 #[.int .i64 i, .pointer (some ⟨B, 0, none⟩)] w fun e w' => e = .returned (.bool (keptBy n sl i)) ∧ w' = w := by
  obtain ⟨a, c, rfl, hs⟩ := hs
  unfold keptBy
  by_cases h : i < n
  · obtain ⟨k, o, rfl, _, hc⟩ := hs (by omega)
    have c1 := hc i h
    have h2 : (i : Int) < n := by omega
    rw [decide_eq_true h, Bool.true_and]
    clear hc hs
    go_enter Tryz.func48, Tryz.ntmps48
    go_wp2_with fail
    go_ret
    exact ⟨rfl, rfl⟩
  · have h2 : ¬ (i : Int) < n := by omega
    rw [decide_eq_false h, Bool.false_and]
    clear hs
    go_enter Tryz.func48, Tryz.ntmps48
    go_wp2_with fail
    go_ret
    exact ⟨rfl, rfl⟩
theorem crashF_enters : ∀ args w, (callFunc 48 args).run Tryz.prog w = .ok (.enter 48 args) w := enters_of Tryz.func48 (by kernel_rfl) rfl
def Dv.crashZ (D : Dv) (ks : Nat → Int) (k : Nat) : Dv :=
  { D with blk := fun z j i => if z < k ∧ kept1 (D.cnt z) (D.sure z) (ks z) ≤ j then 0 else D.blk z j i,
           cnt := fun z => if z < k then kept1 (D.cnt z) (D.sure z) (ks z) else D.cnt z,
           sure := fun z => if z < k then kept1 (D.cnt z) (D.sure z) (ks z) else D.sure z }
theorem kept1_le (c s : Nat) (x : Int) (h : s ≤ c) : kept1 c s x ≤ c := by unfold kept1; omega
theorem crashZ_ok (D : Dv) (ks : Nat → Int) (k : Nat) (h : D.ok) : (D.crashZ ks k).ok where
  cnt z hz := by
    show (if z < k then _ else _) ≤ 16
    have := h.cnt z hz
    split
    · have := kept1_le (D.cnt z) (D.sure z) (ks z) (h.sure z hz); omega
    · exact this
  sure z hz := by
    show (if z < k then _ else _) ≤ (if z < k then _ else _)
    split
    · exact Nat.le_refl _
    · exact h.sure z hz
  zero z j i hz hj hj2 hi := by
    show (if z < k ∧ _ then _ else _) = _
    have hj' : (if z < k then kept1 (D.cnt z) (D.sure z) (ks z) else D.cnt z) ≤ j := hj
    by_cases e : z < k
    · rw [if_pos e] at hj'
      rw [if_pos ⟨e, hj'⟩]
    · rw [if_neg e] at hj'
      rw [if_neg (fun h => e h.1)]
      exact h.zero z j i hz hj' hj2 hi
  left := h.left
  ws := h.ws
  few := h.few
set_option maxRecDepth 100000 in
theorem crashZ_cells (D : Dv) (ks : Nat → Int) (v : Value) (k : Nat) (hk : k < 8) (j : Nat) (hk16 : kept1 (D.cnt k) (D.sure k) (ks k) ≤ 16) :
    crashed (dcell (D.crashZ ks k) v) (k * 2050) (kept1 (D.cnt k) (D.sure k) (ks k)) j = dcell (D.crashZ ks (k + 1)) v j := by
  refine dcell_turn (D.crashZ ks k) (D.crashZ ks (k + 1)) v k hk _ (fun j hj => ?_) (fun j hj => ?_) (fun z' h => ?_) (fun z' h => ?_) (fun z' h => ?_) rfl rfl rfl j
  · have e1 : (D.crashZ ks (k + 1)).cnt k = kept1 (D.cnt k) (D.sure k) (ks k) := by show (if _ then _ else _) = _; rw [if_pos (by omega)]
    have e2 : (D.crashZ ks (k + 1)).sure k = kept1 (D.cnt k) (D.sure k) (ks k) := by show (if _ then _ else _) = _; rw [if_pos (by omega)]
    have e3 : (D.crashZ ks (k + 1)).blk k = fun j i => if kept1 (D.cnt k) (D.sure k) (ks k) ≤ j then 0 else D.blk k j i := by
      funext j i
      show (if k < k + 1 ∧ _ then _ else _) = _
      by_cases h : kept1 (D.cnt k) (D.sure k) (ks k) ≤ j
      · rw [if_pos ⟨by omega, h⟩, if_pos h]
      · rw [if_neg (fun h' => h h'.2), if_neg h]
    rw [e1, e2, e3]
    generalize kept1 (D.cnt k) (D.sure k) (ks k) = q at *
    unfold crashed updl updv
    by_cases h0 : q * 128 ≤ j ∧ j < 2048
    · rw [if_pos (by omega)]
      unfold scell
      dsimp only
      rw [if_pos (by omega), if_pos (by omega)]
    · rw [if_neg (by omega)]
      by_cases h1 : j = 2049
      · rw [if_pos (by omega)]
        unfold scell
        rw [if_neg (by omega), if_neg (by omega)]
      · rw [if_neg (by omega)]
        by_cases h2 : j = 2048
        · rw [if_pos (by omega)]
          unfold scell
          rw [if_neg (by omega), if_pos h2]
        · rw [if_neg (by omega), dcell_zone _ v k j hk hj]
          unfold scell
          dsimp only
          rw [if_pos (by omega), if_pos (by omega), if_neg (by omega)]
          congr 1
          show (if k < k ∧ _ then _ else _) = _
          rw [if_neg (by omega)]
  · unfold crashed updl updv
    rw [if_neg (by omega), if_neg (by omega), if_neg (by omega)]
  · funext j i
    show (if z' < k + 1 ∧ _ then _ else _) = (if z' < k ∧ _ then _ else _)
    have : (z' < k + 1) = (z' < k) := by apply propext; omega
    simp only [this]
  · show (if z' < k + 1 then _ else _) = (if z' < k then _ else _)
    have : (z' < k + 1) = (z' < k) := by apply propext; omega
    simp only [this]
  · show (if z' < k + 1 then _ else _) = (if z' < k then _ else _)
    have : (z' < k + 1) = (z' < k) := by apply propext; omega
    simp only [this]
theorem crash1_any (D : Dv) (ks : Nat → Int) (v : Value) (b k : Nat) (w : World) (hd : Dev w b (D.crashZ ks k) v) (hD : D.ok) (hk : k < 8) :
    Calls Tryz.prog 46 #[.pointer (some ⟨b, k * 2050, none⟩), .int .i64 (ks k)] w fun e w' => e = .returned (.tuple #[]) ∧ Dev w' b (D.crashZ ks (k + 1)) v ∧ Fr b none w w' := by
  have e1 : (D.crashZ ks k).cnt k = D.cnt k := by show (if _ then _ else _) = _; rw [if_neg (by omega)]
  have e2 : (D.crashZ ks k).sure k = D.sure k := by show (if _ then _ else _) = _; rw [if_neg (by omega)]
  have hc := hD.cnt k hk
  have hs := hD.sure k hk
  have hcnt := dcell_cnt (D.crashZ ks k) v k hk
  have hsr := dcell_sure (D.crashZ ks k) v k hk
  rw [e1] at hcnt
  rw [e2] at hsr
  have hk16 : kept1 (D.cnt k) (D.sure k) (ks k) ≤ 16 := by have := kept1_le (D.cnt k) (D.sure k) (ks k) hs; omega
  have fin : ∀ w', Cel w' b 17403 (crashed (dcell (D.crashZ ks k) v) (k * 2050) (kept1 (D.cnt k) (D.sure k) (ks k))) → Fr b none w w' → Dev w' b (D.crashZ ks (k + 1)) v := fun w' h1 h2 =>
    hd.turn (h1.congr (fun j _ => crashZ_cells D ks v k hk j hk16)) h2 rfl (crashZ_ok D ks (k + 1) hD)
  by_cases h0 : ks k < 0
  · refine (crash1_neg b (k * 2050) (D.cnt k) (D.sure k) 17403 (ks k) _ w hd.cel (by omega) hcnt hsr hc hs h0).mono ?_
    rintro e w' ⟨rfl, h1, h2⟩
    exact ⟨rfl, fin w' h1 h2, h2⟩
  · by_cases h1 : ks k ≤ (D.cnt k : Int) - D.sure k
    · refine (crash1_few b (k * 2050) (D.cnt k) (D.sure k) 17403 (ks k) _ w hd.cel (by omega) hcnt hsr hc hs (by omega) h1).mono ?_
      rintro e w' ⟨rfl, h1, h2⟩
      exact ⟨rfl, fin w' h1 h2, h2⟩
    · refine (crash1_all b (k * 2050) (D.cnt k) (D.sure k) 17403 (ks k) _ w hd.cel (by omega) hcnt hsr hc hs (by omega) (by omega)).mono ?_
      rintro e w' ⟨rfl, h1, h2⟩
      exact ⟨rfl, fin w' h1 h2, h2⟩
def keepAt (n : Nat) (ks : Nat → Int) : Nat → Int := fun z => if z < n then ks z else 0
def Dv.crashed (D : Dv) (nk : Nat) (ks : Nat → Int) (ns : Nat) (sl : Nat → Bool) : Dv := ((D.crashZ (keepAt nk ks) 8).settled (keptBy ns sl)).fuse (-1)
set_option maxRecDepth 100000 in
set_option maxHeartbeats 2000000 in
theorem crash_any (D : Dv) (v : Value) (b nk ns : Nat) (kv sv : Value) (ks : Nat → Int) (sl : Nat → Bool) (w : World) (hd : Dev w b D v)
    (hk : Sl w b kv nk (fun j => .int .i64 (ks j))) (hs : Sl w b sv ns (fun j => .bool (sl j))) :
    Calls Tryz.prog 18 #[.pointer (some ⟨b, 0, none⟩), kv, sv] w fun e w' => e = .returned (.tuple #[]) ∧ Dev w' b (D.crashed nk ks ns sl) (.slice none 0 0) ∧ Fr b none w w' := by
  obtain ⟨a1, c1, rfl, hk1⟩ := hk
  obtain ⟨a2, c2, rfl, hs1⟩ := hs
  have hbl := hd.lt
  have HD := (show Hid _ from hd)
  have HK := (show Hid (Sl w b (.slice a1 nk c1) nk (fun j => .int .i64 (ks j))) from ⟨a1, c1, rfl, hk1⟩)
  have HS := (show Hid (Sl w b (.slice a2 ns c2) ns (fun j => .bool (sl j))) from ⟨a2, c2, rfl, hs1⟩)
  clear hd hk1 hs1
  go_enter Tryz.func18, Tryz.ntmps18
  go_wp2_with fail
  refine (orNew_any _ _).mono ?_
  rintro e w' ⟨rfl, rfl⟩
  have hd0 := HD.out.since ((Since.refl w).alloc (.cells #[.slice a2 ns c2] 27))
  have hb0 : (w.alloc (.cells #[.slice a2 ns c2] 27)).cell? ⟨w.heap.size, 0, none⟩ = some (.slice a2 ns c2) := by simp
  have hf0 : Fr b none w (w.alloc (.cells #[.slice a2 ns c2] 27)) := Fr.of_since ((Since.refl w).alloc _)
  have hz0 : (w.alloc (.cells #[.slice a2 ns c2] 27)).heap.size = w.heap.size + 1 := by simp
  generalize w.alloc (.cells #[.slice a2 ns c2] 27) = w0 at *
  have HD0 := (show Hid _ from hd0)
  have HB0 := (show Hid _ from hb0)
  have HF0 := (show Hid _ from hf0)
  clear hd0 hb0 hf0
  go_wp2_with fail
  go_loopw [10] (fun i wr => ∃ k : Nat, k ≤ 8 ∧ i = .int .i64 k ∧ Dev wr b (D.crashZ (keepAt nk ks) k) v ∧ Fr b none w0 wr) (fun i _ => 8 - (intOf i).toNat)
  case atStart =>
    refine ⟨0, by omega, rfl, ?_, Fr.refl _ _ _⟩
    have e : D.crashZ (keepAt nk ks) 0 = D := by
      unfold Dv.crashZ
      cases D
      simp
    rw [e]
    exact HD0.out
  case round =>
    obtain ⟨k, hk, rfl, hdk, hfk⟩ := hrel
    have HDK := (show Hid _ from hdk)
    have HFK := (show Hid _ from hfk)
    clear hfk hdk
    by_cases hlt : k < 8
    · have hlt2 : (k : Int) < 8 := by omega
      by_cases hkn : k < nk
      · have hkn2 : (k : Int) < nk := by omega
        obtain ⟨a3, c3, he, hk3⟩ := (HK.out.fr HF0.out).fr HFK.out
        injection he with he1 he2 he3
        subst he1
        obtain ⟨kb, ko, rfl, _, hkc⟩ := hk3 (by omega)
        have q1 := hkc k hkn
        have hka : keepAt nk ks k = ks k := by unfold keepAt; rw [if_pos hkn]
        have HKA := (show Hid _ from hka)
        clear hkc hk3 hka he3
        go_wp2_with fail
        rw [← HKA.out]
        refine (crash1_any D (keepAt nk ks) v b k _ HDK.out HD.out.ok hlt).mono ?_
        rintro e w2 ⟨rfl, hd2, hf2⟩
        have HD2 := (show Hid _ from hd2)
        clear hd2
        go_wp2_with fail
        go_roundw
        case rel => exact ⟨k + 1, by omega, by go_num, HD2.out, HFK.out.trans' hf2⟩
        case measure => simp [intOf]; omega
      · have hkn2 : ¬ (k : Int) < nk := by omega
        have hka : keepAt nk ks k = 0 := by unfold keepAt; rw [if_neg hkn]
        have HKA := (show Hid _ from hka)
        clear hka
        go_wp2_with fail
        have hcr := crash1_any D (keepAt nk ks) v b k wr HDK.out HD.out.ok hlt
        rw [HKA.out] at hcr
        refine hcr.mono ?_
        clear hcr
        rintro e w2 ⟨rfl, hd2, hf2⟩
        have HD2 := (show Hid _ from hd2)
        clear hd2
        go_wp2_with fail
        go_roundw
        case rel => exact ⟨k + 1, by omega, by go_num, HD2.out, HFK.out.trans' hf2⟩
        case measure => simp [intOf]; omega
    · have hke : k = 8 := by omega
      subst hke
      go_wp2_with fail
      refine (settle_any (D.crashZ (keepAt nk ks) 8) v b 48 #[.pointer (some ⟨w.heap.size, 0, none⟩)] (keptBy ns sl) _ HDK.out crashF_enters (fun i W hW => crashF_any b w.heap.size ns i (.slice a2 ns c2) sl W ?_ (((HS.out.fr HF0.out).fr HFK.out).fr hW))).mono ?_
      · have hf := HFK.out.trans' hW
        rw [hf.cell (p := ⟨w.heap.size, 0, none⟩) (by show w.heap.size < _; omega) (by show w.heap.size ≠ b; omega) (by simp)]
        exact HB0.out
      rintro e w2 ⟨rfl, hd2, hf2⟩
      have HD2 := (show Hid _ from hd2)
      clear hd2
      go_wp2_with fail
      refine (fuse_any _ _ b (-1) _ HD2.out (by omega)).mono ?_
      rintro e w3 ⟨rfl, hd3, hf3⟩
      have HD3 := (show Hid _ from hd3)
      clear hd3
      go_wp2_with fail
      go_end0
      exact ⟨rfl, HD3.out, ((HF0.out.trans' HFK.out).trans' hf2).trans' hf3⟩
end Go.Proofs.YtifnhnfjelfddaaGreatDoor
end
