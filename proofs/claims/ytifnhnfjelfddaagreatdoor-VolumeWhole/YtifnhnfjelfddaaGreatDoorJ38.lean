import Derived.Test.YtifnhnfjelfddaaGreatDoorJ30
set_option linter.unusedSimpArgs false
set_option linter.unusedVariables false
namespace Go.Proofs.YtifnhnfjelfddaaGreatDoor
namespace Vl
open Go.RowKit
open Tw (Tb nul may)
def tot (D : Dv) : Nat := D.cnt 0 + D.cnt 1 + D.cnt 2 + D.cnt 3 + D.cnt 4 + D.cnt 5 + D.cnt 6 + D.cnt 7
def c16 (D : Dv) : Prop := ∀ z, z < 8 → D.cnt z ≤ 16
theorem lack_cnt (n : Nat) (h : n ≤ 16) : Sp.lack (n : Int) = 16 - n := by
  unfold Sp.lack
  split <;> (try split) <;> omega
theorem free_tot {S : Vs} (h : c16 S.D) : S.free = 128 - (tot S.D : Int) := by
  unfold Vs.free tot
  simp only [Sp.freeTo, Vs.atf]
  rw [lack_cnt _ (h 0 (by omega)), lack_cnt _ (h 1 (by omega)), lack_cnt _ (h 2 (by omega)), lack_cnt _ (h 3 (by omega)), lack_cnt _ (h 4 (by omega)), lack_cnt _ (h 5 (by omega)), lack_cnt _ (h 6 (by omega)), lack_cnt _ (h 7 (by omega))]
  omega
theorem room_there {S : Vs} (h : c16 S.D) (hf : tot S.D < 128) (but : Int) (hb : but < 0 ∨ ∃ z : Nat, but = z ∧ z < 8 ∧ S.D.cnt z = 16) : ∃ z, room S.atf but = some z := by
  cases hr : room S.atf but with
  | some z => exact ⟨z, rfl⟩
  | none =>
    exfalso
    have hn : ∀ z, z < 8 → 16 ≤ S.D.cnt z := fun z hz => by
      rcases room_none hr z hz with e | e
      · rcases hb with hb | ⟨y, hy, _, h16⟩
        · omega
        · obtain rfl : y = z := by omega
          omega
      · unfold Vs.atf at e; omega
    have h0 := hn 0 (by omega); have h1 := hn 1 (by omega); have h2 := hn 2 (by omega); have h3 := hn 3 (by omega)
    have h4 := hn 4 (by omega); have h5 := hn 5 (by omega); have h6 := hn 6 (by omega); have h7 := hn 7 (by omega)
    unfold tot at hf; omega
theorem app_cnt (D : Dv) (z : Nat) (s : ByteArray) (z' : Nat) : (D.app z s).cnt z' = if z' = z then D.cnt z + 1 else D.cnt z' := rfl
theorem app_tot (D : Dv) (z : Nat) (s : ByteArray) (hz : z < 8) : tot (D.app z s) = tot D + 1 := by
  unfold tot
  simp only [app_cnt]
  have : z = 0 ∨ z = 1 ∨ z = 2 ∨ z = 3 ∨ z = 4 ∨ z = 5 ∨ z = 6 ∨ z = 7 := by omega
  rcases this with rfl | rfl | rfl | rfl | rfl | rfl | rfl | rfl <;> simp <;> omega
theorem app_c16 {D : Dv} {z : Nat} {s : ByteArray} (h : c16 D) (hz : D.cnt z < 16) : c16 (D.app z s) := fun z' hz' => by
  rw [app_cnt]
  split
  · omega
  · exact h z' hz'
theorem burnt_off' {D : Dv} (h : D.fused = false) : D.burnt = D := by unfold Dv.burnt; rw [h]; rfl
theorem may_off {D : Dv} (h : D.fused = false) : D.may = true := by unfold Dv.may; rw [h]; rfl
theorem reset_cnt (D : Dv) (z z' : Nat) : (D.reset z).cnt z' = if z' = z then 0 else D.cnt z' := rfl
theorem reset_tot (D : Dv) (z : Nat) (hz : z < 8) : tot (D.reset z) + D.cnt z = tot D := by
  unfold tot
  simp only [reset_cnt]
  have : z = 0 ∨ z = 1 ∨ z = 2 ∨ z = 3 ∨ z = 4 ∨ z = 5 ∨ z = 6 ∨ z = 7 := by omega
  rcases this with rfl | rfl | rfl | rfl | rfl | rfl | rfl | rfl <;> simp <;> omega
structure Vs.on (S : Vs) : Prop where
  dead : S.dead = false
  fused : S.D.fused = false
  c16 : c16 S.D
theorem put_on {S : Vs} (h : S.on) (hf : tot S.D < 128) (kb : ByteArray) (i : Nat) (but : Int) (hb : but < 0 ∨ ∃ z : Nat, but = z ∧ z < 8 ∧ S.D.cnt z = 16) (t : ByteArray) :
    ∃ z : Nat, room S.atf but = some z ∧ z < 8 ∧ S.D.cnt z < 16 ∧ (∀ y, y < z → 16 ≤ S.D.cnt y) ∧ S.put kb i but t = (0, { S with D := S.D.app z (Sl.sealOf kb i t), T := updT S.T i z (S.D.cnt z) ((Sl.sealOf kb i t).extract 0 16), X := updX S.X i t }) := by
  obtain ⟨z, hz⟩ := room_there h.c16 hf but hb
  obtain ⟨h8, _, h16⟩ := room_some hz
  refine ⟨z, hz, h8, by unfold Vs.atf at h16; omega, fun y hy => ?_, ?_⟩
  · rcases room_first hz y hy with e | e
    · rcases hb with hb | ⟨x, hx, _, hx16⟩
      · omega
      · obtain rfl : x = y := by omega
        omega
    · unfold Vs.atf at e; omega
  · unfold Vs.put
    rw [hz]
    dsimp only
    rw [if_neg (by rw [may_off h.fused]; decide), burnt_off' h.fused]
structure Vs.more (S S' : Vs) (n : Nat) : Prop where
  on : S'.on
  tot : tot S'.D = tot S.D + n
  cnt : ∀ z, S.D.cnt z ≤ S'.D.cnt z
  c : S'.c = S.c
  count : S'.T.count = S.T.count
theorem Vs.more.trans {S S1 S2 : Vs} {n m : Nat} (h : S.more S1 n) (k : S1.more S2 m) : S.more S2 (n + m) :=
  ⟨k.on, by rw [k.tot, h.tot]; omega, fun z => Nat.le_trans (h.cnt z) (k.cnt z), k.c.trans h.c, k.count.trans h.count⟩
theorem put_more {S : Vs} (h : S.on) (kb : ByteArray) (i z : Nat) (hz : z < 8) (h16 : S.D.cnt z < 16) (t : ByteArray) :
    S.more { S with D := S.D.app z (Sl.sealOf kb i t), T := updT S.T i z (S.D.cnt z) ((Sl.sealOf kb i t).extract 0 16), X := updX S.X i t } 1 := by
  refine ⟨⟨h.dead, h.fused, app_c16 h.c16 h16⟩, app_tot _ _ _ hz, fun y => ?_, rfl, rfl⟩
  show S.D.cnt y ≤ (S.D.app z (Sl.sealOf kb i t)).cnt y
  rw [app_cnt]
  split
  · rename_i e; subst e; omega
  · exact Nat.le_refl _
theorem updX_self (X : Nat → ByteArray) (i : Nat) : updX X i (X i) = X := by
  funext j
  unfold updX
  split
  · rename_i e; rw [e]
  · rfl
theorem moves_on (kb : ByteArray) (z : Nat) (hz : z < 8) : ∀ (l : List Nat) (S : Vs), S.on → S.D.cnt z = 16 → tot S.D + l.length ≤ 128 → (S.moves kb z l).1 = 0 ∧ S.more (S.moves kb z l).2 l.length ∧ (S.moves kb z l).2.X = S.X
  | [], S, h, h16, hl => by
    rw [moves_nil]
    exact ⟨rfl, ⟨h, rfl, fun _ => Nat.le_refl _, rfl, rfl⟩, rfl⟩
  | i :: r, S, h, h16, hl => by
    rw [List.length_cons] at hl
    obtain ⟨y, _, hy8, hy16, _, hp⟩ := put_on h (by omega) kb i (z : Int) (Or.inr ⟨z, rfl, hz, h16⟩) (S.X i)
    have hm := put_more h kb i y hy8 hy16 (S.X i)
    rw [moves_cons, hp]
    dsimp only
    rw [if_pos rfl]
    have hx : updX S.X i (S.X i) = S.X := updX_self S.X i
    rw [hx] at hm ⊢
    have hc : ({ S with D := S.D.app y (Sl.sealOf kb i (S.X i)), T := updT S.T i y (S.D.cnt y) ((Sl.sealOf kb i (S.X i)).extract 0 16) } : Vs).D.cnt z = 16 := by
      have h1 := hm.cnt z
      have h2 := hm.on.c16 z hz
      omega
    obtain ⟨e1, e2, e3⟩ := moves_on kb z hz r _ hm.on hc (by have := hm.tot; omega)
    refine ⟨e1, ?_, e3⟩
    have := hm.trans e2
    rwa [show (1 : Nat) + r.length = (i :: r).length by rw [List.length_cons]; omega] at this
theorem flush_on {S : Vs} (h : S.on) (kt : ByteArray) : S.flush kt = (0, { S with D := ((S.D.synced).wrote (S.next.count % 2).toNat (Tw.text kt S.next)).synced, c := S.T.count + 1, T := S.next }) := by
  have h1 : S.D.synced.fused = false := h.fused
  have h2 : (S.D.synced.wrote (S.next.count % 2).toNat (Tw.text kt S.next)).fused = false := h.fused
  unfold Vs.flush Vs.tell
  rw [if_neg (by rw [h.dead]; decide), if_neg (by rw [may_off h.fused]; decide), burnt_off' h.fused]
  simp only [burnt_off' h1, burnt_off' h2, may_off h1, may_off h2]
  simp
  rfl
theorem flush_more {S : Vs} (h : S.on) (kt : ByteArray) : (S.flush kt).1 = 0 ∧ (S.flush kt).2.on ∧ (S.flush kt).2.D.cnt = S.D.cnt ∧ (S.flush kt).2.c = S.T.count + 1 ∧ (S.flush kt).2.X = S.X ∧ (S.flush kt).2.T = S.next := by
  rw [flush_on h]
  generalize Tw.text kt S.next = t
  have hc : (((S.D.synced).wrote (S.next.count % 2).toNat t).synced).cnt = S.D.cnt := by
    rw [synced_cnt]
    show S.D.synced.cnt = _
    rw [synced_cnt]
  refine ⟨rfl, ⟨h.dead, h.fused, fun z hz => ?_⟩, hc, rfl, rfl, rfl⟩
  show (((S.D.synced).wrote (S.next.count % 2).toNat t).synced).cnt z ≤ 16
  rw [hc]
  exact h.c16 z hz
theorem reclaim_on {S : Vs} (h : S.on) (kb kt : ByteArray) {z : Nat} (hv : vicTo S.atf S.live 8 = some z) (hl : tot S.D + (Sp.inI S.T (z : Int) 24).length ≤ 128) :
    z < 8 ∧ S.D.cnt z = 16 ∧ S.reclaim kb kt = ((((Sp.inI S.T (z : Int) 24).length : Int), true, (0 : Int)), { ((S.moves kb z (Sp.inI S.T (z : Int) 24)).2.flush kt).2 with D := ((S.moves kb z (Sp.inI S.T (z : Int) 24)).2.flush kt).2.D.reset z }) := by
  obtain ⟨hz8, hz16, _⟩ := vic_some hv
  have h16 : S.D.cnt z = 16 := by
    have := h.c16 z hz8
    unfold Vs.atf at hz16; omega
  obtain ⟨e1, e2, e3⟩ := moves_on kb z hz8 _ S h h16 hl
  obtain ⟨f1, f2, _⟩ := flush_more e2.on kt
  refine ⟨hz8, h16, ?_⟩
  unfold Vs.reclaim
  rw [if_neg (by rw [h.dead]; decide), hv]
  dsimp only
  rw [if_neg (by rw [e1]; decide), if_neg (by rw [f1]; decide), if_neg (by rw [may_off f2.fused]; decide), burnt_off' f2.fused]
theorem reclaim_off {S : Vs} (h : S.on) (kb kt : ByteArray) (hv : vicTo S.atf S.live 8 = none) : S.reclaim kb kt = ((0, false, 0), S) := by
  unfold Vs.reclaim
  rw [if_neg (by rw [h.dead]; decide), hv]
structure Vs.less (S S' : Vs) (z n : Nat) : Prop where
  on : S'.on
  tot : tot S'.D + 16 = tot S.D + n
  cnt : ∀ y, y ≠ z → S.D.cnt y ≤ S'.D.cnt y
  c : S'.c = S.T.count + 1
  count : S'.T.count = S.T.count + 1
  X : S'.X = S.X
theorem reclaim_less {S : Vs} (h : S.on) (kb kt : ByteArray) {z : Nat} (hv : vicTo S.atf S.live 8 = some z) (hl : tot S.D + (Sp.inI S.T (z : Int) 24).length ≤ 128) : S.less (S.reclaim kb kt).2 z (Sp.inI S.T (z : Int) 24).length := by
  obtain ⟨hz8, h16, he⟩ := reclaim_on h kb kt hv hl
  obtain ⟨e1, e2, e3⟩ := moves_on kb z hz8 _ S h h16 hl
  obtain ⟨f1, f2, f3, f4, f5, f6⟩ := flush_more e2.on kt
  rw [he]
  generalize hS1 : (S.moves kb z (Sp.inI S.T (z : Int) 24)).2 = S1 at *
  generalize hS2 : (S1.flush kt).2 = S2 at *
  have hc1 : S1.D.cnt z = 16 := by have h1 := e2.cnt z; have h2 := e2.on.c16 z hz8; omega
  have ht : tot S2.D = tot S1.D := by unfold tot; rw [f3]
  refine ⟨⟨f2.dead, f2.fused, fun y hy => ?_⟩, ?_, fun y hy => ?_, ?_, ?_, ?_⟩
  · show (S2.D.reset z).cnt y ≤ 16
    rw [reset_cnt]
    split
    · omega
    · exact f2.c16 y hy
  · have h1 := reset_tot S2.D z hz8
    rw [f3, hc1, ht, e2.tot] at h1
    exact h1
  · show S.D.cnt y ≤ (S2.D.reset z).cnt y
    rw [reset_cnt, if_neg hy, f3]
    exact e2.cnt y
  · show S2.c = S.T.count + 1
    rw [f4, e2.count]
  · show S2.T.count = S.T.count + 1
    rw [f6]
    show S1.T.count + 1 = _
    rw [e2.count]
  · show S2.X = S.X
    rw [f5, e3]
theorem live_sum (T : Tb) : ∀ k, (Sp.inI T 0 k).length + (Sp.inI T 1 k).length + (Sp.inI T 2 k).length + (Sp.inI T 3 k).length + (Sp.inI T 4 k).length + (Sp.inI T 5 k).length + (Sp.inI T 6 k).length + (Sp.inI T 7 k).length ≤ k
  | 0 => by simp [Sp.inI]
  | k + 1 => by
    have ih := live_sum T k
    have hs : ∀ z : Int, (Sp.inI T z (k + 1)).length = (Sp.inI T z k).length + (if ¬ T.tag k = ⟨#[]⟩ ∧ T.zone k = z then 1 else 0) := fun z => by
      unfold Sp.inI Sp.lies
      rw [List.range_succ, List.filter_append, List.length_append]
      congr 1
      by_cases h1 : T.tag k = ⟨#[]⟩
      · simp [h1]
      · by_cases h2 : T.zone k = z
        · simp [h1, h2]
        · simp [h1, h2]
    simp only [hs]
    by_cases h1 : T.tag k = ⟨#[]⟩
    · simp [h1]; omega
    · simp only [h1, not_false_eq_true, true_and]
      have hz : T.zone k = 0 ∨ T.zone k = 1 ∨ T.zone k = 2 ∨ T.zone k = 3 ∨ T.zone k = 4 ∨ T.zone k = 5 ∨ T.zone k = 6 ∨ T.zone k = 7 ∨ (T.zone k < 0 ∨ 7 < T.zone k) := by omega
      rcases hz with h | h | h | h | h | h | h | h | h
      all_goals first | (rw [h]; simp; omega) | (rw [if_neg (by omega), if_neg (by omega), if_neg (by omega), if_neg (by omega), if_neg (by omega), if_neg (by omega), if_neg (by omega), if_neg (by omega)]; omega)
theorem vic_few {S : Vs} {z : Nat} (hv : vicTo S.atf S.live 8 = some z) (v : Nat) (h : ∀ y, y < 6 → y ≠ v → S.D.cnt y = 16) : (Sp.inI S.T (z : Int) 24).length ≤ 4 := by
  obtain ⟨_, _, hm⟩ := vic_some hv
  have hs : (Sp.inI S.T ((0 : Nat) : Int) 24).length + (Sp.inI S.T ((1 : Nat) : Int) 24).length + (Sp.inI S.T ((2 : Nat) : Int) 24).length + (Sp.inI S.T ((3 : Nat) : Int) 24).length + (Sp.inI S.T ((4 : Nat) : Int) 24).length + (Sp.inI S.T ((5 : Nat) : Int) 24).length + (Sp.inI S.T ((6 : Nat) : Int) 24).length + (Sp.inI S.T ((7 : Nat) : Int) 24).length ≤ 24 := live_sum S.T 24
  have hle : ∀ y, y < 6 → y ≠ v → (Sp.inI S.T (z : Int) 24).length ≤ (Sp.inI S.T ((y : Nat) : Int) 24).length := fun y hy hyv => by
    have := hm y (by omega) (by unfold Vs.atf; rw [h y hy hyv]; decide)
    unfold Vs.live at this
    omega
  have k0 := hle 0 (by omega); have k1 := hle 1 (by omega); have k2 := hle 2 (by omega); have k3 := hle 3 (by omega); have k4 := hle 4 (by omega); have k5 := hle 5 (by omega)
  clear hle hm hv h
  generalize (Sp.inI S.T ((0 : Nat) : Int) 24).length = l0 at *
  generalize (Sp.inI S.T ((1 : Nat) : Int) 24).length = l1 at *
  generalize (Sp.inI S.T ((2 : Nat) : Int) 24).length = l2 at *
  generalize (Sp.inI S.T ((3 : Nat) : Int) 24).length = l3 at *
  generalize (Sp.inI S.T ((4 : Nat) : Int) 24).length = l4 at *
  generalize (Sp.inI S.T ((5 : Nat) : Int) 24).length = l5 at *
  generalize (Sp.inI S.T ((6 : Nat) : Int) 24).length = l6 at *
  generalize (Sp.inI S.T ((7 : Nat) : Int) 24).length = l7 at *
  generalize (Sp.inI S.T (z : Int) 24).length = n at *
  by_cases e0 : 0 = v
  · have := k1 (by omega); have := k2 (by omega); have := k3 (by omega); have := k4 (by omega); have := k5 (by omega); omega
  · have := k0 e0
    by_cases e1 : 1 = v
    · have := k2 (by omega); have := k3 (by omega); have := k4 (by omega); have := k5 (by omega); omega
    · have := k1 e1
      by_cases e2 : 2 = v
      · have := k3 (by omega); have := k4 (by omega); have := k5 (by omega); omega
      · have := k2 e2
        by_cases e3 : 3 = v
        · have := k4 (by omega); have := k5 (by omega); omega
        · have := k3 e3
          by_cases e4 : 4 = v
          · have := k5 (by omega); omega
          · have := k4 e4; omega
end Vl
end Go.Proofs.YtifnhnfjelfddaaGreatDoor
