import Derived.Test.YtifnhnfjelfddaaGreatDoorJ47
set_option linter.unusedSimpArgs false
set_option linter.unusedVariables false
section
namespace Go.Proofs.YtifnhnfjelfddaaGreatDoor
set_option maxRecDepth 100000
namespace Vl
open Go.RowKit
open Tw (Tb nul may Same Rt)
theorem burnt_blk (D : Dv) : D.burnt.blk = D.blk := by unfold Dv.burnt; split <;> rfl
theorem burnt_sure (D : Dv) : D.burnt.sure = D.sure := by unfold Dv.burnt; split <;> rfl
theorem burnt_slot (D : Dv) : D.burnt.slot = D.slot := by unfold Dv.burnt; split <;> rfl
theorem Sure.dev {kb kt : ByteArray} {D D' : Dv} {c : Int} {T : Tb} {X : Nat → ByteArray} (h : Sure kb kt D c T X) (hb : D'.blk = D.blk) (hsu : ∀ z, z < 8 → D.sure z ≤ D'.sure z) (hsl : ∀ k, k < 2 → D'.slot k = D.slot k) : Sure kb kt D' c T X := by
  refine ⟨?_, fun k hk => by rw [hsl k hk]; exact h.2 k hk⟩
  rcases h.1 with h1 | ⟨h0, hr, hc, hs, hl, hx⟩
  · exact Or.inl h1
  · refine Or.inr ⟨h0, hr, hc, by rw [hsl _ (by omega)]; exact hs, fun i hi => ?_, hx⟩
    rcases hl i hi with h2 | ⟨h2, h3, h4, h5⟩
    · exact Or.inl h2
    · refine Or.inr ⟨h2, ?_, h4, fun j hj => by rw [hb]; exact h5 j hj⟩
      have := hsu (T.zone i).toNat (by have := h2.2.1; have := h2.2.2.1; omega)
      omega
structure Al (kb kt : ByteArray) (S : Vs) (n : Int) (T : Tb) (Y : Nat → ByteArray) : Prop where
  dead : S.dead = false
  c16 : c16 S.D
  ok : S.ok n
  su : ∀ z, z < 8 → S.D.sure z ≤ S.D.cnt z
  lie : Lie kb S.D S.D.cnt S.T S.X
  sure : Sure kb kt S.D S.c T Y
  ws : S.D.ws = []
theorem Al.le {kb kt : ByteArray} {S : Vs} {n m : Int} {T : Tb} {Y : Nat → ByteArray} (h : Al kb kt S n T Y) (hm : n ≤ m) : Al kb kt S m T Y := ⟨h.dead, h.c16, h.ok.le hm, h.su, h.lie, h.sure, h.ws⟩
def CC (kb kt : ByteArray) (D : Dv) (c : Int) (P : (Nat → ByteArray) → Prop) : Prop :=
  ∃ T Y, Sure kb kt D c T Y ∧ P Y ∧ (D.ws = [] ∨ ∃ U X, D.ws = [(((c + 1) % 2).toNat, Tw.text kt U)] ∧ Rt U ∧ U.count = c + 1 ∧ Lie kb D D.sure U X ∧ P X ∧ ∀ i, (X i).size ≤ 80)
theorem put_al {kb kt : ByteArray} {S : Vs} {n : Int} {T : Tb} {Y : Nat → ByteArray} (h : Al kb kt S n T Y) (hf : tot S.D < 128) (i : Nat) (hi : i < 24) (but : Int) (hb : but < 0 ∨ ∃ z : Nat, but = z ∧ z < 8 ∧ S.D.cnt z = 16) (t : ByteArray) (ht : t.size ≤ 80) :
    ∃ z : Nat, z < 8 ∧ S.D.cnt z < 16 ∧ (∀ y, y < z → 16 ≤ S.D.cnt y) ∧ ((S.D.may = false ∧ S.put kb i but t = (14, { S with dead := true })) ∨
      (S.put kb i but t = (0, { S with D := S.D.burnt.app z (Sl.sealOf kb i t), T := updT S.T i z (S.D.cnt z) ((Sl.sealOf kb i t).extract 0 16), X := updX S.X i t }) ∧ Al kb kt (S.put kb i but t).2 n T Y)) := by
  obtain ⟨z, hz⟩ := room_there h.c16 hf but hb
  obtain ⟨h8, _, h16⟩ := room_some hz
  have hc : S.D.cnt z < 16 := by unfold Vs.atf at h16; omega
  refine ⟨z, h8, hc, fun y hy => ?_, ?_⟩
  · rcases room_first hz y hy with e | e
    · rcases hb with hb | ⟨x, hx, _, hx16⟩
      · omega
      · obtain rfl : x = y := by omega
        omega
    · unfold Vs.atf at e; omega
  · by_cases hm : S.D.may = false
    · refine Or.inl ⟨hm, ?_⟩
      unfold Vs.put
      rw [hz]
      dsimp only
      rw [if_pos hm]
    · have he : S.put kb i but t = (0, { S with D := S.D.burnt.app z (Sl.sealOf kb i t), T := updT S.T i z (S.D.cnt z) ((Sl.sealOf kb i t).extract 0 16), X := updX S.X i t }) := by
        unfold Vs.put
        rw [hz]
        dsimp only
        rw [if_neg hm]
      refine Or.inr ⟨he, ?_⟩
      have ho := h.ok.put kb i hi but t ht
      rw [he] at ho ⊢
      have hlb : Lie kb S.D.burnt S.D.burnt.cnt S.T S.X := by rw [burnt_cnt]; exact h.lie.dev (burnt_blk _)
      have hla := lie_app hlb i z hi h8 (by rw [burnt_cnt]; exact hc) t
      rw [show S.D.burnt.cnt z = S.D.cnt z by rw [burnt_cnt]] at hla
      have hcb : Vl.c16 S.D.burnt := fun y hy => by rw [burnt_cnt]; exact h.c16 y hy
      have hsb : Sure kb kt S.D.burnt S.c T Y := h.sure.dev (burnt_blk _) (fun z _ => by rw [burnt_sure]; exact Nat.le_refl _) (fun k _ => by rw [burnt_slot])
      have hsu : ∀ y, y < 8 → S.D.burnt.sure y ≤ S.D.burnt.cnt y := fun y hy => by rw [burnt_sure, burnt_cnt]; exact h.su y hy
      refine ⟨h.dead, app_c16 hcb (by rw [burnt_cnt]; exact hc), ho, fun y hy => ?_, hla, sure_app hsb hsu z h8 _, ?_⟩
      · show S.D.burnt.sure y ≤ (S.D.burnt.app z (Sl.sealOf kb i t)).cnt y
        rw [app_cnt]
        have := hsu y hy
        split
        · rename_i e; subst e; omega
        · exact this
      · show S.D.burnt.ws = []
        rw [burnt_ws]
        exact h.ws
theorem burnt_tot (D : Dv) : tot D.burnt = tot D := by unfold tot; rw [burnt_cnt]
theorem moves_al {kb kt : ByteArray} {n : Int} {T : Tb} {Y : Nat → ByteArray} (z : Nat) (hz : z < 8) : ∀ (l : List Nat) (S : Vs), Al kb kt S n T Y → (∀ i ∈ l, i < 24) → S.D.cnt z = 16 → tot S.D + l.length ≤ 128 →
    ((S.moves kb z l).1 = 0 ∧ Al kb kt (S.moves kb z l).2 n T Y ∧ tot (S.moves kb z l).2.D = tot S.D + l.length ∧ (∀ y, S.D.cnt y ≤ (S.moves kb z l).2.D.cnt y) ∧ (S.moves kb z l).2.X = S.X ∧ (S.moves kb z l).2.c = S.c) ∨
    ((S.moves kb z l).1 = 14 ∧ (S.moves kb z l).2.dead = true ∧ Sure kb kt (S.moves kb z l).2.D S.c T Y ∧ (S.moves kb z l).2.D.ws = [] ∧ tot (S.moves kb z l).2.D ≤ tot S.D + l.length ∧ Vl.c16 (S.moves kb z l).2.D ∧ (S.moves kb z l).2.c = S.c)
  | [], S, h, _, h16, hl => by
    rw [moves_nil]
    exact Or.inl ⟨rfl, h, rfl, fun _ => Nat.le_refl _, rfl, rfl⟩
  | i :: r, S, h, hm, h16, hl => by
    rw [List.length_cons] at hl ⊢
    have hi := hm i (by simp)
    obtain ⟨y, hy8, hy16, _, hp | ⟨hp, hal⟩⟩ := put_al h (by omega) i hi (z : Int) (Or.inr ⟨z, rfl, hz, h16⟩) (S.X i) (h.ok.txt i)
    · rw [moves_cons, hp.2, if_neg (by simp)]
      exact Or.inr ⟨rfl, rfl, h.sure, h.ws, by show tot S.D ≤ _; omega, h.c16, rfl⟩
    · rw [moves_cons, if_pos (by rw [hp])]
      rw [hp] at hal ⊢
      rw [updX_self] at hal ⊢
      have hcnt : ∀ x, S.D.cnt x ≤ (S.D.burnt.app y (Sl.sealOf kb i (S.X i))).cnt x := fun x => by
        rw [app_cnt, burnt_cnt]
        split
        · rename_i e; subst e; omega
        · exact Nat.le_refl _
      have ht : tot (S.D.burnt.app y (Sl.sealOf kb i (S.X i))) = tot S.D + 1 := by rw [app_tot _ _ _ hy8, burnt_tot]
      have hc : (S.D.burnt.app y (Sl.sealOf kb i (S.X i))).cnt z = 16 := by
        have h1 := hcnt z
        have h2 := hal.c16 z hz
        dsimp only at h2
        omega
      rcases moves_al z hz r _ hal (fun j hj => hm j (by simp [hj])) hc (by dsimp only; omega) with ⟨e1, e2, e3, e4, e5, e6⟩ | ⟨e1, e2, e3, e4, e5, e6, e7⟩
      · dsimp only at e3 e4 e5 e6
        exact Or.inl ⟨e1, e2, by rw [e3, ht]; omega, fun x => Nat.le_trans (hcnt x) (e4 x), e5, e6⟩
      · dsimp only at e3 e5 e7
        exact Or.inr ⟨e1, e2, e3, e4, (by dsimp only; omega), e6, e7⟩
theorem flush_al {kb kt : ByteArray} {S : Vs} {n : Int} {T : Tb} {Y : Nat → ByteArray} (h : Al kb kt S n T Y) (hn : n < 1000000000) (P : (Nat → ByteArray) → Prop) (hY : P Y) (hX : P S.X) :
    ((S.flush kt).1 = 0 ∧ Al kb kt (S.flush kt).2 (n + 1) (S.flush kt).2.T S.X ∧ (S.flush kt).2.D.cnt = S.D.cnt ∧ (S.flush kt).2.X = S.X ∧ (S.flush kt).2.c = S.c + 1) ∨
    ((S.flush kt).1 = 14 ∧ (S.flush kt).2.dead = true ∧ CC kb kt (S.flush kt).2.D (S.flush kt).2.c P ∧ (S.flush kt).2.c = S.c ∧ (S.flush kt).2.D.cnt = S.D.cnt) := by
  have ho := h.ok.flush kt
  have hr := h.ok.next (by omega)
  have hcc : S.next.count = S.c + 1 := by show S.T.count + 1 = _; rw [h.ok.cnt]
  have hc0 := h.ok.c0
  generalize hF : S.flush kt = F at *
  unfold Vs.flush Vs.tell at hF
  rw [if_neg (by rw [h.dead]; decide)] at hF
  by_cases h1 : S.D.may = false
  · rw [if_pos h1] at hF
    subst hF
    exact Or.inr ⟨rfl, rfl, ⟨T, Y, h.sure, hY, Or.inl h.ws⟩, rfl, rfl⟩
  · rw [if_neg h1] at hF
    -- the first Sync is done
    have s1 : Sure kb kt S.D.burnt.synced S.c T Y := h.sure.dev (by rw [synced_blk, burnt_blk]) (fun z hz => by rw [(synced_facts _).2.2.2.2 z hz, burnt_cnt]; exact h.su z hz) (fun k hk => by rw [synced_slot _ _ hk, slotBy_nil _ (by rw [burnt_ws]; exact h.ws), burnt_slot])
    have c1 : S.D.burnt.synced.cnt = S.D.cnt := by rw [synced_cnt, burnt_cnt]
    have w1 : S.D.burnt.synced.ws = [] := rfl
    have u1 : ∀ z, z < 8 → S.D.burnt.synced.sure z = S.D.cnt z := fun z hz => by rw [(synced_facts _).2.2.2.2 z hz, burnt_cnt]
    have b1 : S.D.burnt.synced.blk = S.D.blk := by rw [synced_blk, burnt_blk]
    generalize S.D.burnt.synced = D1 at *
    by_cases h2 : D1.may = false
    · simp only [if_pos h2] at hF
      rw [if_neg (by decide)] at hF
      subst hF
      exact Or.inr ⟨rfl, rfl, ⟨T, Y, s1, hY, Or.inl w1⟩, rfl, c1⟩
    · simp only [if_neg h2] at hF
      have hlX : Lie kb D1 D1.sure S.next S.X := fun i hi => by
        rcases h.lie i hi with h3 | ⟨h3, h4, h5, h6⟩
        · exact Or.inl h3
        · refine Or.inr ⟨h3, ?_, h5, fun j hj => by rw [b1]; exact h6 j hj⟩
          rw [u1 _ (by show (S.T.zone i).toNat < 8; have := h3.2.1; have := h3.2.2.1; omega)]
          exact h4
      by_cases h3 : (D1.burnt.wrote (S.next.count % 2).toNat (Tw.text kt S.next)).may = false
      · simp only [if_pos h3] at hF
        rw [if_neg (by decide)] at hF
        subst hF
        refine Or.inr ⟨rfl, rfl, ⟨T, Y, s1.dev (by rw [wrote_blk, burnt_blk]) (fun z hz => by show D1.sure z ≤ D1.burnt.sure z; rw [burnt_sure]; exact Nat.le_refl _) (fun k hk => by show D1.burnt.slot k = _; rw [burnt_slot]), hY, Or.inr ⟨S.next, S.X, ?_, hr, hcc, ?_, hX, h.ok.txt⟩⟩, rfl, by show D1.burnt.cnt = _; rw [burnt_cnt, c1]⟩
        · show D1.burnt.ws ++ [_] = _
          rw [burnt_ws, w1, hcc]
          rfl
        · have e : (D1.burnt.wrote (S.next.count % 2).toNat (Tw.text kt S.next)).sure = D1.sure := by show D1.burnt.sure = _; rw [burnt_sure]
          show Lie kb (D1.burnt.wrote (S.next.count % 2).toNat (Tw.text kt S.next)) (D1.burnt.wrote (S.next.count % 2).toNat (Tw.text kt S.next)).sure S.next S.X
          rw [e]
          exact hlX.dev (by rw [wrote_blk, burnt_blk])
      · simp only [if_neg h3] at hF
        rw [if_pos trivial] at hF
        generalize hD3 : (D1.burnt.wrote (S.next.count % 2).toNat (Tw.text kt S.next)).burnt.synced = D3 at *
        have c3 : D3.cnt = S.D.cnt := by rw [← hD3, synced_cnt, burnt_cnt]; show D1.burnt.cnt = _; rw [burnt_cnt, c1]
        have w3 : D3.ws = [] := by rw [← hD3]; rfl
        have u3 : ∀ z, z < 8 → D3.sure z = D3.cnt z := fun z hz => by rw [← hD3, (synced_facts _).2.2.2.2 z hz, synced_cnt]
        have b3 : D3.blk = S.D.blk := by rw [← hD3, synced_blk, burnt_blk, wrote_blk, burnt_blk, b1]
        have l3 : ∀ k, k < 2 → D3.slot k = if (S.next.count % 2).toNat = k then sb (Tw.text kt S.next) else D1.slot k := fun k hk => by
          rw [← hD3, synced_slot _ _ hk]
          have e : (D1.burnt.wrote (S.next.count % 2).toNat (Tw.text kt S.next)).burnt.slotBy k (fun _ => true) = (D1.burnt.wrote (S.next.count % 2).toNat (Tw.text kt S.next)).slotBy k (fun _ => true) := by
            unfold Dv.slotBy
            rw [burnt_ws, burnt_slot]
          rw [e, slotBy_one _ _ _ (by rw [burnt_ws]; exact w1), burnt_slot]
          simp
        subst hF
        left
        have hlie : Lie kb D3 D3.cnt S.next S.X := by
          have h4 : Lie kb S.D S.D.cnt S.next S.X := fun i hi => h.lie i hi
          rw [c3]
          exact h4.dev b3
        refine ⟨rfl, ⟨h.dead, by unfold Vl.c16; dsimp only; rw [c3]; exact h.c16, ho, fun z hz => by dsimp only; rw [u3 z hz]; exact Nat.le_refl _, hlie, ⟨Or.inr ⟨?_, hr, rfl, ?_, ?_, h.ok.txt⟩, fun k hk => ?_⟩, w3⟩, c3, rfl, hcc⟩
        · show S.next.count ≠ 0
          omega
        · show Slot kt (D3.slot (S.next.count % 2).toNat) S.next
          rw [l3 _ (by omega), if_pos rfl]
          exact fun j _ => rfl
        · intro i hi
          rcases hlie i hi with h4 | ⟨h4, h5, h6⟩
          · exact Or.inl h4
          · refine Or.inr ⟨h4, ?_, h6⟩
            show S.next.off i < (D3.sure (S.next.zone i).toNat : Int)
            rw [u3 _ (by have := h4.2.1; have := h4.2.2.1; omega)]
            exact h5
        · show (Tw.rd (txt 500 (D3.slot k))).count ≤ S.next.count
          rw [l3 k hk]
          split
          · have : Slot kt (sb (Tw.text kt S.next)) S.next := fun j _ => rfl
            rw [(this.rd hr).1]
            exact Int.le_refl _
          · have := s1.2 k hk
            omega
end Vl
end Go.Proofs.YtifnhnfjelfddaaGreatDoor
end
section
namespace Go.Proofs.YtifnhnfjelfddaaGreatDoor
set_option maxRecDepth 100000
namespace Vl
open Go.RowKit
open Tw (Tb nul may Same Rt)
theorem reclaim_al {kb kt : ByteArray} {S : Vs} {n : Int} {T : Tb} {Y : Nat → ByteArray} (h : Al kb kt S n T Y) (hn : n < 1000000000) (P : (Nat → ByteArray) → Prop) (hY : P Y) (hX : P S.X) {z : Nat} (hv : vicTo S.atf S.live 8 = some z) (hl : tot S.D + (Sp.inI S.T (z : Int) 24).length ≤ 128) :
    ((S.reclaim kb kt).1.2.2 = 0 ∧ Al kb kt (S.reclaim kb kt).2 (n + 1) (S.reclaim kb kt).2.T S.X ∧ tot (S.reclaim kb kt).2.D + 16 = tot S.D + (Sp.inI S.T (z : Int) 24).length ∧ (∀ y, y ≠ z → S.D.cnt y ≤ (S.reclaim kb kt).2.D.cnt y) ∧ (S.reclaim kb kt).2.X = S.X ∧ (S.reclaim kb kt).2.c = S.c + 1) ∨
    ((S.reclaim kb kt).1.2.2 = 14 ∧ (S.reclaim kb kt).2.dead = true ∧ CC kb kt (S.reclaim kb kt).2.D (S.reclaim kb kt).2.c P ∧ S.c ≤ (S.reclaim kb kt).2.c ∧ tot (S.reclaim kb kt).2.D ≤ tot S.D + (Sp.inI S.T (z : Int) 24).length ∧ Vl.c16 (S.reclaim kb kt).2.D) := by
  obtain ⟨hz8, hz16, _⟩ := vic_some hv
  have h16 : S.D.cnt z = 16 := by
    have := h.c16 z hz8
    unfold Vs.atf at hz16; omega
  have ho := h.ok.reclaim kb kt
  have hm : ∀ i ∈ Sp.inI S.T (z : Int) 24, i < 24 := fun i hi => (inI_mem.1 hi).1
  have he : S.reclaim kb kt = if (S.moves kb z (Sp.inI S.T (z : Int) 24)).1 ≠ 0 then ((0, false, (S.moves kb z (Sp.inI S.T (z : Int) 24)).1), (S.moves kb z (Sp.inI S.T (z : Int) 24)).2) else
      if ((S.moves kb z (Sp.inI S.T (z : Int) 24)).2.flush kt).1 ≠ 0 then ((0, false, ((S.moves kb z (Sp.inI S.T (z : Int) 24)).2.flush kt).1), ((S.moves kb z (Sp.inI S.T (z : Int) 24)).2.flush kt).2) else
        if ((S.moves kb z (Sp.inI S.T (z : Int) 24)).2.flush kt).2.D.may = false then ((0, false, 14), { ((S.moves kb z (Sp.inI S.T (z : Int) 24)).2.flush kt).2 with dead := true }) else
          ((((Sp.inI S.T (z : Int) 24).length : Int), true, (0 : Int)), { ((S.moves kb z (Sp.inI S.T (z : Int) 24)).2.flush kt).2 with D := ((S.moves kb z (Sp.inI S.T (z : Int) 24)).2.flush kt).2.D.burnt.reset z }) := by
    unfold Vs.reclaim
    rw [if_neg (by rw [h.dead]; decide), hv]
  have hout := moves_out kb z (Sp.inI S.T (z : Int) 24) S
  have hinI : ∀ i, i < 24 → ¬ nul S.T i → S.T.zone i = z → i ∈ Sp.inI S.T (z : Int) 24 := fun i hi hni ez => inI_mem.2 ⟨hi, fun q => hni ((tag_nul (h.ok.may i hi)).1 q), ez⟩
  rcases moves_al z hz8 _ S h hm h16 hl with ⟨e1, e2, e3, e4, e5, e6⟩ | ⟨e1, e2, e3, e4, e5, e6, e7⟩
  · have hout := hout e1 hm hinI
    rw [if_neg (by rw [e1]; decide)] at he
    generalize (Sp.inI S.T (z : Int) 24).length = len at *
    generalize (S.moves kb z (Sp.inI S.T (z : Int) 24)).2 = S1 at *
    obtain ⟨f1, f2, f3, f4, f5⟩ := flush_T S1 kt
    have hX1 : P S1.X := by rw [e5]; exact hX
    rcases flush_al e2 hn P hY hX1 with ⟨g1, g2, g3, g4, g5⟩ | ⟨g1, g2, g3, g4, g5⟩
    · rw [if_neg (by rw [g1]; decide)] at he
      generalize (S1.flush kt).2 = S2 at *
      have ht2 : tot S2.D = tot S1.D := by unfold tot; rw [g3]
      by_cases h3 : S2.D.may = false
      · rw [if_pos h3] at he
        right
        rw [he]
        refine ⟨rfl, rfl, ⟨S2.T, S1.X, g2.sure, hX1, Or.inl g2.ws⟩, by show S.c ≤ S2.c; omega, by show tot S2.D ≤ _; omega, g2.c16⟩
      · rw [if_neg h3] at he
        left
        rw [he] at ho ⊢
        have hnz : ∀ i, i < 24 → ¬ nul S2.T i → S2.T.zone i ≠ z := fun i hi hni => by
          rw [f1]
          exact hout i hi (fun q => hni ⟨by rw [f1]; exact q.1, by rw [f2]; exact q.2.1, by rw [f3]; exact q.2.2⟩)
        have hlb : Lie kb S2.D.burnt S2.D.burnt.cnt S2.T S2.X := by rw [burnt_cnt]; exact g2.lie.dev (burnt_blk _)
        have hsb : Sure kb kt S2.D.burnt S2.c S2.T S1.X := g2.sure.dev (burnt_blk _) (fun z _ => by rw [burnt_sure]; exact Nat.le_refl _) (fun k _ => by rw [burnt_slot])
        refine ⟨rfl, ⟨g2.dead, fun y hy => ?_, ho, fun y hy => ?_, lie_reset hlb z hnz, ?_, by show S2.D.burnt.ws = []; rw [burnt_ws]; exact g2.ws⟩, ?_, fun y hy => ?_, by show S2.X = _; rw [g4, e5], by show S2.c = _; omega⟩
        · show (S2.D.burnt.reset z).cnt y ≤ 16
          rw [reset_cnt, burnt_cnt]
          split
          · omega
          · exact g2.c16 y hy
        · show (if y = z then 0 else S2.D.burnt.sure y) ≤ (S2.D.burnt.reset z).cnt y
          rw [reset_cnt, burnt_cnt, burnt_sure]
          split
          · omega
          · exact g2.su y hy
        · refine ⟨?_, hsb.2⟩
          rw [← e5]
          rcases hsb.1 with h4 | ⟨h0, hr, hc, hs, hli, hx⟩
          · exact Or.inl h4
          · refine Or.inr ⟨h0, hr, hc, hs, fun i hi => ?_, hx⟩
            rcases hli i hi with h5 | ⟨h5, h6, h7, h8⟩
            · exact Or.inl h5
            · have hs16 := h5.1
              have hzz := hnz i hi (fun q => by rw [q.2.2] at hs16; exact absurd hs16 (by decide))
              have hne : ¬ (S2.T.zone i).toNat = z := by have := h5.2.1; omega
              refine Or.inr ⟨h5, ?_, h7, fun j hj => ?_⟩
              · show S2.T.off i < ((if (S2.T.zone i).toNat = z then 0 else S2.D.burnt.sure (S2.T.zone i).toNat : Nat) : Int)
                rw [if_neg hne]; exact h6
              · show (if (S2.T.zone i).toNat = z then 0 else S2.D.burnt.blk _ _ _) = _
                rw [if_neg hne]; exact h8 j hj
        · show tot (S2.D.burnt.reset z) + 16 = _
          have h5 := reset_tot S2.D.burnt z hz8
          have h6 : S2.D.burnt.cnt z = 16 := by
            rw [burnt_cnt, g3]
            have h7 := e4 z
            have h8 := e2.c16 z hz8
            omega
          rw [h6, burnt_tot, ht2] at h5
          omega
        · show S.D.cnt y ≤ (S2.D.burnt.reset z).cnt y
          rw [reset_cnt, if_neg hy, burnt_cnt, g3]
          exact e4 y
    · rw [if_pos (by rw [g1]; decide)] at he
      right
      rw [he]
      have ht2 : tot (S1.flush kt).2.D = tot S1.D := by unfold tot; rw [g5]
      exact ⟨g1, g2, g3, by show S.c ≤ (S1.flush kt).2.c; omega, by show tot (S1.flush kt).2.D ≤ _; omega, by unfold Vl.c16; rw [g5]; exact e2.c16⟩
  · rw [if_pos (by rw [e1]; decide)] at he
    right
    rw [he]
    exact ⟨e1, e2, ⟨T, Y, by dsimp only; rw [e7]; exact e3, hY, Or.inl e4⟩, by dsimp only; omega, e5, e6⟩
theorem app_ph {S S' : Vs} {k z : Nat} {s : ByteArray} (hc : c16 S.D) (hp : Ph S k) (ht : tot S.D < 108) (h8 : z < 8) (h16 : S.D.cnt z < 16) (hf : ∀ y, y < z → 16 ≤ S.D.cnt y) (he : S'.D.cnt = (S.D.app z s).cnt) : Ph S' (k + 1) ∧ tot S'.D = tot S.D + 1 := by
  have htt : tot S'.D = tot S.D + 1 := by
    have := app_tot S.D z s h8
    unfold tot at this ⊢
    rw [he]
    exact this
  refine ⟨?_, htt⟩
  rcases hp with ⟨m, h1, h2, h3⟩ | ⟨h1, h2⟩ | h1
  · have := h3.tot (by omega)
    refine Or.inl ⟨m + 1, by omega, by omega, ?_⟩
    have h4 := h3.app (by omega) h8 h16 hf s
    unfold shape at h4 ⊢
    rw [he]
    exact h4
  · have h4 := h1.app hc z h16 s
    refine Or.inr (Or.inl ⟨?_, by omega⟩)
    unfold five at h4 ⊢
    rw [he]
    exact h4
  · exact Or.inr (Or.inr (by omega))
theorem write_al {kb kt : ByteArray} {S : Vs} {n : Int} {k : Nat} {T : Tb} {Y : Nat → ByteArray} (h : Al kb kt S n T Y) (hn : n < 900000000) (hp : Ph S k) (h108 : tot S.D ≤ 108) (hk : k < 131) (i : Nat) (hi : i < 24) (t : ByteArray) (ht : t.size ≤ 80) (P : (Nat → ByteArray) → Prop) (hY : P Y) (hX : P S.X) :
    ((S.write kb kt i t).1 = 0 ∧ (∃ T' Y', Al kb kt (S.write kb kt i t).2 (n + 1) T' Y' ∧ P Y') ∧ Ph (S.write kb kt i t).2 (k + 1) ∧ tot (S.write kb kt i t).2.D ≤ 108 ∧ (S.write kb kt i t).2.X = updX S.X i t ∧ S.c ≤ (S.write kb kt i t).2.c) ∨
    ((S.write kb kt i t).1 = 14 ∧ (S.write kb kt i t).2.dead = true ∧ CC kb kt (S.write kb kt i t).2.D (S.write kb kt i t).2.c P ∧ S.c ≤ (S.write kb kt i t).2.c ∧ tot (S.write kb kt i t).2.D ≤ 112 ∧ Vl.c16 (S.write kb kt i t).2.D) := by
  have hw : S.write kb kt i t = if t = S.X i then (0, S) else if t = ⟨#[]⟩ then (0, S.set i 0 0 ⟨#[]⟩ ⟨#[]⟩) else if S.free ≤ 20 then (if (S.reclaim kb kt).1.2.2 ≠ 0 then ((S.reclaim kb kt).1.2.2, (S.reclaim kb kt).2) else (S.reclaim kb kt).2.put kb i (-1) t) else S.put kb i (-1) t := by
    unfold Vs.write
    rw [if_neg (by rw [h.dead]; decide), if_neg (by omega), if_neg (by omega), Int.toNat_natCast]
  rw [hw]
  by_cases h1 : t = S.X i
  · rw [if_pos h1]
    exact Or.inl ⟨rfl, ⟨T, Y, h.le (by omega), hY⟩, hp.le (by omega), h108, by rw [h1, updX_self], Int.le_refl _⟩
  · rw [if_neg h1]
    by_cases h2 : t = ⟨#[]⟩
    · rw [if_pos h2]
      refine Or.inl ⟨rfl, ⟨T, Y, ⟨h.dead, h.c16, (h.ok.clear i).le (by omega), h.su, fun j hj => ?_, h.sure, h.ws⟩, hY⟩, (hp.cnt rfl).le (by omega), h108, by rw [h2]; rfl, Int.le_refl _⟩
      show At kb S.D S.D.cnt (updT S.T i 0 0 ⟨#[]⟩) (updX S.X i ⟨#[]⟩) j
      by_cases e : j = i
      · subst e
        obtain ⟨a, b, c⟩ := updT_at S.T j 0 0 ⟨#[]⟩
        exact Or.inl ⟨⟨a, b, c⟩, by unfold updX; rw [if_pos rfl]⟩
      · obtain ⟨a, b, c⟩ := updT_ne S.T i 0 0 ⟨#[]⟩ e
        have hx : updX S.X i ⟨#[]⟩ j = S.X j := by unfold updX; rw [if_neg e]
        unfold At
        rw [updT_nul _ _ _ _ _ e, updT_may _ _ _ _ _ e, a, b, c, hx]
        exact h.lie j hj
    · rw [if_neg h2, free_tot h.c16]
      by_cases h3 : (128 : Int) - (tot S.D : Int) ≤ 20
      · rw [if_pos h3]
        have htot : tot S.D = 108 := by omega
        -- a zone is full
        obtain ⟨z, hv⟩ : ∃ z, vicTo S.atf S.live 8 = some z := by
          cases hv : vicTo S.atf S.live 8 with
          | some z => exact ⟨z, rfl⟩
          | none =>
            exfalso
            have h0 := vic_none hv 0 (by omega)
            have h1 := vic_none hv 1 (by omega)
            unfold Vs.atf at h0 h1
            rcases hp with ⟨m, k1, k2, k3⟩ | ⟨⟨v, k1⟩, k2⟩ | k1
            · have := k3.tot (by omega)
              have := k3 0 (by omega)
              omega
            · by_cases e : 0 = v
              · have := k1 1 (by omega) (by omega); omega
              · have := k1 0 (by omega) e; omega
            · omega
        have hfew := hp.few (by omega) (by omega) (by omega) hv
        rcases reclaim_al h (by omega) P hY hX hv (by omega) with ⟨e1, e2, e3, e4, e5, e6⟩ | ⟨e1, e2, e3, e4, e5, e6⟩
        · rw [if_neg (by rw [e1]; decide)]
          have hph : Ph (S.reclaim kb kt).2 k ∨ (120 ≤ k ∧ tot (S.reclaim kb kt).2.D ≤ 96) := by
            rcases hp with ⟨m, k1, k2, k3⟩ | ⟨k1, k2⟩ | k1
            · have hm := k3.tot (by omega)
              refine Or.inl (Or.inr (Or.inl ⟨⟨z, fun y hy hyz => ?_⟩, by omega⟩))
              have h4 := k3 y (by omega)
              have h5 := e4 y hyz
              have h6 := e2.c16 y (by omega)
              omega
            · exact Or.inr ⟨by omega, by omega⟩
            · omega
          have ht1 : tot (S.reclaim kb kt).2.D ≤ 96 := by omega
          generalize (S.reclaim kb kt).2 = S1 at *
          obtain ⟨y, hy8, hy16, hyf, hpu | ⟨hpu, hal⟩⟩ := put_al e2 (by omega) i hi (-1) (Or.inl (by omega)) t ht
          · rw [hpu.2]
            exact Or.inr ⟨rfl, rfl, ⟨_, _, e2.sure, hX, Or.inl e2.ws⟩, by show S.c ≤ S1.c; omega, by show tot S1.D ≤ 112; omega, e2.c16⟩
          · have hcnt : (S1.D.burnt.app y (Sl.sealOf kb i t)).cnt = (S1.D.app y (Sl.sealOf kb i t)).cnt := by
              funext x
              rw [app_cnt, app_cnt, burnt_cnt]
            have htt : tot (S1.D.burnt.app y (Sl.sealOf kb i t)) = tot S1.D + 1 := by rw [app_tot _ _ _ hy8, burnt_tot]
            refine Or.inl ⟨by rw [hpu], ⟨_, _, hal, hX⟩, ?_, by rw [hpu]; show tot (S1.D.burnt.app y _) ≤ 108; omega, by rw [hpu]; show updX S1.X i t = _; rw [e5], by rw [hpu]; show S.c ≤ S1.c; omega⟩
            rw [hpu]
            rcases hph with hph | ⟨k1, k2⟩
            · exact (app_ph e2.c16 hph (by omega) hy8 hy16 hyf hcnt).1
            · exact Or.inr (Or.inr (by show tot (S1.D.burnt.app y _) + 24 ≤ k + 1; omega))
        · rw [if_pos (by rw [e1]; decide)]
          exact Or.inr ⟨e1, e2, e3, e4, by show tot (S.reclaim kb kt).2.D ≤ 112; omega, e6⟩
      · rw [if_neg h3]
        obtain ⟨y, hy8, hy16, hyf, hpu | ⟨hpu, hal⟩⟩ := put_al h (by omega) i hi (-1) (Or.inl (by omega)) t ht
        · rw [hpu.2]
          exact Or.inr ⟨rfl, rfl, ⟨T, Y, h.sure, hY, Or.inl h.ws⟩, Int.le_refl _, by show tot S.D ≤ 112; omega, h.c16⟩
        · have hcnt : (S.D.burnt.app y (Sl.sealOf kb i t)).cnt = (S.D.app y (Sl.sealOf kb i t)).cnt := by
            funext x
            rw [app_cnt, app_cnt, burnt_cnt]
          have htt : tot (S.D.burnt.app y (Sl.sealOf kb i t)) = tot S.D + 1 := by rw [app_tot _ _ _ hy8, burnt_tot]
          refine Or.inl ⟨by rw [hpu], ⟨T, Y, hal.le (by omega), hY⟩, ?_, by rw [hpu]; show tot (S.D.burnt.app y _) ≤ 108; omega, by rw [hpu], by rw [hpu]; exact Int.le_refl _⟩
          rw [hpu]
          exact (app_ph h.c16 hp (by omega) hy8 hy16 hyf hcnt).1
end Vl
end Go.Proofs.YtifnhnfjelfddaaGreatDoor
end
