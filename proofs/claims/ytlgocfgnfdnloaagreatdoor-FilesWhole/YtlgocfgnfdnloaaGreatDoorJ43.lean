import Derived.BigQuiet
import Derived.Deep.RegionHeld3
import Derived.Deep.AppendLies
import Derived.Test.YtlgocfgnfdnloaaGreatDoorJ18
import Derived.Test.YtlgocfgnfdnloaaGreatDoorJ23
import Derived.Test.YtlgocfgnfdnloaaGreatDoorJ26
import Derived.Test.YtlgocfgnfdnloaaGreatDoorJ36
import Derived.Test.YtlgocfgnfdnloaaGreatDoorJ37
set_option linter.unusedSimpArgs false
set_option linter.unusedVariables false
section
namespace Go.Proofs.YtlgocfgnfdnloaaGreatDoor
set_option maxRecDepth 100000
namespace Vl
open Go.RowKit
open Tw (Tb nul may Same Rt)
def Sure (kb kt : ByteArray) (D : Dv) (c : Int) (T : Tb) (X : Nat → ByteArray) : Prop :=
  ((c = 0 ∧ (∀ i, i < 24 → X i = ⟨#[]⟩)) ∨ (c ≠ 0 ∧ Rt T ∧ T.count = c ∧ Slot kt (D.slot (c % 2).toNat) T ∧ Lie kb D D.sure T X ∧ ∀ i, (X i).size ≤ 80)) ∧ (∀ k, k < 2 → (Tw.rd (txt 500 (D.slot k))).count ≤ c)
theorem flush_sure {kb kt : ByteArray} {S : Vs} {n : Int} (h : Good kb kt S n) (hn : n < 1000000000) : Sure kb kt (S.flush kt).2.D (S.flush kt).2.c (S.flush kt).2.T (S.flush kt).2.X ∧ (S.flush kt).2.D.ws = [] := by
  obtain ⟨hg, hs, hr⟩ := flush_good h (by omega)
  obtain ⟨_, _, hcnt, hc, _, _⟩ := flush_more h.on kt
  have hD : (S.flush kt).2.D = ((S.D.synced).wrote (S.next.count % 2).toNat (Tw.text kt S.next)).synced := by rw [flush_on h.on kt]
  have hws : (S.flush kt).2.D.ws = [] := by rw [hD]; rfl
  have hsu : ∀ z, z < 8 → (S.flush kt).2.D.sure z = (S.flush kt).2.D.cnt z := fun z hz => by
    rw [hD]
    exact (synced_facts _).2.2.2.2 z hz
  have h0 := h.ok.c0
  have h1 := h.ok.cnt
  generalize S.flush kt = F at *
  have hlow := hg.low
  have hsl : ∀ k, F.2.D.slotBy k (fun _ => true) = F.2.D.slot k := fun k => slotBy_nil _ hws k _
  rw [hsl] at hs
  refine ⟨⟨Or.inr ⟨by omega, hr, hg.ok.cnt, hs, fun i hi => ?_, hg.ok.txt⟩, fun k hk => ?_⟩, hws⟩
  · rcases hg.lie i hi with h2 | ⟨h2, h3, h4⟩
    · exact Or.inl h2
    · refine Or.inr ⟨h2, ?_, h4⟩
      rw [hsu _ (by have := h2.2.1; have := h2.2.2.1; omega)]
      exact h3
  · have := hlow k hk
    rwa [hsl] at this
theorem sure_app {kb kt : ByteArray} {D : Dv} {c : Int} {T : Tb} {X : Nat → ByteArray} (h : Sure kb kt D c T X) (hs : ∀ z, z < 8 → D.sure z ≤ D.cnt z) (z : Nat) (hz : z < 8) (s : ByteArray) : Sure kb kt (D.app z s) c T X := by
  refine ⟨?_, h.2⟩
  rcases h.1 with h1 | ⟨h0, hr, hc, hsl, hl, hx⟩
  · exact Or.inl h1
  · refine Or.inr ⟨h0, hr, hc, hsl, fun i hi => ?_, hx⟩
    rcases hl i hi with h2 | ⟨h2, h3, h4, h5⟩
    · exact Or.inl h2
    · refine Or.inr ⟨h2, h3, h4, fun j hj => ?_⟩
      show (if (T.zone i).toNat = z ∧ (T.off i).toNat = D.cnt z then _ else D.blk _ _ _) = _
      rw [if_neg (fun q => by
        have := h2.2.2.2.1
        have := hs z hz
        rw [q.1] at h3
        omega)]
      exact h5 j hj
theorem sure_crash {kb kt : ByteArray} {D : Dv} {c : Int} {T : Tb} {X : Nat → ByteArray} (h : Sure kb kt D c T X) (hw : D.ws = []) (nk : Nat) (ks : Nat → Int) (ns : Nat) (sl : Nat → Bool) : Told kb kt (D.crashed nk ks ns sl) c T X ∧ low (D.crashed nk ks ns sl) c := by
  have hslot := crashed_slot D nk ks ns sl hw
  have hsk : ∀ k, k < 2 → (D.crashed nk ks ns sl).slotBy k (fun _ => true) = D.slot k := fun k hk => by
    rw [slotBy_nil _ (crashed_fused D nk ks ns sl).2]
    have : k = 0 ∨ k = 1 := by omega
    rcases this with rfl | rfl
    · exact hslot.1
    · exact hslot.2
  refine ⟨?_, fun k hk => by rw [hsk k hk]; exact h.2 k hk⟩
  rcases h.1 with h1 | ⟨h0, hr, hc, hsl, hl, hx⟩
  · exact Or.inl h1
  · refine Or.inr ⟨h0, hr, hc, by rw [hsk _ (by omega)]; exact hsl, fun i hi => ?_, hx⟩
    rcases hl i hi with h2 | ⟨h2, h3, h4, h5⟩
    · exact Or.inl h2
    · have hz8 : (T.zone i).toNat < 8 := by have := h2.2.1; have := h2.2.2.1; omega
      have hge := kept1_ge (D.cnt (T.zone i).toNat) (D.sure (T.zone i).toNat) (keepAt nk ks (T.zone i).toNat)
      have ho := h2.2.2.2.1
      refine Or.inr ⟨h2, ?_, h4, fun j hj => ?_⟩
      · rw [crashed_cnt _ _ _ _ _ _ hz8]; omega
      · rw [crashed_blk _ _ _ _ _ _ _ (by omega)]
        exact h5 j hj
theorem write_sure {kb kt : ByteArray} {S : Vs} {n : Int} (h : Good kb kt S n) (ht : tot S.D < 108) (hs : ∀ z, z < 8 → S.D.sure z ≤ S.D.cnt z) (i : Nat) (hi : i < 24) (t : ByteArray) (h80 : t.size ≤ 80) {c : Int} {T : Tb} {X : Nat → ByteArray} (hsu : Sure kb kt S.D c T X) (hw : S.D.ws = []) :
    Sure kb kt (S.write kb kt i t).2.D c T X ∧ (S.write kb kt i t).2.D.ws = [] ∧ (S.write kb kt i t).2.c = S.c := by
  have he : S.write kb kt i t = if t = S.X i then (0, S) else if t = ⟨#[]⟩ then (0, S.set i 0 0 ⟨#[]⟩ ⟨#[]⟩) else if S.free ≤ 20 then (if (S.reclaim kb kt).1.2.2 ≠ 0 then ((S.reclaim kb kt).1.2.2, (S.reclaim kb kt).2) else (S.reclaim kb kt).2.put kb i (-1) t) else S.put kb i (-1) t := by
    unfold Vs.write
    rw [if_neg (by rw [h.on.dead]; decide), if_neg (by omega), if_neg (by omega), Int.toNat_natCast]
  rw [he]
  by_cases h1 : t = S.X i
  · rw [if_pos h1]; exact ⟨hsu, hw, rfl⟩
  · rw [if_neg h1]
    by_cases h2 : t = ⟨#[]⟩
    · rw [if_pos h2]; exact ⟨hsu, hw, rfl⟩
    · rw [if_neg h2, free_tot h.on.c16, if_neg (by omega)]
      obtain ⟨z, _, hz8, hz16, _, hp⟩ := put_on h.on (by omega) kb i (-1) (Or.inl (by omega)) t
      rw [hp]
      exact ⟨sure_app hsu hs z hz8 _, hw, rfl⟩
section
variable {w0 w w' : World} {vb db cb : Nat} {S S' : Vs} {v v' : Value} {D D' : Dv} {c : Int}
theorem DC.turn (h : DC w0 w db cb D c v) (hd : Dev w' db D' v') (hf : Fr db none w w') (hv : v'.ownBlock = none) : DC w0 w' db cb D' c v' :=
  ⟨hd, h.ctr.fr hf (fun e => h.ne e.symm) (by simp), h.ne, by rw [hv]; simp, hf.since h.since h.lo.1 (fun k e => by cases e), h.lo.1, h.lo.2.1, fun k hk => by rw [hv] at hk; cases hk⟩
theorem open_ok {s : ByteArray} {T : Tb} {X : Nat → ByteArray} (hs : s.size = 16) (hT : Sm.Tab w0) (hc : 0 ≤ c ∧ c < 1000000000) (h : DC w0 w db cb D c v) (ht : Told (kbOf s) (ktOf s) D c T X) (hl : low D c) :
    Calls Tryz.prog 56 #[.pointer (some ⟨db, 0, none⟩), .pointer (some ⟨cb, 0, none⟩), .string s] w fun e w' => ∃ vb S' v', e = .returned (.tuple #[.pointer (some ⟨vb, 0, none⟩), .nilIface]) ∧ w.heap.size ≤ vb ∧ Vol w0 w' vb db cb (kbOf s) (ktOf s) S' v' ∧ (S'.D = D ∧ S'.c = c ∧ S'.dead = false ∧ S'.T.count = c ∧ (c = 0 → S' = fresh D c) ∧ (∀ i, i < 24 → S'.X i = X i) ∧ (c ≠ 0 → Same S'.T T ∧ whole (kbOf s) (ktOf s) D c ∧ S' = opened (kbOf s) D c c)) ∧ Fs (fun k => k = db ∨ k = cb ∨ v.ownBlock = some k) w w' ∧ Nx w v.ownBlock v'.ownBlock := by
  refine (open_any s hs hT hc h).mono ?_
  rintro e w' ⟨vb, r, S', v', hto, he, hvb, hvol, hf, hn⟩
  have ho : OpenIs (kbOf s) (ktOf s) D c r S' := hto
  obtain ⟨hr, h1, h2, h3, h4, h5, h6⟩ := open_told ht hl ho
  subst hr
  rcases he with ⟨_, rfl⟩ | ⟨h0, _⟩
  · refine ⟨vb, S', v', rfl, hvb, hvol, ⟨h1, h2, h3, ?_, h4, h6, h5⟩, hf, hn⟩
    by_cases hc0 : c = 0
    · rw [h4 hc0, hc0]; rfl
    · rw [(h5 hc0).1.1]
      rcases ht with ⟨h7, _⟩ | ⟨_, _, h8, _⟩
      · exact absurd h7 hc0
      · exact h8
  · exact absurd rfl h0
end
end Vl
end Go.Proofs.YtlgocfgnfdnloaaGreatDoor
end
section
namespace Go.Proofs.YtlgocfgnfdnloaaGreatDoor
set_option maxRecDepth 100000
namespace Vl
open Go.RowKit
section
variable {w0 w w' : World} {vb db cb : Nat} {kb kt : ByteArray} {S S' : Vs} {v : Value}
end
end Vl
end Go.Proofs.YtlgocfgnfdnloaaGreatDoor
end
section
namespace Go.Proofs.YtlgocfgnfdnloaaGreatDoor
set_option maxRecDepth 100000
namespace Vl
open Go.RowKit
open Tw (Tb nul may Same Rt)
def sec : ByteArray := ⟨#[48, 49, 50, 51, 52, 53, 54, 55, 56, 57, 97, 98, 99, 100, 101, 102]⟩
section
variable {w0 w w' : World} {vb db cb : Nat} {kb kt : ByteArray} {S S' : Vs} {v v' : Value} {D D' : Dv} {c n : Int} {k : Nat}
theorem dc_new (w : World) : DC w ((w.alloc (.cells Tryz.zeroCells129 129)).alloc (.cells #[.int .i64 0] 30)) w.heap.size (w.heap.size + 1) dv0 0 (.slice none 0 0) := by
  have hz : (w.alloc (.cells Tryz.zeroCells129 129)).heap.size = w.heap.size + 1 := by simp
  refine ⟨(dev_new w).since ((Since.refl _).alloc _), ?_, by omega, by simp [Value.ownBlock], ((Since.refl w).alloc _).alloc _, Nat.le_refl _, by omega, fun k hk => by simp [Value.ownBlock] at hk⟩
  exact Cel.new _ 1 _ _ _ (fun j hj => by
    obtain rfl : j = 0 := by omega
    rfl) _ hz.symm
end
theorem sl_nil (w : World) (b : Nat) (f : Nat → Value) : Go.Proofs.YtlgocfgnfdnloaaGreatDoor.Sl w b (.slice none 0 0) 0 f := ⟨none, 0, rfl, fun h => by omega⟩
theorem sure_zero (kb kt : ByteArray) : Sure kb kt dv0 0 Tb.zero (fun _ => ⟨#[]⟩) :=
  ⟨Or.inl ⟨rfl, fun _ _ => rfl⟩, fun k hk => by
    have e : dv0.slot k = fun _ => 0 := rfl
    rw [e, rd_zero]; omega⟩
end Vl
end Go.Proofs.YtlgocfgnfdnloaaGreatDoor
end
section
namespace Go.Proofs.YtlgocfgnfdnloaaGreatDoor
set_option maxRecDepth 100000
namespace Vl
open Go.RowKit
open Tw (Tb nul may Same Rt)
theorem burnt_blk (D : Dv) : D.burnt.blk = D.blk := by unfold Dv.burnt; split <;> rfl
theorem burnt_sure (D : Dv) : D.burnt.sure = D.sure := by unfold Dv.burnt; split <;> rfl
theorem burnt_slot (D : Dv) : D.burnt.slot = D.slot := by unfold Dv.burnt; split <;> rfl
theorem Sure.dev {kb kt : ByteArray} {D D' : Dv} {c : Int} {T : Tb} {X : Nat → ByteArray} (h : Sure kb kt D c T X) (hb : D'.blk = D.blk) (hsu : ∀ z, z < 8 → D.sure z ≤ D'.sure z) (hsl : ∀ k, k < 2 → D'.slot k = D.slot k) : Sure kb kt D' c T X := by
  refine ⟨?_, fun k hk => by rw [hsl k hk]; exact h.2 k hk⟩
  rcases h.1 with h1 | ⟨h0, hr, hc, hs, hl, hx⟩
  · exact Or.inl h1
  · refine Or.inr ⟨h0, hr, hc, by rw [hsl _ (by omega)]; exact hs, fun i hi => ?_, hx⟩
    rcases hl i hi with h2 | ⟨h2, h3, h4, h5⟩
    · exact Or.inl h2
    · refine Or.inr ⟨h2, ?_, h4, fun j hj => by rw [hb]; exact h5 j hj⟩
      have := hsu (T.zone i).toNat (by have := h2.2.1; have := h2.2.2.1; omega)
      omega
structure Al (kb kt : ByteArray) (S : Vs) (n : Int) (T : Tb) (Y : Nat → ByteArray) : Prop where
  dead : S.dead = false
  c16 : c16 S.D
  ok : S.ok n
  su : ∀ z, z < 8 → S.D.sure z ≤ S.D.cnt z
  lie : Lie kb S.D S.D.cnt S.T S.X
  sure : Sure kb kt S.D S.c T Y
  ws : S.D.ws = []
theorem Al.le {kb kt : ByteArray} {S : Vs} {n m : Int} {T : Tb} {Y : Nat → ByteArray} (h : Al kb kt S n T Y) (hm : n ≤ m) : Al kb kt S m T Y := ⟨h.dead, h.c16, h.ok.le hm, h.su, h.lie, h.sure, h.ws⟩
def CC (kb kt : ByteArray) (D : Dv) (c : Int) (P : (Nat → ByteArray) → Prop) : Prop :=
  ∃ T Y, Sure kb kt D c T Y ∧ P Y ∧ (D.ws = [] ∨ ∃ U X, D.ws = [(((c + 1) % 2).toNat, Tw.text kt U)] ∧ Rt U ∧ U.count = c + 1 ∧ Lie kb D D.sure U X ∧ P X ∧ ∀ i, (X i).size ≤ 80)
theorem put_al {kb kt : ByteArray} {S : Vs} {n : Int} {T : Tb} {Y : Nat → ByteArray} (h : Al kb kt S n T Y) (hf : tot S.D < 128) (i : Nat) (hi : i < 24) (but : Int) (hb : but < 0 ∨ ∃ z : Nat, but = z ∧ z < 8 ∧ S.D.cnt z = 16) (t : ByteArray) (ht : t.size ≤ 80) :
    ∃ z : Nat, z < 8 ∧ S.D.cnt z < 16 ∧ (∀ y, y < z → 16 ≤ S.D.cnt y) ∧ ((S.D.may = false ∧ S.put kb i but t = (14, { S with dead := true })) ∨
      (S.put kb i but t = (0, { S with D := S.D.burnt.app z (Sl.sealOf kb i t), T := updT S.T i z (S.D.cnt z) ((Sl.sealOf kb i t).extract 0 16), X := updX S.X i t }) ∧ Al kb kt (S.put kb i but t).2 n T Y)) := by
  obtain ⟨z, hz⟩ := room_there h.c16 hf but hb
  obtain ⟨h8, _, h16⟩ := room_some hz
  have hc : S.D.cnt z < 16 := by unfold Vs.atf at h16; omega
  refine ⟨z, h8, hc, fun y hy => ?_, ?_⟩
  · rcases room_first hz y hy with e | e
    · rcases hb with hb | ⟨x, hx, _, hx16⟩
      · omega
      · obtain rfl : x = y := by omega
        omega
    · unfold Vs.atf at e; omega
  · by_cases hm : S.D.may = false
    · refine Or.inl ⟨hm, ?_⟩
      unfold Vs.put
      rw [hz]
      dsimp only
      rw [if_pos hm]
    · have he : S.put kb i but t = (0, { S with D := S.D.burnt.app z (Sl.sealOf kb i t), T := updT S.T i z (S.D.cnt z) ((Sl.sealOf kb i t).extract 0 16), X := updX S.X i t }) := by
        unfold Vs.put
        rw [hz]
        dsimp only
        rw [if_neg hm]
      refine Or.inr ⟨he, ?_⟩
      have ho := h.ok.put kb i hi but t ht
      rw [he] at ho ⊢
      have hlb : Lie kb S.D.burnt S.D.burnt.cnt S.T S.X := by rw [burnt_cnt]; exact h.lie.dev (burnt_blk _)
      have hla := lie_app hlb i z hi h8 (by rw [burnt_cnt]; exact hc) t
      rw [show S.D.burnt.cnt z = S.D.cnt z by rw [burnt_cnt]] at hla
      have hcb : Vl.c16 S.D.burnt := fun y hy => by rw [burnt_cnt]; exact h.c16 y hy
      have hsb : Sure kb kt S.D.burnt S.c T Y := h.sure.dev (burnt_blk _) (fun z _ => by rw [burnt_sure]; exact Nat.le_refl _) (fun k _ => by rw [burnt_slot])
      have hsu : ∀ y, y < 8 → S.D.burnt.sure y ≤ S.D.burnt.cnt y := fun y hy => by rw [burnt_sure, burnt_cnt]; exact h.su y hy
      refine ⟨h.dead, app_c16 hcb (by rw [burnt_cnt]; exact hc), ho, fun y hy => ?_, hla, sure_app hsb hsu z h8 _, ?_⟩
      · show S.D.burnt.sure y ≤ (S.D.burnt.app z (Sl.sealOf kb i t)).cnt y
        rw [app_cnt]
        have := hsu y hy
        split
        · rename_i e; subst e; omega
        · exact this
      · show S.D.burnt.ws = []
        rw [burnt_ws]
        exact h.ws
theorem burnt_tot (D : Dv) : tot D.burnt = tot D := by unfold tot; rw [burnt_cnt]
theorem moves_al {kb kt : ByteArray} {n : Int} {T : Tb} {Y : Nat → ByteArray} (z : Nat) (hz : z < 8) : ∀ (l : List Nat) (S : Vs), Al kb kt S n T Y → (∀ i ∈ l, i < 24) → S.D.cnt z = 16 → tot S.D + l.length ≤ 128 →
    ((S.moves kb z l).1 = 0 ∧ Al kb kt (S.moves kb z l).2 n T Y ∧ tot (S.moves kb z l).2.D = tot S.D + l.length ∧ (∀ y, S.D.cnt y ≤ (S.moves kb z l).2.D.cnt y) ∧ (S.moves kb z l).2.X = S.X ∧ (S.moves kb z l).2.c = S.c) ∨
    ((S.moves kb z l).1 = 14 ∧ (S.moves kb z l).2.dead = true ∧ Sure kb kt (S.moves kb z l).2.D S.c T Y ∧ (S.moves kb z l).2.D.ws = [] ∧ tot (S.moves kb z l).2.D ≤ tot S.D + l.length ∧ Vl.c16 (S.moves kb z l).2.D ∧ (S.moves kb z l).2.c = S.c)
  | [], S, h, _, h16, hl => by
    rw [moves_nil]
    exact Or.inl ⟨rfl, h, rfl, fun _ => Nat.le_refl _, rfl, rfl⟩
  | i :: r, S, h, hm, h16, hl => by
    rw [List.length_cons] at hl ⊢
    have hi := hm i (by simp)
    obtain ⟨y, hy8, hy16, _, hp | ⟨hp, hal⟩⟩ := put_al h (by omega) i hi (z : Int) (Or.inr ⟨z, rfl, hz, h16⟩) (S.X i) (h.ok.txt i)
    · rw [moves_cons, hp.2, if_neg (by simp)]
      exact Or.inr ⟨rfl, rfl, h.sure, h.ws, by show tot S.D ≤ _; omega, h.c16, rfl⟩
    · rw [moves_cons, if_pos (by rw [hp])]
      rw [hp] at hal ⊢
      rw [updX_self] at hal ⊢
      have hcnt : ∀ x, S.D.cnt x ≤ (S.D.burnt.app y (Sl.sealOf kb i (S.X i))).cnt x := fun x => by
        rw [app_cnt, burnt_cnt]
        split
        · rename_i e; subst e; omega
        · exact Nat.le_refl _
      have ht : tot (S.D.burnt.app y (Sl.sealOf kb i (S.X i))) = tot S.D + 1 := by rw [app_tot _ _ _ hy8, burnt_tot]
      have hc : (S.D.burnt.app y (Sl.sealOf kb i (S.X i))).cnt z = 16 := by
        have h1 := hcnt z
        have h2 := hal.c16 z hz
        dsimp only at h2
        omega
      rcases moves_al z hz r _ hal (fun j hj => hm j (by simp [hj])) hc (by dsimp only; omega) with ⟨e1, e2, e3, e4, e5, e6⟩ | ⟨e1, e2, e3, e4, e5, e6, e7⟩
      · dsimp only at e3 e4 e5 e6
        exact Or.inl ⟨e1, e2, by rw [e3, ht]; omega, fun x => Nat.le_trans (hcnt x) (e4 x), e5, e6⟩
      · dsimp only at e3 e5 e7
        exact Or.inr ⟨e1, e2, e3, e4, (by dsimp only; omega), e6, e7⟩
theorem flush_al {kb kt : ByteArray} {S : Vs} {n : Int} {T : Tb} {Y : Nat → ByteArray} (h : Al kb kt S n T Y) (hn : n < 1000000000) (P : (Nat → ByteArray) → Prop) (hY : P Y) (hX : P S.X) :
    ((S.flush kt).1 = 0 ∧ Al kb kt (S.flush kt).2 (n + 1) (S.flush kt).2.T S.X ∧ (S.flush kt).2.D.cnt = S.D.cnt ∧ (S.flush kt).2.X = S.X ∧ (S.flush kt).2.c = S.c + 1) ∨
    ((S.flush kt).1 = 14 ∧ (S.flush kt).2.dead = true ∧ CC kb kt (S.flush kt).2.D (S.flush kt).2.c P ∧ (S.flush kt).2.c = S.c ∧ (S.flush kt).2.D.cnt = S.D.cnt) := by
  have ho := h.ok.flush kt
  have hr := h.ok.next (by omega)
  have hcc : S.next.count = S.c + 1 := by show S.T.count + 1 = _; rw [h.ok.cnt]
  have hc0 := h.ok.c0
  generalize hF : S.flush kt = F at *
  unfold Vs.flush Vs.tell at hF
  rw [if_neg (by rw [h.dead]; decide)] at hF
  by_cases h1 : S.D.may = false
  · rw [if_pos h1] at hF
    subst hF
    exact Or.inr ⟨rfl, rfl, ⟨T, Y, h.sure, hY, Or.inl h.ws⟩, rfl, rfl⟩
  · rw [if_neg h1] at hF
    -- the first Sync is done
    have s1 : Sure kb kt S.D.burnt.synced S.c T Y := h.sure.dev (by rw [synced_blk, burnt_blk]) (fun z hz => by rw [(synced_facts _).2.2.2.2 z hz, burnt_cnt]; exact h.su z hz) (fun k hk => by rw [synced_slot _ _ hk, slotBy_nil _ (by rw [burnt_ws]; exact h.ws), burnt_slot])
    have c1 : S.D.burnt.synced.cnt = S.D.cnt := by rw [synced_cnt, burnt_cnt]
    have w1 : S.D.burnt.synced.ws = [] := rfl
    have u1 : ∀ z, z < 8 → S.D.burnt.synced.sure z = S.D.cnt z := fun z hz => by rw [(synced_facts _).2.2.2.2 z hz, burnt_cnt]
    have b1 : S.D.burnt.synced.blk = S.D.blk := by rw [synced_blk, burnt_blk]
    generalize S.D.burnt.synced = D1 at *
    by_cases h2 : D1.may = false
    · simp only [if_pos h2] at hF
      rw [if_neg (by decide)] at hF
      subst hF
      exact Or.inr ⟨rfl, rfl, ⟨T, Y, s1, hY, Or.inl w1⟩, rfl, c1⟩
    · simp only [if_neg h2] at hF
      have hlX : Lie kb D1 D1.sure S.next S.X := fun i hi => by
        rcases h.lie i hi with h3 | ⟨h3, h4, h5, h6⟩
        · exact Or.inl h3
        · refine Or.inr ⟨h3, ?_, h5, fun j hj => by rw [b1]; exact h6 j hj⟩
          rw [u1 _ (by show (S.T.zone i).toNat < 8; have := h3.2.1; have := h3.2.2.1; omega)]
          exact h4
      by_cases h3 : (D1.burnt.wrote (S.next.count % 2).toNat (Tw.text kt S.next)).may = false
      · simp only [if_pos h3] at hF
        rw [if_neg (by decide)] at hF
        subst hF
        refine Or.inr ⟨rfl, rfl, ⟨T, Y, s1.dev (by rw [wrote_blk, burnt_blk]) (fun z hz => by show D1.sure z ≤ D1.burnt.sure z; rw [burnt_sure]; exact Nat.le_refl _) (fun k hk => by show D1.burnt.slot k = _; rw [burnt_slot]), hY, Or.inr ⟨S.next, S.X, ?_, hr, hcc, ?_, hX, h.ok.txt⟩⟩, rfl, by show D1.burnt.cnt = _; rw [burnt_cnt, c1]⟩
        · show D1.burnt.ws ++ [_] = _
          rw [burnt_ws, w1, hcc]
          rfl
        · have e : (D1.burnt.wrote (S.next.count % 2).toNat (Tw.text kt S.next)).sure = D1.sure := by show D1.burnt.sure = _; rw [burnt_sure]
          show Lie kb (D1.burnt.wrote (S.next.count % 2).toNat (Tw.text kt S.next)) (D1.burnt.wrote (S.next.count % 2).toNat (Tw.text kt S.next)).sure S.next S.X
          rw [e]
          exact hlX.dev (by rw [wrote_blk, burnt_blk])
      · simp only [if_neg h3] at hF
        rw [if_pos trivial] at hF
        generalize hD3 : (D1.burnt.wrote (S.next.count % 2).toNat (Tw.text kt S.next)).burnt.synced = D3 at *
        have c3 : D3.cnt = S.D.cnt := by rw [← hD3, synced_cnt, burnt_cnt]; show D1.burnt.cnt = _; rw [burnt_cnt, c1]
        have w3 : D3.ws = [] := by rw [← hD3]; rfl
        have u3 : ∀ z, z < 8 → D3.sure z = D3.cnt z := fun z hz => by rw [← hD3, (synced_facts _).2.2.2.2 z hz, synced_cnt]
        have b3 : D3.blk = S.D.blk := by rw [← hD3, synced_blk, burnt_blk, wrote_blk, burnt_blk, b1]
        have l3 : ∀ k, k < 2 → D3.slot k = if (S.next.count % 2).toNat = k then sb (Tw.text kt S.next) else D1.slot k := fun k hk => by
          rw [← hD3, synced_slot _ _ hk]
          have e : (D1.burnt.wrote (S.next.count % 2).toNat (Tw.text kt S.next)).burnt.slotBy k (fun _ => true) = (D1.burnt.wrote (S.next.count % 2).toNat (Tw.text kt S.next)).slotBy k (fun _ => true) := by
            unfold Dv.slotBy
            rw [burnt_ws, burnt_slot]
          rw [e, slotBy_one _ _ _ (by rw [burnt_ws]; exact w1), burnt_slot]
          simp
        subst hF
        left
        have hlie : Lie kb D3 D3.cnt S.next S.X := by
          have h4 : Lie kb S.D S.D.cnt S.next S.X := fun i hi => h.lie i hi
          rw [c3]
          exact h4.dev b3
        refine ⟨rfl, ⟨h.dead, by unfold Vl.c16; dsimp only; rw [c3]; exact h.c16, ho, fun z hz => by dsimp only; rw [u3 z hz]; exact Nat.le_refl _, hlie, ⟨Or.inr ⟨?_, hr, rfl, ?_, ?_, h.ok.txt⟩, fun k hk => ?_⟩, w3⟩, c3, rfl, hcc⟩
        · show S.next.count ≠ 0
          omega
        · show Slot kt (D3.slot (S.next.count % 2).toNat) S.next
          rw [l3 _ (by omega), if_pos rfl]
          exact fun j _ => rfl
        · intro i hi
          rcases hlie i hi with h4 | ⟨h4, h5, h6⟩
          · exact Or.inl h4
          · refine Or.inr ⟨h4, ?_, h6⟩
            show S.next.off i < (D3.sure (S.next.zone i).toNat : Int)
            rw [u3 _ (by have := h4.2.1; have := h4.2.2.1; omega)]
            exact h5
        · show (Tw.rd (txt 500 (D3.slot k))).count ≤ S.next.count
          rw [l3 k hk]
          split
          · have : Slot kt (sb (Tw.text kt S.next)) S.next := fun j _ => rfl
            rw [(this.rd hr).1]
            exact Int.le_refl _
          · have := s1.2 k hk
            omega
end Vl
end Go.Proofs.YtlgocfgnfdnloaaGreatDoor
end
section
namespace Go.Proofs.YtlgocfgnfdnloaaGreatDoor
set_option maxRecDepth 100000
namespace Vl
open Go.RowKit
open Tw (Tb nul may Same Rt)
theorem reclaim_al {kb kt : ByteArray} {S : Vs} {n : Int} {T : Tb} {Y : Nat → ByteArray} (h : Al kb kt S n T Y) (hn : n < 1000000000) (P : (Nat → ByteArray) → Prop) (hY : P Y) (hX : P S.X) {z : Nat} (hv : vicTo S.atf S.live 8 = some z) (hl : tot S.D + (Sp.inI S.T (z : Int) 24).length ≤ 128) :
    ((S.reclaim kb kt).1.2.2 = 0 ∧ Al kb kt (S.reclaim kb kt).2 (n + 1) (S.reclaim kb kt).2.T S.X ∧ tot (S.reclaim kb kt).2.D + 16 = tot S.D + (Sp.inI S.T (z : Int) 24).length ∧ (∀ y, y ≠ z → S.D.cnt y ≤ (S.reclaim kb kt).2.D.cnt y) ∧ (S.reclaim kb kt).2.X = S.X ∧ (S.reclaim kb kt).2.c = S.c + 1) ∨
    ((S.reclaim kb kt).1.2.2 = 14 ∧ (S.reclaim kb kt).2.dead = true ∧ CC kb kt (S.reclaim kb kt).2.D (S.reclaim kb kt).2.c P ∧ S.c ≤ (S.reclaim kb kt).2.c ∧ tot (S.reclaim kb kt).2.D ≤ tot S.D + (Sp.inI S.T (z : Int) 24).length ∧ Vl.c16 (S.reclaim kb kt).2.D) := by
  obtain ⟨hz8, hz16, _⟩ := vic_some hv
  have h16 : S.D.cnt z = 16 := by
    have := h.c16 z hz8
    unfold Vs.atf at hz16; omega
  have ho := h.ok.reclaim kb kt
  have hm : ∀ i ∈ Sp.inI S.T (z : Int) 24, i < 24 := fun i hi => (inI_mem.1 hi).1
  have he : S.reclaim kb kt = if (S.moves kb z (Sp.inI S.T (z : Int) 24)).1 ≠ 0 then ((0, false, (S.moves kb z (Sp.inI S.T (z : Int) 24)).1), (S.moves kb z (Sp.inI S.T (z : Int) 24)).2) else
      if ((S.moves kb z (Sp.inI S.T (z : Int) 24)).2.flush kt).1 ≠ 0 then ((0, false, ((S.moves kb z (Sp.inI S.T (z : Int) 24)).2.flush kt).1), ((S.moves kb z (Sp.inI S.T (z : Int) 24)).2.flush kt).2) else
        if ((S.moves kb z (Sp.inI S.T (z : Int) 24)).2.flush kt).2.D.may = false then ((0, false, 14), { ((S.moves kb z (Sp.inI S.T (z : Int) 24)).2.flush kt).2 with dead := true }) else
          ((((Sp.inI S.T (z : Int) 24).length : Int), true, (0 : Int)), { ((S.moves kb z (Sp.inI S.T (z : Int) 24)).2.flush kt).2 with D := ((S.moves kb z (Sp.inI S.T (z : Int) 24)).2.flush kt).2.D.burnt.reset z }) := by
    unfold Vs.reclaim
    rw [if_neg (by rw [h.dead]; decide), hv]
  have hout := moves_out kb z (Sp.inI S.T (z : Int) 24) S
  have hinI : ∀ i, i < 24 → ¬ nul S.T i → S.T.zone i = z → i ∈ Sp.inI S.T (z : Int) 24 := fun i hi hni ez => inI_mem.2 ⟨hi, fun q => hni ((tag_nul (h.ok.may i hi)).1 q), ez⟩
  rcases moves_al z hz8 _ S h hm h16 hl with ⟨e1, e2, e3, e4, e5, e6⟩ | ⟨e1, e2, e3, e4, e5, e6, e7⟩
  · have hout := hout e1 hm hinI
    rw [if_neg (by rw [e1]; decide)] at he
    generalize (Sp.inI S.T (z : Int) 24).length = len at *
    generalize (S.moves kb z (Sp.inI S.T (z : Int) 24)).2 = S1 at *
    obtain ⟨f1, f2, f3, f4, f5⟩ := flush_T S1 kt
    have hX1 : P S1.X := by rw [e5]; exact hX
    rcases flush_al e2 hn P hY hX1 with ⟨g1, g2, g3, g4, g5⟩ | ⟨g1, g2, g3, g4, g5⟩
    · rw [if_neg (by rw [g1]; decide)] at he
      generalize (S1.flush kt).2 = S2 at *
      have ht2 : tot S2.D = tot S1.D := by unfold tot; rw [g3]
      by_cases h3 : S2.D.may = false
      · rw [if_pos h3] at he
        right
        rw [he]
        refine ⟨rfl, rfl, ⟨S2.T, S1.X, g2.sure, hX1, Or.inl g2.ws⟩, by show S.c ≤ S2.c; omega, by show tot S2.D ≤ _; omega, g2.c16⟩
      · rw [if_neg h3] at he
        left
        rw [he] at ho ⊢
        have hnz : ∀ i, i < 24 → ¬ nul S2.T i → S2.T.zone i ≠ z := fun i hi hni => by
          rw [f1]
          exact hout i hi (fun q => hni ⟨by rw [f1]; exact q.1, by rw [f2]; exact q.2.1, by rw [f3]; exact q.2.2⟩)
        have hlb : Lie kb S2.D.burnt S2.D.burnt.cnt S2.T S2.X := by rw [burnt_cnt]; exact g2.lie.dev (burnt_blk _)
        have hsb : Sure kb kt S2.D.burnt S2.c S2.T S1.X := g2.sure.dev (burnt_blk _) (fun z _ => by rw [burnt_sure]; exact Nat.le_refl _) (fun k _ => by rw [burnt_slot])
        refine ⟨rfl, ⟨g2.dead, fun y hy => ?_, ho, fun y hy => ?_, lie_reset hlb z hnz, ?_, by show S2.D.burnt.ws = []; rw [burnt_ws]; exact g2.ws⟩, ?_, fun y hy => ?_, by show S2.X = _; rw [g4, e5], by show S2.c = _; omega⟩
        · show (S2.D.burnt.reset z).cnt y ≤ 16
          rw [reset_cnt, burnt_cnt]
          split
          · omega
          · exact g2.c16 y hy
        · show (if y = z then 0 else S2.D.burnt.sure y) ≤ (S2.D.burnt.reset z).cnt y
          rw [reset_cnt, burnt_cnt, burnt_sure]
          split
          · omega
          · exact g2.su y hy
        · refine ⟨?_, hsb.2⟩
          rw [← e5]
          rcases hsb.1 with h4 | ⟨h0, hr, hc, hs, hli, hx⟩
          · exact Or.inl h4
          · refine Or.inr ⟨h0, hr, hc, hs, fun i hi => ?_, hx⟩
            rcases hli i hi with h5 | ⟨h5, h6, h7, h8⟩
            · exact Or.inl h5
            · have hs16 := h5.1
              have hzz := hnz i hi (fun q => by rw [q.2.2] at hs16; exact absurd hs16 (by decide))
              have hne : ¬ (S2.T.zone i).toNat = z := by have := h5.2.1; omega
              refine Or.inr ⟨h5, ?_, h7, fun j hj => ?_⟩
              · show S2.T.off i < ((if (S2.T.zone i).toNat = z then 0 else S2.D.burnt.sure (S2.T.zone i).toNat : Nat) : Int)
                rw [if_neg hne]; exact h6
              · show (if (S2.T.zone i).toNat = z then 0 else S2.D.burnt.blk _ _ _) = _
                rw [if_neg hne]; exact h8 j hj
        · show tot (S2.D.burnt.reset z) + 16 = _
          have h5 := reset_tot S2.D.burnt z hz8
          have h6 : S2.D.burnt.cnt z = 16 := by
            rw [burnt_cnt, g3]
            have h7 := e4 z
            have h8 := e2.c16 z hz8
            omega
          rw [h6, burnt_tot, ht2] at h5
          omega
        · show S.D.cnt y ≤ (S2.D.burnt.reset z).cnt y
          rw [reset_cnt, if_neg hy, burnt_cnt, g3]
          exact e4 y
    · rw [if_pos (by rw [g1]; decide)] at he
      right
      rw [he]
      have ht2 : tot (S1.flush kt).2.D = tot S1.D := by unfold tot; rw [g5]
      exact ⟨g1, g2, g3, by show S.c ≤ (S1.flush kt).2.c; omega, by show tot (S1.flush kt).2.D ≤ _; omega, by unfold Vl.c16; rw [g5]; exact e2.c16⟩
  · rw [if_pos (by rw [e1]; decide)] at he
    right
    rw [he]
    exact ⟨e1, e2, ⟨T, Y, by dsimp only; rw [e7]; exact e3, hY, Or.inl e4⟩, by dsimp only; omega, e5, e6⟩
end Vl
end Go.Proofs.YtlgocfgnfdnloaaGreatDoor
end
section
namespace Go.Proofs.YtlgocfgnfdnloaaGreatDoor
set_option maxRecDepth 100000
namespace Vl
open Go.RowKit
open Tw (Tb nul may Same Rt)
theorem slotBy_ws (D : Dv) (k : Nat) (t : ByteArray) (hw : D.ws = [(k, t)]) (k' : Nat) (kept : Nat → Bool) : D.slotBy k' kept = if k = k' ∧ kept 0 = true then sb t else D.slot k' := by
  have h := slotBy_one { D with ws := [] } k t rfl k' kept
  have e : (({ D with ws := [] } : Dv).wrote k t) = D := by
    cases D
    simp only at hw
    subst hw
    rfl
  rw [e] at h
  exact h
theorem crashed_slotBy (D : Dv) (nk : Nat) (ks : Nat → Int) (ns : Nat) (sl : Nat → Bool) (k : Nat) (hk : k < 2) : (D.crashed nk ks ns sl).slotBy k (fun _ => true) = D.slotBy k (keptBy ns sl) := by
  rw [slotBy_nil _ (crashed_fused D nk ks ns sl).2]
  have h : (D.crashed nk ks ns sl).slot k = ((D.crashZ (keepAt nk ks) 8).settled (keptBy ns sl)).slot k := rfl
  rw [h, settled_slot _ _ _ hk]
  rfl
theorem lie_crash {kb : ByteArray} {D : Dv} {T : Tb} {X : Nat → ByteArray} (h : Lie kb D D.sure T X) (nk : Nat) (ks : Nat → Int) (ns : Nat) (sl : Nat → Bool) : Lie kb (D.crashed nk ks ns sl) (D.crashed nk ks ns sl).cnt T X := fun i hi => by
  rcases h i hi with h2 | ⟨h2, h3, h4, h5⟩
  · exact Or.inl h2
  · have hz8 : (T.zone i).toNat < 8 := by have := h2.2.1; have := h2.2.2.1; omega
    have hge := kept1_ge (D.cnt (T.zone i).toNat) (D.sure (T.zone i).toNat) (keepAt nk ks (T.zone i).toNat)
    have ho := h2.2.2.2.1
    refine Or.inr ⟨h2, ?_, h4, fun j hj => ?_⟩
    · rw [crashed_cnt _ _ _ _ _ _ hz8]; omega
    · rw [crashed_blk _ _ _ _ _ _ _ (by omega)]
      exact h5 j hj
theorem opened_good {kb kt : ByteArray} {D : Dv} {n : Int} {U : Tb} {X : Nat → ByteArray} (hf : D.fused = false) (hc : c16 D) (hw : D.ws = []) (hn : 0 ≤ n) (hwh : whole kb kt D n) (hs : Same (tabAt D n) U) (hl : Lie kb D D.cnt U X) (hx : ∀ i, i < 24 → saysTo kb D (tabAt D n) 24 i = X i) (hlow : low D n) : Good kb kt (opened kb D n n) n := by
  refine ⟨⟨rfl, hf, hc⟩, opened_ok kb kt D n (by rw [hw]; exact Nat.zero_le _) hn hwh, fun i hi => ?_, hlow⟩
  have h1 := (hl i hi).same hs.symm hi
  show At kb D D.cnt (tabAt D n) (saysTo kb D (tabAt D n) 24) i
  unfold At at h1 ⊢
  rw [hx i hi]
  exact h1
theorem cc_open {kb kt : ByteArray} {D : Dv} {c : Int} {P : (Nat → ByteArray) → Prop} (h : CC kb kt D c P) (hc0 : 0 ≤ c) (h16 : c16 D) (hsu : ∀ z, z < 8 → D.sure z ≤ D.cnt z) (nk : Nat) (ks : Nat → Int) (ns : Nat) (sl : Nat → Bool) {r : Int} {S : Vs} (ho : OpenIs kb kt (D.crashed nk ks ns sl) c r S) :
    r = 0 ∧ S.D = D.crashed nk ks ns sl ∧ c ≤ S.c ∧ S.c ≤ c + 1 ∧ Good kb kt S (c + 1) ∧ ∃ Y, P Y ∧ ∀ i, i < 24 → S.X i = Y i := by
  have hc16 : c16 (D.crashed nk ks ns sl) := fun z hz => by
    rw [crashed_cnt _ _ _ _ _ _ hz]
    have h1 := kept1_le (D.cnt z) (D.sure z) (keepAt nk ks z) (hsu z hz)
    have h2 := h16 z hz
    omega
  have hfu := crashed_fused D nk ks ns sl
  obtain ⟨T, Y, hS, hPY, hws⟩ := h
  -- where no write of a slot is kept, it is as it was told
  have old : (∀ k, k < 2 → (D.crashed nk ks ns sl).slotBy k (fun _ => true) = D.slot k) → r = 0 ∧ S.D = D.crashed nk ks ns sl ∧ c ≤ S.c ∧ S.c ≤ c + 1 ∧ Good kb kt S (c + 1) ∧ ∃ Y, P Y ∧ ∀ i, i < 24 → S.X i = Y i := fun hsk => by
    have hlow : low (D.crashed nk ks ns sl) c := fun k hk => by rw [hsk k hk]; exact hS.2 k hk
    have htold : Told kb kt (D.crashed nk ks ns sl) c T Y := by
      rcases hS.1 with h1 | ⟨h0, hr, hc, hsl, hl, hx⟩
      · exact Or.inl h1
      · exact Or.inr ⟨h0, hr, hc, by rw [hsk _ (by omega)]; exact hsl, lie_crash hl nk ks ns sl, hx⟩
    obtain ⟨e1, e2, e3, e4, e5, e6, e7⟩ := open_told htold hlow ho
    refine ⟨e1, e2, by omega, by omega, ?_, Y, hPY, e7⟩
    by_cases h0 : c = 0
    · rw [e5 h0, h0]
      rw [h0] at hlow
      exact Good.le ⟨⟨rfl, hfu.1, hc16⟩, fresh_ok _ (by rw [hfu.2]; exact Nat.zero_le _), fun i hi => Or.inl ⟨⟨rfl, rfl, rfl⟩, rfl⟩, hlow⟩ (by omega)
    · obtain ⟨f1, f2, f3⟩ := e6 h0
      rcases htold with ⟨h1, _⟩ | ⟨_, hr, hc, hsl, hl, hx⟩
      · exact absurd h1 h0
      · obtain ⟨g1, g2, g3⟩ := whole_of hr hsl hc hl hx
        rw [f3]
        exact (opened_good hfu.1 hc16 hfu.2 hc0 g1 g2 hl g3 hlow).le (by omega)
  rcases hws with hws | ⟨U, X, hws, hr, hc, hl, hPX, hx⟩
  · exact old (fun k hk => by rw [crashed_slotBy _ _ _ _ _ _ hk, slotBy_nil _ hws])
  · by_cases hk0 : keptBy ns sl 0 = true
    · -- the write of the new table is kept
      have hsk : ∀ k, k < 2 → (D.crashed nk ks ns sl).slotBy k (fun _ => true) = if ((c + 1) % 2).toNat = k then sb (Tw.text kt U) else D.slot k := fun k hk => by
        rw [crashed_slotBy _ _ _ _ _ _ hk, slotBy_ws D _ _ hws]
        by_cases e : ((c + 1) % 2).toNat = k
        · rw [if_pos ⟨e, hk0⟩, if_pos e]
        · rw [if_neg (fun q => e q.1), if_neg e]
      have hsl : Slot kt ((D.crashed nk ks ns sl).slotBy ((c + 1) % 2).toNat (fun _ => true)) U := by
        rw [hsk _ (by omega), if_pos rfl]
        exact fun j _ => rfl
      have hlc := lie_crash hl nk ks ns sl
      obtain ⟨g1, g2, g3⟩ := whole_of hr hsl hc hlc hx
      have hlow : low (D.crashed nk ks ns sl) (c + 1) := fun k hk => by
        rw [hsk k hk]
        split
        · have : Slot kt (sb (Tw.text kt U)) U := fun j _ => rfl
          rw [(this.rd hr).1, hc]
          exact Int.le_refl _
        · have := hS.2 k hk
          omega
      rcases ho with ho | ho | ho | ho
      · obtain ⟨_, rfl, rfl⟩ := ho
        exact ⟨rfl, rfl, by show c ≤ c + 1; omega, Int.le_refl _, opened_good hfu.1 hc16 hfu.2 (by omega) g1 g2 hlc g3 hlow, X, hPX, g3⟩
      · exact absurd g1 ho.1
      · exact absurd g1 ho.1
      · exact absurd g1 ho.1
    · exact old (fun k hk => by
        rw [crashed_slotBy _ _ _ _ _ _ hk, slotBy_ws D _ _ hws, if_neg (fun q => hk0 q.2)])
theorem one_of {f : Nat → Nat} {k : Nat} : ∀ l : List Nat, l.Pairwise (· < ·) → (∀ i ∈ l, ∀ j ∈ l, f i = f j → i = j) → (l.filter (fun i => decide (f i = k))).length ≤ 1 := by
  intro l hp hi
  have hs : (l.filter (fun i => decide (f i = k))).Pairwise (· < ·) := hp.filter _
  have hm : ∀ i ∈ l.filter (fun i => decide (f i = k)), i ∈ l ∧ f i = k := fun i h => by simpa using List.mem_filter.1 h
  match hl : l.filter (fun i => decide (f i = k)), hs, hm with
  | [], _, _ => simp
  | [a], _, _ => simp
  | a :: b :: r, hs, hm =>
    exfalso
    have ha := hm a (by simp)
    have hb := hm b (by simp)
    have := hi a ha.1 b hb.1 (ha.2.trans hb.2.symm)
    have hab := (List.pairwise_cons.1 hs).1 b (by simp)
    omega
theorem few_of {f : Nat → Nat} (l : List Nat) (hp : l.Pairwise (· < ·)) (hi : ∀ i ∈ l, ∀ j ∈ l, f i = f j → i = j) : ∀ k, (l.filter (fun i => decide (f i < k))).length ≤ k
  | 0 => by simp
  | k + 1 => by
    have ih := few_of l hp hi k
    have h1 := one_of (f := f) (k := k) l hp hi
    have hsum : ∀ l : List Nat, (l.filter (fun i => decide (f i < k + 1))).length = (l.filter (fun i => decide (f i < k))).length + (l.filter (fun i => decide (f i = k))).length := by
      intro l
      induction l with
      | nil => rfl
      | cons a r ihr =>
        simp only [List.filter_cons]
        by_cases h2 : f a < k
        · have h3 : f a < k + 1 := by omega
          have h4 : ¬ f a = k := by omega
          simp [h2, h3, h4, ihr]; omega
        · by_cases h4 : f a = k
          · have h3 : f a < k + 1 := by omega
            simp [h2, h3, h4, ihr]; omega
          · have h3 : ¬ f a < k + 1 := by omega
            simp [h2, h3, h4, ihr]
    rw [hsum l]
    omega
theorem inI16 {S : Vs} {n : Int} (h : S.ok n) (z : Int) : (Sp.inI S.T z 24).length ≤ 16 := by
  have hp : (Sp.inI S.T z 24).Pairwise (· < ·) := by
    unfold Sp.inI
    exact List.Pairwise.filter _ List.pairwise_lt_range
  have hnn : ∀ i, i < 24 → S.T.tag i ≠ ⟨#[]⟩ → ¬ nul S.T i := fun i hi q e => q e.2.2
  have hmay : ∀ i, i < 24 → S.T.tag i ≠ ⟨#[]⟩ → may S.T i := fun i hi q => (h.may i hi).resolve_left (hnn i hi q)
  have hall : ∀ i ∈ Sp.inI S.T z 24, (S.T.off i).toNat < 16 := fun i hi => by
    obtain ⟨h1, h2, _⟩ := inI_mem.1 hi
    have := hmay i h1 h2
    have := this.2.2.2
    omega
  have hf : (Sp.inI S.T z 24).filter (fun i => decide ((S.T.off i).toNat < 16)) = Sp.inI S.T z 24 := List.filter_eq_self.2 (fun i hi => by simpa using hall i hi)
  have := few_of (f := fun i => (S.T.off i).toNat) (Sp.inI S.T z 24) hp (fun i hi j hj e => by
    obtain ⟨a1, a2, a3⟩ := inI_mem.1 hi
    obtain ⟨b1, b2, b3⟩ := inI_mem.1 hj
    by_cases hij : i = j
    · exact hij
    · have m1 := (hmay i a1 a2).2.2.2.1
      have m2 := (hmay j b1 b2).2.2.2.1
      exact absurd ⟨a3.trans b3.symm, by omega⟩ (h.dis i j a1 b1 hij (hnn i a1 a2) (hnn j b1 b2))) 16
  rw [hf] at this
  exact this
end Vl
end Go.Proofs.YtlgocfgnfdnloaaGreatDoor
end
