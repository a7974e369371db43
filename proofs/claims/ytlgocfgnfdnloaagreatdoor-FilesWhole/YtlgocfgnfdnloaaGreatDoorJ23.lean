import Derived.Deep.QuietTactic
import Derived.BigQuiet
import Derived.Deep.RegionWith
import Derived.Deep.RegionHeld3
import Derived.Test.YtlgocfgnfdnloaaGreatDoorJ03
import Derived.Test.YtlgocfgnfdnloaaGreatDoorJ22
set_option linter.unusedSimpArgs false
set_option linter.unusedVariables false
section
namespace Go.Proofs.YtlgocfgnfdnloaaGreatDoor
open Go.RowKit
end Go.Proofs.YtlgocfgnfdnloaaGreatDoor
end
section
namespace Go.Proofs.YtlgocfgnfdnloaaGreatDoor
open Go.RowKit
set_option maxHeartbeats 1000000 in
theorem eq_quiet (b n : Nat) (v1 v2 : Value) (l1 l2 : Nat → ByteArray) (w : World) (h1 : Sl w b v1 n (fun j => .string (l1 j))) (h2 : Sl w b v2 n (fun j => .string (l2 j))) (he : ∀ j, j < n → l1 j = l2 j) (hn : n ≤ 1000) :
    Calls Tryz.prog 105 #[v1, v2] w fun e w' => e = .returned (.bool true) ∧ ∃ m, w' = w.drewN m := by
  obtain ⟨a1, c1, rfl, hs1⟩ := h1
  obtain ⟨a2, c2, rfl, hs2⟩ := h2
  have HS1 : Hid _ := hs1
  have HS2 : Hid _ := hs2
  have HE : Hid _ := he
  clear hs1 hs2 he
  go_enter Tryz.func105, Tryz.ntmps105
  go_wp2_with fail
  go_loopw [13] (fun i wr => ∃ k : Nat, k ≤ n ∧ i = .int .i64 k ∧ ∃ m, wr = w.drewN m) (fun i _ => n - (intOf i).toNat)
  case atStart => exact ⟨0, by omega, rfl, 0, rfl⟩
  case round =>
    obtain ⟨k, hk, rfl, mm, hmm⟩ := hrel
    have hS : Since w wr := by rw [hmm]; exact (Since.refl w).drewN mm
    have HMM : Hid (wr = w.drewN mm) := hmm
    clear hmm
    by_cases hlt : k < n
    · have hlt2 : (k : Int) < n := by omega
      obtain ⟨kb1, ko1, rfl, _, hc1⟩ := HS1.out (by omega)
      obtain ⟨kb2, ko2, rfl, _, hc2⟩ := HS2.out (by omega)
      have q1 : wr.cell? ⟨kb1, ko1 + k, none⟩ = some (.string (l1 k)) := (hS.cell (p := ⟨kb1, ko1 + k, none⟩) (World.block_lt_of_cell? w _ (hc1 k hlt))).trans (hc1 k hlt)
      have q2 : wr.cell? ⟨kb2, ko2 + k, none⟩ = some (.string (l2 k)) := (hS.cell (p := ⟨kb2, ko2 + k, none⟩) (World.block_lt_of_cell? w _ (hc2 k hlt))).trans (hc2 k hlt)
      rw [← HE.out k hlt] at q2
      clear hc1 hc2 hS
      go_wp2_with fail
      go_quiet (fail)
      go_wp2_with fail
      go_roundw
      case rel => exact ⟨k + 1, by omega, by go_num, _, by rw [HMM.out, World.drewN_drewN]⟩
      case measure => simp [intOf]; omega
    · have hke : k = n := by omega
      subst hke
      clear hS
      go_wp2_with fail
      go_ret
      exact ⟨rfl, mm, HMM.out⟩
theorem eq_any (b n : Nat) (v1 v2 : Value) (l1 l2 : Nat → ByteArray) (w : World) (h1 : Sl w b v1 n (fun j => .string (l1 j))) (h2 : Sl w b v2 n (fun j => .string (l2 j))) (he : ∀ j, j < n → l1 j = l2 j) (hn : n ≤ 1000) :
    Calls Tryz.prog 105 #[v1, v2] w fun e w' => e = .returned (.bool true) ∧ Since w w' := by
  refine (eq_quiet b n v1 v2 l1 l2 w h1 h2 he hn).mono ?_
  rintro e w' ⟨rfl, m, rfl⟩
  exact ⟨rfl, (Since.refl w).drewN m⟩
end Go.Proofs.YtlgocfgnfdnloaaGreatDoor
end
section
namespace Go.Proofs.YtlgocfgnfdnloaaGreatDoor
open Go.RowKit
end Go.Proofs.YtlgocfgnfdnloaaGreatDoor
end
section
namespace Go.Proofs.YtlgocfgnfdnloaaGreatDoor
open Go.RowKit
theorem may_off {D : Dv} (h : D.fused = false) : D.may = true := by unfold Dv.may; rw [h]; rfl
end Go.Proofs.YtlgocfgnfdnloaaGreatDoor
end
section
namespace Go.Proofs.YtlgocfgnfdnloaaGreatDoor
open Go.RowKit
def SlA (w : World) (N : Nat) (v : Value) (n : Nat) (f : Nat → Value) : Prop :=
  ∃ a c, v = .slice a n c ∧ (0 < n → ∃ k o, a = some ⟨k, o, none⟩ ∧ k < N ∧ ∀ j, j < n → w.cell? ⟨k, o + j, none⟩ = some (f j))
theorem SlA.sl {w w' : World} {N b : Nat} {v : Value} {n : Nat} {f : Nat → Value} (h : SlA w N v n f) (hs : Since w w') (hb : N ≤ b) : Sl w' b v n f := by
  obtain ⟨a, c, hv, h⟩ := h
  refine ⟨a, c, hv, fun hn => ?_⟩
  obtain ⟨k, o, ha, hk, hc⟩ := h hn
  exact ⟨k, o, ha, by omega, fun j hj => (hs.cell (p := ⟨k, o + j, none⟩) (World.block_lt_of_cell? w _ (hc j hj))).trans (hc j hj)⟩
theorem SlA.fr {w w' : World} {N b : Nat} {v : Value} {n : Nat} {f : Nat → Value} (h : SlA w N v n f) (hs : Fr b none w w') (hb : N ≤ b) : SlA w' N v n f := by
  obtain ⟨a, c, hv, h⟩ := h
  refine ⟨a, c, hv, fun hn => ?_⟩
  obtain ⟨k, o, ha, hk, hc⟩ := h hn
  exact ⟨k, o, ha, hk, fun j hj => (hs.cell (p := ⟨k, o + j, none⟩) (World.block_lt_of_cell? w _ (hc j hj)) (by show k ≠ b; omega) (by simp)).trans (hc j hj)⟩
theorem Sl.of_own {w : World} {base b n : Nat} {e : TypeId} {v : Value} {xs : List Value} {f : Nat → Value} (h : w.ownsRow base e 1 v n xs) (hb : b < base) (hx : ∀ j, j < n → xs[j]? = some (f j)) : Sl w b v n f := by
  rcases h.2 with ⟨rfl, rfl⟩ | ⟨g, cap, cur, rfl, hg, hh, h1, h2, h3, h4⟩
  · exact ⟨_, _, rfl, fun h => by omega⟩
  · refine ⟨_, _, rfl, fun _ => ⟨g, 0, rfl, by omega, fun j hj => ?_⟩⟩
    have e := hx j hj
    rw [← h4, List.getElem?_take_of_lt (by omega), Array.getElem?_toList] at e
    rw [Nat.zero_add]
    simp [World.cell?, hh, e]
theorem crashed_cnt (E : Dv) (nk : Nat) (ks : Nat → Int) (ns : Nat) (sl : Nat → Bool) (z : Nat) (hz : z < 8) : (E.crashed nk ks ns sl).cnt z = kept1 (E.cnt z) (E.sure z) (keepAt nk ks z) := by
  show (if z < 8 then _ else _) = _
  rw [if_pos hz]
theorem crashed_blk (E : Dv) (nk : Nat) (ks : Nat → Int) (ns : Nat) (sl : Nat → Bool) (z j : Nat) (hj : j < kept1 (E.cnt z) (E.sure z) (keepAt nk ks z)) : (E.crashed nk ks ns sl).blk z j = E.blk z j := by
  funext i
  show (if z < 8 ∧ _ then _ else _) = _
  rw [if_neg (by omega)]
theorem crashed_slot (E : Dv) (nk : Nat) (ks : Nat → Int) (ns : Nat) (sl : Nat → Bool) (hw : E.ws = []) : (E.crashed nk ks ns sl).slot 0 = E.slot 0 ∧ (E.crashed nk ks ns sl).slot 1 = E.slot 1 := by
  have h : ∀ k, (E.crashZ (keepAt nk ks) 8).slotBy k (keptBy ns sl) = E.slot k := fun k => by
    unfold Dv.slotBy lastW
    rw [show (E.crashZ (keepAt nk ks) 8).ws = [] from hw]
    rfl
  exact ⟨h 0, h 1⟩
theorem crashed_fused (E : Dv) (nk : Nat) (ks : Nat → Int) (ns : Nat) (sl : Nat → Bool) : (E.crashed nk ks ns sl).fused = false ∧ (E.crashed nk ks ns sl).ws = [] := ⟨rfl, rfl⟩
theorem synced_facts (D : Dv) : D.synced.fused = D.fused ∧ D.synced.ws = [] ∧ D.synced.cnt = D.cnt ∧ D.synced.blk = D.blk ∧ ∀ z, z < 8 → D.synced.sure z = D.cnt z :=
  ⟨rfl, rfl, rfl, rfl, fun z hz => by show (if z < 8 then _ else _) = _; rw [if_pos hz]⟩
theorem kept1_ge (c s : Nat) (x : Int) : s ≤ kept1 c s x := by unfold kept1; omega
theorem Sl.take {w : World} {b n q : Nat} {a : Option Addr} {c : Nat} {f : Nat → Value} (h : Sl w b (.slice a n c) n f) (hq : q ≤ n) : Sl w b (.slice a q c) q f := by
  obtain ⟨a', c', he, h⟩ := h
  injection he with h1 _ h3
  subst h1 h3
  refine ⟨a, c, rfl, fun h0 => ?_⟩
  obtain ⟨k, o, ha, hk, hc⟩ := h (by omega)
  exact ⟨k, o, ha, hk, fun j hj => hc j (by omega)⟩
end Go.Proofs.YtlgocfgnfdnloaaGreatDoor
end
section
namespace Go.Proofs.YtlgocfgnfdnloaaGreatDoor
set_option maxRecDepth 100000
open Go.RowKit
theorem SlA.since {w w' : World} {v : Value} {n : Nat} {f : Nat → Value} (h : SlA w w.heap.size v n f) (hs : Since w w') : SlA w' w'.heap.size v n f := by
  obtain ⟨a, c, hv, h⟩ := h
  refine ⟨a, c, hv, fun hn => ?_⟩
  obtain ⟨k, o, ha, hk, hc⟩ := h hn
  exact ⟨k, o, ha, Nat.lt_of_lt_of_le hk hs.size, fun j hj => (hs.cell (p := ⟨k, o + j, none⟩) hk).trans (hc j hj)⟩
theorem SlA.low {w w' : World} {N : Nat} {v : Value} {n : Nat} {f : Nat → Value} (h : SlA w N v n f) (hs : Since w w') : SlA w' N v n f := by
  obtain ⟨a, c, hv, h⟩ := h
  refine ⟨a, c, hv, fun hn => ?_⟩
  obtain ⟨k, o, ha, hk, hc⟩ := h hn
  exact ⟨k, o, ha, hk, fun j hj => (hs.cell (p := ⟨k, o + j, none⟩) (World.block_lt_of_cell? w _ (hc j hj))).trans (hc j hj)⟩
namespace Vl
open Go.RowKit
def pkN (n : Nat) (a : Int) : Nat := (a % 18446744073709551616).toNat % n
theorem pkN_lt (n : Nat) (a : Int) (h : 0 < n) : pkN n a < n := Nat.mod_lt _ h
theorem pickN_any (n : Nat) (a : Int) (w : World) (hn : 0 < n) (hn2 : n < 1000000) :
    Calls Tryz.prog 43 #[.int .i64 a, .int .i64 n] w fun e w' => e = .returned (.int .i64 (pkN n a)) ∧ w' = w := by
  have e0 : IntKind.u64.wrap (n : Int) = n := by simp [IntKind.wrap, IntKind.bits, IntKind.signed]; omega
  have e1 : IntKind.u64.wrap a = a % 18446744073709551616 := by simp [IntKind.wrap, IntKind.bits, IntKind.signed]
  have h0 : ¬ (n : Int) = 0 := by omega
  go_enter Tryz.func43, Tryz.ntmps43
  go_wp2_with fail
  go_ret
  have hp := pkN_lt n a hn
  have e2 : a % 18446744073709551616 % (n : Int) = ((pkN n a : Nat) : Int) := by
    unfold pkN
    rw [Int.natCast_emod, Int.toNat_of_nonneg (by omega)]
  refine ⟨?_, rfl⟩
  have e3 : wrap64 ((pkN n a : Nat) : Int) = ((pkN n a : Nat) : Int) := by
    unfold wrap64
    omega
  show Ending.returned (Value.int .i64 (wrap64 (a % 18446744073709551616 % (n : Int)))) = _
  rw [e2, e3]
structure Stp where
  at_ : Int
  tx : List ByteArray
def Stp.val (s : Stp) (v : Value) : Value := .agg #[.int .i64 s.at_, v]
def tlf (l : List ByteArray) : Nat → Value := fun i => .string (l.getD i ⟨#[]⟩)
def Sts (w : World) (v : Value) (l : List Stp) : Prop := ∃ a c, v = .slice a l.length c ∧ (0 < l.length → ∃ k o, a = some ⟨k, o, none⟩ ∧ k < w.heap.size ∧ ∀ j s, l[j]? = some s → ∃ tv, SlA w w.heap.size tv s.tx.length (tlf s.tx) ∧ w.cell? ⟨k, o + j * 2, none⟩ = some (.int .i64 s.at_) ∧ w.cell? ⟨k, o + j * 2 + 1, none⟩ = some tv)
theorem Sts.since {w w' : World} {v : Value} {l : List Stp} (h : Sts w v l) (hs : Since w w') : Sts w' v l := by
  obtain ⟨a, c, hv, h⟩ := h
  refine ⟨a, c, hv, fun hn => ?_⟩
  obtain ⟨k, o, ha, hk, hc⟩ := h hn
  refine ⟨k, o, ha, Nat.lt_of_lt_of_le hk hs.size, fun j f hj => ?_⟩
  obtain ⟨cv, h1, h2, h3⟩ := hc j f hj
  exact ⟨cv, h1.since hs, (hs.cell (p := ⟨k, o + j * 2, none⟩) hk).trans h2, (hs.cell (p := ⟨k, o + j * 2 + 1, none⟩) hk).trans h3⟩
theorem Sts.at_ {w : World} {a : Option Addr} {c : Nat} {l : List Stp} (h : Sts w (.slice a l.length c) l) {j : Nat} {s : Stp} (hj : l[j]? = some s) : ∃ k o tv, a = some ⟨k, o, none⟩ ∧ SlA w w.heap.size tv s.tx.length (tlf s.tx) ∧ w.cell? ⟨k, o + j * 2, none⟩ = some (.int .i64 s.at_) ∧ w.cell? ⟨k, o + j * 2 + 1, none⟩ = some tv := by
  obtain ⟨a', c', hv, h⟩ := h
  injection hv with e1 e2 e3
  subst e1 e3
  have hjl := (List.getElem?_eq_some_iff.1 hj).1
  obtain ⟨k, o, ha, hk, hh⟩ := h (by omega)
  obtain ⟨tv, h1, h2, h3⟩ := hh j s hj
  exact ⟨k, o, tv, ha, h1, h2, h3⟩
end Vl
end Go.Proofs.YtlgocfgnfdnloaaGreatDoor
end
