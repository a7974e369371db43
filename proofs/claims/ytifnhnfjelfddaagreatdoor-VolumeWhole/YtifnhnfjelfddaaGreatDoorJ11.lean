import Derived.Deep.QuietTactic
import Derived.BigQuiet
import Derived.Deep.RegionWith
import Derived.Deep.RegionHeld3
import Derived.Test.YtifnhnfjelfddaaGreatDoorJ09
import Derived.Test.YtifnhnfjelfddaaGreatDoorJ10
set_option linter.unusedSimpArgs false
set_option linter.unusedVariables false
section
namespace Go.Proofs.YtifnhnfjelfddaaGreatDoor
open Go.RowKit
end Go.Proofs.YtifnhnfjelfddaaGreatDoor
end
section
namespace Go.Proofs.YtifnhnfjelfddaaGreatDoor
open Go.RowKit
def Tells (fid : Nat) (p : ByteArray → Bool) : Prop := (∀ args w, (callFunc fid args).run Tryz.prog w = .ok (.enter fid args) w) ∧ ∀ (s : ByteArray) (w : World), Calls Tryz.prog fid #[.string s] w fun e w' => e = .returned (.bool (p s)) ∧ w' = w
set_option maxHeartbeats 1000000 in
theorem if_any (b n fid : Nat) (v : Value) (l : Nat → ByteArray) (p : ByteArray → Bool) (w : World) (hs : Sl w b v n (fun j => .string (l j))) (ht : Tells fid p) (hn : n ≤ 9223372036854775807) :
    Calls Tryz.prog 88 #[v, .func (.func fid) #[] #[]] w fun e w' => (∃ x : Int, e = .returned (.int .i64 x) ∧ ((0 ≤ x ∧ ∃ j, j < n ∧ p (l j) = true) ∨ (x < 0 ∧ ∀ j, j < n → p (l j) = false))) ∧ w' = w := by
  obtain ⟨a, c, rfl, hs⟩ := hs
  obtain ⟨heg, hp⟩ := ht
  have HP : Hid _ := hp
  have HS : Hid _ := hs
  clear hp hs
  go_enter Tryz.func88, Tryz.ntmps88
  go_wp2_with fail
  go_loop [8] (fun i => ∃ k : Nat, k ≤ n ∧ i = .int .i64 k ∧ ∀ j, j < k → p (l j) = false) (fun i => n - (intOf i).toNat)
  case atStart => exact ⟨0, by omega, rfl, fun j hj => by omega⟩
  case round =>
    obtain ⟨k, hk, rfl, hbe⟩ := hrel
    have HB : Hid _ := hbe
    clear hbe
    by_cases hlt : k < n
    · have hlt2 : (k : Int) < n := by omega
      obtain ⟨kb, ko, rfl, _, hc⟩ := HS.out (by omega)
      have c1 := hc k hlt
      clear hc
      cases hpk : p (l k) with
      | true =>
        go_wp2_with fail
        refine (HP.out (l k) _).mono ?_
        rintro e w' ⟨rfl, rfl⟩
        rw [hpk]
        go_wp2_with fail
        go_ret
        exact ⟨⟨k, rfl, Or.inl ⟨by omega, k, hlt, hpk⟩⟩, rfl⟩
      | false =>
        go_wp2_with fail
        refine (HP.out (l k) _).mono ?_
        rintro e w' ⟨rfl, rfl⟩
        rw [hpk]
        go_wp2_with fail
        go_round
        case rel =>
          refine ⟨k + 1, by omega, by go_num, fun j hj => ?_⟩
          rcases Nat.lt_or_ge j k with h | h
          · exact HB.out j h
          · rw [show j = k by omega]; exact hpk
        case measure => simp [intOf]; omega
    · have hke : k = n := by omega
      subst hke
      go_wp2_with fail
      go_ret
      exact ⟨⟨-1, rfl, Or.inr ⟨by omega, HB.out⟩⟩, rfl⟩
theorem cf_any (b n fid : Nat) (v : Value) (l : Nat → ByteArray) (p : ByteArray → Bool) (w : World) (hs : Sl w b v n (fun j => .string (l j))) (ht : Tells fid p) (hn : n ≤ 9223372036854775807) :
    Calls Tryz.prog 62 #[v, .func (.func fid) #[] #[]] w fun e w' => ((e = .returned (.bool true) ∧ ∃ j, j < n ∧ p (l j) = true) ∨ (e = .returned (.bool false) ∧ ∀ j, j < n → p (l j) = false)) ∧ w' = w := by
  obtain ⟨a, c, rfl, hs'⟩ := hs
  have HS : Hid (Sl w b (.slice a n c) n (fun j => .string (l j))) := ⟨a, c, rfl, hs'⟩
  clear hs'
  go_enter Tryz.func62, Tryz.ntmps62
  go_wp2_with fail
  refine (if_any b n fid _ l p _ HS.out ht hn).mono ?_
  rintro e w' ⟨⟨x, rfl, hx⟩, rfl⟩
  rcases hx with ⟨h0, hj⟩ | ⟨h0, hj⟩
  · have HJ : Hid _ := hj
    clear hj
    go_wp2_with fail
    go_ret
    exact ⟨Or.inl ⟨by simp [h0], HJ.out⟩, rfl⟩
  · have HJ : Hid _ := hj
    clear hj
    go_wp2_with fail
    go_ret
    exact ⟨Or.inr ⟨by simp [h0], HJ.out⟩, rfl⟩
set_option maxHeartbeats 1000000 in
theorem eq_quiet (b n : Nat) (v1 v2 : Value) (l1 l2 : Nat → ByteArray) (w : World) (h1 : Sl w b v1 n (fun j => .string (l1 j))) (h2 : Sl w b v2 n (fun j => .string (l2 j))) (he : ∀ j, j < n → l1 j = l2 j) (hn : n ≤ 1000) :
    Calls Tryz.prog 23 #[v1, v2] w fun e w' => e = .returned (.bool true) ∧ ∃ m, w' = w.drewN m := by
  obtain ⟨a1, c1, rfl, hs1⟩ := h1
  obtain ⟨a2, c2, rfl, hs2⟩ := h2
  have HS1 : Hid _ := hs1
  have HS2 : Hid _ := hs2
  have HE : Hid _ := he
  clear hs1 hs2 he
  go_enter Tryz.func23, Tryz.ntmps23
  go_wp2_with fail
  go_loopw [13] (fun i wr => ∃ k : Nat, k ≤ n ∧ i = .int .i64 k ∧ ∃ m, wr = w.drewN m) (fun i _ => n - (intOf i).toNat)
  case atStart => exact ⟨0, by omega, rfl, 0, rfl⟩
  case round =>
    obtain ⟨k, hk, rfl, mm, hmm⟩ := hrel
    have hS : Since w wr := by rw [hmm]; exact (Since.refl w).drewN mm
    have HMM : Hid (wr = w.drewN mm) := hmm
    clear hmm
    by_cases hlt : k < n
    · have hlt2 : (k : Int) < n := by omega
      obtain ⟨kb1, ko1, rfl, _, hc1⟩ := HS1.out (by omega)
      obtain ⟨kb2, ko2, rfl, _, hc2⟩ := HS2.out (by omega)
      have q1 : wr.cell? ⟨kb1, ko1 + k, none⟩ = some (.string (l1 k)) := (hS.cell (p := ⟨kb1, ko1 + k, none⟩) (World.block_lt_of_cell? w _ (hc1 k hlt))).trans (hc1 k hlt)
      have q2 : wr.cell? ⟨kb2, ko2 + k, none⟩ = some (.string (l2 k)) := (hS.cell (p := ⟨kb2, ko2 + k, none⟩) (World.block_lt_of_cell? w _ (hc2 k hlt))).trans (hc2 k hlt)
      rw [← HE.out k hlt] at q2
      clear hc1 hc2 hS
      go_wp2_with fail
      go_quiet (fail)
      go_wp2_with fail
      go_roundw
      case rel => exact ⟨k + 1, by omega, by go_num, _, by rw [HMM.out, World.drewN_drewN]⟩
      case measure => simp [intOf]; omega
    · have hke : k = n := by omega
      subst hke
      clear hS
      go_wp2_with fail
      go_ret
      exact ⟨rfl, mm, HMM.out⟩
end Go.Proofs.YtifnhnfjelfddaaGreatDoor
end
section
namespace Go.Proofs.YtifnhnfjelfddaaGreatDoor
open Go.RowKit
theorem fewF_tells : Tells 63 (fun s => decide (80 < s.size)) := by
  refine ⟨enters_of Tryz.func63 (by kernel_rfl) rfl, fun s w => ?_⟩
  go_enter Tryz.func63, Tryz.ntmps63
  go_wp2_with fail
  go_ret
  refine ⟨?_, rfl⟩
  simp
  omega
theorem few_any (b n : Nat) (v : Value) (l : Nat → ByteArray) (w : World) (hs : Sl w b v n (fun j => .string (l j))) (hn : n ≤ 9223372036854775807) :
    Calls Tryz.prog 32 #[v] w fun e w' => ((e = .returned (.bool true) ∧ n ≤ 20 ∧ ∀ j, j < n → (l j).size ≤ 80) ∨ e = .returned (.bool false)) ∧ w' = w := by
  obtain ⟨a, c, rfl, hs'⟩ := hs
  have HS : Hid (Sl w b (.slice a n c) n (fun j => .string (l j))) := ⟨a, c, rfl, hs'⟩
  clear hs'
  by_cases h20 : n ≤ 20
  · have h20' : (n : Int) ≤ 20 := by omega
    go_enter Tryz.func32, Tryz.ntmps32
    go_wp2_with fail
    refine (cf_any b n 63 _ l _ _ HS.out fewF_tells hn).mono ?_
    rintro e w' ⟨hx, rfl⟩
    rcases hx with ⟨rfl, hj⟩ | ⟨rfl, hj⟩
    · clear hj
      go_wp2_with fail
      go_ret
      exact ⟨Or.inr rfl, rfl⟩
    · have HJ : Hid _ := hj
      clear hj
      go_wp2_with fail
      go_ret
      refine ⟨Or.inl ⟨rfl, h20, fun j hj => ?_⟩, rfl⟩
      have := HJ.out j hj
      simp at this
      exact this
  · have h20' : ¬ (n : Int) ≤ 20 := by omega
    go_enter Tryz.func32, Tryz.ntmps32
    go_wp2_with fail
    go_ret
    first
    | exact ⟨rfl, rfl⟩
    | exact ⟨Or.inr rfl, rfl⟩
end Go.Proofs.YtifnhnfjelfddaaGreatDoor
end
section
namespace Go.Proofs.YtifnhnfjelfddaaGreatDoor
open Go.RowKit
theorem may_off {D : Dv} (h : D.fused = false) : D.may = true := by unfold Dv.may; rw [h]; rfl
end Go.Proofs.YtifnhnfjelfddaaGreatDoor
end
section
namespace Go.Proofs.YtifnhnfjelfddaaGreatDoor
open Go.RowKit
def SlA (w : World) (N : Nat) (v : Value) (n : Nat) (f : Nat → Value) : Prop :=
  ∃ a c, v = .slice a n c ∧ (0 < n → ∃ k o, a = some ⟨k, o, none⟩ ∧ k < N ∧ ∀ j, j < n → w.cell? ⟨k, o + j, none⟩ = some (f j))
theorem SlA.sl {w w' : World} {N b : Nat} {v : Value} {n : Nat} {f : Nat → Value} (h : SlA w N v n f) (hs : Since w w') (hb : N ≤ b) : Sl w' b v n f := by
  obtain ⟨a, c, hv, h⟩ := h
  refine ⟨a, c, hv, fun hn => ?_⟩
  obtain ⟨k, o, ha, hk, hc⟩ := h hn
  exact ⟨k, o, ha, by omega, fun j hj => (hs.cell (p := ⟨k, o + j, none⟩) (World.block_lt_of_cell? w _ (hc j hj))).trans (hc j hj)⟩
theorem SlA.fr {w w' : World} {N b : Nat} {v : Value} {n : Nat} {f : Nat → Value} (h : SlA w N v n f) (hs : Fr b none w w') (hb : N ≤ b) : SlA w' N v n f := by
  obtain ⟨a, c, hv, h⟩ := h
  refine ⟨a, c, hv, fun hn => ?_⟩
  obtain ⟨k, o, ha, hk, hc⟩ := h hn
  exact ⟨k, o, ha, hk, fun j hj => (hs.cell (p := ⟨k, o + j, none⟩) (World.block_lt_of_cell? w _ (hc j hj)) (by show k ≠ b; omega) (by simp)).trans (hc j hj)⟩
theorem Sl.of_own {w : World} {base b n : Nat} {e : TypeId} {v : Value} {xs : List Value} {f : Nat → Value} (h : w.ownsRow base e 1 v n xs) (hb : b < base) (hx : ∀ j, j < n → xs[j]? = some (f j)) : Sl w b v n f := by
  rcases h.2 with ⟨rfl, rfl⟩ | ⟨g, cap, cur, rfl, hg, hh, h1, h2, h3, h4⟩
  · exact ⟨_, _, rfl, fun h => by omega⟩
  · refine ⟨_, _, rfl, fun _ => ⟨g, 0, rfl, by omega, fun j hj => ?_⟩⟩
    have e := hx j hj
    rw [← h4, List.getElem?_take_of_lt (by omega), Array.getElem?_toList] at e
    rw [Nat.zero_add]
    simp [World.cell?, hh, e]
theorem crashed_cnt (E : Dv) (nk : Nat) (ks : Nat → Int) (ns : Nat) (sl : Nat → Bool) (z : Nat) (hz : z < 8) : (E.crashed nk ks ns sl).cnt z = kept1 (E.cnt z) (E.sure z) (keepAt nk ks z) := by
  show (if z < 8 then _ else _) = _
  rw [if_pos hz]
theorem crashed_blk (E : Dv) (nk : Nat) (ks : Nat → Int) (ns : Nat) (sl : Nat → Bool) (z j : Nat) (hj : j < kept1 (E.cnt z) (E.sure z) (keepAt nk ks z)) : (E.crashed nk ks ns sl).blk z j = E.blk z j := by
  funext i
  show (if z < 8 ∧ _ then _ else _) = _
  rw [if_neg (by omega)]
theorem crashed_slot (E : Dv) (nk : Nat) (ks : Nat → Int) (ns : Nat) (sl : Nat → Bool) (hw : E.ws = []) : (E.crashed nk ks ns sl).slot 0 = E.slot 0 ∧ (E.crashed nk ks ns sl).slot 1 = E.slot 1 := by
  have h : ∀ k, (E.crashZ (keepAt nk ks) 8).slotBy k (keptBy ns sl) = E.slot k := fun k => by
    unfold Dv.slotBy lastW
    rw [show (E.crashZ (keepAt nk ks) 8).ws = [] from hw]
    rfl
  exact ⟨h 0, h 1⟩
theorem crashed_fused (E : Dv) (nk : Nat) (ks : Nat → Int) (ns : Nat) (sl : Nat → Bool) : (E.crashed nk ks ns sl).fused = false ∧ (E.crashed nk ks ns sl).ws = [] := ⟨rfl, rfl⟩
theorem synced_facts (D : Dv) : D.synced.fused = D.fused ∧ D.synced.ws = [] ∧ D.synced.cnt = D.cnt ∧ D.synced.blk = D.blk ∧ ∀ z, z < 8 → D.synced.sure z = D.cnt z :=
  ⟨rfl, rfl, rfl, rfl, fun z hz => by show (if z < 8 then _ else _) = _; rw [if_pos hz]⟩
theorem kept1_ge (c s : Nat) (x : Int) : s ≤ kept1 c s x := by unfold kept1; omega
theorem icell_one {w : World} {base : Nat} {e : TypeId} {iv : Nat → Value} {n : Nat → Nat} {xs : Nat → List Value} (h : ∀ z, z < 8 → w.ownsRow base e 1 (iv z) (n z) (xs z)) (s0 s1 : ByteArray) : ∀ j, j < 10 → (icell iv s0 s1 j).oneCell' = true := fun j hj => by
  unfold icell
  by_cases h8 : j < 8
  · rw [if_pos h8]
    rcases (h j h8).2 with ⟨e, _⟩ | ⟨g, cap, cur, e, _⟩ <;> rw [e] <;> rfl
  · rw [if_neg h8]
    split <;> rfl
theorem own_slice {w : World} {b e s n : Nat} {v : Value} {x : List Value} (h : w.ownsRow b e s v n x) : ∃ a m c, v = .slice a m c ∧ m = n := by
  rcases h.2 with ⟨rfl, h0⟩ | ⟨g, c, u, rfl, _⟩
  · exact ⟨_, _, _, rfl, h0.symm⟩
  · exact ⟨_, _, _, rfl, rfl⟩
theorem own_slice2 {w : World} {b e s n : Nat} {v : Value} {x : List Value} (h : w.ownsRow b e s v n x) : ∃ a c, v = .slice a n c ∧ n ≤ c := by
  rcases h.2 with ⟨rfl, h0⟩ | ⟨g, c, u, rfl, _, _, h1, _⟩
  · exact ⟨_, _, by rw [h0], by omega⟩
  · exact ⟨_, _, rfl, h1⟩
theorem Sl.take {w : World} {b n q : Nat} {a : Option Addr} {c : Nat} {f : Nat → Value} (h : Sl w b (.slice a n c) n f) (hq : q ≤ n) : Sl w b (.slice a q c) q f := by
  obtain ⟨a', c', he, h⟩ := h
  injection he with h1 _ h3
  subst h1 h3
  refine ⟨a, c, rfl, fun h0 => ?_⟩
  obtain ⟨k, o, ha, hk, hc⟩ := h (by omega)
  exact ⟨k, o, ha, hk, fun j hj => hc j (by omega)⟩
theorem infoL : (Tryz.prog.info? 23).map (fun i => (i.zero, i.size, i.bytes)) = some (some (.slice none 0 0), 1, 24) := by kernel_rfl
end Go.Proofs.YtifnhnfjelfddaaGreatDoor
end
section
namespace Go.Proofs.YtifnhnfjelfddaaGreatDoor
set_option maxRecDepth 100000
open Go.RowKit
theorem SlA.since {w w' : World} {v : Value} {n : Nat} {f : Nat → Value} (h : SlA w w.heap.size v n f) (hs : Since w w') : SlA w' w'.heap.size v n f := by
  obtain ⟨a, c, hv, h⟩ := h
  refine ⟨a, c, hv, fun hn => ?_⟩
  obtain ⟨k, o, ha, hk, hc⟩ := h hn
  exact ⟨k, o, ha, Nat.lt_of_lt_of_le hk hs.size, fun j hj => (hs.cell (p := ⟨k, o + j, none⟩) hk).trans (hc j hj)⟩
theorem SlA.low {w w' : World} {N : Nat} {v : Value} {n : Nat} {f : Nat → Value} (h : SlA w N v n f) (hs : Since w w') : SlA w' N v n f := by
  obtain ⟨a, c, hv, h⟩ := h
  refine ⟨a, c, hv, fun hn => ?_⟩
  obtain ⟨k, o, ha, hk, hc⟩ := h hn
  exact ⟨k, o, ha, hk, fun j hj => (hs.cell (p := ⟨k, o + j, none⟩) (World.block_lt_of_cell? w _ (hc j hj))).trans (hc j hj)⟩
namespace Vl
open Go.RowKit
def pkN (n : Nat) (a : Int) : Nat := (a % 18446744073709551616).toNat % n
theorem pkN_lt (n : Nat) (a : Int) (h : 0 < n) : pkN n a < n := Nat.mod_lt _ h
theorem pickN_any (n : Nat) (a : Int) (w : World) (hn : 0 < n) (hn2 : n < 1000000) :
    Calls Tryz.prog 13 #[.int .i64 a, .int .i64 n] w fun e w' => e = .returned (.int .i64 (pkN n a)) ∧ w' = w := by
  have e0 : IntKind.u64.wrap (n : Int) = n := by simp [IntKind.wrap, IntKind.bits, IntKind.signed]; omega
  have e1 : IntKind.u64.wrap a = a % 18446744073709551616 := by simp [IntKind.wrap, IntKind.bits, IntKind.signed]
  have h0 : ¬ (n : Int) = 0 := by omega
  go_enter Tryz.func13, Tryz.ntmps13
  go_wp2_with fail
  go_ret
  have hp := pkN_lt n a hn
  have e2 : a % 18446744073709551616 % (n : Int) = ((pkN n a : Nat) : Int) := by
    unfold pkN
    rw [Int.natCast_emod, Int.toNat_of_nonneg (by omega)]
  refine ⟨?_, rfl⟩
  have e3 : wrap64 ((pkN n a : Nat) : Int) = ((pkN n a : Nat) : Int) := by
    unfold wrap64
    omega
  show Ending.returned (Value.int .i64 (wrap64 (a % 18446744073709551616 % (n : Int)))) = _
  rw [e2, e3]
theorem pick24_any (a : Int) (w : World) : Calls Tryz.prog 13 #[.int .i64 a, .int .i64 24] w fun e w' => e = .returned (.int .i64 (pkN 24 a)) ∧ w' = w := pickN_any 24 a w (by omega) (by omega)
structure Stp where
  at_ : Int
  tx : List ByteArray
def Stp.val (s : Stp) (v : Value) : Value := .agg #[.int .i64 s.at_, v]
def tlf (l : List ByteArray) : Nat → Value := fun i => .string (l.getD i ⟨#[]⟩)
def Sts (w : World) (v : Value) (l : List Stp) : Prop := ∃ a c, v = .slice a l.length c ∧ (0 < l.length → ∃ k o, a = some ⟨k, o, none⟩ ∧ k < w.heap.size ∧ ∀ j s, l[j]? = some s → ∃ tv, SlA w w.heap.size tv s.tx.length (tlf s.tx) ∧ w.cell? ⟨k, o + j * 2, none⟩ = some (.int .i64 s.at_) ∧ w.cell? ⟨k, o + j * 2 + 1, none⟩ = some tv)
theorem Sts.since {w w' : World} {v : Value} {l : List Stp} (h : Sts w v l) (hs : Since w w') : Sts w' v l := by
  obtain ⟨a, c, hv, h⟩ := h
  refine ⟨a, c, hv, fun hn => ?_⟩
  obtain ⟨k, o, ha, hk, hc⟩ := h hn
  refine ⟨k, o, ha, Nat.lt_of_lt_of_le hk hs.size, fun j f hj => ?_⟩
  obtain ⟨cv, h1, h2, h3⟩ := hc j f hj
  exact ⟨cv, h1.since hs, (hs.cell (p := ⟨k, o + j * 2, none⟩) hk).trans h2, (hs.cell (p := ⟨k, o + j * 2 + 1, none⟩) hk).trans h3⟩
theorem Sts.form {w : World} {v : Value} {l : List Stp} (h : Sts w v l) : ∃ a c, v = .slice a l.length c := by
  obtain ⟨a, c, hv, _⟩ := h
  exact ⟨a, c, hv⟩
theorem Sts.at_ {w : World} {a : Option Addr} {c : Nat} {l : List Stp} (h : Sts w (.slice a l.length c) l) {j : Nat} {s : Stp} (hj : l[j]? = some s) : ∃ k o tv, a = some ⟨k, o, none⟩ ∧ SlA w w.heap.size tv s.tx.length (tlf s.tx) ∧ w.cell? ⟨k, o + j * 2, none⟩ = some (.int .i64 s.at_) ∧ w.cell? ⟨k, o + j * 2 + 1, none⟩ = some tv := by
  obtain ⟨a', c', hv, h⟩ := h
  injection hv with e1 e2 e3
  subst e1 e3
  have hjl := (List.getElem?_eq_some_iff.1 hj).1
  obtain ⟨k, o, ha, hk, hh⟩ := h (by omega)
  obtain ⟨tv, h1, h2, h3⟩ := hh j s hj
  exact ⟨k, o, tv, ha, h1, h2, h3⟩
def Stp.short (s : Stp) : Prop := s.tx.length ≤ 10 ∧ ∀ t ∈ s.tx, t.size ≤ 80
theorem stepsF_any (s : Stp) (tv : Value) (w : World) (h : SlA w w.heap.size tv s.tx.length (tlf s.tx)) :
    Calls Tryz.prog 31 #[s.val tv] w fun e w' => ((e = .returned (.bool false) ∧ s.short) ∨ e = .returned (.bool true)) ∧ Since w w' := by
  obtain ⟨a, c, rfl, hs⟩ := h
  have H : Hid (SlA w w.heap.size (.slice a s.tx.length c) s.tx.length (tlf s.tx)) := ⟨a, c, rfl, hs⟩
  clear hs
  unfold Stp.val
  by_cases h10 : (10 : Int) < (s.tx.length : Nat)
  · have hd : decide ((10 : Int) < (s.tx.length : Nat)) = true := decide_eq_true h10
    clear h10
    go_enter Tryz.func31, Tryz.ntmps31
    go_wp2_with fail
    go_ret
    exact ⟨Or.inr rfl, (Since.refl w).alloc _⟩
  · have hd : decide ((10 : Int) < (s.tx.length : Nat)) = false := decide_eq_false h10
    have HT : Hid (s.tx.length ≤ 10) := (by omega : s.tx.length ≤ 10)
    clear h10
    go_enter Tryz.func31, Tryz.ntmps31
    go_wp2_with fail
    have hS := (Since.refl w).alloc (.cells #[.int .i64 s.at_, .slice a s.tx.length c] 25)
    have HS : Hid (Since w (w.alloc (.cells #[.int .i64 s.at_, .slice a s.tx.length c] 25))) := hS
    clear hS
    generalize w.alloc (.cells #[.int .i64 s.at_, .slice a s.tx.length c] 25) = w1 at *
    refine (few_any w.heap.size s.tx.length _ (fun i => s.tx.getD i ⟨#[]⟩) _ (H.out.sl HS.out (Nat.le_refl _)) (by have := HT.out; omega)).mono ?_
    rintro e w' ⟨hx, rfl⟩
    rcases hx with ⟨rfl, _, h80⟩ | rfl
    · have H80 : Hid (∀ j, j < s.tx.length → (s.tx.getD j ⟨#[]⟩).size ≤ 80) := h80
      clear h80
      go_wp2_with fail
      go_ret
      refine ⟨Or.inl ⟨rfl, HT.out, fun t ht => ?_⟩, HS.out⟩
      obtain ⟨j, hj, rfl⟩ := List.getElem_of_mem ht
      have := H80.out j hj
      rwa [List.getD_eq_getElem?_getD, List.getElem?_eq_getElem hj] at this
    · go_wp2_with fail
      go_ret
      exact ⟨Or.inr rfl, HS.out⟩
set_option maxHeartbeats 2000000 in
theorem IFst_any (l : List Stp) (v : Value) (w : World) (hl : Sts w v l) (hn : l.length ≤ 1000) :
    Calls Tryz.prog 61 #[v, .func (.func 31) #[] #[]] w fun e w' => (∃ i : Int, e = .returned (.int .i64 i) ∧ (0 ≤ i ∨ (i < 0 ∧ ∀ s ∈ l, s.short))) ∧ Since w w' := by
  obtain ⟨a, c, rfl⟩ := hl.form
  have HL : Hid (Sts w (.slice a l.length c) l) := hl
  clear hl
  have heg : ∀ args w, (callFunc 31 args).run Tryz.prog w = .ok (.enter 31 args) w := enters_of Tryz.func31 (by kernel_rfl) rfl
  go_enter Tryz.func61, Tryz.ntmps61
  go_wp2_with fail
  go_loopw [8, 5] (fun i _ wr => ∃ k : Nat, k ≤ l.length ∧ i = .int .i64 k ∧ Since w wr ∧ ∀ j s, j < k → l[j]? = some s → s.short) (fun i _ _ => l.length - (intOf i).toNat)
  case atStart => exact ⟨0, by omega, rfl, Since.refl _, fun j s hj => by omega⟩
  case round =>
    obtain ⟨k, hk, rfl, hs, hsh⟩ := hrel
    have HS : Hid (Since w wr) := hs
    have HSH : Hid (∀ j s, j < k → l[j]? = some s → s.short) := hsh
    clear hs hsh
    by_cases hlt : k < l.length
    · have hlt2 : (k : Int) < l.length := by omega
      have hE : Hid (l[k]? = some l[k]) := List.getElem?_eq_getElem hlt
      generalize l[k] = s at *
      obtain ⟨k1, o1, u1, rfl, hi1, p0, p1⟩ := (HL.out.since HS.out).at_ hE.out
      have HI : Hid (SlA wr wr.heap.size u1 s.tx.length (tlf s.tx)) := hi1
      obtain ⟨a1, b1, rfl, _⟩ := hi1
      go_wp2_with fail
      refine (stepsF_any s _ _ HI.out).mono ?_
      rintro e w1 ⟨hx, h1⟩
      have HS1 : Hid (Since w w1) := HS.out.trans h1
      clear h1 p0 p1
      rcases hx with ⟨rfl, hsh⟩ | rfl
      · have HSK : Hid (s.short) := hsh
        clear hsh
        go_wp2_with fail
        go_roundw
        case rel =>
          refine ⟨k + 1, by omega, by go_num, HS1.out, fun j t hj ht => ?_⟩
          by_cases e : j = k
          · subst e
            have h1 := hE.out
            rw [ht] at h1
            injection h1 with h1
            rw [h1]; exact HSK.out
          · exact HSH.out j t (by omega) ht
        case measure => simp [intOf]; omega
      · go_wp2_with fail
        go_ret
        exact ⟨⟨_, rfl, Or.inl (by omega)⟩, HS1.out⟩
    · have hke : k = l.length := by omega
      subst hke
      go_wp2_with fail
      go_ret
      refine ⟨⟨_, rfl, Or.inr ⟨by omega, fun s hs => ?_⟩⟩, HS.out⟩
      obtain ⟨j, hj, rfl⟩ := List.getElem_of_mem hs
      exact HSH.out j _ hj (List.getElem?_eq_getElem hj)
def few12 (l : List Stp) : Prop := l.length ≤ 12 ∧ ∀ s ∈ l, s.short
theorem steps_any (l : List Stp) (v : Value) (w : World) (hl : Sts w v l) : Calls Tryz.prog 8 #[v] w fun e w' => ((e = .returned (.bool true) ∧ few12 l) ∨ e = .returned (.bool false)) ∧ Since w w' := by
  by_cases hn : l.length ≤ 12
  · have hif := IFst_any l v w hl (by omega)
    obtain ⟨a, c, rfl⟩ := hl.form
    have hcf : Calls Tryz.prog 30 #[.slice a l.length c, .func (.func 31) #[] #[]] w fun e w' => ((e = .returned (.bool false) ∧ ∀ s ∈ l, s.short) ∨ e = .returned (.bool true)) ∧ Since w w' := by
      clear hl
      go_enter Tryz.func30, Tryz.ntmps30
      go_wp2_with fail
      refine hif.mono ?_
      rintro e w1 ⟨⟨i, rfl, hi⟩, h1⟩
      rcases hi with hi | ⟨hi, hsh⟩
      · have hd : decide ((0 : Int) ≤ i) = true := decide_eq_true hi
        clear hi
        go_wp2_with fail
        go_ret
        first
        | exact ⟨Or.inr rfl, h1⟩
        | exact ⟨Or.inr (by rw [hd]), h1⟩
      · have hd : decide ((0 : Int) ≤ i) = false := decide_eq_false (by omega)
        have HSH : Hid (∀ s ∈ l, s.short) := hsh
        clear hi hsh
        go_wp2_with fail
        go_ret
        first
        | exact ⟨Or.inl ⟨rfl, HSH.out⟩, h1⟩
        | exact ⟨Or.inl ⟨by rw [hd], HSH.out⟩, h1⟩
    have hd : decide ((l.length : Int) ≤ 12) = true := decide_eq_true (by omega)
    have HN : Hid (l.length ≤ 12) := hn
    clear hl hif hn
    go_enter Tryz.func8, Tryz.ntmps8
    go_wp2_with fail
    refine hcf.mono ?_
    rintro e w1 ⟨hx, h1⟩
    rcases hx with ⟨rfl, hsh⟩ | rfl
    · have HSH : Hid (∀ s ∈ l, s.short) := hsh
      clear hsh
      go_wp2_with fail
      go_ret
      exact ⟨Or.inl ⟨rfl, HN.out, HSH.out⟩, h1⟩
    · go_wp2_with fail
      go_ret
      exact ⟨Or.inr rfl, h1⟩
  · obtain ⟨a, c, rfl⟩ := hl.form
    have hd : decide ((l.length : Int) ≤ 12) = false := decide_eq_false (by omega)
    clear hl
    go_enter Tryz.func8, Tryz.ntmps8
    go_wp2_with fail
    go_ret
    exact ⟨Or.inr rfl, Since.refl _⟩
end Vl
end Go.Proofs.YtifnhnfjelfddaaGreatDoor
end
