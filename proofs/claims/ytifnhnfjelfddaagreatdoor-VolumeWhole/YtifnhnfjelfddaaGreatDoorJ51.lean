import Derived.Test.YtifnhnfjelfddaaGreatDoorJ09
import Derived.Test.YtifnhnfjelfddaaGreatDoorJ48
import Derived.Test.YtifnhnfjelfddaaGreatDoorJ49
import Derived.Test.YtifnhnfjelfddaaGreatDoorJ50
set_option linter.unusedSimpArgs false
set_option linter.unusedVariables false
section
namespace Go.Proofs.YtifnhnfjelfddaaGreatDoor
set_option maxRecDepth 100000
namespace Vl
open Go.RowKit
open Tw (Tb nul may Same Rt)
end Vl
end Go.Proofs.YtifnhnfjelfddaaGreatDoor
end
section
namespace Go.Proofs.YtifnhnfjelfddaaGreatDoor
set_option maxRecDepth 100000
namespace Vl
open Go.RowKit
open Tw (Tb nul may Same Rt)
theorem slotBy_ws (D : Dv) (k : Nat) (t : ByteArray) (hw : D.ws = [(k, t)]) (k' : Nat) (kept : Nat → Bool) : D.slotBy k' kept = if k = k' ∧ kept 0 = true then sb t else D.slot k' := by
  have h := slotBy_one { D with ws := [] } k t rfl k' kept
  have e : (({ D with ws := [] } : Dv).wrote k t) = D := by
    cases D
    simp only at hw
    subst hw
    rfl
  rw [e] at h
  exact h
theorem crashed_slotBy (D : Dv) (nk : Nat) (ks : Nat → Int) (ns : Nat) (sl : Nat → Bool) (k : Nat) (hk : k < 2) : (D.crashed nk ks ns sl).slotBy k (fun _ => true) = D.slotBy k (keptBy ns sl) := by
  rw [slotBy_nil _ (crashed_fused D nk ks ns sl).2]
  have h : (D.crashed nk ks ns sl).slot k = ((D.crashZ (keepAt nk ks) 8).settled (keptBy ns sl)).slot k := rfl
  rw [h, settled_slot _ _ _ hk]
  rfl
theorem lie_crash {kb : ByteArray} {D : Dv} {T : Tb} {X : Nat → ByteArray} (h : Lie kb D D.sure T X) (nk : Nat) (ks : Nat → Int) (ns : Nat) (sl : Nat → Bool) : Lie kb (D.crashed nk ks ns sl) (D.crashed nk ks ns sl).cnt T X := fun i hi => by
  rcases h i hi with h2 | ⟨h2, h3, h4, h5⟩
  · exact Or.inl h2
  · have hz8 : (T.zone i).toNat < 8 := by have := h2.2.1; have := h2.2.2.1; omega
    have hge := kept1_ge (D.cnt (T.zone i).toNat) (D.sure (T.zone i).toNat) (keepAt nk ks (T.zone i).toNat)
    have ho := h2.2.2.2.1
    refine Or.inr ⟨h2, ?_, h4, fun j hj => ?_⟩
    · rw [crashed_cnt _ _ _ _ _ _ hz8]; omega
    · rw [crashed_blk _ _ _ _ _ _ _ (by omega)]
      exact h5 j hj
theorem opened_good {kb kt : ByteArray} {D : Dv} {n : Int} {U : Tb} {X : Nat → ByteArray} (hf : D.fused = false) (hc : c16 D) (hw : D.ws = []) (hn : 0 ≤ n) (hwh : whole kb kt D n) (hs : Same (tabAt D n) U) (hl : Lie kb D D.cnt U X) (hx : ∀ i, i < 24 → saysTo kb D (tabAt D n) 24 i = X i) (hlow : low D n) : Good kb kt (opened kb D n n) n := by
  refine ⟨⟨rfl, hf, hc⟩, opened_ok kb kt D n (by rw [hw]; exact Nat.zero_le _) hn hwh, fun i hi => ?_, hlow⟩
  have h1 := (hl i hi).same hs.symm hi
  show At kb D D.cnt (tabAt D n) (saysTo kb D (tabAt D n) 24) i
  unfold At at h1 ⊢
  rw [hx i hi]
  exact h1
theorem cc_open {kb kt : ByteArray} {D : Dv} {c : Int} {P : (Nat → ByteArray) → Prop} (h : CC kb kt D c P) (hc0 : 0 ≤ c) (h16 : c16 D) (hsu : ∀ z, z < 8 → D.sure z ≤ D.cnt z) (nk : Nat) (ks : Nat → Int) (ns : Nat) (sl : Nat → Bool) {r : Int} {S : Vs} (ho : OpenIs kb kt (D.crashed nk ks ns sl) c r S) :
    r = 0 ∧ S.D = D.crashed nk ks ns sl ∧ c ≤ S.c ∧ S.c ≤ c + 1 ∧ Good kb kt S (c + 1) ∧ ∃ Y, P Y ∧ ∀ i, i < 24 → S.X i = Y i := by
  have hc16 : c16 (D.crashed nk ks ns sl) := fun z hz => by
    rw [crashed_cnt _ _ _ _ _ _ hz]
    have h1 := kept1_le (D.cnt z) (D.sure z) (keepAt nk ks z) (hsu z hz)
    have h2 := h16 z hz
    omega
  have hfu := crashed_fused D nk ks ns sl
  obtain ⟨T, Y, hS, hPY, hws⟩ := h
  -- where no write of a slot is kept, it is as it was told
  have old : (∀ k, k < 2 → (D.crashed nk ks ns sl).slotBy k (fun _ => true) = D.slot k) → r = 0 ∧ S.D = D.crashed nk ks ns sl ∧ c ≤ S.c ∧ S.c ≤ c + 1 ∧ Good kb kt S (c + 1) ∧ ∃ Y, P Y ∧ ∀ i, i < 24 → S.X i = Y i := fun hsk => by
    have hlow : low (D.crashed nk ks ns sl) c := fun k hk => by rw [hsk k hk]; exact hS.2 k hk
    have htold : Told kb kt (D.crashed nk ks ns sl) c T Y := by
      rcases hS.1 with h1 | ⟨h0, hr, hc, hsl, hl, hx⟩
      · exact Or.inl h1
      · exact Or.inr ⟨h0, hr, hc, by rw [hsk _ (by omega)]; exact hsl, lie_crash hl nk ks ns sl, hx⟩
    obtain ⟨e1, e2, e3, e4, e5, e6, e7⟩ := open_told htold hlow ho
    refine ⟨e1, e2, by omega, by omega, ?_, Y, hPY, e7⟩
    by_cases h0 : c = 0
    · rw [e5 h0, h0]
      rw [h0] at hlow
      exact Good.le ⟨⟨rfl, hfu.1, hc16⟩, fresh_ok _ (by rw [hfu.2]; exact Nat.zero_le _), fun i hi => Or.inl ⟨⟨rfl, rfl, rfl⟩, rfl⟩, hlow⟩ (by omega)
    · obtain ⟨f1, f2, f3⟩ := e6 h0
      rcases htold with ⟨h1, _⟩ | ⟨_, hr, hc, hsl, hl, hx⟩
      · exact absurd h1 h0
      · obtain ⟨g1, g2, g3⟩ := whole_of hr hsl hc hl hx
        rw [f3]
        exact (opened_good hfu.1 hc16 hfu.2 hc0 g1 g2 hl g3 hlow).le (by omega)
  rcases hws with hws | ⟨U, X, hws, hr, hc, hl, hPX, hx⟩
  · exact old (fun k hk => by rw [crashed_slotBy _ _ _ _ _ _ hk, slotBy_nil _ hws])
  · by_cases hk0 : keptBy ns sl 0 = true
    · -- the write of the new table is kept
      have hsk : ∀ k, k < 2 → (D.crashed nk ks ns sl).slotBy k (fun _ => true) = if ((c + 1) % 2).toNat = k then sb (Tw.text kt U) else D.slot k := fun k hk => by
        rw [crashed_slotBy _ _ _ _ _ _ hk, slotBy_ws D _ _ hws]
        by_cases e : ((c + 1) % 2).toNat = k
        · rw [if_pos ⟨e, hk0⟩, if_pos e]
        · rw [if_neg (fun q => e q.1), if_neg e]
      have hsl : Slot kt ((D.crashed nk ks ns sl).slotBy ((c + 1) % 2).toNat (fun _ => true)) U := by
        rw [hsk _ (by omega), if_pos rfl]
        exact fun j _ => rfl
      have hlc := lie_crash hl nk ks ns sl
      obtain ⟨g1, g2, g3⟩ := whole_of hr hsl hc hlc hx
      have hlow : low (D.crashed nk ks ns sl) (c + 1) := fun k hk => by
        rw [hsk k hk]
        split
        · have : Slot kt (sb (Tw.text kt U)) U := fun j _ => rfl
          rw [(this.rd hr).1, hc]
          exact Int.le_refl _
        · have := hS.2 k hk
          omega
      rcases ho with ho | ho | ho | ho
      · obtain ⟨_, rfl, rfl⟩ := ho
        exact ⟨rfl, rfl, by show c ≤ c + 1; omega, Int.le_refl _, opened_good hfu.1 hc16 hfu.2 (by omega) g1 g2 hlc g3 hlow, X, hPX, g3⟩
      · exact absurd g1 ho.1
      · exact absurd g1 ho.1
      · exact absurd g1 ho.1
    · exact old (fun k hk => by
        rw [crashed_slotBy _ _ _ _ _ _ hk, slotBy_ws D _ _ hws, if_neg (fun q => hk0 q.2)])
theorem one_of {f : Nat → Nat} {k : Nat} : ∀ l : List Nat, l.Pairwise (· < ·) → (∀ i ∈ l, ∀ j ∈ l, f i = f j → i = j) → (l.filter (fun i => decide (f i = k))).length ≤ 1 := by
  intro l hp hi
  have hs : (l.filter (fun i => decide (f i = k))).Pairwise (· < ·) := hp.filter _
  have hm : ∀ i ∈ l.filter (fun i => decide (f i = k)), i ∈ l ∧ f i = k := fun i h => by simpa using List.mem_filter.1 h
  match hl : l.filter (fun i => decide (f i = k)), hs, hm with
  | [], _, _ => simp
  | [a], _, _ => simp
  | a :: b :: r, hs, hm =>
    exfalso
    have ha := hm a (by simp)
    have hb := hm b (by simp)
    have := hi a ha.1 b hb.1 (ha.2.trans hb.2.symm)
    have hab := (List.pairwise_cons.1 hs).1 b (by simp)
    omega
theorem few_of {f : Nat → Nat} (l : List Nat) (hp : l.Pairwise (· < ·)) (hi : ∀ i ∈ l, ∀ j ∈ l, f i = f j → i = j) : ∀ k, (l.filter (fun i => decide (f i < k))).length ≤ k
  | 0 => by simp
  | k + 1 => by
    have ih := few_of l hp hi k
    have h1 := one_of (f := f) (k := k) l hp hi
    have hsum : ∀ l : List Nat, (l.filter (fun i => decide (f i < k + 1))).length = (l.filter (fun i => decide (f i < k))).length + (l.filter (fun i => decide (f i = k))).length := by
      intro l
      induction l with
      | nil => rfl
      | cons a r ihr =>
        simp only [List.filter_cons]
        by_cases h2 : f a < k
        · have h3 : f a < k + 1 := by omega
          have h4 : ¬ f a = k := by omega
          simp [h2, h3, h4, ihr]; omega
        · by_cases h4 : f a = k
          · have h3 : f a < k + 1 := by omega
            simp [h2, h3, h4, ihr]; omega
          · have h3 : ¬ f a < k + 1 := by omega
            simp [h2, h3, h4, ihr]
    rw [hsum l]
    omega
theorem inI16 {S : Vs} {n : Int} (h : S.ok n) (z : Int) : (Sp.inI S.T z 24).length ≤ 16 := by
  have hp : (Sp.inI S.T z 24).Pairwise (· < ·) := by
    unfold Sp.inI
    exact List.Pairwise.filter _ List.pairwise_lt_range
  have hnn : ∀ i, i < 24 → S.T.tag i ≠ ⟨#[]⟩ → ¬ nul S.T i := fun i hi q e => q e.2.2
  have hmay : ∀ i, i < 24 → S.T.tag i ≠ ⟨#[]⟩ → may S.T i := fun i hi q => (h.may i hi).resolve_left (hnn i hi q)
  have hall : ∀ i ∈ Sp.inI S.T z 24, (S.T.off i).toNat < 16 := fun i hi => by
    obtain ⟨h1, h2, _⟩ := inI_mem.1 hi
    have := hmay i h1 h2
    have := this.2.2.2
    omega
  have hf : (Sp.inI S.T z 24).filter (fun i => decide ((S.T.off i).toNat < 16)) = Sp.inI S.T z 24 := List.filter_eq_self.2 (fun i hi => by simpa using hall i hi)
  have := few_of (f := fun i => (S.T.off i).toNat) (Sp.inI S.T z 24) hp (fun i hi j hj e => by
    obtain ⟨a1, a2, a3⟩ := inI_mem.1 hi
    obtain ⟨b1, b2, b3⟩ := inI_mem.1 hj
    by_cases hij : i = j
    · exact hij
    · have m1 := (hmay i a1 a2).2.2.2.1
      have m2 := (hmay j b1 b2).2.2.2.1
      exact absurd ⟨a3.trans b3.symm, by omega⟩ (h.dis i j a1 b1 hij (hnn i a1 a2) (hnn j b1 b2))) 16
  rw [hf] at this
  exact this
theorem write_room {kb kt : ByteArray} {S : Vs} {n : Int} (h : Good kb kt S n) (hn : n < 900000000) (ht : tot S.D ≤ 112) (i : Nat) (hi : i < 24) (t : ByteArray) (h80 : t.size ≤ 80) : (S.write kb kt i t).1 = 0 ∧ Good kb kt (S.write kb kt i t).2 (n + 1) := by
  have hw : S.write kb kt i t = if t = S.X i then (0, S) else if t = ⟨#[]⟩ then (0, S.set i 0 0 ⟨#[]⟩ ⟨#[]⟩) else if S.free ≤ 20 then (if (S.reclaim kb kt).1.2.2 ≠ 0 then ((S.reclaim kb kt).1.2.2, (S.reclaim kb kt).2) else (S.reclaim kb kt).2.put kb i (-1) t) else S.put kb i (-1) t := by
    unfold Vs.write
    rw [if_neg (by rw [h.on.dead]; decide), if_neg (by omega), if_neg (by omega), Int.toNat_natCast]
  have puts : ∀ {S1 : Vs} {m : Int}, Good kb kt S1 m → tot S1.D < 128 → m ≤ n + 1 → (S1.put kb i (-1) t).1 = 0 ∧ Good kb kt (S1.put kb i (-1) t).2 (n + 1) := fun {S1 m} hg htt hm => by
    obtain ⟨z, _, hz8, hz16, _, hp⟩ := put_on hg.on htt kb i (-1) (Or.inl (by omega)) t
    exact ⟨by rw [hp], (put_good hg i z hi hz8 hz16 (-1) t h80 hp).le hm⟩
  rw [hw]
  by_cases h1 : t = S.X i
  · rw [if_pos h1]; exact ⟨rfl, h.le (by omega)⟩
  · rw [if_neg h1]
    by_cases h2 : t = ⟨#[]⟩
    · rw [if_pos h2]; exact ⟨rfl, (clear_good h i).le (by omega)⟩
    · rw [if_neg h2]
      by_cases h3 : S.free ≤ 20
      · rw [if_pos h3]
        cases hv : vicTo S.atf S.live 8 with
        | none =>
          rw [reclaim_off h.on kb kt hv, if_neg (by simp)]
          exact puts (S1 := S) h (by omega) (by omega)
        | some z =>
          have h16 := inI16 h.ok (z : Int)
          have hon := (reclaim_on h.on kb kt hv (by omega)).2.2
          have hls := reclaim_less h.on kb kt hv (by omega)
          obtain ⟨hg, _⟩ := reclaim_good h (by omega) hv (by omega)
          rw [if_neg (by rw [hon]; simp)]
          exact puts hg (by have := hls.tot; omega) (Int.le_refl _)
      · rw [if_neg h3]
        exact puts h (by omega) (by omega)
theorem crash_tot {D : Dv} (hsu : ∀ z, z < 8 → D.sure z ≤ D.cnt z) (nk : Nat) (ks : Nat → Int) (ns : Nat) (sl : Nat → Bool) : tot (D.crashed nk ks ns sl) ≤ tot D := by
  have h : ∀ z, z < 8 → (D.crashed nk ks ns sl).cnt z ≤ D.cnt z := fun z hz => by
    rw [crashed_cnt _ _ _ _ _ _ hz]
    exact kept1_le _ _ _ (hsu z hz)
  have h0 := h 0 (by omega); have h1 := h 1 (by omega); have h2 := h 2 (by omega); have h3 := h 3 (by omega)
  have h4 := h 4 (by omega); have h5 := h 5 (by omega); have h6 := h 6 (by omega); have h7 := h 7 (by omega)
  unfold tot; omega
end Vl
end Go.Proofs.YtifnhnfjelfddaaGreatDoor
end
section
namespace Go.Proofs.YtifnhnfjelfddaaGreatDoor
set_option maxRecDepth 100000
namespace Vl
open Go.RowKit
set_option maxHeartbeats 1000000 in
theorem eq_tot (b n : Nat) (v1 v2 : Value) (l1 l2 : Nat → ByteArray) (w : World) (h1 : Go.Proofs.YtifnhnfjelfddaaGreatDoor.Sl w b v1 n (fun j => .string (l1 j))) (h2 : Go.Proofs.YtifnhnfjelfddaaGreatDoor.Sl w b v2 n (fun j => .string (l2 j))) (hn : n ≤ 1000) :
    Calls Tryz.prog 23 #[v1, v2] w fun e w' => (∃ x : Bool, e = .returned (.bool x) ∧ ((∀ j, j < n → l1 j = l2 j) → x = true)) ∧ ∃ m, w' = w.drewN m := by
  obtain ⟨a1, c1, rfl, hs1⟩ := h1
  obtain ⟨a2, c2, rfl, hs2⟩ := h2
  have HS1 : Hid (0 < n → ∃ k o, a1 = some ⟨k, o, none⟩ ∧ k ≠ b ∧ ∀ j, j < n → w.cell? ⟨k, o + j, none⟩ = some (.string (l1 j))) := hs1
  have HS2 : Hid (0 < n → ∃ k o, a2 = some ⟨k, o, none⟩ ∧ k ≠ b ∧ ∀ j, j < n → w.cell? ⟨k, o + j, none⟩ = some (.string (l2 j))) := hs2
  clear hs1 hs2
  go_enter Tryz.func23, Tryz.ntmps23
  go_wp2_with fail
  go_loopw [13] (fun i wr => ∃ k : Nat, k ≤ n ∧ i = .int .i64 k ∧ ∃ m, wr = w.drewN m) (fun i _ => n - (intOf i).toNat)
  case atStart => exact ⟨0, by omega, rfl, 0, rfl⟩
  case round =>
    obtain ⟨k, hk, rfl, mm, hmm⟩ := hrel
    have hS : Since w wr := by rw [hmm]; exact (Since.refl w).drewN mm
    have HMM : Hid (wr = w.drewN mm) := hmm
    clear hmm
    by_cases hlt : k < n
    · have hlt2 : (k : Int) < n := by omega
      obtain ⟨kb1, ko1, rfl, _, hc1⟩ := HS1.out (by omega)
      obtain ⟨kb2, ko2, rfl, _, hc2⟩ := HS2.out (by omega)
      have q1 : wr.cell? ⟨kb1, ko1 + k, none⟩ = some (.string (l1 k)) := (hS.cell (p := ⟨kb1, ko1 + k, none⟩) (World.block_lt_of_cell? w _ (hc1 k hlt))).trans (hc1 k hlt)
      have q2 : wr.cell? ⟨kb2, ko2 + k, none⟩ = some (.string (l2 k)) := (hS.cell (p := ⟨kb2, ko2 + k, none⟩) (World.block_lt_of_cell? w _ (hc2 k hlt))).trans (hc2 k hlt)
      by_cases hq : l1 k = l2 k
      · rw [← hq] at q2
        clear hc1 hc2 hS hq
        go_wp2_with fail
        go_quiet (fail)
        go_wp2_with fail
        go_roundw
        case rel => exact ⟨k + 1, by omega, by go_num, _, by rw [HMM.out, World.drewN_drewN]⟩
        case measure => simp [intOf]; omega
      · have hne := Sl.neq_list hq
        have HQ : Hid (¬ l1 k = l2 k) := hq
        clear hc1 hc2 hS hq
        go_wp2_with fail
        go_quiet (fail)
        go_wp2_with fail
        go_ret
        exact ⟨⟨_, rfl, fun h => absurd (h k hlt) HQ.out⟩, _, by rw [HMM.out, World.drewN_drewN]⟩
    · have hke : k = n := by omega
      subst hke
      clear hS
      go_wp2_with fail
      go_ret
      exact ⟨⟨_, rfl, fun _ => rfl⟩, mm, HMM.out⟩
set_option maxHeartbeats 4000000 in
theorem wholeF_any (bx : Nat) (x y : Value) (X Z : Nat → ByteArray) (w : World) {N M : Nat} (hN : 0 < N) (hM : 0 < M) (hx : w.ownsRow N 9 1 x 24 (texts X 24)) (hy : w.ownsRow M 9 1 y 24 (texts Z 24)) (hb : w.cell? ⟨bx, 0, none⟩ = some y) :
    Calls Tryz.prog 22 #[x, .pointer (some ⟨bx, 0, none⟩)] w fun e w' => (∃ b : Bool, e = .returned (.bool b) ∧ ((∀ i, i < 24 → X i = Z i) → b = true)) ∧ ∃ m, w' = w.drewN m := by
  have he := eq_tot 0 24 x y X Z w (Sl.of_own hx hN (fun j hj => brow_get 24 _ j hj)) (Sl.of_own hy hM (fun j hj => brow_get 24 _ j hj)) (by omega)
  obtain ⟨xa, xn, xc, rfl, rfl⟩ := own_slice hx
  obtain ⟨ya, yn, yc, rfl, rfl⟩ := own_slice hy
  clear hx hy
  go_enter Tryz.func22, Tryz.ntmps22
  go_wp2_with fail
  refine he.mono ?_
  rintro e w' ⟨⟨b, rfl, hb'⟩, m, rfl⟩
  have HBB : Hid ((∀ i, i < 24 → X i = Z i) → b = true) := hb'
  clear hb'
  go_wp2_with fail
  go_ret
  exact ⟨⟨_, rfl, HBB.out⟩, m, rfl⟩
theorem wholeF_enters : ∀ args w, (callFunc 22 args).run Tryz.prog w = .ok (.enter 22 args) w := enters_of Tryz.func22 (by kernel_rfl) rfl
structure Lists (w : World) (N M : Nat) (mv : Value) (xs : Nat → Value) (X : Nat → Nat → ByteArray) : Prop where
  had : w.ownsRow N 23 1 mv M ((List.range M).map xs)
  row : ∀ k, k < M → w.ownsRow N 9 1 (xs k) 24 (texts (X k) 24)
theorem Lists.since {w w' : World} {N M : Nat} {mv : Value} {xs : Nat → Value} {X : Nat → Nat → ByteArray} (h : Lists w N M mv xs X) (hs : Since w w') : Lists w' N M mv xs X := ⟨ownsRow_since h.had hs, fun k hk => ownsRow_since (h.row k hk) hs⟩
set_option maxHeartbeats 2000000 in
theorem IFss_any (bx : Nat) (y mv : Value) (xs : Nat → Value) (X : Nat → Nat → ByteArray) (Z : Nat → ByteArray) (w : World) {N K M : Nat} (hN : 0 < N) (hK : 0 < K) (hm : M ≤ 1000) (hl : Lists w N M mv xs X) (hy : w.ownsRow K 9 1 y 24 (texts Z 24)) (hb : w.cell? ⟨bx, 0, none⟩ = some y) (hit : ∃ k, k < M ∧ ∀ i, i < 24 → X k i = Z i) :
    Calls Tryz.prog 51 #[mv, .func (.func 22) #[] #[.pointer (some ⟨bx, 0, none⟩)]] w fun e w' => (∃ i : Int, e = .returned (.int .i64 i) ∧ 0 ≤ i) ∧ ∃ m, w' = w.drewN m := by
  have HL : Hid (Lists w N M mv xs X) := hl
  have HY : Hid (w.ownsRow K 9 1 y 24 (texts Z 24)) := hy
  have HB : Hid (w.cell? ⟨bx, 0, none⟩ = some y) := hb
  have HIT : Hid (∃ k, k < M ∧ ∀ i, i < 24 → X k i = Z i) := hit
  obtain ⟨ma, mc, rfl, _⟩ := own_slice2 hl.had
  have heg := wholeF_enters
  clear hl hy hb hit
  go_enter Tryz.func51, Tryz.ntmps51
  go_wp2_with fail
  go_loopw [8, 5] (fun i _ wr => ∃ k : Nat, k ≤ M ∧ i = .int .i64 k ∧ (∀ j, j < k → ¬ ∀ i, i < 24 → X j i = Z i) ∧ ∃ m, wr = w.drewN m) (fun i _ _ => M - (intOf i).toNat)
  case atStart => exact ⟨0, by omega, rfl, fun j hj => by omega, 0, rfl⟩
  case round =>
    obtain ⟨k, hk, rfl, hno, mm, hmm⟩ := hrel
    have hS : Since w wr := by rw [hmm]; exact (Since.refl w).drewN mm
    have HMM : Hid (wr = w.drewN mm) := hmm
    have HNO : Hid (∀ j, j < k → ¬ ∀ i, i < 24 → X j i = Z i) := hno
    clear hmm hno
    by_cases hlt : k < M
    · have hlt2 : (k : Int) < M := by omega
      have hl := HL.out.since hS
      obtain ⟨a', c', he', hcc⟩ := Sl.of_own (b := 0) (f := xs) hl.had hN (fun j hj => by simp [hj])
      injection he' with e1 _ e3
      subst e1 e3
      obtain ⟨hk1, ho1, rfl, _, hcell⟩ := hcc (by omega)
      have q0 := hcell k hlt
      have hcl := wholeF_any bx (xs k) y (X k) Z wr hN hK (hl.row k hlt) (ownsRow_since HY.out hS) ((hS.cell (p := ⟨bx, 0, none⟩) (World.block_lt_of_cell? w _ HB.out)).trans HB.out)
      obtain ⟨ea, ec, hxe, _⟩ := own_slice2 (hl.row k hlt)
      rw [hxe] at q0 hcl
      have HCL : Hid (Calls Tryz.prog 22 #[.slice ea 24 ec, .pointer (some ⟨bx, 0, none⟩)] wr fun e w' => (∃ b : Bool, e = .returned (.bool b) ∧ ((∀ i, i < 24 → X k i = Z i) → b = true)) ∧ ∃ m, w' = wr.drewN m) := hcl
      clear hl hcc hcell hcl hxe hS
      go_wp2_with fail
      refine HCL.out.mono ?_
      rintro e w1 ⟨⟨b, rfl, hbt⟩, m1, rfl⟩
      have HBT : Hid ((∀ i, i < 24 → X k i = Z i) → b = true) := hbt
      clear hbt
      cases b with
      | true =>
        go_wp2_with fail
        go_ret
        exact ⟨⟨_, rfl, by omega⟩, _, by rw [HMM.out, World.drewN_drewN]⟩
      | false =>
        go_wp2_with fail
        go_roundw
        case rel =>
          refine ⟨k + 1, by omega, by go_num, fun j hj => ?_, _, by rw [HMM.out, World.drewN_drewN]⟩
          by_cases e : j = k
          · subst e; exact fun q => by have := HBT.out q; cases this
          · exact HNO.out j (by omega)
        case measure => simp [intOf]; omega
    · exfalso
      obtain ⟨j, hj, hq⟩ := HIT.out
      exact HNO.out j (by omega) hq
theorem CFss_any (bx : Nat) (y mv : Value) (xs : Nat → Value) (X : Nat → Nat → ByteArray) (Z : Nat → ByteArray) (w : World) {N K M : Nat} (hN : 0 < N) (hK : 0 < K) (hm : M ≤ 1000) (hl : Lists w N M mv xs X) (hy : w.ownsRow K 9 1 y 24 (texts Z 24)) (hb : w.cell? ⟨bx, 0, none⟩ = some y) (hit : ∃ k, k < M ∧ ∀ i, i < 24 → X k i = Z i) :
    Calls Tryz.prog 21 #[mv, .func (.func 22) #[] #[.pointer (some ⟨bx, 0, none⟩)]] w fun e w' => e = .returned (.bool true) ∧ ∃ m, w' = w.drewN m := by
  have hi := IFss_any bx y mv xs X Z w hN hK hm hl hy hb hit
  obtain ⟨ma, mc, rfl, _⟩ := own_slice2 hl.had
  clear hl hy hb hit
  go_enter Tryz.func21, Tryz.ntmps21
  go_wp2_with fail
  refine hi.mono ?_
  rintro e w1 ⟨⟨i, rfl, hi0⟩, m, rfl⟩
  have hd : decide ((0 : Int) ≤ i) = true := decide_eq_true hi0
  clear hi0
  go_wp2_with fail
  go_ret
  first
  | exact ⟨rfl, m, rfl⟩
  | exact ⟨by rw [hd], m, rfl⟩
end Vl
end Go.Proofs.YtifnhnfjelfddaaGreatDoor
end
section
namespace Go.Proofs.YtifnhnfjelfddaaGreatDoor
set_option maxRecDepth 100000
namespace Vl
open Go.RowKit
open Tw (Tb nul may Same Rt)
end Vl
end Go.Proofs.YtifnhnfjelfddaaGreatDoor
end
section
namespace Go.Proofs.YtifnhnfjelfddaaGreatDoor
set_option maxRecDepth 100000
namespace Vl
open Go.RowKit
open Tw (Tb nul may Same Rt)
end Vl
end Go.Proofs.YtifnhnfjelfddaaGreatDoor
end
