/- ZoneRests' put. -/
import Derived.Test.YtjfhggcjdckfgaaDoorH2
import Derived.Test.YtjfhggcjdckfgaaDoorL0
import Derived.Test.YtjfhggcjdckfgaaDoorR2
import Derived.Deep.RegionHeld3
namespace Go.Proofs.YtjfhggcjdckfgaaDoor
set_option linter.unusedSimpArgs false
set_option linter.unusedVariables false
open Go.RowKit

/-- a block more, where there is room -/
def Dv.appF (D : Dv) (z : Nat) (s : ByteArray) : Dv := if D.cnt z < 16 then D.app z s else D
theorem burnt_off {D : Dv} (h : D.fused = false) : D.burnt = D := by unfold Dv.burnt; rw [h]; rfl
theorem may_off {D : Dv} (h : D.fused = false) : D.may = true := by unfold Dv.may; rw [h]; rfl
theorem appF_facts (D : Dv) (z : Nat) (s : ByteArray) : (D.appF z s).sure = D.sure ∧ (D.appF z s).fused = D.fused ∧ (D.appF z s).ws = D.ws ∧ (D.appF z s).slot = D.slot := by
  unfold Dv.appF
  split <;> exact ⟨rfl, rfl, rfl, rfl⟩
theorem append_off (D : Dv) (v : Value) (b z : Nat) (s : ByteArray) (w : World) (hd : Dev w b D v) (hz : z < 8) (hs : s.size ≤ 128) (hf : D.fused = false) :
    Calls Tryd.prog 30 #[.pointer (some ⟨b, 0, none⟩), .int .i64 z, .string s] w fun e w' => (∃ x y, e = .returned (.tuple #[.int .i64 x, y])) ∧ Dev w' b (D.appF z s) v ∧ Fr b none w w' := by
  by_cases hc : D.cnt z < 16
  · refine (append_any D v b z s w hd hz hs hc (may_off hf)).mono ?_
    rintro e w' ⟨rfl, h1, h2⟩
    rw [burnt_off hf] at h1
    exact ⟨⟨_, _, rfl⟩, by unfold Dv.appF; rw [if_pos hc]; exact h1, h2⟩
  · have h16 := hd.ok.cnt z hz
    refine (append_full D v b z s w hd hz hs (by omega)).mono ?_
    rintro e w' ⟨rfl, rfl⟩
    exact ⟨⟨_, _, rfl⟩, by unfold Dv.appF; rw [if_neg hc]; exact hd, Fr.refl _ _ _⟩
theorem wrap64_lo (n : Int) : -9223372036854775808 ≤ wrap64 n := by unfold wrap64; omega
theorem wrap64_hi (n : Int) : wrap64 n ≤ 9223372036854775807 := by unfold wrap64; omega
theorem i64_wrap (n : Int) : IntKind.i64.wrap n = wrap64 n := by
  unfold wrap64
  simp only [IntKind.wrap, IntKind.bits, IntKind.signed]
  simp
  split <;> omega
theorem i64_lo (n : Int) : -9223372036854775808 ≤ IntKind.i64.wrap n := by rw [i64_wrap]; exact wrap64_lo n
theorem i64_hi (n : Int) : IntKind.i64.wrap n ≤ 9223372036854775807 := by rw [i64_wrap]; exact wrap64_hi n
theorem SlA.sl {w w' : World} {N b : Nat} {v : Value} {n : Nat} {f : Nat → Value} (h : SlA w N v n f) (hs : Since w w') (hb : N ≤ b) : Sl w' b v n f := by
  obtain ⟨a, c, hv, h⟩ := h
  refine ⟨a, c, hv, fun hn => ?_⟩
  obtain ⟨k, o, ha, hk, hc⟩ := h hn
  exact ⟨k, o, ha, by omega, fun j hj => (hs.cell (p := ⟨k, o + j, none⟩) (World.block_lt_of_cell? w _ (hc j hj))).trans (hc j hj)⟩

set_option maxRecDepth 100000 in
set_option maxHeartbeats 2000000 in
theorem restsF_any (D : Dv) (v : Value) (b B1 B2 n na : Nat) (lv av : Value) (l : Nat → ByteArray) (at_ : Nat → Int) (w : World) (hd : Dev w b D v) 
    (hb1 : w.cell? ⟨B1, 0, none⟩ = some (.pointer (some ⟨b, 0, none⟩))) (h1b : B1 ≠ b) (hb2 : w.cell? ⟨B2, 0, none⟩ = some av) (h2b : B2 ≠ b)
    (hl : Sl w b lv n (fun j => .string (l j))) (ha : Sl w b av na (fun j => .int .i64 (at_ j))) (hna : 0 < na) (hna2 : na ≤ 20) (hn : n ≤ 20) (hls : ∀ j, j < n → (l j).size ≤ 80) (hf : D.fused = false) :
    Calls Tryd.prog 59 #[lv, .pointer (some ⟨B1, 0, none⟩), .pointer (some ⟨B2, 0, none⟩)] w fun e w' => e = .returned (.tuple #[]) ∧ ∃ D', Dev w' b D' v ∧ D'.fused = false ∧ Fr b none w w' := by
  obtain ⟨la, lc, rfl, hl'⟩ := hl
  obtain ⟨aa, ac, rfl, ha'⟩ := ha
  obtain ⟨ak, ao, rfl, hakb, hac⟩ := ha' hna
  have HL : Hid (Sl w b (.slice la n lc) n (fun j => .string (l j))) := ⟨la, lc, rfl, hl'⟩
  have HA : Hid (∀ j, j < na → w.cell? ⟨ak, ao + j, none⟩ = some (.int .i64 (at_ j))) := hac
  have HB1 : Hid (w.cell? ⟨B1, 0, none⟩ = some (.pointer (some ⟨b, 0, none⟩))) := hb1
  have HB2 : Hid (w.cell? ⟨B2, 0, none⟩ = some (.slice (some ⟨ak, ao, none⟩) na ac)) := hb2
  have HD : Hid (Dev w b D v) := hd
  have HLS : Hid (∀ j, j < n → (l j).size ≤ 80) := hls
  clear hl' ha' hac hb1 hb2 hd hls
  go_enter Tryd.func59, Tryd.ntmps59
  go_wp2_with fail
  go_loopw [4] (fun i wr => ∃ (k : Nat) (D' : Dv), k ≤ n ∧ i = .int .i64 k ∧ Dev wr b D' v ∧ D'.fused = false ∧ Fr b none w wr) (fun i _ => n - (intOf i).toNat)
  case atStart => exact ⟨0, D, by omega, rfl, HD.out, hf, Fr.refl _ _ _⟩
  case round =>
    obtain ⟨k, D', hk, rfl, hd', hfu, hfr⟩ := hrel
    have HD' : Hid (Dev wr b D' v) := hd'
    have HFR : Hid (Fr b none w wr) := hfr
    have HFU : Hid (D'.fused = false) := hfu
    clear hd' hfr hfu
    by_cases hlt : k < n
    · have hlt2 : (k : Int) < n := by omega
      obtain ⟨la', lc', hel, hl2⟩ := HL.out
      injection hel with h1 _ h3
      subst h1
      obtain ⟨lk, lo, rfl, hlkb, hlc⟩ := hl2 (by omega)
      have fb : ∀ (p : Addr) (x : Value), w.cell? p = some x → p.block ≠ b → wr.cell? p = some x := fun p x hx hp => (HFR.out.cell (World.block_lt_of_cell? w p hx) hp (by simp)).trans hx
      have q1 := fb _ _ HB1.out h1b
      have q2 := fb _ _ HB2.out h2b
      have hkm : k % na < na := Nat.mod_lt _ hna
      have q3 := fb _ _ (HA.out (k % na) hkm) hakb
      have q4 := fb _ _ (hlc k hlt) hlkb
      have hsz := HLS.out k hlt
      have e1 : (k : Int) % (na : Int) = ((k % na : Nat) : Int) := by omega
      have g1 : (0 : Int) ≤ (k : Int) % (na : Int) := by omega
      have g2 : (k : Int) % (na : Int) < na := by omega
      have g3 : ((k : Int) % (na : Int)).toNat = k % na := by omega
      have hna3 : ¬ na = 0 := by omega
      have tm : (k : Int).tmod (na : Int) = (k : Int) % (na : Int) := Int.tmod_eq_emod_of_nonneg (by omega)
      have hna4 : (0 : Int) < na := by omega
      clear fb hlc hl2 h3 e1
      go_wp2_with fail
      have hS4 : (fun w' : World => w'.cell? ⟨B1, 0, none⟩ = some (.pointer (some ⟨b, 0, none⟩)) ∧ w'.cell? ⟨B2, 0, none⟩ = some (.slice (some ⟨ak, ao, none⟩) na ac) ∧ w'.cell? ⟨ak, ao + k % na, none⟩ = some (.int .i64 (at_ (k % na))) ∧ w'.cell? ⟨lk, lo + k, none⟩ = some (.string (l k))) wr.drew := ⟨q1, q2, q3, q4⟩
      refine wp_region_held (S := fun w' : World => w'.cell? ⟨B1, 0, none⟩ = some (.pointer (some ⟨b, 0, none⟩)) ∧ w'.cell? ⟨B2, 0, none⟩ = some (.slice (some ⟨ak, ao, none⟩) na ac) ∧ w'.cell? ⟨ak, ao + k % na, none⟩ = some (.int .i64 (at_ (k % na))) ∧ w'.cell? ⟨lk, lo + k, none⟩ = some (.string (l k))) (by kernel_rfl) ?_
      refine wpAnyH_take (i := 2) (v := ?v2) rfl (by kernel_rfl) (by kernel_rfl) (by kernel_rfl) (fun _ _ _ h => h) (Or.inl ⟨by rfl, ?hy2⟩) hS4 ?r2
      case hy2 => (intro w _; go_simp; try with_reducible rfl)
      simp only [Act.put, List.setIfInBounds_toArray, List.set_cons_zero, List.set_cons_succ]
      refine wpAnyH_take (i := 8) (v := ?v8) rfl (by kernel_rfl) (by kernel_rfl) (by kernel_rfl) (fun _ _ _ h => h) (Or.inl ⟨by rfl, ?hy8⟩) hS4 ?r8
      case hy8 => (intro w _; go_simp; try with_reducible rfl)
      simp only [Act.put, List.setIfInBounds_toArray, List.set_cons_zero, List.set_cons_succ]
      refine wpAnyH_take (i := 11) (v := ?v11) rfl (by kernel_rfl) (by kernel_rfl) (by kernel_rfl) (fun _ _ _ h => h) (Or.inl ⟨by rfl, ?hy11⟩) hS4 ?r11
      case hy11 => (intro w _; go_simp; try with_reducible rfl)
      simp only [Act.put, List.setIfInBounds_toArray, List.set_cons_zero, List.set_cons_succ]
      refine wpAnyH_take (i := 12) (v := ?v12) rfl (by kernel_rfl) (by kernel_rfl) (by kernel_rfl) (fun _ _ _ h => h) (Or.inl ⟨by rfl, ?hy12⟩) hS4 ?r12
      case hy12 => (intro w _; go_simp; try with_reducible rfl)
      simp only [Act.put, List.setIfInBounds_toArray, List.set_cons_zero, List.set_cons_succ]
      refine wpAnyH_take (i := 13) (v := ?v13) rfl (by kernel_rfl) (by kernel_rfl) (by kernel_rfl) (fun _ _ _ h => h) (Or.inl ⟨by rfl, ?hy13⟩) hS4 ?r13
      case hy13 => (intro w _; go_simp; try with_reducible rfl)
      simp only [Act.put, List.setIfInBounds_toArray, List.set_cons_zero, List.set_cons_succ]
      refine wpAnyH_take (i := 0) (v := ?v0) rfl (by kernel_rfl) (by kernel_rfl) (by kernel_rfl) (fun _ _ _ h => h) (Or.inl ⟨by rfl, ?hy0⟩) hS4 ?r0
      case hy0 => (intro w hSw; obtain ⟨s0, s1, s2, s3⟩ := hSw; go_simp; try with_reducible rfl)
      simp only [Act.put, List.setIfInBounds_toArray, List.set_cons_zero, List.set_cons_succ]
      refine wpAnyH_take (i := 1) (v := ?v1) rfl (by kernel_rfl) (by kernel_rfl) (by kernel_rfl) (fun _ _ _ h => h) (Or.inl ⟨by rfl, ?hy1⟩) hS4 ?r1
      case hy1 => (intro w hSw; obtain ⟨s0, s1, s2, s3⟩ := hSw; go_simp; try with_reducible rfl)
      simp only [Act.put, List.setIfInBounds_toArray, List.set_cons_zero, List.set_cons_succ]
      refine wpAnyH_take (i := 3) (v := ?v3) rfl (by kernel_rfl) (by kernel_rfl) (by kernel_rfl) (fun _ _ _ h => h) (Or.inl ⟨by rfl, ?hy3⟩) hS4 ?r3
      case hy3 => (intro w hSw; obtain ⟨s0, s1, s2, s3⟩ := hSw; go_simp; try with_reducible rfl)
      simp only [Act.put, List.setIfInBounds_toArray, List.set_cons_zero, List.set_cons_succ]
      refine wpAnyH_take (i := 4) (v := ?v4) rfl (by kernel_rfl) (by kernel_rfl) (by kernel_rfl) (fun _ _ _ h => h) (Or.inl ⟨by rfl, ?hy4⟩) hS4 ?r4
      case hy4 => (intro w _; go_simp; try with_reducible rfl)
      simp only [Act.put, List.setIfInBounds_toArray, List.set_cons_zero, List.set_cons_succ]
      refine wpAnyH_take (i := 5) (v := ?v5) rfl (by kernel_rfl) (by kernel_rfl) (by kernel_rfl) (fun _ _ _ h => h) (Or.inl ⟨by rfl, ?hy5⟩) hS4 ?r5
      case hy5 => (intro w _; go_simp; try with_reducible rfl)
      simp only [Act.put, List.setIfInBounds_toArray, List.set_cons_zero, List.set_cons_succ]
      refine wpAnyH_take (i := 6) (v := ?v6) rfl (by kernel_rfl) (by kernel_rfl) (by kernel_rfl) (fun _ _ _ h => h) (Or.inl ⟨by rfl, ?hy6⟩) hS4 ?r6
      case hy6 => (intro w _; go_simp; try with_reducible rfl)
      simp only [Act.put, List.setIfInBounds_toArray, List.set_cons_zero, List.set_cons_succ]
      refine wpAnyH_take (i := 7) (v := ?v7) rfl (by kernel_rfl) (by kernel_rfl) (by kernel_rfl) (fun _ _ _ h => h) (Or.inl ⟨by rfl, ?hy7⟩) hS4 ?r7
      case hy7 => (intro w hSw; obtain ⟨s0, s1, s2, s3⟩ := hSw; go_simp; try with_reducible rfl)
      simp only [Act.put, List.setIfInBounds_toArray, List.set_cons_zero, List.set_cons_succ]
      refine wpAnyH_take (i := 9) (v := ?v9) rfl (by kernel_rfl) (by kernel_rfl) (by kernel_rfl) (fun _ _ _ h => h) (Or.inl ⟨by rfl, ?hy9⟩) hS4 ?r9
      case hy9 => (intro w _; go_simp; try with_reducible rfl)
      simp only [Act.put, List.setIfInBounds_toArray, List.set_cons_zero, List.set_cons_succ]
      refine wpAnyH_take (i := 14) (v := ?v14) rfl (by kernel_rfl) (by kernel_rfl) (by kernel_rfl) (fun _ _ _ h => h) (Or.inl ⟨by rfl, ?hy14⟩) hS4 ?r14
      case hy14 => (intro w hSw; obtain ⟨s0, s1, s2, s3⟩ := hSw; go_simp; try with_reducible rfl)
      simp only [Act.put, List.setIfInBounds_toArray, List.set_cons_zero, List.set_cons_succ]
      refine wpAnyH_ready (rs := [10]) (by kernel_rfl) (by simp) (AllReadyH.cons rfl (fun K hK => ?_) AllReadyH.nil)
      go_simp
      refine (pick_any _ _ (i64_lo _) (i64_hi _)).mono ?_
      rintro e w' ⟨rfl, rfl⟩
      simp only []
      refine hK.out _ _ hS4 (fun _ => ?_)
      clear hK K
      (try simp only [Act.put, List.setIfInBounds_toArray, List.set_cons_zero, List.set_cons_succ])
      refine wpAnyH_ready (rs := [15]) (by kernel_rfl) (by simp) (AllReadyH.cons rfl (fun K hK => ?_) AllReadyH.nil)
      go_simp
      refine (append_off D' v b _ (l k) _ (HD'.out.since (Since.refl _).drew) (pk_lt _) (by omega) HFU.out).mono ?_
      rintro e w2 ⟨⟨x, y, rfl⟩, hd2, hf2⟩
      simp only []
      have hf3 : Fr b none wr w2 := (Fr.of_since (Since.refl _).drew).trans' hf2
      have fb2 : ∀ (p : Addr) (x : Value), wr.cell? p = some x → p.block ≠ b → w2.cell? p = some x := fun p x hx hp => (hf3.cell (World.block_lt_of_cell? wr p hx) hp (by simp)).trans hx
      refine hK.out _ _ ⟨fb2 _ _ q1 h1b, fb2 _ _ q2 h2b, fb2 _ _ q3 hakb, fb2 _ _ q4 hlkb⟩ (fun _ => ?_)
      clear hK K
      (try simp only [Act.put, List.setIfInBounds_toArray, List.set_cons_zero, List.set_cons_succ])
      refine wpAnyH_done (by kernel_rfl) ?_ _
      have HD2 : Hid (Dev w2 b (D'.appF (pk (IntKind.i64.wrap (at_ (k % na) + ↑k))) (l k)) v) := hd2
      have HF3 : Hid (Fr b none wr w2) := hf3
      obtain ⟨a1, a2, a3, a4⟩ := appF_facts D' (pk (IntKind.i64.wrap (at_ (k % na) + ↑k))) (l k)
      generalize hE : D'.appF (pk (IntKind.i64.wrap (at_ (k % na) + ↑k))) (l k) = E at *
      have HA1 : Hid (E.fused = D'.fused) := a2
      clear hd2 hf2 hf3 fb2 q1 q2 q3 q4 a1 a2 a3 a4 hE tm g1 g2 g3 hna3 hS4
      go_wp2_with fail
      go_roundw
      case rel => exact ⟨k + 1, _, by omega, by go_num, HD2.out, by rw [HA1.out]; exact HFU.out, HFR.out.trans' HF3.out⟩
      case measure => simp [intOf]; omega
    · have hke : k = n := by omega
      subst hke
      go_wp2_with fail
      go_end0
      exact ⟨rfl, D', HD'.out, HFU.out, HFR.out⟩
end Go.Proofs.YtjfhggcjdckfgaaDoor
