/- ZoneSure's put. -/
import Derived.Test.YtbehjklelnnooaaH2
import Derived.Deep.RegionHeld3
namespace Go.Proofs.Ytbehjklelnnooaa
set_option linter.unusedSimpArgs false
set_option linter.unusedVariables false
open Go.RowKit

/-- a block more, where there is room -/
def Dv.appF (D : Dv) (z : Nat) (s : ByteArray) : Dv := if D.cnt z < 16 then D.app z s else D
theorem burnt_off {D : Dv} (h : D.fused = false) : D.burnt = D := by unfold Dv.burnt; rw [h]; rfl
theorem may_off {D : Dv} (h : D.fused = false) : D.may = true := by unfold Dv.may; rw [h]; rfl
theorem appF_facts (D : Dv) (z : Nat) (s : ByteArray) : (D.appF z s).sure = D.sure ∧ (D.appF z s).fused = D.fused ∧ (D.appF z s).ws = D.ws ∧ (D.appF z s).slot = D.slot := by
  unfold Dv.appF
  split <;> exact ⟨rfl, rfl, rfl, rfl⟩
theorem append_off (D : Dv) (v : Value) (b z : Nat) (s : ByteArray) (w : World) (hd : Dev w b D v) (hz : z < 8) (hs : s.size ≤ 128) (hf : D.fused = false) :
    Calls Try.prog 12 #[.pointer (some ⟨b, 0, none⟩), .int .i64 z, .string s] w fun e w' => (∃ x y, e = .returned (.tuple #[.int .i64 x, y])) ∧ Dev w' b (D.appF z s) v ∧ Fr b none w w' := by
  by_cases hc : D.cnt z < 16
  · refine (append_any D v b z s w hd hz hs hc (may_off hf)).mono ?_
    rintro e w' ⟨rfl, h1, h2⟩
    rw [burnt_off hf] at h1
    exact ⟨⟨_, _, rfl⟩, by unfold Dv.appF; rw [if_pos hc]; exact h1, h2⟩
  · have h16 := hd.ok.cnt z hz
    refine (append_full D v b z s w hd hz hs (by omega)).mono ?_
    rintro e w' ⟨rfl, rfl⟩
    exact ⟨⟨_, _, rfl⟩, by unfold Dv.appF; rw [if_neg hc]; exact hd, Fr.refl _ _ _⟩
theorem wrap64_lo (n : Int) : -9223372036854775808 ≤ wrap64 n := by unfold wrap64; omega
theorem wrap64_hi (n : Int) : wrap64 n ≤ 9223372036854775807 := by unfold wrap64; omega
theorem i64_wrap (n : Int) : IntKind.i64.wrap n = wrap64 n := by
  unfold wrap64
  simp only [IntKind.wrap, IntKind.bits, IntKind.signed]
  simp
  split <;> omega
theorem i64_lo (n : Int) : -9223372036854775808 ≤ IntKind.i64.wrap n := by rw [i64_wrap]; exact wrap64_lo n
theorem i64_hi (n : Int) : IntKind.i64.wrap n ≤ 9223372036854775807 := by rw [i64_wrap]; exact wrap64_hi n
theorem put_off (D : Dv) (v : Value) (b k : Nat) (s : ByteArray) (w : World) (hd : Dev w b D v) (hk : k < 2) (hs : s.size ≤ 500) (hf : D.fused = false) (hn : D.ws.length < 1000) :
    Calls Try.prog 13 #[.pointer (some ⟨b, 0, none⟩), .int .i64 k, .string s] w fun e w' => e = .returned .nilIface ∧ ∃ v', Dev w' b (D.wrote k s) v' ∧ Fr b v.ownBlock w w' ∧ Nx w v.ownBlock v'.ownBlock := by
  have := put_any D v b k s w hd hk hs (may_off hf) hn
  rw [burnt_off hf] at this
  exact this

set_option maxRecDepth 100000 in
set_option maxHeartbeats 2000000 in
theorem sureF_any (D : Dv) (v : Value) (b B1 B2 n na : Nat) (lv av : Value) (l : Nat → ByteArray) (at_ : Nat → Int) (w : World) (hd : Dev w b D v) (hv : v.ownBlock = none)
    (hb1 : w.cell? ⟨B1, 0, none⟩ = some (.pointer (some ⟨b, 0, none⟩))) (h1b : B1 ≠ b) (hb2 : w.cell? ⟨B2, 0, none⟩ = some av) (h2b : B2 ≠ b)
    (hl : Sl w b lv n (fun j => .string (l j))) (ha : Sl w b av na (fun j => .int .i64 (at_ j))) (hna : 0 < na) (hna2 : na ≤ 20) (hn : n ≤ 20) (hls : ∀ j, j < n → (l j).size ≤ 80) (hf : D.fused = false) (hws : D.ws.length ≤ 100) :
    Calls Try.prog 11 #[lv, .pointer (some ⟨B1, 0, none⟩), .pointer (some ⟨B2, 0, none⟩)] w fun e w' => e = .returned (.tuple #[]) ∧ ∃ D' v', Dev w' b D' v' ∧ D'.sure = D.sure ∧ D'.fused = false ∧ D'.ws.length ≤ D.ws.length + n ∧ Fr b none w w' := by
  obtain ⟨la, lc, rfl, hl'⟩ := hl
  obtain ⟨aa, ac, rfl, ha'⟩ := ha
  obtain ⟨ak, ao, rfl, hakb, hac⟩ := ha' hna
  have HL : Hid (Sl w b (.slice la n lc) n (fun j => .string (l j))) := ⟨la, lc, rfl, hl'⟩
  have HA : Hid (∀ j, j < na → w.cell? ⟨ak, ao + j, none⟩ = some (.int .i64 (at_ j))) := hac
  have HB1 : Hid (w.cell? ⟨B1, 0, none⟩ = some (.pointer (some ⟨b, 0, none⟩))) := hb1
  have HB2 : Hid (w.cell? ⟨B2, 0, none⟩ = some (.slice (some ⟨ak, ao, none⟩) na ac)) := hb2
  have HD : Hid (Dev w b D v) := hd
  have HLS : Hid (∀ j, j < n → (l j).size ≤ 80) := hls
  clear hl' ha' hac hb1 hb2 hd hls
  go_enter Try.func11, Try.ntmps11
  go_wp2_with fail
  go_loopw [4] (fun i wr => ∃ (k : Nat) (D' : Dv) (v' : Value), k ≤ n ∧ i = .int .i64 k ∧ Dev wr b D' v' ∧ D'.sure = D.sure ∧ D'.fused = false ∧ D'.ws.length ≤ D.ws.length + k ∧ Fr b none w wr ∧ Nx w none v'.ownBlock) (fun i _ => n - (intOf i).toNat)
  case atStart => exact ⟨0, D, v, by omega, rfl, HD.out, rfl, hf, by omega, Fr.refl _ _ _, by rw [hv]; exact Nx.refl _ _⟩
  case round =>
    obtain ⟨k, D', v', hk, rfl, hd', hsu, hfu, hw', hfr, hnx⟩ := hrel
    have HD' : Hid (Dev wr b D' v') := hd'
    have HFR : Hid (Fr b none w wr) := hfr
    have HNX : Hid (Nx w none v'.ownBlock) := hnx
    have HSU : Hid (D'.sure = D.sure) := hsu
    have HFU : Hid (D'.fused = false) := hfu
    clear hd' hfr hnx hsu hfu
    by_cases hlt : k < n
    · have hlt2 : (k : Int) < n := by omega
      obtain ⟨la', lc', hel, hl2⟩ := HL.out
      injection hel with h1 _ h3
      subst h1
      obtain ⟨lk, lo, rfl, hlkb, hlc⟩ := hl2 (by omega)
      have fb : ∀ (p : Addr) (x : Value), w.cell? p = some x → p.block ≠ b → wr.cell? p = some x := fun p x hx hp => (HFR.out.cell (World.block_lt_of_cell? w p hx) hp (by simp)).trans hx
      have q1 := fb _ _ HB1.out h1b
      have q2 := fb _ _ HB2.out h2b
      have hkm : k % na < na := Nat.mod_lt _ hna
      have q3 := fb _ _ (HA.out (k % na) hkm) hakb
      have q4 := fb _ _ (hlc k hlt) hlkb
      have hsz := HLS.out k hlt
      have e1 : (k : Int) % (na : Int) = ((k % na : Nat) : Int) := by omega
      have g1 : (0 : Int) ≤ (k : Int) % (na : Int) := by omega
      have g2 : (k : Int) % (na : Int) < na := by omega
      have g3 : ((k : Int) % (na : Int)).toNat = k % na := by omega
      have hna3 : ¬ na = 0 := by omega
      have tm : (k : Int).tmod (na : Int) = (k : Int) % (na : Int) := Int.tmod_eq_emod_of_nonneg (by omega)
      have hna4 : (0 : Int) < na := by omega
      clear fb hlc hl2 h3 e1
      go_wp2_with fail
      have hS4 : (fun w' : World => w'.cell? ⟨B1, 0, none⟩ = some (.pointer (some ⟨b, 0, none⟩)) ∧ w'.cell? ⟨B2, 0, none⟩ = some (.slice (some ⟨ak, ao, none⟩) na ac) ∧ w'.cell? ⟨ak, ao + k % na, none⟩ = some (.int .i64 (at_ (k % na))) ∧ w'.cell? ⟨lk, lo + k, none⟩ = some (.string (l k))) wr.drew := ⟨q1, q2, q3, q4⟩
      refine wp_region_held (S := fun w' : World => w'.cell? ⟨B1, 0, none⟩ = some (.pointer (some ⟨b, 0, none⟩)) ∧ w'.cell? ⟨B2, 0, none⟩ = some (.slice (some ⟨ak, ao, none⟩) na ac) ∧ w'.cell? ⟨ak, ao + k % na, none⟩ = some (.int .i64 (at_ (k % na))) ∧ w'.cell? ⟨lk, lo + k, none⟩ = some (.string (l k))) (by kernel_rfl) ?_
      refine wpAnyH_take (i := 2) (v := ?v2) rfl (by kernel_rfl) (by kernel_rfl) (by kernel_rfl) (fun _ _ _ h => h) (Or.inl ⟨by rfl, ?hy2⟩) hS4 ?r2
      case hy2 => (intro w _; go_simp; try with_reducible rfl)
      simp only [Act.put, List.setIfInBounds_toArray, List.set_cons_zero, List.set_cons_succ]
      refine wpAnyH_take (i := 8) (v := ?v8) rfl (by kernel_rfl) (by kernel_rfl) (by kernel_rfl) (fun _ _ _ h => h) (Or.inl ⟨by rfl, ?hy8⟩) hS4 ?r8
      case hy8 => (intro w _; go_simp; try with_reducible rfl)
      simp only [Act.put, List.setIfInBounds_toArray, List.set_cons_zero, List.set_cons_succ]
      refine wpAnyH_take (i := 11) (v := ?v11) rfl (by kernel_rfl) (by kernel_rfl) (by kernel_rfl) (fun _ _ _ h => h) (Or.inl ⟨by rfl, ?hy11⟩) hS4 ?r11
      case hy11 => (intro w _; go_simp; try with_reducible rfl)
      simp only [Act.put, List.setIfInBounds_toArray, List.set_cons_zero, List.set_cons_succ]
      refine wpAnyH_take (i := 12) (v := ?v12) rfl (by kernel_rfl) (by kernel_rfl) (by kernel_rfl) (fun _ _ _ h => h) (Or.inl ⟨by rfl, ?hy12⟩) hS4 ?r12
      case hy12 => (intro w _; go_simp; try with_reducible rfl)
      simp only [Act.put, List.setIfInBounds_toArray, List.set_cons_zero, List.set_cons_succ]
      refine wpAnyH_take (i := 13) (v := ?v13) rfl (by kernel_rfl) (by kernel_rfl) (by kernel_rfl) (fun _ _ _ h => h) (Or.inl ⟨by rfl, ?hy13⟩) hS4 ?r13
      case hy13 => (intro w _; go_simp; try with_reducible rfl)
      simp only [Act.put, List.setIfInBounds_toArray, List.set_cons_zero, List.set_cons_succ]
      refine wpAnyH_take (i := 0) (v := ?v0) rfl (by kernel_rfl) (by kernel_rfl) (by kernel_rfl) (fun _ _ _ h => h) (Or.inl ⟨by rfl, ?hy0⟩) hS4 ?r0
      case hy0 => (intro w hSw; obtain ⟨s0, s1, s2, s3⟩ := hSw; go_simp; try with_reducible rfl)
      simp only [Act.put, List.setIfInBounds_toArray, List.set_cons_zero, List.set_cons_succ]
      refine wpAnyH_take (i := 1) (v := ?v1) rfl (by kernel_rfl) (by kernel_rfl) (by kernel_rfl) (fun _ _ _ h => h) (Or.inl ⟨by rfl, ?hy1⟩) hS4 ?r1
      case hy1 => (intro w hSw; obtain ⟨s0, s1, s2, s3⟩ := hSw; go_simp; try with_reducible rfl)
      simp only [Act.put, List.setIfInBounds_toArray, List.set_cons_zero, List.set_cons_succ]
      refine wpAnyH_take (i := 3) (v := ?v3) rfl (by kernel_rfl) (by kernel_rfl) (by kernel_rfl) (fun _ _ _ h => h) (Or.inl ⟨by rfl, ?hy3⟩) hS4 ?r3
      case hy3 => (intro w hSw; obtain ⟨s0, s1, s2, s3⟩ := hSw; go_simp; try with_reducible rfl)
      simp only [Act.put, List.setIfInBounds_toArray, List.set_cons_zero, List.set_cons_succ]
      refine wpAnyH_take (i := 4) (v := ?v4) rfl (by kernel_rfl) (by kernel_rfl) (by kernel_rfl) (fun _ _ _ h => h) (Or.inl ⟨by rfl, ?hy4⟩) hS4 ?r4
      case hy4 => (intro w _; go_simp; try with_reducible rfl)
      simp only [Act.put, List.setIfInBounds_toArray, List.set_cons_zero, List.set_cons_succ]
      refine wpAnyH_take (i := 5) (v := ?v5) rfl (by kernel_rfl) (by kernel_rfl) (by kernel_rfl) (fun _ _ _ h => h) (Or.inl ⟨by rfl, ?hy5⟩) hS4 ?r5
      case hy5 => (intro w _; go_simp; try with_reducible rfl)
      simp only [Act.put, List.setIfInBounds_toArray, List.set_cons_zero, List.set_cons_succ]
      refine wpAnyH_take (i := 6) (v := ?v6) rfl (by kernel_rfl) (by kernel_rfl) (by kernel_rfl) (fun _ _ _ h => h) (Or.inl ⟨by rfl, ?hy6⟩) hS4 ?r6
      case hy6 => (intro w _; go_simp; try with_reducible rfl)
      simp only [Act.put, List.setIfInBounds_toArray, List.set_cons_zero, List.set_cons_succ]
      refine wpAnyH_take (i := 7) (v := ?v7) rfl (by kernel_rfl) (by kernel_rfl) (by kernel_rfl) (fun _ _ _ h => h) (Or.inl ⟨by rfl, ?hy7⟩) hS4 ?r7
      case hy7 => (intro w hSw; obtain ⟨s0, s1, s2, s3⟩ := hSw; go_simp; try with_reducible rfl)
      simp only [Act.put, List.setIfInBounds_toArray, List.set_cons_zero, List.set_cons_succ]
      refine wpAnyH_take (i := 9) (v := ?v9) rfl (by kernel_rfl) (by kernel_rfl) (by kernel_rfl) (fun _ _ _ h => h) (Or.inl ⟨by rfl, ?hy9⟩) hS4 ?r9
      case hy9 => (intro w _; go_simp; try with_reducible rfl)
      simp only [Act.put, List.setIfInBounds_toArray, List.set_cons_zero, List.set_cons_succ]
      refine wpAnyH_take (i := 14) (v := ?v14) rfl (by kernel_rfl) (by kernel_rfl) (by kernel_rfl) (fun _ _ _ h => h) (Or.inl ⟨by rfl, ?hy14⟩) hS4 ?r14
      case hy14 => (intro w hSw; obtain ⟨s0, s1, s2, s3⟩ := hSw; go_simp; try with_reducible rfl)
      simp only [Act.put, List.setIfInBounds_toArray, List.set_cons_zero, List.set_cons_succ]
      refine wpAnyH_ready (rs := [10]) (by kernel_rfl) (by simp) (AllReadyH.cons rfl (fun K hK => ?_) AllReadyH.nil)
      go_simp
      refine (pick_any _ _ (i64_lo _) (i64_hi _)).mono ?_
      rintro e w' ⟨rfl, rfl⟩
      simp only []
      refine hK.out _ _ hS4 (fun _ => ?_)
      clear hK K
      (try simp only [Act.put, List.setIfInBounds_toArray, List.set_cons_zero, List.set_cons_succ])
      refine wpAnyH_ready (rs := [15]) (by kernel_rfl) (by simp) (AllReadyH.cons rfl (fun K hK => ?_) AllReadyH.nil)
      go_simp
      refine (append_off D' v' b _ (l k) _ (HD'.out.since (Since.refl _).drew) (pk_lt _) (by omega) HFU.out).mono ?_
      rintro e w2 ⟨⟨x, y, rfl⟩, hd2, hf2⟩
      simp only []
      have hf3 : Fr b none wr w2 := (Fr.of_since (Since.refl _).drew).trans' hf2
      have fb2 : ∀ (p : Addr) (x : Value), wr.cell? p = some x → p.block ≠ b → w2.cell? p = some x := fun p x hx hp => (hf3.cell (World.block_lt_of_cell? wr p hx) hp (by simp)).trans hx
      refine hK.out _ _ ⟨fb2 _ _ q1 h1b, fb2 _ _ q2 h2b, fb2 _ _ q3 hakb, fb2 _ _ q4 hlkb⟩ (fun _ => ?_)
      clear hK K
      (try simp only [Act.put, List.setIfInBounds_toArray, List.set_cons_zero, List.set_cons_succ])
      refine wpAnyH_done (by kernel_rfl) ?_ _
      have r1 := fb2 _ _ q1 h1b
      have r4 := fb2 _ _ q4 hlkb
      have HD2 : Hid (Dev w2 b (D'.appF (pk (IntKind.i64.wrap (at_ (k % na) + ↑k))) (l k)) v') := hd2
      have HF3 : Hid (Fr b none wr w2) := hf3
      obtain ⟨a1, a2, a3, a4⟩ := appF_facts D' (pk (IntKind.i64.wrap (at_ (k % na) + ↑k))) (l k)
      generalize hE : D'.appF (pk (IntKind.i64.wrap (at_ (k % na) + ↑k))) (l k) = E at *
      have HA1 : Hid (E.sure = D'.sure ∧ E.fused = D'.fused ∧ E.ws = D'.ws) := ⟨a1, a2, a3⟩
      have tm2 : (k : Int).tmod 2 = (k : Int) % 2 := Int.tmod_eq_emod_of_nonneg (by omega)
      have e2 : (k : Int) % 2 = ((k % 2 : Nat) : Int) := by omega
      have E2 : Hid ((k : Int) % 2 = ((k % 2 : Nat) : Int)) := e2
      clear hd2 hf2 hf3 fb2 q1 q2 q3 q4 a1 a2 a3 a4 hE e2 tm g1 g2 g3 hna3 hS4
      go_wp2_with fail
      have hS4 : (fun w' : World => w'.cell? ⟨B1, 0, none⟩ = some (.pointer (some ⟨b, 0, none⟩)) ∧ w'.cell? ⟨lk, lo + k, none⟩ = some (.string (l k))) w2.drew := ⟨r1, r4⟩
      refine wp_region_held (S := fun w' : World => w'.cell? ⟨B1, 0, none⟩ = some (.pointer (some ⟨b, 0, none⟩)) ∧ w'.cell? ⟨lk, lo + k, none⟩ = some (.string (l k))) (by kernel_rfl) ?_
      refine wpAnyH_take (i := 1) (v := ?vb1) rfl (by kernel_rfl) (by kernel_rfl) (by kernel_rfl) (fun _ _ _ h => h) (Or.inl ⟨by rfl, ?hyb1⟩) hS4 ?rb1
      case hyb1 => (intro w _; go_simp; try with_reducible rfl)
      simp only [Act.put, List.setIfInBounds_toArray, List.set_cons_zero, List.set_cons_succ]
      refine wpAnyH_take (i := 3) (v := ?vb3) rfl (by kernel_rfl) (by kernel_rfl) (by kernel_rfl) (fun _ _ _ h => h) (Or.inl ⟨by rfl, ?hyb3⟩) hS4 ?rb3
      case hyb3 => (intro w _; go_simp; try with_reducible rfl)
      simp only [Act.put, List.setIfInBounds_toArray, List.set_cons_zero, List.set_cons_succ]
      refine wpAnyH_take (i := 4) (v := ?vb4) rfl (by kernel_rfl) (by kernel_rfl) (by kernel_rfl) (fun _ _ _ h => h) (Or.inl ⟨by rfl, ?hyb4⟩) hS4 ?rb4
      case hyb4 => (intro w _; go_simp; try with_reducible rfl)
      simp only [Act.put, List.setIfInBounds_toArray, List.set_cons_zero, List.set_cons_succ]
      refine wpAnyH_take (i := 5) (v := ?vb5) rfl (by kernel_rfl) (by kernel_rfl) (by kernel_rfl) (fun _ _ _ h => h) (Or.inl ⟨by rfl, ?hyb5⟩) hS4 ?rb5
      case hyb5 => (intro w _; go_simp; try with_reducible rfl)
      simp only [Act.put, List.setIfInBounds_toArray, List.set_cons_zero, List.set_cons_succ]
      refine wpAnyH_take (i := 0) (v := ?vb0) rfl (by kernel_rfl) (by kernel_rfl) (by kernel_rfl) (fun _ _ _ h => h) (Or.inl ⟨by rfl, ?hyb0⟩) hS4 ?rb0
      case hyb0 => (intro w hSw; obtain ⟨s0, s1⟩ := hSw; go_simp; try with_reducible rfl)
      simp only [Act.put, List.setIfInBounds_toArray, List.set_cons_zero, List.set_cons_succ]
      refine wpAnyH_take (i := 2) (v := ?vb2) rfl (by kernel_rfl) (by kernel_rfl) (by kernel_rfl) (fun _ _ _ h => h) (Or.inl ⟨by rfl, ?hyb2⟩) hS4 ?rb2
      case hyb2 => (intro w _; go_simp; try with_reducible rfl)
      simp only [Act.put, List.setIfInBounds_toArray, List.set_cons_zero, List.set_cons_succ]
      refine wpAnyH_take (i := 6) (v := ?vb6) rfl (by kernel_rfl) (by kernel_rfl) (by kernel_rfl) (fun _ _ _ h => h) (Or.inl ⟨by rfl, ?hyb6⟩) hS4 ?rb6
      case hyb6 => (intro w hSw; obtain ⟨s0, s1⟩ := hSw; go_simp; try with_reducible rfl)
      simp only [Act.put, List.setIfInBounds_toArray, List.set_cons_zero, List.set_cons_succ]
      refine wpAnyH_ready (rs := [7]) (by kernel_rfl) (by simp) (AllReadyH.cons rfl (fun K hK => ?_) AllReadyH.nil)
      go_simp
      rw [E2.out]
      refine (put_off E v' b (k % 2) (l k) _ (HD2.out.since (Since.refl _).drew) (by omega) (by omega) (by rw [HA1.out.2.1]; exact HFU.out) (by rw [HA1.out.2.2]; omega)).mono ?_
      rintro e w3 ⟨rfl, v3, hd3, hf3, hn3⟩
      simp only []
      have hf4 : Fr b v'.ownBlock w2 w3 := (Fr.of_since (Since.refl _).drew).trans' hf3
      have hszw : w.heap.size ≤ wr.heap.size := HFR.out.size
      have hszr : wr.heap.size ≤ w2.heap.size := HF3.out.size
      have hf5 : Fr b none w w3 := (HFR.out.trans' HF3.out).trans hf4 HNX.out
      have hn5 : Nx w none v3.ownBlock := HNX.out.trans hn3 (by show w.heap.size ≤ w2.heap.size; omega)
      have fb3 : ∀ (p : Addr) (x : Value), w.cell? p = some x → p.block ≠ b → w3.cell? p = some x := fun p x hx hp => (hf5.cell (World.block_lt_of_cell? w p hx) hp (by simp)).trans hx
      obtain ⟨la', lc', hel, hl2⟩ := HL.out
      injection hel with h1 _ h3
      obtain ⟨lk', lo', h4, hlkb', hlc⟩ := hl2 (by omega)
      rw [← h1] at h4
      injection h4 with h4
      injection h4 with h5 h6
      subst h5 h6
      refine hK.out _ _ ⟨fb3 _ _ HB1.out h1b, fb3 _ _ (hlc k hlt) hlkb⟩ (fun _ => ?_)
      clear hK K
      (try simp only [Act.put, List.setIfInBounds_toArray, List.set_cons_zero, List.set_cons_succ])
      refine wpAnyH_done (by kernel_rfl) ?_ _
      have HD3 : Hid (Dev w3 b (E.wrote (k % 2) (l k)) v3) := hd3
      have HF5 : Hid (Fr b none w w3) := hf5
      have HN5 : Hid (Nx w none v3.ownBlock) := hn5
      clear hd3 hf3 hf4 hf5 hn5 hn3 fb3 hlc hl2 r1 r4 hS4
      go_wp2_with fail
      go_roundw
      case rel => exact ⟨k + 1, _, _, by omega, by go_num, HD3.out, by show E.sure = D.sure; rw [HA1.out.1]; exact HSU.out, by show E.fused = false; rw [HA1.out.2.1]; exact HFU.out, by show (E.ws ++ [_]).length ≤ _; rw [HA1.out.2.2]; simp; omega, HF5.out, HN5.out⟩
      case measure => simp [intOf]; omega
    · have hke : k = n := by omega
      subst hke
      go_wp2_with fail
      go_end0
      exact ⟨rfl, D', v', HD'.out, HSU.out, HFU.out, hw', HFR.out⟩
end Go.Proofs.Ytbehjklelnnooaa
