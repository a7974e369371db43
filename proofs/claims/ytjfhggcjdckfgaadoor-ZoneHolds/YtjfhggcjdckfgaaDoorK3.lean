/- The law ZoneHolds walked. -/
import Derived.Test.YtjfhggcjdckfgaaDoorK1
import Derived.Deep.RegionHeld3
namespace Go.Proofs.YtjfhggcjdckfgaaDoor
set_option linter.unusedSimpArgs false
set_option linter.unusedVariables false
open Go.RowKit

set_option maxRecDepth 100000 in
set_option maxHeartbeats 4000000 in
theorem holds_go (w : World) (lv av : Value) (nl na : Nat) (l : Nat → ByteArray) (at_ : Nat → Int) (hg : Et w)
    (hl : SlA w w.heap.size lv nl (fun j => .string (l j))) (ha : SlA w w.heap.size av na (fun j => .int .i64 (at_ j))) (hl47 : nl ≤ 9223372036854775807) (hat : ∀ j, j < na → -9223372036854775808 ≤ at_ j ∧ at_ j ≤ 9223372036854775807) :
    Calls Tryd.prog 6 #[lv, av] w fun e w' => e = .returned (.bool true) ∧ Since w w' := by
  obtain ⟨la, lc, rfl, hl'⟩ := hl
  obtain ⟨aa, ac, rfl, ha'⟩ := ha
  have HL : Hid (SlA w w.heap.size (.slice la nl lc) nl (fun j => .string (l j))) := ⟨la, lc, rfl, hl'⟩
  have HA : Hid (SlA w w.heap.size (.slice aa na ac) na (fun j => .int .i64 (at_ j))) := ⟨aa, ac, rfl, ha'⟩
  have HAT : Hid (∀ j, j < na → -9223372036854775808 ≤ at_ j ∧ at_ j ≤ 9223372036854775807) := hat
  have HG : Hid (Et w) := hg
  clear hl' ha' hg hat
  go_enter Tryd.func6, Tryd.ntmps6
  by_cases h60 : 60 < nl
  · have h60' : (60 : Int) < nl := by omega
    go_wp2_with fail
    go_ret
    exact ⟨rfl, Since.refl _⟩
  have h60' : ¬ (60 : Int) < nl := by omega
  go_wp2_with fail
  refine (cf_any w.heap.size nl 53 _ l _ _ (HL.out.sl (Since.refl _) (Nat.le_refl _)) holdsF_tells hl47).mono ?_
  rintro e w' ⟨hx, rfl⟩
  rcases hx with ⟨rfl, hj⟩ | ⟨rfl, hj⟩
  · clear hj
    go_wp2_with fail
    go_ret
    exact ⟨rfl, Since.refl _⟩
  have HJ : Hid (∀ j, j < nl → decide (140 < (l j).size) = false) := hj
  clear hj
  by_cases ha0 : na = 0
  · subst ha0
    go_wp2_with fail
    all_goals
      go_ret
      exact ⟨rfl, Since.refl _⟩
  by_cases ha2 : 60 < na
  · have ha3 : (60 : Int) < na := by omega
    go_wp2_with fail
    all_goals
      go_ret
      exact ⟨rfl, Since.refl _⟩
  have HNA : Hid (0 < na ∧ na ≤ 60) := ⟨by omega, by omega⟩
  clear ha0 ha2
  go_wp2_with fail
  all_goals first
    | (go_ret; exact ⟨rfl, Since.refl _⟩)
    | skip
  refine (zoned_any _).mono ?_
  rintro e w1 ⟨rfl, hS1⟩
  have HS1 : Hid (Since w' w1) := hS1
  clear hS1
  go_wp2_with fail
  refine (new_any _).mono ?_
  rintro e w2 ⟨rfl, hw2⟩
  have hd2 := dev_new w1
  have hS2 := (Since.refl w1).alloc (.cells Tryd.zeroCells155 155)
  rw [← hw2] at hd2 hS2
  have hz2 : w2.heap.size = w1.heap.size + 1 := by rw [hw2]; simp
  clear hw2
  have HD2 : Hid (Dev w2 w1.heap.size dv0 (.slice none 0 0)) := hd2
  have HS2 : Hid (Since w1 w2) := hS2
  have HZ2 : Hid (w2.heap.size = w1.heap.size + 1) := hz2
  clear hd2 hS2 hz2
  go_wp2_with fail
  have hW3 : Want (w2.alloc (.cells #[.slice none 0 0, .slice none 0 0, .slice none 0 0, .slice none 0 0, .slice none 0 0, .slice none 0 0, .slice none 0 0, .slice none 0 0] 42)) (w2.heap.size + 1) w2.heap.size dv0 (fun _ => .slice none 0 0) :=
    ⟨Cel.new _ _ _ _ _ (by intro j hj; match j, hj with | 0, _ => rfl | 1, _ => rfl | 2, _ => rfl | 3, _ => rfl | 4, _ => rfl | 5, _ => rfl | 6, _ => rfl | 7, _ => rfl) _ rfl, fun z hz => ⟨rfl, Or.inl ⟨rfl, rfl⟩⟩, fun z y k _ _ h => by simp [Value.ownBlock] at h⟩
  have hD3 := HD2.out.since ((Since.refl w2).alloc (.cells #[.slice none 0 0, .slice none 0 0, .slice none 0 0, .slice none 0 0, .slice none 0 0, .slice none 0 0, .slice none 0 0, .slice none 0 0] 42))
  have hS3 := (HS1.out.trans HS2.out).alloc (.cells #[.slice none 0 0, .slice none 0 0, .slice none 0 0, .slice none 0 0, .slice none 0 0, .slice none 0 0, .slice none 0 0, .slice none 0 0] 42)
  have HN : Hid (w'.heap.size ≤ w1.heap.size ∧ w2.heap.size = w1.heap.size + 1) := ⟨HS1.out.size, HZ2.out⟩
  generalize w2.alloc (.cells #[.slice none 0 0, .slice none 0 0, .slice none 0 0, .slice none 0 0, .slice none 0 0, .slice none 0 0, .slice none 0 0, .slice none 0 0] 42) = w3 at *
  have HW3 : Hid (Want w3 (w2.heap.size + 1) w2.heap.size dv0 (fun _ => .slice none 0 0)) := hW3
  have HD3 : Hid (Dev w3 w1.heap.size dv0 (.slice none 0 0)) := hD3
  have HS3 : Hid (Since w' w3) := hS3
  clear hW3 hD3 hS3 HD2 HS2 HZ2 HS1
  generalize w2.heap.size = Bw at *
  generalize w1.heap.size = b at *
  go_loopw [7] (fun i wr => ∃ (k : Nat) (D : Dv) (wv : Nat → Value), k ≤ nl ∧ i = .int .i64 k ∧ Dev wr b D (.slice none 0 0) ∧ D.fused = false ∧ Want wr (Bw + 1) Bw D wv ∧ Since w' wr) (fun i _ => nl - (intOf i).toNat)
  case atStart => exact ⟨0, dv0, _, by omega, rfl, HD3.out, rfl, HW3.out, HS3.out⟩
  case round =>
    obtain ⟨k, D, wv, hk, rfl, hd', hfu, hwt, hsn⟩ := hrel
    have HD : Hid (Dev wr b D (.slice none 0 0)) := hd'
    have HFU : Hid (D.fused = false) := hfu
    have HWT : Hid (Want wr (Bw + 1) Bw D wv) := hwt
    have HSN : Hid (Since w' wr) := hsn
    clear hd' hfu hwt hsn
    by_cases hlt : k < nl
    · have hlt2 : (k : Int) < nl := by omega
      obtain ⟨la', lc', hel, hl2⟩ := HL.out
      injection hel with h1 _ h3
      subst h1
      obtain ⟨lk, lo, rfl, hlkb, hlc⟩ := hl2 (by omega)
      obtain ⟨aa', ac', hea, ha2'⟩ := HA.out
      injection hea with h4 _ h5
      subst h4
      obtain ⟨ak, ao, rfl, hakb, hac⟩ := ha2' HNA.out.1
      have hkm : k % na < na := Nat.mod_lt _ HNA.out.1
      have q3 := (HSN.out.cell (p := ⟨ak, ao + k % na, none⟩) hakb).trans (hac (k % na) hkm)
      have q4 := (HSN.out.cell (p := ⟨lk, lo + k, none⟩) hlkb).trans (hlc k hlt)
      have LKB : Hid (lk < w'.heap.size) := hlkb
      have Q4 : Hid (wr.cell? ⟨lk, lo + k, none⟩ = some (.string (l k))) := q4
      have hsz := HJ.out k hlt
      have g1 : (0 : Int) ≤ (k : Int) % (na : Int) := Int.emod_nonneg _ (by have := HNA.out; omega)
      have g2 : (k : Int) % (na : Int) < na := Int.emod_lt_of_pos _ (by have := HNA.out; omega)
      have g3 : ((k : Int) % (na : Int)).toNat = k % na := by omega
      have hna3 : ¬ na = 0 := by have := HNA.out; omega
      have tm : (k : Int).tmod (na : Int) = (k : Int) % (na : Int) := Int.tmod_eq_emod_of_nonneg (by omega)
      have hat2 := HAT.out (k % na) hkm
      clear hlc hl2 h3 h5 ha2' hac hsz
      go_wp2_with fail
      refine (pick_any _ _ hat2.1 hat2.2).mono ?_
      rintro e w4 ⟨rfl, rfl⟩
      have hz8 : pk (at_ (k % na)) < 8 := pk_lt _
      generalize pk (at_ (k % na)) = z at *
      clear q3 g1 g2 g3 tm hat2 hkm
      have hz8' : (z : Int) < 8 := by omega
      go_wp2_with fail
      have HQ5 : Hid (∃ a c, wv z = .slice a (D.cnt z) c) := own_form (HWT.out.row z hz8)
      by_cases h128 : 128 < (l k).size
      · have h128' : (128 : Int) < ((l k).size : Nat) := by omega
        refine (append_long b z (l k) _ hz8 h128).mono ?_
        rintro e w5 ⟨rfl, rfl⟩
        go_wp2_with fail
        refine (tell_hit 4 _ (HG.out.since HSN.out)).mono ?_
        rintro e w6 ⟨rfl, hs6⟩
        have HS6 : Hid (Since w5 w6) := hs6
        clear hs6 q4
        go_wp2_with fail
        go_roundw
        case rel => exact ⟨k + 1, D, wv, by omega, by go_num, HD.out.since HS6.out, HFU.out, HWT.out.since HS6.out, HSN.out.trans HS6.out⟩
        case measure => simp [intOf]; omega
      have h128' : ¬ (128 : Int) < ((l k).size : Nat) := by omega
      obtain ⟨az, cz, hwz⟩ := HQ5.out
      have q5 := HWT.out.cel.cell z hz8
      rw [hwz] at q5
      by_cases hc : D.cnt z = 16
      · rw [hc] at q5
        refine (append_full D _ b z (l k) _ HD.out hz8 (by omega) hc).mono ?_
        have HC : Hid (D.cnt z = 16 ∧ wv z = .slice az (D.cnt z) cz) := ⟨hc, hwz⟩
        clear hc hwz
        rintro e w5 ⟨rfl, rfl⟩
        go_wp2_with fail
        refine (tell_hit 12 _ (HG.out.since HSN.out)).mono ?_
        rintro e w6 ⟨rfl, hs6⟩
        have HS6 : Hid (Since w5 w6) := hs6
        clear hs6 q4 q5
        go_wp2_with fail
        go_roundw
        case rel => exact ⟨k + 1, D, wv, by omega, by go_num, HD.out.since HS6.out, HFU.out, HWT.out.since HS6.out, HSN.out.trans HS6.out⟩
        case measure => simp [intOf]; omega
      have h16 := HD.out.ok.cnt z hz8
      have hc2 : ¬ ((D.cnt z : Nat) : Int) = 16 := by omega
      refine (append_any D _ b z (l k) _ HD.out hz8 (by omega) (by omega) (may_off HFU.out)).mono ?_
      rintro e w5 ⟨rfl, hd5, hf5⟩
      rw [burnt_off HFU.out] at hd5
      have HD5 : Hid (Dev w5 b (D.app z (l k)) (.slice none 0 0)) := hd5
      have HF5 : Hid (Fr b none w4 w5) := hf5
      have HWZ : Hid (wv z = .slice az (D.cnt z) cz) := hwz
      have r4 := (hf5.cell (p := ⟨lk, lo + k, none⟩) (World.block_lt_of_cell? w4 _ q4) (by show lk ≠ b; have h1 := HN.out; have h2 := LKB.out; omega) (by simp)).trans q4
      have r5 := (hf5.cell (p := ⟨Bw, z, none⟩) (World.block_lt_of_cell? w4 _ q5) (by show Bw ≠ b; have h1 := HN.out; omega) (by simp)).trans q5
      clear hd5 hf5 hwz q4 q5
      go_wp2_with fail
      have HEW : Hid (IntKind.i64.wrap (128 - ((l k).size : Int)) = ((128 - (l k).size : Nat) : Int)) := i64_sub _ (by omega)
      have HP : Hid (l k ++ txt (128 - (l k).size) (fun _ => 0) = txt 128 (sb (l k))) := padded (l k) (by omega)
      obtain ⟨i0, hi, hz0, hz1, hz2⟩ := info_parts' infoS
      have HI : Hid (Tryd.prog.info? 9 = some i0 ∧ i0.zero = some (.string ⟨#[]⟩) ∧ i0.size = 1 ∧ i0.bytes = 16) := ⟨hi, hz0, hz1, hz2⟩
      clear hi hz0 hz1 hz2
      have HW5 : Hid (Want w5 (Bw + 1) Bw D wv) := HWT.out.fr HF5.out (by have := HN.out; omega) (by have := HN.out; omega) (fun _ _ => rfl) (fun _ _ _ _ => rfl)
      have HC16 : Hid (D.cnt z < 16) := show D.cnt z < 16 by omega
      have HSN5 : Hid (Since w' w5) := HF5.out.since HSN.out HN.out.1 (by simp)
      have HCAT : Hid (¬ 9223372036854775807 < (l k).size + (txt (128 - (l k).size) (fun _ => 0)).size) := show ¬ 9223372036854775807 < (l k).size + (txt (128 - (l k).size) (fun _ => 0)).size by rw [txt_size]; omega
      clear h16 hc hc2
      have hS4 : (fun w' : World => w'.cell? ⟨lk, lo + k, none⟩ = some (.string (l k))) w5.drew := r4
      refine wp_region_held (S := fun w' : World => w'.cell? ⟨lk, lo + k, none⟩ = some (.string (l k))) (by kernel_rfl) ?_
      refine wpAnyH_take (i := 0) (v := ?v0) rfl (by kernel_rfl) (by kernel_rfl) (by kernel_rfl) (fun _ _ _ h => h) (Or.inl ⟨by rfl, ?hy0⟩) hS4 ?r0
      case hy0 => (intro w _; go_simp; try with_reducible rfl)
      simp only [Act.put, List.setIfInBounds_toArray, List.set_cons_zero, List.set_cons_succ]
      refine wpAnyH_take (i := 1) (v := ?v1) rfl (by kernel_rfl) (by kernel_rfl) (by kernel_rfl) (fun _ _ _ h => h) (Or.inl ⟨by rfl, ?hy1⟩) hS4 ?r1
      case hy1 => (intro w _; go_simp; try with_reducible rfl)
      simp only [Act.put, List.setIfInBounds_toArray, List.set_cons_zero, List.set_cons_succ]
      refine wpAnyH_take (i := 2) (v := ?v2) rfl (by kernel_rfl) (by kernel_rfl) (by kernel_rfl) (fun _ _ _ h => h) (Or.inl ⟨by rfl, ?hy2⟩) hS4 ?r2
      case hy2 => (intro w _; go_simp; try with_reducible rfl)
      simp only [Act.put, List.setIfInBounds_toArray, List.set_cons_zero, List.set_cons_succ]
      refine wpAnyH_take (i := 4) (v := ?v4) rfl (by kernel_rfl) (by kernel_rfl) (by kernel_rfl) (fun _ _ _ h => h) (Or.inl ⟨by rfl, ?hy4⟩) hS4 ?r4
      case hy4 => (intro w _; go_simp; try with_reducible rfl)
      simp only [Act.put, List.setIfInBounds_toArray, List.set_cons_zero, List.set_cons_succ]
      refine wpAnyH_take (i := 5) (v := ?v5) rfl (by kernel_rfl) (by kernel_rfl) (by kernel_rfl) (fun _ _ _ h => h) (Or.inl ⟨by rfl, ?hy5⟩) hS4 ?r5
      case hy5 => (intro w _; go_simp; try with_reducible rfl)
      simp only [Act.put, List.setIfInBounds_toArray, List.set_cons_zero, List.set_cons_succ]
      refine wpAnyH_take (i := 6) (v := ?v6) rfl (by kernel_rfl) (by kernel_rfl) (by kernel_rfl) (fun _ _ _ h => h) (Or.inl ⟨by rfl, ?hy6⟩) hS4 ?r6
      case hy6 => (intro w _; go_simp; try with_reducible rfl)
      simp only [Act.put, List.setIfInBounds_toArray, List.set_cons_zero, List.set_cons_succ]
      refine wpAnyH_take (i := 7) (v := ?v7) rfl (by kernel_rfl) (by kernel_rfl) (by kernel_rfl) (fun _ _ _ h => h) (Or.inl ⟨by rfl, ?hy7⟩) hS4 ?r7
      case hy7 => (intro w hSw; have s0 : w.cell? ⟨lk, lo + k, none⟩ = some (.string (l k)) := hSw; go_simp; try with_reducible rfl)
      simp only [Act.put, List.setIfInBounds_toArray, List.set_cons_zero, List.set_cons_succ]
      refine wpAnyH_take (i := 8) (v := ?v8) rfl (by kernel_rfl) (by kernel_rfl) (by kernel_rfl) (fun _ _ _ h => h) (Or.inl ⟨by rfl, ?hy8⟩) hS4 ?r8
      case hy8 => (intro w _; go_simp; try with_reducible rfl)
      simp only [Act.put, List.setIfInBounds_toArray, List.set_cons_zero, List.set_cons_succ]
      refine wpAnyH_take (i := 9) (v := ?v9) rfl (by kernel_rfl) (by kernel_rfl) (by kernel_rfl) (fun _ _ _ h => h) (Or.inl ⟨by rfl, ?hy9⟩) hS4 ?r9
      case hy9 => (intro w _; go_simp; try with_reducible rfl)
      simp only [Act.put, List.setIfInBounds_toArray, List.set_cons_zero, List.set_cons_succ]
      refine wpAnyH_take (i := 10) (v := ?v10) rfl (by kernel_rfl) (by kernel_rfl) (by kernel_rfl) (fun _ _ _ h => h) (Or.inl ⟨by rfl, ?hy10⟩) hS4 ?r10
      case hy10 => (intro w _; go_simp; try with_reducible rfl)
      simp only [Act.put, List.setIfInBounds_toArray, List.set_cons_zero, List.set_cons_succ]
      refine wpAnyH_take (i := 11) (v := ?v11) rfl (by kernel_rfl) (by kernel_rfl) (by kernel_rfl) (fun _ _ _ h => h) (Or.inl ⟨by rfl, ?hy11⟩) hS4 ?r11
      case hy11 => (intro w hSw; have s0 : w.cell? ⟨lk, lo + k, none⟩ = some (.string (l k)) := hSw; go_simp; try with_reducible rfl)
      simp only [Act.put, List.setIfInBounds_toArray, List.set_cons_zero, List.set_cons_succ]
      refine wpAnyH_take (i := 12) (v := ?v12) rfl (by kernel_rfl) (by kernel_rfl) (by kernel_rfl) (fun _ _ _ h => h) (Or.inl ⟨by rfl, ?hy12⟩) hS4 ?r12
      case hy12 => (intro w _; go_simp; try with_reducible rfl)
      simp only [Act.put, List.setIfInBounds_toArray, List.set_cons_zero, List.set_cons_succ]
      refine wpAnyH_take (i := 13) (v := ?v13) rfl (by kernel_rfl) (by kernel_rfl) (by kernel_rfl) (fun _ _ _ h => h) (Or.inl ⟨by rfl, ?hy13⟩) hS4 ?r13
      case hy13 => (intro w _; go_simp; try with_reducible rfl)
      simp only [Act.put, List.setIfInBounds_toArray, List.set_cons_zero, List.set_cons_succ]
      refine wpAnyH_ready (rs := [3, 14]) (by kernel_rfl) (by simp) (AllReadyH.cons rfl (fun K hK => ?_) (AllReadyH.cons rfl (fun K hK => ?_) AllReadyH.nil))
      · go_simp
        refine hK.out _ _ hS4 (fun _ => ?_)
        clear hK K
        (try simp only [Act.put, List.setIfInBounds_toArray, List.set_cons_zero, List.set_cons_succ])
        refine wpAnyH_ready (rs := [14]) (by kernel_rfl) (by simp) (AllReadyH.cons rfl (fun K hK => ?_) AllReadyH.nil)
        go_simp
        rw [HEW.out]
        refine (repeat_any ⟨#[0]⟩ (128 - (l k).size) _ (by omega) (by show 1 * (128 - (l k).size) ≤ _; omega)).mono ?_
        rintro e w6 ⟨rfl, hs6⟩
        rw [repeat0]
        simp only []
        have HS6 : Hid (Since w5 w6) := (Since.refl w5).drew.trans hs6
        have r46 : w6.cell? ⟨lk, lo + k, none⟩ = some (.string (l k)) := (HS6.out.cell (p := ⟨lk, lo + k, none⟩) (World.block_lt_of_cell? w5 _ r4)).trans r4
        have r56 : w6.cell? ⟨Bw, z, none⟩ = some (.slice az (D.cnt z) cz) := (HS6.out.cell (p := ⟨Bw, z, none⟩) (World.block_lt_of_cell? w5 _ r5)).trans r5
        refine hK.out _ _ r46 (fun _ => ?_)
        clear hK K hs6
        (try simp only [Act.put, List.setIfInBounds_toArray, List.set_cons_zero, List.set_cons_succ])
        refine wpAnyH_take (i := 15) (v := ?va15) rfl (by kernel_rfl) (by kernel_rfl) (by kernel_rfl) (fun _ _ _ h => h) (Or.inl ⟨by rfl, ?hya15⟩) r46 ?ra15
        case hya15 => (intro w _; go_simp; (try rw [if_neg HCAT.out]); try with_reducible rfl)
        simp only [Act.put, List.setIfInBounds_toArray, List.set_cons_zero, List.set_cons_succ]
        rw [HP.out]
        refine wpAnyH_ready (rs := [16]) (by kernel_rfl) (by simp) (AllReadyH.cons rfl (fun K hK => ?_) AllReadyH.nil)
        go_simp
        have r47 : (w6.alloc (.cells #[.string (txt 128 (sb (l k)))] 9)).cell? ⟨lk, lo + k, none⟩ = some (.string (l k)) := (((Since.refl w6).alloc _).cell (p := ⟨lk, lo + k, none⟩) (World.block_lt_of_cell? w6 _ r46)).trans r46
        have r57 : (w6.alloc (.cells #[.string (txt 128 (sb (l k)))] 9)).cell? ⟨Bw, z, none⟩ = some (.slice az (D.cnt z) cz) := (((Since.refl w6).alloc _).cell (p := ⟨Bw, z, none⟩) (World.block_lt_of_cell? w6 _ r56)).trans r56
        refine hK.out _ _ r47 (fun _ => ?_)
        clear hK K
        (try simp only [Act.put, List.setIfInBounds_toArray, List.set_cons_zero, List.set_cons_succ])
        refine wpAnyH_ready (rs := [17]) (by kernel_rfl) (by simp) (AllReadyH.cons rfl (fun K hK => ?_) AllReadyH.nil)
        have HW6 : Hid (Want (w6.alloc (.cells #[.string (txt 128 (sb (l k)))] 9)) (Bw + 1) Bw D wv) := HW5.out.since (HS6.out.alloc _)
        have HOW : Hid ((w6.alloc (.cells #[.string (txt 128 (sb (l k)))] 9)).ownsRow (Bw + 1) 9 1 (.slice az (D.cnt z) cz) (D.cnt z) (blks (D.blk z) (D.cnt z))) := HWZ.out ▸ HW6.out.row z hz8
        have HB6 : Hid (Bw + 1 ≤ (w6.alloc (.cells #[.string (txt 128 (sb (l k)))] 9)).heap.size) := World.block_lt_of_cell? _ _ r57
        refine step_append_lies _ (by rfl) (.tmp 76) (.tmp 89) 22 (by rfl) (Bw + 1) 9 i0 _ 1 16 Tryd.underlying22 HI.out.1 HI.out.2.1 HI.out.2.2.1 HI.out.2.2.2 (by rfl) (by decide) (.slice az (D.cnt z) cz) (D.cnt z) (blks (D.blk z) (D.cnt z)) (by rfl) HOW.out ⟨w6.heap.size, 0, none⟩ 1 1 [.string (txt 128 (sb (l k)))] (by rfl) (by rfl) (World.news_of_block (heap_alloc_new w6 _)) (by simp [Value.oneCell']) (by decide) (by have := HC16.out; unfold maxLen; omega) (by have := HC16.out; omega) HB6.out _ rfl ?_
        intro g cap w7 hown hgrow hat hlt7
        rw [← HWZ.out] at hgrow hat
        have c7 := (want_cel HW6.out hz8 (Nat.lt_succ_self Bw) hgrow).cell z hz8
        have f7 := (want_cel HW6.out hz8 (Nat.lt_succ_self Bw) hgrow).frozen z hz8
        rw [HWZ.out] at c7
        have hne : some lk ≠ (wv z).ownBlock := fun e => by have h1 := (HW6.out.own z hz8 lk e.symm).1; have h2 := LKB.out; have h3 := HN.out; omega
        have r48 := (hgrow.cell_far ⟨lk, lo + k, none⟩ (World.block_lt_of_cell? _ _ r47) hne).trans r47
        have HOWN : Hid (w7.ownsRow (Bw + 1) 9 1 (.slice (some ⟨g, 0, none⟩) (D.cnt z + 1) cap) (D.cnt z + 1) (blks (D.blk z) (D.cnt z) ++ [.string (txt 128 (sb (l k)))])) := hown
        have HGR : Hid ((w6.alloc (.cells #[.string (txt 128 (sb (l k)))] 9)).grownBy w7 (wv z).ownBlock) := hgrow
        have HTA : Hid ((wv z).ownBlock = some g ∨ g = (w6.alloc (.cells #[.string (txt 128 (sb (l k)))] 9)).heap.size) := hat
        have HNE : Hid (some lk ≠ (wv z).ownBlock) := hne
        refine hK.out _ _ r48 (fun _ => ?_)
        clear hK K hown hgrow hat hne
        (try simp only [Act.put, List.setIfInBounds_toArray, List.set_cons_zero, List.set_cons_succ])
        refine wpAnyH_take (i := 18) (v := ?va18) rfl (by kernel_rfl) (by kernel_rfl) (by kernel_rfl) (fun _ _ _ h => h) (Or.inl ⟨by rfl, ?hya18⟩) r48 ?ra18
        case hya18 => (intro w _; go_simp; try with_reducible rfl)
        simp only [Act.put, List.setIfInBounds_toArray, List.set_cons_zero, List.set_cons_succ]
        refine wpAnyH_ready (rs := [19]) (by kernel_rfl) (by simp) (AllReadyH.cons rfl (fun K hK => ?_) AllReadyH.nil)
        go_simp
        have r49 := ((grown_fr (Bw := Bw) (z := z) (x := .slice (some ⟨g, 0, none⟩) (D.cnt z + 1) cap) HGR.out).cell (p := ⟨lk, lo + k, none⟩) (World.block_lt_of_cell? _ _ r47) (by show lk ≠ Bw; have h2 := LKB.out; have h3 := HN.out; omega) HNE.out).trans r47
        refine hK.out _ _ r49 (fun _ => ?_)
        clear hK K
        (try simp only [Act.put, List.setIfInBounds_toArray, List.set_cons_zero, List.set_cons_succ])
        refine wpAnyH_done (by kernel_rfl) ?_ _
        have HDF : Hid (Dev (w7.setCell ⟨Bw, z, none⟩ (.slice (some ⟨g, 0, none⟩) (D.cnt z + 1) cap)) b (D.app z (l k)) (.slice none 0 0)) := (HD5.out.since (HS6.out.alloc _)).fr (grown_fr HGR.out) (by have := HN.out; omega) (fun e => by have h1 := (HW6.out.own z hz8 b e.symm).1; have h3 := HN.out; omega) (by simp [Value.ownBlock]) (Or.inl rfl)
        have HWF : Hid (Want (w7.setCell ⟨Bw, z, none⟩ (.slice (some ⟨g, 0, none⟩) (D.cnt z + 1) cap)) (Bw + 1) Bw (D.app z (l k)) (updv wv z (.slice (some ⟨g, 0, none⟩) (D.cnt z + 1) cap))) := want_app HW6.out hz8 (Nat.lt_succ_self Bw) HGR.out HOWN.out HTA.out
        have HSF : Hid (Since w' (w7.setCell ⟨Bw, z, none⟩ (.slice (some ⟨g, 0, none⟩) (D.cnt z + 1) cap))) := (grown_fr HGR.out).since (HSN5.out.trans (HS6.out.alloc _)) (by have := HN.out; omega) (fun j e => by have h1 := (HW6.out.own z hz8 j e).1; have h3 := HN.out; omega)
        clear r4 r5 r46 r56 r47 r57 r48 r49 c7 f7 hS4
        generalize World.setCell _ _ _ = w8 at *
        go_wp2_with fail
        go_roundw
        case rel => exact ⟨k + 1, D.app z (l k), _, by omega, by go_num, HDF.out, HFU.out, HWF.out, HSF.out⟩
        case measure => simp [intOf]; omega
      · go_simp
        rw [HEW.out]
        refine (repeat_any ⟨#[0]⟩ (128 - (l k).size) _ (by omega) (by show 1 * (128 - (l k).size) ≤ _; omega)).mono ?_
        rintro e w6 ⟨rfl, hs6⟩
        rw [repeat0]
        simp only []
        have HS6 : Hid (Since w5 w6) := (Since.refl w5).drew.trans hs6
        have r46 : w6.cell? ⟨lk, lo + k, none⟩ = some (.string (l k)) := (HS6.out.cell (p := ⟨lk, lo + k, none⟩) (World.block_lt_of_cell? w5 _ r4)).trans r4
        have r56 : w6.cell? ⟨Bw, z, none⟩ = some (.slice az (D.cnt z) cz) := (HS6.out.cell (p := ⟨Bw, z, none⟩) (World.block_lt_of_cell? w5 _ r5)).trans r5
        refine hK.out _ _ r46 (fun _ => ?_)
        clear hK K hs6
        (try simp only [Act.put, List.setIfInBounds_toArray, List.set_cons_zero, List.set_cons_succ])
        refine wpAnyH_take (i := 15) (v := ?vb15) rfl (by kernel_rfl) (by kernel_rfl) (by kernel_rfl) (fun _ _ _ h => h) (Or.inl ⟨by rfl, ?hyb15⟩) r46 ?rb15
        case hyb15 => (intro w _; go_simp; (try rw [if_neg HCAT.out]); try with_reducible rfl)
        simp only [Act.put, List.setIfInBounds_toArray, List.set_cons_zero, List.set_cons_succ]
        rw [HP.out]
        refine wpAnyH_ready (rs := [3, 16]) (by kernel_rfl) (by simp) (AllReadyH.cons rfl (fun K hK => ?_) (AllReadyH.cons rfl (fun K hK => ?_) AllReadyH.nil))
        · go_simp
          refine hK.out _ _ r46 (fun _ => ?_)
          clear hK K
          (try simp only [Act.put, List.setIfInBounds_toArray, List.set_cons_zero, List.set_cons_succ])
          refine wpAnyH_ready (rs := [16]) (by kernel_rfl) (by simp) (AllReadyH.cons rfl (fun K hK => ?_) AllReadyH.nil)
          go_simp
          have r47 : (w6.alloc (.cells #[.string (txt 128 (sb (l k)))] 9)).cell? ⟨lk, lo + k, none⟩ = some (.string (l k)) := (((Since.refl w6).alloc _).cell (p := ⟨lk, lo + k, none⟩) (World.block_lt_of_cell? w6 _ r46)).trans r46
          have r57 : (w6.alloc (.cells #[.string (txt 128 (sb (l k)))] 9)).cell? ⟨Bw, z, none⟩ = some (.slice az (D.cnt z) cz) := (((Since.refl w6).alloc _).cell (p := ⟨Bw, z, none⟩) (World.block_lt_of_cell? w6 _ r56)).trans r56
          refine hK.out _ _ r47 (fun _ => ?_)
          clear hK K
          (try simp only [Act.put, List.setIfInBounds_toArray, List.set_cons_zero, List.set_cons_succ])
          refine wpAnyH_ready (rs := [17]) (by kernel_rfl) (by simp) (AllReadyH.cons rfl (fun K hK => ?_) AllReadyH.nil)
          have HW6 : Hid (Want (w6.alloc (.cells #[.string (txt 128 (sb (l k)))] 9)) (Bw + 1) Bw D wv) := HW5.out.since (HS6.out.alloc _)
          have HOW : Hid ((w6.alloc (.cells #[.string (txt 128 (sb (l k)))] 9)).ownsRow (Bw + 1) 9 1 (.slice az (D.cnt z) cz) (D.cnt z) (blks (D.blk z) (D.cnt z))) := HWZ.out ▸ HW6.out.row z hz8
          have HB6 : Hid (Bw + 1 ≤ (w6.alloc (.cells #[.string (txt 128 (sb (l k)))] 9)).heap.size) := World.block_lt_of_cell? _ _ r57
          refine step_append_lies _ (by rfl) (.tmp 76) (.tmp 89) 22 (by rfl) (Bw + 1) 9 i0 _ 1 16 Tryd.underlying22 HI.out.1 HI.out.2.1 HI.out.2.2.1 HI.out.2.2.2 (by rfl) (by decide) (.slice az (D.cnt z) cz) (D.cnt z) (blks (D.blk z) (D.cnt z)) (by rfl) HOW.out ⟨w6.heap.size, 0, none⟩ 1 1 [.string (txt 128 (sb (l k)))] (by rfl) (by rfl) (World.news_of_block (heap_alloc_new w6 _)) (by simp [Value.oneCell']) (by decide) (by have := HC16.out; unfold maxLen; omega) (by have := HC16.out; omega) HB6.out _ rfl ?_
          intro g cap w7 hown hgrow hat hlt7
          rw [← HWZ.out] at hgrow hat
          have c7 := (want_cel HW6.out hz8 (Nat.lt_succ_self Bw) hgrow).cell z hz8
          have f7 := (want_cel HW6.out hz8 (Nat.lt_succ_self Bw) hgrow).frozen z hz8
          rw [HWZ.out] at c7
          have hne : some lk ≠ (wv z).ownBlock := fun e => by have h1 := (HW6.out.own z hz8 lk e.symm).1; have h2 := LKB.out; have h3 := HN.out; omega
          have r48 := (hgrow.cell_far ⟨lk, lo + k, none⟩ (World.block_lt_of_cell? _ _ r47) hne).trans r47
          have HOWN : Hid (w7.ownsRow (Bw + 1) 9 1 (.slice (some ⟨g, 0, none⟩) (D.cnt z + 1) cap) (D.cnt z + 1) (blks (D.blk z) (D.cnt z) ++ [.string (txt 128 (sb (l k)))])) := hown
          have HGR : Hid ((w6.alloc (.cells #[.string (txt 128 (sb (l k)))] 9)).grownBy w7 (wv z).ownBlock) := hgrow
          have HTA : Hid ((wv z).ownBlock = some g ∨ g = (w6.alloc (.cells #[.string (txt 128 (sb (l k)))] 9)).heap.size) := hat
          have HNE : Hid (some lk ≠ (wv z).ownBlock) := hne
          refine hK.out _ _ r48 (fun _ => ?_)
          clear hK K hown hgrow hat hne
          (try simp only [Act.put, List.setIfInBounds_toArray, List.set_cons_zero, List.set_cons_succ])
          refine wpAnyH_take (i := 18) (v := ?vb18) rfl (by kernel_rfl) (by kernel_rfl) (by kernel_rfl) (fun _ _ _ h => h) (Or.inl ⟨by rfl, ?hyb18⟩) r48 ?rb18
          case hyb18 => (intro w _; go_simp; try with_reducible rfl)
          simp only [Act.put, List.setIfInBounds_toArray, List.set_cons_zero, List.set_cons_succ]
          refine wpAnyH_ready (rs := [19]) (by kernel_rfl) (by simp) (AllReadyH.cons rfl (fun K hK => ?_) AllReadyH.nil)
          go_simp
          have r49 := ((grown_fr (Bw := Bw) (z := z) (x := .slice (some ⟨g, 0, none⟩) (D.cnt z + 1) cap) HGR.out).cell (p := ⟨lk, lo + k, none⟩) (World.block_lt_of_cell? _ _ r47) (by show lk ≠ Bw; have h2 := LKB.out; have h3 := HN.out; omega) HNE.out).trans r47
          refine hK.out _ _ r49 (fun _ => ?_)
          clear hK K
          (try simp only [Act.put, List.setIfInBounds_toArray, List.set_cons_zero, List.set_cons_succ])
          refine wpAnyH_done (by kernel_rfl) ?_ _
          have HDF : Hid (Dev (w7.setCell ⟨Bw, z, none⟩ (.slice (some ⟨g, 0, none⟩) (D.cnt z + 1) cap)) b (D.app z (l k)) (.slice none 0 0)) := (HD5.out.since (HS6.out.alloc _)).fr (grown_fr HGR.out) (by have := HN.out; omega) (fun e => by have h1 := (HW6.out.own z hz8 b e.symm).1; have h3 := HN.out; omega) (by simp [Value.ownBlock]) (Or.inl rfl)
          have HWF : Hid (Want (w7.setCell ⟨Bw, z, none⟩ (.slice (some ⟨g, 0, none⟩) (D.cnt z + 1) cap)) (Bw + 1) Bw (D.app z (l k)) (updv wv z (.slice (some ⟨g, 0, none⟩) (D.cnt z + 1) cap))) := want_app HW6.out hz8 (Nat.lt_succ_self Bw) HGR.out HOWN.out HTA.out
          have HSF : Hid (Since w' (w7.setCell ⟨Bw, z, none⟩ (.slice (some ⟨g, 0, none⟩) (D.cnt z + 1) cap))) := (grown_fr HGR.out).since (HSN5.out.trans (HS6.out.alloc _)) (by have := HN.out; omega) (fun j e => by have h1 := (HW6.out.own z hz8 j e).1; have h3 := HN.out; omega)
          clear r4 r5 r46 r56 r47 r57 r48 r49 c7 f7 hS4
          generalize World.setCell _ _ _ = w8 at *
          go_wp2_with fail
          go_roundw
          case rel => exact ⟨k + 1, D.app z (l k), _, by omega, by go_num, HDF.out, HFU.out, HWF.out, HSF.out⟩
          case measure => simp [intOf]; omega
        · go_simp
          have r47 : (w6.alloc (.cells #[.string (txt 128 (sb (l k)))] 9)).cell? ⟨lk, lo + k, none⟩ = some (.string (l k)) := (((Since.refl w6).alloc _).cell (p := ⟨lk, lo + k, none⟩) (World.block_lt_of_cell? w6 _ r46)).trans r46
          have r57 : (w6.alloc (.cells #[.string (txt 128 (sb (l k)))] 9)).cell? ⟨Bw, z, none⟩ = some (.slice az (D.cnt z) cz) := (((Since.refl w6).alloc _).cell (p := ⟨Bw, z, none⟩) (World.block_lt_of_cell? w6 _ r56)).trans r56
          refine hK.out _ _ r47 (fun _ => ?_)
          clear hK K
          (try simp only [Act.put, List.setIfInBounds_toArray, List.set_cons_zero, List.set_cons_succ])
          refine wpAnyH_ready (rs := [3]) (by kernel_rfl) (by simp) (AllReadyH.cons rfl (fun K hK => ?_) AllReadyH.nil)
          go_simp
          refine hK.out _ _ r47 (fun _ => ?_)
          clear hK K
          (try simp only [Act.put, List.setIfInBounds_toArray, List.set_cons_zero, List.set_cons_succ])
          refine wpAnyH_ready (rs := [17]) (by kernel_rfl) (by simp) (AllReadyH.cons rfl (fun K hK => ?_) AllReadyH.nil)
          have HW6 : Hid (Want (w6.alloc (.cells #[.string (txt 128 (sb (l k)))] 9)) (Bw + 1) Bw D wv) := HW5.out.since (HS6.out.alloc _)
          have HOW : Hid ((w6.alloc (.cells #[.string (txt 128 (sb (l k)))] 9)).ownsRow (Bw + 1) 9 1 (.slice az (D.cnt z) cz) (D.cnt z) (blks (D.blk z) (D.cnt z))) := HWZ.out ▸ HW6.out.row z hz8
          have HB6 : Hid (Bw + 1 ≤ (w6.alloc (.cells #[.string (txt 128 (sb (l k)))] 9)).heap.size) := World.block_lt_of_cell? _ _ r57
          refine step_append_lies _ (by rfl) (.tmp 76) (.tmp 89) 22 (by rfl) (Bw + 1) 9 i0 _ 1 16 Tryd.underlying22 HI.out.1 HI.out.2.1 HI.out.2.2.1 HI.out.2.2.2 (by rfl) (by decide) (.slice az (D.cnt z) cz) (D.cnt z) (blks (D.blk z) (D.cnt z)) (by rfl) HOW.out ⟨w6.heap.size, 0, none⟩ 1 1 [.string (txt 128 (sb (l k)))] (by rfl) (by rfl) (World.news_of_block (heap_alloc_new w6 _)) (by simp [Value.oneCell']) (by decide) (by have := HC16.out; unfold maxLen; omega) (by have := HC16.out; omega) HB6.out _ rfl ?_
          intro g cap w7 hown hgrow hat hlt7
          rw [← HWZ.out] at hgrow hat
          have c7 := (want_cel HW6.out hz8 (Nat.lt_succ_self Bw) hgrow).cell z hz8
          have f7 := (want_cel HW6.out hz8 (Nat.lt_succ_self Bw) hgrow).frozen z hz8
          rw [HWZ.out] at c7
          have hne : some lk ≠ (wv z).ownBlock := fun e => by have h1 := (HW6.out.own z hz8 lk e.symm).1; have h2 := LKB.out; have h3 := HN.out; omega
          have r48 := (hgrow.cell_far ⟨lk, lo + k, none⟩ (World.block_lt_of_cell? _ _ r47) hne).trans r47
          have HOWN : Hid (w7.ownsRow (Bw + 1) 9 1 (.slice (some ⟨g, 0, none⟩) (D.cnt z + 1) cap) (D.cnt z + 1) (blks (D.blk z) (D.cnt z) ++ [.string (txt 128 (sb (l k)))])) := hown
          have HGR : Hid ((w6.alloc (.cells #[.string (txt 128 (sb (l k)))] 9)).grownBy w7 (wv z).ownBlock) := hgrow
          have HTA : Hid ((wv z).ownBlock = some g ∨ g = (w6.alloc (.cells #[.string (txt 128 (sb (l k)))] 9)).heap.size) := hat
          have HNE : Hid (some lk ≠ (wv z).ownBlock) := hne
          refine hK.out _ _ r48 (fun _ => ?_)
          clear hK K hown hgrow hat hne
          (try simp only [Act.put, List.setIfInBounds_toArray, List.set_cons_zero, List.set_cons_succ])
          refine wpAnyH_take (i := 18) (v := ?vc18) rfl (by kernel_rfl) (by kernel_rfl) (by kernel_rfl) (fun _ _ _ h => h) (Or.inl ⟨by rfl, ?hyc18⟩) r48 ?rc18
          case hyc18 => (intro w _; go_simp; try with_reducible rfl)
          simp only [Act.put, List.setIfInBounds_toArray, List.set_cons_zero, List.set_cons_succ]
          refine wpAnyH_ready (rs := [19]) (by kernel_rfl) (by simp) (AllReadyH.cons rfl (fun K hK => ?_) AllReadyH.nil)
          go_simp
          have r49 := ((grown_fr (Bw := Bw) (z := z) (x := .slice (some ⟨g, 0, none⟩) (D.cnt z + 1) cap) HGR.out).cell (p := ⟨lk, lo + k, none⟩) (World.block_lt_of_cell? _ _ r47) (by show lk ≠ Bw; have h2 := LKB.out; have h3 := HN.out; omega) HNE.out).trans r47
          refine hK.out _ _ r49 (fun _ => ?_)
          clear hK K
          (try simp only [Act.put, List.setIfInBounds_toArray, List.set_cons_zero, List.set_cons_succ])
          refine wpAnyH_done (by kernel_rfl) ?_ _
          have HDF : Hid (Dev (w7.setCell ⟨Bw, z, none⟩ (.slice (some ⟨g, 0, none⟩) (D.cnt z + 1) cap)) b (D.app z (l k)) (.slice none 0 0)) := (HD5.out.since (HS6.out.alloc _)).fr (grown_fr HGR.out) (by have := HN.out; omega) (fun e => by have h1 := (HW6.out.own z hz8 b e.symm).1; have h3 := HN.out; omega) (by simp [Value.ownBlock]) (Or.inl rfl)
          have HWF : Hid (Want (w7.setCell ⟨Bw, z, none⟩ (.slice (some ⟨g, 0, none⟩) (D.cnt z + 1) cap)) (Bw + 1) Bw (D.app z (l k)) (updv wv z (.slice (some ⟨g, 0, none⟩) (D.cnt z + 1) cap))) := want_app HW6.out hz8 (Nat.lt_succ_self Bw) HGR.out HOWN.out HTA.out
          have HSF : Hid (Since w' (w7.setCell ⟨Bw, z, none⟩ (.slice (some ⟨g, 0, none⟩) (D.cnt z + 1) cap))) := (grown_fr HGR.out).since (HSN5.out.trans (HS6.out.alloc _)) (by have := HN.out; omega) (fun j e => by have h1 := (HW6.out.own z hz8 j e).1; have h3 := HN.out; omega)
          clear r4 r5 r46 r56 r47 r57 r48 r49 c7 f7 hS4
          generalize World.setCell _ _ _ = w8 at *
          go_wp2_with fail
          go_roundw
          case rel => exact ⟨k + 1, D.app z (l k), _, by omega, by go_num, HDF.out, HFU.out, HWF.out, HSF.out⟩
          case measure => simp [intOf]; omega
    · have hke : k = nl := by omega
      subst hke
      go_wp2_with fail
      go_loopw [11] (fun i wr2 => ∃ (z : Nat), z ≤ 8 ∧ i = .int .i64 z ∧ Dev wr2 b D (.slice none 0 0) ∧ Want wr2 (Bw + 1) Bw D wv ∧ Since w' wr2) (fun i _ => 8 - (intOf i).toNat)
      case atStart => exact ⟨0, by omega, rfl, HD.out, HWT.out, HSN.out⟩
      case round =>
        obtain ⟨z, hz, rfl, hd2, hw2, hs2⟩ := hrel
        by_cases hz8 : z < 8
        · have hz8' : (z : Int) < 8 := by omega
          have HD2 : Hid (Dev wr b D (.slice none 0 0)) := hd2
          have HW2 : Hid (Want wr (Bw + 1) Bw D wv) := hw2
          have HS2 : Hid (Since w' wr) := hs2
          clear hd2 hw2 hs2
          obtain ⟨az, cz, hwz⟩ := own_form (HW2.out.row z hz8)
          have HWZ : Hid (wv z = .slice az (D.cnt z) cz) := hwz
          have q5 := HW2.out.cel.cell z hz8
          rw [hwz] at q5
          clear hwz
          have h16 : Hid (D.cnt z ≤ 16) := HD2.out.ok.cnt z hz8
          go_wp2_with fail
          refine (at_any D _ b z _ HD2.out hz8).mono ?_
          rintro e w5 ⟨rfl, rfl⟩
          go_wp2_with fail
          go_loopw [14] (fun i wx => ∃ (j : Nat), j ≤ D.cnt z ∧ i = .int .i64 j ∧ Dev wx b D (.slice none 0 0) ∧ Want wx (Bw + 1) Bw D wv ∧ Since w' wx) (fun i _ => D.cnt z - (intOf i).toNat)
          case atStart => exact ⟨0, by omega, rfl, HD2.out, HW2.out, HS2.out⟩
          case round =>
            obtain ⟨j, hj, rfl, hd2, hw2, hs2⟩ := hrel
            have HD3 : Hid (Dev wr b D (.slice none 0 0)) := hd2
            have HW3' : Hid (Want wr (Bw + 1) Bw D wv) := hw2
            have HS3' : Hid (Since w' wr) := hs2
            clear hd2 hw2 hs2 q5
            by_cases hjc : j < D.cnt z
            · have hjc' : (j : Int) < (D.cnt z : Nat) := by omega
              have hj15 : j ≤ 15 := by have := h16.out; omega
              obtain ⟨g, c, hwz2, hcell⟩ := own_cell (HW3'.out.row z hz8) (by omega)
              have q6 := HW3'.out.cel.cell z hz8
              have q7 := (hcell j hjc).trans (blks_get _ _ j hjc)
              rw [hwz2] at q6
              clear hwz2 hcell
              go_wp2_with fail
              refine (read_any D _ b z j _ HD3.out hz8 hjc).mono ?_
              rintro e w6 ⟨rfl, rfl⟩
              go_wp2_with fail
              go_roundw
              case rel => exact ⟨j + 1, by omega, by go_num, HD3.out, HW3'.out, HS3'.out⟩
              case measure => simp [intOf]; omega
            · have hje : j = D.cnt z := by omega
              subst hje
              go_wp2_with fail
              refine (read_miss D _ b z _ _ HD3.out hz8 (by omega)).mono ?_
              rintro e w6 ⟨rfl, rfl⟩
              go_wp2_with fail
              refine (tell_hit 7 _ (HG.out.since HS3'.out)).mono ?_
              rintro e w7 ⟨rfl, hs7⟩
              have HS7 : Hid (Since w6 w7) := hs7
              clear hs7
              go_wp2_with fail
              go_roundw
              case rel => exact ⟨z + 1, by omega, by go_num, HD3.out.since HS7.out, HW3'.out.since HS7.out, HS3'.out.trans HS7.out⟩
              case measure => simp [intOf]; omega
        · have hze : z = 8 := by omega
          subst hze
          clear hd2 hw2
          have HS2 : Hid (Since w' _) := hs2
          clear hs2
          go_wp2_with fail
          go_ret
          exact ⟨rfl, HS2.out⟩
end Go.Proofs.YtjfhggcjdckfgaaDoor
