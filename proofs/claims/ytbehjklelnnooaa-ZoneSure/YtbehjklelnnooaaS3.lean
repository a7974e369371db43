/- The law ZoneSure walked. -/
import Derived.Test.YtbehjklelnnooaaS2
namespace Go.Proofs.Ytbehjklelnnooaa
set_option linter.unusedSimpArgs false
set_option linter.unusedVariables false
open Go.RowKit

set_option maxRecDepth 100000 in
set_option maxHeartbeats 4000000 in
theorem sure_go (w : World) (lv mv av kv sv : Value) (nl nm na nk ns : Nat) (l m : Nat → ByteArray) (at_ ks : Nat → Int) (sl : Nat → Bool)
    (hl : SlA w w.heap.size lv nl (fun j => .string (l j))) (hm : SlA w w.heap.size mv nm (fun j => .string (m j))) (ha : SlA w w.heap.size av na (fun j => .int .i64 (at_ j)))
    (hk : SlA w w.heap.size kv nk (fun j => .int .i64 (ks j))) (hs : SlA w w.heap.size sv ns (fun j => .bool (sl j))) (hl47 : nl ≤ 9223372036854775807) (hm47 : nm ≤ 9223372036854775807) :
    Calls Try.prog 4 #[lv, mv, av, kv, sv] w fun e w' => e = .returned (.bool true) ∧ Since w w' := by
  obtain ⟨la, lc, rfl, hl'⟩ := hl
  obtain ⟨ma, mc, rfl, hm'⟩ := hm
  obtain ⟨aa, ac, rfl, ha'⟩ := ha
  obtain ⟨ka, kc, rfl, hk'⟩ := hk
  obtain ⟨sa, sc, rfl, hs'⟩ := hs
  have HL : Hid (SlA w w.heap.size (.slice la nl lc) nl (fun j => .string (l j))) := ⟨la, lc, rfl, hl'⟩
  have HM : Hid (SlA w w.heap.size (.slice ma nm mc) nm (fun j => .string (m j))) := ⟨ma, mc, rfl, hm'⟩
  have HA : Hid (SlA w w.heap.size (.slice aa na ac) na (fun j => .int .i64 (at_ j))) := ⟨aa, ac, rfl, ha'⟩
  have HK : Hid (SlA w w.heap.size (.slice ka nk kc) nk (fun j => .int .i64 (ks j))) := ⟨ka, kc, rfl, hk'⟩
  have HS : Hid (SlA w w.heap.size (.slice sa ns sc) ns (fun j => .bool (sl j))) := ⟨sa, sc, rfl, hs'⟩
  clear hl' hm' ha' hk' hs'
  go_enter Try.func4, Try.ntmps4
  go_wp2_with fail
  have hS0 : Since w (w.alloc (.cells #[.slice aa na ac] 30)) := (Since.refl w).alloc _
  have hB2 : (w.alloc (.cells #[.slice aa na ac] 30)).cell? ⟨w.heap.size, 0, none⟩ = some (.slice aa na ac) := by simp
  have hz0 : (w.alloc (.cells #[.slice aa na ac] 30)).heap.size = w.heap.size + 1 := by simp
  generalize w.alloc (.cells #[.slice aa na ac] 30) = w0 at *
  have HS0 : Hid (Since w w0) := hS0
  have HZ0 : Hid (w0.heap.size = w.heap.size + 1) := hz0
  clear hS0 hz0
  refine (few_any (w.heap.size + 1) nl _ l _ (HL.out.sl HS0.out (by omega)) hl47).mono ?_
  rintro e w' ⟨hx, rfl⟩
  rcases hx with ⟨rfl, hl20, hls⟩ | rfl
  case inr =>
    go_wp2_with fail
    go_ret
    exact ⟨rfl, HS0.out⟩
  have HLS : Hid (nl ≤ 20 ∧ ∀ j, j < nl → (l j).size ≤ 80) := ⟨hl20, hls⟩
  clear hl20 hls
  go_wp2_with fail
  refine (few_any (w.heap.size + 1) nm _ m _ (HM.out.sl HS0.out (by omega)) hm47).mono ?_
  rintro e w0 ⟨hx, rfl⟩
  rcases hx with ⟨rfl, hm20, hms⟩ | rfl
  case inr =>
    go_wp2_with fail
    go_ret
    exact ⟨rfl, HS0.out⟩
  have HMS : Hid (nm ≤ 20 ∧ ∀ j, j < nm → (m j).size ≤ 80) := ⟨hm20, hms⟩
  clear hm20 hms
  by_cases ha0 : na = 0
  · subst ha0
    go_wp2_with fail
    all_goals
      go_ret
      exact ⟨rfl, HS0.out⟩
  by_cases ha2 : 20 < na
  · have ha3 : (20 : Int) < na := by omega
    go_wp2_with fail
    all_goals
      go_ret
      exact ⟨rfl, HS0.out⟩
  have HNA : Hid (0 < na ∧ na ≤ 20) := ⟨by omega, by omega⟩
  clear ha0 ha2
  go_wp2_with fail
  all_goals first
    | (go_ret; exact ⟨rfl, HS0.out⟩)
    | skip
  refine (zoned_any _).mono ?_
  rintro e w1 ⟨rfl, hS1⟩
  have HS1 : Hid (Since w0 w1) := hS1
  clear hS1
  go_wp2_with fail
  refine (new_any _).mono ?_
  rintro e w2 ⟨rfl, hw2⟩
  have hd2 := dev_new w1
  have hS2 := (Since.refl w1).alloc (.cells Try.zeroCells77 77)
  rw [← hw2] at hd2 hS2
  have hz2 : w2.heap.size = w1.heap.size + 1 := by rw [hw2]; simp
  clear hw2
  have HD2 : Hid (Dev w2 w1.heap.size dv0 (.slice none 0 0)) := hd2
  have HS2 : Hid (Since w1 w2) := hS2
  have HZ2 : Hid (w2.heap.size = w1.heap.size + 1) := hz2
  clear hd2 hS2 hz2
  go_wp2_with fail
  have hd3 := HD2.out.since ((Since.refl w2).alloc (.cells #[.pointer (some ⟨w1.heap.size, 0, none⟩)] 33))
  have hS3 : Since w (w2.alloc (.cells #[.pointer (some ⟨w1.heap.size, 0, none⟩)] 33)) := ((HS0.out.trans HS1.out).trans HS2.out).alloc _
  have q1 : (w2.alloc (.cells #[.pointer (some ⟨w1.heap.size, 0, none⟩)] 33)).cell? ⟨w2.heap.size, 0, none⟩ = some (.pointer (some ⟨w1.heap.size, 0, none⟩)) := by simp
  have q2 : (w2.alloc (.cells #[.pointer (some ⟨w1.heap.size, 0, none⟩)] 33)).cell? ⟨w.heap.size, 0, none⟩ = some (.slice aa na ac) := by
    have h1 := HZ0.out
    rw [((HS1.out.trans HS2.out).alloc (.cells #[.pointer (some ⟨w1.heap.size, 0, none⟩)] 33)).cell (p := ⟨w.heap.size, 0, none⟩) (by show w.heap.size < _; omega)]
    exact hB2
  have HN : Hid (w.heap.size < w1.heap.size ∧ w1.heap.size < w2.heap.size ∧ w2.heap.size < (w2.alloc (.cells #[.pointer (some ⟨w1.heap.size, 0, none⟩)] 33)).heap.size) := ⟨by have h1 := HZ0.out; have h2 := HS1.out.size; omega, by have := HZ2.out; omega, by simp⟩
  clear hB2
  generalize w2.alloc (.cells #[.pointer (some ⟨w1.heap.size, 0, none⟩)] 33) = w3 at *
  clear HD2 HS2 HZ2 HZ0 HS1 HS0
  generalize w2.heap.size = B1 at *
  generalize w1.heap.size = b at *
  have HD3 : Hid (Dev w3 b dv0 (.slice none 0 0)) := hd3
  have HS3 : Hid (Since w w3) := hS3
  have Q2 : Hid (w3.cell? ⟨w.heap.size, 0, none⟩ = some (.slice aa na ac)) := q2
  clear hd3 hS3 q2
  refine (sureF_any dv0 _ b B1 w.heap.size nl na _ _ l at_ w3 HD3.out rfl q1 (by have := HN.out; omega) Q2.out (by have := HN.out; omega) (HL.out.sl HS3.out (by have := HN.out; omega)) (HA.out.sl HS3.out (by have := HN.out; omega)) HNA.out.1 HNA.out.2 HLS.out.1 HLS.out.2 rfl (by show 0 ≤ 100; omega)).mono ?_
  rintro e w4 ⟨rfl, D1, v1, hd4, _, hfu4, hws4, hf4⟩
  have fb4 : ∀ (p : Addr) (x : Value), w3.cell? p = some x → p.block ≠ b → w4.cell? p = some x := fun p x hx hp => (hf4.cell (World.block_lt_of_cell? w3 p hx) hp (by simp)).trans hx
  replace q1 := fb4 _ _ q1 (by show B1 ≠ b; have := HN.out; omega)
  have Q2 : Hid (w4.cell? ⟨w.heap.size, 0, none⟩ = some (.slice aa na ac)) := fb4 _ _ Q2.out (by show w.heap.size ≠ b; have := HN.out; omega)
  have HD4 : Hid (Dev w4 b D1 v1) := hd4
  have HFU4 : Hid (D1.fused = false) := hfu4
  have HS4 : Hid (Since w w4) := hf4.since HS3.out (by have := HN.out; omega) (fun k h => by cases h)
  have HN4 : Hid (w3.heap.size ≤ w4.heap.size) := hf4.size
  clear hd4 hfu4 hws4 hf4 fb4
  go_wp2_with fail
  refine (sync_off D1 v1 b _ HD4.out HFU4.out).mono ?_
  rintro e w5 ⟨rfl, hd5, hf5⟩
  have fb5 : ∀ (p : Addr) (x : Value), w4.cell? p = some x → p.block ≠ b → w5.cell? p = some x := fun p x hx hp => (hf5.cell (World.block_lt_of_cell? w4 p hx) hp (by simp)).trans hx
  replace q1 := fb5 _ _ q1 (by show B1 ≠ b; have := HN.out; omega)
  have Q2 : Hid (w5.cell? ⟨w.heap.size, 0, none⟩ = some (.slice aa na ac)) := fb5 _ _ Q2.out (by show w.heap.size ≠ b; have := HN.out; omega)
  have HD5 : Hid (Dev w5 b D1.synced (.slice none 0 0)) := hd5
  have HS5 : Hid (Since w w5) := hf5.since HS4.out (by have := HN.out; omega) (fun k h => by cases h)
  have HN5 : Hid (w4.heap.size ≤ w5.heap.size) := hf5.size
  clear hd5 hf5 fb5
  go_wp2_with fail
  refine (image_any D1.synced _ b _ HD5.out).mono ?_
  rintro e w6 ⟨iv, rfl, hrow6, hS6⟩
  have HROW6 : Hid (∀ z, z < 8 → w6.ownsRow w5.heap.size 9 1 (iv z) (D1.synced.sure z) (blks (D1.synced.blk z) (D1.synced.sure z))) := hrow6
  have HS6 : Hid (Since w5 w6) := hS6
  clear hrow6 hS6
  obtain ⟨hst, hC7, hS7⟩ := image_stored w6 iv (txt 500 (D1.synced.slot 0)) (txt 500 (D1.synced.slot 1)) (icell_one HROW6.out _ _)
  unfold zImage at hst hC7 hS7
  have hL : (brow 10 (icell iv (txt 500 (D1.synced.slot 0)) (txt 500 (D1.synced.slot 1)))).length = 10 := brow_length _ _
  have q17 := ((HS6.out.trans hS7).cell (p := ⟨B1, 0, none⟩) (World.block_lt_of_cell? w5 _ q1)).trans q1
  have HS67 : Hid (Since w5 _) := HS6.out.trans hS7
  have HS7 : Hid (Since w6 _) := hS7
  have HC7 : Hid (Cel _ w6.heap.size 10 (icell iv (txt 500 (D1.synced.slot 0)) (txt 500 (D1.synced.slot 1)))) := hC7
  clear hC7 hS7 q1
  go_wp2_with fail
  generalize World.setCells _ _ _ _ = w7 at *
  clear hst
  have HB3 : Hid (w5.heap.size ≤ w6.heap.size ∧ w6.heap.size < w7.heap.size) := ⟨HS6.out.size, HC7.out.lt (by omega)⟩
  generalize w6.heap.size = B3 at *
  have HD7 : Hid (Dev w7 b D1.synced (.slice none 0 0)) := HD5.out.since HS67.out
  have HSW7 : Hid (Since w w7) := HS5.out.trans HS67.out
  have HROW7 : Hid (∀ z, z < 8 → Sl w7 b (iv z) (D1.synced.sure z) (fun j => .string (txt 128 (D1.synced.blk z j)))) := fun z hz => Sl.of_own (ownsRow_since (HROW6.out z hz) HS7.out) (by have h1 := HN.out; have h2 := HN4.out; have h3 := HN5.out; omega) (fun j hj => blks_get _ _ j hj)
  have Q2 : Hid (w7.cell? ⟨w.heap.size, 0, none⟩ = some (.slice aa na ac)) := (HS67.out.cell (p := ⟨w.heap.size, 0, none⟩) (World.block_lt_of_cell? w5 _ Q2.out)).trans Q2.out
  refine (crash_any D1.synced _ b nk ns _ _ ks sl _ HD7.out (HK.out.sl HSW7.out (by have := HN.out; omega)) (HS.out.sl HSW7.out (by have := HN.out; omega))).mono ?_
  rintro e w8 ⟨rfl, hd8, hf8⟩
  have fb8 : ∀ (p : Addr) (x : Value), w7.cell? p = some x → p.block ≠ b → w8.cell? p = some x := fun p x hx hp => (hf8.cell (World.block_lt_of_cell? w7 p hx) hp (by simp)).trans hx
  have q1 := fb8 _ _ q17 (by show B1 ≠ b; have := HN.out; omega)
  have Q2 : Hid (w8.cell? ⟨w.heap.size, 0, none⟩ = some (.slice aa na ac)) := fb8 _ _ Q2.out (by show w.heap.size ≠ b; have := HN.out; omega)
  have HC8 : Hid (Cel w8 B3 10 (icell iv (txt 500 (D1.synced.slot 0)) (txt 500 (D1.synced.slot 1)))) := HC7.out.fr hf8 (by have h1 := HN.out; have h2 := HN4.out; have h3 := HN5.out; have h4 := HB3.out; omega) (by simp)
  have HD8 : Hid (Dev w8 b (D1.synced.crashed nk ks ns sl) (.slice none 0 0)) := hd8
  have HSW8 : Hid (Since w w8) := hf8.since HSW7.out (by have := HN.out; omega) (fun k h => by cases h)
  have HROW8 : Hid (∀ z, z < 8 → Sl w8 b (iv z) (D1.synced.sure z) (fun j => .string (txt 128 (D1.synced.blk z j)))) := fun z hz => (HROW7.out z hz).fr hf8
  have HN8 : Hid (w7.heap.size ≤ w8.heap.size) := hf8.size
  clear hd8 hf8 fb8 q17
  go_wp2_with fail
  have hS4 : (fun w' : World => w'.cell? ⟨B1, 0, none⟩ = some (.pointer (some ⟨b, 0, none⟩)) ∧ w'.rangeAt B3 0 (brow 10 (icell iv (txt 500 (D1.synced.slot 0)) (txt 500 (D1.synced.slot 1))))) w8.drew := ⟨q1, by have := (HC8.out.since (Since.refl _).drew).range 0 10 (by omega); simpa only [Nat.zero_add] using this⟩
  refine wp_region_held (S := fun w' : World => w'.cell? ⟨B1, 0, none⟩ = some (.pointer (some ⟨b, 0, none⟩)) ∧ w'.rangeAt B3 0 (brow 10 (icell iv (txt 500 (D1.synced.slot 0)) (txt 500 (D1.synced.slot 1))))) (by kernel_rfl) ?_
  refine wpAnyH_take (i := 0) (v := ?v0) rfl (by kernel_rfl) (by kernel_rfl) (by kernel_rfl) (fun _ _ _ h => h) (Or.inl ⟨by rfl, ?hy0⟩) hS4 ?r0
  case hy0 => (intro w hSw; obtain ⟨s0, s1⟩ := hSw; go_simp; try with_reducible rfl)
  simp only [Act.put, List.setIfInBounds_toArray, List.set_cons_zero, List.set_cons_succ]
  refine wpAnyH_take (i := 2) (v := .agg (brow 10 (icell iv (txt 500 (D1.synced.slot 0)) (txt 500 (D1.synced.slot 1)))).toArray) rfl (by kernel_rfl) (by kernel_rfl) (by kernel_rfl) (fun _ _ _ h => h) (yieldsIf_load_mid (by rfl) 43 _ (by rfl) B3 0 (by rfl) _ _ (fun w hSw => hSw.2) Try.underlying43 (by rfl) (by rw [brow_length]; kernel_rfl)) hS4 ?r2
  simp only [Act.put, List.setIfInBounds_toArray, List.set_cons_zero, List.set_cons_succ]
  refine wpAnyH_ready (rs := [1]) (by kernel_rfl) (by simp) (AllReadyH.cons rfl (fun K hK => ?_) AllReadyH.nil)
  go_simp
  refine (image_any (D1.synced.crashed nk ks ns sl) _ b _ (HD8.out.since (Since.refl _).drew)).mono ?_
  rintro e w9 ⟨iv2, rfl, hrow9, hS9⟩
  simp only []
  have hsl := crashed_slot D1.synced nk ks ns sl rfl
  rw [hsl.1, hsl.2]
  have hS89 : Since w8 w9 := (Since.refl w8).drew.trans hS9
  have hR9 : w9.rangeAt B3 0 (brow 10 (icell iv (txt 500 (D1.synced.slot 0)) (txt 500 (D1.synced.slot 1)))) := by have := (HC8.out.since hS89).range 0 10 (by omega); simpa only [Nat.zero_add] using this
  have q19 : w9.cell? ⟨B1, 0, none⟩ = some (.pointer (some ⟨b, 0, none⟩)) := (hS89.cell (p := ⟨B1, 0, none⟩) (World.block_lt_of_cell? w8 _ q1)).trans q1
  refine hK.out _ _ ⟨q19, hR9⟩ (fun _ => ?_)
  clear hK K
  (try simp only [Act.put, List.setIfInBounds_toArray, List.set_cons_zero, List.set_cons_succ])
  refine wpAnyH_ready (rs := [3]) (by kernel_rfl) (by simp) (AllReadyH.cons rfl (fun K hK => ?_) AllReadyH.nil)
  go_simp
  have hsync := (synced_facts D1).2.2.2.2
  have hcs : ∀ z, z < 8 → (D1.synced.crashed nk ks ns sl).sure z = D1.synced.sure z := fun z hz => by
    rw [crashed_sure _ _ _ _ _ z hz, hsync z hz, show D1.synced.cnt z = D1.cnt z from rfl, kept1_same]
  refine (alike_any b iv2 iv D1.synced.sure (fun z j => txt 128 ((D1.synced.crashed nk ks ns sl).blk z j)) (fun z j => txt 128 (D1.synced.blk z j)) _ _ _ (fun z hz => ?_) (fun z hz => (HROW8.out z hz).fr (Fr.of_since hS89)) (fun z j hz hj => ?_) (fun z hz => ?_)).mono ?_
  · have h9 := hrow9 z hz
    rw [hcs z hz] at h9
    exact Sl.of_own h9 (by show b < w8.heap.size; exact HD8.out.lt) (fun j hj => blks_get _ _ j hj)
  · show txt 128 _ = txt 128 _
    rw [crashed_blk _ _ _ _ _ z j (by rw [hsync z hz] at hj ⊢; rw [show D1.synced.cnt z = D1.cnt z from rfl, kept1_same]; exact hj)]
  · have h1 := HD5.out.ok.sure z hz
    have h2 := HD5.out.ok.cnt z hz
    omega
  rintro e w10 ⟨rfl, hS10⟩
  simp only []
  have hS8x : Since w8 w10 := hS89.trans hS10
  have hR10 : w10.rangeAt B3 0 (brow 10 (icell iv (txt 500 (D1.synced.slot 0)) (txt 500 (D1.synced.slot 1)))) := by have := (HC8.out.since hS8x).range 0 10 (by omega); simpa only [Nat.zero_add] using this
  have q110 : w10.cell? ⟨B1, 0, none⟩ = some (.pointer (some ⟨b, 0, none⟩)) := (hS8x.cell (p := ⟨B1, 0, none⟩) (World.block_lt_of_cell? w8 _ q1)).trans q1
  have hS4' := hS4
  clear hS4
  refine hK.out _ _ ⟨q110, hR10⟩ (fun hS4 => ?_)
  clear hK K
  (try simp only [Act.put, List.setIfInBounds_toArray, List.set_cons_zero, List.set_cons_succ])
  refine wpAnyH_take (i := 4) (v := ?vc4) rfl (by kernel_rfl) (by kernel_rfl) (by kernel_rfl) (fun _ _ _ h => h) (Or.inl ⟨by rfl, ?hyc4⟩) hS4 ?rc4
  case hyc4 => (intro w _; go_simp; try with_reducible rfl)
  simp only [Act.put, List.setIfInBounds_toArray, List.set_cons_zero, List.set_cons_succ]
  refine wpAnyH_done (by kernel_rfl) ?_ _
  have HD10 : Hid (Dev w10 b (D1.synced.crashed nk ks ns sl) (.slice none 0 0)) := HD8.out.since hS8x
  have HSW10 : Hid (Since w w10) := HSW8.out.trans hS8x
  have HROW10 : Hid (∀ z, z < 8 → Sl w10 b (iv z) (D1.synced.sure z) (fun j => .string (txt 128 (D1.synced.blk z j)))) := fun z hz => (HROW8.out z hz).fr (Fr.of_since hS8x)
  have HC10 : Hid (Cel w10 B3 10 (icell iv (txt 500 (D1.synced.slot 0)) (txt 500 (D1.synced.slot 1)))) := HC8.out.since hS8x
  have Q2 : Hid (w10.cell? ⟨w.heap.size, 0, none⟩ = some (.slice aa na ac)) := (hS8x.cell (p := ⟨w.heap.size, 0, none⟩) (World.block_lt_of_cell? w8 _ Q2.out)).trans Q2.out
  have HB310 : Hid (b < B3 ∧ B3 < w10.heap.size) := ⟨by have h1 := HN.out; have h2 := HN4.out; have h3 := HN5.out; have h4 := HB3.out; omega, HC10.out.lt (by omega)⟩
  have HCS : Hid (∀ z, z < 8 → (D1.synced.crashed nk ks ns sl).sure z = D1.synced.sure z) := hcs
  clear hsl hS89 hR9 q19 hsync hcs hrow9 hS9 hS10 hS8x hR10 hS4 hS4' q1
  go_wp2_with fail
  refine (sureF_any (D1.synced.crashed nk ks ns sl) _ b B1 w.heap.size nm na _ _ m at_ w10 HD10.out rfl q110 (by have := HN.out; omega) Q2.out (by have := HN.out; omega) (HM.out.sl HSW10.out (by have := HN.out; omega)) (HA.out.sl HSW10.out (by have := HN.out; omega)) HNA.out.1 HNA.out.2 HMS.out.1 HMS.out.2 rfl (by show 0 ≤ 100; omega)).mono ?_
  rintro e w11 ⟨rfl, D3, v3, hd11, hsu11, hfu11, hws11, hf11⟩
  have q1 := (hf11.cell (p := ⟨B1, 0, none⟩) (World.block_lt_of_cell? w10 _ q110) (by show B1 ≠ b; have := HN.out; omega) (by simp)).trans q110
  have HD11 : Hid (Dev w11 b D3 v3) := hd11
  have HSU11 : Hid (D3.sure = (D1.synced.crashed nk ks ns sl).sure) := hsu11
  have HFU11 : Hid (D3.fused = false) := hfu11
  have HSW11 : Hid (Since w w11) := hf11.since HSW10.out (by have := HN.out; omega) (fun k h => by cases h)
  have HROW11 : Hid (∀ z, z < 8 → Sl w11 b (iv z) (D1.synced.sure z) (fun j => .string (txt 128 (D1.synced.blk z j)))) := fun z hz => (HROW10.out z hz).fr hf11
  have HC11 : Hid (Cel w11 B3 10 (icell iv (txt 500 (D1.synced.slot 0)) (txt 500 (D1.synced.slot 1)))) := HC10.out.fr hf11 (by have := HB310.out; omega) (by simp)
  have HN11 : Hid (w10.heap.size ≤ w11.heap.size) := hf11.size
  clear hd11 hsu11 hfu11 hws11 hf11 q110
  go_wp2_with fail
  obtain ⟨i0, hi, hz0, hz1, hz2⟩ := info_parts' infoS
  have HI : Hid (Try.prog.info? 9 = some i0 ∧ i0.zero = some (.string ⟨#[]⟩) ∧ i0.size = 1 ∧ i0.bytes = 16) := ⟨hi, hz0, hz1, hz2⟩
  clear hi hz0 hz1 hz2
  obtain ⟨i1, hi, hz0, hz1, hz2⟩ := info_parts' infoL
  have HJ : Hid (Try.prog.info? 29 = some i1 ∧ i1.zero = some (.slice none 0 0) ∧ i1.size = 1 ∧ i1.bytes = 24) := ⟨hi, hz0, hz1, hz2⟩
  clear hi hz0 hz1 hz2
  have Q11 : Hid (w11.cell? ⟨B1, 0, none⟩ = some (.pointer (some ⟨b, 0, none⟩))) := q1
  clear q1
  go_loopw [15, 14] (fun i x wr => ∃ (z : Nat) (xs : Nat → Value), z ≤ 8 ∧ i = .int .i64 z ∧ wr.ownsRow w11.heap.size 29 1 x z ((List.range z).map xs) ∧ (∀ y, y < z → wr.ownsRow w11.heap.size 9 1 (xs y) (D3.cnt y) (blks (D3.blk y) (D3.cnt y))) ∧ Since w11 wr) (fun i _ _ => 8 - (intOf i).toNat)
  case atStart => exact ⟨0, fun _ => undef, by omega, rfl, World.ownsRow_nil _ _ _ _, fun y hy => by omega, Since.refl _⟩
  case round =>
    obtain ⟨z, xs, hz, rfl, hall, hrows, hSr⟩ := hrel
    have HALL : Hid (wr.ownsRow w11.heap.size 29 1 u14 z ((List.range z).map xs)) := hall
    have HROWS : Hid (∀ y, y < z → wr.ownsRow w11.heap.size 9 1 (xs y) (D3.cnt y) (blks (D3.blk y) (D3.cnt y))) := hrows
    have HSR : Hid (Since w11 wr) := hSr
    clear hall hrows hSr
    by_cases hlt : z < 8
    · have hlt2 : (z : Int) < 8 := by omega
      have HDR : Hid (Dev wr b D3 v3) := HD11.out.since HSR.out
      have hc16 : D3.cnt z ≤ 16 := HDR.out.ok.cnt z hlt
      go_wp2_with fail
      generalize wr = wo at *
      generalize u14 = av14 at *
      go_loopw [17, 16] (fun i x w2 => ∃ k : Nat, k ≤ D3.cnt z ∧ i = .int .i64 k ∧ w2.ownsRow wo.heap.size 9 1 x k (blks (D3.blk z) k) ∧ Since wo w2) (fun i _ _ => D3.cnt z + 1 - (intOf i).toNat)
      case atStart => exact ⟨0, by omega, rfl, World.ownsRow_nil _ _ _ _, Since.refl _⟩
      case round =>
        obtain ⟨k, hk, rfl, hx, hS2⟩ := hrel
        have HX : Hid (wr.ownsRow wo.heap.size 9 1 u16 k (blks (D3.blk z) k)) := hx
        have HS2 : Hid (Since wo wr) := hS2
        have q1 : wr.cell? ⟨B1, 0, none⟩ = some (.pointer (some ⟨b, 0, none⟩)) := ((HSR.out.trans hS2).cell (p := ⟨B1, 0, none⟩) (World.block_lt_of_cell? w11 _ Q11.out)).trans Q11.out
        clear hx hS2
        by_cases hkl : k < D3.cnt z
        · go_wp2_with fail
          refine (read_any D3 v3 b z k _ (HDR.out.since HS2.out) hlt hkl).mono ?_
          rintro e w2 ⟨rfl, rfl⟩
          go_wp2_with (at_builtin; refine wpList_append_own _ (by rfl) _ _ _ (by rfl) wo.heap.size 9 i0 _ 1 16 Try.underlying29 HI.out.1 HI.out.2.1 HI.out.2.2.1 HI.out.2.2.2 (by rfl) (by decide) _ k (blks (D3.blk z) k) (by rfl) (World.ownsRow.alloc HX.out _) ⟨w2.heap.size, 0, none⟩ 1 1 [.string (txt 128 (D3.blk z k))] (by rfl) (by rfl) (World.news_of_block (heap_alloc_new w2 _)) (by simp [Value.oneCell']) (by unfold maxLen; omega) (by omega) (by have := HS2.out.size; simp; omega) ?_; intro x' w3 hown1 hgrow _)
          have HO1 : Hid (w3.ownsRow wo.heap.size 9 1 x' (k + 1) (blks (D3.blk z) k ++ [.string (txt 128 (D3.blk z k))])) := hown1
          have HG1 : Hid (Since wo w3) := Below.grown (Since.alloc HS2.out _) hgrow (by have := HS2.out.size; simp; omega) (fun j hj => (HX.out.lt j hj).1)
          clear hown1 hgrow
          first
          | (refine ⟨⟨k + 1, by omega, by go_num, by rw [blks_succ]; exact HO1.out, HG1.out⟩, by simp [intOf]; omega⟩)
          | (go_wp2_with fail; go_roundw; (case rel => exact ⟨k + 1, by omega, by go_num, by rw [blks_succ]; exact HO1.out, HG1.out⟩); (case measure => simp [intOf]; omega))
        · have hke : k = D3.cnt z := by omega
          subst hke
          go_wp2_with fail
          refine (read_miss D3 v3 b z (D3.cnt z : Int) _ (HDR.out.since HS2.out) hlt (by omega)).mono ?_
          rintro e w2 ⟨rfl, rfl⟩
          obtain ⟨xa, xn, xc, hxe, hxn⟩ := own_slice HX.out
          subst hxn
          subst hxe
          go_wp2_with (at_builtin; refine wpList_append_own _ (by rfl) _ _ _ (by rfl) w11.heap.size 29 i1 _ 1 24 Try.underlying47 HJ.out.1 HJ.out.2.1 HJ.out.2.2.1 HJ.out.2.2.2 (by rfl) (by decide) _ z ((List.range z).map xs) (by rfl) (World.ownsRow.alloc (ownsRow_since HALL.out HS2.out) _) ⟨w2.heap.size, 0, none⟩ 1 1 [.slice xa (D3.cnt z) xc] (by rfl) (by rfl) (World.news_of_block (heap_alloc_new w2 _)) (by simp [Value.oneCell']) (by unfold maxLen; omega) (by omega) (by have h1 := HS2.out.size; have h2 := HSR.out.size; simp; omega) ?_; intro x' w3 hown1 hgrow _)
          have HO1 : Hid (w3.ownsRow w11.heap.size 29 1 x' (z + 1) ((List.range z).map xs ++ [.slice xa (D3.cnt z) xc])) := hown1
          have HG1 : Hid (Since w11 w3) := Below.grown (Since.alloc (HSR.out.trans HS2.out) _) hgrow (by have h1 := HS2.out.size; have h2 := HSR.out.size; simp; omega) (fun j hj => (HALL.out.lt j hj).1)
          have HR1 : Hid (∀ y, y < z + 1 → w3.ownsRow w11.heap.size 9 1 (if y = z then .slice xa (D3.cnt z) xc else xs y) (D3.cnt y) (blks (D3.blk y) (D3.cnt y))) := fun y hy => by
            by_cases hyz : y = z
            · rw [if_pos hyz, hyz]
              have h1 := World.ownsRow.alloc (ownsRow_base HX.out HSR.out.size) (.cells #[.slice xa (D3.cnt z) xc] 29)
              exact h1.kept hgrow (own_ne h1 (World.ownsRow.alloc (ownsRow_since HALL.out HS2.out) _) (by decide))
            · rw [if_neg hyz]
              have h1 := World.ownsRow.alloc (ownsRow_since (HROWS.out y (by omega)) HS2.out) (.cells #[.slice xa (D3.cnt z) xc] 29)
              exact h1.kept hgrow (own_ne h1 (World.ownsRow.alloc (ownsRow_since HALL.out HS2.out) _) (by decide))
          clear hown1 hgrow
          have hmap : (List.range (z + 1)).map (fun y => if y = z then Value.slice xa (D3.cnt z) xc else xs y) = (List.range z).map xs ++ [.slice xa (D3.cnt z) xc] := by
            rw [List.range_succ, List.map_append]
            congr 1
            · exact List.map_congr_left (fun y hy => by rw [if_neg (by have := List.mem_range.1 hy; omega)])
            · simp
          have HMAP : Hid _ := hmap
          clear hmap
          first
          | (refine ⟨⟨z + 1, _, by omega, by go_num, by rw [HMAP.out]; exact HO1.out, HR1.out, HG1.out⟩, by simp [intOf]; omega⟩)
          | (go_wp2_with fail; go_roundw; (case rel => exact ⟨z + 1, _, by omega, by go_num, by rw [HMAP.out]; exact HO1.out, HR1.out, HG1.out⟩); (case measure => simp [intOf]; omega))
    · have hze : z = 8 := by omega
      subst hze
      have q1 : wr.cell? ⟨B1, 0, none⟩ = some (.pointer (some ⟨b, 0, none⟩)) := (HSR.out.cell (p := ⟨B1, 0, none⟩) (World.block_lt_of_cell? w11 _ Q11.out)).trans Q11.out
      have HSWr : Hid (Since w wr) := HSW11.out.trans HSR.out
      go_wp2_with fail
      refine (crash_any D3 v3 b nk ns _ _ ks sl _ (HD11.out.since HSR.out) (HK.out.sl HSWr.out (by have := HN.out; omega)) (HS.out.sl HSWr.out (by have := HN.out; omega))).mono ?_
      rintro e w12 ⟨rfl, hd12, hf12⟩
      have HCAP : Hid (∀ y, y < 8 → ∃ a c, xs y = .slice a (D3.cnt y) c ∧ D3.cnt y ≤ c) := fun y hy => own_slice2 (HROWS.out y hy)
      have hbase : b < w11.heap.size := HD11.out.lt
      have HAS12 : Hid (Sl w12 b u14 8 xs) := (Sl.of_own HALL.out hbase (fun j hj => by simp [hj])).fr hf12
      have HXS12 : Hid (∀ y, y < 8 → Sl w12 b (xs y) (D3.cnt y) (fun j => .string (txt 128 (D3.blk y j)))) := fun y hy => (Sl.of_own (HROWS.out y hy) hbase (fun j hj => blks_get _ _ j hj)).fr hf12
      have HWR12 : Hid (∀ y, y < 8 → Sl w12 b (iv y) (D1.synced.sure y) (fun j => .string (txt 128 (D1.synced.blk y j)))) := fun y hy => ((HROW11.out y hy).fr (Fr.of_since HSR.out)).fr hf12
      have HC12 : Hid (Cel w12 B3 10 (icell iv (txt 500 (D1.synced.slot 0)) (txt 500 (D1.synced.slot 1)))) := (HC11.out.since HSR.out).fr hf12 (by have := HB310.out; omega) (by simp)
      have HD12 : Hid (Dev w12 b (D3.crashed nk ks ns sl) (.slice none 0 0)) := hd12
      have HSW12 : Hid (Since w w12) := hf12.since HSWr.out (by have := HN.out; omega) (fun k h => by cases h)
      have q12 := (hf12.cell (p := ⟨B1, 0, none⟩) (World.block_lt_of_cell? wr _ q1) (by show B1 ≠ b; have := HN.out; omega) (by simp)).trans q1
      clear hd12 hf12 q1 hbase
      go_wp2_with fail
      refine (image_any (D3.crashed nk ks ns sl) _ b _ HD12.out).mono ?_
      rintro e w13 ⟨iv4, rfl, hrow13, hS13⟩
      have HROW13 : Hid (∀ y, y < 8 → w13.ownsRow w12.heap.size 9 1 (iv4 y) ((D3.crashed nk ks ns sl).sure y) (blks ((D3.crashed nk ks ns sl).blk y) ((D3.crashed nk ks ns sl).sure y))) := hrow13
      obtain ⟨hst, hC14, hS14⟩ := image_stored w13 iv4 (txt 500 ((D3.crashed nk ks ns sl).slot 0)) (txt 500 ((D3.crashed nk ks ns sl).slot 1)) (icell_one HROW13.out _ _)
      unfold zImage at hst hC14 hS14
      have hL4 : (brow 10 (icell iv4 (txt 500 ((D3.crashed nk ks ns sl).slot 0)) (txt 500 ((D3.crashed nk ks ns sl).slot 1)))).length = 10 := brow_length _ _
      have HS14 : Hid (Since w13 _) := hS14
      have HS1214 : Hid (Since w12 _) := hS13.trans hS14
      have HC14 : Hid (Cel _ w13.heap.size 10 (icell iv4 (txt 500 ((D3.crashed nk ks ns sl).slot 0)) (txt 500 ((D3.crashed nk ks ns sl).slot 1)))) := hC14
      have HB4 : Hid (b < w12.heap.size) := HD12.out.lt
      clear hC14 hS14 hrow13 hS13 q12
      go_wp2_with fail
      generalize World.setCells _ _ _ _ = w14 at *
      clear hst hL4 hL
      generalize w13.heap.size = B4 at *
      have HIV14 : Hid (∀ y, y < 8 → Sl w14 b (iv4 y) ((D3.crashed nk ks ns sl).sure y) (fun j => .string (txt 128 ((D3.crashed nk ks ns sl).blk y j)))) := fun y hy => Sl.of_own (ownsRow_since (HROW13.out y hy) HS14.out) HB4.out (fun j hj => blks_get _ _ j hj)
      have HAS14 : Hid (Sl w14 b u14 8 xs) := HAS12.out.fr (Fr.of_since HS1214.out)
      have HXS14 : Hid (∀ y, y < 8 → Sl w14 b (xs y) (D3.cnt y) (fun j => .string (txt 128 (D3.blk y j)))) := fun y hy => (HXS12.out y hy).fr (Fr.of_since HS1214.out)
      have HWR14 : Hid (∀ y, y < 8 → Sl w14 b (iv y) (D1.synced.sure y) (fun j => .string (txt 128 (D1.synced.blk y j)))) := fun y hy => (HWR12.out y hy).fr (Fr.of_since HS1214.out)
      have HCW14 : Hid (Cel w14 B3 10 (icell iv (txt 500 (D1.synced.slot 0)) (txt 500 (D1.synced.slot 1)))) := HC12.out.since HS1214.out
      have HSW14 : Hid (Since w w14) := HSW12.out.trans HS1214.out
      have hq : ∀ y, y < 8 → D1.synced.sure y ≤ (D3.crashed nk ks ns sl).sure y ∧ (D3.crashed nk ks ns sl).sure y ≤ D3.cnt y := fun y hy => by
        rw [crashed_sure _ _ _ _ _ y hy]
        have h1 := kept1_ge (D3.cnt y) (D3.sure y) (keepAt nk ks y)
        have h2 := kept1_le (D3.cnt y) (D3.sure y) (keepAt nk ks y) (HD11.out.ok.sure y hy)
        rw [show D3.sure y = D1.synced.sure y by rw [HSU11.out, HCS.out y hy]] at h1 h2 ⊢
        exact ⟨h1, h2⟩
      have HQ : Hid (∀ y, y < 8 → D1.synced.sure y ≤ (D3.crashed nk ks ns sl).sure y ∧ (D3.crashed nk ks ns sl).sure y ≤ D3.cnt y) := hq
      have HEQ : Hid (∀ y j, y < 8 → j < (D3.crashed nk ks ns sl).sure y → txt 128 ((D3.crashed nk ks ns sl).blk y j) = txt 128 (D3.blk y j)) := fun y j hy hj => by
        rw [crashed_sure _ _ _ _ _ y hy] at hj
        rw [crashed_blk _ _ _ _ _ y j hj]
      have HC16 : Hid (∀ y, y < 8 → D3.cnt y ≤ 16) := fun y hy => HD11.out.ok.cnt y hy
      clear hq
      generalize D3.crashed nk ks ns sl = E4 at *
      go_loopw [21] (fun i wr => ∃ z : Nat, z ≤ 8 ∧ i = .int .i64 z ∧ Since w14 wr) (fun i _ => 8 - (intOf i).toNat)
      case atStart => exact ⟨0, by omega, rfl, Since.refl _⟩
      case round =>
        obtain ⟨z, hz, rfl, hS15⟩ := hrel
        have HS15 : Hid (Since w14 wr) := hS15
        clear hS15
        by_cases hlt : z < 8
        · have hlt2 : (z : Int) < 8 := by omega
          obtain ⟨ia, ic, hie, _⟩ := HIV14.out z hlt
          obtain ⟨wa, wc, hwe, _⟩ := HWR14.out z hlt
          obtain ⟨xa, xc, hxe, hxc⟩ := HCAP.out z hlt
          obtain ⟨aa', ac', hae, hal⟩ := HAS14.out
          obtain ⟨ag, ao, hag, _, hac⟩ := hal (by omega)
          have p1 := (HCW14.out.since HS15.out).cell z (by omega)
          rw [show icell iv (txt 500 (D1.synced.slot 0)) (txt 500 (D1.synced.slot 1)) z = iv z by unfold icell; rw [if_pos hlt], hwe] at p1
          have p2 := (HS15.out.cell (p := ⟨ag, ao + z, none⟩) (World.block_lt_of_cell? w14 _ (hac z hlt))).trans (hac z hlt)
          rw [hxe] at p2
          have p3 := (HC14.out.since HS15.out).cell z (by omega)
          rw [show icell iv4 (txt 500 (E4.slot 0)) (txt 500 (E4.slot 1)) z = iv4 z by unfold icell; rw [if_pos hlt], hie] at p3
          have HE : Hid (Sl wr b (.slice ia (E4.sure z) ic) (E4.sure z) (fun j => .string (txt 128 (E4.blk z j)))) := by rw [← hie]; exact (HIV14.out z hlt).fr (Fr.of_since HS15.out)
          have HX : Hid (Sl wr b (.slice xa (D3.cnt z) xc) (D3.cnt z) (fun j => .string (txt 128 (D3.blk z j)))) := by rw [← hxe]; exact (HXS14.out z hlt).fr (Fr.of_since HS15.out)
          obtain ⟨hq1, hq2⟩ := HQ.out z hlt
          have hc16 := HC16.out z hlt
          have HTX : Hid (∀ j, j < E4.sure z → txt 128 (E4.blk z j) = txt 128 (D3.blk z j)) := fun j hj => HEQ.out z j hlt hj
          subst hag
          rw [hae]
          clear hie hwe hxe hae hal hac
          generalize E4.sure z = qz at *
          generalize D1.synced.sure z = ez at *
          generalize D3.cnt z = cz at *
          have g1 : ¬ (qz : Int) < ez := by omega
          have g2 : ¬ (cz : Int) < qz := by omega
          have g3 : (qz : Int) ≤ xc := by omega
          go_wp2_with fail
          have g4 : decide ((qz : Int) < (ez : Int)) = false := by simp; omega
          have g5 : decide ((cz : Int) < (qz : Int)) = false := by simp; omega
          go_quiet ((go_at_call 19; exact Calls.quiet_of (eq_quiet b qz _ _ _ _ _ (HE.out.fr (Fr.of_since ((Since.refl _).drewN _))) ((HX.out.take hq2).fr (Fr.of_since ((Since.refl _).drewN _))) HTX.out (by omega))))
          go_wp2_with fail
          go_roundw
          case rel => exact ⟨z + 1, by omega, by go_num, HS15.out.drewN _⟩
          case measure => simp [intOf]; omega
        · have hze : z = 8 := by omega
          subst hze
          go_wp2_with fail
          go_ret
          exact ⟨rfl, HSW14.out.trans HS15.out⟩
end Go.Proofs.Ytbehjklelnnooaa
