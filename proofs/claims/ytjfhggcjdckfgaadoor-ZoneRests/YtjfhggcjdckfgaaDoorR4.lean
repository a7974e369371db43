/- The law ZoneRests walked. -/
import Derived.Test.YtjfhggcjdckfgaaDoorRS
import Derived.Test.YtjfhggcjdckfgaaDoorE9
import Derived.Deep.RegionHeld3
namespace Go.Proofs.YtjfhggcjdckfgaaDoor
set_option linter.unusedSimpArgs false
set_option linter.unusedVariables false
open Go.RowKit

theorem Img.of_own {w : World} {base b : Nat} {iv : Nat → Value} {n : Nat → Nat} {xs : Nat → List Value} {l : Nat → Nat → ByteArray} (h : ∀ z, z < 8 → w.ownsRow base 9 1 (iv z) (n z) (xs z)) (hb : b < base) (hx : ∀ z j, z < 8 → j < n z → (xs z)[j]? = some (.string (l z j))) : Img w b iv n l where
  row z hz := by
    obtain ⟨a, c, e, hc⟩ := own_slice2 (h z hz)
    obtain ⟨a', c', e', h'⟩ := Sl.of_own (f := fun j => .string (l z j)) (h z hz) hb (fun j hj => hx z j hz hj)
    rw [e] at e'
    injection e' with h1 _ h3
    subst h1 h3
    exact ⟨a, c, e, hc, h'⟩
theorem Img.sl {w : World} {b : Nat} {iv : Nat → Value} {n : Nat → Nat} {l : Nat → Nat → ByteArray} (h : Img w b iv n l) (z : Nat) (hz : z < 8) : Sl w b (iv z) (n z) (fun j => .string (l z j)) := by
  obtain ⟨a, c, e, _, h'⟩ := h.row z hz
  exact ⟨a, c, e, h'⟩
theorem reset_off (D : Dv) (v : Value) (b z : Nat) (w : World) (hd : Dev w b D v) (hz : z < 8) (hf : D.fused = false) :
    Calls Tryd.prog 31 #[.pointer (some ⟨b, 0, none⟩), .int .i64 z] w fun e w' => e = .returned .nilIface ∧ Dev w' b (D.reset z) v ∧ Fr b none w w' := by
  have := reset_any D v b z w hd hz (may_off hf)
  rw [burnt_off hf] at this
  exact this
theorem txt_txt (m : Nat) (f : Nat → UInt8) : txt m (sb (txt m f)) = txt m f := txt_congr (fun i hi => sb_txt m f i hi)
theorem may_fuse0 (D : Dv) : (D.fuse 0).may = false := by unfold Dv.may Dv.fuse; rfl

theorem takeD {P : Program} {ops : Array Oper} {Q : Exit → Act → World → Prop} {md : Region.Mode} {S : World → Prop} {i d : Nat} {oi : Oper} {v : Value} {fuel : Nat} {listed : Array Bool} {tmps : Array Value} {dfs : List Deferred} {w : World} (hi : ops[i]? = some oi) (hd : oi.dst = some d)
    (hs : Region.noSelect ops = true) (hf : Region.free md ops listed i = true) (hr : (Region.ready md ops listed).contains i = true)
    (hQ : ∀ c a w, Q (.panic c) (a.put oi.dst v) w → Q (.panic c) a w) (hy : YieldsIf P ops S oi v ⟨tmps, dfs⟩) (hS : S w)
    (h : wpAnyH P md ops Q S fuel (listed.setIfInBounds i true) ⟨tmps.setIfInBounds d v, dfs⟩ w) : wpAnyH P md ops Q S (fuel + 1) listed ⟨tmps, dfs⟩ w :=
  wpAnyH_take hi hs hf hr hQ hy hS (by rw [hd]; exact h)
theorem wanted_by {ops : Array Oper} {o oj : Oper} {j d : Nat} {want : Bool} {tmps : Array Value} (hg : o.guard = some (j, want)) (hj : ops[j]? = some oj) (hd : oj.dst = some d) (ht : tmps[d]? = some (.bool want)) : Region.wanted o (yielded ops tmps) = true := by
  unfold Region.wanted yielded
  rw [hg]
  simp only [hj, Option.bind_some, hd, ht]
  cases want <;> rfl
theorem unwanted_by {ops : Array Oper} {o oj : Oper} {j d : Nat} {want x : Bool} {tmps : Array Value} (hg : o.guard = some (j, want)) (hj : ops[j]? = some oj) (hd : oj.dst = some d) (ht : tmps[d]? = some (.bool x)) (hne : x ≠ want) : Region.wanted o (yielded ops tmps) = false := by
  unfold Region.wanted yielded
  rw [hg]
  simp only [hj, Option.bind_some, hd, ht]
  cases want <;> cases x <;> first | rfl | exact absurd rfl hne
set_option maxRecDepth 100000 in
set_option maxHeartbeats 4000000 in
theorem rests_go (w : World) (lv mv av : Value) (nl nm na : Nat) (l m : Nat → ByteArray) (at_ : Nat → Int) (hg : Et w)
    (hl : SlA w w.heap.size lv nl (fun j => .string (l j))) (hm : SlA w w.heap.size mv nm (fun j => .string (m j))) (ha : SlA w w.heap.size av na (fun j => .int .i64 (at_ j)))
    (hl47 : nl ≤ 9223372036854775807) (hm47 : nm ≤ 9223372036854775807) (hat : ∀ j, j < na → -9223372036854775808 ≤ at_ j ∧ at_ j ≤ 9223372036854775807) :
    Calls Tryd.prog 7 #[lv, mv, av] w fun e w' => e = .returned (.bool true) ∧ Since w w' := by
  obtain ⟨la, lc, rfl, hl'⟩ := hl
  obtain ⟨ma, mc, rfl, hm'⟩ := hm
  obtain ⟨aa, ac, rfl, ha'⟩ := ha
  have HL : Hid (SlA w w.heap.size (.slice la nl lc) nl (fun j => .string (l j))) := ⟨la, lc, rfl, hl'⟩
  have HM : Hid (SlA w w.heap.size (.slice ma nm mc) nm (fun j => .string (m j))) := ⟨ma, mc, rfl, hm'⟩
  have HA : Hid (SlA w w.heap.size (.slice aa na ac) na (fun j => .int .i64 (at_ j))) := ⟨aa, ac, rfl, ha'⟩
  have HAT : Hid (∀ j, j < na → -9223372036854775808 ≤ at_ j ∧ at_ j ≤ 9223372036854775807) := hat
  have HG : Hid (Et w) := hg
  clear hl' hm' ha' hat hg
  go_enter Tryd.func7, Tryd.ntmps7
  go_wp2_with fail
  have hS0 : Since w (w.alloc (.cells #[.slice aa na ac] 51)) := (Since.refl w).alloc _
  have hB2 : (w.alloc (.cells #[.slice aa na ac] 51)).cell? ⟨w.heap.size, 0, none⟩ = some (.slice aa na ac) := by simp
  have hz0 : (w.alloc (.cells #[.slice aa na ac] 51)).heap.size = w.heap.size + 1 := by simp
  generalize w.alloc (.cells #[.slice aa na ac] 51) = w0 at *
  have HS0 : Hid (Since w w0) := hS0
  have HZ0 : Hid (w0.heap.size = w.heap.size + 1) := hz0
  clear hS0 hz0
  refine (few_any (w.heap.size + 1) nl _ l _ (HL.out.sl HS0.out (by omega)) hl47).mono ?_
  rintro e w' ⟨hx, rfl⟩
  rcases hx with ⟨rfl, hl20, hls⟩ | rfl
  case inr =>
    go_wp2_with fail
    go_ret
    exact ⟨rfl, HS0.out⟩
  have HLS : Hid (nl ≤ 20 ∧ ∀ j, j < nl → (l j).size ≤ 80) := ⟨hl20, hls⟩
  clear hl20 hls
  go_wp2_with fail
  refine (few_any (w.heap.size + 1) nm _ m _ (HM.out.sl HS0.out (by omega)) hm47).mono ?_
  rintro e w0 ⟨hx, rfl⟩
  rcases hx with ⟨rfl, hm20, hms⟩ | rfl
  case inr =>
    go_wp2_with fail
    go_ret
    exact ⟨rfl, HS0.out⟩
  have HMS : Hid (nm ≤ 20 ∧ ∀ j, j < nm → (m j).size ≤ 80) := ⟨hm20, hms⟩
  clear hm20 hms
  by_cases ha0 : na = 0
  · subst ha0
    go_wp2_with fail
    all_goals
      go_ret
      exact ⟨rfl, HS0.out⟩
  by_cases ha2 : 20 < na
  · have ha3 : (20 : Int) < na := by omega
    go_wp2_with fail
    all_goals
      go_ret
      exact ⟨rfl, HS0.out⟩
  have HNA : Hid (0 < na ∧ na ≤ 20) := ⟨by omega, by omega⟩
  clear ha0 ha2
  go_wp2_with fail
  all_goals first
    | (go_ret; exact ⟨rfl, HS0.out⟩)
    | skip
  refine (zoned_any _).mono ?_
  rintro e w1 ⟨rfl, hS1⟩
  have HS1 : Hid (Since w0 w1) := hS1
  clear hS1
  go_wp2_with fail
  refine (new_any _).mono ?_
  rintro e w2 ⟨rfl, hw2⟩
  have hd2 := dev_new w1
  have hS2 := (Since.refl w1).alloc (.cells Tryd.zeroCells155 155)
  rw [← hw2] at hd2 hS2
  have hz2 : w2.heap.size = w1.heap.size + 1 := by rw [hw2]; simp
  clear hw2
  have HD2 : Hid (Dev w2 w1.heap.size dv0 (.slice none 0 0)) := hd2
  have HS2 : Hid (Since w1 w2) := hS2
  have HZ2 : Hid (w2.heap.size = w1.heap.size + 1) := hz2
  clear hd2 hS2 hz2
  go_wp2_with fail
  have hd3 := HD2.out.since ((Since.refl w2).alloc (.cells #[.pointer (some ⟨w1.heap.size, 0, none⟩)] 49))
  have hS3 : Since w (w2.alloc (.cells #[.pointer (some ⟨w1.heap.size, 0, none⟩)] 49)) := ((HS0.out.trans HS1.out).trans HS2.out).alloc _
  have q1 : (w2.alloc (.cells #[.pointer (some ⟨w1.heap.size, 0, none⟩)] 49)).cell? ⟨w2.heap.size, 0, none⟩ = some (.pointer (some ⟨w1.heap.size, 0, none⟩)) := by simp
  have q2 : (w2.alloc (.cells #[.pointer (some ⟨w1.heap.size, 0, none⟩)] 49)).cell? ⟨w.heap.size, 0, none⟩ = some (.slice aa na ac) := by
    have h1 := HZ0.out
    rw [((HS1.out.trans HS2.out).alloc (.cells #[.pointer (some ⟨w1.heap.size, 0, none⟩)] 49)).cell (p := ⟨w.heap.size, 0, none⟩) (by show w.heap.size < _; omega)]
    exact hB2
  have HN : Hid (w.heap.size < w1.heap.size ∧ w1.heap.size < w2.heap.size ∧ w2.heap.size < (w2.alloc (.cells #[.pointer (some ⟨w1.heap.size, 0, none⟩)] 49)).heap.size) := ⟨by have h1 := HZ0.out; have h2 := HS1.out.size; omega, by have := HZ2.out; omega, by simp⟩
  clear hB2
  generalize w2.alloc (.cells #[.pointer (some ⟨w1.heap.size, 0, none⟩)] 49) = w3 at *
  clear HD2 HS2 HZ2 HZ0 HS1 HS0
  generalize w2.heap.size = B1 at *
  generalize w1.heap.size = b at *
  have HD3 : Hid (Dev w3 b dv0 (.slice none 0 0)) := hd3
  have HS3 : Hid (Since w w3) := hS3
  have Q2 : Hid (w3.cell? ⟨w.heap.size, 0, none⟩ = some (.slice aa na ac)) := q2
  clear hd3 hS3 q2
  refine (restsF_any dv0 _ b B1 w.heap.size nl na _ _ l at_ w3 HD3.out q1 (by have := HN.out; omega) Q2.out (by have := HN.out; omega) (HL.out.sl HS3.out (by have := HN.out; omega)) (HA.out.sl HS3.out (by have := HN.out; omega)) HNA.out.1 HNA.out.2 HLS.out.1 HLS.out.2 rfl).mono ?_
  rintro e w4 ⟨rfl, D1, hd4, hfu4, hf4⟩
  have fb4 : ∀ (p : Addr) (x : Value), w3.cell? p = some x → p.block ≠ b → w4.cell? p = some x := fun p x hx hp => (hf4.cell (World.block_lt_of_cell? w3 p hx) hp (by simp)).trans hx
  replace q1 := fb4 _ _ q1 (by show B1 ≠ b; have := HN.out; omega)
  have Q2 : Hid (w4.cell? ⟨w.heap.size, 0, none⟩ = some (.slice aa na ac)) := fb4 _ _ Q2.out (by show w.heap.size ≠ b; have := HN.out; omega)
  have HD4 : Hid (Dev w4 b D1 (.slice none 0 0)) := hd4
  have HFU4 : Hid (D1.fused = false) := hfu4
  have HS4 : Hid (Since w w4) := hf4.since HS3.out (by have := HN.out; omega) (fun k h => by cases h)
  have HN4 : Hid (w3.heap.size ≤ w4.heap.size) := hf4.size
  clear hd4 hfu4 hf4 fb4
  go_wp2_with fail
  refine (sync_off D1 _ b _ HD4.out HFU4.out).mono ?_
  rintro e w5 ⟨rfl, hd5, hf5⟩
  have fb5 : ∀ (p : Addr) (x : Value), w4.cell? p = some x → p.block ≠ b → w5.cell? p = some x := fun p x hx hp => (hf5.cell (World.block_lt_of_cell? w4 p hx) hp (by simp)).trans hx
  replace q1 := fb5 _ _ q1 (by show B1 ≠ b; have := HN.out; omega)
  have Q2 : Hid (w5.cell? ⟨w.heap.size, 0, none⟩ = some (.slice aa na ac)) := fb5 _ _ Q2.out (by show w.heap.size ≠ b; have := HN.out; omega)
  have HD5 : Hid (Dev w5 b D1.synced (.slice none 0 0)) := hd5
  have HS5 : Hid (Since w w5) := hf5.since HS4.out (by have := HN.out; omega) (fun k h => by cases h)
  have HN5 : Hid (w4.heap.size ≤ w5.heap.size) := hf5.size
  have HFU5 : Hid (D1.synced.fused = false) := HFU4.out
  have HC16 : Hid (∀ z, z < 8 → D1.synced.sure z ≤ 16) := fun z hz => Nat.le_trans (hd5.ok.sure z hz) (hd5.ok.cnt z hz)
  clear hd5 hf5 fb5
  generalize D1.synced = E1 at *
  go_wp2_with fail
  refine (image_any E1 _ b _ HD5.out).mono ?_
  rintro e w6 ⟨iv, rfl, hrow6, hS6⟩
  have HROW6 : Hid (∀ z, z < 8 → w6.ownsRow w5.heap.size 9 1 (iv z) (E1.sure z) (blks (E1.blk z) (E1.sure z))) := hrow6
  have HS6 : Hid (Since w5 w6) := hS6
  clear hrow6 hS6
  obtain ⟨hst, hC7, hS7⟩ := image_stored w6 iv (txt 500 (E1.slot 0)) (txt 500 (E1.slot 1)) (icell_one HROW6.out _ _)
  unfold zImage at hst hC7 hS7
  have hL : (brow 10 (icell iv (txt 500 (E1.slot 0)) (txt 500 (E1.slot 1)))).length = 10 := brow_length _ _
  have q17 := ((HS6.out.trans hS7).cell (p := ⟨B1, 0, none⟩) (World.block_lt_of_cell? w5 _ q1)).trans q1
  have HS67 : Hid (Since w5 _) := HS6.out.trans hS7
  have HS7 : Hid (Since w6 _) := hS7
  have HC7 : Hid (Cel _ w6.heap.size 10 (icell iv (txt 500 (E1.slot 0)) (txt 500 (E1.slot 1)))) := hC7
  clear hC7 hS7 q1
  go_wp2_with fail
  generalize World.setCells _ _ _ _ = w7 at *
  clear hst
  have HB3 : Hid (w5.heap.size ≤ w6.heap.size ∧ w6.heap.size < w7.heap.size) := ⟨HS6.out.size, HC7.out.lt (by omega)⟩
  generalize w6.heap.size = B3 at *
  have HBB : Hid (w.heap.size < b ∧ b < B1 ∧ B1 < B3) := by have h1 := HN.out; have h2 := HN4.out; have h3 := HN5.out; have h4 := HB3.out; exact ⟨by omega, by omega, by omega⟩
  have HD7 : Hid (Dev w7 b E1 (.slice none 0 0)) := HD5.out.since HS67.out
  have HSW7 : Hid (Since w w7) := HS5.out.trans HS67.out
  have HIM7 : Hid (Img w7 b iv E1.sure (fun z j => txt 128 (E1.blk z j))) := Img.of_own (fun z hz => ownsRow_since (HROW6.out z hz) HS7.out) (by have h1 := HN.out; have h2 := HN4.out; have h3 := HN5.out; omega) (fun z j hz hj => blks_get _ _ j hj)
  have Q2 : Hid (w7.cell? ⟨w.heap.size, 0, none⟩ = some (.slice aa na ac)) := (HS67.out.cell (p := ⟨w.heap.size, 0, none⟩) (World.block_lt_of_cell? w5 _ Q2.out)).trans Q2.out
  clear HROW6 HS6 HS67 HS7 HN HN4 HN5 HB3 HD5 HS5 HD4 HFU4 HS4 HD3 HS3
  have q1 := q17
  clear q17
  refine (restsF_any E1 _ b B1 w.heap.size nm na _ _ m at_ w7 HD7.out q1 (by have := HBB.out; omega) Q2.out (by have := HBB.out; omega) (HM.out.sl HSW7.out (by have := HBB.out; omega)) (HA.out.sl HSW7.out (by have := HBB.out; omega)) HNA.out.1 HNA.out.2 HMS.out.1 HMS.out.2 HFU5.out).mono ?_
  rintro e w8 ⟨rfl, D2, hd8, hfu8, hf8⟩
  have fb8 : ∀ (p : Addr) (x : Value), w7.cell? p = some x → p.block ≠ b → w8.cell? p = some x := fun p x hx hp => (hf8.cell (World.block_lt_of_cell? w7 p hx) hp (by simp)).trans hx
  replace q1 := fb8 _ _ q1 (by show B1 ≠ b; have := HBB.out; omega)
  have q2 := fb8 _ _ Q2.out (by show w.heap.size ≠ b; have := HBB.out; omega)
  have HC8 : Hid (Cel w8 B3 10 (icell iv (txt 500 (E1.slot 0)) (txt 500 (E1.slot 1)))) := HC7.out.fr hf8 (by have := HBB.out; omega) (by simp)
  have HIM8 : Hid (Img w8 b iv E1.sure (fun z j => txt 128 (E1.blk z j))) := HIM7.out.fr hf8
  have HD8 : Hid (Dev w8 b D2 (.slice none 0 0)) := hd8
  have HFU8 : Hid (D2.fused = false) := hfu8
  have HSW8 : Hid (Since w w8) := hf8.since HSW7.out (by have := HBB.out; omega) (fun k h => by cases h)
  obtain ⟨aa', ac', hea, ha2'⟩ := HA.out
  injection hea with h4 _ h5
  subst h4
  obtain ⟨ak, ao, rfl, hakb, hac⟩ := ha2' HNA.out.1
  have q3 := (HSW8.out.cell (p := ⟨ak, ao + 0, none⟩) hakb).trans (hac 0 HNA.out.1)
  rw [Nat.add_zero] at q3
  clear hd8 hf8 fb8 hfu8 HC7 HIM7 HD7 Q2 HSW7 HFU5 h5 hac ha2' hakb hL
  have hna0 : (0 : Int) < na := by have := HNA.out; omega
  have hna00 : 0 < na := HNA.out.1
  go_wp2_with fail
  have hat0 := HAT.out 0 hna00
  refine (pick_any _ _ hat0.1 hat0.2).mono ?_
  rintro e w9 ⟨rfl, rfl⟩
  have hz8 : pk (at_ 0) < 8 := pk_lt _
  generalize pk (at_ 0) = z at *
  clear hat0 q3 q2 hna0 hna00 HLS HMS HM HL HAT HA HNA
  have hz8' : (z : Int) < 8 := by omega
  go_wp2_with fail
  refine (reset_off D2 _ b z _ HD8.out hz8 HFU8.out).mono ?_
  rintro e w10 ⟨rfl, hd10, hf10⟩
  have fb10 : ∀ (p : Addr) (x : Value), w9.cell? p = some x → p.block ≠ b → w10.cell? p = some x := fun p x hx hp => (hf10.cell (World.block_lt_of_cell? w9 p hx) hp (by simp)).trans hx
  replace q1 := fb10 _ _ q1 (by show B1 ≠ b; have := HBB.out; omega)
  have HF10 : Hid (Fr b none w9 w10) := hf10
  have HD10 : Hid (Dev w10 b (D2.reset z) (.slice none 0 0)) := hd10
  clear hd10 hf10 fb10
  go_wp2_with fail
  refine (sync_off (D2.reset z) _ b _ HD10.out HFU8.out).mono ?_
  rintro e w11 ⟨rfl, hd11, hf11⟩
  have fb11 : ∀ (p : Addr) (x : Value), w10.cell? p = some x → p.block ≠ b → w11.cell? p = some x := fun p x hx hp => (hf11.cell (World.block_lt_of_cell? w10 p hx) hp (by simp)).trans hx
  replace q1 := fb11 _ _ q1 (by show B1 ≠ b; have := HBB.out; omega)
  have HF11 : Hid (Fr b none w9 w11) := HF10.out.trans' hf11
  have HD11 : Hid (Dev w11 b (D2.reset z).synced (.slice none 0 0)) := hd11
  have HZ11 : Hid ((D2.reset z).synced.cnt z = 0 ∧ (D2.reset z).synced.fused = false) := ⟨by show (if z = z then 0 else D2.cnt z) = 0; rw [if_pos rfl], HFU8.out⟩
  clear hd11 hf11 fb11 HF10 HD10
  generalize (D2.reset z).synced = E2 at *
  have Q1 : Hid (w11.cell? ⟨B1, 0, none⟩ = some (.pointer (some ⟨b, 0, none⟩))) := q1
  clear q1
  go_wp2_with fail
  go_loopw [11] (fun i wr => ∃ (k : Nat) (D' : Dv), k ≤ 16 ∧ i = .int .i64 k ∧ Dev wr b D' (.slice none 0 0) ∧ D'.cnt z = k ∧ D'.fused = false ∧ Fr b none w11 wr) (fun i _ => 16 - (intOf i).toNat)
  case atStart => exact ⟨0, E2, by omega, rfl, HD11.out, HZ11.out.1, HZ11.out.2, Fr.refl _ _ _⟩
  case round =>
    obtain ⟨k, D', hk, rfl, hd, hcn, hfu, hfr⟩ := hrel
    have HDR : Hid (Dev wr b D' (.slice none 0 0)) := hd
    have HCN : Hid (D'.cnt z = k) := hcn
    have HFU : Hid (D'.fused = false) := hfu
    have HFR : Hid (Fr b none w11 wr) := hfr
    clear hd hcn hfu hfr
    have q1 : wr.cell? ⟨B1, 0, none⟩ = some (.pointer (some ⟨b, 0, none⟩)) := (HFR.out.cell (p := ⟨B1, 0, none⟩) (World.block_lt_of_cell? w11 _ Q1.out) (by show B1 ≠ b; have := HBB.out; omega) (by simp)).trans Q1.out
    by_cases hlt : k < 16
    · have hlt2 : (k : Int) < 16 := by omega
      go_wp2_with fail
      refine (append_any D' _ b z tX _ HDR.out hz8 (by decide) (by rw [HCN.out]; omega) (may_off HFU.out)).mono ?_
      rintro e w12 ⟨rfl, hd12, hf12⟩
      rw [burnt_off HFU.out] at hd12
      rw [HCN.out]
      have HD12 : Hid (Dev w12 b (D'.app z tX) (.slice none 0 0)) := hd12
      have HF12 : Hid (Fr b none w11 w12) := HFR.out.trans' hf12
      have HC12 : Hid ((D'.app z tX).cnt z = k + 1) := by show (if z = z then D'.cnt z + 1 else D'.cnt z) = k + 1; rw [if_pos rfl, HCN.out]
      clear hd12 hf12 q1
      go_wp2_with fail
      go_roundw
      case rel => exact ⟨k + 1, D'.app z tX, by omega, by go_num, HD12.out, HC12.out, HFU.out, HF12.out⟩
      case measure => simp [intOf]; omega
    · have hke : 16 = k := by omega
      subst hke
      go_wp2_with fail
      refine (append_full D' _ b z tX _ HDR.out hz8 (by decide) HCN.out).mono ?_
      rintro e w12 ⟨rfl, rfl⟩
      go_wp2_with fail
      have HSW12 : Hid (Since w w12) := (HF11.out.trans' HFR.out).since HSW8.out (by have := HBB.out; omega) (fun k h => by cases h)
      refine (tell_hit 12 _ (HG.out.since HSW12.out)).mono ?_
      rintro e w13 ⟨rfl, hS13⟩
      have HF13 : Hid (Fr b none w9 w13) := (HF11.out.trans' HFR.out).trans' (Fr.of_since hS13)
      have HD13 : Hid (Dev w13 b D' (.slice none 0 0)) := HDR.out.since hS13
      have HC13 : Hid (Cel w13 B3 10 (icell iv (txt 500 (E1.slot 0)) (txt 500 (E1.slot 1)))) := HC8.out.fr HF13.out (by have := HBB.out; omega) (by simp)
      have HIM13 : Hid (Img w13 b iv E1.sure (fun z j => txt 128 (E1.blk z j))) := HIM8.out.fr HF13.out
      have HSW13 : Hid (Since w w13) := HSW12.out.trans hS13
      replace q1 := (hS13.cell (p := ⟨B1, 0, none⟩) (World.block_lt_of_cell? w12 _ q1)).trans q1
      have hR : w13.rangeAt B3 0 (brow 10 (icell iv (txt 500 (E1.slot 0)) (txt 500 (E1.slot 1)))) := by have := HC13.out.range 0 10 (by omega); simpa only [Nat.zero_add] using this
      have hL : (brow 10 (icell iv (txt 500 (E1.slot 0)) (txt 500 (E1.slot 1)))).length = 10 := brow_length _ _
      clear hS13
      go_wp2_with (refine wpList_load_mid (by rfl) 45 _ (by rfl) B3 0 (by rfl) _ _ hR Tryd.underlying45 (by rfl) (by rw [hL]; kernel_rfl) ?_)
      refine (lay_any D' _ b iv _ _ E1.sure (fun z j => txt 128 (E1.blk z j)) _ HD13.out HIM13.out).mono ?_
      rintro e w14 ⟨rfl, hd14, hf14⟩
      have fb14 : ∀ (p : Addr) (x : Value), w13.cell? p = some x → p.block ≠ b → w14.cell? p = some x := fun p x hx hp => (hf14.cell (World.block_lt_of_cell? w13 p hx) hp (by simp)).trans hx
      replace q1 := fb14 _ _ q1 (by show B1 ≠ b; have := HBB.out; omega)
      have HF14 : Hid (Fr b none w9 w14) := HF13.out.trans' hf14
      have HD14 : Hid (Dev w14 b (D'.laidBy E1.sure (fun z j => txt 128 (E1.blk z j)) (txt 500 (E1.slot 0)) (txt 500 (E1.slot 1))) (.slice none 0 0)) := hd14
      clear hR hL hd14 hf14 fb14
      go_wp2_with fail
      refine (fuse_any _ _ b 0 _ HD14.out (by omega)).mono ?_
      rintro e w15 ⟨rfl, hd15, hf15⟩
      have fb15 : ∀ (p : Addr) (x : Value), w14.cell? p = some x → p.block ≠ b → w15.cell? p = some x := fun p x hx hp => (hf15.cell (World.block_lt_of_cell? w14 p hx) hp (by simp)).trans hx
      replace q1 := fb15 _ _ q1 (by show B1 ≠ b; have := HBB.out; omega)
      have HF15 : Hid (Fr b none w9 w15) := HF14.out.trans' hf15
      have HC15 : Hid (Cel w15 B3 10 (icell iv (txt 500 (E1.slot 0)) (txt 500 (E1.slot 1)))) := HC8.out.fr HF15.out (by have := HBB.out; omega) (by simp)
      have HIM15 : Hid (Img w15 b iv E1.sure (fun z j => txt 128 (E1.blk z j))) := HIM8.out.fr HF15.out
      have HSW15 : Hid (Since w w15) := HF15.out.since HSW8.out (by have := HBB.out; omega) (fun k h => by cases h)
      have HM4 : Hid (((D'.laidBy E1.sure (fun z j => txt 128 (E1.blk z j)) (txt 500 (E1.slot 0)) (txt 500 (E1.slot 1))).fuse 0).may = false) := may_fuse0 _
      have HS4 : Hid (∀ y, y < 8 → ((D'.laidBy E1.sure (fun z j => txt 128 (E1.blk z j)) (txt 500 (E1.slot 0)) (txt 500 (E1.slot 1))).fuse 0).cnt y = E1.sure y ∧ ((D'.laidBy E1.sure (fun z j => txt 128 (E1.blk z j)) (txt 500 (E1.slot 0)) (txt 500 (E1.slot 1))).fuse 0).sure y = E1.sure y) := fun y hy => by
        have h := HC16.out y hy
        constructor
        · show (if y < 8 then min (E1.sure y) 16 else _) = _
          rw [if_pos hy]; omega
        · show (if y < 8 then min (E1.sure y) 16 else _) = _
          rw [if_pos hy]; omega
      have HK4 : Hid (∀ y j, y < 8 → j < E1.sure y → txt 128 (((D'.laidBy E1.sure (fun z j => txt 128 (E1.blk z j)) (txt 500 (E1.slot 0)) (txt 500 (E1.slot 1))).fuse 0).blk y j) = txt 128 (E1.blk y j)) := fun y j hy hj => by
        have h := HC16.out y hy
        have e : ((D'.laidBy E1.sure (fun z j => txt 128 (E1.blk z j)) (txt 500 (E1.slot 0)) (txt 500 (E1.slot 1))).fuse 0).blk y j = sb (txt 128 (E1.blk y j)) := by
          funext i
          show (if y < 8 then laidBlk (fun j => txt 128 (E1.blk y j)) (min (E1.sure y) 16) else _) j i = _
          rw [if_pos hy]
          unfold laidBlk
          rw [if_pos (by omega)]
        rw [e, txt_txt]
      have HSL4 : Hid (txt 500 (((D'.laidBy E1.sure (fun z j => txt 128 (E1.blk z j)) (txt 500 (E1.slot 0)) (txt 500 (E1.slot 1))).fuse 0).slot 0) = txt 500 (E1.slot 0) ∧ txt 500 (((D'.laidBy E1.sure (fun z j => txt 128 (E1.blk z j)) (txt 500 (E1.slot 0)) (txt 500 (E1.slot 1))).fuse 0).slot 1) = txt 500 (E1.slot 1)) := ⟨txt_txt _ _, txt_txt _ _⟩
      have HD15 : Hid (Dev w15 b ((D'.laidBy E1.sure (fun z j => txt 128 (E1.blk z j)) (txt 500 (E1.slot 0)) (txt 500 (E1.slot 1))).fuse 0) (.slice none 0 0)) := hd15
      clear hd15 hf15 fb15 HD14 HF14 HF13 HD13 HC13 HIM13 HSW13 HSW12 HFR HDR HCN HFU hk hlt HF11 HD11 HZ11 Q1 HD8 HFU8 HC8 HIM8 Q2 HF15
      generalize (D'.laidBy E1.sure (fun z j => txt 128 (E1.blk z j)) (txt 500 (E1.slot 0)) (txt 500 (E1.slot 1))).fuse 0 = D4 at *
      obtain ⟨z1, hz1⟩ : ∃ z1 : Nat, z1 = (z + 1) % 8 := ⟨_, rfl⟩
      have tm : ((z : Int) + 1).tmod 8 = (z1 : Int) := by
        rw [Int.tmod_eq_emod_of_nonneg (by omega)]; omega
      have h18 : z1 < 8 := by omega
      have h18' : (z1 : Int) < 8 := by omega
      clear hz1
      obtain ⟨ia, ic, hie, _, _⟩ := HIM15.out.row z1 h18
      have p1 := HC15.out.cell z1 (by omega)
      rw [show icell iv (txt 500 (E1.slot 0)) (txt 500 (E1.slot 1)) z1 = iv z1 by unfold icell; rw [if_pos h18], hie] at p1
      have HP1 : Hid (w15.cell? ⟨B3, z1, none⟩ = some (.slice ia (E1.sure z1) ic)) := p1
      clear p1 hie
      by_cases hfull : E1.sure z1 = 16
      · go_wp2_with fail
        refine (append_full D4 _ b z1 tX _ HD15.out h18 (by decide) (by rw [(HS4.out z1 h18).1]; exact hfull)).mono ?_
        rintro e w16 ⟨rfl, rfl⟩
        have p1 := HP1.out
        rw [hfull] at p1
        have HFL : Hid (E1.sure z1 = 16) := hfull
        clear hfull
        go_wp2_with fail
        -- REGION
        clear p1
        have hS16 : Since w16 w16.drew := (Since.refl _).drew
        have hS4 : (fun w' : World => w'.cell? ⟨B1, 0, none⟩ = some (.pointer (some ⟨b, 0, none⟩)) ∧ w'.rangeAt B3 0 (brow 10 (icell iv (txt 500 (E1.slot 0)) (txt 500 (E1.slot 1))))) w16.drew := ⟨q1, by have := (HC15.out.since hS16).range 0 10 (by omega); simpa only [Nat.zero_add] using this⟩
        refine wp_region_held (S := fun w' : World => w'.cell? ⟨B1, 0, none⟩ = some (.pointer (some ⟨b, 0, none⟩)) ∧ w'.rangeAt B3 0 (brow 10 (icell iv (txt 500 (E1.slot 0)) (txt 500 (E1.slot 1))))) (by kernel_rfl) ?_
        refine takeD (i := 0) (d := 110) (v := ?v0) rfl rfl (by kernel_rfl) (by kernel_rfl) (by kernel_rfl) (fun _ _ _ h => h) (Or.inl ⟨by rfl, ?hy0⟩) hS4 ?r0
        case hy0 => (intro w _; go_simp; try with_reducible rfl)
        simp only [Act.put, List.setIfInBounds_toArray, List.set_cons_zero, List.set_cons_succ]
        refine takeD (i := 1) (d := 111) (v := ?v1) rfl rfl (by kernel_rfl) (by kernel_rfl) (by kernel_rfl) (fun _ _ _ h => h) (Or.inl ⟨by rfl, ?hy1⟩) hS4 ?r1
        case hy1 => (intro w _; go_simp; try with_reducible rfl)
        simp only [Act.put, List.setIfInBounds_toArray, List.set_cons_zero, List.set_cons_succ]
        refine takeD (i := 2) (d := 112) (v := undef) rfl rfl (by kernel_rfl) (by kernel_rfl) (by kernel_rfl) (fun _ _ _ h => h) (Or.inr ⟨unwanted_by rfl rfl rfl rfl (by decide), rfl⟩) hS4 ?r2
        simp only [Act.put, List.setIfInBounds_toArray, List.set_cons_zero, List.set_cons_succ]
        refine takeD (i := 3) (d := 113) (v := undef) rfl rfl (by kernel_rfl) (by kernel_rfl) (by kernel_rfl) (fun _ _ _ h => h) (Or.inr ⟨unwanted_by rfl rfl rfl rfl (by decide), rfl⟩) hS4 ?r3
        simp only [Act.put, List.setIfInBounds_toArray, List.set_cons_zero, List.set_cons_succ]
        refine takeD (i := 4) (d := 114) (v := undef) rfl rfl (by kernel_rfl) (by kernel_rfl) (by kernel_rfl) (fun _ _ _ h => h) (Or.inr ⟨unwanted_by rfl rfl rfl rfl (by decide), rfl⟩) hS4 ?r4
        simp only [Act.put, List.setIfInBounds_toArray, List.set_cons_zero, List.set_cons_succ]
        refine takeD (i := 5) (d := 115) (v := ?v5) rfl rfl (by kernel_rfl) (by kernel_rfl) (by kernel_rfl) (fun _ _ _ h => h) (Or.inl ⟨by rfl, ?hy5⟩) hS4 ?r5
        case hy5 => (intro w _; go_simp; try with_reducible rfl)
        simp only [Act.put, List.setIfInBounds_toArray, List.set_cons_zero, List.set_cons_succ]
        refine takeD (i := 6) (d := 116) (v := ?v6) rfl rfl (by kernel_rfl) (by kernel_rfl) (by kernel_rfl) (fun _ _ _ h => h) (Or.inl ⟨by rfl, ?hy6⟩) hS4 ?r6
        case hy6 => (intro w _; go_simp; try with_reducible rfl)
        simp only [Act.put, List.setIfInBounds_toArray, List.set_cons_zero, List.set_cons_succ]
        refine takeD (i := 7) (d := 117) (v := ?v7) rfl rfl (by kernel_rfl) (by kernel_rfl) (by kernel_rfl) (fun _ _ _ h => h) (Or.inl ⟨wanted_by rfl rfl rfl rfl, ?hy7⟩) hS4 ?r7
        case hy7 => (intro w hSw; obtain ⟨s0, s1⟩ := hSw; go_simp; try with_reducible rfl)
        simp only [Act.put, List.setIfInBounds_toArray, List.set_cons_zero, List.set_cons_succ]
        refine wpAnyH_ready (rs := [8]) (by kernel_rfl) (by simp) (AllReadyH.cons rfl (fun K hK => ?_) AllReadyH.nil)
        rw [if_pos (wanted_by rfl rfl rfl rfl)]
        go_simp
        refine (sync_spent D4 _ b _ (HD15.out.since hS16) HM4.out).mono ?_
        rintro e wb ⟨rfl, hwb⟩
        have hsn := Since.refl wb
        rw [hwb] at hsn
        subst hwb
        simp only []
        clear hsn
        refine hK.out _ _ hS4 (fun _ => ?_)
        clear hK K
        (try simp only [Act.put, List.setIfInBounds_toArray, List.set_cons_zero, List.set_cons_succ])
        refine wpAnyH_ready (rs := [9]) (by kernel_rfl) (by simp) (AllReadyH.cons rfl (fun K hK => ?_) AllReadyH.nil)
        rw [if_pos (wanted_by rfl rfl rfl rfl)]
        go_simp
        refine (tell_hit 14 _ (HG.out.since (HSW15.out.trans hS16))).mono ?_
        rintro e wc ⟨rfl, hsn⟩
        simp only []
        have hS16 := hS16.trans hsn
        have hS4 : (fun w' : World => w'.cell? ⟨B1, 0, none⟩ = some (.pointer (some ⟨b, 0, none⟩)) ∧ w'.rangeAt B3 0 (brow 10 (icell iv (txt 500 (E1.slot 0)) (txt 500 (E1.slot 1))))) wc := ⟨(hS16.cell (p := ⟨B1, 0, none⟩) (World.block_lt_of_cell? w16 _ q1)).trans q1, by have := (HC15.out.since hS16).range 0 10 (by omega); simpa only [Nat.zero_add] using this⟩
        clear hsn
        refine hK.out _ _ hS4 (fun _ => ?_)
        clear hK K
        (try simp only [Act.put, List.setIfInBounds_toArray, List.set_cons_zero, List.set_cons_succ])
        refine takeD (i := 10) (d := 120) (v := ?v10) rfl rfl (by kernel_rfl) (by kernel_rfl) (by kernel_rfl) (fun _ _ _ h => h) (Or.inl ⟨wanted_by rfl rfl rfl rfl, ?hy10⟩) hS4 ?r10
        case hy10 => (intro w _; go_simp; try with_reducible rfl)
        simp only [Act.put, List.setIfInBounds_toArray, List.set_cons_zero, List.set_cons_succ]
        refine takeD (i := 11) (d := 121) (v := ?v11) rfl rfl (by kernel_rfl) (by kernel_rfl) (by kernel_rfl) (fun _ _ _ h => h) (Or.inl ⟨by rfl, ?hy11⟩) hS4 ?r11
        case hy11 => (intro w _; go_simp; try with_reducible rfl)
        simp only [Act.put, List.setIfInBounds_toArray, List.set_cons_zero, List.set_cons_succ]
        refine takeD (i := 12) (d := 122) (v := ?v12) rfl rfl (by kernel_rfl) (by kernel_rfl) (by kernel_rfl) (fun _ _ _ h => h) (Or.inl ⟨by rfl, ?hy12⟩) hS4 ?r12
        case hy12 => (intro w _; go_simp; try with_reducible rfl)
        simp only [Act.put, List.setIfInBounds_toArray, List.set_cons_zero, List.set_cons_succ]
        refine takeD (i := 13) (d := 123) (v := ?v13) rfl rfl (by kernel_rfl) (by kernel_rfl) (by kernel_rfl) (fun _ _ _ h => h) (Or.inl ⟨wanted_by rfl rfl rfl rfl, ?hy13⟩) hS4 ?r13
        case hy13 => (intro w hSw; obtain ⟨s0, s1⟩ := hSw; go_simp; try with_reducible rfl)
        simp only [Act.put, List.setIfInBounds_toArray, List.set_cons_zero, List.set_cons_succ]
        refine takeD (i := 14) (d := 124) (v := ?v14) rfl rfl (by kernel_rfl) (by kernel_rfl) (by kernel_rfl) (fun _ _ _ h => h) (Or.inl ⟨wanted_by rfl rfl rfl rfl, ?hy14⟩) hS4 ?r14
        case hy14 => (intro w _; go_simp; try with_reducible rfl)
        simp only [Act.put, List.setIfInBounds_toArray, List.set_cons_zero, List.set_cons_succ]
        refine wpAnyH_ready (rs := [15]) (by kernel_rfl) (by simp) (AllReadyH.cons rfl (fun K hK => ?_) AllReadyH.nil)
        rw [if_pos (wanted_by rfl rfl rfl rfl)]
        go_simp
        refine (reset_spent D4 _ b z _ (HD15.out.since hS16) hz8 HM4.out).mono ?_
        rintro e wd ⟨rfl, hwd⟩
        subst hwd
        simp only []
        refine hK.out _ _ hS4 (fun _ => ?_)
        clear hK K
        (try simp only [Act.put, List.setIfInBounds_toArray, List.set_cons_zero, List.set_cons_succ])
        refine wpAnyH_ready (rs := [16]) (by kernel_rfl) (by simp) (AllReadyH.cons rfl (fun K hK => ?_) AllReadyH.nil)
        rw [if_pos (wanted_by rfl rfl rfl rfl)]
        go_simp
        refine (tell_hit 14 _ (HG.out.since (HSW15.out.trans hS16))).mono ?_
        rintro e we ⟨rfl, hsn⟩
        simp only []
        have hS16 := hS16.trans hsn
        have hS4 : (fun w' : World => w'.cell? ⟨B1, 0, none⟩ = some (.pointer (some ⟨b, 0, none⟩)) ∧ w'.rangeAt B3 0 (brow 10 (icell iv (txt 500 (E1.slot 0)) (txt 500 (E1.slot 1))))) we := ⟨(hS16.cell (p := ⟨B1, 0, none⟩) (World.block_lt_of_cell? w16 _ q1)).trans q1, by have := (HC15.out.since hS16).range 0 10 (by omega); simpa only [Nat.zero_add] using this⟩
        clear hsn
        refine hK.out _ _ hS4 (fun _ => ?_)
        clear hK K
        (try simp only [Act.put, List.setIfInBounds_toArray, List.set_cons_zero, List.set_cons_succ])
        refine takeD (i := 17) (d := 127) (v := ?v17) rfl rfl (by kernel_rfl) (by kernel_rfl) (by kernel_rfl) (fun _ _ _ h => h) (Or.inl ⟨wanted_by rfl rfl rfl rfl, ?hy17⟩) hS4 ?r17
        case hy17 => (intro w _; go_simp; try with_reducible rfl)
        simp only [Act.put, List.setIfInBounds_toArray, List.set_cons_zero, List.set_cons_succ]
        refine takeD (i := 18) (d := 128) (v := ?v18) rfl rfl (by kernel_rfl) (by kernel_rfl) (by kernel_rfl) (fun _ _ _ h => h) (Or.inl ⟨by rfl, ?hy18⟩) hS4 ?r18
        case hy18 => (intro w _; go_simp; try with_reducible rfl)
        simp only [Act.put, List.setIfInBounds_toArray, List.set_cons_zero, List.set_cons_succ]
        refine takeD (i := 19) (d := 129) (v := ?v19) rfl rfl (by kernel_rfl) (by kernel_rfl) (by kernel_rfl) (fun _ _ _ h => h) (Or.inl ⟨by rfl, ?hy19⟩) hS4 ?r19
        case hy19 => (intro w _; go_simp; try with_reducible rfl)
        simp only [Act.put, List.setIfInBounds_toArray, List.set_cons_zero, List.set_cons_succ]
        refine takeD (i := 20) (d := 130) (v := ?v20) rfl rfl (by kernel_rfl) (by kernel_rfl) (by kernel_rfl) (fun _ _ _ h => h) (Or.inl ⟨wanted_by rfl rfl rfl rfl, ?hy20⟩) hS4 ?r20
        case hy20 => (intro w hSw; obtain ⟨s0, s1⟩ := hSw; go_simp; try with_reducible rfl)
        simp only [Act.put, List.setIfInBounds_toArray, List.set_cons_zero, List.set_cons_succ]
        refine takeD (i := 22) (d := 132) (v := .agg (brow 10 (icell iv (txt 500 (E1.slot 0)) (txt 500 (E1.slot 1)))).toArray) rfl rfl (by kernel_rfl) (by kernel_rfl) (by kernel_rfl) (fun _ _ _ h => h) (yieldsIf_load_mid (wanted_by rfl rfl rfl rfl) 45 _ (by rfl) B3 0 (by rfl) _ _ (fun w hSw => hSw.2) Tryd.underlying45 (by rfl) (by rw [brow_length]; kernel_rfl)) hS4 ?r22
        simp only [Act.put, List.setIfInBounds_toArray, List.set_cons_zero, List.set_cons_succ]
        refine wpAnyH_ready (rs := [21]) (by kernel_rfl) (by simp) (AllReadyH.cons rfl (fun K hK => ?_) AllReadyH.nil)
        rw [if_pos (wanted_by rfl rfl rfl rfl)]
        go_simp
        refine (image_any D4 _ b _ (HD15.out.since hS16)).mono ?_
        rintro e wf ⟨iv2, rfl, hrow2, hsn⟩
        rw [HSL4.out.1, HSL4.out.2]
        have hbase : b < we.heap.size := (HD15.out.since hS16).lt
        have hsn2 := hsn
        simp only []
        have hS16 := hS16.trans hsn
        have hS4 : (fun w' : World => w'.cell? ⟨B1, 0, none⟩ = some (.pointer (some ⟨b, 0, none⟩)) ∧ w'.rangeAt B3 0 (brow 10 (icell iv (txt 500 (E1.slot 0)) (txt 500 (E1.slot 1))))) wf := ⟨(hS16.cell (p := ⟨B1, 0, none⟩) (World.block_lt_of_cell? w16 _ q1)).trans q1, by have := (HC15.out.since hS16).range 0 10 (by omega); simpa only [Nat.zero_add] using this⟩
        clear hsn
        refine hK.out _ _ hS4 (fun _ => ?_)
        clear hK K
        (try simp only [Act.put, List.setIfInBounds_toArray, List.set_cons_zero, List.set_cons_succ])
        refine wpAnyH_ready (rs := [23]) (by kernel_rfl) (by simp) (AllReadyH.cons rfl (fun K hK => ?_) AllReadyH.nil)
        rw [if_pos (wanted_by rfl rfl rfl rfl)]
        go_simp
        refine (alike_any b iv2 iv E1.sure (fun z j => txt 128 (D4.blk z j)) (fun z j => txt 128 (E1.blk z j)) _ _ _ (fun y hy => ?_) (fun y hy => (HIM15.out.fr (Fr.of_since hS16)).sl y hy) (fun y j hy hj => HK4.out y j hy hj) (fun y hy => Nat.le_trans (HC16.out y hy) (by omega))).mono ?_
        · have h9 := hrow2 y hy
          rw [(HS4.out y hy).2] at h9
          exact Sl.of_own h9 hbase (fun j hj => blks_get _ _ j hj)
        rintro e wg ⟨rfl, hsn⟩
        simp only []
        have hS16 := hS16.trans hsn
        have hS4 : (fun w' : World => w'.cell? ⟨B1, 0, none⟩ = some (.pointer (some ⟨b, 0, none⟩)) ∧ w'.rangeAt B3 0 (brow 10 (icell iv (txt 500 (E1.slot 0)) (txt 500 (E1.slot 1))))) wg := ⟨(hS16.cell (p := ⟨B1, 0, none⟩) (World.block_lt_of_cell? w16 _ q1)).trans q1, by have := (HC15.out.since hS16).range 0 10 (by omega); simpa only [Nat.zero_add] using this⟩
        clear hsn
        refine hK.out _ _ hS4 (fun _ => ?_)
        clear hK K
        (try simp only [Act.put, List.setIfInBounds_toArray, List.set_cons_zero, List.set_cons_succ])
        refine takeD (i := 24) (d := 134) (v := ?v24) rfl rfl (by kernel_rfl) (by kernel_rfl) (by kernel_rfl) (fun _ _ _ h => h) (Or.inl ⟨by rfl, ?hy24⟩) hS4 ?r24
        case hy24 => (intro w _; go_simp; try with_reducible rfl)
        simp only [Act.put, List.setIfInBounds_toArray, List.set_cons_zero, List.set_cons_succ]
        refine takeD (i := 25) (d := 6) (v := ?v25) rfl rfl (by kernel_rfl) (by kernel_rfl) (by kernel_rfl) (fun _ _ _ h => h) (Or.inl ⟨by rfl, ?hy25⟩) hS4 ?r25
        case hy25 => (intro w _; go_simp; try with_reducible rfl)
        simp only [Act.put, List.setIfInBounds_toArray, List.set_cons_zero, List.set_cons_succ]
        refine wpAnyH_done (by kernel_rfl) ?_ _
        have HSE : Hid (Since w wg) := HSW15.out.trans hS16
        clear hS4 hS16 hsn2 hrow2 hbase q1
        go_wp2_with fail
        go_ret
        exact ⟨rfl, HSE.out⟩
      · have hf2 : ¬ ((E1.sure z1 : Nat) : Int) = 16 := by omega
        have h16 := HC16.out z1 h18
        go_wp2_with fail
        refine (append_spent D4 _ b z1 tX _ HD15.out h18 (by decide) (by rw [(HS4.out z1 h18).1]; omega) HM4.out).mono ?_
        rintro e w16 ⟨rfl, rfl⟩
        have p1 := HP1.out
        go_wp2_with fail
        have hbq : (((E1.sure z1 : Nat) : Int) == 16) = false := by simp; omega
        simp only [hbq]
        clear p1 hbq
        have hS16 : Since w16 w16.drew := (Since.refl _).drew
        have hS4 : (fun w' : World => w'.cell? ⟨B1, 0, none⟩ = some (.pointer (some ⟨b, 0, none⟩)) ∧ w'.rangeAt B3 0 (brow 10 (icell iv (txt 500 (E1.slot 0)) (txt 500 (E1.slot 1))))) w16.drew := ⟨q1, by have := (HC15.out.since hS16).range 0 10 (by omega); simpa only [Nat.zero_add] using this⟩
        refine wp_region_held (S := fun w' : World => w'.cell? ⟨B1, 0, none⟩ = some (.pointer (some ⟨b, 0, none⟩)) ∧ w'.rangeAt B3 0 (brow 10 (icell iv (txt 500 (E1.slot 0)) (txt 500 (E1.slot 1))))) (by kernel_rfl) ?_
        refine takeD (i := 0) (d := 110) (v := ?vb0) rfl rfl (by kernel_rfl) (by kernel_rfl) (by kernel_rfl) (fun _ _ _ h => h) (Or.inl ⟨by rfl, ?hyb0⟩) hS4 ?rb0
        case hyb0 => (intro w _; go_simp; try with_reducible rfl)
        simp only [Act.put, List.setIfInBounds_toArray, List.set_cons_zero, List.set_cons_succ]
        refine takeD (i := 1) (d := 111) (v := ?vb1) rfl rfl (by kernel_rfl) (by kernel_rfl) (by kernel_rfl) (fun _ _ _ h => h) (Or.inl ⟨by rfl, ?hyb1⟩) hS4 ?rb1
        case hyb1 => (intro w _; go_simp; try with_reducible rfl)
        simp only [Act.put, List.setIfInBounds_toArray, List.set_cons_zero, List.set_cons_succ]
        refine takeD (i := 2) (d := 112) (v := ?vb2) rfl rfl (by kernel_rfl) (by kernel_rfl) (by kernel_rfl) (fun _ _ _ h => h) (Or.inl ⟨wanted_by rfl rfl rfl rfl, ?hyb2⟩) hS4 ?rb2
        case hyb2 => (intro w _; go_simp; try with_reducible rfl)
        simp only [Act.put, List.setIfInBounds_toArray, List.set_cons_zero, List.set_cons_succ]
        refine wpAnyH_ready (rs := [3]) (by kernel_rfl) (by simp) (AllReadyH.cons rfl (fun K hK => ?_) AllReadyH.nil)
        rw [if_pos (wanted_by rfl rfl rfl rfl)]
        go_simp
        refine (tell_hit 14 _ (HG.out.since (HSW15.out.trans hS16))).mono ?_
        rintro e wa ⟨rfl, hsn⟩
        simp only []
        have hS16 := hS16.trans hsn
        have hS4 : (fun w' : World => w'.cell? ⟨B1, 0, none⟩ = some (.pointer (some ⟨b, 0, none⟩)) ∧ w'.rangeAt B3 0 (brow 10 (icell iv (txt 500 (E1.slot 0)) (txt 500 (E1.slot 1))))) wa := ⟨(hS16.cell (p := ⟨B1, 0, none⟩) (World.block_lt_of_cell? w16 _ q1)).trans q1, by have := (HC15.out.since hS16).range 0 10 (by omega); simpa only [Nat.zero_add] using this⟩
        clear hsn
        refine hK.out _ _ hS4 (fun _ => ?_)
        clear hK K
        (try simp only [Act.put, List.setIfInBounds_toArray, List.set_cons_zero, List.set_cons_succ])
        refine takeD (i := 4) (d := 114) (v := ?vb4) rfl rfl (by kernel_rfl) (by kernel_rfl) (by kernel_rfl) (fun _ _ _ h => h) (Or.inl ⟨wanted_by rfl rfl rfl rfl, ?hyb4⟩) hS4 ?rb4
        case hyb4 => (intro w _; go_simp; try with_reducible rfl)
        simp only [Act.put, List.setIfInBounds_toArray, List.set_cons_zero, List.set_cons_succ]
        refine takeD (i := 5) (d := 115) (v := ?vb5) rfl rfl (by kernel_rfl) (by kernel_rfl) (by kernel_rfl) (fun _ _ _ h => h) (Or.inl ⟨by rfl, ?hyb5⟩) hS4 ?rb5
        case hyb5 => (intro w _; go_simp; try with_reducible rfl)
        simp only [Act.put, List.setIfInBounds_toArray, List.set_cons_zero, List.set_cons_succ]
        refine takeD (i := 6) (d := 116) (v := ?vb6) rfl rfl (by kernel_rfl) (by kernel_rfl) (by kernel_rfl) (fun _ _ _ h => h) (Or.inl ⟨by rfl, ?hyb6⟩) hS4 ?rb6
        case hyb6 => (intro w _; go_simp; try with_reducible rfl)
        simp only [Act.put, List.setIfInBounds_toArray, List.set_cons_zero, List.set_cons_succ]
        refine takeD (i := 7) (d := 117) (v := ?vb7) rfl rfl (by kernel_rfl) (by kernel_rfl) (by kernel_rfl) (fun _ _ _ h => h) (Or.inl ⟨wanted_by rfl rfl rfl rfl, ?hyb7⟩) hS4 ?rb7
        case hyb7 => (intro w hSw; obtain ⟨s0, s1⟩ := hSw; go_simp; try with_reducible rfl)
        simp only [Act.put, List.setIfInBounds_toArray, List.set_cons_zero, List.set_cons_succ]
        refine wpAnyH_ready (rs := [8]) (by kernel_rfl) (by simp) (AllReadyH.cons rfl (fun K hK => ?_) AllReadyH.nil)
        rw [if_pos (wanted_by rfl rfl rfl rfl)]
        go_simp
        refine (sync_spent D4 _ b _ (HD15.out.since hS16) HM4.out).mono ?_
        rintro e wb ⟨rfl, hwb⟩
        have hsn := Since.refl wb
        rw [hwb] at hsn
        subst hwb
        simp only []
        clear hsn
        refine hK.out _ _ hS4 (fun _ => ?_)
        clear hK K
        (try simp only [Act.put, List.setIfInBounds_toArray, List.set_cons_zero, List.set_cons_succ])
        refine wpAnyH_ready (rs := [9]) (by kernel_rfl) (by simp) (AllReadyH.cons rfl (fun K hK => ?_) AllReadyH.nil)
        rw [if_pos (wanted_by rfl rfl rfl rfl)]
        go_simp
        refine (tell_hit 14 _ (HG.out.since (HSW15.out.trans hS16))).mono ?_
        rintro e wc ⟨rfl, hsn⟩
        simp only []
        have hS16 := hS16.trans hsn
        have hS4 : (fun w' : World => w'.cell? ⟨B1, 0, none⟩ = some (.pointer (some ⟨b, 0, none⟩)) ∧ w'.rangeAt B3 0 (brow 10 (icell iv (txt 500 (E1.slot 0)) (txt 500 (E1.slot 1))))) wc := ⟨(hS16.cell (p := ⟨B1, 0, none⟩) (World.block_lt_of_cell? w16 _ q1)).trans q1, by have := (HC15.out.since hS16).range 0 10 (by omega); simpa only [Nat.zero_add] using this⟩
        clear hsn
        refine hK.out _ _ hS4 (fun _ => ?_)
        clear hK K
        (try simp only [Act.put, List.setIfInBounds_toArray, List.set_cons_zero, List.set_cons_succ])
        refine takeD (i := 10) (d := 120) (v := ?vb10) rfl rfl (by kernel_rfl) (by kernel_rfl) (by kernel_rfl) (fun _ _ _ h => h) (Or.inl ⟨wanted_by rfl rfl rfl rfl, ?hyb10⟩) hS4 ?rb10
        case hyb10 => (intro w _; go_simp; try with_reducible rfl)
        simp only [Act.put, List.setIfInBounds_toArray, List.set_cons_zero, List.set_cons_succ]
        refine takeD (i := 11) (d := 121) (v := ?vb11) rfl rfl (by kernel_rfl) (by kernel_rfl) (by kernel_rfl) (fun _ _ _ h => h) (Or.inl ⟨by rfl, ?hyb11⟩) hS4 ?rb11
        case hyb11 => (intro w _; go_simp; try with_reducible rfl)
        simp only [Act.put, List.setIfInBounds_toArray, List.set_cons_zero, List.set_cons_succ]
        refine takeD (i := 12) (d := 122) (v := ?vb12) rfl rfl (by kernel_rfl) (by kernel_rfl) (by kernel_rfl) (fun _ _ _ h => h) (Or.inl ⟨by rfl, ?hyb12⟩) hS4 ?rb12
        case hyb12 => (intro w _; go_simp; try with_reducible rfl)
        simp only [Act.put, List.setIfInBounds_toArray, List.set_cons_zero, List.set_cons_succ]
        refine takeD (i := 13) (d := 123) (v := ?vb13) rfl rfl (by kernel_rfl) (by kernel_rfl) (by kernel_rfl) (fun _ _ _ h => h) (Or.inl ⟨wanted_by rfl rfl rfl rfl, ?hyb13⟩) hS4 ?rb13
        case hyb13 => (intro w hSw; obtain ⟨s0, s1⟩ := hSw; go_simp; try with_reducible rfl)
        simp only [Act.put, List.setIfInBounds_toArray, List.set_cons_zero, List.set_cons_succ]
        refine takeD (i := 14) (d := 124) (v := ?vb14) rfl rfl (by kernel_rfl) (by kernel_rfl) (by kernel_rfl) (fun _ _ _ h => h) (Or.inl ⟨wanted_by rfl rfl rfl rfl, ?hyb14⟩) hS4 ?rb14
        case hyb14 => (intro w _; go_simp; try with_reducible rfl)
        simp only [Act.put, List.setIfInBounds_toArray, List.set_cons_zero, List.set_cons_succ]
        refine wpAnyH_ready (rs := [15]) (by kernel_rfl) (by simp) (AllReadyH.cons rfl (fun K hK => ?_) AllReadyH.nil)
        rw [if_pos (wanted_by rfl rfl rfl rfl)]
        go_simp
        refine (reset_spent D4 _ b z _ (HD15.out.since hS16) hz8 HM4.out).mono ?_
        rintro e wd ⟨rfl, hwd⟩
        subst hwd
        simp only []
        refine hK.out _ _ hS4 (fun _ => ?_)
        clear hK K
        (try simp only [Act.put, List.setIfInBounds_toArray, List.set_cons_zero, List.set_cons_succ])
        refine wpAnyH_ready (rs := [16]) (by kernel_rfl) (by simp) (AllReadyH.cons rfl (fun K hK => ?_) AllReadyH.nil)
        rw [if_pos (wanted_by rfl rfl rfl rfl)]
        go_simp
        refine (tell_hit 14 _ (HG.out.since (HSW15.out.trans hS16))).mono ?_
        rintro e we ⟨rfl, hsn⟩
        simp only []
        have hS16 := hS16.trans hsn
        have hS4 : (fun w' : World => w'.cell? ⟨B1, 0, none⟩ = some (.pointer (some ⟨b, 0, none⟩)) ∧ w'.rangeAt B3 0 (brow 10 (icell iv (txt 500 (E1.slot 0)) (txt 500 (E1.slot 1))))) we := ⟨(hS16.cell (p := ⟨B1, 0, none⟩) (World.block_lt_of_cell? w16 _ q1)).trans q1, by have := (HC15.out.since hS16).range 0 10 (by omega); simpa only [Nat.zero_add] using this⟩
        clear hsn
        refine hK.out _ _ hS4 (fun _ => ?_)
        clear hK K
        (try simp only [Act.put, List.setIfInBounds_toArray, List.set_cons_zero, List.set_cons_succ])
        refine takeD (i := 17) (d := 127) (v := ?vb17) rfl rfl (by kernel_rfl) (by kernel_rfl) (by kernel_rfl) (fun _ _ _ h => h) (Or.inl ⟨wanted_by rfl rfl rfl rfl, ?hyb17⟩) hS4 ?rb17
        case hyb17 => (intro w _; go_simp; try with_reducible rfl)
        simp only [Act.put, List.setIfInBounds_toArray, List.set_cons_zero, List.set_cons_succ]
        refine takeD (i := 18) (d := 128) (v := ?vb18) rfl rfl (by kernel_rfl) (by kernel_rfl) (by kernel_rfl) (fun _ _ _ h => h) (Or.inl ⟨by rfl, ?hyb18⟩) hS4 ?rb18
        case hyb18 => (intro w _; go_simp; try with_reducible rfl)
        simp only [Act.put, List.setIfInBounds_toArray, List.set_cons_zero, List.set_cons_succ]
        refine takeD (i := 19) (d := 129) (v := ?vb19) rfl rfl (by kernel_rfl) (by kernel_rfl) (by kernel_rfl) (fun _ _ _ h => h) (Or.inl ⟨by rfl, ?hyb19⟩) hS4 ?rb19
        case hyb19 => (intro w _; go_simp; try with_reducible rfl)
        simp only [Act.put, List.setIfInBounds_toArray, List.set_cons_zero, List.set_cons_succ]
        refine takeD (i := 20) (d := 130) (v := ?vb20) rfl rfl (by kernel_rfl) (by kernel_rfl) (by kernel_rfl) (fun _ _ _ h => h) (Or.inl ⟨wanted_by rfl rfl rfl rfl, ?hyb20⟩) hS4 ?rb20
        case hyb20 => (intro w hSw; obtain ⟨s0, s1⟩ := hSw; go_simp; try with_reducible rfl)
        simp only [Act.put, List.setIfInBounds_toArray, List.set_cons_zero, List.set_cons_succ]
        refine takeD (i := 22) (d := 132) (v := .agg (brow 10 (icell iv (txt 500 (E1.slot 0)) (txt 500 (E1.slot 1)))).toArray) rfl rfl (by kernel_rfl) (by kernel_rfl) (by kernel_rfl) (fun _ _ _ h => h) (yieldsIf_load_mid (wanted_by rfl rfl rfl rfl) 45 _ (by rfl) B3 0 (by rfl) _ _ (fun w hSw => hSw.2) Tryd.underlying45 (by rfl) (by rw [brow_length]; kernel_rfl)) hS4 ?rb22
        simp only [Act.put, List.setIfInBounds_toArray, List.set_cons_zero, List.set_cons_succ]
        refine wpAnyH_ready (rs := [21]) (by kernel_rfl) (by simp) (AllReadyH.cons rfl (fun K hK => ?_) AllReadyH.nil)
        rw [if_pos (wanted_by rfl rfl rfl rfl)]
        go_simp
        refine (image_any D4 _ b _ (HD15.out.since hS16)).mono ?_
        rintro e wf ⟨iv2, rfl, hrow2, hsn⟩
        rw [HSL4.out.1, HSL4.out.2]
        have hbase : b < we.heap.size := (HD15.out.since hS16).lt
        have hsn2 := hsn
        simp only []
        have hS16 := hS16.trans hsn
        have hS4 : (fun w' : World => w'.cell? ⟨B1, 0, none⟩ = some (.pointer (some ⟨b, 0, none⟩)) ∧ w'.rangeAt B3 0 (brow 10 (icell iv (txt 500 (E1.slot 0)) (txt 500 (E1.slot 1))))) wf := ⟨(hS16.cell (p := ⟨B1, 0, none⟩) (World.block_lt_of_cell? w16 _ q1)).trans q1, by have := (HC15.out.since hS16).range 0 10 (by omega); simpa only [Nat.zero_add] using this⟩
        clear hsn
        refine hK.out _ _ hS4 (fun _ => ?_)
        clear hK K
        (try simp only [Act.put, List.setIfInBounds_toArray, List.set_cons_zero, List.set_cons_succ])
        refine wpAnyH_ready (rs := [23]) (by kernel_rfl) (by simp) (AllReadyH.cons rfl (fun K hK => ?_) AllReadyH.nil)
        rw [if_pos (wanted_by rfl rfl rfl rfl)]
        go_simp
        refine (alike_any b iv2 iv E1.sure (fun z j => txt 128 (D4.blk z j)) (fun z j => txt 128 (E1.blk z j)) _ _ _ (fun y hy => ?_) (fun y hy => (HIM15.out.fr (Fr.of_since hS16)).sl y hy) (fun y j hy hj => HK4.out y j hy hj) (fun y hy => Nat.le_trans (HC16.out y hy) (by omega))).mono ?_
        · have h9 := hrow2 y hy
          rw [(HS4.out y hy).2] at h9
          exact Sl.of_own h9 hbase (fun j hj => blks_get _ _ j hj)
        rintro e wg ⟨rfl, hsn⟩
        simp only []
        have hS16 := hS16.trans hsn
        have hS4 : (fun w' : World => w'.cell? ⟨B1, 0, none⟩ = some (.pointer (some ⟨b, 0, none⟩)) ∧ w'.rangeAt B3 0 (brow 10 (icell iv (txt 500 (E1.slot 0)) (txt 500 (E1.slot 1))))) wg := ⟨(hS16.cell (p := ⟨B1, 0, none⟩) (World.block_lt_of_cell? w16 _ q1)).trans q1, by have := (HC15.out.since hS16).range 0 10 (by omega); simpa only [Nat.zero_add] using this⟩
        clear hsn
        refine hK.out _ _ hS4 (fun _ => ?_)
        clear hK K
        (try simp only [Act.put, List.setIfInBounds_toArray, List.set_cons_zero, List.set_cons_succ])
        refine takeD (i := 24) (d := 134) (v := ?vb24) rfl rfl (by kernel_rfl) (by kernel_rfl) (by kernel_rfl) (fun _ _ _ h => h) (Or.inl ⟨by rfl, ?hyb24⟩) hS4 ?rb24
        case hyb24 => (intro w _; go_simp; try with_reducible rfl)
        simp only [Act.put, List.setIfInBounds_toArray, List.set_cons_zero, List.set_cons_succ]
        refine takeD (i := 25) (d := 6) (v := ?vb25) rfl rfl (by kernel_rfl) (by kernel_rfl) (by kernel_rfl) (fun _ _ _ h => h) (Or.inl ⟨by rfl, ?hyb25⟩) hS4 ?rb25
        case hyb25 => (intro w _; go_simp; try with_reducible rfl)
        simp only [Act.put, List.setIfInBounds_toArray, List.set_cons_zero, List.set_cons_succ]
        refine wpAnyH_done (by kernel_rfl) ?_ _
        have HSE : Hid (Since w wg) := HSW15.out.trans hS16
        clear hS4 hS16 hsn2 hrow2 hbase q1
        go_wp2_with fail
        go_ret
        exact ⟨rfl, HSE.out⟩
end Go.Proofs.YtjfhggcjdckfgaaDoor
