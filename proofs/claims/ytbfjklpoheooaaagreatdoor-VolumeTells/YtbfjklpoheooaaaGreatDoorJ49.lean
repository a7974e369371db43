import Derived.BigRegion
import Derived.Test.YtbfjklpoheooaaaGreatDoorJ30
import Derived.Test.YtbfjklpoheooaaaGreatDoorJ48
set_option linter.unusedSimpArgs false
set_option linter.unusedVariables false
section
namespace Go.Proofs.YtbfjklpoheooaaaGreatDoor
set_option maxRecDepth 100000
namespace Vl
open Go.RowKit
open Tw (Tb tcell tval ccell)
theorem icell_one (iv : Nat → Value) (s0 s1 : ByteArray) (hv : ∀ z, z < 8 → (iv z).oneCell' = true) (j : Nat) : (icell iv s0 s1 j).oneCell' = true := by
  unfold icell
  split
  · rename_i h; exact hv j h
  · split <;> rfl
theorem own_one {w : World} {base e sz n : Nat} {x : Value} {xs : List Value} (h : w.ownsRow base e sz x n xs) : x.oneCell' = true := by
  obtain ⟨a, c, rfl⟩ := row_len h
  rfl
theorem own_txt {w : World} {base n : Nat} {x : Value} {blk : Nat → Nat → UInt8} (h : w.ownsRow base 9 1 x n (blks blk n)) :
    ∃ a c, x = .slice a n c ∧ n ≤ c ∧ (0 < n → ∃ k, a = some ⟨k, 0, none⟩ ∧ base ≤ k ∧ Ty w k 9 ∧ Cel w k n (fun j => .string (txt 128 (blk j)))) := by
  rcases h.2 with ⟨rfl, rfl⟩ | ⟨g, cap, cur, rfl, hg, hh, h1, h2, h3, h4⟩
  · exact ⟨_, _, rfl, by omega, fun h => by omega⟩
  · refine ⟨_, _, rfl, h1, fun _ => ⟨g, rfl, hg, ⟨_, _, hh⟩, ⟨fun j hj => ?_, fun j hj => ?_⟩⟩⟩
    · have e : (blks blk n)[j]? = some (.string (txt 128 (blk j))) := by unfold blks; rw [List.getElem?_map, List.getElem?_range hj]; rfl
      rw [← h4, List.getElem?_take_of_lt (by omega), Array.getElem?_toList] at e
      simp [World.cell?, hh, e]
    · simp [World.frozen?, hh]
theorem kept_spoilt {w2 Y : World} {db cb rd rc : Nat} {iv : Nat → Value} {D : Dv} {zn m bo bx b rc' base : Nat} {B' s0 s1 : ByteArray} (hr : ∀ z, z < 8 → w2.ownsRow base 9 1 (iv z) (D.sure z) (blks (D.blk z) (D.sure z))) (hap : AP iv 8) (hz : zn < 8) (hv : iv zn = .slice (some ⟨bo, 0, none⟩) (m + 1) rc') (hbx : ∀ z, z < 8 → ∀ k, (iv z).ownBlock = some k → k ≠ bx) (hY1 : Y.cell? ⟨bo, m, none⟩ = some (.string B')) (hY2 : ∀ k j, k < w2.heap.size → ¬ (k = bo ∧ j = m) → k ≠ bx → Y.cell? ⟨k, j, none⟩ = w2.cell? ⟨k, j, none⟩) (hT : ∀ k t, Ty w2 k t → Ty Y k t) (hlo : db < base ∧ cb < base ∧ rd < base ∧ rc < base) (hc : Cel Y b 10 (icell iv s0 s1)) (hs : Safe Y db cb rd rc b) :
    Kept Y db cb rd rc b iv s0 s1 D.sure (fun z j => if z = zn ∧ j = m then B' else txt 128 (D.blk z j)) := by
  refine ⟨hc, hs, fun z hzz => ?_⟩
  obtain ⟨a, c, e, hcp, hh⟩ := own_txt (hr z hzz)
  refine ⟨a, c, e, hcp, fun hn => ?_⟩
  obtain ⟨k, rfl, hb, ht, hcel⟩ := hh hn
  have ek : (iv z).ownBlock = some k := by rw [e]; rfl
  refine ⟨k, 0, rfl, ⟨⟨_, hT k _ ht, by decide, by decide, by decide⟩, by omega, by omega, by omega, by omega⟩, fun j hj => ?_⟩
  rw [Nat.zero_add]
  by_cases h1 : z = zn
  · subst h1
    rw [hv] at e ek
    have hk : bo = k := by
      have : (Value.slice (some ⟨bo, 0, none⟩) (m + 1) rc').ownBlock = some bo := rfl
      rw [this] at ek
      exact Option.some.inj ek
    subst hk
    by_cases h2 : j = m
    · subst h2
      rw [if_pos ⟨rfl, rfl⟩]
      exact hY1
    · rw [if_neg (fun h => h2 h.2), hY2 bo j ht.lt (fun h => h2 h.2) (hbx z hzz bo (by rw [hv]; rfl))]
      exact hcel.cell j hj
  · have hk : k ≠ bo := hap.ne hzz hz h1 ek (by rw [hv]; rfl)
    rw [if_neg (fun h => h1 h.1), hY2 k j ht.lt (fun h => hk h.1) (hbx z hzz k ek)]
    exact hcel.cell j hj
theorem imgPa {w0 w : World} {N db cb Rb rd rc : Nat} {c : Int} {D1 D2 : Dv} (h : BD w0 w N db cb Rb rd rc D1 D2 c) :
    Calls Tryz.prog 20 #[.pointer (some ⟨db, 0, none⟩)] w fun e w' => ∃ iv, e = .returned (.agg (brow 10 (icell iv (txt 500 (D1.slot 0)) (txt 500 (D1.slot 1)))).toArray) ∧ (∀ z, z < 8 → w'.ownsRow w.heap.size 9 1 (iv z) (D1.sure z) (blks (D1.blk z) (D1.sure z))) ∧ AP iv 8 ∧ Since w w' := by
  obtain ⟨v, hp, hv⟩ := h.p
  exact image_ap D1 v db w hp.dev
theorem imgRa {w0 w : World} {N db cb Rb rd rc : Nat} {c : Int} {D1 D2 : Dv} (hok : D2.ok) (h : BD w0 w N db cb Rb rd rc D1 D2 c) :
    Calls Tryz.prog 21 #[.pointer (some ⟨rd, 0, none⟩)] w fun e w' => ∃ iv, e = .returned (.agg (brow 10 (icell iv (txt 500 (D2.slot 0)) (txt 500 (D2.slot 1)))).toArray) ∧ (∀ z, z < 8 → w'.ownsRow w.heap.size 9 1 (iv z) (D2.sure z) (blks (D2.blk z) (D2.sure z))) ∧ AP iv 8 ∧ Since w w' := by
  obtain ⟨lv, av, wv, hr⟩ := h.r.ref
  exact rimage_ap D2 lv av wv rd N w hr hok
def i10 : Array Value := #[.slice none 0 0, .slice none 0 0, .slice none 0 0, .slice none 0 0, .slice none 0 0, .slice none 0 0, .slice none 0 0, .slice none 0 0, .string ⟨#[]⟩, .string ⟨#[]⟩]
theorem i10_cel (w : World) (b : Nat) (hb : b = w.heap.size) : Cel (w.alloc (.cells i10 48)) b 10 (icell (fun _ => .slice none 0 0) ⟨#[]⟩ ⟨#[]⟩) := Cel.new w _ _ _ _ (fun j hj => by
  match j, hj with
  | 0, _ => rfl
  | 1, _ => rfl
  | 2, _ => rfl
  | 3, _ => rfl
  | 4, _ => rfl
  | 5, _ => rfl
  | 6, _ => rfl
  | 7, _ => rfl
  | 8, _ => rfl
  | 9, _ => rfl) _ hb
theorem ln10 (iv : Nat → Value) (s0 s1 : ByteArray) : (brow 10 (icell iv s0 s1)).length = 10 := brow_length _ _
theorem conv1 (w : World) (a : Int) (t : TypeId) (k cap : Nat) (hk : k = w.heap.size) :
    (convert 122 9 (.slice (some ⟨k, 0, none⟩) 1 cap)).run Tryz.prog (w.alloc (.cells #[.int .u8 a] t)) = .ok (.string (strOfNums [a])) (w.alloc (.cells #[.int .u8 a] t)) := by
  subst hk
  refine run_convert_bytes_arg _ 122 5 Tryz.underlying122 Tryz.underlying5 w.heap.size 0 1 cap [a] rfl (fun i hi => ?_) 9 Tryz.underlying9
  have hi0 : i = 0 := by simp at hi; omega
  subst hi0
  rw [World.cell?_alloc_new]
  rfl
theorem conv1d (w : World) (a : Int) (t : TypeId) (k cap : Nat) (hk : k = w.heap.size) :
    (convert 122 9 (.slice (some ⟨k, 0, none⟩) 1 cap)).run Tryz.prog (w.alloc (.cells #[.int .u8 a] t)).drew = .ok (.string (strOfNums [a])) (w.alloc (.cells #[.int .u8 a] t)).drew := by
  subst hk
  refine run_convert_bytes_arg _ 122 5 Tryz.underlying122 Tryz.underlying5 w.heap.size 0 1 cap [a] rfl (fun i hi => ?_) 9 Tryz.underlying9
  have hi0 : i = 0 := by simp at hi; omega
  subst hi0
  show (w.alloc (.cells #[.int .u8 a] t)).cell? _ = _
  rw [World.cell?_alloc_new]
  rfl
attribute [local go_sem ↓] conv1 conv1d strOfNums_size ByteArray.size_append
section
variable {w0 w w' : World} {N db cb Rb rd rc : Nat} {c : Int} {D : Dv}
set_option maxHeartbeats 8000000 in
theorem spoils_any (z a : Int) (h : BD w0 w N db cb Rb rd rc D D c) (hws : D.ws.length ≤ 1) :
    Calls Tryz.prog 24 #[.pointer (some ⟨db, 0, none⟩), .pointer (some ⟨rd, 0, none⟩), .int .i64 z, .int .i64 a] w fun e w' => e = .returned (.tuple #[]) ∧ ∃ D', BD w0 w' N db cb Rb rd rc D' D' c ∧ D'.ws.length ≤ 1 ∧ Keeps w w' db cb rd rc := by
  have H : Hid (BD w0 w N db cb Rb rd rc D D c) := h
  have HWS : Hid (D.ws.length ≤ 1) := hws
  have HOK : Hid (D.ok) := h.dok
  clear h hws
  go_enter Tryz.func24, Tryz.ntmps24
  go_wp2_with fail
  refine (imgRa HOK.out H.out).mono ?_
  rintro e w1 ⟨iv1, rfl, hr1, hap1, h1⟩
  have HA1 : Hid (AP iv1 8) := hap1
  have HL1 : Hid (w.heap.size ≤ w1.heap.size) := h1.size
  clear hap1
  have H1 : Hid (BD w0 w1 N db cb Rb rd rc D D c) := H.out.go h1
  have HR1 : Hid (∀ z, z < 8 → w1.ownsRow w.heap.size 9 1 (iv1 z) (D.sure z) (blks (D.blk z) (D.sure z))) := hr1
  have HS1 : Hid (Since w w1) := h1
  clear hr1 h1
  go_wp2_with fail
  refine (imgPa H1.out).mono ?_
  rintro e w2 ⟨iv2, rfl, hr2, hap2, h2⟩
  have HA2 : Hid (AP iv2 8) := hap2
  clear hap2
  have H2 : Hid (BD w0 w2 N db cb Rb rd rc D D c) := H1.out.go h2
  have HR2 : Hid (∀ z, z < 8 → w2.ownsRow w1.heap.size 9 1 (iv2 z) (D.sure z) (blks (D.blk z) (D.sure z))) := hr2
  have HR1b : Hid (∀ z, z < 8 → w2.ownsRow w.heap.size 9 1 (iv1 z) (D.sure z) (blks (D.blk z) (D.sure z))) := fun z hz => ownsRow_since (HR1.out z hz) h2
  have HS2 : Hid (Since w w2) := HS1.out.trans h2
  have HAP : Hid (∀ zz, zz < 8 → ∀ k, (iv1 zz).ownBlock = some k → k < w1.heap.size) := fun zz hz k hk => ((HR1.out zz hz).lt k hk).2
  clear hr2 h2 H1 HR1 HS1
  generalize txt 500 (D.slot 0) = s0 at *
  generalize txt 500 (D.slot 1) = s1 at *
  have hz1 := i10_cel w2 w2.heap.size rfl
  have hz1b := hz1.since ((Since.refl _).alloc (.cells i10 48))
  have hz2 := i10_cel (w2.alloc (.cells i10 48)) (w2.heap.size + 1) (World.size_alloc _ _).symm
  have o1 := fun j (_ : j < 10) => icell_one iv1 s0 s1 (fun z hz => own_one (HR1b.out z hz)) j
  have o2 := fun j (_ : j < 10) => icell_one iv2 s0 s1 (fun z hz => own_one (HR2.out z hz)) j
  have hc8 := hz1b.setRow 0 10 (by omega) (icell iv1 s0 s1)
  have HC8 : Hid (Cel (((w2.alloc (.cells i10 48)).alloc (.cells i10 48)).setCells w2.heap.size 0 (brow 10 (icell iv1 s0 s1))) w2.heap.size 10 (icell iv1 s0 s1)) := hc8.congr (fun j hj => by unfold updl; rw [if_pos (by omega)]; rfl)
  have hc9 := hz2.setRow_other (b' := w2.heap.size) (o' := 0) (brow 10 (icell iv1 s0 s1)) (by omega)
  have HC9 : Hid (Cel ((((w2.alloc (.cells i10 48)).alloc (.cells i10 48)).setCells w2.heap.size 0 (brow 10 (icell iv1 s0 s1))).setCells (w2.heap.size + 1) 0 (brow 10 (icell iv2 s0 s1))) (w2.heap.size + 1) 10 (icell iv2 s0 s1)) := (hc9.setRow 0 10 (by omega) (icell iv2 s0 s1)).congr (fun j hj => by unfold updl; rw [if_pos (by omega)]; rfl)
  have HC8b : Hid (Cel ((((w2.alloc (.cells i10 48)).alloc (.cells i10 48)).setCells w2.heap.size 0 (brow 10 (icell iv1 s0 s1))).setCells (w2.heap.size + 1) 0 (brow 10 (icell iv2 s0 s1))) w2.heap.size 10 (icell iv1 s0 s1)) := HC8.out.setRow_other _ (by omega)
  have HS3 : Hid (Since w2 ((((w2.alloc (.cells i10 48)).alloc (.cells i10 48)).setCells w2.heap.size 0 (brow 10 (icell iv1 s0 s1))).setCells (w2.heap.size + 1) 0 (brow 10 (icell iv2 s0 s1)))) := ((((Since.refl w2).alloc _).alloc _).setCells (Nat.le_refl _) _ _).setCells (by omega) _ _
  have HTB1 : Hid (Ty ((((w2.alloc (.cells i10 48)).alloc (.cells i10 48)).setCells w2.heap.size 0 (brow 10 (icell iv1 s0 s1))).setCells (w2.heap.size + 1) 0 (brow 10 (icell iv2 s0 s1))) w2.heap.size 48) := Ty.setCells _ _ _ _ (Ty.setCells _ _ _ _ ((Ty.new w2 i10 48).since ((Since.refl _).alloc _)))
  have HTB2 : Hid (Ty ((((w2.alloc (.cells i10 48)).alloc (.cells i10 48)).setCells w2.heap.size 0 (brow 10 (icell iv1 s0 s1))).setCells (w2.heap.size + 1) 0 (brow 10 (icell iv2 s0 s1))) (w2.heap.size + 1) 48) := by
    have e : (w2.alloc (.cells i10 48)).heap.size = w2.heap.size + 1 := World.size_alloc _ _
    have h := Ty.new (w2.alloc (.cells i10 48)) i10 48
    rw [e] at h
    exact Ty.setCells _ _ _ _ (Ty.setCells _ _ _ _ h)
  have t1 := hz1b.there 0 10 (by omega)
  have t2 := hc9.there 0 10 (by omega)
  have l1 := ln10 iv1 s0 s1
  have l2 := ln10 iv2 s0 s1
  have a1 : (brow 10 (icell iv1 s0 s1)).toArray.all (·.oneCell') = true := all_oneCell_toArray (brow_one _ _ o1)
  have a2 : (brow 10 (icell iv2 s0 s1)).toArray.all (·.oneCell') = true := all_oneCell_toArray (brow_one _ _ o2)
  clear hz1 hz1b hz2 hc8 hc9 o1 o2 HC8
  generalize brow 10 (icell iv1 s0 s1) = c1 at *
  generalize brow 10 (icell iv2 s0 s1) = c2 at *
  have t1' : ((w2.alloc (.cells i10 48)).alloc (.cells i10 48)).there w2.heap.size 0 c1.toArray.size := by
    have e : c1.toArray.size = 10 := by rw [List.size_toArray]; exact l1
    rw [e]; exact t1
  have t2' : (((w2.alloc (.cells i10 48)).alloc (.cells i10 48)).setCells w2.heap.size 0 c1).there (w2.heap.size + 1) 0 c2.toArray.size := by
    have e : c2.toArray.size = 10 := by rw [List.size_toArray]; exact l2
    rw [e]; exact t2
  clear t1 t2
  go_upto_region 1 with (first
    | refine wpList_store_mid (by rfl) 48 _ _ (by rfl) w2.heap.size 0 c1.toArray (by rfl) (by rfl) t1' (by rw [List.size_toArray, l1]; kernel_rfl) a1 ?_
    | refine wpList_store_mid (by rfl) 48 _ _ (by rfl) (w2.heap.size + 1) 0 c2.toArray (by rfl) (by rfl) t2' (by rw [List.size_toArray, l2]; kernel_rfl) a2 ?_)
  clear t1' t2'
  have e10 : i10 = #[.slice none 0 0, .slice none 0 0, .slice none 0 0, .slice none 0 0, .slice none 0 0, .slice none 0 0, .slice none 0 0, .slice none 0 0, .string ⟨#[]⟩, .string ⟨#[]⟩] := rfl
  rw [← e10]
  clear e10
  generalize (((w2.alloc (.cells i10 48)).alloc (.cells i10 48)).setCells w2.heap.size 0 c1).setCells (w2.heap.size + 1) 0 c2 = W at *
  have HX : ∀ w', Since W w' → ∃ D', BD w0 w' N db cb Rb rd rc D' D' c ∧ D'.ws.length ≤ 1 ∧ Keeps w w' db cb rd rc := fun w' hw => ⟨D, (H2.out.go HS3.out).go hw, HWS.out, Keeps.of_since ((HS2.out.trans HS3.out).trans hw)⟩
  by_cases hz0 : z < 0
  · go_wp2_with fail
    (try simp only [Exit.inBlock, Exit.then])
    refine bodyPost_ret (results_none rfl _ _ _) rfl ?_
    exact ⟨rfl, HX _ (by first | exact Since.refl _ | exact (Since.refl _).drew)⟩
  by_cases hz8 : 8 ≤ z
  · have h1 : decide (z < 0) = false := by simp; omega
    have h2 : decide (z ≥ 8) = true := by simp; omega
    go_wp2_with fail
    (try simp only [Exit.inBlock, Exit.then])
    refine bodyPost_ret (results_none rfl _ _ _) rfl ?_
    exact ⟨rfl, HX _ (by first | exact Since.refl _ | exact (Since.refl _).drew)⟩
  obtain ⟨zn, rfl⟩ : ∃ zn : Nat, z = zn := ⟨z.toNat, by omega⟩
  have hzn : zn < 8 := by omega
  have hz2 : (zn : Int) < 8 := by omega
  obtain ⟨ra1, rc1, hv1, hrc1, hk1⟩ := own_txt (HR1b.out zn hzn)
  obtain ⟨ra2, rc2, hv2, hrc2, hk2⟩ := own_txt (HR2.out zn hzn)
  have q1 := HC8b.out.cell zn (by omega)
  have q2 := HC9.out.cell zn (by omega)
  rw [show icell iv1 s0 s1 zn = iv1 zn by unfold icell; rw [if_pos hzn], hv1] at q1
  rw [show icell iv2 s0 s1 zn = iv2 zn by unfold icell; rw [if_pos hzn], hv2] at q2
  have HV1 : Hid (iv1 zn = .slice ra1 (D.sure zn) rc1) := hv1
  have HV2 : Hid (iv2 zn = .slice ra2 (D.sure zn) rc2) := hv2
  clear hv1 hv2 hz0 hz8
  by_cases hL : D.sure zn = 0
  · have HK1 : Hid _ := hk1
    have HK2 : Hid _ := hk2
    clear hk1 hk2
    rw [hL] at q1 q2
    go_wp2_with fail
    (try simp only [Exit.inBlock, Exit.then])
    refine bodyPost_ret (results_none rfl _ _ _) rfl ?_
    exact ⟨rfl, HX _ (by first | exact Since.refl _ | exact (Since.refl _).drew)⟩
  obtain ⟨b1, rfl, hb1, ht1, hc1⟩ := hk1 (by omega)
  obtain ⟨b2, rfl, hb2, ht2, hc2⟩ := hk2 (by omega)
  clear hk1 hk2
  by_cases ha0 : a < 0
  · go_wp2_with fail
    (try simp only [Exit.inBlock, Exit.then])
    refine bodyPost_ret (results_none rfl _ _ _) rfl ?_
    exact ⟨rfl, HX _ (by first | exact Since.refl _ | exact (Since.refl _).drew)⟩
  by_cases ha8 : 128 ≤ a
  · have h1 : decide (a < 0) = false := by simp; omega
    have h2 : decide (a ≥ 128) = true := by simp; omega
    go_wp2_with fail
    (try simp only [Exit.inBlock, Exit.then])
    refine bodyPost_ret (results_none rfl _ _ _) rfl ?_
    exact ⟨rfl, HX _ (by first | exact Since.refl _ | exact (Since.refl _).drew)⟩
  obtain ⟨an, rfl⟩ : ∃ an : Nat, a = an := ⟨a.toNat, by omega⟩
  have han : an < 128 := by omega
  have ha2 : (an : Int) < 128 := by omega
  clear ha0 ha8
  obtain ⟨m, hm⟩ : ∃ m, D.sure zn = m + 1 := ⟨D.sure zn - 1, (Nat.succ_pred_eq_of_pos (Nat.pos_of_ne_zero hL)).symm⟩
  have hm16 : m < 16 := by
    have h1 := HOK.out.cnt zn hzn
    have h2 := HOK.out.sure zn hzn
    omega
  have hmi : (m : Int) < 16 := by omega
  have hmw : wrap64 (m : Int) = m := by unfold wrap64; omega
  have HV1b := HV1.out
  have HV2b := HV2.out
  clear HV1 HV2
  rw [hm] at q1 q2 hc1 hc2 hrc1 hrc2 HV1b HV2b
  have HV1 : Hid _ := HV1b
  have HV2 : Hid _ := HV2b
  clear HV1b HV2b
  have HM : Hid (D.sure zn = m + 1) := hm
  clear hm hL
  have d1 := (hc1.since HS3.out).cell m (by omega)
  have hBz : (txt 128 (D.blk zn m)).size = 128 := txt_size _ _
  have HC1 : Hid (Cel w2 b1 (m + 1) (fun j => .string (txt 128 (D.blk zn j)))) := hc1
  have HC2 : Hid (Cel w2 b2 (m + 1) (fun j => .string (txt 128 (D.blk zn j)))) := hc2
  have HB1 : Hid (w.heap.size ≤ b1) := hb1
  have HB2 : Hid (w1.heap.size ≤ b2) := hb2
  have HT1 : Hid (Ty w2 b1 9) := ht1
  have HT2 : Hid (Ty w2 b2 9) := ht2
  clear hc1 hc2 hb1 hb2 ht1 ht2
  generalize hB : txt 128 (D.blk zn m) = B at *
  have HB : Hid (txt 128 (D.blk zn m) = B) := hB
  clear hB
  have g1 : decide ((zn : Int) < 0) = false := decide_eq_false (by omega)
  have g2 : decide (8 ≤ (zn : Int)) = false := by simp; omega
  have g3 : (((m : Int) + 1) == 0) = false := by simp; omega
  have g4 : decide ((an : Int) < 0) = false := decide_eq_false (by omega)
  have g5 : decide (128 ≤ (an : Int)) = false := by simp; omega
  go_upto_region 4 with fail
  go_cut [11] (fun t11 wx => ∃ B', t11 = .string B' ∧ Since W wx)
  case first =>
    clear q1 q2 d1
    have sx1 : (B.extract 0 an).size = an := by rw [ByteArray.size_extract]; omega
    have sx2 : (B.extract (an + 1) 128).size = 127 - an := by rw [ByteArray.size_extract]; omega
    have hal : (an : Int) ≤ 128 := by omega
    go_region
    all_goals
      go_wp2_with fail
      go_meet
      case rel => exact ⟨_, rfl, by first | exact ((Since.refl W).alloc _).drew | exact (Since.refl W).drew.alloc _ | exact (Since.refl W).drew.alloc _ |>.drew⟩
  case rest =>
  obtain ⟨B', rfl, hs4⟩ := hcut
  have HN12 : b1 ≠ b2 := by
    have h1 := HAP.out zn hzn b1 (by rw [HV1.out]; rfl)
    have h2 := HB2.out
    omega
  have hl1 : b1 < w2.heap.size := HT1.out.lt
  have hl2 : b2 < w2.heap.size := HT2.out.lt
  have n1 : ¬ b1 = b2 := HN12
  have n2 : ¬ b2 = b1 := fun e => HN12 e.symm
  have n3 : ¬ b1 = w2.heap.size + 1 := by omega
  have n4 : ¬ b1 = w2.heap.size := by omega
  have n5 : ¬ b2 = w2.heap.size + 1 := by omega
  have n6 : ¬ w2.heap.size + 1 = b1 := by omega
  have n7 : ¬ w2.heap.size = b1 := by omega
  have n8 : ¬ b2 = w2.heap.size := by omega
  have n9 : ¬ w2.heap.size + 1 = b2 := by omega
  have n10 : ¬ w2.heap.size = b2 := by omega
  have HS4 : Hid (Since W wc.drew) := hs4.drew
  have hc8 : Cel wc.drew w2.heap.size 10 (icell iv1 s0 s1) := HC8b.out.since HS4.out
  have hc9 : Cel wc.drew (w2.heap.size + 1) 10 (icell iv2 s0 s1) := HC9.out.since HS4.out
  have hc1 : Cel wc.drew b1 (m + 1) (fun j => .string (txt 128 (D.blk zn j))) := HC1.out.since (HS3.out.trans HS4.out)
  have hc2 : Cel wc.drew b2 (m + 1) (fun j => .string (txt 128 (D.blk zn j))) := HC2.out.since (HS3.out.trans HS4.out)
  have p1 := hc8.cell zn (by omega)
  have p2 := hc9.cell zn (by omega)
  rw [show icell iv1 s0 s1 zn = iv1 zn by unfold icell; rw [if_pos hzn], HV1.out] at p1
  rw [show icell iv2 s0 s1 zn = iv2 zn by unfold icell; rw [if_pos hzn], HV2.out] at p2
  have p3 := hc1.cell m (by omega)
  have p4 := hc2.cell m (by omega)
  have p5 := hc1.frozen m (by omega)
  have p6 := hc2.frozen m (by omega)
  have hc2w : Cel (wc.setCell ⟨b1, m, none⟩ (.string B')).drew b2 (m + 1) (fun j => .string (txt 128 (D.blk zn j))) := ((HC2.out.since (HS3.out.trans hs4)).other (a := ⟨b1, m, none⟩) n1 (.string B')).since (Since.refl _).drew
  have p7 := hc2w.cell m (by omega)
  have p8 := hc2w.frozen m (by omega)
  have hc9w : Cel (wc.setCell ⟨b1, m, none⟩ (.string B')).drew (w2.heap.size + 1) 10 (icell iv2 s0 s1) := ((HC9.out.since hs4).other (a := ⟨b1, m, none⟩) n3 (.string B')).since (Since.refl _).drew
  have p9 := hc9w.cell zn (by omega)
  rw [show icell iv2 s0 s1 zn = iv2 zn by unfold icell; rw [if_pos hzn], HV2.out] at p9
  rw [HB.out] at p3 p4 p7
  clear hc2w hc9w
  have HC8 : Hid (Cel wc.drew w2.heap.size 10 (icell iv1 s0 s1)) := hc8
  have HC9b : Hid (Cel wc.drew (w2.heap.size + 1) 10 (icell iv2 s0 s1)) := hc9
  have HS4a : Hid (Since W wc) := hs4
  clear hc8 hc9 hc1 hc2 hs4 q1 q2 d1 HX
  have HS4w : Hid (Since W wc) := HS4a.out
  go_upto_region 5 with fail
  go_region
  have hS24 : Since w2 wc := HS3.out.trans HS4w.out
  have hwY : Since w ((wc.setCell ⟨b1, m, none⟩ (.string B')).setCell ⟨b2, m, none⟩ (.string B')).drew := (((HS2.out.trans hS24).setCell (p := ⟨b1, m, none⟩) HB1.out _).setCell (p := ⟨b2, m, none⟩) (Nat.le_trans HL1.out HB2.out) _).drew
  have hTY : ∀ k t, Ty w2 k t → Ty ((wc.setCell ⟨b1, m, none⟩ (.string B')).setCell ⟨b2, m, none⟩ (.string B')).drew k t := fun k t h => (((h.since hS24).setCell _ _).setCell _ _).since (Since.refl _).drew
  have hY2 : ∀ k j, k < w2.heap.size → ¬ (k = b1 ∧ j = m) → ¬ (k = b2 ∧ j = m) → ((wc.setCell ⟨b1, m, none⟩ (.string B')).setCell ⟨b2, m, none⟩ (.string B')).drew.cell? ⟨k, j, none⟩ = w2.cell? ⟨k, j, none⟩ := fun k j hk h1 h2 => by
    show ((wc.setCell ⟨b1, m, none⟩ (.string B')).setCell ⟨b2, m, none⟩ (.string B')).cell? ⟨k, j, none⟩ = _
    rw [World.cell?_setCell_other _ _ _ _ (fun e => h2 (by cases e; exact ⟨rfl, rfl⟩)), World.cell?_setCell_other _ _ _ _ (fun e => h1 (by cases e; exact ⟨rfl, rfl⟩))]
    exact hS24.cell (p := ⟨k, j, none⟩) hk
  have hw1c : (wc.setCell ⟨b1, m, none⟩ (.string B')).cell? ⟨b1, m, none⟩ = some (.string B') := World.cell?_setCell_same _ _ _ p3
  have hY1a : ((wc.setCell ⟨b1, m, none⟩ (.string B')).setCell ⟨b2, m, none⟩ (.string B')).drew.cell? ⟨b1, m, none⟩ = some (.string B') := by
    show ((wc.setCell ⟨b1, m, none⟩ (.string B')).setCell ⟨b2, m, none⟩ (.string B')).cell? ⟨b1, m, none⟩ = _
    rw [World.cell?_setCell_far _ _ _ _ n2]
    exact hw1c
  have hY1b : ((wc.setCell ⟨b1, m, none⟩ (.string B')).setCell ⟨b2, m, none⟩ (.string B')).drew.cell? ⟨b2, m, none⟩ = some (.string B') := by
    show ((wc.setCell ⟨b1, m, none⟩ (.string B')).setCell ⟨b2, m, none⟩ (.string B')).cell? ⟨b2, m, none⟩ = _
    exact World.cell?_setCell_same _ _ _ p7
  have hcY8 : Cel ((wc.setCell ⟨b1, m, none⟩ (.string B')).setCell ⟨b2, m, none⟩ (.string B')).drew w2.heap.size 10 (icell iv1 s0 s1) := (((HC8b.out.since HS4w.out).other (a := ⟨b1, m, none⟩) n4 _).other (a := ⟨b2, m, none⟩) n8 _).since (Since.refl _).drew
  have hcY9 : Cel ((wc.setCell ⟨b1, m, none⟩ (.string B')).setCell ⟨b2, m, none⟩ (.string B')).drew (w2.heap.size + 1) 10 (icell iv2 s0 s1) := (((HC9.out.since HS4w.out).other (a := ⟨b1, m, none⟩) n3 _).other (a := ⟨b2, m, none⟩) n5 _).since (Since.refl _).drew
  have hT8 : Ty ((wc.setCell ⟨b1, m, none⟩ (.string B')).setCell ⟨b2, m, none⟩ (.string B')).drew w2.heap.size 48 := (((HTB1.out.since HS4w.out).setCell _ _).setCell _ _).since (Since.refl _).drew
  have hT9 : Ty ((wc.setCell ⟨b1, m, none⟩ (.string B')).setCell ⟨b2, m, none⟩ (.string B')).drew (w2.heap.size + 1) 48 := (((HTB2.out.since HS4w.out).setCell _ _).setCell _ _).since (Since.refl _).drew
  generalize ((wc.setCell ⟨b1, m, none⟩ (.string B')).setCell ⟨b2, m, none⟩ (.string B')).drew = Y at *
  have hlt := H.out.ap.lt
  have hNw := H.out.nN
  have hww2 := HS2.out.size
  have hw1w := HL1.out
  have hK1 := kept_spoilt (db := db) (cb := cb) (rd := rd) (rc := rc) (bx := b2) HR1b.out HA1.out hzn HV1.out (fun z hz k e => by have a1 := HAP.out z hz k e; have a2 := HB2.out; omega) hY1a (fun k j h1 h2 h3 => hY2 k j h1 h2 (fun h => h3 h.1)) hTY ⟨by omega, by omega, by omega, by omega⟩ hcY8 ⟨⟨_, hT8, by decide, by decide, by decide⟩, by omega, by omega, by omega, by omega⟩
  have hK2 := kept_spoilt (db := db) (cb := cb) (rd := rd) (rc := rc) (bx := b1) HR2.out HA2.out hzn HV2.out (fun z hz k e => by have a1 := ((HR2.out z hz).lt k e).1; have a2 := HAP.out zn hzn b1 (by rw [HV1.out]; rfl); omega) hY1b (fun k j h1 h2 h3 => hY2 k j h1 (fun h => h3 h.1) h2) hTY ⟨by omega, by omega, by omega, by omega⟩ hcY9 ⟨⟨_, hT9, by decide, by decide, by decide⟩, by omega, by omega, by omega, by omega⟩
  have HK1 : Hid (Kept Y db cb rd rc w2.heap.size iv1 s0 s1 D.sure (fun z j => if z = zn ∧ j = m then B' else txt 128 (D.blk z j))) := hK1
  have HBY : Hid (BD w0 Y N db cb Rb rd rc D D c) := H.out.go hwY
  have HKY : Hid (Keeps w Y db cb rd rc) := Keeps.of_since hwY
  have HLP : Hid (Calls Tryz.prog 22 #[.pointer (some ⟨db, 0, none⟩), .agg (brow 10 (icell iv2 s0 s1)).toArray] Y fun e w' => e = .returned (.tuple #[]) ∧ BD w0 w' N db cb Rb rd rc (D.laidBy D.sure (fun z j => if z = zn ∧ j = m then B' else txt 128 (D.blk z j)) s0 s1) D c ∧ Keeps Y w' db cb rd rc) := layP iv2 s0 s1 _ _ hK2.img.1 HBY.out
  have hR2 := hcY9.range 0 10 (by omega)
  simp only [Nat.zero_add] at hR2
  have hL2 := ln10 iv2 s0 s1
  generalize hl : (fun z j => if z = zn ∧ j = m then B' else txt 128 (D.blk z j)) = l' at *
  clear hK1 hK2 hcY8 hcY9 hT8 hT9 hY1a hY1b hY2 hTY hwY hw1c p1 p2 p3 p4 p5 p6 p7 p8 p9 hl HC8 HC9b HC9 HC8b HR2 HR1b HV1 HV2 HC1 HC2 HB HB1 HB2 HT1 HT2 HAP HA1 HA2 hS24
  generalize brow 10 (icell iv2 s0 s1) = c9 at *
  go_wp2_with (refine wpList_load_mid (by rfl) 48 _ (by rfl) (w2.heap.size + 1) 0 (by rfl) _ _ hR2 Tryz.underlying48 (by rfl) (by rw [hL2]; kernel_rfl) ?_)
  refine HLP.out.mono ?_
  rintro e w6 ⟨rfl, hb6, hk6⟩
  have hK6 := HK1.out.keeps hk6
  have HB6 : Hid (BD w0 w6 N db cb Rb rd rc (D.laidBy D.sure l' s0 s1) D c) := hb6
  have HK6 : Hid (Keeps w w6 db cb rd rc) := HKY.out.trans hk6
  have HLR : Hid (Calls Tryz.prog 23 #[.pointer (some ⟨rd, 0, none⟩), .agg (brow 10 (icell iv1 s0 s1)).toArray] w6 fun e w' => e = .returned (.tuple #[]) ∧ BD w0 w' N db cb Rb rd rc (D.laidBy D.sure l' s0 s1) (D.laidBy D.sure l' s0 s1) c ∧ Keeps w6 w' db cb rd rc) := layR iv1 s0 s1 _ _ hK6.img.2 (fun z hz => by have a1 := HOK.out.cnt z hz; have a2 := HOK.out.sure z hz; omega) HB6.out
  have hR1 := hK6.cel.range 0 10 (by omega)
  simp only [Nat.zero_add] at hR1
  have hL1 := ln10 iv1 s0 s1
  clear hb6 hk6 hK6 hR2 HLP HK1
  generalize brow 10 (icell iv1 s0 s1) = c8 at *
  go_wp2_with (refine wpList_load_mid (by rfl) 48 _ (by rfl) w2.heap.size 0 (by rfl) _ _ hR1 Tryz.underlying48 (by rfl) (by rw [hL1]; kernel_rfl) ?_)
  refine HLR.out.mono ?_
  rintro e w7 ⟨rfl, hb7, hk7⟩
  have HB7 : Hid (BD w0 w7 N db cb Rb rd rc (D.laidBy D.sure l' s0 s1) (D.laidBy D.sure l' s0 s1) c) := hb7
  have HK7 : Hid (Keeps w w7 db cb rd rc) := HK6.out.trans hk7
  clear hb7 hk7
  go_wp2_with fail
  go_end0
  exact ⟨rfl, _, HB7.out, Nat.zero_le 1, HK7.out⟩
end
end Vl
end Go.Proofs.YtbfjklpoheooaaaGreatDoor
end
section
namespace Go.Proofs.YtbfjklpoheooaaaGreatDoor
set_option maxRecDepth 100000
namespace Vl
open Go.RowKit
open Tw (Tb tcell tval ccell)
section
variable {w0 w w' : World} {N vb db cb rv Rb rd rc : Nat} {s kb kt : ByteArray} {S S' : Vs} {n m c r : Int} {D : Dv} {a b : Value}
def St (w0 w : World) (N db cb Rb rd rc : Nat) (s kb kt : ByteArray) (n : Int) (a b : Value) : Prop :=
  (∃ vb rv S, a = .pointer (some ⟨rv, 0, none⟩) ∧ b = .pointer (some ⟨vb, 0, none⟩) ∧ Both w0 w N vb db cb rv Rb rd rc s kb kt S n) ∨ (a = .pointer none ∧ b = .pointer none ∧ ∃ D c, BD w0 w N db cb Rb rd rc D D c ∧ D.ws.length ≤ 1 ∧ 0 ≤ c ∧ c ≤ n)
theorem Both.le (h : Both w0 w N vb db cb rv Rb rd rc s kb kt S n) (hm : n ≤ m) : Both w0 w N vb db cb rv Rb rd rc s kb kt S m := ⟨h.ap, h.p, h.r, h.nv, h.ok.le hm, h.nN⟩
theorem St.le (h : St w0 w N db cb Rb rd rc s kb kt n a b) (hm : n ≤ m) : St w0 w N db cb Rb rd rc s kb kt m a b := by
  rcases h with ⟨vb, rv, S, e1, e2, h⟩ | ⟨e1, e2, D, c, h, h1, h2, h3⟩
  · exact .inl ⟨vb, rv, S, e1, e2, h.le hm⟩
  · exact .inr ⟨e1, e2, D, c, h, h1, h2, by omega⟩
theorem St.go (h : St w0 w N db cb Rb rd rc s kb kt n a b) (hs : Since w w') : St w0 w' N db cb Rb rd rc s kb kt n a b := by
  rcases h with ⟨vb, rv, S, e1, e2, h⟩ | ⟨e1, e2, D, c, h, h1⟩
  · exact .inl ⟨vb, rv, S, e1, e2, h.go hs⟩
  · exact .inr ⟨e1, e2, D, c, h.go hs, h1⟩
theorem St.bd (h : St w0 w N db cb Rb rd rc s kb kt n a b) : ∃ D c, BD w0 w N db cb Rb rd rc D D c ∧ D.ws.length ≤ 1 ∧ 0 ≤ c ∧ c ≤ n := by
  rcases h with ⟨vb, rv, S, e1, e2, h⟩ | ⟨e1, e2, D, c, h, h1⟩
  · exact ⟨_, _, h.bd, h.ok.ws, h.ok.c0, h.ok.cn⟩
  · exact ⟨D, c, h, h1⟩
theorem St.since (h : St w0 w N db cb Rb rd rc s kb kt n a b) : Since w0 w := by
  obtain ⟨D, c, h, _⟩ := h.bd
  exact h.since
structure Mid (w0 w : World) (N vb db cb rv Rb rd rc : Nat) (s kb kt : ByteArray) (S S' : Vs) (n : Int) : Prop where
  ap : Apart N db cb Rb rd rc
  nv : N ≤ vb
  nN : N ≤ w.heap.size
  p : ∃ v1, Vol w0 w vb db cb kb kt S' v1 ∧ ∀ k, v1.ownBlock = some k → N ≤ k
  r : RVol w0 w N rv Rb rd rc s S
  ok : S.ok n
  dok : S.D.ok
theorem Mid.go (h : Mid w0 w N vb db cb rv Rb rd rc s kb kt S S' n) (hs : Since w w') : Mid w0 w' N vb db cb rv Rb rd rc s kb kt S S' n := by
  obtain ⟨v1, hp, hv⟩ := h.p
  exact ⟨h.ap, h.nv, Nat.le_trans h.nN hs.size, ⟨v1, hp.go hs, hv⟩, h.r.go hs, h.ok, h.dok⟩
theorem writeP (B : Base w0 kb kt) (hn : n < 1000000000) (i : Int) (t : ByteArray) (h : Both w0 w N vb db cb rv Rb rd rc s kb kt S n) :
    Calls Tryz.prog 11 #[.pointer (some ⟨vb, 0, none⟩), .int .i64 i, .string t] w fun e w' => e = .returned (ev (S.write kb kt i t).1) ∧ Mid w0 w' N vb db cb rv Rb rd rc s kb kt S (S.write kb kt i t).2 n ∧ Keeps w w' db cb rd rc := by
  obtain ⟨v, hp, hh⟩ := h.half
  refine (write_any B n h.ok hn i t hp).mono ?_
  rintro e w' ⟨rfl, ht⟩
  obtain ⟨h1, h2, h3, h4⟩ := hh _ _ ht
  exact ⟨rfl, ⟨h.ap, h.nv, h3, h4, h1, h.ok, h.dok⟩, h2⟩
theorem writeR (RB : RBase Rb s kb kt) (hn : n < 1000000000) (i : Int) (t : ByteArray) (h : Mid w0 w N vb db cb rv Rb rd rc s kb kt S (S.write kb kt i t).2 n) :
    Calls Tryz.prog 12 #[.pointer (some ⟨rv, 0, none⟩), .int .i64 i, .string t] w fun e w' => e = .returned (.int .i64 (S.write kb kt i t).1) ∧ Both w0 w' N vb db cb rv Rb rd rc s kb kt (S.write kb kt i t).2 (n + 1) ∧ Keeps w w' db cb rd rc := by
  refine (rwrite_any RB n h.ok hn h.dok i t h.r).mono ?_
  rintro e w' ⟨rfl, ht⟩
  exact ⟨rfl, Both.join h.ap h.nv h.nN (h.ok.write kb kt i t) h.p h.r ht⟩
theorem flushP (B : Base w0 kb kt) (hn : n < 1000000000) (h : Both w0 w N vb db cb rv Rb rd rc s kb kt S n) :
    Calls Tryz.prog 13 #[.pointer (some ⟨vb, 0, none⟩)] w fun e w' => e = .returned (ev (S.flush kt).1) ∧ Mid w0 w' N vb db cb rv Rb rd rc s kb kt S (S.flush kt).2 n ∧ Keeps w w' db cb rd rc := by
  obtain ⟨v, hp, hh⟩ := h.half
  refine (flush_any B (h.ok.next (by omega)) h.ok.nc hp).mono ?_
  rintro e w' ⟨rfl, ht⟩
  obtain ⟨h1, h2, h3, h4⟩ := hh _ _ ht
  exact ⟨rfl, ⟨h.ap, h.nv, h3, h4, h1, h.ok, h.dok⟩, h2⟩
theorem flushR (RB : RBase Rb s kb kt) (hn : n < 1000000000) (h : Mid w0 w N vb db cb rv Rb rd rc s kb kt S (S.flush kt).2 n) :
    Calls Tryz.prog 14 #[.pointer (some ⟨rv, 0, none⟩)] w fun e w' => e = .returned (.int .i64 (S.flush kt).1) ∧ Both w0 w' N vb db cb rv Rb rd rc s kb kt (S.flush kt).2 (n + 1) ∧ Keeps w w' db cb rd rc := by
  refine (rflush_any (q := true) RB (h.ok.next (by omega)) h.dok h.r).mono ?_
  rintro e w' ⟨rfl, ht⟩
  exact ⟨rfl, Both.join h.ap h.nv h.nN (h.ok.flush kt) h.p h.r ht⟩
theorem OpenTo.one {r1 r2 : Int} {S1 S2 : Vs} (h1 : OpenTo kb kt S r1 S1) (h2 : OpenTo kb kt S r2 S2) : r1 = r2 ∧ S1 = S2 := by
  unfold OpenTo at h1 h2
  grind
theorem OpenTo.ok (h : OpenTo kb kt (fresh D c) r S) (hw : D.ws.length ≤ 1) (hc : 0 ≤ c) (hr : r = 0) : S.ok (c + 1) := by
  rcases h with ⟨h1, _, rfl⟩ | ⟨h1, h2, _, rfl⟩ | ⟨h1, h2, h3, _, rfl⟩ | h
  · exact opened_ok kb kt D (c + 1) hw (by omega) h1
  · have h2' : c = 0 := h2
    subst h2'
    exact (fresh_ok D hw).le (by omega)
  · exact (opened_ok kb kt D c hw hc h3).le (by omega)
  · exact absurd hr (by obtain ⟨_, _, _, h, _⟩ := h; omega)
end
end Vl
end Go.Proofs.YtbfjklpoheooaaaGreatDoor
end
section
namespace Go.Proofs.YtbfjklpoheooaaaGreatDoor
set_option maxRecDepth 100000
namespace Vl
open Go.RowKit
open Tw (Tb tcell tval ccell)
section
variable {w0 w w' : World} {N vb db cb rv Rb rd rc : Nat} {s : ByteArray} {S S' : Vs} {n m c r : Int} {D : Dv} {a b v : Value}
structure OMid (w0 w : World) (N db cb rv Rb rd rc : Nat) (s : ByteArray) (D : Dv) (c r : Int) (S' : Vs) : Prop where
  ap : Apart N db cb Rb rd rc
  nN : N ≤ w.heap.size
  p : ∃ v, DC w0 w db cb D c v ∧ ∀ k, v.ownBlock = some k → N ≤ k
  rr : RVol w0 w N rv Rb rd rc s S'
  opn : OpenTo (kbOf s) (ktOf s) (fresh D c) r S'
  ws : D.ws.length ≤ 1
  c0 : 0 ≤ c
theorem OMid.go {w1 : World} (h : OMid w0 w N db cb rv Rb rd rc s D c r S') (hs : Since w w1) : OMid w0 w1 N db cb rv Rb rd rc s D c r S' := by
  obtain ⟨v, hp, hv⟩ := h.p
  exact ⟨h.ap, Nat.le_trans h.nN hs.size, ⟨v, hp.go hs, hv⟩, h.rr.go hs, h.opn, h.ws, h.c0⟩
theorem openR (RB : RBase Rb s (kbOf s) (ktOf s)) (hs : s.size = 16) (hc : 0 ≤ c ∧ c < 1000000000) (hw : D.ws.length ≤ 1) (h : BD w0 w N db cb Rb rd rc D D c) :
    Calls Tryz.prog 8 #[.pointer (some ⟨Rb, 0, none⟩), .pointer (some ⟨rd, 0, none⟩), .pointer (some ⟨rc, 0, none⟩), .string s] w fun e w' => ∃ rv r S', ((r = 0 ∧ e = .returned (.tuple #[.pointer (some ⟨rv, 0, none⟩), .int .i64 0])) ∨ (r ≠ 0 ∧ e = .returned (.tuple #[.pointer none, .int .i64 r]))) ∧ OMid w0 w' N db cb rv Rb rd rc s D c r S' ∧ Keeps w w' db cb rd rc := by
  obtain ⟨v, hp, hv⟩ := h.p
  refine (ropen_any RB hs h.dok hc h.r).mono ?_
  rintro e w' ⟨rv, r, S', hto, he, hrv, hr', hf⟩
  have hlo := h.r.lo
  have hN := h.nN
  have hsz := h.since.size
  refine ⟨rv, r, S', he, ⟨h.ap, Nat.le_trans hN hf.size, ⟨v, hp.rf h.ap hv (fun h => by omega) (by omega) ⟨hlo.2.1, hlo.2.2, by omega⟩ hf, hv⟩, hr', hto, hw, hc.1⟩, ⟨hf.size, hf.os, hf.tape, hf.output, fun k hk => hk.rf (fun h => by omega) hf⟩⟩
theorem RVol.fsD (A : Apart N db cb Rb rd rc) (hvN : ∀ k, v.ownBlock = some k → N ≤ k) (h : RVol w0 w N rv Rb rd rc s S) {D' : Dv} {c' : Int} (hp : DC w0 w db cb D' c' v) (hf : Fs (fun k => k = db ∨ k = cb ∨ v.ownBlock = some k) w w') : RVol w0 w' N rv Rb rd rc s S := by
  have ho := devOwn hp.dev
  refine h.keep A (fun k hk h1 h2 h3 => hf.block k hk ?_) (hf.block rv h.ty.lt ?_) hf.size (hf.since h.since ?_)
  · rintro (e | e | e)
    · exact h1 e
    · exact h2 e
    · have := hvN k e
      rcases h3 with h3 | h3 | h3
      · omega
      · exact absurd ((ho k e).one h3) (by decide)
      · exact absurd ((ho k e).one h3) (by decide)
  · have := A.lt
    have := h.ne
    rintro (e | e | e)
    · omega
    · omega
    · exact absurd ((ho _ e).one h.ty) (by decide)
  · rintro k (e | e | e)
    · rw [e]; exact hp.lo.1
    · rw [e]; exact hp.lo.2.1
    · exact hp.lo.2.2 k e
theorem openP (hT : Sm.Tab w0) (hs : s.size = 16) (hc : c < 1000000000) (h : OMid w0 w N db cb rv Rb rd rc s D c r S') :
    Calls Tryz.prog 9 #[.pointer (some ⟨db, 0, none⟩), .pointer (some ⟨cb, 0, none⟩), .string s] w fun e w' => ∃ a b, ((r = 0 ∧ a = .pointer (some ⟨rv, 0, none⟩) ∧ ∃ vb, b = .pointer (some ⟨vb, 0, none⟩)) ∨ (r ≠ 0 ∧ a = .pointer none ∧ b = .pointer none)) ∧ e = .returned (.tuple #[b, ev r]) ∧ St w0 w' N db cb Rb rd rc s (kbOf s) (ktOf s) (c + 1) a b ∧ Keeps w w' db cb rd rc := by
  obtain ⟨v, hp, hv⟩ := h.p
  refine (open_any s hs hT ⟨h.c0, hc⟩ hp).mono ?_
  rintro e w' ⟨vb, r1, S1, v', hto, he, hvb, hp', hf, hn⟩
  obtain ⟨rfl, rfl⟩ := OpenTo.one hto h.opn
  have hr' := h.rr.fsD h.ap hv hp hf
  have hN' : ∀ k, v'.ownBlock = some k → N ≤ k := fun k hk => by
    rcases hn k hk with h2 | h2
    · exact hv k h2
    · exact Nat.le_trans h.nN h2
  have hK : Keeps w w' db cb rd rc := ⟨hf.size, hf.os, hf.tape, hf.output, fun k hk => hk.fsD (devOwn hp.dev) hf⟩
  have hsz := Nat.le_trans h.nN hf.size
  rcases he with ⟨rfl, rfl⟩ | ⟨hr, rfl⟩
  · exact ⟨_, _, .inl ⟨rfl, rfl, vb, rfl⟩, rfl, .inl ⟨vb, rv, _, rfl, rfl, ⟨h.ap, ⟨v', hp', hN'⟩, hr', Nat.le_trans h.nN hvb, h.opn.ok h.ws h.c0 rfl, hsz⟩⟩, hK⟩
  · refine ⟨.pointer none, .pointer none, .inr ⟨hr, rfl, rfl⟩, rfl, .inr ⟨rfl, rfl, S1.D, S1.c, ⟨h.ap, ⟨v', hp'.dc, hN'⟩, hr'.rdc, hsz⟩, ?_⟩, hK⟩
    rcases h.opn with ⟨_, e0, _⟩ | ⟨_, _, e0, _⟩ | ⟨_, _, _, e0, _⟩ | ⟨_, _, _, _, rfl⟩
    · exact absurd e0 hr
    · exact absurd e0 hr
    · exact absurd e0 hr
    · exact ⟨h.ws, h.c0, show c ≤ c + 1 by omega⟩
end
end Vl
end Go.Proofs.YtbfjklpoheooaaaGreatDoor
end
section
namespace Go.Proofs.YtbfjklpoheooaaaGreatDoor
set_option maxRecDepth 100000
namespace Vl
open Go.RowKit
open Tw (Tb tcell tval ccell)
section
variable {w0 w w' : World} {N vb db cb rv Rb rd rc b : Nat} {s kb kt : ByteArray} {S : Vs} {v : Value} {D D1 D2 : Dv} {c n : Int}
structure Bxd (w w' : World) (N b : Nat) : Prop where
  ty : Ty w b 48
  nb : N ≤ b
  size : w.heap.size ≤ w'.heap.size
  os : w'.os = w.os
  tape : w'.tape = w.tape
  output : w'.output = w.output
  block : ∀ k, k < w.heap.size → k ≠ b → w'.heap[k]? = w.heap[k]?
theorem Bxd.since (h : Bxd w w' N b) (hs : Since w0 w) (hb : w0.heap.size ≤ b) : Since w0 w' :=
  Below.trans hs ⟨h.os, h.tape, h.output, h.size, fun k hk => h.block k (Nat.lt_of_lt_of_le hk hs.size) (by omega)⟩
theorem Dev.box (h : Dev w db D v) (hx : Bxd w w' N b) (hd : db ≠ b) : Dev w' db D v := by
  have e2 := hx.block db h.lt hd
  have ho := devOwn h
  refine ⟨celBlk h.cel e2, ?_, h.ne, h.ok⟩
  refine ⟨h.own.1, ?_⟩
  rcases h.own.2 with hn | ⟨k, cap, cur, hv, hbk, hk, rest⟩
  · exact .inl hn
  · have hko : v.ownBlock = some k := by rw [hv]; rfl
    refine .inr ⟨k, cap, cur, hv, hbk, ?_, rest⟩
    rw [hx.block k (Array.getElem?_eq_some_iff.1 hk).1 (fun e => ?_)]
    · exact hk
    · subst e
      exact absurd ((ho k hko).one hx.ty) (by decide)
theorem Vol.box (h : Vol w0 w vb db cb kb kt S v) (hx : Bxd w w' N b) (hd : db ≠ b) (hc : cb ≠ b) (hb : w0.heap.size ≤ b) : Vol w0 w' vb db cb kb kt S v := by
  have e1 := hx.block vb h.ty.lt (fun e => by
    have := h.ty
    rw [e] at this
    exact absurd (this.one hx.ty) (by decide))
  have e3 := hx.block cb (h.ctr.lt (by omega)) hc
  exact ⟨celBlk h.cel e1, Dev.box h.dev hx hd, celBlk h.ctr e3, h.ne, h.own, h.ty.blk e1, hx.since h.since hb, h.lo⟩
theorem DC.box (h : DC w0 w db cb D c v) (hx : Bxd w w' N b) (hd : db ≠ b) (hc : cb ≠ b) (hb : w0.heap.size ≤ b) : DC w0 w' db cb D c v := by
  have e3 := hx.block cb (h.ctr.lt (by omega)) hc
  exact ⟨Dev.box h.dev hx hd, celBlk h.ctr e3, h.ne, h.own, hx.since h.since hb, h.lo⟩
theorem RDC.box (A : Apart N db cb Rb rd rc) (h : RDC w0 w N Rb rd rc D c) (hx : Bxd w w' N b) (hb : w0.heap.size ≤ b) (hs : Since w0 w) : RDC w0 w' N Rb rd rc D c :=
  h.keep A (fun k hk _ _ ht => hx.block k hk (fun e => by
    subst e
    rcases ht with h1 | h1 | h1
    · have := hx.nb; omega
    · exact absurd (h1.one hx.ty) (by decide)
    · exact absurd (h1.one hx.ty) (by decide))) hx.size (hx.since hs hb)
theorem RVol.box (A : Apart N db cb Rb rd rc) (h : RVol w0 w N rv Rb rd rc s S) (hx : Bxd w w' N b) (hb : w0.heap.size ≤ b) : RVol w0 w' N rv Rb rd rc s S :=
  h.keep A (fun k hk _ _ ht => hx.block k hk (fun e => by
    subst e
    rcases ht with h1 | h1 | h1
    · have := hx.nb; omega
    · exact absurd (h1.one hx.ty) (by decide)
    · exact absurd (h1.one hx.ty) (by decide))) (hx.block rv h.ty.lt (fun e => by
      have := h.ty
      rw [e] at this
      exact absurd (this.one hx.ty) (by decide))) hx.size (hx.since h.since hb)
theorem Both.box (h : Both w0 w N vb db cb rv Rb rd rc s kb kt S n) (hx : Bxd w w' N b) : Both w0 w' N vb db cb rv Rb rd rc s kb kt S n := by
  have hlt := h.ap.lt
  have hnb := hx.nb
  obtain ⟨v, hv, hvN⟩ := h.p
  have hlo := hv.lo
  exact ⟨h.ap, ⟨v, Vol.box hv hx (by omega) (by omega) (by omega), hvN⟩, RVol.box h.ap h.r hx (by omega), h.nv, h.ok, Nat.le_trans h.nN hx.size⟩
theorem BD.box (h : BD w0 w N db cb Rb rd rc D1 D2 c) (hx : Bxd w w' N b) : BD w0 w' N db cb Rb rd rc D1 D2 c := by
  have hlt := h.ap.lt
  have hnb := hx.nb
  obtain ⟨v, hv, hvN⟩ := h.p
  have hlo := hv.lo
  exact ⟨h.ap, ⟨v, DC.box hv hx (by omega) (by omega) (by omega), hvN⟩, RDC.box h.ap h.r hx (by omega) hv.since, Nat.le_trans h.nN hx.size⟩
theorem St.box {a a' : Value} (h : St w0 w N db cb Rb rd rc s kb kt n a a') (hx : Bxd w w' N b) : St w0 w' N db cb Rb rd rc s kb kt n a a' := by
  rcases h with ⟨vb, rv, S, h1, h2, h3⟩ | ⟨h1, h2, D, c, h3, h4⟩
  · exact .inl ⟨vb, rv, S, h1, h2, h3.box hx⟩
  · exact .inr ⟨h1, h2, D, c, h3.box hx, h4⟩
theorem Bxd.setCells (hn : N ≤ b) : ∀ (vs : List Value) (o : Nat) {w : World}, Ty w b 48 → Bxd w (w.setCells b o vs) N b
  | [], o, w, ht => ⟨ht, hn, Nat.le_refl _, rfl, rfl, rfl, fun _ _ _ => rfl⟩
  | v :: r, o, w, ht => by
    have h := Bxd.setCells hn r (o + 1) (w := w.setCell ⟨b, o, none⟩ v) (ht.setCell _ _)
    have hz : (w.setCell ⟨b, o, none⟩ v).heap.size = w.heap.size := by simp [World.setCell]
    exact ⟨ht, hn, by have := h.size; show w.heap.size ≤ ((w.setCell ⟨b, o, none⟩ v).setCells b (o + 1) r).heap.size; omega, h.os, h.tape, h.output, fun k hk hne => (h.block k (by omega) hne).trans (Below.heap_setCell _ _ _ k (fun e => hne (by rw [e])))⟩
end
structure ActB (w : World) (db cb rd rc xb : Nat) (xc : Nat → Value) : Prop where
  cel : Cel w xb 6 xc
  ty : Ty w xb 52
  ne : xb ≠ db ∧ xb ≠ cb ∧ xb ≠ rd ∧ xb ≠ rc
theorem ActB.safe {w : World} {db cb rd rc xb : Nat} {xc : Nat → Value} (h : ActB w db cb rd rc xb xc) : Safe w db cb rd rc xb := ⟨⟨_, h.ty, by decide, by decide, by decide⟩, h.ne⟩
theorem ActB.keeps {w w' : World} {db cb rd rc xb : Nat} {xc : Nat → Value} (h : ActB w db cb rd rc xb xc) (hk : Keeps w w' db cb rd rc) : ActB w' db cb rd rc xb xc :=
  ⟨celBlk h.cel (hk.2.2.2.2 xb h.safe), h.ty.blk (hk.2.2.2.2 xb h.safe), h.ne⟩
theorem ActB.box {w w' : World} {N b db cb rd rc xb : Nat} {xc : Nat → Value} (h : ActB w db cb rd rc xb xc) (hx : Bxd w w' N b) : ActB w' db cb rd rc xb xc := by
  have e := hx.block xb h.ty.lt (fun e => by have := h.ty; rw [e] at this; exact absurd (this.one hx.ty) (by decide))
  exact ⟨celBlk h.cel e, h.ty.blk e, h.ne⟩
def acell (a b c : Int) (s : ByteArray) (kv sv : Value) (j : Nat) : Value := (#[.int .i64 a, .int .i64 b, .int .i64 c, .string s, kv, sv] : Array Value).getD j undef
structure Boxes (w : World) (N db cb rd rc b1 b2 : Nat) : Prop where
  ne : b1 ≠ b2
  n : N ≤ b1 ∧ N ≤ b2
  t : Ty w b1 48 ∧ Ty w b2 48
  im : ∃ iv1 iv2 s0 s1 nn l, Kept w db cb rd rc b1 iv1 s0 s1 nn l ∧ Kept w db cb rd rc b2 iv2 s0 s1 nn l ∧ ∀ z, z < 8 → nn z ≤ 1000
theorem Boxes.keeps {w w' : World} {N db cb rd rc b1 b2 : Nat} (h : Boxes w N db cb rd rc b1 b2) (hk : Keeps w w' db cb rd rc) : Boxes w' N db cb rd rc b1 b2 := by
  obtain ⟨iv1, iv2, s0, s1, nn, l, h1, h2, h3⟩ := h.im
  exact ⟨h.ne, h.n, ⟨h.t.1.blk (hk.2.2.2.2 b1 h1.safe), h.t.2.blk (hk.2.2.2.2 b2 h2.safe)⟩, iv1, iv2, s0, s1, nn, l, h1.keeps hk, h2.keeps hk, h3⟩
theorem kept_new {w : World} {db cb rd rc b : Nat} (hb : b = w.heap.size) (hl : db < w.heap.size ∧ cb < w.heap.size ∧ rd < w.heap.size ∧ rc < w.heap.size) : Kept (w.alloc (.cells i10 48)) db cb rd rc b (fun _ => .slice none 0 0) ⟨#[]⟩ ⟨#[]⟩ (fun _ => 0) (fun _ _ => ⟨#[]⟩) := by
  subst hb
  refine ⟨i10_cel w w.heap.size rfl, ⟨⟨_, Ty.new w i10 48, by decide, by decide, by decide⟩, by omega, by omega, by omega, by omega⟩, fun z hz => ⟨none, 0, rfl, Nat.le_refl _, fun h => absurd h (Nat.lt_irrefl 0)⟩⟩
theorem boxes_new {w : World} {N db cb rd rc : Nat} (hN : N ≤ w.heap.size) (hl : db < w.heap.size ∧ cb < w.heap.size ∧ rd < w.heap.size ∧ rc < w.heap.size) : Boxes ((w.alloc (.cells i10 48)).alloc (.cells i10 48)) N db cb rd rc w.heap.size (w.heap.size + 1) := by
  have e : (w.alloc (.cells i10 48)).heap.size = w.heap.size + 1 := World.size_alloc _ _
  have ht := Ty.new (w.alloc (.cells i10 48)) i10 48
  rw [e] at ht
  exact ⟨by omega, by omega, ⟨(Ty.new w i10 48).since ((Since.refl _).alloc _), ht⟩, _, _, _, _, _, _, (kept_new rfl hl).keeps (Keeps.of_since ((Since.refl _).alloc _)), kept_new e.symm (by rw [e]; omega), fun z _ => Nat.zero_le _⟩
theorem kept_img {w2 Y : World} {db cb rd rc base b : Nat} {iv : Nat → Value} {D : Dv} {s0 s1 : ByteArray} (hr : ∀ z, z < 8 → w2.ownsRow base 9 1 (iv z) (D.sure z) (blks (D.blk z) (D.sure z))) (hlo : db < base ∧ cb < base ∧ rd < base ∧ rc < base)
    (hY : ∀ k, k < w2.heap.size → Ty w2 k 9 → Y.heap[k]? = w2.heap[k]?) (hc : Cel Y b 10 (icell iv s0 s1)) (hs : Safe Y db cb rd rc b) : Kept Y db cb rd rc b iv s0 s1 D.sure (fun z j => txt 128 (D.blk z j)) := by
  refine ⟨hc, hs, fun z hz => ?_⟩
  obtain ⟨a, c, h1, h2, h3⟩ := own_txt (hr z hz)
  refine ⟨a, c, h1, h2, fun hp => ?_⟩
  obtain ⟨k, ha, hb, ht, hcel⟩ := h3 hp
  have e := hY k ht.lt ht
  refine ⟨k, 0, ha, ⟨⟨_, ht.blk e, by decide, by decide, by decide⟩, by omega, by omega, by omega, by omega⟩, fun j hj => ?_⟩
  rw [Nat.zero_add]
  exact (celBlk hcel e).cell j hj
end Vl
end Go.Proofs.YtbfjklpoheooaaaGreatDoor
end
