/- The reference's device: Image. -/
import Derived.Test.YtjfhggcjdckfgaaDoorT8
import Derived.Test.YtjfhggcjdckfgaaDoorRS
namespace Go.Proofs.YtjfhggcjdckfgaaDoor
set_option linter.unusedSimpArgs false
set_option linter.unusedVariables false
open Go.RowKit

set_option maxRecDepth 100000 in
set_option maxHeartbeats 4000000 in
theorem rimage_any (D : Dv) (lv : Nat → Value) (av wv : Value) (rb N : Nat) (w : World) (hd : Ref w rb N D lv av wv) (hok : D.ok) :
    Calls Tryd.prog 45 #[.pointer (some ⟨rb, 0, none⟩)] w fun e w' => ∃ iv, e = .returned (.agg (brow 10 (icell iv (txt 500 (D.slot 0)) (txt 500 (D.slot 1)))).toArray) ∧ (∀ z, z < 8 → w'.ownsRow w.heap.size 9 1 (iv z) (D.sure z) (blks (D.blk z) (D.sure z))) ∧ Since w w' := by
  have hS1 : Since w (w.alloc (.cells zImage 45)) := (Since.refl w).alloc _
  have c16 := (hd.since hS1).cel.cell 16 (by omega)
  have c17 := (hd.since hS1).cel.cell 17 (by omega)
  rw [show rcell D lv av wv 16 = .string (txt 500 (D.slot 0)) from rcell_slot D lv av wv 0 (by omega)] at c16
  rw [show rcell D lv av wv 17 = .string (txt 500 (D.slot 1)) from rcell_slot D lv av wv 1 (by omega)] at c17
  have HD : Hid (Ref w rb N D lv av wv) := hd
  have HOK : Hid D.ok := hok
  have hrbl : rb < w.heap.size := hd.cel.lt (by omega)
  generalize txt 500 (D.slot 0) = s0 at *
  generalize txt 500 (D.slot 1) = s1 at *
  clear hd hok hS1
  unfold zImage at *
  go_enter Tryd.func45, Tryd.ntmps45
  go_wp2_with fail
  have hY : ∀ j, j < 10 → (#[.slice none 0 0, .slice none 0 0, .slice none 0 0, .slice none 0 0, .slice none 0 0, .slice none 0 0, .slice none 0 0, .slice none 0 0, .string s0, .string s1] : Array Value)[j]? = some (icell (ivTo nilV 0) s0 s1 j) := by
    intro j hj
    match j, hj with
    | 0, _ => rfl
    | 1, _ => rfl
    | 2, _ => rfl
    | 3, _ => rfl
    | 4, _ => rfl
    | 5, _ => rfl
    | 6, _ => rfl
    | 7, _ => rfl
    | 8, _ => rfl
    | 9, _ => rfl
    | n + 10, h => exact absurd h (by omega)
  have hC2 : Cel ((w.alloc (.cells #[.slice none 0 0, .slice none 0 0, .slice none 0 0, .slice none 0 0, .slice none 0 0, .slice none 0 0, .slice none 0 0, .slice none 0 0, .string ⟨#[]⟩, .string ⟨#[]⟩] 45)).alloc (.cells #[.slice none 0 0, .slice none 0 0, .slice none 0 0, .slice none 0 0, .slice none 0 0, .slice none 0 0, .slice none 0 0, .slice none 0 0, .string s0, .string s1] 45)) (w.heap.size + 1) 10 (icell (ivTo nilV 0) s0 s1) := Cel.new _ 10 _ _ _ hY _ (by simp)
  have hR0 : Cel ((w.alloc (.cells #[.slice none 0 0, .slice none 0 0, .slice none 0 0, .slice none 0 0, .slice none 0 0, .slice none 0 0, .slice none 0 0, .slice none 0 0, .string ⟨#[]⟩, .string ⟨#[]⟩] 45)).alloc (.cells #[.slice none 0 0, .slice none 0 0, .slice none 0 0, .slice none 0 0, .slice none 0 0, .slice none 0 0, .slice none 0 0, .slice none 0 0, .string s0, .string s1] 45)) w.heap.size 10 (icell nilV ⟨#[]⟩ ⟨#[]⟩) := (Cel.new w 10 _ _ _ zImage_get _ rfl).since ((Since.refl _).alloc _)
  have hS2 : Since w ((w.alloc (.cells #[.slice none 0 0, .slice none 0 0, .slice none 0 0, .slice none 0 0, .slice none 0 0, .slice none 0 0, .slice none 0 0, .slice none 0 0, .string ⟨#[]⟩, .string ⟨#[]⟩] 45)).alloc (.cells #[.slice none 0 0, .slice none 0 0, .slice none 0 0, .slice none 0 0, .slice none 0 0, .slice none 0 0, .slice none 0 0, .slice none 0 0, .string s0, .string s1] 45)) := ((Since.refl w).alloc _).alloc _
  have hz2 : ((w.alloc (.cells #[.slice none 0 0, .slice none 0 0, .slice none 0 0, .slice none 0 0, .slice none 0 0, .slice none 0 0, .slice none 0 0, .slice none 0 0, .string ⟨#[]⟩, .string ⟨#[]⟩] 45)).alloc (.cells #[.slice none 0 0, .slice none 0 0, .slice none 0 0, .slice none 0 0, .slice none 0 0, .slice none 0 0, .slice none 0 0, .slice none 0 0, .string s0, .string s1] 45)).heap.size = w.heap.size + 2 := by simp
  generalize (w.alloc (.cells #[.slice none 0 0, .slice none 0 0, .slice none 0 0, .slice none 0 0, .slice none 0 0, .slice none 0 0, .slice none 0 0, .slice none 0 0, .string ⟨#[]⟩, .string ⟨#[]⟩] 45)).alloc (.cells #[.slice none 0 0, .slice none 0 0, .slice none 0 0, .slice none 0 0, .slice none 0 0, .slice none 0 0, .slice none 0 0, .slice none 0 0, .string s0, .string s1] 45) = w2 at *
  have HC2 : Hid (Cel w2 (w.heap.size + 1) 10 (icell (ivTo nilV 0) s0 s1)) := hC2
  have HR0 : Hid (Cel w2 w.heap.size 10 (icell nilV ⟨#[]⟩ ⟨#[]⟩)) := hR0
  have HS2 : Hid (Since w w2) := hS2
  have HZ2 : Hid (w2.heap.size = w.heap.size + 2) := hz2
  clear hY hC2 hR0 hS2 hz2 c16 c17
  go_loopw [10] (fun i wr => ∃ (k : Nat) (iv : Nat → Value), k ≤ 8 ∧ i = .int .i64 k ∧ Cel wr (w.heap.size + 1) 10 (icell (ivTo iv k) s0 s1) ∧ Cel wr w.heap.size 10 (icell nilV ⟨#[]⟩ ⟨#[]⟩) ∧ (∀ z, z < k → wr.ownsRow (w.heap.size + 2) 9 1 (iv z) (D.sure z) (blks (D.blk z) (D.sure z))) ∧ Since w wr ∧ w.heap.size + 2 ≤ wr.heap.size) (fun i _ => 8 - (intOf i).toNat)
  case atStart => exact ⟨0, nilV, by omega, rfl, HC2.out, HR0.out, fun z hz => by omega, HS2.out, by have := HZ2.out; omega⟩
  case round =>
    obtain ⟨k, iv, hk8, rfl, hm, hr, hrow, hS, hsz⟩ := hrel
    have HM : Hid (Cel wr (w.heap.size + 1) 10 (icell (ivTo iv k) s0 s1)) := hm
    have HR : Hid (Cel wr w.heap.size 10 (icell nilV ⟨#[]⟩ ⟨#[]⟩)) := hr
    have HW : Hid (∀ z, z < k → wr.ownsRow (w.heap.size + 2) 9 1 (iv z) (D.sure z) (blks (D.blk z) (D.sure z))) := hrow
    have HS : Hid (Since w wr) := hS
    have HSZ : Hid (w.heap.size + 2 ≤ wr.heap.size) := hsz
    clear hm hr hrow hS hsz
    by_cases hlt : k < 8
    · have hlt2 : (k : Int) < 8 := by omega
      have HD1 : Hid (Ref wr rb N D lv av wv) := HD.out.since HS.out
      obtain ⟨a, c, ea, hac, hTx⟩ := Tx.of_own (l := fun j => txt 128 (D.blk k j)) (HD1.out.row k hlt)
      have hsc : D.sure k ≤ D.cnt k := HOK.out.sure k hlt
      have hc16 : D.cnt k ≤ 16 := HOK.out.cnt k hlt
      have hscap : D.sure k ≤ c := by omega
      have HTM : Hid (Tx wr a (D.sure k) (fun j => txt 128 (D.blk k j))) := hTx.take hsc
      have d1 := HD1.out.cel.cell k (by omega)
      rw [rcell_l _ _ _ _ k hlt, ea] at d1
      have d2 := HD1.out.cel.cell (8 + k) (by omega)
      rw [rcell_sure _ _ _ _ k hlt] at d2
      have HS7 : Hid (Since wr (wr.drew.alloc (.cells #[] 9))) := (Since.refl wr).drew.alloc _
      have HLT : Hid ((wr.drew.alloc (.cells #[] 9)).ownsRow wr.heap.size 9 1 (.slice (some ⟨wr.heap.size, 0, none⟩) 0 0) 0 []) := World.ownsRow_lit (base := wr.heap.size) wr.drew #[] 0 (Nat.le_refl _) (by unfold maxLen; omega) rfl
      have d3 : (wr.alloc (.cells #[] 9)).cell? ⟨rb, k, none⟩ = some (.slice a (D.cnt k) c) := by
        have := (HD1.out.since HS7.out).cel.cell k (by omega)
        rw [rcell_l _ _ _ _ k hlt, ea] at this
        exact this
      have d4 : (wr.alloc (.cells #[] 9)).cell? ⟨rb, 8 + k, none⟩ = some (.int .i64 (D.sure k)) := by
        have := (HD1.out.since HS7.out).cel.cell (8 + k) (by omega)
        rw [rcell_sure _ _ _ _ k hlt] at this
        exact this
      clear ea hTx hac
      go_wp2_with fail
      go_region_law (first
        | (obtain ⟨g3, cap3, w5, hr, ho, hg, hgg⟩ := run_spread (wr.drew.alloc (.cells #[] 9)) 22 wr.heap.size wr.heap.size a (D.sure k) c _ HLT.out (HTM.out.since HS7.out) (by omega) HS7.out.size; refine step_run (by rfl) (.tmp 14) (.tmp 27) 22 _ _ _ (by rfl) (by rfl) (by rfl) hr ?_; have HO3 : Hid (w5.ownsRow wr.heap.size 9 1 (.slice (some ⟨g3, 0, none⟩) (D.sure k) cap3) (D.sure k) (blks (D.blk k) (D.sure k))) := ho; have HS5 : Hid (Since wr w5) := Below.grown HS7.out hg HS7.out.size (fun j hj => by cases hj; exact Nat.le_refl _); have hc5 := HM.out.since HS5.out; have k1 := hc5.cell k (by omega); have l1 := hc5.frozen k (by omega); clear hr ho hg hgg hc5))
      all_goals
        go_wp2_with fail
        go_roundw
        case rel =>
          refine ⟨k + 1, fun z => if z = k then .slice (some ⟨g3, 0, none⟩) (D.sure k) cap3 else iv z, by omega, by go_num, ((HM.out.since HS5.out).set k (by omega) _).congr (fun j hj => ?_), (HR.out.since HS5.out).other (by simp) _, fun z hz => ?_, (HS.out.trans HS5.out).setCell (by simp) _, by have h1 := HS5.out.size; have h2 := HSZ.out; simp [World.setCell]; omega⟩
          · unfold updv icell ivTo
            by_cases h1 : j = k
            · subst h1
              dsimp only
              rw [if_pos rfl, if_pos hlt, if_pos (by omega), if_pos rfl]
            · rw [if_neg h1]
              by_cases h2 : j < 8
              · rw [if_pos h2, if_pos h2]
                by_cases h3 : j < k
                · dsimp only
                  rw [if_pos h3, if_pos (by omega), if_neg h1]
                · rw [if_neg h3, if_neg (by omega)]
              · rw [if_neg h2, if_neg h2]
          · by_cases h1 : z = k
            · subst h1
              simp only [if_true]
              exact ownsRow_setCell_below (ownsRow_base HO3.out HSZ.out) (by simp) _
            · simp only [if_neg h1]
              exact ownsRow_setCell_below (ownsRow_since (HW.out z (by omega)) HS5.out) (by simp) _
        case measure => simp [intOf]; omega
    · have hke : 8 = k := by omega
      subst hke
      have hiv : ∀ j, j < 8 → ivTo iv 8 j = iv j := fun j hj => by unfold ivTo; rw [if_pos hj]
      have hm3 : Cel wr (w.heap.size + 1) 10 (icell iv s0 s1) := HM.out.congr (fun j hj => by
        unfold icell
        by_cases h : j < 8
        · rw [if_pos h, if_pos h, hiv j h]
        · rw [if_neg h, if_neg h])
      have hR := hm3.range 0 10 (by omega)
      simp only [Nat.zero_add] at hR
      have hst := HR.out.store Tryd.prog 0 10 (by omega) (icell iv s0 s1) (icell_one HW.out s0 s1)
      have hL : (brow 10 (icell iv s0 s1)).length = 10 := brow_length _ _
      have hr3 := (HR.out.setRow 0 10 (by omega) (icell iv s0 s1)).congr (g := icell iv s0 s1) (fun j hj => by unfold updl; rw [if_pos (by omega)]; rfl)
      have hR3 := hr3.range 0 10 (by omega)
      simp only [Nat.zero_add] at hR3
      have HR3 : Hid _ := hR3
      have HS3 : Hid (Since w _) := HS.out.setCells (b := w.heap.size) (Nat.le_refl _) (brow 10 (icell iv s0 s1)) 0
      have HW3 : Hid (∀ z, z < 8 → (wr.setCells w.heap.size 0 (brow 10 (icell iv s0 s1))).ownsRow w.heap.size 9 1 (iv z) (D.sure z) (blks (D.blk z) (D.sure z))) := fun z hz =>
        ownsRow_base (ownsRow_fr (HW.out z hz) (Fr.setCells w.heap.size none _ 0 wr) (fun e => by have := ((HW.out z hz).lt _ e).1; omega) (none_or _)) (by omega)
      clear hm3 hr3 hR3 hiv
      generalize hcs : brow 10 (icell iv s0 s1) = cs at *
      go_wp2_with (refine wpList_load_mid (by rfl) 45 _ (by rfl) (w.heap.size + 1) 0 (by rfl) _ _ hR Tryd.underlying45 (by rfl) (by rw [hL]; kernel_rfl) ?_)
      refine bodyPost_ret (results_row Tryd.results45 _ _ _ w.heap.size _ _ (by rfl) HR3.out Tryd.underlying45 (by rfl) (by rw [hL]; kernel_rfl)) rfl ⟨iv, by rw [hcs], HW3.out, HS3.out⟩
end Go.Proofs.YtjfhggcjdckfgaaDoor
