/- The reference's device: Lay. -/
import Derived.Test.YtjfhggcjdckfgaaDoorT9
namespace Go.Proofs.YtjfhggcjdckfgaaDoor
set_option linter.unusedSimpArgs false
set_option linter.unusedVariables false
set_option maxRecDepth 100000
open Go.RowKit

theorem none_ref {w : World} {rb N : Nat} {D : Dv} {lv : Nat → Value} {av wv : Value} (h : Ref w rb N D lv av wv) :
    Ref ((w.setCell ⟨rb, 18, none⟩ (.slice none 0 0)).setCell ⟨rb, 19, none⟩ (.slice none 0 0)) rb N D.none lv (.slice none 0 0) (.slice none 0 0) where
  cel := by
    refine ((h.cel.set 18 (by omega) _).set 19 (by omega) _).congr (fun j hj => ?_)
    unfold updv
    by_cases e1 : j = 19
    · subst e1; rfl
    · rw [if_neg e1]
      by_cases e2 : j = 18
      · subst e2; rfl
      · rw [if_neg e2]
        unfold rcell
        by_cases h1 : j < 8
        · rw [if_pos h1, if_pos h1]
        · rw [if_neg h1, if_neg h1]
          by_cases h2 : j < 16
          · rw [if_pos h2, if_pos h2]; rfl
          · rw [if_neg h2, if_neg h2]
            by_cases e3 : j = 16
            · rw [if_pos e3, if_pos e3]; rfl
            · rw [if_neg e3, if_neg e3]
              by_cases e4 : j = 17
              · rw [if_pos e4, if_pos e4]; rfl
              · rw [if_neg e4, if_neg e4, if_neg e2, if_neg e2, if_neg e1, if_neg e1]; rfl
  row z hz := ownsRow_setCell_below (ownsRow_setCell_below (h.row z hz) h.lt _) h.lt _
  at_ := World.ownsRow_nil _ _ _ _
  what := World.ownsRow_nil _ _ _ _
  apart z hz := by
    cases hb : (lv z).ownBlock with
    | none => exact Or.inl rfl
    | some q => exact Or.inr (by simp [Value.ownBlock])
  lt := h.lt
  le := by have := h.le; simpa [World.setCell] using this
/-- zone k is another one -/
theorem zone_ref {w w5 : World} {rb N k m : Nat} {D D' : Dv} {lv : Nat → Value} {x : Value} (h : Ref w rb N D lv (.slice none 0 0) (.slice none 0 0)) (hF : Fr rb none w w5) (hc5 : Cel w5 rb 21 (updv (rcell D lv (.slice none 0 0) (.slice none 0 0)) k x)) (hk : k < 8) (hx : w5.ownsRow N 9 1 x m (blks (D'.blk k) m))
    (hm : D'.cnt k = m ∧ D'.sure k = m) (ho : ∀ z, z ≠ k → D'.cnt z = D.cnt z ∧ D'.blk z = D.blk z ∧ D'.sure z = D.sure z) (hs : D'.slot = D.slot) (hw : D'.ws = D.ws) (hz : D'.fz = D.fz) :
    Ref (w5.setCell ⟨rb, 8 + k, none⟩ (.int .i64 (m : Int))) rb N D' (updv lv k x) (.slice none 0 0) (.slice none 0 0) where
  cel := by
    refine (hc5.set (8 + k) (by omega) _).congr (fun j hj => ?_)
    unfold updv rcell
    rw [hs, hz]
    by_cases h1 : j = 8 + k
    · rw [if_pos h1, if_neg (by omega), if_pos (by omega), show j - 8 = k by omega, hm.2]
    · rw [if_neg h1]
      by_cases h2 : j = k
      · rw [if_pos h2, if_pos (by omega)]
        dsimp only
        rw [if_pos h2]
      · rw [if_neg h2]
        by_cases h3 : j < 8
        · rw [if_pos h3, if_pos h3]
          dsimp only
          rw [if_neg h2]
        · rw [if_neg h3, if_neg h3]
          by_cases h4 : j < 16
          · rw [if_pos h4, if_pos h4, (ho (j - 8) (by omega)).2.2]
          · rw [if_neg h4, if_neg h4]
  row y hy := by
    by_cases e : y = k
    · subst e
      rw [hm.1, show updv lv y x y = x by unfold updv; rw [if_pos rfl]]
      exact ownsRow_setCell_below hx h.lt _
    · rw [(ho y e).1, (ho y e).2.1, show updv lv k x y = lv y by unfold updv; rw [if_neg e]]
      exact ownsRow_setCell_below (ownsRow_fr (h.row y hy) hF (ne_of_base (h.row y hy) h.lt) (none_or _)) h.lt _
  at_ := by rw [hw]; exact ownsRow_setCell_below (ownsRow_fr h.at_ hF (ne_of_base h.at_ h.lt) (none_or _)) h.lt _
  what := by rw [hw]; exact ownsRow_setCell_below (ownsRow_fr h.what hF (ne_of_base h.what h.lt) (none_or _)) h.lt _
  apart y hy := by
    cases hb : (updv lv k x y).ownBlock with
    | none => exact Or.inl rfl
    | some q => exact Or.inr (by simp [Value.ownBlock])
  lt := h.lt
  le := by
    have h1 := h.le
    have h2 := hF.size
    have : (w5.setCell ⟨rb, 8 + k, none⟩ (.int .i64 (m : Int))).heap.size = w5.heap.size := by simp [World.setCell]
    omega
theorem blks_laid (l : Nat → ByteArray) (m : Nat) : blks (laidBlk l m) m = strL (fun j => txt 128 (sb (l j))) m := by
  unfold blks strL
  exact List.map_congr_left (fun j hj => by
    have : laidBlk l m j = sb (l j) := by funext i; unfold laidBlk; rw [if_pos (List.mem_range.1 hj)]
    rw [this])
theorem strL_succ (l : Nat → ByteArray) (n : Nat) : strL l (n + 1) = strL l n ++ [.string (l n)] := by
  unfold strL
  rw [List.range_succ, List.map_append]
  rfl
/-- slot k is s -/
theorem slot_ref {w : World} {rb N k : Nat} {D : Dv} {lv : Nat → Value} {av wv : Value} {s : ByteArray} (h : Ref w rb N D lv av wv) (hk : k < 2) : Ref (w.setCell ⟨rb, 16 + k, none⟩ (.string (txt 500 (sb s)))) rb N (D.slotTo k (sb s)) lv av wv := by
  refine h.cells (Fr.setCell _ _ _ _ _) ((h.cel.set (16 + k) (by omega) _).congr (fun j hj => ?_)) (fun _ _ => rfl) (fun _ _ _ _ => rfl) rfl
  unfold updv
  match k, hk with
  | 0, _ =>
    by_cases e : j = 16
    · subst e; rfl
    · rw [if_neg e]
      unfold rcell
      by_cases h1 : j < 8
      · rw [if_pos h1, if_pos h1]
      · rw [if_neg h1, if_neg h1]
        by_cases h2 : j < 16
        · rw [if_pos h2, if_pos h2]; rfl
        · rw [if_neg h2, if_neg h2, if_neg e, if_neg e]; rfl
  | 1, _ =>
    by_cases e : j = 17
    · subst e; rfl
    · rw [if_neg (by omega)]
      unfold rcell
      by_cases h1 : j < 8
      · rw [if_pos h1, if_pos h1]
      · rw [if_neg h1, if_neg h1]
        by_cases h2 : j < 16
        · rw [if_pos h2, if_pos h2]; rfl
        · rw [if_neg h2, if_neg h2]
          by_cases h3 : j = 16
          · rw [if_pos h3, if_pos h3]; rfl
          · rw [if_neg h3, if_neg h3, if_neg e, if_neg e]; rfl

theorem Fr.grown {b : Nat} {a w w' : World} {g : Option Nat} (h : Fr b none a w) (hg : w.grownBy w' g) (hb : ∀ k, g = some k → a.heap.size ≤ k) : Fr b none a w' :=
  ⟨hg.os.trans h.os, hg.tape.trans h.tape, hg.output.trans h.output, Nat.le_trans h.size hg.size, fun k hk h1 h2 => (hg.block k (Nat.lt_of_lt_of_le hk h.size) (fun e => by have := hb k e.symm; omega)).trans (h.block k hk h1 h2)⟩
theorem updv_twice (f : Nat → Value) (k : Nat) (x y : Value) (j : Nat) : updv (updv f k x) k y j = updv f k y j := by
  unfold updv
  by_cases h : j = k
  · rw [if_pos h, if_pos h]
  · rw [if_neg h, if_neg h, if_neg h]
set_option maxHeartbeats 4000000 in
theorem rlay_any (D : Dv) (lv : Nat → Value) (av wv : Value) (rb N : Nat) (iv : Nat → Value) (s0 s1 : ByteArray) (n : Nat → Nat) (l : Nat → Nat → ByteArray) (w : World) (hd : Ref w rb N D lv av wv) (hi : Img w rb iv n l) (hn : ∀ z, z < 8 → n z ≤ 1000) :
    Calls Tryd.prog 42 #[.pointer (some ⟨rb, 0, none⟩), .agg (brow 10 (icell iv s0 s1)).toArray] w fun e w' => e = .returned (.tuple #[]) ∧ (∃ lv', Ref w' rb N (D.laidBy n l s0 s1) lv' (.slice none 0 0) (.slice none 0 0)) ∧ Fr rb none w w' := by
  have HD : Hid (Ref w rb N D lv av wv) := hd
  have HI : Hid (Img w rb iv n l) := hi
  have HN : Hid (∀ z, z < 8 → n z ≤ 1000) := hn
  have hrbl : rb < w.heap.size := hd.cel.lt (by omega)
  have k18 := hd.cel.cell 18 (by omega)
  have l18 := hd.cel.frozen 18 (by omega)
  have k19 := hd.cel.cell 19 (by omega)
  have l19 := hd.cel.frozen 19 (by omega)
  have hr1 := none_ref hd
  have hf1 : Fr rb none w ((w.setCell ⟨rb, 18, none⟩ (.slice none 0 0)).setCell ⟨rb, 19, none⟩ (.slice none 0 0)) := (Fr.setCell _ _ _ _ _).trans' (Fr.setCell _ _ _ _ _)
  have hz1 : ((w.setCell ⟨rb, 18, none⟩ (.slice none 0 0)).setCell ⟨rb, 19, none⟩ (.slice none 0 0)).heap.size = w.heap.size := by simp [World.setCell]
  have HR1 : Hid (Ref ((w.setCell ⟨rb, 18, none⟩ (.slice none 0 0)).setCell ⟨rb, 19, none⟩ (.slice none 0 0)) rb N D.none lv (.slice none 0 0) (.slice none 0 0)) := hr1
  have HF1 : Hid (Fr rb none w ((w.setCell ⟨rb, 18, none⟩ (.slice none 0 0)).setCell ⟨rb, 19, none⟩ (.slice none 0 0))) := hf1
  have HZ1 : Hid (((w.setCell ⟨rb, 18, none⟩ (.slice none 0 0)).setCell ⟨rb, 19, none⟩ (.slice none 0 0)).heap.size = w.heap.size) := hz1
  clear hd hi hn hr1 hf1 hz1
  go_enter Tryd.func42, Tryd.ntmps42
  go_wp2_with fail
  clear k18 l18 k19 l19
  generalize (w.setCell ⟨rb, 18, none⟩ (.slice none 0 0)).setCell ⟨rb, 19, none⟩ (.slice none 0 0) = w1 at *
  have HC : Hid (Cel (w1.alloc (.cells (brow 10 (icell iv s0 s1)).toArray 45)) w.heap.size 10 (icell iv s0 s1)) := Cel.new w1 _ _ _ _ (img_get iv s0 s1) _ HZ1.out.symm
  have HR2 : Hid (Ref (w1.alloc (.cells (brow 10 (icell iv s0 s1)).toArray 45)) rb N (D.none.layTo n l 0) lv (.slice none 0 0) (.slice none 0 0)) := HR1.out.since ((Since.refl _).alloc _)
  have HF2 : Hid (Fr rb none w (w1.alloc (.cells (brow 10 (icell iv s0 s1)).toArray 45))) := HF1.out.trans' (Fr.of_since ((Since.refl _).alloc _))
  generalize w1.alloc (.cells (brow 10 (icell iv s0 s1)).toArray 45) = w2 at *
  clear HR1 HF1 HZ1 HD
  have HI2 : Hid (Img w2 rb iv n l) := HI.out.fr HF2.out
  go_loopw [14] (fun i wr => ∃ (k : Nat) (lv' : Nat → Value), k ≤ 8 ∧ i = .int .i64 k ∧ Ref wr rb N (D.none.layTo n l k) lv' (.slice none 0 0) (.slice none 0 0) ∧ Fr rb none w2 wr) (fun i _ => 8 - (intOf i).toNat)
  case atStart => exact ⟨0, lv, by omega, rfl, HR2.out, Fr.refl _ _ _⟩
  case round =>
    obtain ⟨k, lv', hk8, rfl, hr, hf⟩ := hrel
    have HR : Hid (Ref wr rb N (D.none.layTo n l k) lv' (.slice none 0 0) (.slice none 0 0)) := hr
    have HF : Hid (Fr rb none w2 wr) := hf
    clear hr hf
    by_cases hlt : k < 8
    · have hlt2 : (k : Int) < 8 := by omega
      have k1 := HR.out.cel.cell k (by omega)
      have l1 := HR.out.cel.frozen k (by omega)
      obtain ⟨a, c, ea, hnc, htx⟩ := (HI2.out.fr HF.out).row k hlt
      have hC := HC.out.fr HF.out (by omega) (by simp)
      have q1 := hC.cell k (by omega)
      rw [show icell iv s0 s1 k = iv k by unfold icell; rw [if_pos hlt], ea] at q1
      have hn1 := HN.out k hlt
      have hnb : ¬ w.heap.size = rb := by omega
      have HTX : Hid (0 < n k → ∃ kb o, a = some ⟨kb, o, none⟩ ∧ kb ≠ rb ∧ ∀ j, j < n k → wr.cell? ⟨kb, o + j, none⟩ = some (.string (l k j))) := htx
      clear hC htx ea
      obtain ⟨wq, hwq⟩ : ∃ x, x = wr := ⟨wr, rfl⟩
      subst hwq
      have HC5 : Hid (Cel (wq.setCell ⟨rb, k, none⟩ (.slice none 0 0)) rb 21 (updv (rcell (D.none.layTo n l k) lv' (.slice none 0 0) (.slice none 0 0)) k (.slice none 0 0))) := HR.out.cel.set k (by omega) _
      obtain ⟨i1, hi, hz0, hz1, hz3⟩ := info_parts' infoS
      have HJ : Hid (Tryd.prog.info? 9 = some i1 ∧ i1.zero = some (.string ⟨#[]⟩) ∧ i1.size = 1 ∧ i1.bytes = 16) := ⟨hi, hz0, hz1, hz3⟩
      have HQL : Hid (rb < wq.heap.size) := HR.out.cel.lt (by omega)
      clear hi hz0 hz1 hz3
      go_wp2_with fail
      clear q1 k1 l1
      go_loopw [27] (fun i wr => ∃ (q : Nat) (x : Value), q ≤ n k ∧ i = .int .i64 q ∧ Cel wr rb 21 (updv (rcell (D.none.layTo n l k) lv' (.slice none 0 0) (.slice none 0 0)) k x) ∧ wr.ownsRow wq.heap.size 9 1 x (min q 16) (strL (fun j => txt 128 (sb (l k j))) (min q 16)) ∧ Fr rb none wq wr) (fun i _ => n k - (intOf i).toNat)
      case atStart => exact ⟨0, .slice none 0 0, by omega, rfl, HC5.out, World.ownsRow_nil _ _ _ _, Fr.setCell _ _ _ _ _⟩
      case round =>
        obtain ⟨q, x, hqn, rfl, hc, hx, hfq⟩ := hrel
        have HCQ : Hid (Cel wr rb 21 (updv (rcell (D.none.layTo n l k) lv' (.slice none 0 0) (.slice none 0 0)) k x)) := hc
        have HX : Hid (wr.ownsRow wq.heap.size 9 1 x (min q 16) (strL (fun j => txt 128 (sb (l k j))) (min q 16))) := hx
        have HFQ : Hid (Fr rb none wq wr) := hfq
        have HXB : Hid (some rb ≠ x.ownBlock) := fun e => by have h1 := (hx.lt rb e.symm).1; have h2 := HQL.out; omega
        clear hc hx hfq
        by_cases hql : q < n k
        · have hql2 : (q : Int) < n k := by omega
          obtain ⟨kb, o, rfl, hkb, htc⟩ := HTX.out (by omega)
          have d1 := (HFQ.out.cell (p := ⟨kb, o + q, none⟩) (World.block_lt_of_cell? wq _ (htc q hql)) (by exact hkb) (by simp)).trans (htc q hql)
          clear htc
          by_cases hq16 : q < 16
          · have hq162 : (q : Int) < 16 := by omega
            have e0 := HCQ.out.cell k (by omega)
            rw [show updv (rcell (D.none.layTo n l k) lv' (.slice none 0 0) (.slice none 0 0)) k x k = x by unfold updv; rw [if_pos rfl]] at e0
            have HMQ : Hid (min q 16 = q ∧ min (q + 1) 16 = q + 1) := ⟨by omega, by omega⟩
            go_wp2_with fail
            go_region_law (first
              | (refine step_append_lies _ (by rfl) (.tmp 41) (.tmp 44) 22 (by rfl) wq.heap.size 9 i1 _ 1 16 Tryd.underlying22 HJ.out.1 HJ.out.2.1 HJ.out.2.2.1 HJ.out.2.2.2 (by rfl) (by decide) x (min q 16) (strL (fun j => txt 128 (sb (l k j))) (min q 16)) (by rfl) (ownsRow_since HX.out HS28.out) ⟨w3.heap.size, 0, none⟩ 1 1 [.string (txt 128 (sb (l k q)))] (by rfl) (by rfl) (World.news_of_block (heap_alloc_new w3 _)) (by simp [Value.oneCell']) (by decide) (by unfold maxLen; omega) (by omega) (Nat.le_trans HFQ.out.size HS28.out.size) (w3.heap.size + 1) (by simp) ?_; intro g2 cap2 w4 hown2 hgrow2 hat2 hlt2; have HO2 : Hid (w4.ownsRow wq.heap.size 9 1 (.slice (some ⟨g2, 0, none⟩) (min q 16 + 1) cap2) (min q 16 + 1) (strL (fun j => txt 128 (sb (l k j))) (min q 16) ++ [.string (txt 128 (sb (l k q)))])) := hown2; have HF4 : Hid (Fr rb none wq w4) := (HFQ.out.trans' (Fr.of_since HS28.out)).grown hgrow2 (fun j hj => (HX.out.lt j hj).1); have HC4 : Hid (Cel w4 rb 21 (updv (rcell (D.none.layTo n l k) lv' (.slice none 0 0) (.slice none 0 0)) k x)) := (HCQ.out.since HS28.out).grown hgrow2 HXB.out; have m1 := HC4.out.cell k (by omega); have n1 := HC4.out.frozen k (by omega); clear hown2 hgrow2 hat2 hlt2)
              | (go_simp; go_at_call 97; refine (rlong_any (l k q) 128 _ (by omega)).mono ?_; rintro e w3 ⟨rfl, hS3⟩; have HS28 : Hid (Since wr (w3.alloc (.cells #[.string (txt 128 (sb (l k q)))] 9))) := ((Since.refl wr).drew.trans hS3).alloc _; have e1 := (HCQ.out.since ((Since.refl wr).drew.trans hS3)).cell k (by omega); have e2 := (HCQ.out.since HS28.out).cell k (by omega); rw [show updv (rcell (D.none.layTo n l k) lv' (.slice none 0 0) (.slice none 0 0)) k x k = x by unfold updv; rw [if_pos rfl]] at e1 e2; dsimp only))
            all_goals
              go_wp2_with fail
              go_roundw
              case rel =>
                have h5 := ownsRow_setCell_below (a := ⟨rb, k, none⟩) HO2.out HQL.out (.slice (some ⟨g2, 0, none⟩) (min q 16 + 1) cap2)
                have h6 : (w4.setCell ⟨rb, k, none⟩ (.slice (some ⟨g2, 0, none⟩) (min q 16 + 1) cap2)).ownsRow wq.heap.size 9 1 (.slice (some ⟨g2, 0, none⟩) (min q 16 + 1) cap2) (min (q + 1) 16) (strL (fun j => txt 128 (sb (l k j))) (min (q + 1) 16)) := by
                  rw [HMQ.out.2, strL_succ]
                  rw [HMQ.out.1] at h5 ⊢
                  exact h5
                first
                | exact ⟨q + 1, .slice (some ⟨g2, 0, none⟩) (min q 16 + 1) cap2, by omega, by go_num, (HC4.out.set k (by omega) _).congr (fun j _ => updv_twice _ k x _ j), h6, HF4.out.trans' (Fr.setCell _ _ _ _ _)⟩
                | exact ⟨_, _, ⟨q + 1, .slice (some ⟨g2, 0, none⟩) (min q 16 + 1) cap2, by omega, by go_num, (HC4.out.set k (by omega) _).congr (fun j _ => updv_twice _ k x _ j), h6, HF4.out.trans' (Fr.setCell _ _ _ _ _)⟩, rfl⟩
              case measure => simp [intOf]; omega
          · have hq162 : ¬ (q : Int) < 16 := by omega
            have HMQ : Hid (min q 16 = 16 ∧ min (q + 1) 16 = 16) := ⟨by omega, by omega⟩
            go_wp2_with fail
            go_roundw
            case rel =>
              have h6 : wr.ownsRow wq.heap.size 9 1 x (min (q + 1) 16) (strL (fun j => txt 128 (sb (l k j))) (min (q + 1) 16)) := by rw [HMQ.out.2, ← HMQ.out.1]; exact HX.out
              exact ⟨q + 1, x, by omega, by go_num, HCQ.out, h6, HFQ.out⟩
            case measure => simp [intOf]; omega
        · have hqe : n k = q := by omega
          subst hqe
          obtain ⟨xa, xc, hxe, _, _⟩ := own_cells HX.out
          have e0 := HCQ.out.cell k (by omega)
          rw [show updv (rcell (D.none.layTo n l k) lv' (.slice none 0 0) (.slice none 0 0)) k x k = x by unfold updv; rw [if_pos rfl], hxe] at e0
          have e8 := HCQ.out.cell (8 + k) (by omega)
          have f8 := HCQ.out.frozen (8 + k) (by omega)
          have hne1 : ¬ 8 + k = k := by omega
          have HRN : Hid (Ref (wr.setCell ⟨rb, 8 + k, none⟩ (.int .i64 ((min (n k) 16 : Nat) : Int))) rb N (D.none.layTo n l (k + 1)) (updv lv' k x) (.slice none 0 0) (.slice none 0 0)) := by
            have hne : ∀ {α : Type} (z' : Nat) (u v : α), z' ≠ k → (if z' < k + 1 then u else v) = if z' < k then u else v := fun z' u v h => by
              by_cases h1 : z' < k
              · rw [if_pos h1, if_pos (by omega)]
              · rw [if_neg h1, if_neg (by omega)]
            refine zone_ref (D' := D.none.layTo n l (k + 1)) HR.out HFQ.out HCQ.out hlt ?_ ⟨?_, ?_⟩ (fun z hz => ⟨hne z _ _ hz, hne z _ _ hz, hne z _ _ hz⟩) rfl rfl rfl
            · have e : (D.none.layTo n l (k + 1)).blk k = laidBlk (l k) (min (n k) 16) := by show (if k < k + 1 then _ else _) = _; rw [if_pos (by omega)]
              rw [e, blks_laid]
              exact ownsRow_base HX.out HR.out.le
            · show (if k < k + 1 then _ else _) = _; rw [if_pos (by omega)]
            · show (if k < k + 1 then _ else _) = _; rw [if_pos (by omega)]
          have HFN : Hid (Fr rb none w2 (wr.setCell ⟨rb, 8 + k, none⟩ (.int .i64 ((min (n k) 16 : Nat) : Int)))) := (HF.out.trans' HFQ.out).trans' (Fr.setCell _ _ _ _ _)
          clear hxe
          generalize min (n k) 16 = mm at *
          go_wp2_with fail
          go_region
          all_goals
            go_wp2_with fail
            first
            | exact ⟨⟨k + 1, updv lv' k x, by omega, by go_num, HRN.out.since (Since.refl _).drew, HFN.out.trans' (Fr.of_since (Since.refl _).drew)⟩, by simp [intOf]; omega⟩
            | exact ⟨⟨k + 1, updv lv' k x, by omega, by go_num, HRN.out, HFN.out⟩, by simp [intOf]; omega⟩
    · have hke : 8 = k := by omega
      subst hke
      have hC := HC.out.fr HF.out (by omega) (by simp)
      have q8 := hC.cell 8 (by omega)
      have q9 := hC.cell 9 (by omega)
      rw [show icell iv s0 s1 8 = .string s0 from rfl] at q8
      rw [show icell iv s0 s1 9 = .string s1 from rfl] at q9
      have hnb : ¬ w.heap.size = rb := by omega
      have hnb2 : ¬ rb = w.heap.size := by omega
      have HC9 : Hid (Cel wr w.heap.size 10 (icell iv s0 s1)) := hC
      clear hC
      go_wp2_with fail
      refine wp_loop_rounds 3 ?_
      rw [rounds_succ]
      go_wp2_with fail
      go_region_with (go_at_call 97; refine (rlong_any s0 500 _ (by omega)).mono ?_; rintro e w3 ⟨rfl, hS3⟩; have HS3 : Hid (Since wr w3) := (Since.refl wr).drew.trans hS3; have e1 := (HR.out.since HS3.out).cel.cell 16 (by omega); have f1 := (HR.out.since HS3.out).cel.frozen 16 (by omega); clear hS3)
      all_goals
        have HR4 : Hid (Ref (w3.setCell ⟨rb, 16, none⟩ (.string (txt 500 (sb s0)))) rb N ((D.none.layTo n l 8).slotTo 0 (sb s0)) lv' (.slice none 0 0) (.slice none 0 0)) := slot_ref (k := 0) (HR.out.since HS3.out) (by omega)
        have HF4 : Hid (Fr rb none w2 (w3.setCell ⟨rb, 16, none⟩ (.string (txt 500 (sb s0))))) := (HF.out.trans' (Fr.of_since HS3.out)).trans' (Fr.setCell _ _ _ _ _)
        have q9b := ((HC9.out.since HS3.out).other (a := ⟨rb, 16, none⟩) (by show rb ≠ w.heap.size; omega) (.string (txt 500 (sb s0)))).cell 9 (by omega)
        rw [show icell iv s0 s1 9 = .string s1 from rfl] at q9b
        generalize w3.setCell ⟨rb, 16, none⟩ (.string (txt 500 (sb s0))) = w4 at *
        clear q8 q9 e1 f1
        go_wp2_with fail
        rw [rounds_succ]
        go_wp2_with fail
        go_region_with (go_at_call 97; refine (rlong_any s1 500 _ (by omega)).mono ?_; rintro e w5 ⟨rfl, hS5⟩; have HS5 : Hid (Since w4 w5) := (Since.refl w4).drew.trans hS5; have e2 := (HR4.out.since HS5.out).cel.cell 17 (by omega); have f2 := (HR4.out.since HS5.out).cel.frozen 17 (by omega); clear hS5)
        all_goals
          have HR6 : Hid (Ref (w5.setCell ⟨rb, 17, none⟩ (.string (txt 500 (sb s1)))) rb N (((D.none.layTo n l 8).slotTo 0 (sb s0)).slotTo 1 (sb s1)) lv' (.slice none 0 0) (.slice none 0 0)) := slot_ref (k := 1) (HR4.out.since HS5.out) (by omega)
          have HF6 : Hid (Fr rb none w2 (w5.setCell ⟨rb, 17, none⟩ (.string (txt 500 (sb s1))))) := (HF4.out.trans' (Fr.of_since HS5.out)).trans' (Fr.setCell _ _ _ _ _)
          generalize w5.setCell ⟨rb, 17, none⟩ (.string (txt 500 (sb s1))) = w6 at *
          clear q9b e2 f2
          go_wp2_with fail
          rw [rounds_succ]
          go_wp2_with fail
          go_end0
          exact ⟨rfl, ⟨lv', HR6.out⟩, HF2.out.trans' HF6.out⟩
end Go.Proofs.YtjfhggcjdckfgaaDoor
