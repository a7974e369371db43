import Derived.Deep.QuietTactic
import Derived.BigQuiet
import Derived.Deep.RegionWith
import Derived.Test.YtbfjklpoheooaaaGreatDoorJ26
import Derived.Test.YtbfjklpoheooaaaGreatDoorJ27
import Derived.Test.YtbfjklpoheooaaaGreatDoorJ29
set_option linter.unusedSimpArgs false
set_option linter.unusedVariables false
section
namespace Go.Proofs.YtbfjklpoheooaaaGreatDoor
open Go.RowKit
def Dv.cutTo (D : Dv) (kp : Nat → Nat) (k : Nat) : Dv := { D with cnt := fun z => if z < k then min (D.sure z + kp z) (D.cnt z) else D.cnt z, sure := fun z => if z < k then min (D.sure z + kp z) (D.cnt z) else D.sure z }
theorem cut_ref {w w5 : World} {rb N k : Nat} {kp : Nat → Nat} {D : Dv} {lv : Nat → Value} {av wv x : Value} (h : Ref w rb N (D.cutTo kp k) lv av wv) (hF : Fr rb none w w5) (hc5 : Cel w5 rb 21 (updv (rcell (D.cutTo kp k) lv av wv) k x)) (hk : k < 8) (hx : w5.ownsRow N 9 1 x (min (D.sure k + kp k) (D.cnt k)) (blks (D.blk k) (min (D.sure k + kp k) (D.cnt k)))) (hnew : x = lv k ∨ ∀ j, x.ownBlock = some j → w.heap.size ≤ j) :
    Ref (w5.setCell ⟨rb, 8 + k, none⟩ (.int .i64 ((min (D.sure k + kp k) (D.cnt k) : Nat) : Int))) rb N (D.cutTo kp (k + 1)) (updv lv k x) av wv where
  cel := by
    refine (hc5.set (8 + k) (by omega) _).congr (fun j hj => ?_)
    unfold updv rcell
    by_cases h1 : j = 8 + k
    · rw [if_pos h1, if_neg (by omega), if_pos (by omega)]
      have e : (D.cutTo kp (k + 1)).sure (j - 8) = min (D.sure k + kp k) (D.cnt k) := by
        rw [show j - 8 = k by omega]
        show (if k < k + 1 then _ else _) = _
        rw [if_pos (by omega)]
      rw [e]
    · rw [if_neg h1]
      by_cases h2 : j = k
      · rw [if_pos h2, if_pos (by omega)]
        dsimp only
        rw [if_pos h2]
      · rw [if_neg h2]
        by_cases h3 : j < 8
        · rw [if_pos h3, if_pos h3]
          dsimp only
          rw [if_neg h2]
        · rw [if_neg h3, if_neg h3]
          by_cases h4 : j < 16
          · rw [if_pos h4, if_pos h4]
            have e : (D.cutTo kp (k + 1)).sure (j - 8) = (D.cutTo kp k).sure (j - 8) := by
              show (if j - 8 < k + 1 then _ else _) = (if j - 8 < k then _ else _)
              by_cases h5 : j - 8 < k
              · rw [if_pos h5, if_pos (by omega)]
              · rw [if_neg h5, if_neg (by omega)]
            rw [e]
          · rw [if_neg h4, if_neg h4]
            rfl
  row y hy := by
    by_cases e : y = k
    · subst e
      have e1 : (D.cutTo kp (y + 1)).cnt y = min (D.sure y + kp y) (D.cnt y) := by show (if y < y + 1 then _ else _) = _; rw [if_pos (by omega)]
      rw [e1, show updv lv y x y = x by unfold updv; rw [if_pos rfl]]
      exact ownsRow_setCell_below hx h.lt _
    · have e1 : (D.cutTo kp (k + 1)).cnt y = (D.cutTo kp k).cnt y := by
        show (if y < k + 1 then _ else _) = (if y < k then _ else _)
        by_cases h5 : y < k
        · rw [if_pos h5, if_pos (by omega)]
        · rw [if_neg h5, if_neg (by omega)]
      rw [e1, show updv lv k x y = lv y by unfold updv; rw [if_neg e]]
      exact ownsRow_setCell_below (ownsRow_fr (h.row y hy) hF (ne_of_base (h.row y hy) h.lt) (none_or _)) h.lt _
  at_ := ownsRow_setCell_below (ownsRow_fr h.at_ hF (ne_of_base h.at_ h.lt) (none_or _)) h.lt _
  what := ownsRow_setCell_below (ownsRow_fr h.what hF (ne_of_base h.what h.lt) (none_or _)) h.lt _
  apart y hy := by
    by_cases e : y = k
    · subst e
      rw [show updv lv y x y = x by unfold updv; rw [if_pos rfl]]
      rcases hnew with hnew | hnew
      · rw [hnew]; exact h.apart y hy
      · cases hb : x.ownBlock with
        | none => exact Or.inl rfl
        | some q =>
          right
          intro e2
          have h1 := hnew q hb
          have h2 := (h.what.lt q e2.symm).2
          omega
    · rw [show updv lv k x y = lv y by unfold updv; rw [if_neg e]]
      exact h.apart y hy
  lt := h.lt
  le := by
    have h1 := h.le
    have h2 := hF.size
    have : (w5.setCell ⟨rb, 8 + k, none⟩ (.int .i64 ((min (D.sure k + kp k) (D.cnt k) : Nat) : Int))).heap.size = w5.heap.size := by simp [World.setCell]
    omega
theorem updv_self (f : Nat → Value) (k : Nat) (j : Nat) : f j = updv f k (f k) j := by
  unfold updv
  by_cases h : j = k
  · rw [if_pos h, h]
  · rw [if_neg h]
set_option maxRecDepth 100000
def Dv.sTo (D : Dv) (kept : Nat → Bool) (n : Nat) : Dv := { D with slot := fun k => sb (D.getTo k kept n) }
theorem getTo_txt (D : Dv) (k : Nat) (kept : Nat → Bool) : ∀ n, txt 500 (sb (D.getTo k kept n)) = D.getTo k kept n
  | 0 => txt_congr (fun i hi => sb_txt 500 _ i hi)
  | n + 1 => by
    unfold Dv.getTo
    split
    · exact txt_congr (fun i hi => sb_txt 500 _ i hi)
    · exact getTo_txt D k kept n
theorem rcell_sTo (D : Dv) (kept : Nat → Bool) (n : Nat) (lv : Nat → Value) (av wv : Value) (j : Nat) : rcell (D.sTo kept n) lv av wv j = if j = 16 then .string (D.getTo 0 kept n) else if j = 17 then .string (D.getTo 1 kept n) else rcell D lv av wv j := by
  unfold rcell
  by_cases h1 : j < 8
  · rw [if_pos h1, if_pos h1, if_neg (by omega), if_neg (by omega)]
  · rw [if_neg h1, if_neg h1]
    by_cases h2 : j < 16
    · rw [if_pos h2, if_pos h2, if_neg (by omega), if_neg (by omega)]; rfl
    · rw [if_neg h2, if_neg h2]
      by_cases h3 : j = 16
      · rw [if_pos h3, if_pos h3, ← getTo_txt D 0 kept n]; rfl
      · rw [if_neg h3, if_neg h3, if_neg h3]
        by_cases h4 : j = 17
        · rw [if_pos h4, if_pos h4, ← getTo_txt D 1 kept n]; rfl
        · rw [if_neg h4, if_neg h4, if_neg h4]; rfl
theorem sTo_zero (D : Dv) (kept : Nat → Bool) (lv : Nat → Value) (av wv : Value) (j : Nat) : rcell D lv av wv j = rcell (D.sTo kept 0) lv av wv j := by
  rw [rcell_sTo]
  by_cases h : j = 16
  · rw [if_pos h, h]; rfl
  · rw [if_neg h]
    by_cases h2 : j = 17
    · rw [if_pos h2, h2]; rfl
    · rw [if_neg h2]
theorem sTo_skip (D : Dv) (kept : Nat → Bool) (n : Nat) (lv : Nat → Value) (av wv : Value) (hk : kept n = false) (j : Nat) : rcell (D.sTo kept n) lv av wv j = rcell (D.sTo kept (n + 1)) lv av wv j := by
  have e : ∀ k, D.getTo k kept (n + 1) = D.getTo k kept n := fun k => by rw [Dv.getTo, if_neg (fun h => by rw [hk] at h; exact absurd h.2 (by decide))]
  rw [rcell_sTo, rcell_sTo, e, e]
theorem sTo_set (D : Dv) (kept : Nat → Bool) (n q : Nat) (lv : Nat → Value) (av wv : Value) (hk : kept n = true) (hq : (D.ws.getD n (0, ⟨#[]⟩)).1 = q) (hq2 : q < 2) (j : Nat) : updv (rcell (D.sTo kept n) lv av wv) (16 + q) (.string (txt 500 (sb (D.ws.getD n (0, ⟨#[]⟩)).2))) j = rcell (D.sTo kept (n + 1)) lv av wv j := by
  have e1 : D.getTo q kept (n + 1) = txt 500 (sb (D.ws.getD n (0, ⟨#[]⟩)).2) := by rw [Dv.getTo, if_pos ⟨hq, hk⟩]
  have e2 : ∀ k, k ≠ q → D.getTo k kept (n + 1) = D.getTo k kept n := fun k h => by rw [Dv.getTo, if_neg (fun h2 => h (by rw [← h2.1, hq]))]
  rw [rcell_sTo]
  unfold updv
  rw [rcell_sTo]
  match q, hq2 with
  | 0, _ =>
    rw [e1, e2 1 (by decide)]
    by_cases h : j = 16
    · rw [if_pos h, if_pos h]
    · rw [if_neg h, if_neg h, if_neg h]
  | 1, _ =>
    rw [e1, e2 0 (by decide)]
    by_cases h : j = 16
    · rw [if_neg (by omega), if_pos h, if_pos h]
    · rw [if_neg h, if_neg h]
      by_cases h2 : j = 17
      · rw [if_pos (by omega), if_pos h2]
      · rw [if_neg (by omega)]
        simp only [if_neg h2]
theorem lose_end {w : World} {rb N : Nat} {D E : Dv} {kept : Nat → Bool} {lv : Nat → Value} {av wv : Value} (h : Ref w rb N (E.sTo kept E.ws.length) lv av wv) (he : E.slotBy 0 kept = D.slotBy 0 kept ∧ E.slotBy 1 kept = D.slotBy 1 kept) :
    Ref ((w.setCell ⟨rb, 18, none⟩ (.slice none 0 0)).setCell ⟨rb, 19, none⟩ (.slice none 0 0)) rb N (((E.slotTo 0 (D.slotBy 0 kept)).slotTo 1 (D.slotBy 1 kept)).none) lv (.slice none 0 0) (.slice none 0 0) where
  cel := by
    refine ((h.cel.set 18 (by omega) _).set 19 (by omega) _).congr (fun j hj => ?_)
    unfold updv
    by_cases e1 : j = 19
    · subst e1; rfl
    · rw [if_neg e1]
      by_cases e2 : j = 18
      · subst e2; rfl
      · rw [if_neg e2, rcell_sTo, getTo_slot, getTo_slot, he.1, he.2]
        by_cases e3 : j = 16
        · subst e3; rfl
        · rw [if_neg e3]
          by_cases e4 : j = 17
          · subst e4; rfl
          · rw [if_neg e4]
            unfold rcell
            by_cases h1 : j < 8
            · rw [if_pos h1, if_pos h1]
            · rw [if_neg h1, if_neg h1]
              by_cases h2 : j < 16
              · rw [if_pos h2, if_pos h2]; rfl
              · rw [if_neg h2, if_neg h2, if_neg e3, if_neg e3, if_neg e4, if_neg e4, if_neg e2, if_neg e2, if_neg e1, if_neg e1]; rfl
  row z hz := ownsRow_setCell_below (ownsRow_setCell_below (h.row z hz) h.lt _) h.lt _
  at_ := World.ownsRow_nil _ _ _ _
  what := World.ownsRow_nil _ _ _ _
  apart z hz := by
    cases hb : (lv z).ownBlock with
    | none => exact Or.inl rfl
    | some q => exact Or.inr (by simp [Value.ownBlock])
  lt := h.lt
  le := by have := h.le; simpa [World.setCell] using this
set_option maxRecDepth 100000 in
set_option maxHeartbeats 4000000 in
theorem lose_any (D : Dv) (lv : Nat → Value) (av wv : Value) (rb N fk fs : Nat) (ck cs : Array Value) (kp : Nat → Nat) (kept : Nat → Bool) (w : World) (hd : Ref w rb N D lv av wv) (hok : D.ok)
    (hek : ∀ args w, (callFunc fk args).run Tryz.prog w = .ok (.enter fk args) w) (hes : ∀ args w, (callFunc fs args).run Tryz.prog w = .ok (.enter fs args) w)
    (hk : ∀ (z : Nat) (W : World), z < 8 → Fr rb none w W → Calls Tryz.prog fk (#[.int .i64 z] ++ ck) W fun e W' => e = .returned (.int .i64 (kp z : Int)) ∧ W' = W) (hk16 : ∀ z, kp z ≤ 16)
    (hs : ∀ (i : Nat) (W : World), Fr rb none w W → Calls Tryz.prog fs (#[.int .i64 i] ++ cs) W fun e W' => e = .returned (.bool (kept i)) ∧ W' = W) :
    Calls Tryz.prog 58 #[.pointer (some ⟨rb, 0, none⟩), .func (.func fk) #[] ck, .func (.func fs) #[] cs] w fun e w' => e = .returned (.tuple #[]) ∧ (∃ lv', Ref w' rb N ((((D.cutTo kp 8).slotTo 0 (D.slotBy 0 kept)).slotTo 1 (D.slotBy 1 kept)).none) lv' (.slice none 0 0) (.slice none 0 0)) ∧ Fr rb none w w' := by
  have HD : Hid (Ref w rb N D lv av wv) := hd
  have HK : Hid (∀ (z : Nat) (W : World), z < 8 → Fr rb none w W → Calls Tryz.prog fk (#[.int .i64 z] ++ ck) W fun e W' => e = .returned (.int .i64 (kp z : Int)) ∧ W' = W) := hk
  have HS : Hid (∀ (i : Nat) (W : World), Fr rb none w W → Calls Tryz.prog fs (#[.int .i64 i] ++ cs) W fun e W' => e = .returned (.bool (kept i)) ∧ W' = W) := hs
  have HOK : Hid (D.ok) := hok
  have HK16 : Hid (∀ z, kp z ≤ 16) := hk16
  clear hd hk hs hok hk16
  go_enter Tryz.func58, Tryz.ntmps58
  go_wp2_with fail
  go_loopw [10] (fun i wr => ∃ (k : Nat) (lv' : Nat → Value), k ≤ 8 ∧ i = .int .i64 k ∧ Ref wr rb N (D.cutTo kp k) lv' av wv ∧ Fr rb none w wr) (fun i _ => 8 - (intOf i).toNat)
  case atStart => exact ⟨0, lv, by omega, rfl, HD.out, Fr.refl _ _ _⟩
  case round =>
    obtain ⟨k, lv', hk8, rfl, hr, hf⟩ := hrel
    have HR : Hid (Ref wr rb N (D.cutTo kp k) lv' av wv) := hr
    have HF : Hid (Fr rb none w wr) := hf
    clear hr hf
    by_cases hlt : k < 8
    · have hlt2 : (k : Int) < 8 := by omega
      have c1 := HR.out.cel.cell (8 + k) (by omega)
      have e1 : (D.cutTo kp k).sure k = D.sure k := by show (if k < k then _ else _) = _; rw [if_neg (by omega)]
      rw [rcell_sure _ _ _ _ k hlt, e1] at c1
      go_wp2_with fail
      go_region_with (refine (HK.out k _ hlt (HF.out.trans' (Fr.of_since (Since.refl _).drew))).mono ?_; rintro e W' ⟨rfl, hW⟩; subst hW)
      all_goals
        have hkk := HK16.out k
        have hs16 : D.sure k ≤ 16 := Nat.le_trans (HOK.out.sure k hlt) (HOK.out.cnt k hlt)
        have hc16 := HOK.out.cnt k hlt
        have ec : (D.cutTo kp k).cnt k = D.cnt k := by show (if k < k then _ else _) = _; rw [if_neg (by omega)]
        have hrow := HR.out.row k hlt
        rw [ec] at hrow
        obtain ⟨a, c, ea, hac, hTx⟩ := Tx.of_own (l := fun j => txt 128 (D.blk k j)) hrow
        have d1 := HR.out.cel.cell k (by omega)
        have g1 := HR.out.cel.frozen k (by omega)
        have g2 := HR.out.cel.frozen (8 + k) (by omega)
        rw [rcell_l _ _ _ _ k hlt, ea] at d1
        have HEA : Hid (lv' k = .slice a (D.cnt k) c) := ea
        have HTX : Hid (Tx wr a (D.cnt k) (fun j => txt 128 (D.blk k j))) := hTx
        have HROW : Hid (wr.ownsRow N 9 1 (lv' k) (D.cnt k) (blks (D.blk k) (D.cnt k))) := hrow
        clear e1 ec ea hTx hrow
        by_cases hcut : D.sure k + kp k < D.cnt k
        · have hcut2 : (D.sure k : Int) + (kp k : Int) < D.cnt k := by omega
          have ht : ((D.sure k : Int) + (kp k : Int)).toNat = D.sure k + kp k := by omega
          have hcap : D.sure k + kp k ≤ c := by omega
          obtain ⟨m, hm⟩ : ∃ m : Nat, m = D.sure k + kp k := ⟨_, rfl⟩
          have hm2 : (D.sure k : Int) + (kp k : Int) = (m : Int) := by omega
          obtain ⟨g, o, rfl, hTc⟩ := HTX.out (by omega)
          have HM : Hid (min (D.sure k + kp k) (D.cnt k) = m ∧ m ≤ 16 ∧ m < D.cnt k) := ⟨by omega, by omega, by omega⟩
          have HTM : Hid (Tx wr (some ⟨g, o, none⟩) m (fun j => txt 128 (D.blk k j))) := fun _ => ⟨g, o, rfl, fun j hj => hTc j (by omega)⟩
          have hmc : m ≤ c := by omega
          have HM2 : Hid ((D.sure k : Int) + (kp k : Int) = (m : Int)) := hm2
          clear hTc ht hcap hm hm2
          go_wp2_with fail
          rw [HM2.out]
          clear hcut2 hcut
          have HS7 : Hid (Since wr (wr.drew.drew.alloc (.cells #[] 9))) := ((Since.refl wr).drew.drew).alloc _
          have HLT : Hid ((wr.drew.drew.alloc (.cells #[] 9)).ownsRow wr.heap.size 9 1 (.slice (some ⟨wr.heap.size, 0, none⟩) 0 0) 0 []) := World.ownsRow_lit (base := wr.heap.size) wr.drew.drew #[] 0 (Nat.le_refl _) (by unfold maxLen; omega) rfl
          have d2 : (wr.alloc (.cells #[] 9)).cell? ⟨rb, k, none⟩ = some (.slice (some ⟨g, o, none⟩) (D.cnt k) c) := by
            have := (HR.out.since HS7.out).cel.cell k (by omega)
            rw [rcell_l _ _ _ _ k hlt, HEA.out] at this
            exact this
          have hne1 : ¬ 8 + k = k := by omega
          have hne2 : ¬ k = 8 + k := by omega
          go_region_law (first
            | (obtain ⟨g3, cap3, w5, hr, ho, hg, hgg⟩ := run_spread (wr.drew.drew.alloc (.cells #[] 9)) 44 wr.heap.size wr.heap.size (some ⟨g, o, none⟩) m c _ HLT.out (HTM.out.since HS7.out) (by have := HM.out; omega) HS7.out.size; refine step_run (by rfl) (.tmp 34) (.tmp 42) 44 _ _ _ (by rfl) (by rfl) (by rfl) hr ?_; have HO3 : Hid (w5.ownsRow wr.heap.size 9 1 (.slice (some ⟨g3, 0, none⟩) m cap3) m (blks (D.blk k) m)) := ho; have HS2 : Hid (Since wr w5) := Below.grown HS7.out hg HS7.out.size (fun j hj => by cases hj; exact Nat.le_refl _); have hc5 := (HR.out.since HS2.out).cel; have k1 := hc5.cell k (by omega); have l1 := hc5.frozen k (by omega); have k2 := hc5.cell (8 + k) (by omega); have l2 := hc5.frozen (8 + k) (by omega); clear hr ho hg hgg hc5))
          all_goals
            go_wp2_with fail
            go_region
            all_goals
              go_wp2_with fail
              go_roundw
              case rel =>
                refine ⟨k + 1, updv lv' k (.slice (some ⟨g3, 0, none⟩) m cap3), by omega, by go_num, ?_, ?_⟩
                · have hh := cut_ref (x := .slice (some ⟨g3, 0, none⟩) m cap3) HR.out ((Fr.of_since HS2.out).trans' (Fr.setCell rb none k w5 _)) ((HR.out.since HS2.out).cel.set k (by omega) _) hlt (by rw [HM.out.1]; exact ownsRow_setCell_below (ownsRow_base HO3.out HR.out.le) HR.out.lt _) (Or.inr (fun j hj => (HO3.out.lt j hj).1))
                  rw [HM.out.1] at hh
                  first | exact hh | exact hh.since (Since.refl _).drew | exact (hh.since (Since.refl _).drew).since (Since.refl _).drew
                · have hh := ((HF.out.trans' (Fr.of_since HS2.out)).trans' (Fr.setCell rb none k w5 (.slice (some ⟨g3, 0, none⟩) m cap3))).trans' (Fr.setCell rb none (8 + k) _ (.int .i64 ((m : Nat) : Int)))
                  first | exact hh | exact hh.trans' (Fr.of_since (Since.refl _).drew) | exact (hh.trans' (Fr.of_since (Since.refl _).drew)).trans' (Fr.of_since (Since.refl _).drew)
              case measure => simp [intOf]; omega
        · have hcut2 : ¬ (D.sure k : Int) + (kp k : Int) < D.cnt k := by omega
          have hmin : min (D.sure k + kp k) (D.cnt k) = D.cnt k := by omega
          have HMIN : Hid (min (D.sure k + kp k) (D.cnt k) = D.cnt k) := hmin
          clear hmin
          go_wp2_with fail
          go_region
          all_goals
            go_wp2_with fail
            go_roundw
            case rel =>
              refine ⟨k + 1, updv lv' k (lv' k), by omega, by go_num, ?_, ?_⟩
              · have hh := cut_ref HR.out (Fr.refl _ _ _) (HR.out.cel.congr (fun j _ => by rw [← rcell_l (D.cutTo kp k) lv' av wv k hlt]; exact updv_self _ k j)) hlt (by rw [HMIN.out]; exact HROW.out) (Or.inl rfl)
                rw [HMIN.out] at hh
                first | exact hh | exact hh.since (Since.refl _).drew | exact (hh.since (Since.refl _).drew).since (Since.refl _).drew
              · have hh := HF.out.trans' (Fr.setCell rb none (8 + k) wr (.int .i64 ((D.cnt k : Nat) : Int)))
                first | exact hh | exact hh.trans' (Fr.of_since (Since.refl _).drew) | exact (hh.trans' (Fr.of_since (Since.refl _).drew)).trans' (Fr.of_since (Since.refl _).drew)
            case measure => simp [intOf]; omega
    · have hke : 8 = k := by omega
      subst hke
      obtain ⟨aa, ac, ea, _, ha⟩ := own_cells HR.out.at_
      obtain ⟨wa, wc, ew, _, hw⟩ := own_cells HR.out.what
      subst ea
      subst ew
      have HA : Hid (0 < (D.cutTo kp 8).ws.length → ∃ g, aa = some ⟨g, 0, none⟩ ∧ N ≤ g ∧ ∀ j x, j < (D.cutTo kp 8).ws.length → (atL (D.cutTo kp 8).ws)[j]? = some x → wr.cell? ⟨g, j, none⟩ = some x) := ha
      have HW : Hid (0 < (D.cutTo kp 8).ws.length → ∃ g, wa = some ⟨g, 0, none⟩ ∧ N ≤ g ∧ ∀ j x, j < (D.cutTo kp 8).ws.length → (whatL (D.cutTo kp 8).ws)[j]? = some x → wr.cell? ⟨g, j, none⟩ = some x) := hw
      have HWS : Hid (∀ p ∈ (D.cutTo kp 8).ws, p.1 < 2 ∧ p.2.size ≤ 500) := HOK.out.ws
      have HFW : Hid ((D.cutTo kp 8).ws.length ≤ 1000) := HOK.out.few
      have HSB : Hid ((D.cutTo kp 8).slotBy 0 kept = D.slotBy 0 kept ∧ (D.cutTo kp 8).slotBy 1 kept = D.slotBy 1 kept) := ⟨rfl, rfl⟩
      have c18 := HR.out.cel.cell 18 (by omega)
      rw [rcell_at] at c18
      have HR0 : Hid (Ref wr rb N ((D.cutTo kp 8).sTo kept 0) lv' (.slice aa (D.cutTo kp 8).ws.length ac) (.slice wa (D.cutTo kp 8).ws.length wc)) := HR.out.cells (Fr.refl _ _ _) (HR.out.cel.congr (fun j _ => sTo_zero _ kept _ _ _ j)) (fun _ _ => rfl) (fun _ _ _ _ => rfl) rfl
      generalize hCE : D.cutTo kp 8 = E at *
      have HCE : Hid (D.cutTo kp 8 = E) := hCE
      clear hCE
      clear ha hw HR HD HK hek
      go_wp2_with fail
      clear c18
      obtain ⟨wq, hwq⟩ : ∃ x, x = wr := ⟨wr, rfl⟩
      subst hwq
      go_loopw [65] (fun i wr => ∃ n : Nat, n ≤ E.ws.length ∧ i = .int .i64 n ∧ Ref wr rb N (E.sTo kept n) lv' (.slice aa E.ws.length ac) (.slice wa E.ws.length wc) ∧ Fr rb none wq wr) (fun i _ => E.ws.length - (intOf i).toNat)
      case atStart => exact ⟨0, by omega, rfl, HR0.out, Fr.refl _ _ _⟩
      case round =>
        obtain ⟨n, hnl, rfl, hr, hf⟩ := hrel
        have HR : Hid (Ref wr rb N (E.sTo kept n) lv' (.slice aa E.ws.length ac) (.slice wa E.ws.length wc)) := hr
        have HF2 : Hid (Fr rb none wq wr) := hf
        clear hr hf
        by_cases hlt : n < E.ws.length
        · have hlt2 : (n : Int) < E.ws.length := by omega
          obtain ⟨ga, rfl, hga, ha⟩ := HA.out (by omega)
          obtain ⟨gw, rfl, hgw, hw⟩ := HW.out (by omega)
          have hrbN := HR.out.lt
          have hfw := HFW.out
          have q1 := ha n _ hlt (atL_get _ n hlt)
          have q2 := hw n _ hlt (whatL_get _ n hlt)
          replace q1 := (HF2.out.cell (p := ⟨ga, n, none⟩) (World.block_lt_of_cell? wq _ q1) (by show ga ≠ rb; omega) (by simp)).trans q1
          replace q2 := (HF2.out.cell (p := ⟨gw, n, none⟩) (World.block_lt_of_cell? wq _ q2) (by show gw ≠ rb; omega) (by simp)).trans q2
          have hq2 := (HWS.out (E.ws.getD n (0, ⟨#[]⟩)) (by rw [List.getD_eq_getElem?_getD, List.getElem?_eq_getElem hlt]; exact List.getElem_mem hlt)).1
          obtain ⟨q, hq⟩ : ∃ q, (E.ws.getD n (0, ⟨#[]⟩)).1 = q := ⟨_, rfl⟩
          rw [hq] at q1 hq2
          have HQ : Hid ((E.ws.getD n (0, ⟨#[]⟩)).1 = q) := hq
          have hq3 : (q : Int) < 2 := by omega
          clear ha hw hq hga hgw
          go_wp2_with fail
          refine (HS.out n _ (HF.out.trans' HF2.out)).mono ?_
          rintro e W' ⟨rfl, hW⟩
          subst hW
          cases hkn : kept n with
          | false =>
            go_wp2_with fail
            go_roundw
            case rel => (repeat apply Exists.intro); exact ⟨⟨n + 1, by omega, by go_num, HR.out.cells (Fr.refl _ _ _) (HR.out.cel.congr (fun j _ => sTo_skip E kept n _ _ _ hkn j)) (fun _ _ => rfl) (fun _ _ _ _ => rfl) rfl, HF2.out⟩, rfl⟩
            case measure => simp [intOf]; omega
          | true =>
            have c19 := HR.out.cel.cell 19 (by omega)
            rw [rcell_what] at c19
            have c16 := HR.out.cel.cell (16 + q) (by omega)
            have f16 := HR.out.cel.frozen (16 + q) (by omega)
            have HRN : Hid (Ref _ rb N (E.sTo kept (n + 1)) lv' (.slice (some ⟨ga, 0, none⟩) E.ws.length ac) (.slice (some ⟨gw, 0, none⟩) E.ws.length wc)) := HR.out.cells (Fr.setCell rb none (16 + q) W' (.string (txt 500 (sb (E.ws.getD n (0, ⟨#[]⟩)).2)))) ((HR.out.cel.set (16 + q) (by omega) _).congr (fun j _ => sTo_set E kept n q _ _ _ hkn HQ.out hq2 j)) (fun _ _ => rfl) (fun _ _ _ _ => rfl) rfl
            have HFN : Hid (Fr rb none wq (W'.setCell ⟨rb, 16 + q, none⟩ (.string (txt 500 (sb (E.ws.getD n (0, ⟨#[]⟩)).2))))) := HF2.out.trans' (Fr.setCell _ _ _ _ _)
            generalize (E.ws.getD n (0, ⟨#[]⟩)).2 = tx at *
            go_wp2_with fail
            go_region
            all_goals
              go_wp2_with fail
              go_roundw
              case rel =>
                (repeat apply Exists.intro)
                refine ⟨⟨n + 1, by omega, by go_num, ?_, ?_⟩, rfl⟩
                · first | exact HRN.out | exact HRN.out.since (Since.refl _).drew
                · first | exact HFN.out | exact HFN.out.trans' (Fr.of_since (Since.refl _).drew)
              case measure => simp [intOf]; omega
        · have hne : n = E.ws.length := by omega
          subst hne
          have k18 := HR.out.cel.cell 18 (by omega)
          have l18 := HR.out.cel.frozen 18 (by omega)
          have k19 := HR.out.cel.cell 19 (by omega)
          have l19 := HR.out.cel.frozen 19 (by omega)
          go_wp2_with fail
          go_end0
          rw [HCE.out]
          exact ⟨rfl, ⟨lv', lose_end HR.out HSB.out⟩, ((HF.out.trans' HF2.out).trans' (Fr.setCell _ _ _ _ _)).trans' (Fr.setCell _ _ _ _ _)⟩
end Go.Proofs.YtbfjklpoheooaaaGreatDoor
end
section
namespace Go.Proofs.YtbfjklpoheooaaaGreatDoor
set_option maxRecDepth 100000
open Go.RowKit
theorem Ref.same {w : World} {rb N : Nat} {D D' : Dv} {lv : Nat → Value} {av wv : Value} (h : Ref w rb N D lv av wv) (h1 : ∀ z, z < 8 → D'.cnt z = D.cnt z) (h2 : ∀ z j, z < 8 → j < D.cnt z → D'.blk z j = D.blk z j) (h3 : D'.ws = D.ws)
    (h4 : ∀ z, z < 8 → D'.sure z = D.sure z) (h5 : D'.slot 0 = D.slot 0 ∧ D'.slot 1 = D.slot 1) (h6 : D'.fz = D.fz) : Ref w rb N D' lv av wv := by
  refine h.turn (h.cel.congr (fun j hj => ?_)) h1 h2 h3
  unfold rcell
  rw [h5.1, h5.2, h6]
  by_cases a : j < 8
  · rw [if_pos a, if_pos a]
  · rw [if_neg a, if_neg a]
    by_cases b : j < 16
    · rw [if_pos b, if_pos b, h4 (j - 8) (by omega)]
    · rw [if_neg b, if_neg b]
theorem sync1_any (z : Int) (w : World) : Calls Tryz.prog 109 #[.int .i64 z] w fun e w' => e = .returned (.int .i64 ((16 : Nat) : Int)) ∧ w' = w := by
  go_enter Tryz.func109, Tryz.ntmps109
  go_wp2_with fail
  go_ret
  exact ⟨rfl, rfl⟩
theorem sync2_any (z : Int) (w : World) : Calls Tryz.prog 110 #[.int .i64 z] w fun e w' => e = .returned (.bool true) ∧ w' = w := by
  go_enter Tryz.func110, Tryz.ntmps110
  go_wp2_with fail
  go_ret
  exact ⟨rfl, rfl⟩
theorem rsync_spent (D : Dv) (lv : Nat → Value) (av wv : Value) (rb N : Nat) (w : World) (hd : Ref w rb N D lv av wv) (hl : 0 ≤ D.left ∧ D.left ≤ 9223372036854775807) (hm : D.may = false) :
    Calls Tryz.prog 51 #[.pointer (some ⟨rb, 0, none⟩)] w fun e w' => e = .returned (.int .i64 14) ∧ w' = w := by
  go_enter Tryz.func51, Tryz.ntmps51
  go_wp2_with fail
  refine (spent_any D lv av wv rb N _ hd hl).mono ?_
  rintro e w1 ⟨rfl, h1, _⟩
  obtain rfl := h1 hm
  rw [hm]
  go_wp2_with fail
  go_ret
  exact ⟨rfl, rfl⟩
theorem burnt_ok (D : Dv) (h : D.ok) (hm : D.may = true) : D.burnt.ok := by
  unfold Dv.burnt
  by_cases hf : D.fused = true
  · rw [if_pos hf]
    have h0 : D.left ≠ 0 := by
      intro e
      unfold Dv.may at hm
      rw [hf, e] at hm
      exact absurd hm (by decide)
    exact ⟨h.cnt, h.sure, h.zero, by show 0 ≤ D.left - 1 ∧ D.left - 1 ≤ _; have := h.left; omega, h.ws, h.few⟩
  · rw [if_neg hf]; exact h
theorem rsync_any (D : Dv) (lv : Nat → Value) (av wv : Value) (rb N : Nat) (w : World) (hd : Ref w rb N D lv av wv) (hok : D.ok) (hm : D.may = true) :
    Calls Tryz.prog 51 #[.pointer (some ⟨rb, 0, none⟩)] w fun e w' => e = .returned (.int .i64 0) ∧ (∃ lv', Ref w' rb N D.burnt.synced lv' (.slice none 0 0) (.slice none 0 0)) ∧ Fr rb none w w' := by
  have HD : Hid (Ref w rb N D lv av wv) := hd
  clear hd
  go_enter Tryz.func51, Tryz.ntmps51
  go_wp2_with fail
  refine (spent_any D lv av wv rb N _ HD.out hok.left).mono ?_
  rintro e w1 ⟨rfl, _, h1⟩
  obtain ⟨hd1, hf1⟩ := h1 hm
  have hok1 := burnt_ok D hok hm
  rw [hm]
  have HD1 : Hid (Ref w1 rb N D.burnt lv av wv) := hd1
  have HF1 : Hid (Fr rb none w w1) := hf1
  clear h1 hd1 hf1
  go_wp2_with fail
  refine (lose_any D.burnt lv av wv rb N 109 110 #[] #[] (fun _ => 16) (fun _ => true) _ HD1.out hok1 (enters_of Tryz.func109 (by kernel_rfl) rfl) (enters_of Tryz.func110 (by kernel_rfl) rfl) (fun z W _ _ => sync1_any z W) (fun _ => Nat.le_refl _) (fun i W _ => sync2_any i W)).mono ?_
  rintro e w2 ⟨rfl, ⟨lv', hr2⟩, hf2⟩
  have HR2 : Hid (Ref w2 rb N D.burnt.synced lv' (.slice none 0 0) (.slice none 0 0)) := by
    refine hr2.same (fun z hz => ?_) (fun z j hz hj => rfl) rfl (fun z hz => ?_) ⟨rfl, rfl⟩ rfl
    · show D.burnt.cnt z = (if z < 8 then min (D.burnt.sure z + 16) (D.burnt.cnt z) else _)
      rw [if_pos hz]; have := hok1.cnt z hz; omega
    · show (if z < 8 then D.burnt.cnt z else _) = (if z < 8 then min (D.burnt.sure z + 16) (D.burnt.cnt z) else _)
      rw [if_pos hz, if_pos hz]; have := hok1.cnt z hz; omega
  clear hr2
  go_wp2_with fail
  go_ret
  exact ⟨rfl, ⟨lv', HR2.out⟩, HF1.out.trans' hf2⟩
def kpOf (nk : Nat) (ks : Nat → Int) (z : Nat) : Nat := (min (max (keepAt nk ks z) 0) 16).toNat
theorem kpOf_le (nk : Nat) (ks : Nat → Int) (z : Nat) : kpOf nk ks z ≤ 16 := by unfold kpOf; omega
theorem rcr1_any (b B nk z : Nat) (v : Value) (ks : Nat → Int) (w : World) (hB : w.cell? ⟨B, 0, none⟩ = some v) (hs : Sl w b v nk (fun j => .int .i64 (ks j))) (hz : z < 8) :
    Calls Tryz.prog 59 #[.int .i64 z, .pointer (some ⟨B, 0, none⟩)] w fun e w' => e = .returned (.int .i64 (kpOf nk ks z : Int)) ∧ w' = w := by
  obtain ⟨a, c, rfl, hs⟩ := hs
  by_cases h : z < nk
  · obtain ⟨k, o, rfl, _, hc⟩ := hs (by omega)
    have c1 := hc z h
    have h2 : ¬ (nk : Int) ≤ z := by omega
    have h2' : (z : Int) < nk := by omega
    have hkp : (kpOf nk ks z : Int) = min (max (ks z) 0) 16 := by unfold kpOf keepAt; rw [if_pos h]; omega
    have HKP : Hid ((kpOf nk ks z : Int) = min (max (ks z) 0) 16) := hkp
    clear hc hs hkp
    by_cases h0 : ks z < 0
    · go_enter Tryz.func59, Tryz.ntmps59
      go_wp2_with fail
      go_ret
      exact ⟨by rw [HKP.out, show min (max (ks z) 0) 16 = 0 by omega]; rfl, rfl⟩
    · by_cases h16 : 16 < ks z
      · go_enter Tryz.func59, Tryz.ntmps59
        go_wp2_with fail
        go_ret
        exact ⟨by rw [HKP.out, show min (max (ks z) 0) 16 = 16 by omega]; rfl, rfl⟩
      · go_enter Tryz.func59, Tryz.ntmps59
        go_wp2_with fail
        go_ret
        exact ⟨by rw [HKP.out, show min (max (ks z) 0) 16 = ks z by omega]; rfl, rfl⟩
  · have h2 : (nk : Int) ≤ z := by omega
    have hkp : kpOf nk ks z = 0 := by unfold kpOf keepAt; rw [if_neg h]; rfl
    rw [hkp]
    clear hs hkp
    go_enter Tryz.func59, Tryz.ntmps59
    go_wp2_with fail
    go_ret
    exact ⟨rfl, rfl⟩
theorem rcr2_any (b B n i : Nat) (v : Value) (sl : Nat → Bool) (w : World) (hB : w.cell? ⟨B, 0, none⟩ = some v) (hs : Sl w b v n (fun j => .bool (sl j))) :
    Calls Tryz.prog 60 #[.int .i64 i, .pointer (some ⟨B, 0, none⟩)] w fun e w' => e = .returned (.bool (keptBy n sl i)) ∧ w' = w := by
  obtain ⟨a, c, rfl, hs⟩ := hs
  unfold keptBy
  by_cases h : i < n
  · obtain ⟨k, o, rfl, _, hc⟩ := hs (by omega)
    have c1 := hc i h
    have h2 : (i : Int) < n := by omega
    rw [decide_eq_true h, Bool.true_and]
    clear hc hs
    go_enter Tryz.func60, Tryz.ntmps60
    go_wp2_with fail
    go_ret
    exact ⟨rfl, rfl⟩
  · have h2 : ¬ (i : Int) < n := by omega
    rw [decide_eq_false h, Bool.false_and]
    clear hs
    go_enter Tryz.func60, Tryz.ntmps60
    go_wp2_with fail
    go_ret
    exact ⟨rfl, rfl⟩
theorem rcrash_any (D : Dv) (lv : Nat → Value) (av wv : Value) (rb N nk ns : Nat) (kv sv : Value) (ks : Nat → Int) (sl : Nat → Bool) (w : World) (hd : Ref w rb N D lv av wv) (hok : D.ok)
    (hk : Sl w rb kv nk (fun j => .int .i64 (ks j))) (hs : Sl w rb sv ns (fun j => .bool (sl j))) :
    Calls Tryz.prog 19 #[.pointer (some ⟨rb, 0, none⟩), kv, sv] w fun e w' => e = .returned (.tuple #[]) ∧ (∃ lv', Ref w' rb N (D.crashed nk ks ns sl) lv' (.slice none 0 0) (.slice none 0 0)) ∧ Fr rb none w w' := by
  obtain ⟨a1, c1, rfl, hk1⟩ := hk
  obtain ⟨a2, c2, rfl, hs1⟩ := hs
  have HKS : Hid (Sl w rb (.slice a1 nk c1) nk (fun j => .int .i64 (ks j))) := ⟨a1, c1, rfl, hk1⟩
  have HSS : Hid (Sl w rb (.slice a2 ns c2) ns (fun j => .bool (sl j))) := ⟨a2, c2, rfl, hs1⟩
  have HD : Hid (Ref w rb N D lv av wv) := hd
  have HOK : Hid D.ok := hok
  have hrbl : rb < w.heap.size := hd.cel.lt (by omega)
  clear hd hk1 hs1 hok
  go_enter Tryz.func19, Tryz.ntmps19
  go_wp2_with fail
  have hS0 := ((Since.refl w).alloc (.cells #[.slice a1 nk c1] 49)).alloc (.cells #[.slice a2 ns c2] 50)
  have b1 : ((w.alloc (.cells #[.slice a1 nk c1] 49)).alloc (.cells #[.slice a2 ns c2] 50)).cell? ⟨w.heap.size, 0, none⟩ = some (.slice a1 nk c1) := by
    rw [World.cell?_alloc_lt _ _ ⟨w.heap.size, 0, none⟩ (by simp)]; simp
  have b2 : ((w.alloc (.cells #[.slice a1 nk c1] 49)).alloc (.cells #[.slice a2 ns c2] 50)).cell? ⟨w.heap.size + 1, 0, none⟩ = some (.slice a2 ns c2) := by
    rw [World.cell?_alloc_at _ _ _ _ (by simp)]; rfl
  generalize (w.alloc (.cells #[.slice a1 nk c1] 49)).alloc (.cells #[.slice a2 ns c2] 50) = w0 at *
  have HB1 : Hid (w0.cell? ⟨w.heap.size, 0, none⟩ = some (.slice a1 nk c1)) := b1
  have HB2 : Hid (w0.cell? ⟨w.heap.size + 1, 0, none⟩ = some (.slice a2 ns c2)) := b2
  have HS0 : Hid (Since w w0) := hS0
  clear b1 b2 hS0
  refine (lose_any D lv av wv rb N 59 60 #[.pointer (some ⟨w.heap.size, 0, none⟩)] #[.pointer (some ⟨w.heap.size + 1, 0, none⟩)] (kpOf nk ks) (keptBy ns sl) _ (HD.out.since HS0.out) HOK.out (enters_of Tryz.func59 (by kernel_rfl) rfl) (enters_of Tryz.func60 (by kernel_rfl) rfl)
    (fun z W hz hf => rcr1_any rb w.heap.size nk z _ ks W ((hf.cell (p := ⟨w.heap.size, 0, none⟩) (World.block_lt_of_cell? w0 _ HB1.out) (by show w.heap.size ≠ rb; omega) (by simp)).trans HB1.out) ((HKS.out.fr (Fr.of_since HS0.out)).fr hf) hz) (kpOf_le nk ks)
    (fun i W hf => rcr2_any rb (w.heap.size + 1) ns i _ sl W ((hf.cell (p := ⟨w.heap.size + 1, 0, none⟩) (World.block_lt_of_cell? w0 _ HB2.out) (by show w.heap.size + 1 ≠ rb; omega) (by simp)).trans HB2.out) ((HSS.out.fr (Fr.of_since HS0.out)).fr hf))).mono ?_
  rintro e w2 ⟨rfl, ⟨lv', hr2⟩, hf2⟩
  have k1 := hr2.cel.cell 20 (by omega)
  have l1 := hr2.cel.frozen 20 (by omega)
  have HR3 : Hid (Ref (w2.setCell ⟨rb, 20, none⟩ (.int .i64 (-1))) rb N (D.crashed nk ks ns sl) lv' (.slice none 0 0) (.slice none 0 0)) := by
    have h3 : Ref (w2.setCell ⟨rb, 20, none⟩ (.int .i64 (-1))) rb N (((((D.cutTo (kpOf nk ks) 8).slotTo 0 (D.slotBy 0 (keptBy ns sl))).slotTo 1 (D.slotBy 1 (keptBy ns sl))).none).fuse (-1)) lv' (.slice none 0 0) (.slice none 0 0) :=
      hr2.cells (Fr.setCell _ _ _ _ _) ((hr2.cel.set 20 (by omega) _).congr (fun j hj => rcell_fuse ((((D.cutTo (kpOf nk ks) 8).slotTo 0 (D.slotBy 0 (keptBy ns sl))).slotTo 1 (D.slotBy 1 (keptBy ns sl))).none) (((((D.cutTo (kpOf nk ks) 8).slotTo 0 (D.slotBy 0 (keptBy ns sl))).slotTo 1 (D.slotBy 1 (keptBy ns sl))).none).fuse (-1)) _ _ _ rfl rfl j hj)) (fun _ _ => rfl) (fun _ _ _ _ => rfl) rfl
    have hcut : ∀ z, z < 8 → kept1 (D.cnt z) (D.sure z) (keepAt nk ks z) = min (D.sure z + kpOf nk ks z) (D.cnt z) := fun z hz => by
      have h1 := HOK.out.cnt z hz
      have h2 := HOK.out.sure z hz
      unfold kept1 kpOf
      omega
    refine h3.same (fun z hz => ?_) (fun z j hz hj => ?_) rfl (fun z hz => ?_) ⟨rfl, rfl⟩ rfl
    · show (if z < 8 then kept1 (D.cnt z) (D.sure z) (keepAt nk ks z) else _) = (if z < 8 then min (D.sure z + kpOf nk ks z) (D.cnt z) else _)
      rw [if_pos hz, if_pos hz, hcut z hz]
    · have hj' : j < (if z < 8 then min (D.sure z + kpOf nk ks z) (D.cnt z) else D.cnt z) := hj
      rw [if_pos hz, ← hcut z hz] at hj'
      funext i
      show (if z < 8 ∧ kept1 (D.cnt z) (D.sure z) (keepAt nk ks z) ≤ j then 0 else D.blk z j i) = D.blk z j i
      rw [if_neg (by omega)]
    · show (if z < 8 then kept1 (D.cnt z) (D.sure z) (keepAt nk ks z) else _) = (if z < 8 then min (D.sure z + kpOf nk ks z) (D.cnt z) else _)
      rw [if_pos hz, if_pos hz, hcut z hz]
  have HF2 : Hid (Fr rb none w2 (w2.setCell ⟨rb, 20, none⟩ (.int .i64 (-1)))) := Fr.setCell _ _ _ _ _
  clear hr2
  go_wp2_with fail
  go_end0
  exact ⟨rfl, ⟨lv', HR3.out⟩, ((Fr.of_since HS0.out).trans' hf2).trans' HF2.out⟩
end Go.Proofs.YtbfjklpoheooaaaGreatDoor
end
section
namespace Go.Proofs.YtbfjklpoheooaaaGreatDoor
open Go.RowKit
set_option maxRecDepth 100000 in
set_option maxHeartbeats 4000000 in
theorem rimage_any (D : Dv) (lv : Nat → Value) (av wv : Value) (rb N : Nat) (w : World) (hd : Ref w rb N D lv av wv) (hok : D.ok) :
    Calls Tryz.prog 21 #[.pointer (some ⟨rb, 0, none⟩)] w fun e w' => ∃ iv, e = .returned (.agg (brow 10 (icell iv (txt 500 (D.slot 0)) (txt 500 (D.slot 1)))).toArray) ∧ (∀ z, z < 8 → w'.ownsRow w.heap.size 9 1 (iv z) (D.sure z) (blks (D.blk z) (D.sure z))) ∧ Since w w' := by
  have hS1 : Since w (w.alloc (.cells zImage 48)) := (Since.refl w).alloc _
  have c16 := (hd.since hS1).cel.cell 16 (by omega)
  have c17 := (hd.since hS1).cel.cell 17 (by omega)
  rw [show rcell D lv av wv 16 = .string (txt 500 (D.slot 0)) from rcell_slot D lv av wv 0 (by omega)] at c16
  rw [show rcell D lv av wv 17 = .string (txt 500 (D.slot 1)) from rcell_slot D lv av wv 1 (by omega)] at c17
  have HD : Hid (Ref w rb N D lv av wv) := hd
  have HOK : Hid D.ok := hok
  have hrbl : rb < w.heap.size := hd.cel.lt (by omega)
  generalize txt 500 (D.slot 0) = s0 at *
  generalize txt 500 (D.slot 1) = s1 at *
  clear hd hok hS1
  unfold zImage at *
  go_enter Tryz.func21, Tryz.ntmps21
  go_wp2_with fail
  have hY : ∀ j, j < 10 → (#[.slice none 0 0, .slice none 0 0, .slice none 0 0, .slice none 0 0, .slice none 0 0, .slice none 0 0, .slice none 0 0, .slice none 0 0, .string s0, .string s1] : Array Value)[j]? = some (icell (ivTo nilV 0) s0 s1 j) := by
    intro j hj
    match j, hj with
    | 0, _ => rfl
    | 1, _ => rfl
    | 2, _ => rfl
    | 3, _ => rfl
    | 4, _ => rfl
    | 5, _ => rfl
    | 6, _ => rfl
    | 7, _ => rfl
    | 8, _ => rfl
    | 9, _ => rfl
    | n + 10, h => exact absurd h (by omega)
  have hC2 : Cel ((w.alloc (.cells #[.slice none 0 0, .slice none 0 0, .slice none 0 0, .slice none 0 0, .slice none 0 0, .slice none 0 0, .slice none 0 0, .slice none 0 0, .string ⟨#[]⟩, .string ⟨#[]⟩] 48)).alloc (.cells #[.slice none 0 0, .slice none 0 0, .slice none 0 0, .slice none 0 0, .slice none 0 0, .slice none 0 0, .slice none 0 0, .slice none 0 0, .string s0, .string s1] 48)) (w.heap.size + 1) 10 (icell (ivTo nilV 0) s0 s1) := Cel.new _ 10 _ _ _ hY _ (by simp)
  have hR0 : Cel ((w.alloc (.cells #[.slice none 0 0, .slice none 0 0, .slice none 0 0, .slice none 0 0, .slice none 0 0, .slice none 0 0, .slice none 0 0, .slice none 0 0, .string ⟨#[]⟩, .string ⟨#[]⟩] 48)).alloc (.cells #[.slice none 0 0, .slice none 0 0, .slice none 0 0, .slice none 0 0, .slice none 0 0, .slice none 0 0, .slice none 0 0, .slice none 0 0, .string s0, .string s1] 48)) w.heap.size 10 (icell nilV ⟨#[]⟩ ⟨#[]⟩) := (Cel.new w 10 _ _ _ zImage_get _ rfl).since ((Since.refl _).alloc _)
  have hS2 : Since w ((w.alloc (.cells #[.slice none 0 0, .slice none 0 0, .slice none 0 0, .slice none 0 0, .slice none 0 0, .slice none 0 0, .slice none 0 0, .slice none 0 0, .string ⟨#[]⟩, .string ⟨#[]⟩] 48)).alloc (.cells #[.slice none 0 0, .slice none 0 0, .slice none 0 0, .slice none 0 0, .slice none 0 0, .slice none 0 0, .slice none 0 0, .slice none 0 0, .string s0, .string s1] 48)) := ((Since.refl w).alloc _).alloc _
  have hz2 : ((w.alloc (.cells #[.slice none 0 0, .slice none 0 0, .slice none 0 0, .slice none 0 0, .slice none 0 0, .slice none 0 0, .slice none 0 0, .slice none 0 0, .string ⟨#[]⟩, .string ⟨#[]⟩] 48)).alloc (.cells #[.slice none 0 0, .slice none 0 0, .slice none 0 0, .slice none 0 0, .slice none 0 0, .slice none 0 0, .slice none 0 0, .slice none 0 0, .string s0, .string s1] 48)).heap.size = w.heap.size + 2 := by simp
  generalize (w.alloc (.cells #[.slice none 0 0, .slice none 0 0, .slice none 0 0, .slice none 0 0, .slice none 0 0, .slice none 0 0, .slice none 0 0, .slice none 0 0, .string ⟨#[]⟩, .string ⟨#[]⟩] 48)).alloc (.cells #[.slice none 0 0, .slice none 0 0, .slice none 0 0, .slice none 0 0, .slice none 0 0, .slice none 0 0, .slice none 0 0, .slice none 0 0, .string s0, .string s1] 48) = w2 at *
  have HC2 : Hid (Cel w2 (w.heap.size + 1) 10 (icell (ivTo nilV 0) s0 s1)) := hC2
  have HR0 : Hid (Cel w2 w.heap.size 10 (icell nilV ⟨#[]⟩ ⟨#[]⟩)) := hR0
  have HS2 : Hid (Since w w2) := hS2
  have HZ2 : Hid (w2.heap.size = w.heap.size + 2) := hz2
  clear hY hC2 hR0 hS2 hz2 c16 c17
  go_loopw [10] (fun i wr => ∃ (k : Nat) (iv : Nat → Value), k ≤ 8 ∧ i = .int .i64 k ∧ Cel wr (w.heap.size + 1) 10 (icell (ivTo iv k) s0 s1) ∧ Cel wr w.heap.size 10 (icell nilV ⟨#[]⟩ ⟨#[]⟩) ∧ (∀ z, z < k → wr.ownsRow (w.heap.size + 2) 9 1 (iv z) (D.sure z) (blks (D.blk z) (D.sure z))) ∧ Since w wr ∧ w.heap.size + 2 ≤ wr.heap.size) (fun i _ => 8 - (intOf i).toNat)
  case atStart => exact ⟨0, nilV, by omega, rfl, HC2.out, HR0.out, fun z hz => by omega, HS2.out, by have := HZ2.out; omega⟩
  case round =>
    obtain ⟨k, iv, hk8, rfl, hm, hr, hrow, hS, hsz⟩ := hrel
    have HM : Hid (Cel wr (w.heap.size + 1) 10 (icell (ivTo iv k) s0 s1)) := hm
    have HR : Hid (Cel wr w.heap.size 10 (icell nilV ⟨#[]⟩ ⟨#[]⟩)) := hr
    have HW : Hid (∀ z, z < k → wr.ownsRow (w.heap.size + 2) 9 1 (iv z) (D.sure z) (blks (D.blk z) (D.sure z))) := hrow
    have HS : Hid (Since w wr) := hS
    have HSZ : Hid (w.heap.size + 2 ≤ wr.heap.size) := hsz
    clear hm hr hrow hS hsz
    by_cases hlt : k < 8
    · have hlt2 : (k : Int) < 8 := by omega
      have HD1 : Hid (Ref wr rb N D lv av wv) := HD.out.since HS.out
      obtain ⟨a, c, ea, hac, hTx⟩ := Tx.of_own (l := fun j => txt 128 (D.blk k j)) (HD1.out.row k hlt)
      have hsc : D.sure k ≤ D.cnt k := HOK.out.sure k hlt
      have hc16 : D.cnt k ≤ 16 := HOK.out.cnt k hlt
      have hscap : D.sure k ≤ c := by omega
      have HTM : Hid (Tx wr a (D.sure k) (fun j => txt 128 (D.blk k j))) := hTx.take hsc
      have d1 := HD1.out.cel.cell k (by omega)
      rw [rcell_l _ _ _ _ k hlt, ea] at d1
      have d2 := HD1.out.cel.cell (8 + k) (by omega)
      rw [rcell_sure _ _ _ _ k hlt] at d2
      have HS7 : Hid (Since wr (wr.drew.alloc (.cells #[] 9))) := (Since.refl wr).drew.alloc _
      have HLT : Hid ((wr.drew.alloc (.cells #[] 9)).ownsRow wr.heap.size 9 1 (.slice (some ⟨wr.heap.size, 0, none⟩) 0 0) 0 []) := World.ownsRow_lit (base := wr.heap.size) wr.drew #[] 0 (Nat.le_refl _) (by unfold maxLen; omega) rfl
      have d3 : (wr.alloc (.cells #[] 9)).cell? ⟨rb, k, none⟩ = some (.slice a (D.cnt k) c) := by
        have := (HD1.out.since HS7.out).cel.cell k (by omega)
        rw [rcell_l _ _ _ _ k hlt, ea] at this
        exact this
      have d4 : (wr.alloc (.cells #[] 9)).cell? ⟨rb, 8 + k, none⟩ = some (.int .i64 (D.sure k)) := by
        have := (HD1.out.since HS7.out).cel.cell (8 + k) (by omega)
        rw [rcell_sure _ _ _ _ k hlt] at this
        exact this
      clear ea hTx hac
      go_wp2_with fail
      go_region_law (first
        | (obtain ⟨g3, cap3, w5, hr, ho, hg, hgg⟩ := run_spread (wr.drew.alloc (.cells #[] 9)) 44 wr.heap.size wr.heap.size a (D.sure k) c _ HLT.out (HTM.out.since HS7.out) (by omega) HS7.out.size; refine step_run (by rfl) (.tmp 14) (.tmp 27) 44 _ _ _ (by rfl) (by rfl) (by rfl) hr ?_; have HO3 : Hid (w5.ownsRow wr.heap.size 9 1 (.slice (some ⟨g3, 0, none⟩) (D.sure k) cap3) (D.sure k) (blks (D.blk k) (D.sure k))) := ho; have HS5 : Hid (Since wr w5) := Below.grown HS7.out hg HS7.out.size (fun j hj => by cases hj; exact Nat.le_refl _); have hc5 := HM.out.since HS5.out; have k1 := hc5.cell k (by omega); have l1 := hc5.frozen k (by omega); clear hr ho hg hgg hc5))
      all_goals
        go_wp2_with fail
        go_roundw
        case rel =>
          refine ⟨k + 1, fun z => if z = k then .slice (some ⟨g3, 0, none⟩) (D.sure k) cap3 else iv z, by omega, by go_num, ((HM.out.since HS5.out).set k (by omega) _).congr (fun j hj => ?_), (HR.out.since HS5.out).other (by simp) _, fun z hz => ?_, (HS.out.trans HS5.out).setCell (by simp) _, by have h1 := HS5.out.size; have h2 := HSZ.out; simp [World.setCell]; omega⟩
          · unfold updv icell ivTo
            by_cases h1 : j = k
            · subst h1
              dsimp only
              rw [if_pos rfl, if_pos hlt, if_pos (by omega), if_pos rfl]
            · rw [if_neg h1]
              by_cases h2 : j < 8
              · rw [if_pos h2, if_pos h2]
                by_cases h3 : j < k
                · dsimp only
                  rw [if_pos h3, if_pos (by omega), if_neg h1]
                · rw [if_neg h3, if_neg (by omega)]
              · rw [if_neg h2, if_neg h2]
          · by_cases h1 : z = k
            · subst h1
              simp only [if_true]
              exact ownsRow_setCell_below (ownsRow_base HO3.out HSZ.out) (by simp) _
            · simp only [if_neg h1]
              exact ownsRow_setCell_below (ownsRow_since (HW.out z (by omega)) HS5.out) (by simp) _
        case measure => simp [intOf]; omega
    · have hke : 8 = k := by omega
      subst hke
      have hiv : ∀ j, j < 8 → ivTo iv 8 j = iv j := fun j hj => by unfold ivTo; rw [if_pos hj]
      have hm3 : Cel wr (w.heap.size + 1) 10 (icell iv s0 s1) := HM.out.congr (fun j hj => by
        unfold icell
        by_cases h : j < 8
        · rw [if_pos h, if_pos h, hiv j h]
        · rw [if_neg h, if_neg h])
      have hR := hm3.range 0 10 (by omega)
      simp only [Nat.zero_add] at hR
      have hst := HR.out.store Tryz.prog 0 10 (by omega) (icell iv s0 s1) (icell_one HW.out s0 s1)
      have hL : (brow 10 (icell iv s0 s1)).length = 10 := brow_length _ _
      have hr3 := (HR.out.setRow 0 10 (by omega) (icell iv s0 s1)).congr (g := icell iv s0 s1) (fun j hj => by unfold updl; rw [if_pos (by omega)]; rfl)
      have hR3 := hr3.range 0 10 (by omega)
      simp only [Nat.zero_add] at hR3
      have HR3 : Hid _ := hR3
      have HS3 : Hid (Since w _) := HS.out.setCells (b := w.heap.size) (Nat.le_refl _) (brow 10 (icell iv s0 s1)) 0
      have HW3 : Hid (∀ z, z < 8 → (wr.setCells w.heap.size 0 (brow 10 (icell iv s0 s1))).ownsRow w.heap.size 9 1 (iv z) (D.sure z) (blks (D.blk z) (D.sure z))) := fun z hz =>
        ownsRow_base (ownsRow_fr (HW.out z hz) (Fr.setCells w.heap.size none _ 0 wr) (fun e => by have := ((HW.out z hz).lt _ e).1; omega) (none_or _)) (by omega)
      clear hm3 hr3 hR3 hiv
      generalize hcs : brow 10 (icell iv s0 s1) = cs at *
      go_wp2_with (refine wpList_load_mid (by rfl) 48 _ (by rfl) (w.heap.size + 1) 0 (by rfl) _ _ hR Tryz.underlying48 (by rfl) (by rw [hL]; kernel_rfl) ?_)
      refine bodyPost_ret (results_row Tryz.results21 _ _ _ w.heap.size _ _ (by rfl) HR3.out Tryz.underlying48 (by rfl) (by rw [hL]; kernel_rfl)) rfl ⟨iv, by rw [hcs], HW3.out, HS3.out⟩
end Go.Proofs.YtbfjklpoheooaaaGreatDoor
end
section
namespace Go.Proofs.YtbfjklpoheooaaaGreatDoor
set_option maxRecDepth 100000
open Go.RowKit
theorem none_ref {w : World} {rb N : Nat} {D : Dv} {lv : Nat → Value} {av wv : Value} (h : Ref w rb N D lv av wv) :
    Ref ((w.setCell ⟨rb, 18, none⟩ (.slice none 0 0)).setCell ⟨rb, 19, none⟩ (.slice none 0 0)) rb N D.none lv (.slice none 0 0) (.slice none 0 0) where
  cel := by
    refine ((h.cel.set 18 (by omega) _).set 19 (by omega) _).congr (fun j hj => ?_)
    unfold updv
    by_cases e1 : j = 19
    · subst e1; rfl
    · rw [if_neg e1]
      by_cases e2 : j = 18
      · subst e2; rfl
      · rw [if_neg e2]
        unfold rcell
        by_cases h1 : j < 8
        · rw [if_pos h1, if_pos h1]
        · rw [if_neg h1, if_neg h1]
          by_cases h2 : j < 16
          · rw [if_pos h2, if_pos h2]; rfl
          · rw [if_neg h2, if_neg h2]
            by_cases e3 : j = 16
            · rw [if_pos e3, if_pos e3]; rfl
            · rw [if_neg e3, if_neg e3]
              by_cases e4 : j = 17
              · rw [if_pos e4, if_pos e4]; rfl
              · rw [if_neg e4, if_neg e4, if_neg e2, if_neg e2, if_neg e1, if_neg e1]; rfl
  row z hz := ownsRow_setCell_below (ownsRow_setCell_below (h.row z hz) h.lt _) h.lt _
  at_ := World.ownsRow_nil _ _ _ _
  what := World.ownsRow_nil _ _ _ _
  apart z hz := by
    cases hb : (lv z).ownBlock with
    | none => exact Or.inl rfl
    | some q => exact Or.inr (by simp [Value.ownBlock])
  lt := h.lt
  le := by have := h.le; simpa [World.setCell] using this
theorem zone_ref {w w5 : World} {rb N k m : Nat} {D D' : Dv} {lv : Nat → Value} {x : Value} (h : Ref w rb N D lv (.slice none 0 0) (.slice none 0 0)) (hF : Fr rb none w w5) (hc5 : Cel w5 rb 21 (updv (rcell D lv (.slice none 0 0) (.slice none 0 0)) k x)) (hk : k < 8) (hx : w5.ownsRow N 9 1 x m (blks (D'.blk k) m))
    (hm : D'.cnt k = m ∧ D'.sure k = m) (ho : ∀ z, z ≠ k → D'.cnt z = D.cnt z ∧ D'.blk z = D.blk z ∧ D'.sure z = D.sure z) (hs : D'.slot = D.slot) (hw : D'.ws = D.ws) (hz : D'.fz = D.fz) :
    Ref (w5.setCell ⟨rb, 8 + k, none⟩ (.int .i64 (m : Int))) rb N D' (updv lv k x) (.slice none 0 0) (.slice none 0 0) where
  cel := by
    refine (hc5.set (8 + k) (by omega) _).congr (fun j hj => ?_)
    unfold updv rcell
    rw [hs, hz]
    by_cases h1 : j = 8 + k
    · rw [if_pos h1, if_neg (by omega), if_pos (by omega), show j - 8 = k by omega, hm.2]
    · rw [if_neg h1]
      by_cases h2 : j = k
      · rw [if_pos h2, if_pos (by omega)]
        dsimp only
        rw [if_pos h2]
      · rw [if_neg h2]
        by_cases h3 : j < 8
        · rw [if_pos h3, if_pos h3]
          dsimp only
          rw [if_neg h2]
        · rw [if_neg h3, if_neg h3]
          by_cases h4 : j < 16
          · rw [if_pos h4, if_pos h4, (ho (j - 8) (by omega)).2.2]
          · rw [if_neg h4, if_neg h4]
  row y hy := by
    by_cases e : y = k
    · subst e
      rw [hm.1, show updv lv y x y = x by unfold updv; rw [if_pos rfl]]
      exact ownsRow_setCell_below hx h.lt _
    · rw [(ho y e).1, (ho y e).2.1, show updv lv k x y = lv y by unfold updv; rw [if_neg e]]
      exact ownsRow_setCell_below (ownsRow_fr (h.row y hy) hF (ne_of_base (h.row y hy) h.lt) (none_or _)) h.lt _
  at_ := by rw [hw]; exact ownsRow_setCell_below (ownsRow_fr h.at_ hF (ne_of_base h.at_ h.lt) (none_or _)) h.lt _
  what := by rw [hw]; exact ownsRow_setCell_below (ownsRow_fr h.what hF (ne_of_base h.what h.lt) (none_or _)) h.lt _
  apart y hy := by
    cases hb : (updv lv k x y).ownBlock with
    | none => exact Or.inl rfl
    | some q => exact Or.inr (by simp [Value.ownBlock])
  lt := h.lt
  le := by
    have h1 := h.le
    have h2 := hF.size
    have : (w5.setCell ⟨rb, 8 + k, none⟩ (.int .i64 (m : Int))).heap.size = w5.heap.size := by simp [World.setCell]
    omega
theorem blks_laid (l : Nat → ByteArray) (m : Nat) : blks (laidBlk l m) m = strL (fun j => txt 128 (sb (l j))) m := by
  unfold blks strL
  exact List.map_congr_left (fun j hj => by
    have : laidBlk l m j = sb (l j) := by funext i; unfold laidBlk; rw [if_pos (List.mem_range.1 hj)]
    rw [this])
theorem strL_succ (l : Nat → ByteArray) (n : Nat) : strL l (n + 1) = strL l n ++ [.string (l n)] := by
  unfold strL
  rw [List.range_succ, List.map_append]
  rfl
theorem slot_ref {w : World} {rb N k : Nat} {D : Dv} {lv : Nat → Value} {av wv : Value} {s : ByteArray} (h : Ref w rb N D lv av wv) (hk : k < 2) : Ref (w.setCell ⟨rb, 16 + k, none⟩ (.string (txt 500 (sb s)))) rb N (D.slotTo k (sb s)) lv av wv := by
  refine h.cells (Fr.setCell _ _ _ _ _) ((h.cel.set (16 + k) (by omega) _).congr (fun j hj => ?_)) (fun _ _ => rfl) (fun _ _ _ _ => rfl) rfl
  unfold updv
  match k, hk with
  | 0, _ =>
    by_cases e : j = 16
    · subst e; rfl
    · rw [if_neg e]
      unfold rcell
      by_cases h1 : j < 8
      · rw [if_pos h1, if_pos h1]
      · rw [if_neg h1, if_neg h1]
        by_cases h2 : j < 16
        · rw [if_pos h2, if_pos h2]; rfl
        · rw [if_neg h2, if_neg h2, if_neg e, if_neg e]; rfl
  | 1, _ =>
    by_cases e : j = 17
    · subst e; rfl
    · rw [if_neg (by omega)]
      unfold rcell
      by_cases h1 : j < 8
      · rw [if_pos h1, if_pos h1]
      · rw [if_neg h1, if_neg h1]
        by_cases h2 : j < 16
        · rw [if_pos h2, if_pos h2]; rfl
        · rw [if_neg h2, if_neg h2]
          by_cases h3 : j = 16
          · rw [if_pos h3, if_pos h3]; rfl
          · rw [if_neg h3, if_neg h3, if_neg e, if_neg e]; rfl
theorem Fr.grown {b : Nat} {a w w' : World} {g : Option Nat} (h : Fr b none a w) (hg : w.grownBy w' g) (hb : ∀ k, g = some k → a.heap.size ≤ k) : Fr b none a w' :=
  ⟨hg.os.trans h.os, hg.tape.trans h.tape, hg.output.trans h.output, Nat.le_trans h.size hg.size, fun k hk h1 h2 => (hg.block k (Nat.lt_of_lt_of_le hk h.size) (fun e => by have := hb k e.symm; omega)).trans (h.block k hk h1 h2)⟩
theorem updv_twice (f : Nat → Value) (k : Nat) (x y : Value) (j : Nat) : updv (updv f k x) k y j = updv f k y j := by
  unfold updv
  by_cases h : j = k
  · rw [if_pos h, if_pos h]
  · rw [if_neg h, if_neg h, if_neg h]
set_option maxHeartbeats 4000000 in
theorem rlay_any (D : Dv) (lv : Nat → Value) (av wv : Value) (rb N : Nat) (iv : Nat → Value) (s0 s1 : ByteArray) (n : Nat → Nat) (l : Nat → Nat → ByteArray) (w : World) (hd : Ref w rb N D lv av wv) (hi : Img w rb iv n l) (hn : ∀ z, z < 8 → n z ≤ 1000) :
    Calls Tryz.prog 23 #[.pointer (some ⟨rb, 0, none⟩), .agg (brow 10 (icell iv s0 s1)).toArray] w fun e w' => e = .returned (.tuple #[]) ∧ (∃ lv', Ref w' rb N (D.laidBy n l s0 s1) lv' (.slice none 0 0) (.slice none 0 0)) ∧ Fr rb none w w' := by
  have HD : Hid (Ref w rb N D lv av wv) := hd
  have HI : Hid (Img w rb iv n l) := hi
  have HN : Hid (∀ z, z < 8 → n z ≤ 1000) := hn
  have hrbl : rb < w.heap.size := hd.cel.lt (by omega)
  have k18 := hd.cel.cell 18 (by omega)
  have l18 := hd.cel.frozen 18 (by omega)
  have k19 := hd.cel.cell 19 (by omega)
  have l19 := hd.cel.frozen 19 (by omega)
  have hr1 := none_ref hd
  have hf1 : Fr rb none w ((w.setCell ⟨rb, 18, none⟩ (.slice none 0 0)).setCell ⟨rb, 19, none⟩ (.slice none 0 0)) := (Fr.setCell _ _ _ _ _).trans' (Fr.setCell _ _ _ _ _)
  have hz1 : ((w.setCell ⟨rb, 18, none⟩ (.slice none 0 0)).setCell ⟨rb, 19, none⟩ (.slice none 0 0)).heap.size = w.heap.size := by simp [World.setCell]
  have HR1 : Hid (Ref ((w.setCell ⟨rb, 18, none⟩ (.slice none 0 0)).setCell ⟨rb, 19, none⟩ (.slice none 0 0)) rb N D.none lv (.slice none 0 0) (.slice none 0 0)) := hr1
  have HF1 : Hid (Fr rb none w ((w.setCell ⟨rb, 18, none⟩ (.slice none 0 0)).setCell ⟨rb, 19, none⟩ (.slice none 0 0))) := hf1
  have HZ1 : Hid (((w.setCell ⟨rb, 18, none⟩ (.slice none 0 0)).setCell ⟨rb, 19, none⟩ (.slice none 0 0)).heap.size = w.heap.size) := hz1
  clear hd hi hn hr1 hf1 hz1
  go_enter Tryz.func23, Tryz.ntmps23
  go_wp2_with fail
  clear k18 l18 k19 l19
  generalize (w.setCell ⟨rb, 18, none⟩ (.slice none 0 0)).setCell ⟨rb, 19, none⟩ (.slice none 0 0) = w1 at *
  have HC : Hid (Cel (w1.alloc (.cells (brow 10 (icell iv s0 s1)).toArray 48)) w.heap.size 10 (icell iv s0 s1)) := Cel.new w1 _ _ _ _ (img_get iv s0 s1) _ HZ1.out.symm
  have HR2 : Hid (Ref (w1.alloc (.cells (brow 10 (icell iv s0 s1)).toArray 48)) rb N (D.none.layTo n l 0) lv (.slice none 0 0) (.slice none 0 0)) := HR1.out.since ((Since.refl _).alloc _)
  have HF2 : Hid (Fr rb none w (w1.alloc (.cells (brow 10 (icell iv s0 s1)).toArray 48))) := HF1.out.trans' (Fr.of_since ((Since.refl _).alloc _))
  generalize w1.alloc (.cells (brow 10 (icell iv s0 s1)).toArray 48) = w2 at *
  clear HR1 HF1 HZ1 HD
  have HI2 : Hid (Img w2 rb iv n l) := HI.out.fr HF2.out
  go_loopw [14] (fun i wr => ∃ (k : Nat) (lv' : Nat → Value), k ≤ 8 ∧ i = .int .i64 k ∧ Ref wr rb N (D.none.layTo n l k) lv' (.slice none 0 0) (.slice none 0 0) ∧ Fr rb none w2 wr) (fun i _ => 8 - (intOf i).toNat)
  case atStart => exact ⟨0, lv, by omega, rfl, HR2.out, Fr.refl _ _ _⟩
  case round =>
    obtain ⟨k, lv', hk8, rfl, hr, hf⟩ := hrel
    have HR : Hid (Ref wr rb N (D.none.layTo n l k) lv' (.slice none 0 0) (.slice none 0 0)) := hr
    have HF : Hid (Fr rb none w2 wr) := hf
    clear hr hf
    by_cases hlt : k < 8
    · have hlt2 : (k : Int) < 8 := by omega
      have k1 := HR.out.cel.cell k (by omega)
      have l1 := HR.out.cel.frozen k (by omega)
      obtain ⟨a, c, ea, hnc, htx⟩ := (HI2.out.fr HF.out).row k hlt
      have hC := HC.out.fr HF.out (by omega) (by simp)
      have q1 := hC.cell k (by omega)
      rw [show icell iv s0 s1 k = iv k by unfold icell; rw [if_pos hlt], ea] at q1
      have hn1 := HN.out k hlt
      have hnb : ¬ w.heap.size = rb := by omega
      have HTX : Hid (0 < n k → ∃ kb o, a = some ⟨kb, o, none⟩ ∧ kb ≠ rb ∧ ∀ j, j < n k → wr.cell? ⟨kb, o + j, none⟩ = some (.string (l k j))) := htx
      clear hC htx ea
      obtain ⟨wq, hwq⟩ : ∃ x, x = wr := ⟨wr, rfl⟩
      subst hwq
      have HC5 : Hid (Cel (wq.setCell ⟨rb, k, none⟩ (.slice none 0 0)) rb 21 (updv (rcell (D.none.layTo n l k) lv' (.slice none 0 0) (.slice none 0 0)) k (.slice none 0 0))) := HR.out.cel.set k (by omega) _
      obtain ⟨i1, hi, hz0, hz1, hz3⟩ := info_parts' infoS
      have HJ : Hid (Tryz.prog.info? 9 = some i1 ∧ i1.zero = some (.string ⟨#[]⟩) ∧ i1.size = 1 ∧ i1.bytes = 16) := ⟨hi, hz0, hz1, hz3⟩
      have HQL : Hid (rb < wq.heap.size) := HR.out.cel.lt (by omega)
      clear hi hz0 hz1 hz3
      go_wp2_with fail
      clear q1 k1 l1
      go_loopw [27] (fun i wr => ∃ (q : Nat) (x : Value), q ≤ n k ∧ i = .int .i64 q ∧ Cel wr rb 21 (updv (rcell (D.none.layTo n l k) lv' (.slice none 0 0) (.slice none 0 0)) k x) ∧ wr.ownsRow wq.heap.size 9 1 x (min q 16) (strL (fun j => txt 128 (sb (l k j))) (min q 16)) ∧ Fr rb none wq wr) (fun i _ => n k - (intOf i).toNat)
      case atStart => exact ⟨0, .slice none 0 0, by omega, rfl, HC5.out, World.ownsRow_nil _ _ _ _, Fr.setCell _ _ _ _ _⟩
      case round =>
        obtain ⟨q, x, hqn, rfl, hc, hx, hfq⟩ := hrel
        have HCQ : Hid (Cel wr rb 21 (updv (rcell (D.none.layTo n l k) lv' (.slice none 0 0) (.slice none 0 0)) k x)) := hc
        have HX : Hid (wr.ownsRow wq.heap.size 9 1 x (min q 16) (strL (fun j => txt 128 (sb (l k j))) (min q 16))) := hx
        have HFQ : Hid (Fr rb none wq wr) := hfq
        have HXB : Hid (some rb ≠ x.ownBlock) := fun e => by have h1 := (hx.lt rb e.symm).1; have h2 := HQL.out; omega
        clear hc hx hfq
        by_cases hql : q < n k
        · have hql2 : (q : Int) < n k := by omega
          obtain ⟨kb, o, rfl, hkb, htc⟩ := HTX.out (by omega)
          have d1 := (HFQ.out.cell (p := ⟨kb, o + q, none⟩) (World.block_lt_of_cell? wq _ (htc q hql)) (by exact hkb) (by simp)).trans (htc q hql)
          clear htc
          by_cases hq16 : q < 16
          · have hq162 : (q : Int) < 16 := by omega
            have e0 := HCQ.out.cell k (by omega)
            rw [show updv (rcell (D.none.layTo n l k) lv' (.slice none 0 0) (.slice none 0 0)) k x k = x by unfold updv; rw [if_pos rfl]] at e0
            have HMQ : Hid (min q 16 = q ∧ min (q + 1) 16 = q + 1) := ⟨by omega, by omega⟩
            go_wp2_with fail
            go_region_law (first
              | (refine step_append_lies _ (by rfl) (.tmp 41) (.tmp 44) 44 (by rfl) wq.heap.size 9 i1 _ 1 16 Tryz.underlying44 HJ.out.1 HJ.out.2.1 HJ.out.2.2.1 HJ.out.2.2.2 (by rfl) (by decide) x (min q 16) (strL (fun j => txt 128 (sb (l k j))) (min q 16)) (by rfl) (ownsRow_since HX.out HS28.out) ⟨w3.heap.size, 0, none⟩ 1 1 [.string (txt 128 (sb (l k q)))] (by rfl) (by rfl) (World.news_of_block (heap_alloc_new w3 _)) (by simp [Value.oneCell']) (by decide) (by unfold maxLen; omega) (by omega) (Nat.le_trans HFQ.out.size HS28.out.size) (w3.heap.size + 1) (by simp) ?_; intro g2 cap2 w4 hown2 hgrow2 hat2 hlt2; have HO2 : Hid (w4.ownsRow wq.heap.size 9 1 (.slice (some ⟨g2, 0, none⟩) (min q 16 + 1) cap2) (min q 16 + 1) (strL (fun j => txt 128 (sb (l k j))) (min q 16) ++ [.string (txt 128 (sb (l k q)))])) := hown2; have HF4 : Hid (Fr rb none wq w4) := (HFQ.out.trans' (Fr.of_since HS28.out)).grown hgrow2 (fun j hj => (HX.out.lt j hj).1); have HC4 : Hid (Cel w4 rb 21 (updv (rcell (D.none.layTo n l k) lv' (.slice none 0 0) (.slice none 0 0)) k x)) := (HCQ.out.since HS28.out).grown hgrow2 HXB.out; have m1 := HC4.out.cell k (by omega); have n1 := HC4.out.frozen k (by omega); clear hown2 hgrow2 hat2 hlt2)
              | (go_simp; go_at_call 64; refine (rlong_any (l k q) 128 _ (by omega)).mono ?_; rintro e w3 ⟨rfl, hS3⟩; have HS28 : Hid (Since wr (w3.alloc (.cells #[.string (txt 128 (sb (l k q)))] 9))) := ((Since.refl wr).drew.trans hS3).alloc _; have e1 := (HCQ.out.since ((Since.refl wr).drew.trans hS3)).cell k (by omega); have e2 := (HCQ.out.since HS28.out).cell k (by omega); rw [show updv (rcell (D.none.layTo n l k) lv' (.slice none 0 0) (.slice none 0 0)) k x k = x by unfold updv; rw [if_pos rfl]] at e1 e2; dsimp only))
            all_goals
              go_wp2_with fail
              go_roundw
              case rel =>
                have h5 := ownsRow_setCell_below (a := ⟨rb, k, none⟩) HO2.out HQL.out (.slice (some ⟨g2, 0, none⟩) (min q 16 + 1) cap2)
                have h6 : (w4.setCell ⟨rb, k, none⟩ (.slice (some ⟨g2, 0, none⟩) (min q 16 + 1) cap2)).ownsRow wq.heap.size 9 1 (.slice (some ⟨g2, 0, none⟩) (min q 16 + 1) cap2) (min (q + 1) 16) (strL (fun j => txt 128 (sb (l k j))) (min (q + 1) 16)) := by
                  rw [HMQ.out.2, strL_succ]
                  rw [HMQ.out.1] at h5 ⊢
                  exact h5
                first
                | exact ⟨q + 1, .slice (some ⟨g2, 0, none⟩) (min q 16 + 1) cap2, by omega, by go_num, (HC4.out.set k (by omega) _).congr (fun j _ => updv_twice _ k x _ j), h6, HF4.out.trans' (Fr.setCell _ _ _ _ _)⟩
                | exact ⟨_, _, ⟨q + 1, .slice (some ⟨g2, 0, none⟩) (min q 16 + 1) cap2, by omega, by go_num, (HC4.out.set k (by omega) _).congr (fun j _ => updv_twice _ k x _ j), h6, HF4.out.trans' (Fr.setCell _ _ _ _ _)⟩, rfl⟩
              case measure => simp [intOf]; omega
          · have hq162 : ¬ (q : Int) < 16 := by omega
            have HMQ : Hid (min q 16 = 16 ∧ min (q + 1) 16 = 16) := ⟨by omega, by omega⟩
            go_wp2_with fail
            go_roundw
            case rel =>
              have h6 : wr.ownsRow wq.heap.size 9 1 x (min (q + 1) 16) (strL (fun j => txt 128 (sb (l k j))) (min (q + 1) 16)) := by rw [HMQ.out.2, ← HMQ.out.1]; exact HX.out
              exact ⟨q + 1, x, by omega, by go_num, HCQ.out, h6, HFQ.out⟩
            case measure => simp [intOf]; omega
        · have hqe : n k = q := by omega
          subst hqe
          obtain ⟨xa, xc, hxe, _, _⟩ := own_cells HX.out
          have e0 := HCQ.out.cell k (by omega)
          rw [show updv (rcell (D.none.layTo n l k) lv' (.slice none 0 0) (.slice none 0 0)) k x k = x by unfold updv; rw [if_pos rfl], hxe] at e0
          have e8 := HCQ.out.cell (8 + k) (by omega)
          have f8 := HCQ.out.frozen (8 + k) (by omega)
          have hne1 : ¬ 8 + k = k := by omega
          have HRN : Hid (Ref (wr.setCell ⟨rb, 8 + k, none⟩ (.int .i64 ((min (n k) 16 : Nat) : Int))) rb N (D.none.layTo n l (k + 1)) (updv lv' k x) (.slice none 0 0) (.slice none 0 0)) := by
            have hne : ∀ {α : Type} (z' : Nat) (u v : α), z' ≠ k → (if z' < k + 1 then u else v) = if z' < k then u else v := fun z' u v h => by
              by_cases h1 : z' < k
              · rw [if_pos h1, if_pos (by omega)]
              · rw [if_neg h1, if_neg (by omega)]
            refine zone_ref (D' := D.none.layTo n l (k + 1)) HR.out HFQ.out HCQ.out hlt ?_ ⟨?_, ?_⟩ (fun z hz => ⟨hne z _ _ hz, hne z _ _ hz, hne z _ _ hz⟩) rfl rfl rfl
            · have e : (D.none.layTo n l (k + 1)).blk k = laidBlk (l k) (min (n k) 16) := by show (if k < k + 1 then _ else _) = _; rw [if_pos (by omega)]
              rw [e, blks_laid]
              exact ownsRow_base HX.out HR.out.le
            · show (if k < k + 1 then _ else _) = _; rw [if_pos (by omega)]
            · show (if k < k + 1 then _ else _) = _; rw [if_pos (by omega)]
          have HFN : Hid (Fr rb none w2 (wr.setCell ⟨rb, 8 + k, none⟩ (.int .i64 ((min (n k) 16 : Nat) : Int)))) := (HF.out.trans' HFQ.out).trans' (Fr.setCell _ _ _ _ _)
          clear hxe
          generalize min (n k) 16 = mm at *
          go_wp2_with fail
          go_region
          all_goals
            go_wp2_with fail
            first
            | exact ⟨⟨k + 1, updv lv' k x, by omega, by go_num, HRN.out.since (Since.refl _).drew, HFN.out.trans' (Fr.of_since (Since.refl _).drew)⟩, by simp [intOf]; omega⟩
            | exact ⟨⟨k + 1, updv lv' k x, by omega, by go_num, HRN.out, HFN.out⟩, by simp [intOf]; omega⟩
    · have hke : 8 = k := by omega
      subst hke
      have hC := HC.out.fr HF.out (by omega) (by simp)
      have q8 := hC.cell 8 (by omega)
      have q9 := hC.cell 9 (by omega)
      rw [show icell iv s0 s1 8 = .string s0 from rfl] at q8
      rw [show icell iv s0 s1 9 = .string s1 from rfl] at q9
      have hnb : ¬ w.heap.size = rb := by omega
      have hnb2 : ¬ rb = w.heap.size := by omega
      have HC9 : Hid (Cel wr w.heap.size 10 (icell iv s0 s1)) := hC
      clear hC
      go_wp2_with fail
      refine wp_loop_rounds 3 ?_
      rw [rounds_succ]
      go_wp2_with fail
      go_region_with (go_at_call 64; refine (rlong_any s0 500 _ (by omega)).mono ?_; rintro e w3 ⟨rfl, hS3⟩; have HS3 : Hid (Since wr w3) := (Since.refl wr).drew.trans hS3; have e1 := (HR.out.since HS3.out).cel.cell 16 (by omega); have f1 := (HR.out.since HS3.out).cel.frozen 16 (by omega); clear hS3)
      all_goals
        have HR4 : Hid (Ref (w3.setCell ⟨rb, 16, none⟩ (.string (txt 500 (sb s0)))) rb N ((D.none.layTo n l 8).slotTo 0 (sb s0)) lv' (.slice none 0 0) (.slice none 0 0)) := slot_ref (k := 0) (HR.out.since HS3.out) (by omega)
        have HF4 : Hid (Fr rb none w2 (w3.setCell ⟨rb, 16, none⟩ (.string (txt 500 (sb s0))))) := (HF.out.trans' (Fr.of_since HS3.out)).trans' (Fr.setCell _ _ _ _ _)
        have q9b := ((HC9.out.since HS3.out).other (a := ⟨rb, 16, none⟩) (by show rb ≠ w.heap.size; omega) (.string (txt 500 (sb s0)))).cell 9 (by omega)
        rw [show icell iv s0 s1 9 = .string s1 from rfl] at q9b
        generalize w3.setCell ⟨rb, 16, none⟩ (.string (txt 500 (sb s0))) = w4 at *
        clear q8 q9 e1 f1
        go_wp2_with fail
        rw [rounds_succ]
        go_wp2_with fail
        go_region_with (go_at_call 64; refine (rlong_any s1 500 _ (by omega)).mono ?_; rintro e w5 ⟨rfl, hS5⟩; have HS5 : Hid (Since w4 w5) := (Since.refl w4).drew.trans hS5; have e2 := (HR4.out.since HS5.out).cel.cell 17 (by omega); have f2 := (HR4.out.since HS5.out).cel.frozen 17 (by omega); clear hS5)
        all_goals
          have HR6 : Hid (Ref (w5.setCell ⟨rb, 17, none⟩ (.string (txt 500 (sb s1)))) rb N (((D.none.layTo n l 8).slotTo 0 (sb s0)).slotTo 1 (sb s1)) lv' (.slice none 0 0) (.slice none 0 0)) := slot_ref (k := 1) (HR4.out.since HS5.out) (by omega)
          have HF6 : Hid (Fr rb none w2 (w5.setCell ⟨rb, 17, none⟩ (.string (txt 500 (sb s1))))) := (HF4.out.trans' (Fr.of_since HS5.out)).trans' (Fr.setCell _ _ _ _ _)
          generalize w5.setCell ⟨rb, 17, none⟩ (.string (txt 500 (sb s1))) = w6 at *
          clear q9b e2 f2
          go_wp2_with fail
          rw [rounds_succ]
          go_wp2_with fail
          go_end0
          exact ⟨rfl, ⟨lv', HR6.out⟩, HF2.out.trans' HF6.out⟩
end Go.Proofs.YtbfjklpoheooaaaGreatDoor
end
section
namespace Go.Proofs.YtbfjklpoheooaaaGreatDoor
open Go.RowKit
set_option maxHeartbeats 1000000 in
theorem texts_quiet (b n : Nat) (v1 v2 : Value) (l1 l2 : Nat → ByteArray) (w : World) (h1 : Sl w b v1 n (fun j => .string (l1 j))) (h2 : Sl w b v2 n (fun j => .string (l2 j))) (he : ∀ j, j < n → l1 j = l2 j) (hn : n ≤ 1000) :
    Calls Tryz.prog 66 #[v1, v2] w fun e w' => e = .returned (.bool true) ∧ ∃ m, w' = w.drewN m := by
  obtain ⟨a1, c1, rfl, hs1⟩ := h1
  obtain ⟨a2, c2, rfl, hs2⟩ := h2
  have HS1 : Hid _ := hs1
  have HS2 : Hid _ := hs2
  have HE : Hid _ := he
  clear hs1 hs2 he
  go_enter Tryz.func66, Tryz.ntmps66
  go_wp2_with fail
  go_loopw [5] (fun i wr => ∃ k : Nat, k ≤ n ∧ i = .int .i64 k ∧ ∃ m, wr = w.drewN m) (fun i _ => n - (intOf i).toNat)
  case atStart => exact ⟨0, by omega, rfl, 0, rfl⟩
  case round =>
    obtain ⟨k, hk, rfl, mm, hmm⟩ := hrel
    have hS : Since w wr := by rw [hmm]; exact (Since.refl w).drewN mm
    have HMM : Hid (wr = w.drewN mm) := hmm
    clear hmm
    by_cases hlt : k < n
    · have hlt2 : (k : Int) < n := by omega
      obtain ⟨kb1, ko1, rfl, _, hc1⟩ := HS1.out (by omega)
      obtain ⟨kb2, ko2, rfl, _, hc2⟩ := HS2.out (by omega)
      have q1 : wr.cell? ⟨kb1, ko1 + k, none⟩ = some (.string (l1 k)) := (hS.cell (p := ⟨kb1, ko1 + k, none⟩) (World.block_lt_of_cell? w _ (hc1 k hlt))).trans (hc1 k hlt)
      have q2 : wr.cell? ⟨kb2, ko2 + k, none⟩ = some (.string (l2 k)) := (hS.cell (p := ⟨kb2, ko2 + k, none⟩) (World.block_lt_of_cell? w _ (hc2 k hlt))).trans (hc2 k hlt)
      rw [← HE.out k hlt] at q2
      clear hc1 hc2 hS
      go_wp2_with fail
      go_quiet (fail)
      go_wp2_with fail
      go_roundw
      case rel => exact ⟨k + 1, by omega, by go_num, _, by rw [HMM.out, World.drewN_drewN]⟩
      case measure => simp [intOf]; omega
    · have hke : k = n := by omega
      subst hke
      clear hS
      go_wp2_with fail
      go_ret
      exact ⟨rfl, mm, HMM.out⟩
theorem texts_any (b n : Nat) (v1 v2 : Value) (l1 l2 : Nat → ByteArray) (w : World) (h1 : Sl w b v1 n (fun j => .string (l1 j))) (h2 : Sl w b v2 n (fun j => .string (l2 j))) (he : ∀ j, j < n → l1 j = l2 j) (hn : n ≤ 1000) :
    Calls Tryz.prog 66 #[v1, v2] w fun e w' => e = .returned (.bool true) ∧ Since w w' := by
  refine (texts_quiet b n v1 v2 l1 l2 w h1 h2 he hn).mono ?_
  rintro e w' ⟨rfl, m, rfl⟩
  exact ⟨rfl, (Since.refl w).drewN m⟩
set_option maxRecDepth 100000 in
set_option maxHeartbeats 1000000 in
theorem sameImage_any (b : Nat) (iv1 iv2 : Nat → Value) (n : Nat → Nat) (l1 l2 : Nat → Nat → ByteArray) (s0 s1 : ByteArray) (w : World)
    (h1 : ∀ z, z < 8 → Sl w b (iv1 z) (n z) (fun j => .string (l1 z j))) (h2 : ∀ z, z < 8 → Sl w b (iv2 z) (n z) (fun j => .string (l2 z j))) (he : ∀ z j, z < 8 → j < n z → l1 z j = l2 z j) (hn : ∀ z, z < 8 → n z ≤ 1000) :
    Calls Tryz.prog 26 #[.agg (brow 10 (icell iv1 s0 s1)).toArray, .agg (brow 10 (icell iv2 s0 s1)).toArray] w fun e w' => e = .returned (.bool true) ∧ Since w w' := by
  have H1 : Hid (∀ z, z < 8 → Sl w b (iv1 z) (n z) (fun j => .string (l1 z j))) := h1
  have H2 : Hid (∀ z, z < 8 → Sl w b (iv2 z) (n z) (fun j => .string (l2 z j))) := h2
  have HE : Hid (∀ z j, z < 8 → j < n z → l1 z j = l2 z j) := he
  have HN : Hid (∀ z, z < 8 → n z ≤ 1000) := hn
  clear h1 h2 he hn
  have hL1 : (brow 10 (icell iv1 s0 s1)).length = 10 := brow_length _ _
  have hL2 : (brow 10 (icell iv2 s0 s1)).length = 10 := brow_length _ _
  go_enter Tryz.func26, Tryz.ntmps26
  go_wp2_with fail
  have b1 : Cel ((w.alloc (.cells (brow 10 (icell iv1 s0 s1)).toArray 48)).alloc (.cells (brow 10 (icell iv2 s0 s1)).toArray 48)) w.heap.size 10 (icell iv1 s0 s1) := (Cel.new w 10 _ _ _ (fun j hj => by rw [List.getElem?_toArray]; exact brow_get _ _ j hj) _ rfl).since ((Since.refl _).alloc _)
  have b2 : Cel ((w.alloc (.cells (brow 10 (icell iv1 s0 s1)).toArray 48)).alloc (.cells (brow 10 (icell iv2 s0 s1)).toArray 48)) (w.heap.size + 1) 10 (icell iv2 s0 s1) := Cel.new _ 10 _ _ _ (fun j hj => by rw [List.getElem?_toArray]; exact brow_get _ _ j hj) _ (by simp)
  have hS0 := ((Since.refl w).alloc (.cells (brow 10 (icell iv1 s0 s1)).toArray 48)).alloc (.cells (brow 10 (icell iv2 s0 s1)).toArray 48)
  generalize (w.alloc (.cells (brow 10 (icell iv1 s0 s1)).toArray 48)).alloc (.cells (brow 10 (icell iv2 s0 s1)).toArray 48) = w0 at *
  have B1 : Hid (Cel w0 w.heap.size 10 (icell iv1 s0 s1)) := b1
  have B2 : Hid (Cel w0 (w.heap.size + 1) 10 (icell iv2 s0 s1)) := b2
  have S0 : Hid (Since w w0) := hS0
  clear b1 b2 hS0 hL1 hL2
  go_loopw [5] (fun i wr => ∃ k : Nat, k ≤ 8 ∧ i = .int .i64 k ∧ Since w0 wr) (fun i _ => 8 - (intOf i).toNat)
  case atStart => exact ⟨0, by omega, rfl, Since.refl _⟩
  case round =>
    obtain ⟨k, hk, rfl, hS⟩ := hrel
    have HS : Hid (Since w0 wr) := hS
    clear hS
    by_cases hlt : k < 8
    · have hlt2 : (k : Int) < 8 := by omega
      have q1 := ((B1.out.since HS.out).since (Since.refl _).drew).cell k (by omega)
      have q2 := ((B2.out.since HS.out).since (Since.refl _).drew).cell k (by omega)
      rw [show icell iv1 s0 s1 k = iv1 k by unfold icell; rw [if_pos hlt]] at q1
      rw [show icell iv2 s0 s1 k = iv2 k by unfold icell; rw [if_pos hlt]] at q2
      go_wp2_with fail
      go_region_with (go_at_call 66; refine (texts_any b (n k) (iv1 k) (iv2 k) (l1 k) (l2 k) _ ((H1.out k hlt).fr (Fr.of_since ((S0.out.trans HS.out).trans (Since.refl _).drew))) ((H2.out k hlt).fr (Fr.of_since ((S0.out.trans HS.out).trans (Since.refl _).drew))) (fun j hj => HE.out k j hlt hj) (HN.out k hlt)).mono ?_; rintro e w2 ⟨rfl, hS2⟩)
      all_goals
        go_wp2_with fail
        go_roundw
        case rel => exact ⟨k + 1, by omega, by go_num, (HS.out.trans (Since.refl _).drew).trans hS2⟩
        case measure => simp [intOf]; omega
    · have hke : k = 8 := by omega
      subst hke
      have q1 := (B1.out.since HS.out).cell 8 (by omega)
      have q2 := (B1.out.since HS.out).cell 9 (by omega)
      have q3 := (B2.out.since HS.out).cell 8 (by omega)
      have q4 := (B2.out.since HS.out).cell 9 (by omega)
      rw [show icell iv1 s0 s1 8 = .string s0 from rfl] at q1
      rw [show icell iv1 s0 s1 9 = .string s1 from rfl] at q2
      rw [show icell iv2 s0 s1 8 = .string s0 from rfl] at q3
      rw [show icell iv2 s0 s1 9 = .string s1 from rfl] at q4
      have he2 := eq2 s0 s1 wr
      go_wp2_with fail
      go_ret
      exact ⟨rfl, S0.out.trans HS.out⟩
end Go.Proofs.YtbfjklpoheooaaaGreatDoor
end
