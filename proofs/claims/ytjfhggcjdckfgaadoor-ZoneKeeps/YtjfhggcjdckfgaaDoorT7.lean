/- The reference's device: lose. -/
import Derived.Test.YtjfhggcjdckfgaaDoorT6
import Derived.Deep.QuietTactic
import Derived.BigQuiet
namespace Go.Proofs.YtjfhggcjdckfgaaDoor
set_option linter.unusedSimpArgs false
set_option linter.unusedVariables false
open Go.RowKit

/-- the first k zones are cut, and sure -/
def Dv.cutTo (D : Dv) (kp : Nat → Nat) (k : Nat) : Dv := { D with cnt := fun z => if z < k then min (D.sure z + kp z) (D.cnt z) else D.cnt z, sure := fun z => if z < k then min (D.sure z + kp z) (D.cnt z) else D.sure z }
/-- slots once the first n writes have been gone through -/
def Dv.slotsTo (D : Dv) (kept : Nat → Bool) (n : Nat) (k : Nat) : ByteArray := D.getTo k kept n
/-- zone k is cut: its list is another, and it is sure -/
theorem cut_ref {w w5 : World} {rb N k : Nat} {kp : Nat → Nat} {D : Dv} {lv : Nat → Value} {av wv x : Value} (h : Ref w rb N (D.cutTo kp k) lv av wv) (hF : Fr rb none w w5) (hc5 : Cel w5 rb 21 (updv (rcell (D.cutTo kp k) lv av wv) k x)) (hk : k < 8) (hx : w5.ownsRow N 9 1 x (min (D.sure k + kp k) (D.cnt k)) (blks (D.blk k) (min (D.sure k + kp k) (D.cnt k)))) (hnew : x = lv k ∨ ∀ j, x.ownBlock = some j → w.heap.size ≤ j) :
    Ref (w5.setCell ⟨rb, 8 + k, none⟩ (.int .i64 ((min (D.sure k + kp k) (D.cnt k) : Nat) : Int))) rb N (D.cutTo kp (k + 1)) (updv lv k x) av wv where
  cel := by
    refine (hc5.set (8 + k) (by omega) _).congr (fun j hj => ?_)
    unfold updv rcell
    by_cases h1 : j = 8 + k
    · rw [if_pos h1, if_neg (by omega), if_pos (by omega)]
      have e : (D.cutTo kp (k + 1)).sure (j - 8) = min (D.sure k + kp k) (D.cnt k) := by
        rw [show j - 8 = k by omega]
        show (if k < k + 1 then _ else _) = _
        rw [if_pos (by omega)]
      rw [e]
    · rw [if_neg h1]
      by_cases h2 : j = k
      · rw [if_pos h2, if_pos (by omega)]
        dsimp only
        rw [if_pos h2]
      · rw [if_neg h2]
        by_cases h3 : j < 8
        · rw [if_pos h3, if_pos h3]
          dsimp only
          rw [if_neg h2]
        · rw [if_neg h3, if_neg h3]
          by_cases h4 : j < 16
          · rw [if_pos h4, if_pos h4]
            have e : (D.cutTo kp (k + 1)).sure (j - 8) = (D.cutTo kp k).sure (j - 8) := by
              show (if j - 8 < k + 1 then _ else _) = (if j - 8 < k then _ else _)
              by_cases h5 : j - 8 < k
              · rw [if_pos h5, if_pos (by omega)]
              · rw [if_neg h5, if_neg (by omega)]
            rw [e]
          · rw [if_neg h4, if_neg h4]
            rfl
  row y hy := by
    by_cases e : y = k
    · subst e
      have e1 : (D.cutTo kp (y + 1)).cnt y = min (D.sure y + kp y) (D.cnt y) := by show (if y < y + 1 then _ else _) = _; rw [if_pos (by omega)]
      rw [e1, show updv lv y x y = x by unfold updv; rw [if_pos rfl]]
      exact ownsRow_setCell_below hx h.lt _
    · have e1 : (D.cutTo kp (k + 1)).cnt y = (D.cutTo kp k).cnt y := by
        show (if y < k + 1 then _ else _) = (if y < k then _ else _)
        by_cases h5 : y < k
        · rw [if_pos h5, if_pos (by omega)]
        · rw [if_neg h5, if_neg (by omega)]
      rw [e1, show updv lv k x y = lv y by unfold updv; rw [if_neg e]]
      exact ownsRow_setCell_below (ownsRow_fr (h.row y hy) hF (ne_of_base (h.row y hy) h.lt) (none_or _)) h.lt _
  at_ := ownsRow_setCell_below (ownsRow_fr h.at_ hF (ne_of_base h.at_ h.lt) (none_or _)) h.lt _
  what := ownsRow_setCell_below (ownsRow_fr h.what hF (ne_of_base h.what h.lt) (none_or _)) h.lt _
  apart y hy := by
    by_cases e : y = k
    · subst e
      rw [show updv lv y x y = x by unfold updv; rw [if_pos rfl]]
      rcases hnew with hnew | hnew
      · rw [hnew]; exact h.apart y hy
      · cases hb : x.ownBlock with
        | none => exact Or.inl rfl
        | some q =>
          right
          intro e2
          have h1 := hnew q hb
          have h2 := (h.what.lt q e2.symm).2
          omega
    · rw [show updv lv k x y = lv y by unfold updv; rw [if_neg e]]
      exact h.apart y hy
  lt := h.lt
  le := by
    have h1 := h.le
    have h2 := hF.size
    have : (w5.setCell ⟨rb, 8 + k, none⟩ (.int .i64 ((min (D.sure k + kp k) (D.cnt k) : Nat) : Int))).heap.size = w5.heap.size := by simp [World.setCell]
    omega
theorem updv_self (f : Nat → Value) (k : Nat) (j : Nat) : f j = updv f k (f k) j := by
  unfold updv
  by_cases h : j = k
  · rw [if_pos h, h]
  · rw [if_neg h]
set_option maxRecDepth 100000
/-- slots once the first n writes have been gone through -/
def Dv.sTo (D : Dv) (kept : Nat → Bool) (n : Nat) : Dv := { D with slot := fun k => sb (D.getTo k kept n) }
theorem getTo_txt (D : Dv) (k : Nat) (kept : Nat → Bool) : ∀ n, txt 500 (sb (D.getTo k kept n)) = D.getTo k kept n
  | 0 => txt_congr (fun i hi => sb_txt 500 _ i hi)
  | n + 1 => by
    unfold Dv.getTo
    split
    · exact txt_congr (fun i hi => sb_txt 500 _ i hi)
    · exact getTo_txt D k kept n
theorem rcell_sTo (D : Dv) (kept : Nat → Bool) (n : Nat) (lv : Nat → Value) (av wv : Value) (j : Nat) : rcell (D.sTo kept n) lv av wv j = if j = 16 then .string (D.getTo 0 kept n) else if j = 17 then .string (D.getTo 1 kept n) else rcell D lv av wv j := by
  unfold rcell
  by_cases h1 : j < 8
  · rw [if_pos h1, if_pos h1, if_neg (by omega), if_neg (by omega)]
  · rw [if_neg h1, if_neg h1]
    by_cases h2 : j < 16
    · rw [if_pos h2, if_pos h2, if_neg (by omega), if_neg (by omega)]; rfl
    · rw [if_neg h2, if_neg h2]
      by_cases h3 : j = 16
      · rw [if_pos h3, if_pos h3, ← getTo_txt D 0 kept n]; rfl
      · rw [if_neg h3, if_neg h3, if_neg h3]
        by_cases h4 : j = 17
        · rw [if_pos h4, if_pos h4, ← getTo_txt D 1 kept n]; rfl
        · rw [if_neg h4, if_neg h4, if_neg h4]; rfl
theorem sTo_zero (D : Dv) (kept : Nat → Bool) (lv : Nat → Value) (av wv : Value) (j : Nat) : rcell D lv av wv j = rcell (D.sTo kept 0) lv av wv j := by
  rw [rcell_sTo]
  by_cases h : j = 16
  · rw [if_pos h, h]; rfl
  · rw [if_neg h]
    by_cases h2 : j = 17
    · rw [if_pos h2, h2]; rfl
    · rw [if_neg h2]
theorem sTo_skip (D : Dv) (kept : Nat → Bool) (n : Nat) (lv : Nat → Value) (av wv : Value) (hk : kept n = false) (j : Nat) : rcell (D.sTo kept n) lv av wv j = rcell (D.sTo kept (n + 1)) lv av wv j := by
  have e : ∀ k, D.getTo k kept (n + 1) = D.getTo k kept n := fun k => by rw [Dv.getTo, if_neg (fun h => by rw [hk] at h; exact absurd h.2 (by decide))]
  rw [rcell_sTo, rcell_sTo, e, e]
theorem sTo_set (D : Dv) (kept : Nat → Bool) (n q : Nat) (lv : Nat → Value) (av wv : Value) (hk : kept n = true) (hq : (D.ws.getD n (0, ⟨#[]⟩)).1 = q) (hq2 : q < 2) (j : Nat) : updv (rcell (D.sTo kept n) lv av wv) (16 + q) (.string (txt 500 (sb (D.ws.getD n (0, ⟨#[]⟩)).2))) j = rcell (D.sTo kept (n + 1)) lv av wv j := by
  have e1 : D.getTo q kept (n + 1) = txt 500 (sb (D.ws.getD n (0, ⟨#[]⟩)).2) := by rw [Dv.getTo, if_pos ⟨hq, hk⟩]
  have e2 : ∀ k, k ≠ q → D.getTo k kept (n + 1) = D.getTo k kept n := fun k h => by rw [Dv.getTo, if_neg (fun h2 => h (by rw [← h2.1, hq]))]
  rw [rcell_sTo]
  unfold updv
  rw [rcell_sTo]
  match q, hq2 with
  | 0, _ =>
    rw [e1, e2 1 (by decide)]
    by_cases h : j = 16
    · rw [if_pos h, if_pos h]
    · rw [if_neg h, if_neg h, if_neg h]
  | 1, _ =>
    rw [e1, e2 0 (by decide)]
    by_cases h : j = 16
    · rw [if_neg (by omega), if_pos h, if_pos h]
    · rw [if_neg h, if_neg h]
      by_cases h2 : j = 17
      · rw [if_pos (by omega), if_pos h2]
      · rw [if_neg (by omega)]
        simp only [if_neg h2]
/-- the end: writes are forgotten -/
theorem lose_end {w : World} {rb N : Nat} {D E : Dv} {kept : Nat → Bool} {lv : Nat → Value} {av wv : Value} (h : Ref w rb N (E.sTo kept E.ws.length) lv av wv) (he : E.slotBy 0 kept = D.slotBy 0 kept ∧ E.slotBy 1 kept = D.slotBy 1 kept) :
    Ref ((w.setCell ⟨rb, 18, none⟩ (.slice none 0 0)).setCell ⟨rb, 19, none⟩ (.slice none 0 0)) rb N (((E.slotTo 0 (D.slotBy 0 kept)).slotTo 1 (D.slotBy 1 kept)).none) lv (.slice none 0 0) (.slice none 0 0) where
  cel := by
    refine ((h.cel.set 18 (by omega) _).set 19 (by omega) _).congr (fun j hj => ?_)
    unfold updv
    by_cases e1 : j = 19
    · subst e1; rfl
    · rw [if_neg e1]
      by_cases e2 : j = 18
      · subst e2; rfl
      · rw [if_neg e2, rcell_sTo, getTo_slot, getTo_slot, he.1, he.2]
        by_cases e3 : j = 16
        · subst e3; rfl
        · rw [if_neg e3]
          by_cases e4 : j = 17
          · subst e4; rfl
          · rw [if_neg e4]
            unfold rcell
            by_cases h1 : j < 8
            · rw [if_pos h1, if_pos h1]
            · rw [if_neg h1, if_neg h1]
              by_cases h2 : j < 16
              · rw [if_pos h2, if_pos h2]; rfl
              · rw [if_neg h2, if_neg h2, if_neg e3, if_neg e3, if_neg e4, if_neg e4, if_neg e2, if_neg e2, if_neg e1, if_neg e1]; rfl
  row z hz := ownsRow_setCell_below (ownsRow_setCell_below (h.row z hz) h.lt _) h.lt _
  at_ := World.ownsRow_nil _ _ _ _
  what := World.ownsRow_nil _ _ _ _
  apart z hz := by
    cases hb : (lv z).ownBlock with
    | none => exact Or.inl rfl
    | some q => exact Or.inr (by simp [Value.ownBlock])
  lt := h.lt
  le := by have := h.le; simpa [World.setCell] using this
set_option maxRecDepth 100000 in
set_option maxHeartbeats 4000000 in
theorem lose_any (D : Dv) (lv : Nat → Value) (av wv : Value) (rb N fk fs : Nat) (ck cs : Array Value) (kp : Nat → Nat) (kept : Nat → Bool) (w : World) (hd : Ref w rb N D lv av wv) (hok : D.ok)
    (hek : ∀ args w, (callFunc fk args).run Tryd.prog w = .ok (.enter fk args) w) (hes : ∀ args w, (callFunc fs args).run Tryd.prog w = .ok (.enter fs args) w)
    (hk : ∀ (z : Nat) (W : World), z < 8 → Fr rb none w W → Calls Tryd.prog fk (#[.int .i64 z] ++ ck) W fun e W' => e = .returned (.int .i64 (kp z : Int)) ∧ W' = W) (hk16 : ∀ z, kp z ≤ 16)
    (hs : ∀ (i : Nat) (W : World), Fr rb none w W → Calls Tryd.prog fs (#[.int .i64 i] ++ cs) W fun e W' => e = .returned (.bool (kept i)) ∧ W' = W) :
    Calls Tryd.prog 106 #[.pointer (some ⟨rb, 0, none⟩), .func (.func fk) #[] ck, .func (.func fs) #[] cs] w fun e w' => e = .returned (.tuple #[]) ∧ (∃ lv', Ref w' rb N ((((D.cutTo kp 8).slotTo 0 (D.slotBy 0 kept)).slotTo 1 (D.slotBy 1 kept)).none) lv' (.slice none 0 0) (.slice none 0 0)) ∧ Fr rb none w w' := by
  have HD : Hid (Ref w rb N D lv av wv) := hd
  have HK : Hid (∀ (z : Nat) (W : World), z < 8 → Fr rb none w W → Calls Tryd.prog fk (#[.int .i64 z] ++ ck) W fun e W' => e = .returned (.int .i64 (kp z : Int)) ∧ W' = W) := hk
  have HS : Hid (∀ (i : Nat) (W : World), Fr rb none w W → Calls Tryd.prog fs (#[.int .i64 i] ++ cs) W fun e W' => e = .returned (.bool (kept i)) ∧ W' = W) := hs
  have HOK : Hid (D.ok) := hok
  have HK16 : Hid (∀ z, kp z ≤ 16) := hk16
  clear hd hk hs hok hk16
  go_enter Tryd.func106, Tryd.ntmps106
  go_wp2_with fail
  go_loopw [10] (fun i wr => ∃ (k : Nat) (lv' : Nat → Value), k ≤ 8 ∧ i = .int .i64 k ∧ Ref wr rb N (D.cutTo kp k) lv' av wv ∧ Fr rb none w wr) (fun i _ => 8 - (intOf i).toNat)
  case atStart => exact ⟨0, lv, by omega, rfl, HD.out, Fr.refl _ _ _⟩
  case round =>
    obtain ⟨k, lv', hk8, rfl, hr, hf⟩ := hrel
    have HR : Hid (Ref wr rb N (D.cutTo kp k) lv' av wv) := hr
    have HF : Hid (Fr rb none w wr) := hf
    clear hr hf
    by_cases hlt : k < 8
    · have hlt2 : (k : Int) < 8 := by omega
      have c1 := HR.out.cel.cell (8 + k) (by omega)
      have e1 : (D.cutTo kp k).sure k = D.sure k := by show (if k < k then _ else _) = _; rw [if_neg (by omega)]
      rw [rcell_sure _ _ _ _ k hlt, e1] at c1
      go_wp2_with fail
      go_region_with (refine (HK.out k _ hlt (HF.out.trans' (Fr.of_since (Since.refl _).drew))).mono ?_; rintro e W' ⟨rfl, hW⟩; subst hW)
      all_goals
        have hkk := HK16.out k
        have hs16 : D.sure k ≤ 16 := Nat.le_trans (HOK.out.sure k hlt) (HOK.out.cnt k hlt)
        have hc16 := HOK.out.cnt k hlt
        have ec : (D.cutTo kp k).cnt k = D.cnt k := by show (if k < k then _ else _) = _; rw [if_neg (by omega)]
        have hrow := HR.out.row k hlt
        rw [ec] at hrow
        obtain ⟨a, c, ea, hac, hTx⟩ := Tx.of_own (l := fun j => txt 128 (D.blk k j)) hrow
        have d1 := HR.out.cel.cell k (by omega)
        have g1 := HR.out.cel.frozen k (by omega)
        have g2 := HR.out.cel.frozen (8 + k) (by omega)
        rw [rcell_l _ _ _ _ k hlt, ea] at d1
        have HEA : Hid (lv' k = .slice a (D.cnt k) c) := ea
        have HTX : Hid (Tx wr a (D.cnt k) (fun j => txt 128 (D.blk k j))) := hTx
        have HROW : Hid (wr.ownsRow N 9 1 (lv' k) (D.cnt k) (blks (D.blk k) (D.cnt k))) := hrow
        clear e1 ec ea hTx hrow
        by_cases hcut : D.sure k + kp k < D.cnt k
        · have hcut2 : (D.sure k : Int) + (kp k : Int) < D.cnt k := by omega
          have ht : ((D.sure k : Int) + (kp k : Int)).toNat = D.sure k + kp k := by omega
          have hcap : D.sure k + kp k ≤ c := by omega
          obtain ⟨m, hm⟩ : ∃ m : Nat, m = D.sure k + kp k := ⟨_, rfl⟩
          have hm2 : (D.sure k : Int) + (kp k : Int) = (m : Int) := by omega
          obtain ⟨g, o, rfl, hTc⟩ := HTX.out (by omega)
          have HM : Hid (min (D.sure k + kp k) (D.cnt k) = m ∧ m ≤ 16 ∧ m < D.cnt k) := ⟨by omega, by omega, by omega⟩
          have HTM : Hid (Tx wr (some ⟨g, o, none⟩) m (fun j => txt 128 (D.blk k j))) := fun _ => ⟨g, o, rfl, fun j hj => hTc j (by omega)⟩
          have hmc : m ≤ c := by omega
          have HM2 : Hid ((D.sure k : Int) + (kp k : Int) = (m : Int)) := hm2
          clear hTc ht hcap hm hm2
          go_wp2_with fail
          rw [HM2.out]
          clear hcut2 hcut
          have HS7 : Hid (Since wr (wr.drew.drew.alloc (.cells #[] 9))) := ((Since.refl wr).drew.drew).alloc _
          have HLT : Hid ((wr.drew.drew.alloc (.cells #[] 9)).ownsRow wr.heap.size 9 1 (.slice (some ⟨wr.heap.size, 0, none⟩) 0 0) 0 []) := World.ownsRow_lit (base := wr.heap.size) wr.drew.drew #[] 0 (Nat.le_refl _) (by unfold maxLen; omega) rfl
          have d2 : (wr.alloc (.cells #[] 9)).cell? ⟨rb, k, none⟩ = some (.slice (some ⟨g, o, none⟩) (D.cnt k) c) := by
            have := (HR.out.since HS7.out).cel.cell k (by omega)
            rw [rcell_l _ _ _ _ k hlt, HEA.out] at this
            exact this
          have hne1 : ¬ 8 + k = k := by omega
          have hne2 : ¬ k = 8 + k := by omega
          go_region_law (first
            | (obtain ⟨g3, cap3, w5, hr, ho, hg, hgg⟩ := run_spread (wr.drew.drew.alloc (.cells #[] 9)) 22 wr.heap.size wr.heap.size (some ⟨g, o, none⟩) m c _ HLT.out (HTM.out.since HS7.out) (by have := HM.out; omega) HS7.out.size; refine step_run (by rfl) (.tmp 34) (.tmp 42) 22 _ _ _ (by rfl) (by rfl) (by rfl) hr ?_; have HO3 : Hid (w5.ownsRow wr.heap.size 9 1 (.slice (some ⟨g3, 0, none⟩) m cap3) m (blks (D.blk k) m)) := ho; have HS2 : Hid (Since wr w5) := Below.grown HS7.out hg HS7.out.size (fun j hj => by cases hj; exact Nat.le_refl _); have hc5 := (HR.out.since HS2.out).cel; have k1 := hc5.cell k (by omega); have l1 := hc5.frozen k (by omega); have k2 := hc5.cell (8 + k) (by omega); have l2 := hc5.frozen (8 + k) (by omega); clear hr ho hg hgg hc5))
          all_goals
            go_wp2_with fail
            go_region
            all_goals
              go_wp2_with fail
              go_roundw
              case rel =>
                refine ⟨k + 1, updv lv' k (.slice (some ⟨g3, 0, none⟩) m cap3), by omega, by go_num, ?_, ?_⟩
                · have hh := cut_ref (x := .slice (some ⟨g3, 0, none⟩) m cap3) HR.out ((Fr.of_since HS2.out).trans' (Fr.setCell rb none k w5 _)) ((HR.out.since HS2.out).cel.set k (by omega) _) hlt (by rw [HM.out.1]; exact ownsRow_setCell_below (ownsRow_base HO3.out HR.out.le) HR.out.lt _) (Or.inr (fun j hj => (HO3.out.lt j hj).1))
                  rw [HM.out.1] at hh
                  first | exact hh | exact hh.since (Since.refl _).drew | exact (hh.since (Since.refl _).drew).since (Since.refl _).drew
                · have hh := ((HF.out.trans' (Fr.of_since HS2.out)).trans' (Fr.setCell rb none k w5 (.slice (some ⟨g3, 0, none⟩) m cap3))).trans' (Fr.setCell rb none (8 + k) _ (.int .i64 ((m : Nat) : Int)))
                  first | exact hh | exact hh.trans' (Fr.of_since (Since.refl _).drew) | exact (hh.trans' (Fr.of_since (Since.refl _).drew)).trans' (Fr.of_since (Since.refl _).drew)
              case measure => simp [intOf]; omega
        · have hcut2 : ¬ (D.sure k : Int) + (kp k : Int) < D.cnt k := by omega
          have hmin : min (D.sure k + kp k) (D.cnt k) = D.cnt k := by omega
          have HMIN : Hid (min (D.sure k + kp k) (D.cnt k) = D.cnt k) := hmin
          clear hmin
          go_wp2_with fail
          go_region
          all_goals
            go_wp2_with fail
            go_roundw
            case rel =>
              refine ⟨k + 1, updv lv' k (lv' k), by omega, by go_num, ?_, ?_⟩
              · have hh := cut_ref HR.out (Fr.refl _ _ _) (HR.out.cel.congr (fun j _ => by rw [← rcell_l (D.cutTo kp k) lv' av wv k hlt]; exact updv_self _ k j)) hlt (by rw [HMIN.out]; exact HROW.out) (Or.inl rfl)
                rw [HMIN.out] at hh
                first | exact hh | exact hh.since (Since.refl _).drew | exact (hh.since (Since.refl _).drew).since (Since.refl _).drew
              · have hh := HF.out.trans' (Fr.setCell rb none (8 + k) wr (.int .i64 ((D.cnt k : Nat) : Int)))
                first | exact hh | exact hh.trans' (Fr.of_since (Since.refl _).drew) | exact (hh.trans' (Fr.of_since (Since.refl _).drew)).trans' (Fr.of_since (Since.refl _).drew)
            case measure => simp [intOf]; omega
    · have hke : 8 = k := by omega
      subst hke
      obtain ⟨aa, ac, ea, _, ha⟩ := own_cells HR.out.at_
      obtain ⟨wa, wc, ew, _, hw⟩ := own_cells HR.out.what
      subst ea
      subst ew
      have HA : Hid (0 < (D.cutTo kp 8).ws.length → ∃ g, aa = some ⟨g, 0, none⟩ ∧ N ≤ g ∧ ∀ j x, j < (D.cutTo kp 8).ws.length → (atL (D.cutTo kp 8).ws)[j]? = some x → wr.cell? ⟨g, j, none⟩ = some x) := ha
      have HW : Hid (0 < (D.cutTo kp 8).ws.length → ∃ g, wa = some ⟨g, 0, none⟩ ∧ N ≤ g ∧ ∀ j x, j < (D.cutTo kp 8).ws.length → (whatL (D.cutTo kp 8).ws)[j]? = some x → wr.cell? ⟨g, j, none⟩ = some x) := hw
      have HWS : Hid (∀ p ∈ (D.cutTo kp 8).ws, p.1 < 2 ∧ p.2.size ≤ 500) := HOK.out.ws
      have HFW : Hid ((D.cutTo kp 8).ws.length ≤ 1000) := HOK.out.few
      have HSB : Hid ((D.cutTo kp 8).slotBy 0 kept = D.slotBy 0 kept ∧ (D.cutTo kp 8).slotBy 1 kept = D.slotBy 1 kept) := ⟨rfl, rfl⟩
      have c18 := HR.out.cel.cell 18 (by omega)
      rw [rcell_at] at c18
      have HR0 : Hid (Ref wr rb N ((D.cutTo kp 8).sTo kept 0) lv' (.slice aa (D.cutTo kp 8).ws.length ac) (.slice wa (D.cutTo kp 8).ws.length wc)) := HR.out.cells (Fr.refl _ _ _) (HR.out.cel.congr (fun j _ => sTo_zero _ kept _ _ _ j)) (fun _ _ => rfl) (fun _ _ _ _ => rfl) rfl
      generalize hCE : D.cutTo kp 8 = E at *
      have HCE : Hid (D.cutTo kp 8 = E) := hCE
      clear hCE
      clear ha hw HR HD HK hek
      go_wp2_with fail
      clear c18
      obtain ⟨wq, hwq⟩ : ∃ x, x = wr := ⟨wr, rfl⟩
      subst hwq
      go_loopw [65] (fun i wr => ∃ n : Nat, n ≤ E.ws.length ∧ i = .int .i64 n ∧ Ref wr rb N (E.sTo kept n) lv' (.slice aa E.ws.length ac) (.slice wa E.ws.length wc) ∧ Fr rb none wq wr) (fun i _ => E.ws.length - (intOf i).toNat)
      case atStart => exact ⟨0, by omega, rfl, HR0.out, Fr.refl _ _ _⟩
      case round =>
        obtain ⟨n, hnl, rfl, hr, hf⟩ := hrel
        have HR : Hid (Ref wr rb N (E.sTo kept n) lv' (.slice aa E.ws.length ac) (.slice wa E.ws.length wc)) := hr
        have HF2 : Hid (Fr rb none wq wr) := hf
        clear hr hf
        by_cases hlt : n < E.ws.length
        · have hlt2 : (n : Int) < E.ws.length := by omega
          obtain ⟨ga, rfl, hga, ha⟩ := HA.out (by omega)
          obtain ⟨gw, rfl, hgw, hw⟩ := HW.out (by omega)
          have hrbN := HR.out.lt
          have hfw := HFW.out
          have q1 := ha n _ hlt (atL_get _ n hlt)
          have q2 := hw n _ hlt (whatL_get _ n hlt)
          replace q1 := (HF2.out.cell (p := ⟨ga, n, none⟩) (World.block_lt_of_cell? wq _ q1) (by show ga ≠ rb; omega) (by simp)).trans q1
          replace q2 := (HF2.out.cell (p := ⟨gw, n, none⟩) (World.block_lt_of_cell? wq _ q2) (by show gw ≠ rb; omega) (by simp)).trans q2
          have hq2 := (HWS.out (E.ws.getD n (0, ⟨#[]⟩)) (by rw [List.getD_eq_getElem?_getD, List.getElem?_eq_getElem hlt]; exact List.getElem_mem hlt)).1
          obtain ⟨q, hq⟩ : ∃ q, (E.ws.getD n (0, ⟨#[]⟩)).1 = q := ⟨_, rfl⟩
          rw [hq] at q1 hq2
          have HQ : Hid ((E.ws.getD n (0, ⟨#[]⟩)).1 = q) := hq
          have hq3 : (q : Int) < 2 := by omega
          clear ha hw hq hga hgw
          go_wp2_with fail
          refine (HS.out n _ (HF.out.trans' HF2.out)).mono ?_
          rintro e W' ⟨rfl, hW⟩
          subst hW
          cases hkn : kept n with
          | false =>
            go_wp2_with fail
            go_roundw
            case rel => (repeat apply Exists.intro); exact ⟨⟨n + 1, by omega, by go_num, HR.out.cells (Fr.refl _ _ _) (HR.out.cel.congr (fun j _ => sTo_skip E kept n _ _ _ hkn j)) (fun _ _ => rfl) (fun _ _ _ _ => rfl) rfl, HF2.out⟩, rfl⟩
            case measure => simp [intOf]; omega
          | true =>
            have c19 := HR.out.cel.cell 19 (by omega)
            rw [rcell_what] at c19
            have c16 := HR.out.cel.cell (16 + q) (by omega)
            have f16 := HR.out.cel.frozen (16 + q) (by omega)
            have HRN : Hid (Ref _ rb N (E.sTo kept (n + 1)) lv' (.slice (some ⟨ga, 0, none⟩) E.ws.length ac) (.slice (some ⟨gw, 0, none⟩) E.ws.length wc)) := HR.out.cells (Fr.setCell rb none (16 + q) W' (.string (txt 500 (sb (E.ws.getD n (0, ⟨#[]⟩)).2)))) ((HR.out.cel.set (16 + q) (by omega) _).congr (fun j _ => sTo_set E kept n q _ _ _ hkn HQ.out hq2 j)) (fun _ _ => rfl) (fun _ _ _ _ => rfl) rfl
            have HFN : Hid (Fr rb none wq (W'.setCell ⟨rb, 16 + q, none⟩ (.string (txt 500 (sb (E.ws.getD n (0, ⟨#[]⟩)).2))))) := HF2.out.trans' (Fr.setCell _ _ _ _ _)
            generalize (E.ws.getD n (0, ⟨#[]⟩)).2 = tx at *
            go_wp2_with fail
            go_region
            all_goals
              go_wp2_with fail
              go_roundw
              case rel =>
                (repeat apply Exists.intro)
                refine ⟨⟨n + 1, by omega, by go_num, ?_, ?_⟩, rfl⟩
                · first | exact HRN.out | exact HRN.out.since (Since.refl _).drew
                · first | exact HFN.out | exact HFN.out.trans' (Fr.of_since (Since.refl _).drew)
              case measure => simp [intOf]; omega
        · have hne : n = E.ws.length := by omega
          subst hne
          have k18 := HR.out.cel.cell 18 (by omega)
          have l18 := HR.out.cel.frozen 18 (by omega)
          have k19 := HR.out.cel.cell 19 (by omega)
          have l19 := HR.out.cel.frozen 19 (by omega)
          go_wp2_with fail
          go_end0
          rw [HCE.out]
          exact ⟨rfl, ⟨lv', lose_end HR.out HSB.out⟩, ((HF.out.trans' HF2.out).trans' (Fr.setCell _ _ _ _ _)).trans' (Fr.setCell _ _ _ _ _)⟩
end Go.Proofs.YtjfhggcjdckfgaaDoor
