/- add, Append. -/
import Derived.Test.YtjfhggcjdckfgaaDoorZ2
namespace Go.Proofs.YtjfhggcjdckfgaaDoor
set_option linter.unusedSimpArgs false
set_option linter.unusedVariables false
open Go.RowKit

theorem first_bytes (s : ByteArray) (n : Nat) (hn : n ≤ s.size) : (s.data.toList.map fun b => Value.int .u8 (b.toNat : Int)).take n = brow n (fun i => bv (sb s i)) := by
  have hsz : s.data.size = s.size := rfl
  apply brow_of
  · simp; omega
  · intro j hj
    rw [List.getElem?_take_of_lt hj, List.getElem?_map, Array.getElem?_toList, Array.getElem?_eq_getElem (by omega)]
    unfold bv sb
    rw [Array.getElem?_eq_getElem (by omega)]
    rfl
theorem copy_str (w : World) (ty b o m cap n : Nat) (f : Nat → Value) (s : ByteArray) (hc : Cel w b n f) (hm : o + m ≤ n) :
    (Builtin.copy_ #[120, 9] ty #[.slice (some ⟨b, o, none⟩) m cap, .string s]).run Tryd.prog w = .ok (.int .i64 ((min s.size m : Nat) : Int)) (w.setCells b o (brow (min s.size m) (fun i => bv (sb s i)))) := by
  have hst := hc.store Tryd.prog o (min s.size m) (by omega) (fun i => bv (sb s i)) (fun _ _ => rfl)
  have hfb := first_bytes s (min s.size m) (Nat.min_le_left _ _)
  have hz : (Go.sizeOf 5).run Tryd.prog w = .ok 1 w := Tryd.sizeOf5 w
  have hmin : s.size.min m = min s.size m := rfl
  simp [Builtin.copy_, run_underlying Tryd.underlying120, Builtin.lenOf, Builtin.firstCells, hz]
  rw [hmin, hfb, hst]
  rfl

set_option maxRecDepth 100000 in
theorem add_any (b o c n : Nat) (f : Nat → Value) (s : ByteArray) (w : World) (hc : Cel w b n f) (hn : o + 2050 ≤ n) (hcnt : f (o + 2048) = .int .i64 c) (hc16 : c < 16) :
    Calls Tryd.prog 101 #[.pointer (some ⟨b, o, none⟩), .string s] w fun e w' => e = .returned (.tuple #[]) ∧ w' = (w.drew.setCells b (o + c * 128) (brow (min s.size 128) (fun i => bv (sb s i)))).setCell ⟨b, o + 2048, none⟩ (.int .i64 (c + 1)) := by
  have c1 := hc.cell (o + 2048) (by omega)
  rw [hcnt] at c1
  have hc2 : (c : Int) < 16 := by omega
  have hcd : Cel w.drew b n f := hc.since (Since.refl w).drew
  have hcp := copy_str w.drew 3 b (o + c * 128) 128 128 n f s hcd (by omega)
  have c2 : (w.drew.setCells b (o + c * 128) (brow (min s.size 128) (fun i => bv (sb s i)))).cell? ⟨b, o + 2048, none⟩ = some (.int .i64 c) := by
    rw [World.cell?_setCells_out b _ _ _ _ (fun _ _ => by rw [brow_length]; show o + 2048 < _ ∨ _ ≤ o + 2048; omega)]
    rw [hcd.cell _ (by omega), hcnt]
  have f2 : (w.drew.setCells b (o + c * 128) (brow (min s.size 128) (fun i => bv (sb s i)))).frozen? ⟨b, o + 2048, none⟩ = false := by
    rw [World.frozen?_setCells]; exact hcd.frozen _ (by omega)
  go_enter Tryd.func101, Tryd.ntmps101
  go_wp2_with fail
  go_region
  generalize hw2 : w.drew.setCells b (o + c * 128) (brow (min s.size 128) (fun i => bv (sb s i))) = w2 at *
  go_wp2_with fail
  go_end0
  exact ⟨rfl, by rw [hw2]⟩

/-- s is zone z's next block -/
def Dv.app (D : Dv) (z : Nat) (s : ByteArray) : Dv :=
  { D with blk := fun z' k i => if z' = z ∧ k = D.cnt z then sb s i else D.blk z' k i, cnt := fun z' => if z' = z then D.cnt z + 1 else D.cnt z' }
theorem sb_zero (s : ByteArray) (i : Nat) (h : s.size ≤ i) : sb s i = 0 := by
  have hsz : s.data.size = s.size := rfl
  unfold sb
  rw [Array.getElem?_eq_none (by omega)]
  rfl
/-- a zone to which a block is added -/
theorem scell_add (blk : Nat → Nat → UInt8) (c sr : Nat) (s : ByteArray) (hc : c < 16) (hz : ∀ i, i < 128 → blk c i = 0) (j : Nat) (hj : j < 2050) :
    updv (updl (scell blk c sr) (c * 128) (min s.size 128) (fun i => bv (sb s i))) 2048 (.int .i64 (c + 1)) j = scell (fun k i => if k = c then sb s i else blk k i) (c + 1) sr j := by
  unfold updv updl
  by_cases h0 : j = 2048
  · subst h0
    rw [if_pos rfl]
    unfold scell
    rw [if_neg (by omega), if_pos rfl]
    rfl
  · rw [if_neg h0]
    by_cases h1 : c * 128 ≤ j ∧ j < c * 128 + min s.size 128
    · rw [if_pos h1]
      unfold scell
      dsimp only
      rw [if_pos (by omega), if_pos (by omega), show j % 128 = j - c * 128 by omega]
    · rw [if_neg h1]
      unfold scell
      by_cases h2 : j < 2048
      · rw [if_pos h2, if_pos h2]
        dsimp only
        by_cases h3 : j / 128 = c
        · rw [if_pos h3, h3, hz _ (by omega), sb_zero s _ (by omega)]
        · rw [if_neg h3]
      · rw [if_neg h2, if_neg h2, if_neg h0, if_neg h0]
theorem app_ok (D : Dv) (z : Nat) (s : ByteArray) (h : D.ok) (hz : z < 8) (hc : D.cnt z < 16) : (D.app z s).ok where
  cnt z' hz' := by
            show (if z' = z then _ else _) ≤ 16
            split
            · omega
            · exact h.cnt z' hz'
  sure z' hz' := by
    show D.sure z' ≤ (if z' = z then _ else _)
    have := h.sure z' hz'
    split
    · rename_i e; subst e; omega
    · exact this
  zero z' k i hz' hk hk2 hi := by
    show (if z' = z ∧ k = D.cnt z then _ else _) = _
    have hk' : (if z' = z then D.cnt z + 1 else D.cnt z') ≤ k := hk
    rw [if_neg]
    · refine h.zero z' k i hz' ?_ hk2 hi
      by_cases e : z' = z
      · rw [if_pos e] at hk'; subst e; omega
      · rw [if_neg e] at hk'; exact hk'
    · rintro ⟨e1, e2⟩
      rw [if_pos e1] at hk'
      omega
  left := h.left
  ws := h.ws
  few := h.few
theorem dcell_zone (D : Dv) (v : Value) (z j : Nat) (hz : z < 8) (hj : j < 2050) : dcell D v (z * 2050 + j) = scell (D.blk z) (D.cnt z) (D.sure z) j := by
  unfold dcell
  rw [if_pos (by omega), show (z * 2050 + j) / 2050 = z by omega, show (z * 2050 + j) % 2050 = j by omega]
/-- zone z alone has turned -/
theorem dcell_turn (D D' : Dv) (v : Value) (z : Nat) (hz : z < 8) (f : Nat → Value) (hin : ∀ j, j < 2050 → f (z * 2050 + j) = scell (D'.blk z) (D'.cnt z) (D'.sure z) j)
    (hout : ∀ j, ¬ (z * 2050 ≤ j ∧ j < z * 2050 + 2050) → f j = dcell D v j) (hb : ∀ z', z' ≠ z → D'.blk z' = D.blk z') (hc : ∀ z', z' ≠ z → D'.cnt z' = D.cnt z') (hs : ∀ z', z' ≠ z → D'.sure z' = D.sure z')
    (hl : D'.slot = D.slot) (hf : D'.fused = D.fused) (hle : D'.left = D.left) (j : Nat) : f j = dcell D' v j := by
  by_cases h : z * 2050 ≤ j ∧ j < z * 2050 + 2050
  · have h1 := hin (j - z * 2050) (by omega)
    rw [show z * 2050 + (j - z * 2050) = j by omega] at h1
    rw [h1]
    have h2 := dcell_zone D' v z (j - z * 2050) hz (by omega)
    rw [show z * 2050 + (j - z * 2050) = j by omega] at h2
    rw [h2]
  · rw [hout j h]
    unfold dcell
    by_cases h2 : j < 16400
    · have hne : j / 2050 ≠ z := by omega
      rw [if_pos h2, if_pos h2, hb _ hne, hc _ hne, hs _ hne]
    · rw [if_neg h2, if_neg h2, hl, hf, hle]
set_option maxRecDepth 100000 in
theorem app_dev (D : Dv) (v : Value) (b z : Nat) (s : ByteArray) (w : World) (hd : Dev w b D v) (hz : z < 8) (hc : D.cnt z < 16) :
    Dev ((w.drew.setCells b (z * 2050 + D.cnt z * 128) (brow (min s.size 128) (fun i => bv (sb s i)))).setCell ⟨b, z * 2050 + 2048, none⟩ (.int .i64 (D.cnt z + 1))) b (D.app z s) v := by
  have hcd : Cel w.drew b 17403 (dcell D v) := hd.cel.since (Since.refl w).drew
  refine hd.turn (((hcd.setRow (z * 2050 + D.cnt z * 128) (min s.size 128) (by omega) _).set (z * 2050 + 2048) (by omega) _).congr (fun j hj => ?_)) ?_ rfl (app_ok D z s hd.ok hz hc)
  · refine dcell_turn D (D.app z s) v z hz _ (fun j hj => ?_) (fun j hj => ?_) (fun z' h => ?_) (fun z' h => ?_) (fun z' h => rfl) rfl rfl rfl j
    · have e := scell_add (D.blk z) (D.cnt z) (D.sure z) s hc (fun i hi => hd.ok.zero z _ i hz (Nat.le_refl _) hc hi) j hj
      have e2 : (D.app z s).blk z = fun k i => if k = D.cnt z then sb s i else D.blk z k i := by funext k i; simp [Dv.app]
      have e3 : (D.app z s).cnt z = D.cnt z + 1 := by simp [Dv.app]
      rw [e2, e3, show (D.app z s).sure z = D.sure z from rfl, ← e]
      unfold updv updl
      by_cases h0 : j = 2048
      · rw [if_pos (by omega), if_pos h0]
      · rw [if_neg (by omega), if_neg h0]
        by_cases h1 : D.cnt z * 128 ≤ j ∧ j < D.cnt z * 128 + min s.size 128
        · rw [if_pos (by omega), if_pos h1, show z * 2050 + j - (z * 2050 + D.cnt z * 128) = j - D.cnt z * 128 by omega]
        · rw [if_neg (by omega), if_neg h1, dcell_zone D v z j hz hj]
    · unfold updv updl
      rw [if_neg (by omega), if_neg (by omega)]
    · funext k i; simp [Dv.app, h]
    · simp [Dv.app, h]
  · exact ((Fr.of_since (Since.refl w).drew).trans' (Fr.setCells _ _ _ _ _)).trans' (Fr.setCell _ _ _ _ _)
theorem app_fr (b : Nat) (g : Option Nat) (o o' : Nat) (vs : List Value) (x : Value) (w : World) : Fr b g w ((w.drew.setCells b o vs).setCell ⟨b, o', none⟩ x) :=
  ((Fr.of_since (Since.refl w).drew).trans' (Fr.setCells _ _ _ _ _)).trans' (Fr.setCell _ _ _ _ _)
end Go.Proofs.YtjfhggcjdckfgaaDoor
