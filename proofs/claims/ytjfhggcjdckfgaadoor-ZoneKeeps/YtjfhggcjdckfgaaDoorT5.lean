/- The reference's device: Append that is done. -/
import Derived.Test.YtjfhggcjdckfgaaDoorT4
namespace Go.Proofs.YtjfhggcjdckfgaaDoor
set_option linter.unusedSimpArgs false
set_option linter.unusedVariables false
open Go.RowKit

set_option maxRecDepth 100000 in
set_option maxHeartbeats 4000000 in
theorem rappend_any (D : Dv) (lv : Nat → Value) (av wv : Value) (rb N z : Nat) (s : ByteArray) (w : World) (hd : Ref w rb N D lv av wv) (hl : 0 ≤ D.left ∧ D.left ≤ 9223372036854775807) (hz : z < 8) (hs : s.size ≤ 128) (hc : D.cnt z < 16) (hm : D.may = true) :
    Calls Tryd.prog 29 #[.pointer (some ⟨rb, 0, none⟩), .int .i64 z, .string s] w fun e w' => e = .returned (.tuple #[.int .i64 (D.cnt z), .int .i64 0]) ∧ (∃ lv', Ref w' rb N (D.burnt.app z s) lv' av wv) ∧ Fr rb none w w' := by
  have hh := iz_true hz
  have hz2 : (z : Int) < 8 := by omega
  have hs2 : ¬ (128 : Int) < s.size := by omega
  have c1 := hd.cel.cell z (by omega)
  rw [rcell_l _ _ _ _ z hz] at c1
  obtain ⟨a, c, ea, _, _⟩ := Tx.of_own (hd.row z hz)
  rw [ea] at c1
  have HD : Hid (Ref w rb N D lv av wv) := hd
  have hc2 : ¬ (16 : Int) ≤ D.cnt z := by omega
  clear hd ea
  go_enter Tryd.func29, Tryd.ntmps29
  go_wp2_with fail
  refine (in_any _ _ _ _).mono ?_
  rintro e w' ⟨rfl, rfl⟩
  rw [hh]
  go_wp2_with fail
  refine (spent_any D lv av wv rb N _ HD.out hl).mono ?_
  rintro e w1 ⟨rfl, _, h1⟩
  obtain ⟨hd1, hf1⟩ := h1 hm
  rw [hm]
  have HF1 : Hid (Fr rb none w' w1) := hf1
  have HD1 : Hid (Ref w1 rb N D.burnt lv av wv) := hd1
  rw [show D.cnt z = D.burnt.cnt z by rw [burnt_cnt]] at hc hc2 c1 ⊢
  clear h1 hd1 hf1 c1
  have HDE : Hid (D.cnt z = D.burnt.cnt z) := show D.cnt z = D.burnt.cnt z by rw [burnt_cnt]
  generalize hDb : D.burnt = E at *
  have HDB : Hid (D.burnt = E) := hDb
  clear hDb
  obtain ⟨a, c, ea, _, hTx⟩ := Tx.of_own (l := fun j => txt 128 (E.blk z j)) (HD1.out.row z hz)
  have c1 := HD1.out.cel.cell z (by omega)
  rw [rcell_l _ _ _ _ z hz, ea] at c1
  have HTX : Hid (Tx w1 a (E.cnt z) (fun j => txt 128 (E.blk z j))) := hTx
  have hS7 : Since w1 (w1.drew.alloc (.cells #[] 9)) := (Since.refl w1).drew.alloc _
  have HS7 : Hid (Since w1 (w1.drew.alloc (.cells #[] 9))) := hS7
  have HLT : Hid ((w1.drew.alloc (.cells #[] 9)).ownsRow w1.heap.size 9 1 (.slice (some ⟨w1.heap.size, 0, none⟩) 0 0) 0 []) := World.ownsRow_lit (base := w1.heap.size) w1.drew #[] 0 (Nat.le_refl _) (by unfold maxLen; omega) rfl
  obtain ⟨i1, hi, hz0, hz1, hz3⟩ := info_parts' infoS
  have HJ : Hid (Tryd.prog.info? 9 = some i1 ∧ i1.zero = some (.string ⟨#[]⟩) ∧ i1.size = 1 ∧ i1.bytes = 16) := ⟨hi, hz0, hz1, hz3⟩
  have HC : Hid (E.cnt z < 16) := hc
  have d1 : (w1.alloc (.cells #[] 9)).cell? ⟨rb, z, none⟩ = some (.slice a (E.cnt z) c) := by
    have := (HD1.out.since HS7.out).cel.cell z (by omega)
    rw [rcell_l _ _ _ _ z hz, ea] at this
    exact this
  have HEA : Hid (lv z = .slice a (E.cnt z) c) := ea
  clear hi hz0 hz1 hz3 hTx hS7 ea
  go_wp2_with fail
  go_region_law (first
    | (obtain ⟨g3, cap3, w2, hr, ho, hg, hgg⟩ := run_spread (w1.drew.alloc (.cells #[] 9)) 22 w1.heap.size w1.heap.size a (E.cnt z) c _ HLT.out (HTX.out.since HS7.out) (by have := HC.out; omega) HS7.out.size; refine step_run (by rfl) (.tmp 26) (.tmp 32) 22 _ _ _ (by rfl) (by rfl) (by rfl) hr ?_; have HO3 : Hid (w2.ownsRow w1.heap.size 9 1 (.slice (some ⟨g3, 0, none⟩) (E.cnt z) cap3) (E.cnt z) (blks (E.blk z) (E.cnt z))) := ho; have HS2 : Hid (Since w1 w2) := Below.grown HS7.out hg HS7.out.size (fun j hj => by cases hj; exact Nat.le_refl _); clear hr ho hg hgg)
    | (refine step_append_lies _ (by rfl) (.tmp 33) (.tmp 36) 22 (by rfl) w1.heap.size 9 i1 _ 1 16 Tryd.underlying22 HJ.out.1 HJ.out.2.1 HJ.out.2.2.1 HJ.out.2.2.2 (by rfl) (by decide) _ (E.cnt z) (blks (E.blk z) (E.cnt z)) (by rfl) (ownsRow_since HO3.out HS28.out) ⟨w3.heap.size, 0, none⟩ 1 1 [.string (txt 128 (sb s))] (by rfl) (by rfl) (World.news_of_block (heap_alloc_new w3 _)) (by simp [Value.oneCell']) (by decide) (by have := HC.out; unfold maxLen; omega) (by have := HC.out; omega) (Nat.le_trans HS2.out.size HS28.out.size) (w3.heap.size + 1) (by simp) ?_; intro g2 cap2 w4 hown2 hgrow2 hat2 hlt2; have HO2 : Hid (w4.ownsRow w1.heap.size 9 1 (.slice (some ⟨g2, 0, none⟩) (E.cnt z + 1) cap2) (E.cnt z + 1) (blks (E.blk z) (E.cnt z) ++ [.string (txt 128 (sb s))])) := hown2; have HS4 : Hid (Since w1 w4) := Below.grown (HS2.out.trans HS28.out) hgrow2 (Nat.le_trans HS2.out.size HS28.out.size) (fun j hj => (HO3.out.lt j hj).1); have hc4 := (HD1.out.since HS4.out).cel; have k1 := hc4.cell z (by omega); have l1 := hc4.frozen z (by omega); rw [rcell_l _ _ _ _ z hz, HEA.out] at k1; clear hown2 hgrow2 hat2 hlt2 hc4)
    | (go_simp; go_at_call 97; refine (rlong_any s 128 _ (by omega)).mono ?_; rintro e w3 ⟨rfl, hS3⟩; have HS28 : Hid (Since w2 (w3.alloc (.cells #[.string (txt 128 (sb s))] 9))) := Since.alloc hS3 _; dsimp only))
  all_goals
    go_wp2_with fail
    go_ret2
    rw [HDB.out, HDE.out]
    refine ⟨by first | rfl | (congr 3; omega), ⟨_, rapp_ref HD1.out HS4.out hz (ownsRow_base HO2.out HD1.out.le) (fun k hk => (HO2.out.lt k hk).1)⟩, (HF1.out.trans' (Fr.of_since HS4.out)).trans' (Fr.setCell _ _ _ _ _)⟩
end Go.Proofs.YtjfhggcjdckfgaaDoor
