/- Fuse, slotOf. -/
import Derived.Test.YtjfhggcjdckfgaaDoorZ6
namespace Go.Proofs.YtjfhggcjdckfgaaDoor
set_option linter.unusedSimpArgs false
set_option linter.unusedVariables false
open Go.RowKit

set_option maxRecDepth 100000 in
theorem slotOf_any (s : ByteArray) (w : World) :
    Calls Tryd.prog 114 #[.string s] w fun e w' => e = .returned (.agg (brow 500 (fun i => bv (sb s i))).toArray) ∧ Since w w' := by
  have hA : Cel ((w.alloc (.cells Tryd.zeroCells151 151)).alloc (.cells Tryd.zeroCells151 151)) (w.heap.size + 1) 500 (fun _ => bv 0) := Cel.new (w.alloc _) _ _ _ _ (fun j hj => zeroSlot_get j hj) _ (by simp)
  have hB : Cel ((w.alloc (.cells Tryd.zeroCells151 151)).alloc (.cells Tryd.zeroCells151 151)) w.heap.size 500 (fun _ => bv 0) := (Cel.new w _ _ _ _ (fun j hj => zeroSlot_get j hj) _ rfl).since ((Since.refl _).alloc _)
  have hcp := copy_str _ 3 (w.heap.size + 1) 0 500 500 500 _ s hA (by omega)
  have hA2 := hA.setRow 0 (min s.size 500) (by omega) (fun i => bv (sb s i))
  have hB2 := hB.setRow_other (b' := w.heap.size + 1) (o' := 0) (brow (min s.size 500) (fun i => bv (sb s i))) (by omega)
  have hS := ((((Since.refl w).alloc (.cells Tryd.zeroCells151 151)).alloc (.cells Tryd.zeroCells151 151))).setCells (b := w.heap.size + 1) (by omega) (brow (min s.size 500) (fun i => bv (sb s i))) 0
  generalize hw2 : World.setCells _ _ _ (brow (min s.size 500) (fun i => bv (sb s i))) = w2 at *
  have hA3 : Cel w2 (w.heap.size + 1) 500 (fun i => bv (sb s i)) := hA2.congr (fun j hj => by
    unfold updl
    by_cases h : 0 ≤ j ∧ j < 0 + min s.size 500
    · rw [if_pos h]; rfl
    · rw [if_neg h, sb_zero s j (by omega)])
  have hR := hA3.range 0 500 (by omega)
  simp only [Nat.zero_add] at hR
  have hL : (brow 500 (fun i => bv (sb s i))).length = 500 := brow_length _ _
  have hst := hB2.store Tryd.prog 0 500 (by omega) (fun i => bv (sb s i)) (fun _ _ => rfl)
  have HS := (show Hid (Since w w2) from hS)
  have HB := (show Hid _ from hB2)
  clear hA hB hA2 hB2 hA3 hS hw2
  go_enter Tryd.func114, Tryd.ntmps114
  go_wp2_with (refine wpList_load_mid (by rfl) 151 _ (by rfl) (w.heap.size + 1) 0 (by rfl) _ _ hR Tryd.underlying151 (by rfl) (by rw [brow_length]; kernel_rfl) ?_)
  have hB3 := (HB.out.setRow 0 500 (by omega) (fun i => bv (sb s i))).congr (g := fun i => bv (sb s i)) (fun j hj => by unfold updl; rw [if_pos (by omega)]; rfl)
  have hR3 := hB3.range 0 500 (by omega)
  simp only [Nat.zero_add] at hR3
  exact bodyPost_ret (results_row Tryd.results114 _ _ _ w.heap.size _ _ (by rfl) hR3 Tryd.underlying151 (by rfl) (by rw [brow_length]; kernel_rfl)) rfl ⟨rfl, HS.out.setCells (Nat.le_refl _) _ _⟩

/-- the fuse is n -/
def Dv.fuse (D : Dv) (n : Int) : Dv := { D with fused := decide (0 ≤ n), left := max n 0 }
theorem fuse_dev (D : Dv) (v : Value) (b : Nat) (n : Int) (w : World) (hd : Dev w b D v) (hn : n ≤ 9223372036854775807) :
    Dev ((w.setCell ⟨b, 17401, none⟩ (.bool (decide (0 ≤ n)))).setCell ⟨b, 17402, none⟩ (.int .i64 (max n 0))) b (D.fuse n) v := by
  refine hd.turn (((hd.cel.set 17401 (by omega) _).set 17402 (by omega) _).congr (fun j hj => ?_)) ((Fr.setCell _ _ _ _ _).trans' (Fr.setCell _ _ _ _ _)) rfl ?_
  · unfold updv
    by_cases e : j = 17402
    · subst e; rw [if_pos rfl, dcell_left]; rfl
    · rw [if_neg e]
      by_cases e1 : j = 17401
      · subst e1; rw [if_pos rfl, dcell_fused]; rfl
      · rw [if_neg e1]
        unfold dcell
        have h3 : j < 16400 ∨ (¬ j < 16400 ∧ j < 17400) ∨ j = 17400 := by omega
        rcases h3 with h | ⟨h, h'⟩ | rfl
        · rw [if_pos h, if_pos h]; rfl
        · rw [if_neg h, if_neg h, if_pos h', if_pos h']; rfl
        · rfl
  · have := hd.ok
    exact ⟨this.cnt, this.sure, this.zero, by show 0 ≤ max n 0 ∧ max n 0 ≤ _; omega, this.ws, this.few⟩
set_option maxRecDepth 100000 in
theorem fuse_any (D : Dv) (v : Value) (b : Nat) (n : Int) (w : World) (hd : Dev w b D v) (hn : n ≤ 9223372036854775807) :
    Calls Tryd.prog 37 #[.pointer (some ⟨b, 0, none⟩), .int .i64 n] w fun e w' => e = .returned (.tuple #[]) ∧ Dev w' b (D.fuse n) v ∧ Fr b none w w' := by
  have c1 := hd.cel.cell 17401 (by omega)
  have f1 := hd.cel.frozen 17401 (by omega)
  have c2 := hd.cel.cell 17402 (by omega)
  have f2 := hd.cel.frozen 17402 (by omega)
  rw [dcell_fused] at c1
  rw [dcell_left] at c2
  have c3 : (w.setCell ⟨b, 17401, none⟩ (.bool (decide (0 ≤ n)))).cell? ⟨b, 17402, none⟩ = some (.int .i64 D.left) := by
    rw [World.cell?_setCell_other _ _ _ _ (by intro hc; injection hc with _ h2; omega)]; exact c2
  have HD := (show Hid (Dev w b D v) from hd)
  clear hd
  by_cases h0 : 0 ≤ n
  · have hx : max n 0 = n := by omega
    have h2 := fuse_dev D v b n w HD.out hn
    rw [hx, decide_eq_true h0] at h2
    rw [decide_eq_true h0] at c3
    have HX := (show Hid _ from h2)
    clear h2 hx
    go_enter Tryd.func37, Tryd.ntmps37
    go_wp2_with fail
    refine (orNew_any _ _).mono ?_
    rintro e w' ⟨rfl, rfl⟩
    go_wp2_with fail
    go_end0
    exact ⟨rfl, HX.out, (Fr.setCell _ _ _ _ _).trans' (Fr.setCell _ _ _ _ _)⟩
  · have hx : max n 0 = 0 := by omega
    have h2 := fuse_dev D v b n w HD.out hn
    rw [hx] at h2
    have HX := (show Hid _ from h2)
    clear h2 hx
    go_enter Tryd.func37, Tryd.ntmps37
    go_wp2_with fail
    refine (orNew_any _ _).mono ?_
    rintro e w' ⟨rfl, rfl⟩
    go_wp2_with fail
    go_end0
    exact ⟨rfl, HX.out, (Fr.setCell _ _ _ _ _).trans' (Fr.setCell _ _ _ _ _)⟩
end Go.Proofs.YtjfhggcjdckfgaaDoor
