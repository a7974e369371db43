import Derived.Test.YtjfhggcjdckfgaaDoorD1
namespace Go.Proofs.YtjfhggcjdckfgaaDoor
set_option maxRecDepth 100000
namespace Sm.Sr
set_option linter.unusedSimpArgs false
set_option linter.unusedVariables false
open Go.RowKit
attribute [local go_sem] U_add U_mulc U_xor U_and U_or U_shr U_shl U_not U_conv U_byte U_cells U_match U_oneCell U_store U_store1 isSome_set

/-- all but block b is as it was -/
structure Fr (b : Nat) (w w' : World) : Prop where
  since : ∀ a, Since a w → a.heap.size ≤ b → Since a w'
  arr : ∀ c o n f, c ≠ b → Arr w c o n f → Arr w' c o n f
  size : w.heap.size ≤ w'.heap.size
theorem Fr.refl (b : Nat) (w : World) : Fr b w w := ⟨fun _ h _ => h, fun _ _ _ _ _ h => h, Nat.le_refl _⟩
theorem Fr.trans {b : Nat} {w w' w'' : World} (h : Fr b w w') (k : Fr b w' w'') : Fr b w w'' := ⟨fun a h1 h2 => k.since a (h.since a h1 h2) h2, fun c o n f h1 h2 => k.arr c o n f h1 (h.arr c o n f h1 h2), Nat.le_trans h.size k.size⟩
theorem Fr.of_since {b : Nat} {w w' : World} (h : Since w w') : Fr b w w' := ⟨fun _ h1 _ => h1.trans h, fun _ _ _ _ _ h1 => h1.since h, h.size⟩
theorem Fr.set {b o : Nat} {w w' : World} (h : Fr b w w') (v : Value) : Fr b w (w'.setCell ⟨b, o, none⟩ v) := h.trans ⟨fun _ h1 h2 => h1.setCell (p := ⟨b, o, none⟩) h2 v, fun _ _ _ _ h1 h2 => h2.other (a := ⟨b, o, none⟩) (fun e => h1 e.symm) v, by simp⟩
theorem Fr.drew {b : Nat} {w w' : World} (h : Fr b w w') : Fr b w w'.drew := h.trans (Fr.of_since (Since.refl _).drew)
theorem Fr.drewN {b : Nat} {w w' : World} (h : Fr b w w') (n : Nat) : Fr b w (w'.drewN n) := h.trans (Fr.of_since ((Since.refl _).drewN n))

/-- half a quarter round on words i0 .. i3 -/
def stp (g : Nat → BitVec 32) (i0 i1 i2 i3 m n : Nat) : Nat → BitVec 32 :=
  let q := half ⟨g i0, g i1, g i2, g i3⟩ m n
  upd (upd (upd (upd g i0 q.a) i3 q.d) i2 q.c) i1 q.b
/-- behind k halves -/
def mx (g : Nat → BitVec 32) (i0 i1 i2 i3 : Nat) : Nat → Nat → BitVec 32
  | 0 => g
  | 1 => stp g i0 i1 i2 i3 16 12
  | _ => stp (stp g i0 i1 i2 i3 16 12) i0 i1 i2 i3 8 7

set_option maxHeartbeats 4000000 in
set_option maxRecDepth 100000 in
theorem mix_any (g0 : Nat → BitVec 32) (b cap i0 i1 i2 i3 : Nat) (w : World) (l0 : i0 < 16) (l1 : i1 < 16) (l2 : i2 < 16) (l3 : i3 < 16)
    (n03 : i0 ≠ i3) (n02 : i0 ≠ i2) (n01 : i0 ≠ i1) (n12 : i1 ≠ i2) (n13 : i1 ≠ i3) (n23 : i2 ≠ i3) (hA : Arr w b 0 16 g0) :
    Calls Tryd.prog 89 #[.slice (some ⟨b, 0, none⟩) 16 cap, .agg #[.int .i64 i0, .int .i64 i1, .int .i64 i2, .int .i64 i3]] w fun e w' => e = .returned (.tuple #[]) ∧ Arr w' b 0 16 (mx g0 i0 i1 i2 i3 2) ∧ Fr b w w' := by
  have hbl := hA.lt (by omega)
  have N := (show Hid ((i0 ≠ i3 ∧ i0 ≠ i2 ∧ i0 ≠ i1) ∧ (i1 ≠ i2 ∧ i1 ≠ i3 ∧ i2 ≠ i3)) from ⟨⟨n03, n02, n01⟩, n12, n13, n23⟩)
  clear n03 n02 n01 n12 n13 n23
  have HA0 := (show Hid (Arr w b 0 16 g0) from hA)
  clear hA
  have j0 : (i0 : Int) < 16 := by omega
  have j1 : (i1 : Int) < 16 := by omega
  have j2 : (i2 : Int) < 16 := by omega
  have j3 : (i3 : Int) < 16 := by omega
  go_enter Tryd.func89, Tryd.ntmps89
  go_wp2_with fail
  go_loopw [10] (fun i wr => ∃ k : Nat, k ≤ 2 ∧ i = .int .i64 k ∧ Arr wr b 0 16 (mx g0 i0 i1 i2 i3 k) ∧ Cel wr w.heap.size 4 (fun j => [Value.int .i64 i0, .int .i64 i1, .int .i64 i2, .int .i64 i3].getD j undef) ∧ Fr b w wr) (fun i _ => 2 - (intOf i).toNat)
  case atStart =>
    refine ⟨0, by omega, rfl, HA0.out.alloc _, Cel.new w 4 _ _ _ (fun j hj => ?_) _ rfl, Fr.of_since ((Since.refl _).alloc _)⟩
    match j, hj with
    | 0, _ => rfl
    | 1, _ => rfl
    | 2, _ => rfl
    | 3, _ => rfl
  case round =>
    obtain ⟨k, hk, rfl, hA, hB, hF⟩ := hrel
    by_cases hlt : k < 2
    · have hstep : mx g0 i0 i1 i2 i3 (k + 1) = stp (mx g0 i0 i1 i2 i3 k) i0 i1 i2 i3 (16 - 8 * k) (12 - 5 * k) := by
        rcases k with _ | _ | k
        · rfl
        · rfl
        · omega
      have HST := (show Hid _ from hstep)
      clear hstep
      have hk01 : k = 0 ∨ k = 1 := by omega
      generalize mx g0 i0 i1 i2 i3 k = g at *
      have HA := (show Hid (Arr wr b 0 16 g) from hA)
      have HB := (show Hid (Cel wr w.heap.size 4 (fun j => [Value.int .i64 i0, .int .i64 i1, .int .i64 i2, .int .i64 i3].getD j undef)) from hB)
      have HF := (show Hid (Fr b w wr) from hF)
      have b0 : wr.cell? ⟨w.heap.size, 0, none⟩ = some (.int .i64 i0) := hB.cell 0 (by omega)
      have b1 : wr.cell? ⟨w.heap.size, 1, none⟩ = some (.int .i64 i1) := hB.cell 1 (by omega)
      have b2 : wr.cell? ⟨w.heap.size, 2, none⟩ = some (.int .i64 i2) := hB.cell 2 (by omega)
      have b3 : wr.cell? ⟨w.heap.size, 3, none⟩ = some (.int .i64 i3) := hB.cell 3 (by omega)
      clear hA hB hF hk
      go_wp2_with fail
      go_quiet (fail)
      go_wp2_with fail
      generalize hwa : World.drewN wr _ = wa
      have hAa : Arr wa b 0 16 (g) := by rw [← hwa]; exact HA.out.drewN _
      have hBa : Cel wa w.heap.size 4 (fun j => [Value.int .i64 i0, .int .i64 i1, .int .i64 i2, .int .i64 i3].getD j undef) := by rw [← hwa]; exact HB.out.since ((Since.refl _).drewN _)
      have hFa : Fr b w wa := by rw [← hwa]; exact HF.out.drewN _
      clear hwa b0 b1 b2 b3 HA HB HF
      obtain ⟨⟨N2, N4, N6⟩, N8, N10, N12⟩ := N.out
      have N1 : ¬ i3 = i0 := fun e => N2 e.symm
      have N3 : ¬ i2 = i0 := fun e => N4 e.symm
      have N5 : ¬ i1 = i0 := fun e => N6 e.symm
      have N7 : ¬ i2 = i1 := fun e => N8 e.symm
      have N9 : ¬ i3 = i1 := fun e => N10 e.symm
      have N11 : ¬ i3 = i2 := fun e => N12 e.symm
      have HK := (show Hid (k = 0 ∨ k = 1) from hk01)
      clear hk01
      have q1 : IntKind.i64.wrap (8 * (k : Int)) = 8 * k := by simp [IntKind.wrap, IntKind.bits, IntKind.signed]; omega
      have q2 : IntKind.i64.wrap (16 - 8 * (k : Int)) = 16 - 8 * k := by simp [IntKind.wrap, IntKind.bits, IntKind.signed]; omega
      have q3 : IntKind.u64.wrap (16 - 8 * (k : Int)) = 16 - 8 * k := by simp [IntKind.wrap, IntKind.bits, IntKind.signed]; omega
      have q4 : IntKind.i64.wrap (5 * (k : Int)) = 5 * k := by simp [IntKind.wrap, IntKind.bits, IntKind.signed]; omega
      have q5 : IntKind.i64.wrap (12 - 5 * (k : Int)) = 12 - 5 * k := by simp [IntKind.wrap, IntKind.bits, IntKind.signed]; omega
      have q6 : IntKind.u64.wrap (12 - 5 * (k : Int)) = 12 - 5 * k := by simp [IntKind.wrap, IntKind.bits, IntKind.signed]; omega
      have T1 := (show Hid ((16 - 8 * (k : Int)).toNat = 16 - 8 * k) from by show _ = _; omega)
      have T2 := (show Hid ((12 - 5 * (k : Int)).toNat = 12 - 5 * k) from by show _ = _; omega)
      have c1 : wa.cell? ⟨b, i0, none⟩ = some (U (g i0)) := by
        have h := hAa.cell i0 (by omega)
        rw [Nat.zero_add] at h
        rw [h] <;> simp [upd, N1, N2, N3, N4, N5, N6, N7, N8, N9, N10, N11, N12]
      have c2 : wa.cell? ⟨b, i1, none⟩ = some (U (g i1)) := by
        have h := hAa.cell i1 (by omega)
        rw [Nat.zero_add] at h
        rw [h] <;> simp [upd, N1, N2, N3, N4, N5, N6, N7, N8, N9, N10, N11, N12]
      have f1 := hAa.frozen i0 (by omega)
      rw [Nat.zero_add] at f1
      have HAa := (show Hid (Arr wa b 0 16 (g)) from hAa)
      have HBa := (show Hid (Cel wa w.heap.size 4 (fun j => [Value.int .i64 i0, .int .i64 i1, .int .i64 i2, .int .i64 i3].getD j undef)) from hBa)
      have HFa := (show Hid (Fr b w wa) from hFa)
      clear hAa hBa hFa
      have HN := (show Hid ((((¬ i3 = i0 ∧ ¬ i0 = i3) ∧ (¬ i2 = i0 ∧ ¬ i0 = i2)) ∧ ((¬ i1 = i0 ∧ ¬ i0 = i1) ∧ (¬ i2 = i1 ∧ ¬ i1 = i2))) ∧ ((¬ i3 = i1 ∧ ¬ i1 = i3) ∧ (¬ i3 = i2 ∧ ¬ i2 = i3))) from ⟨⟨⟨⟨N1, N2⟩, N3, N4⟩, ⟨N5, N6⟩, N7, N8⟩, ⟨N9, N10⟩, N11, N12⟩)
      clear N1 N2 N3 N4 N5 N6 N7 N8 N9 N10 N11 N12
      go_region
      obtain ⟨⟨⟨⟨N1, N2⟩, N3, N4⟩, ⟨N5, N6⟩, N7, N8⟩, ⟨N9, N10⟩, N11, N12⟩ := HN.out
      clear HN
      generalize hval : g i0 + g i1 = va at *
      have Hva := (show Hid (g i0 + g i1 = va) from hval)
      clear hval
      generalize hw : World.drew _ = wb
      have hAb : Arr wb b 0 16 (upd (g) i0 va) := by
        have h := HAa.out.set i0 (by omega) va
        rw [Nat.zero_add] at h
        rw [← hw]; exact h.since (Since.refl _).drew
      have hBb : Cel wb w.heap.size 4 (fun j => [Value.int .i64 i0, .int .i64 i1, .int .i64 i2, .int .i64 i3].getD j undef) := by rw [← hw]; exact (HBa.out.other (by simp; omega) _).since (Since.refl _).drew
      have hFb : Fr b w wb := by rw [← hw]; exact (HFa.out.set _).drew
      clear hw c1 c2 f1 HAa HBa HFa
      go_wp2_with fail
      have c1 : wb.cell? ⟨b, i3, none⟩ = some (U (g i3)) := by
        have h := hAb.cell i3 (by omega)
        rw [Nat.zero_add] at h
        rw [h] <;> simp [upd, N1, N2, N3, N4, N5, N6, N7, N8, N9, N10, N11, N12]
      have c2 : wb.cell? ⟨b, i0, none⟩ = some (U (va)) := by
        have h := hAb.cell i0 (by omega)
        rw [Nat.zero_add] at h
        rw [h] <;> simp [upd, N1, N2, N3, N4, N5, N6, N7, N8, N9, N10, N11, N12]
      have f1 := hAb.frozen i3 (by omega)
      rw [Nat.zero_add] at f1
      have HAb := (show Hid (Arr wb b 0 16 (upd (g) i0 va)) from hAb)
      have HBb := (show Hid (Cel wb w.heap.size 4 (fun j => [Value.int .i64 i0, .int .i64 i1, .int .i64 i2, .int .i64 i3].getD j undef)) from hBb)
      have HFb := (show Hid (Fr b w wb) from hFb)
      clear hAb hBb hFb
      refine wp_region_any (by kernel_rfl) ?_
      refine wpAny_take (i := 0) (v := ?vp0) rfl (by kernel_rfl) (by kernel_rfl) (by kernel_rfl) (fun _ _ _ h => h) (Or.inl ⟨by rfl, ?hyp0⟩) ?rp0
      case hyp0 => (intro w; go_simp; try with_reducible rfl)
      (try simp only [Act.put, List.setIfInBounds_toArray, List.set_cons_zero, List.set_cons_succ])
      refine wpAny_take (i := 1) (v := ?vp1) rfl (by kernel_rfl) (by kernel_rfl) (by kernel_rfl) (fun _ _ _ h => h) (Or.inl ⟨by rfl, ?hyp1⟩) ?rp1
      case hyp1 => (intro w; go_simp; try with_reducible rfl)
      (try simp only [Act.put, List.setIfInBounds_toArray, List.set_cons_zero, List.set_cons_succ])
      refine wpAny_take (i := 2) (v := ?vp2) rfl (by kernel_rfl) (by kernel_rfl) (by kernel_rfl) (fun _ _ _ h => h) (Or.inl ⟨by rfl, ?hyp2⟩) ?rp2
      case hyp2 => (intro w; go_simp; try with_reducible rfl)
      (try simp only [Act.put, List.setIfInBounds_toArray, List.set_cons_zero, List.set_cons_succ])
      refine wpAny_take (i := 3) (v := ?vp3) rfl (by kernel_rfl) (by kernel_rfl) (by kernel_rfl) (fun _ _ _ h => h) (Or.inl ⟨by rfl, ?hyp3⟩) ?rp3
      case hyp3 => (intro w; go_simp; try with_reducible rfl)
      (try simp only [Act.put, List.setIfInBounds_toArray, List.set_cons_zero, List.set_cons_succ])
      refine wpAny_take (i := 4) (v := ?vp4) rfl (by kernel_rfl) (by kernel_rfl) (by kernel_rfl) (fun _ _ _ h => h) (Or.inl ⟨by rfl, ?hyp4⟩) ?rp4
      case hyp4 => (intro w; go_simp; try with_reducible rfl)
      (try simp only [Act.put, List.setIfInBounds_toArray, List.set_cons_zero, List.set_cons_succ])
      refine wpAny_take (i := 5) (v := ?vp5) rfl (by kernel_rfl) (by kernel_rfl) (by kernel_rfl) (fun _ _ _ h => h) (Or.inl ⟨by rfl, ?hyp5⟩) ?rp5
      case hyp5 => (intro w; go_simp; try with_reducible rfl)
      (try simp only [Act.put, List.setIfInBounds_toArray, List.set_cons_zero, List.set_cons_succ])
      refine wpAny_take (i := 7) (v := ?vp7) rfl (by kernel_rfl) (by kernel_rfl) (by kernel_rfl) (fun _ _ _ h => h) (Or.inl ⟨by rfl, ?hyp7⟩) ?rp7
      case hyp7 => (intro w; go_simp; try with_reducible rfl)
      (try simp only [Act.put, List.setIfInBounds_toArray, List.set_cons_zero, List.set_cons_succ])
      refine wpAny_take (i := 8) (v := ?vp8) rfl (by kernel_rfl) (by kernel_rfl) (by kernel_rfl) (fun _ _ _ h => h) (Or.inl ⟨by rfl, ?hyp8⟩) ?rp8
      case hyp8 => (intro w; go_simp; try with_reducible rfl)
      (try simp only [Act.put, List.setIfInBounds_toArray, List.set_cons_zero, List.set_cons_succ])
      refine wpAny_take (i := 9) (v := ?vp9) rfl (by kernel_rfl) (by kernel_rfl) (by kernel_rfl) (fun _ _ _ h => h) (Or.inl ⟨by rfl, ?hyp9⟩) ?rp9
      case hyp9 => (intro w; go_simp; try with_reducible rfl)
      (try simp only [Act.put, List.setIfInBounds_toArray, List.set_cons_zero, List.set_cons_succ])
      refine wpAny_take (i := 12) (v := ?vp12) rfl (by kernel_rfl) (by kernel_rfl) (by kernel_rfl) (fun _ _ _ h => h) (Or.inl ⟨by rfl, ?hyp12⟩) ?rp12
      case hyp12 => (intro w; go_simp; try with_reducible rfl)
      (try simp only [Act.put, List.setIfInBounds_toArray, List.set_cons_zero, List.set_cons_succ])
      refine wpAny_take (i := 13) (v := ?vp13) rfl (by kernel_rfl) (by kernel_rfl) (by kernel_rfl) (fun _ _ _ h => h) (Or.inl ⟨by rfl, ?hyp13⟩) ?rp13
      case hyp13 => (intro w; go_simp; try with_reducible rfl)
      (try simp only [Act.put, List.setIfInBounds_toArray, List.set_cons_zero, List.set_cons_succ])
      refine wpAny_take (i := 14) (v := ?vp14) rfl (by kernel_rfl) (by kernel_rfl) (by kernel_rfl) (fun _ _ _ h => h) (Or.inl ⟨by rfl, ?hyp14⟩) ?rp14
      case hyp14 => (intro w; go_simp; try with_reducible rfl)
      (try simp only [Act.put, List.setIfInBounds_toArray, List.set_cons_zero, List.set_cons_succ])
      refine wpAny_take (i := 15) (v := ?vp15) rfl (by kernel_rfl) (by kernel_rfl) (by kernel_rfl) (fun _ _ _ h => h) (Or.inl ⟨by rfl, ?hyp15⟩) ?rp15
      case hyp15 => (intro w; go_simp; try with_reducible rfl)
      (try simp only [Act.put, List.setIfInBounds_toArray, List.set_cons_zero, List.set_cons_succ])
      have hS4 : (fun w' : World => w'.cell? ⟨b, i3, none⟩ = some (U (g i3)) ∧ w'.cell? ⟨b, i0, none⟩ = some (U (va))) wb.drew := by
        refine ⟨?_, ?_⟩
        · simpa using c1
        · simpa using c2
      refine wpAny_of_G (S := fun w' : World => w'.cell? ⟨b, i3, none⟩ = some (U (g i3)) ∧ w'.cell? ⟨b, i0, none⟩ = some (U (va))) (c := 11) _ _ _ _ ?_
      refine wpAnyG_take (i := 6) (v := ?vp6) rfl rfl (by kernel_rfl) (by kernel_rfl) (by kernel_rfl) (by rfl) (by kernel_rfl) (fun _ _ _ h => h) (Or.inl ⟨by rfl, ?hyp6⟩) hS4 ?rp6
      case hyp6 => (intro w hSw; obtain ⟨s0, s1⟩ := hSw; go_simp; try with_reducible rfl)
      (try simp only [Act.put, List.setIfInBounds_toArray, List.set_cons_zero, List.set_cons_succ])
      refine wpAnyG_take (i := 10) (v := ?vp10) rfl rfl (by kernel_rfl) (by kernel_rfl) (by kernel_rfl) (by rfl) (by kernel_rfl) (fun _ _ _ h => h) (Or.inl ⟨by rfl, ?hyp10⟩) hS4 ?rp10
      case hyp10 => (intro w hSw; obtain ⟨s0, s1⟩ := hSw; go_simp; try with_reducible rfl)
      (try simp only [Act.put, List.setIfInBounds_toArray, List.set_cons_zero, List.set_cons_succ])
      refine wpAnyG_leave (by kernel_rfl) ?_
      clear hS4
      refine wpAny_take (i := 11) (v := ?vp11) rfl (by kernel_rfl) (by kernel_rfl) (by kernel_rfl) (fun _ _ _ h => h) (Or.inl ⟨by rfl, ?hyp11⟩) ?rp11
      case hyp11 => (intro w; go_simp; try with_reducible rfl)
      (try simp only [Act.put, List.setIfInBounds_toArray, List.set_cons_zero, List.set_cons_succ])
      refine wpAny_ready (rs := [16]) (by kernel_rfl) (by simp) (AllReady.cons rfl (fun K hK => ?_) AllReady.nil)
      go_simp
      refine (left_any _ _ _ (by omega) (by omega)).mono ?_
      rintro e w' ⟨rfl, rfl⟩
      rw [T1.out]
      simp only []
      refine hK _ _ ?_
      clear hK K
      (try simp only [Act.put, List.setIfInBounds_toArray, List.set_cons_zero, List.set_cons_succ])
      generalize hval : rol (g i3 ^^^ va) (16 - 8 * k) = vd at *
      have Hvd := (show Hid (rol (g i3 ^^^ va) (16 - 8 * k) = vd) from hval)
      clear hval
      refine wpAny_take (i := 17) (v := ?vp17) rfl (by kernel_rfl) (by kernel_rfl) (by kernel_rfl) (fun _ _ _ h => h) (Or.inl ⟨by rfl, ?hyp17⟩) ?rp17
      case hyp17 => (intro w; go_simp; try with_reducible rfl)
      (try simp only [Act.put, List.setIfInBounds_toArray, List.set_cons_zero, List.set_cons_succ])
      refine wpAny_ready (rs := [18]) (by kernel_rfl) (by simp) (AllReady.cons rfl (fun K hK => ?_) AllReady.nil)
      go_simp
      refine hK _ _ ?_
      clear hK K
      (try simp only [Act.put, List.setIfInBounds_toArray, List.set_cons_zero, List.set_cons_succ])
      refine wpAny_done (by kernel_rfl) ?_ _
      generalize hw : World.drew _ = wc
      have hAc : Arr wc b 0 16 (upd (upd (g) i0 va) i3 vd) := by
        have h := HAb.out.set i3 (by omega) vd
        rw [Nat.zero_add] at h
        rw [← hw]; exact h.since (Since.refl _).drew
      have hBc : Cel wc w.heap.size 4 (fun j => [Value.int .i64 i0, .int .i64 i1, .int .i64 i2, .int .i64 i3].getD j undef) := by rw [← hw]; exact (HBb.out.other (by simp; omega) _).since (Since.refl _).drew
      have hFc : Fr b w wc := by rw [← hw]; exact (HFb.out.set _).drew
      clear hw c1 c2 f1 HAb HBb HFb
      go_wp2_with fail
      have c1 : wc.cell? ⟨b, i2, none⟩ = some (U (g i2)) := by
        have h := hAc.cell i2 (by omega)
        rw [Nat.zero_add] at h
        rw [h] <;> simp [upd, N1, N2, N3, N4, N5, N6, N7, N8, N9, N10, N11, N12]
      have c2 : wc.cell? ⟨b, i3, none⟩ = some (U (vd)) := by
        have h := hAc.cell i3 (by omega)
        rw [Nat.zero_add] at h
        rw [h] <;> simp [upd, N1, N2, N3, N4, N5, N6, N7, N8, N9, N10, N11, N12]
      have f1 := hAc.frozen i2 (by omega)
      rw [Nat.zero_add] at f1
      have HAc := (show Hid (Arr wc b 0 16 (upd (upd (g) i0 va) i3 vd)) from hAc)
      have HBc := (show Hid (Cel wc w.heap.size 4 (fun j => [Value.int .i64 i0, .int .i64 i1, .int .i64 i2, .int .i64 i3].getD j undef)) from hBc)
      have HFc := (show Hid (Fr b w wc) from hFc)
      clear hAc hBc hFc
      have HN := (show Hid ((((¬ i3 = i0 ∧ ¬ i0 = i3) ∧ (¬ i2 = i0 ∧ ¬ i0 = i2)) ∧ ((¬ i1 = i0 ∧ ¬ i0 = i1) ∧ (¬ i2 = i1 ∧ ¬ i1 = i2))) ∧ ((¬ i3 = i1 ∧ ¬ i1 = i3) ∧ (¬ i3 = i2 ∧ ¬ i2 = i3))) from ⟨⟨⟨⟨N1, N2⟩, N3, N4⟩, ⟨N5, N6⟩, N7, N8⟩, ⟨N9, N10⟩, N11, N12⟩)
      clear N1 N2 N3 N4 N5 N6 N7 N8 N9 N10 N11 N12
      go_region
      obtain ⟨⟨⟨⟨N1, N2⟩, N3, N4⟩, ⟨N5, N6⟩, N7, N8⟩, ⟨N9, N10⟩, N11, N12⟩ := HN.out
      clear HN
      generalize hval : g i2 + vd = vc at *
      have Hvc := (show Hid (g i2 + vd = vc) from hval)
      clear hval
      generalize hw : World.drew _ = wd
      have hAd : Arr wd b 0 16 (upd (upd (upd (g) i0 va) i3 vd) i2 vc) := by
        have h := HAc.out.set i2 (by omega) vc
        rw [Nat.zero_add] at h
        rw [← hw]; exact h.since (Since.refl _).drew
      have hBd : Cel wd w.heap.size 4 (fun j => [Value.int .i64 i0, .int .i64 i1, .int .i64 i2, .int .i64 i3].getD j undef) := by rw [← hw]; exact (HBc.out.other (by simp; omega) _).since (Since.refl _).drew
      have hFd : Fr b w wd := by rw [← hw]; exact (HFc.out.set _).drew
      clear hw c1 c2 f1 HAc HBc HFc
      go_wp2_with fail
      have c1 : wd.cell? ⟨b, i1, none⟩ = some (U (g i1)) := by
        have h := hAd.cell i1 (by omega)
        rw [Nat.zero_add] at h
        rw [h] <;> simp [upd, N1, N2, N3, N4, N5, N6, N7, N8, N9, N10, N11, N12]
      have c2 : wd.cell? ⟨b, i2, none⟩ = some (U (vc)) := by
        have h := hAd.cell i2 (by omega)
        rw [Nat.zero_add] at h
        rw [h] <;> simp [upd, N1, N2, N3, N4, N5, N6, N7, N8, N9, N10, N11, N12]
      have f1 := hAd.frozen i1 (by omega)
      rw [Nat.zero_add] at f1
      have HAd := (show Hid (Arr wd b 0 16 (upd (upd (upd (g) i0 va) i3 vd) i2 vc)) from hAd)
      have HBd := (show Hid (Cel wd w.heap.size 4 (fun j => [Value.int .i64 i0, .int .i64 i1, .int .i64 i2, .int .i64 i3].getD j undef)) from hBd)
      have HFd := (show Hid (Fr b w wd) from hFd)
      clear hAd hBd hFd
      refine wp_region_any (by kernel_rfl) ?_
      refine wpAny_take (i := 0) (v := ?vq0) rfl (by kernel_rfl) (by kernel_rfl) (by kernel_rfl) (fun _ _ _ h => h) (Or.inl ⟨by rfl, ?hyq0⟩) ?rq0
      case hyq0 => (intro w; go_simp; try with_reducible rfl)
      (try simp only [Act.put, List.setIfInBounds_toArray, List.set_cons_zero, List.set_cons_succ])
      refine wpAny_take (i := 1) (v := ?vq1) rfl (by kernel_rfl) (by kernel_rfl) (by kernel_rfl) (fun _ _ _ h => h) (Or.inl ⟨by rfl, ?hyq1⟩) ?rq1
      case hyq1 => (intro w; go_simp; try with_reducible rfl)
      (try simp only [Act.put, List.setIfInBounds_toArray, List.set_cons_zero, List.set_cons_succ])
      refine wpAny_take (i := 2) (v := ?vq2) rfl (by kernel_rfl) (by kernel_rfl) (by kernel_rfl) (fun _ _ _ h => h) (Or.inl ⟨by rfl, ?hyq2⟩) ?rq2
      case hyq2 => (intro w; go_simp; try with_reducible rfl)
      (try simp only [Act.put, List.setIfInBounds_toArray, List.set_cons_zero, List.set_cons_succ])
      refine wpAny_take (i := 3) (v := ?vq3) rfl (by kernel_rfl) (by kernel_rfl) (by kernel_rfl) (fun _ _ _ h => h) (Or.inl ⟨by rfl, ?hyq3⟩) ?rq3
      case hyq3 => (intro w; go_simp; try with_reducible rfl)
      (try simp only [Act.put, List.setIfInBounds_toArray, List.set_cons_zero, List.set_cons_succ])
      refine wpAny_take (i := 4) (v := ?vq4) rfl (by kernel_rfl) (by kernel_rfl) (by kernel_rfl) (fun _ _ _ h => h) (Or.inl ⟨by rfl, ?hyq4⟩) ?rq4
      case hyq4 => (intro w; go_simp; try with_reducible rfl)
      (try simp only [Act.put, List.setIfInBounds_toArray, List.set_cons_zero, List.set_cons_succ])
      refine wpAny_take (i := 5) (v := ?vq5) rfl (by kernel_rfl) (by kernel_rfl) (by kernel_rfl) (fun _ _ _ h => h) (Or.inl ⟨by rfl, ?hyq5⟩) ?rq5
      case hyq5 => (intro w; go_simp; try with_reducible rfl)
      (try simp only [Act.put, List.setIfInBounds_toArray, List.set_cons_zero, List.set_cons_succ])
      refine wpAny_take (i := 7) (v := ?vq7) rfl (by kernel_rfl) (by kernel_rfl) (by kernel_rfl) (fun _ _ _ h => h) (Or.inl ⟨by rfl, ?hyq7⟩) ?rq7
      case hyq7 => (intro w; go_simp; try with_reducible rfl)
      (try simp only [Act.put, List.setIfInBounds_toArray, List.set_cons_zero, List.set_cons_succ])
      refine wpAny_take (i := 8) (v := ?vq8) rfl (by kernel_rfl) (by kernel_rfl) (by kernel_rfl) (fun _ _ _ h => h) (Or.inl ⟨by rfl, ?hyq8⟩) ?rq8
      case hyq8 => (intro w; go_simp; try with_reducible rfl)
      (try simp only [Act.put, List.setIfInBounds_toArray, List.set_cons_zero, List.set_cons_succ])
      refine wpAny_take (i := 9) (v := ?vq9) rfl (by kernel_rfl) (by kernel_rfl) (by kernel_rfl) (fun _ _ _ h => h) (Or.inl ⟨by rfl, ?hyq9⟩) ?rq9
      case hyq9 => (intro w; go_simp; try with_reducible rfl)
      (try simp only [Act.put, List.setIfInBounds_toArray, List.set_cons_zero, List.set_cons_succ])
      refine wpAny_take (i := 12) (v := ?vq12) rfl (by kernel_rfl) (by kernel_rfl) (by kernel_rfl) (fun _ _ _ h => h) (Or.inl ⟨by rfl, ?hyq12⟩) ?rq12
      case hyq12 => (intro w; go_simp; try with_reducible rfl)
      (try simp only [Act.put, List.setIfInBounds_toArray, List.set_cons_zero, List.set_cons_succ])
      refine wpAny_take (i := 13) (v := ?vq13) rfl (by kernel_rfl) (by kernel_rfl) (by kernel_rfl) (fun _ _ _ h => h) (Or.inl ⟨by rfl, ?hyq13⟩) ?rq13
      case hyq13 => (intro w; go_simp; try with_reducible rfl)
      (try simp only [Act.put, List.setIfInBounds_toArray, List.set_cons_zero, List.set_cons_succ])
      refine wpAny_take (i := 14) (v := ?vq14) rfl (by kernel_rfl) (by kernel_rfl) (by kernel_rfl) (fun _ _ _ h => h) (Or.inl ⟨by rfl, ?hyq14⟩) ?rq14
      case hyq14 => (intro w; go_simp; try with_reducible rfl)
      (try simp only [Act.put, List.setIfInBounds_toArray, List.set_cons_zero, List.set_cons_succ])
      refine wpAny_take (i := 15) (v := ?vq15) rfl (by kernel_rfl) (by kernel_rfl) (by kernel_rfl) (fun _ _ _ h => h) (Or.inl ⟨by rfl, ?hyq15⟩) ?rq15
      case hyq15 => (intro w; go_simp; try with_reducible rfl)
      (try simp only [Act.put, List.setIfInBounds_toArray, List.set_cons_zero, List.set_cons_succ])
      have hS4 : (fun w' : World => w'.cell? ⟨b, i1, none⟩ = some (U (g i1)) ∧ w'.cell? ⟨b, i2, none⟩ = some (U (vc))) wd.drew := by
        refine ⟨?_, ?_⟩
        · simpa using c1
        · simpa using c2
      refine wpAny_of_G (S := fun w' : World => w'.cell? ⟨b, i1, none⟩ = some (U (g i1)) ∧ w'.cell? ⟨b, i2, none⟩ = some (U (vc))) (c := 11) _ _ _ _ ?_
      refine wpAnyG_take (i := 6) (v := ?vq6) rfl rfl (by kernel_rfl) (by kernel_rfl) (by kernel_rfl) (by rfl) (by kernel_rfl) (fun _ _ _ h => h) (Or.inl ⟨by rfl, ?hyq6⟩) hS4 ?rq6
      case hyq6 => (intro w hSw; obtain ⟨s0, s1⟩ := hSw; go_simp; try with_reducible rfl)
      (try simp only [Act.put, List.setIfInBounds_toArray, List.set_cons_zero, List.set_cons_succ])
      refine wpAnyG_take (i := 10) (v := ?vq10) rfl rfl (by kernel_rfl) (by kernel_rfl) (by kernel_rfl) (by rfl) (by kernel_rfl) (fun _ _ _ h => h) (Or.inl ⟨by rfl, ?hyq10⟩) hS4 ?rq10
      case hyq10 => (intro w hSw; obtain ⟨s0, s1⟩ := hSw; go_simp; try with_reducible rfl)
      (try simp only [Act.put, List.setIfInBounds_toArray, List.set_cons_zero, List.set_cons_succ])
      refine wpAnyG_leave (by kernel_rfl) ?_
      clear hS4
      refine wpAny_take (i := 11) (v := ?vq11) rfl (by kernel_rfl) (by kernel_rfl) (by kernel_rfl) (fun _ _ _ h => h) (Or.inl ⟨by rfl, ?hyq11⟩) ?rq11
      case hyq11 => (intro w; go_simp; try with_reducible rfl)
      (try simp only [Act.put, List.setIfInBounds_toArray, List.set_cons_zero, List.set_cons_succ])
      refine wpAny_ready (rs := [16]) (by kernel_rfl) (by simp) (AllReady.cons rfl (fun K hK => ?_) AllReady.nil)
      go_simp
      refine (left_any _ _ _ (by omega) (by omega)).mono ?_
      rintro e w' ⟨rfl, rfl⟩
      rw [T2.out]
      simp only []
      refine hK _ _ ?_
      clear hK K
      (try simp only [Act.put, List.setIfInBounds_toArray, List.set_cons_zero, List.set_cons_succ])
      generalize hval : rol (g i1 ^^^ vc) (12 - 5 * k) = vb at *
      have Hvb := (show Hid (rol (g i1 ^^^ vc) (12 - 5 * k) = vb) from hval)
      clear hval
      refine wpAny_take (i := 17) (v := ?vq17) rfl (by kernel_rfl) (by kernel_rfl) (by kernel_rfl) (fun _ _ _ h => h) (Or.inl ⟨by rfl, ?hyq17⟩) ?rq17
      case hyq17 => (intro w; go_simp; try with_reducible rfl)
      (try simp only [Act.put, List.setIfInBounds_toArray, List.set_cons_zero, List.set_cons_succ])
      refine wpAny_ready (rs := [18]) (by kernel_rfl) (by simp) (AllReady.cons rfl (fun K hK => ?_) AllReady.nil)
      go_simp
      refine hK _ _ ?_
      clear hK K
      (try simp only [Act.put, List.setIfInBounds_toArray, List.set_cons_zero, List.set_cons_succ])
      refine wpAny_done (by kernel_rfl) ?_ _
      generalize hw : World.drew _ = we
      have hAe : Arr we b 0 16 (upd (upd (upd (upd (g) i0 va) i3 vd) i2 vc) i1 vb) := by
        have h := HAd.out.set i1 (by omega) vb
        rw [Nat.zero_add] at h
        rw [← hw]; exact h.since (Since.refl _).drew
      have hBe : Cel we w.heap.size 4 (fun j => [Value.int .i64 i0, .int .i64 i1, .int .i64 i2, .int .i64 i3].getD j undef) := by rw [← hw]; exact (HBd.out.other (by simp; omega) _).since (Since.refl _).drew
      have hFe : Fr b w we := by rw [← hw]; exact (HFd.out.set _).drew
      clear hw c1 c2 f1 HAd HBd HFd
      go_wp2_with fail
      have e : upd (upd (upd (upd (g) i0 va) i3 vd) i2 vc) i1 vb = stp g i0 i1 i2 i3 (16 - 8 * k) (12 - 5 * k) := by
        unfold stp half
        rw [← Hvb.out, ← Hvc.out, ← Hvd.out, ← Hva.out]
      refine ⟨⟨k + 1, by omega, by go_num, ?_, hBe, hFe⟩, by simp [intOf]; omega⟩
      rw [HST.out, ← e]
      exact hAe
    · have hke : k = 2 := by omega
      subst hke
      go_wp2_with fail
      go_end0
      exact ⟨rfl, hA, hF⟩
end Sm.Sr
end Go.Proofs.YtjfhggcjdckfgaaDoor
