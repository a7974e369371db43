import Derived.Deep.QuietTactic
import Derived.BigQuiet
import Derived.Deep.RegionWith
import Derived.Deep.RegionHeld3
import Derived.Test.YtlgocfgnfdnloaaGreatDoorJ05
import Derived.Test.YtlgocfgnfdnloaaGreatDoorJ09
set_option linter.unusedSimpArgs false
set_option linter.unusedVariables false
section
namespace Go.Proofs.YtlgocfgnfdnloaaGreatDoor
set_option maxRecDepth 100000
namespace Sm.Sr
open Go.RowKit
attribute [local go_sem ↓] U_add U_mulc U_xor U_and U_or U_shr U_shl U_not U_conv U_byte U_cells U_oneCell
theorem and31 (k : Int) : bits BinOp.and IntKind.u64 (IntKind.u64.wrap k) 31 = k % 32 := by
  have e : IntKind.u64.wrap k = k % 18446744073709551616 := by simp [IntKind.wrap, IntKind.bits, IntKind.signed]
  have h := bits_mask .u64 64 (by decide) (fun n h0 h1 => by simp [IntKind.wrap, IntKind.bits, IntKind.signed]; omega) 5 (by decide) (IntKind.u64.wrap k) (by omega) (by omega)
  have e2 : (2 : Int) ^ 5 - 1 = 31 := by decide
  rw [e2] at h
  rw [h, e]
  omega
set_option maxHeartbeats 400000 in
theorem rol_any (x : BitVec 32) (k : Int) (w : World) :
    Calls Tryz.prog 347 #[U x, .int .i64 k] w fun e w' => e = .returned (U (rol x (k % 32).toNat)) ∧ w' = w := by
  have hb := and31 k
  have h1 : (0 : Int) ≤ k % 32 := by omega
  have h2 : IntKind.u64.wrap (32 - k % 32) = 32 - k % 32 := by
    simp [IntKind.wrap, IntKind.bits, IntKind.signed]; omega
  have h4 : k % 32 ≤ 32 := by omega
  have h3 : (32 - k % 32).toNat = 32 - (k % 32).toNat := by omega
  go_enter Tryz.func347, Tryz.ntmps347
  go_wp2
  go_ret
  exact ⟨rfl, rfl⟩
theorem results_tmp4 {fn : Func} {t u v x : Tmp} (h : fn.results = #[.tmp t, .tmp u, .tmp v, .tmp x]) (tmps : Array Value) (P : Program) (w : World) :
    (results fn tmps).run P w = .ok (.tuple #[tmps.getD t undef, tmps.getD u undef, tmps.getD v undef, tmps.getD x undef]) w := by
  simp [results, h]
set_option maxHeartbeats 400000 in
theorem quarter_any (q : Qu) (w : World) :
    Calls Tryz.prog 342 #[U q.a, U q.b, U q.c, U q.d] w fun e w' => e = .returned (.tuple #[U (quart q).a, U (quart q).b, U (quart q).c, U (quart q).d]) ∧ w' = w := by
  go_enter Tryz.func342, Tryz.ntmps342
  go_wp2_with (go_at_call 347; refine (rol_any _ _ _).mono ?_; rintro e w' ⟨rfl, rfl⟩)
  (try simp only [Exit.inBlock, Exit.then])
  refine bodyPost_ret (results_tmp4 rfl _ _ _) rfl ?_
  exact ⟨rfl, rfl⟩
set_option maxHeartbeats 400000 in
theorem word_any (s : ByteArray) (w : World) (hs : 4 ≤ s.size) :
    Calls Tryz.prog 331 #[.string s] w fun e w' => e = .returned (U (word4 (s[0]'(by omega)) (s[1]'(by omega)) (s[2]'(by omega)) (s[3]'(by omega)))) ∧ ∃ n, w' = w.drewN n := by
  have h0 : 0 < s.size := by omega
  have h1 : 1 < s.size := by omega
  have h2 : 2 < s.size := by omega
  have h3 : 3 < s.size := by omega
  have g0 : (0 : Int) < s.size := by omega
  have g1 : (1 : Int) < s.size := by omega
  have g2 : (2 : Int) < s.size := by omega
  have g3 : (3 : Int) < s.size := by omega
  go_enter Tryz.func331, Tryz.ntmps331
  go_wp2_with fail
  go_quiet (fail)
  go_wp2_with fail
  go_ret
  exact ⟨rfl, _, rfl⟩
end Sm.Sr
end Go.Proofs.YtlgocfgnfdnloaaGreatDoor
end
section
namespace Go.Proofs.YtlgocfgnfdnloaaGreatDoor
set_option maxRecDepth 100000
namespace Sm.Sr
open Go.RowKit
attribute [local go_sem] U_add U_mulc U_xor U_and U_or U_shr U_shl U_not U_conv U_byte U_cells U_match U_oneCell U_store U_store1
theorem isSome_set (w : World) (a b : Addr) (v : Value) (h : (w.cell? b).isSome = true) : ((w.setCell a v).cell? b).isSome = true := by
  obtain ⟨u, hu⟩ := Option.isSome_iff_exists.1 h
  by_cases e : b = a
  · subst e; rw [World.cell?_setCell_same _ _ _ hu]; rfl
  · rw [World.cell?_setCell_other _ _ _ _ (fun h => e h.symm)]; exact h
attribute [local go_sem] isSome_set
def lane (sh j : Nat) : Nat := (j % 4 + (4 - sh) * (j / 4)) % 4
def rndTo (sh : Nat) (f : Nat → BitVec 32) (n : Nat) : Nat → BitVec 32 := fun j => if lane sh j < n then rnd sh f j else f j
def put4 (g : Nat → BitVec 32) (i0 i1 i2 i3 : Nat) (q : Qu) : Nat → BitVec 32 := upd (upd (upd (upd g i0 q.a) i1 q.b) i2 q.c) i3 q.d
theorem _root_.Go.Proofs.YtlgocfgnfdnloaaGreatDoor.Sm.Arr.put4 {w : World} {b : Nat} {g : Nat → BitVec 32} (h : Arr w b 0 16 g) (i0 i1 i2 i3 : Nat) (h0 : i0 < 16) (h1 : i1 < 16) (h2 : i2 < 16) (h3 : i3 < 16) (q : Qu) :
    Arr ((((w.setCell ⟨b, i0, none⟩ (U q.a)).setCell ⟨b, i1, none⟩ (U q.b)).setCell ⟨b, i2, none⟩ (U q.c)).setCell ⟨b, i3, none⟩ (U q.d)) b 0 16 (put4 g i0 i1 i2 i3 q) := by
  have h4 := (((h.set i0 h0 q.a).set i1 h1 q.b).set i2 h2 q.c).set i3 h3 q.d
  simp only [Nat.zero_add] at h4
  exact h4
theorem put_step (sh : Nat) (f : Nat → BitVec 32) (hsh : sh < 2) (k : Nat) (hk : k < 4) (j : Nat) (hj : j < 16) :
    put4 (rndTo sh f k) k (4 + (k + sh) % 4) (8 + (k + 2 * sh) % 4) (12 + (k + 3 * sh) % 4) (quart (four (rndTo sh f k) sh k)) j = rndTo sh f (k + 1) j := by
  have all : ∀ sh, sh < 2 → ∀ k, k < 4 → ∀ j, j < 16 → put4 (rndTo sh f k) k (4 + (k + sh) % 4) (8 + (k + 2 * sh) % 4) (12 + (k + 3 * sh) % 4) (quart (four (rndTo sh f k) sh k)) j = rndTo sh f (k + 1) j := by
    intro sh hsh k hk
    rcases sh with _ | _ | sh
    all_goals first | omega | skip
    all_goals rcases k with _ | _ | _ | _ | k
    all_goals first | omega | skip
    all_goals
      intro j hj
      rcases j with _ | _ | _ | _ | _ | _ | _ | _ | _ | _ | _ | _ | _ | _ | _ | _ | j
      all_goals first | omega | rfl
  exact all sh hsh k hk j hj
theorem rndTo_four (sh : Nat) (f : Nat → BitVec 32) (j : Nat) : rndTo sh f 4 j = rnd sh f j := by
  unfold rndTo lane
  rw [if_pos (by omega)]
set_option maxHeartbeats 4000000 in
set_option maxRecDepth 100000 in
theorem columns_any (f : Nat → BitVec 32) (w : World) :
    Calls Tryz.prog 333 #[.agg (row 16 f).toArray] w fun e w' => e = .returned (.agg (row 16 (rnd 0 f)).toArray) ∧ Since w w' := by
  have er : (row 16 f).toArray = #[U (f 0), U (f 1), U (f 2), U (f 3), U (f 4), U (f 5), U (f 6), U (f 7), U (f 8), U (f 9), U (f 10), U (f 11), U (f 12), U (f 13), U (f 14), U (f 15)] := rfl
  rw [er]
  clear er
  go_enter Tryz.func333, Tryz.ntmps333
  go_wp2_with fail
  go_loopw [4] (fun i wr => ∃ k : Nat, k ≤ 4 ∧ i = .int .i64 k ∧ Arr wr w.heap.size 0 16 (rndTo 0 f k) ∧ Arr wr (w.heap.size + 1) 0 16 (fun _ => 0) ∧ Since w wr) (fun i _ => 4 - (intOf i).toNat)
  case atStart =>
    exact ⟨0, by omega, rfl, (Arr.new w 16 f _ _ (by rfl) _ rfl).alloc _, Arr.new (w.alloc _) 16 _ _ _ (by rfl) _ (by simp), ((Since.refl _).alloc _).alloc _⟩
  case round =>
    obtain ⟨k, hk, rfl, hA, hB, hS⟩ := hrel
    by_cases hlt : k < 4
    · have t1 : ((4 : Int) + k).toNat = 4 + k := by omega
      have t2 : ((8 : Int) + k).toNat = 8 + k := by omega
      have t3 : ((12 : Int) + k).toNat = 12 + k := by omega
      have b0 : (k : Int) < 16 := by omega
      have b1 : (4 : Int) + k < 16 := by omega
      have b2 : (8 : Int) + k < 16 := by omega
      have b3 : (12 : Int) + k < 16 := by omega
      have v1 : IntKind.i64.wrap ((4 : Int) + k) = 4 + k := by simp [IntKind.wrap, IntKind.bits, IntKind.signed]; omega
      have v2 : IntKind.i64.wrap ((8 : Int) + k) = 8 + k := by simp [IntKind.wrap, IntKind.bits, IntKind.signed]; omega
      have v3 : IntKind.i64.wrap ((12 : Int) + k) = 12 + k := by simp [IntKind.wrap, IntKind.bits, IntKind.signed]; omega
      have z1 : (0 : Int) ≤ 4 + k := by omega
      have z2 : (0 : Int) ≤ 8 + k := by omega
      have z3 : (0 : Int) ≤ 12 + k := by omega
      have c0 := hA.cell k (by omega)
      have c1 := hA.cell (4 + k) (by omega)
      have c2 := hA.cell (8 + k) (by omega)
      have c3 := hA.cell (12 + k) (by omega)
      have f0 := hA.frozen k (by omega)
      have f1 := hA.frozen (4 + k) (by omega)
      have f2 := hA.frozen (8 + k) (by omega)
      have f3 := hA.frozen (12 + k) (by omega)
      rw [Nat.zero_add] at c0 c1 c2 c3 f0 f1 f2 f3
      have HA := (show Hid (Arr wr w.heap.size 0 16 (rndTo 0 f k)) from hA)
      have HB := (show Hid (Arr wr (w.heap.size + 1) 0 16 (fun _ => 0)) from hB)
      have HS := (show Hid (Since w wr) from hS)
      have HK := (show Hid (k ≤ 4) from hk)
      have Hst := (show Hid (∀ j, j < 16 → put4 (rndTo 0 f k) k (4 + k) (8 + k) (12 + k) (quart ⟨rndTo 0 f k k, rndTo 0 f k (4 + k), rndTo 0 f k (8 + k), rndTo 0 f k (12 + k)⟩) j = rndTo 0 f (k + 1) j) from fun j hj => by
          have h := put_step 0 f (by omega) k hlt j hj
          unfold four at h
          simp only [Nat.mul_zero, Nat.add_zero, Nat.mod_eq_of_lt hlt] at h
          exact h)
      clear hA hB hS hk
      go_wp2_with fail
      generalize hg : rndTo 0 f k = g at *
      clear hg
      refine wp_region_any (by kernel_rfl) ?_
      refine wpAny_take (i := 0) (v := ?v0) rfl (by kernel_rfl) (by kernel_rfl) (by kernel_rfl) (fun _ _ _ h => h) (Or.inl ⟨by rfl, ?hy0⟩) ?r0
      case hy0 => (intro w; go_simp; try with_reducible rfl)
      simp only [Act.put, List.setIfInBounds_toArray, List.set_cons_zero, List.set_cons_succ]
      refine wpAny_take (i := 1) (v := ?v1) rfl (by kernel_rfl) (by kernel_rfl) (by kernel_rfl) (fun _ _ _ h => h) (Or.inl ⟨by rfl, ?hy1⟩) ?r1
      case hy1 => (intro w; go_simp; try with_reducible rfl)
      simp only [Act.put, List.setIfInBounds_toArray, List.set_cons_zero, List.set_cons_succ]
      refine wpAny_take (i := 2) (v := ?v2) rfl (by kernel_rfl) (by kernel_rfl) (by kernel_rfl) (fun _ _ _ h => h) (Or.inl ⟨by rfl, ?hy2⟩) ?r2
      case hy2 => (intro w; go_simp; try with_reducible rfl)
      simp only [Act.put, List.setIfInBounds_toArray, List.set_cons_zero, List.set_cons_succ]
      refine wpAny_take (i := 3) (v := ?v3) rfl (by kernel_rfl) (by kernel_rfl) (by kernel_rfl) (fun _ _ _ h => h) (Or.inl ⟨by rfl, ?hy3⟩) ?r3
      case hy3 => (intro w; go_simp; try with_reducible rfl)
      simp only [Act.put, List.setIfInBounds_toArray, List.set_cons_zero, List.set_cons_succ]
      refine wpAny_take (i := 4) (v := ?v4) rfl (by kernel_rfl) (by kernel_rfl) (by kernel_rfl) (fun _ _ _ h => h) (Or.inl ⟨by rfl, ?hy4⟩) ?r4
      case hy4 => (intro w; go_simp; try with_reducible rfl)
      simp only [Act.put, List.setIfInBounds_toArray, List.set_cons_zero, List.set_cons_succ]
      refine wpAny_take (i := 5) (v := ?v5) rfl (by kernel_rfl) (by kernel_rfl) (by kernel_rfl) (fun _ _ _ h => h) (Or.inl ⟨by rfl, ?hy5⟩) ?r5
      case hy5 => (intro w; go_simp; try with_reducible rfl)
      simp only [Act.put, List.setIfInBounds_toArray, List.set_cons_zero, List.set_cons_succ]
      refine wpAny_take (i := 6) (v := ?v6) rfl (by kernel_rfl) (by kernel_rfl) (by kernel_rfl) (fun _ _ _ h => h) (Or.inl ⟨by rfl, ?hy6⟩) ?r6
      case hy6 => (intro w; go_simp; try with_reducible rfl)
      simp only [Act.put, List.setIfInBounds_toArray, List.set_cons_zero, List.set_cons_succ]
      refine wpAny_take (i := 7) (v := ?v7) rfl (by kernel_rfl) (by kernel_rfl) (by kernel_rfl) (fun _ _ _ h => h) (Or.inl ⟨by rfl, ?hy7⟩) ?r7
      case hy7 => (intro w; go_simp; try with_reducible rfl)
      simp only [Act.put, List.setIfInBounds_toArray, List.set_cons_zero, List.set_cons_succ]
      refine wpAny_take (i := 8) (v := ?v8) rfl (by kernel_rfl) (by kernel_rfl) (by kernel_rfl) (fun _ _ _ h => h) (Or.inl ⟨by rfl, ?hy8⟩) ?r8
      case hy8 => (intro w; go_simp; try with_reducible rfl)
      simp only [Act.put, List.setIfInBounds_toArray, List.set_cons_zero, List.set_cons_succ]
      refine wpAny_take (i := 10) (v := ?v10) rfl (by kernel_rfl) (by kernel_rfl) (by kernel_rfl) (fun _ _ _ h => h) (Or.inl ⟨by rfl, ?hy10⟩) ?r10
      case hy10 => (intro w; go_simp; try with_reducible rfl)
      simp only [Act.put, List.setIfInBounds_toArray, List.set_cons_zero, List.set_cons_succ]
      refine wpAny_take (i := 11) (v := ?v11) rfl (by kernel_rfl) (by kernel_rfl) (by kernel_rfl) (fun _ _ _ h => h) (Or.inl ⟨by rfl, ?hy11⟩) ?r11
      case hy11 => (intro w; go_simp; try with_reducible rfl)
      simp only [Act.put, List.setIfInBounds_toArray, List.set_cons_zero, List.set_cons_succ]
      refine wpAny_take (i := 12) (v := ?v12) rfl (by kernel_rfl) (by kernel_rfl) (by kernel_rfl) (fun _ _ _ h => h) (Or.inl ⟨by rfl, ?hy12⟩) ?r12
      case hy12 => (intro w; go_simp; try with_reducible rfl)
      simp only [Act.put, List.setIfInBounds_toArray, List.set_cons_zero, List.set_cons_succ]
      refine wpAny_take (i := 14) (v := ?v14) rfl (by kernel_rfl) (by kernel_rfl) (by kernel_rfl) (fun _ _ _ h => h) (Or.inl ⟨by rfl, ?hy14⟩) ?r14
      case hy14 => (intro w; go_simp; try with_reducible rfl)
      simp only [Act.put, List.setIfInBounds_toArray, List.set_cons_zero, List.set_cons_succ]
      refine wpAny_take (i := 15) (v := ?v15) rfl (by kernel_rfl) (by kernel_rfl) (by kernel_rfl) (fun _ _ _ h => h) (Or.inl ⟨by rfl, ?hy15⟩) ?r15
      case hy15 => (intro w; go_simp; try with_reducible rfl)
      simp only [Act.put, List.setIfInBounds_toArray, List.set_cons_zero, List.set_cons_succ]
      refine wpAny_take (i := 16) (v := ?v16) rfl (by kernel_rfl) (by kernel_rfl) (by kernel_rfl) (fun _ _ _ h => h) (Or.inl ⟨by rfl, ?hy16⟩) ?r16
      case hy16 => (intro w; go_simp; try with_reducible rfl)
      simp only [Act.put, List.setIfInBounds_toArray, List.set_cons_zero, List.set_cons_succ]
      refine wpAny_take (i := 18) (v := ?v18) rfl (by kernel_rfl) (by kernel_rfl) (by kernel_rfl) (fun _ _ _ h => h) (Or.inl ⟨by rfl, ?hy18⟩) ?r18
      case hy18 => (intro w; go_simp; try with_reducible rfl)
      simp only [Act.put, List.setIfInBounds_toArray, List.set_cons_zero, List.set_cons_succ]
      refine wpAny_take (i := 19) (v := ?v19) rfl (by kernel_rfl) (by kernel_rfl) (by kernel_rfl) (fun _ _ _ h => h) (Or.inl ⟨by rfl, ?hy19⟩) ?r19
      case hy19 => (intro w; go_simp; try with_reducible rfl)
      simp only [Act.put, List.setIfInBounds_toArray, List.set_cons_zero, List.set_cons_succ]
      refine wpAny_take (i := 20) (v := ?v20) rfl (by kernel_rfl) (by kernel_rfl) (by kernel_rfl) (fun _ _ _ h => h) (Or.inl ⟨by rfl, ?hy20⟩) ?r20
      case hy20 => (intro w; go_simp; try with_reducible rfl)
      simp only [Act.put, List.setIfInBounds_toArray, List.set_cons_zero, List.set_cons_succ]
      have hS4 : (fun w' : World => w'.cell? ⟨w.heap.size, k, none⟩ = some (U (g k)) ∧ w'.cell? ⟨w.heap.size, 4 + k, none⟩ = some (U (g (4 + k))) ∧ w'.cell? ⟨w.heap.size, 8 + k, none⟩ = some (U (g (8 + k))) ∧ w'.cell? ⟨w.heap.size, 12 + k, none⟩ = some (U (g (12 + k)))) wr.drew := by
        refine ⟨?_, ?_, ?_, ?_⟩
        · simpa using c0
        · simpa using c1
        · simpa using c2
        · simpa using c3
      refine wpAny_of_G (S := fun w' : World => w'.cell? ⟨w.heap.size, k, none⟩ = some (U (g k)) ∧ w'.cell? ⟨w.heap.size, 4 + k, none⟩ = some (U (g (4 + k))) ∧ w'.cell? ⟨w.heap.size, 8 + k, none⟩ = some (U (g (8 + k))) ∧ w'.cell? ⟨w.heap.size, 12 + k, none⟩ = some (U (g (12 + k)))) (c := 22) _ _ _ _ ?_
      refine wpAnyG_take (i := 9) (v := ?v9) rfl rfl (by kernel_rfl) (by kernel_rfl) (by kernel_rfl) (by rfl) (by kernel_rfl) (fun _ _ _ h => h) (Or.inl ⟨by rfl, ?hy9⟩) hS4 ?r9
      case hy9 => (intro w hSw; obtain ⟨s0, s1, s2, s3⟩ := hSw; go_simp; try with_reducible rfl)
      simp only [Act.put, List.setIfInBounds_toArray, List.set_cons_zero, List.set_cons_succ]
      refine wpAnyG_take (i := 13) (v := ?v13) rfl rfl (by kernel_rfl) (by kernel_rfl) (by kernel_rfl) (by rfl) (by kernel_rfl) (fun _ _ _ h => h) (Or.inl ⟨by rfl, ?hy13⟩) hS4 ?r13
      case hy13 => (intro w hSw; obtain ⟨s0, s1, s2, s3⟩ := hSw; go_simp; try with_reducible rfl)
      simp only [Act.put, List.setIfInBounds_toArray, List.set_cons_zero, List.set_cons_succ]
      refine wpAnyG_take (i := 17) (v := ?v17) rfl rfl (by kernel_rfl) (by kernel_rfl) (by kernel_rfl) (by rfl) (by kernel_rfl) (fun _ _ _ h => h) (Or.inl ⟨by rfl, ?hy17⟩) hS4 ?r17
      case hy17 => (intro w hSw; obtain ⟨s0, s1, s2, s3⟩ := hSw; go_simp; try with_reducible rfl)
      simp only [Act.put, List.setIfInBounds_toArray, List.set_cons_zero, List.set_cons_succ]
      refine wpAnyG_take (i := 21) (v := ?v21) rfl rfl (by kernel_rfl) (by kernel_rfl) (by kernel_rfl) (by rfl) (by kernel_rfl) (fun _ _ _ h => h) (Or.inl ⟨by rfl, ?hy21⟩) hS4 ?r21
      case hy21 => (intro w hSw; obtain ⟨s0, s1, s2, s3⟩ := hSw; go_simp; try with_reducible rfl)
      simp only [Act.put, List.setIfInBounds_toArray, List.set_cons_zero, List.set_cons_succ]
      refine wpAnyG_leave (by kernel_rfl) ?_
      clear hS4
      refine wpAny_ready (rs := [22]) (by kernel_rfl) (by simp) (AllReady.cons rfl (fun K hK => ?_) AllReady.nil)
      go_simp
      refine (quarter_any ⟨g k, g (4 + k), g (8 + k), g (12 + k)⟩ _).mono ?_
      rintro e w' ⟨rfl, rfl⟩
      simp only []
      refine hK _ _ ?_
      clear hK K
      (try simp only [Act.put, List.setIfInBounds_toArray, List.set_cons_zero, List.set_cons_succ])
      generalize hq : quart _ = q
      have Hq := (show Hid (quart ⟨g k, g (4 + k), g (8 + k), g (12 + k)⟩ = q) from hq)
      clear hq
      refine wpAny_take (i := 23) (v := ?v23) rfl (by kernel_rfl) (by kernel_rfl) (by kernel_rfl) (fun _ _ _ h => h) (Or.inl ⟨by rfl, ?hy23⟩) ?r23
      case hy23 => (intro w; go_simp; try with_reducible rfl)
      simp only [Act.put, List.setIfInBounds_toArray, List.set_cons_zero, List.set_cons_succ]
      refine wpAny_take (i := 24) (v := ?v24) rfl (by kernel_rfl) (by kernel_rfl) (by kernel_rfl) (fun _ _ _ h => h) (Or.inl ⟨by rfl, ?hy24⟩) ?r24
      case hy24 => (intro w; go_simp; try with_reducible rfl)
      simp only [Act.put, List.setIfInBounds_toArray, List.set_cons_zero, List.set_cons_succ]
      refine wpAny_take (i := 25) (v := ?v25) rfl (by kernel_rfl) (by kernel_rfl) (by kernel_rfl) (fun _ _ _ h => h) (Or.inl ⟨by rfl, ?hy25⟩) ?r25
      case hy25 => (intro w; go_simp; try with_reducible rfl)
      simp only [Act.put, List.setIfInBounds_toArray, List.set_cons_zero, List.set_cons_succ]
      refine wpAny_take (i := 26) (v := ?v26) rfl (by kernel_rfl) (by kernel_rfl) (by kernel_rfl) (fun _ _ _ h => h) (Or.inl ⟨by rfl, ?hy26⟩) ?r26
      case hy26 => (intro w; go_simp; try with_reducible rfl)
      simp only [Act.put, List.setIfInBounds_toArray, List.set_cons_zero, List.set_cons_succ]
      refine wpAny_take (i := 27) (v := ?v27) rfl (by kernel_rfl) (by kernel_rfl) (by kernel_rfl) (fun _ _ _ h => h) (Or.inl ⟨by rfl, ?hy27⟩) ?r27
      case hy27 => (intro w; go_simp; try with_reducible rfl)
      simp only [Act.put, List.setIfInBounds_toArray, List.set_cons_zero, List.set_cons_succ]
      refine wpAny_take (i := 28) (v := ?v28) rfl (by kernel_rfl) (by kernel_rfl) (by kernel_rfl) (fun _ _ _ h => h) (Or.inl ⟨by rfl, ?hy28⟩) ?r28
      case hy28 => (intro w; go_simp; try with_reducible rfl)
      simp only [Act.put, List.setIfInBounds_toArray, List.set_cons_zero, List.set_cons_succ]
      refine wpAny_ready (rs := [29]) (by kernel_rfl) (by simp) (AllReady.cons rfl (fun K hK => ?_) AllReady.nil)
      go_simp
      refine hK _ _ ?_
      clear hK K
      (try simp only [Act.put, List.setIfInBounds_toArray, List.set_cons_zero, List.set_cons_succ])
      refine wpAny_take (i := 30) (v := ?v30) rfl (by kernel_rfl) (by kernel_rfl) (by kernel_rfl) (fun _ _ _ h => h) (Or.inl ⟨by rfl, ?hy30⟩) ?r30
      case hy30 => (intro w; go_simp; try with_reducible rfl)
      simp only [Act.put, List.setIfInBounds_toArray, List.set_cons_zero, List.set_cons_succ]
      refine wpAny_ready (rs := [31]) (by kernel_rfl) (by simp) (AllReady.cons rfl (fun K hK => ?_) AllReady.nil)
      go_simp
      refine hK _ _ ?_
      clear hK K
      (try simp only [Act.put, List.setIfInBounds_toArray, List.set_cons_zero, List.set_cons_succ])
      refine wpAny_take (i := 32) (v := ?v32) rfl (by kernel_rfl) (by kernel_rfl) (by kernel_rfl) (fun _ _ _ h => h) (Or.inl ⟨by rfl, ?hy32⟩) ?r32
      case hy32 => (intro w; go_simp; try with_reducible rfl)
      simp only [Act.put, List.setIfInBounds_toArray, List.set_cons_zero, List.set_cons_succ]
      refine wpAny_ready (rs := [33]) (by kernel_rfl) (by simp) (AllReady.cons rfl (fun K hK => ?_) AllReady.nil)
      go_simp
      refine hK _ _ ?_
      clear hK K
      (try simp only [Act.put, List.setIfInBounds_toArray, List.set_cons_zero, List.set_cons_succ])
      refine wpAny_take (i := 34) (v := ?v34) rfl (by kernel_rfl) (by kernel_rfl) (by kernel_rfl) (fun _ _ _ h => h) (Or.inl ⟨by rfl, ?hy34⟩) ?r34
      case hy34 => (intro w; go_simp; try with_reducible rfl)
      simp only [Act.put, List.setIfInBounds_toArray, List.set_cons_zero, List.set_cons_succ]
      refine wpAny_ready (rs := [35]) (by kernel_rfl) (by simp) (AllReady.cons rfl (fun K hK => ?_) AllReady.nil)
      go_simp
      refine hK _ _ ?_
      clear hK K
      (try simp only [Act.put, List.setIfInBounds_toArray, List.set_cons_zero, List.set_cons_succ])
      refine wpAny_done (by kernel_rfl) ?_ _
      go_wp2_with fail
      go_roundw
      case rel =>
        have h4 := HA.out.put4 k (4 + k) (8 + k) (12 + k) (by omega) (by omega) (by omega) (by omega) q
        have e4 : Arr _ w.heap.size 0 16 (rndTo 0 f (k + 1)) := h4.congr (fun j hj => by rw [← Hst.out j hj, ← Hq.out])
        exact ⟨k + 1, by omega, by go_num, e4.since (Since.refl _).drew, ((((HB.out.other (by simp) _).other (by simp) _).other (by simp) _).other (by simp) _).since (Since.refl _).drew, ((((HS.out.setCell (Nat.le_refl _) _).setCell (Nat.le_refl _) _).setCell (Nat.le_refl _) _).setCell (Nat.le_refl _) _).drew⟩
      case measure => simp [intOf]; omega
    · have hke : k = 4 := by omega
      subst hke
      have hA3 : Arr wr w.heap.size 0 16 (rnd 0 f) := hA.congr (fun j hj => rndTo_four 0 f j)
      have hRg := hA3.range
      have hst := hB.store Tryz.prog (rnd 0 f)
      have hL : (row 16 (rnd 0 f)).length = 16 := row_length _ _
      clear hA
      go_wp2_with (refine wpList_load_mid (by rfl) 391 _ (by rfl) w.heap.size 0 (by rfl) _ _ hRg Tryz.underlying391 (by rfl) (by rw [row_length]; kernel_rfl) ?_)
      exact bodyPost_ret (results_row Tryz.results333 _ _ _ (w.heap.size + 1) _ _ (by rfl) (hB.setRow (rnd 0 f)).range Tryz.underlying391 (by rfl) (by rw [row_length]; kernel_rfl)) rfl ⟨rfl, hS.setCells (by omega) _ _⟩
set_option maxHeartbeats 4000000 in
set_option maxRecDepth 100000 in
theorem diagonals_any (f : Nat → BitVec 32) (w : World) :
    Calls Tryz.prog 332 #[.agg (row 16 f).toArray] w fun e w' => e = .returned (.agg (row 16 (rnd 1 f)).toArray) ∧ Since w w' := by
  have er : (row 16 f).toArray = #[U (f 0), U (f 1), U (f 2), U (f 3), U (f 4), U (f 5), U (f 6), U (f 7), U (f 8), U (f 9), U (f 10), U (f 11), U (f 12), U (f 13), U (f 14), U (f 15)] := rfl
  rw [er]
  clear er
  go_enter Tryz.func332, Tryz.ntmps332
  go_wp2_with fail
  go_loopw [7] (fun i wr => ∃ k : Nat, k ≤ 4 ∧ i = .int .i64 k ∧ Arr wr w.heap.size 0 16 (rndTo 1 f k) ∧ Arr wr (w.heap.size + 1) 0 16 (fun _ => 0) ∧ Since w wr) (fun i _ => 4 - (intOf i).toNat)
  case atStart =>
    exact ⟨0, by omega, rfl, (Arr.new w 16 f _ _ (by rfl) _ rfl).alloc _, Arr.new (w.alloc _) 16 _ _ _ (by rfl) _ (by simp), ((Since.refl _).alloc _).alloc _⟩
  case round =>
    obtain ⟨k, hk, rfl, hA, hB, hS⟩ := hrel
    by_cases hlt : k < 4
    · obtain ⟨p1, hp1⟩ : ∃ p1, p1 = (k + 1) % 4 := ⟨_, rfl⟩
      obtain ⟨p2, hp2⟩ : ∃ p2, p2 = (k + 2) % 4 := ⟨_, rfl⟩
      obtain ⟨p3, hp3⟩ : ∃ p3, p3 = (k + 3) % 4 := ⟨_, rfl⟩
      have x1 : ((k : Int) + 1) % 4 = p1 := by omega
      have x2 : ((k : Int) + 2) % 4 = p2 := by omega
      have x3 : ((k : Int) + 3) % 4 = p3 := by omega
      have l1 : p1 < 4 := by omega
      have l2 : p2 < 4 := by omega
      have l3 : p3 < 4 := by omega
      have HP := (show Hid (p1 = (k + 1) % 4 ∧ p2 = (k + 2) % 4 ∧ p3 = (k + 3) % 4) from ⟨hp1, hp2, hp3⟩)
      have t1 : ((4 : Int) + p1).toNat = 4 + p1 := by omega
      have t2 : ((8 : Int) + p2).toNat = 8 + p2 := by omega
      have t3 : ((12 : Int) + p3).toNat = 12 + p3 := by omega
      have b0 : (k : Int) < 16 := by omega
      have b1 : (4 : Int) + p1 < 16 := by omega
      have b2 : (8 : Int) + p2 < 16 := by omega
      have b3 : (12 : Int) + p3 < 16 := by omega
      have v1 : IntKind.i64.wrap ((4 : Int) + p1) = 4 + p1 := by simp [IntKind.wrap, IntKind.bits, IntKind.signed]; omega
      have v2 : IntKind.i64.wrap ((8 : Int) + p2) = 8 + p2 := by simp [IntKind.wrap, IntKind.bits, IntKind.signed]; omega
      have v3 : IntKind.i64.wrap ((12 : Int) + p3) = 12 + p3 := by simp [IntKind.wrap, IntKind.bits, IntKind.signed]; omega
      have z1 : (0 : Int) ≤ 4 + p1 := by omega
      have z2 : (0 : Int) ≤ 8 + p2 := by omega
      have z3 : (0 : Int) ≤ 12 + p3 := by omega
      have c0 := hA.cell k (by omega)
      have c1 := hA.cell (4 + p1) (by omega)
      have c2 := hA.cell (8 + p2) (by omega)
      have c3 := hA.cell (12 + p3) (by omega)
      have f0 := hA.frozen k (by omega)
      have f1 := hA.frozen (4 + p1) (by omega)
      have f2 := hA.frozen (8 + p2) (by omega)
      have f3 := hA.frozen (12 + p3) (by omega)
      rw [Nat.zero_add] at c0 c1 c2 c3 f0 f1 f2 f3
      have HA := (show Hid (Arr wr w.heap.size 0 16 (rndTo 1 f k)) from hA)
      have HB := (show Hid (Arr wr (w.heap.size + 1) 0 16 (fun _ => 0)) from hB)
      have HS := (show Hid (Since w wr) from hS)
      have HK := (show Hid (k ≤ 4) from hk)
      have Hst := (show Hid (∀ j, j < 16 → put4 (rndTo 1 f k) k (4 + p1) (8 + p2) (12 + p3) (quart ⟨rndTo 1 f k k, rndTo 1 f k (4 + p1), rndTo 1 f k (8 + p2), rndTo 1 f k (12 + p3)⟩) j = rndTo 1 f (k + 1) j) from fun j hj => by
          have h := put_step 1 f (by omega) k hlt j hj
          unfold four at h
          rw [show (k + 1) % 4 = p1 by omega, show (k + 2 * 1) % 4 = p2 by omega, show (k + 3 * 1) % 4 = p3 by omega] at h
          exact h)
      clear hA hB hS hk hp1 hp2 hp3
      go_wp2_with fail
      generalize hg : rndTo 1 f k = g at *
      clear hg
      refine wp_region_any (by kernel_rfl) ?_
      refine wpAny_take (i := 0) (v := ?v0) rfl (by kernel_rfl) (by kernel_rfl) (by kernel_rfl) (fun _ _ _ h => h) (Or.inl ⟨by rfl, ?hy0⟩) ?r0
      case hy0 => (intro w; go_simp; try with_reducible rfl)
      simp only [Act.put, List.setIfInBounds_toArray, List.set_cons_zero, List.set_cons_succ]
      refine wpAny_take (i := 1) (v := ?v1) rfl (by kernel_rfl) (by kernel_rfl) (by kernel_rfl) (fun _ _ _ h => h) (Or.inl ⟨by rfl, ?hy1⟩) ?r1
      case hy1 => (intro w; go_simp; try with_reducible rfl)
      simp only [Act.put, List.setIfInBounds_toArray, List.set_cons_zero, List.set_cons_succ]
      refine wpAny_take (i := 2) (v := ?v2) rfl (by kernel_rfl) (by kernel_rfl) (by kernel_rfl) (fun _ _ _ h => h) (Or.inl ⟨by rfl, ?hy2⟩) ?r2
      case hy2 => (intro w; go_simp; try with_reducible rfl)
      simp only [Act.put, List.setIfInBounds_toArray, List.set_cons_zero, List.set_cons_succ]
      refine wpAny_take (i := 3) (v := ?v3) rfl (by kernel_rfl) (by kernel_rfl) (by kernel_rfl) (fun _ _ _ h => h) (Or.inl ⟨by rfl, ?hy3⟩) ?r3
      case hy3 => (intro w; go_simp; try with_reducible rfl)
      simp only [Act.put, List.setIfInBounds_toArray, List.set_cons_zero, List.set_cons_succ]
      refine wpAny_take (i := 4) (v := ?v4) rfl (by kernel_rfl) (by kernel_rfl) (by kernel_rfl) (fun _ _ _ h => h) (Or.inl ⟨by rfl, ?hy4⟩) ?r4
      case hy4 => (intro w; go_simp; try with_reducible rfl)
      simp only [Act.put, List.setIfInBounds_toArray, List.set_cons_zero, List.set_cons_succ]
      refine wpAny_take (i := 5) (v := ?v5) rfl (by kernel_rfl) (by kernel_rfl) (by kernel_rfl) (fun _ _ _ h => h) (Or.inl ⟨by rfl, ?hy5⟩) ?r5
      case hy5 => (intro w; go_simp; try with_reducible rfl)
      simp only [Act.put, List.setIfInBounds_toArray, List.set_cons_zero, List.set_cons_succ]
      refine wpAny_take (i := 7) (v := ?v7) rfl (by kernel_rfl) (by kernel_rfl) (by kernel_rfl) (fun _ _ _ h => h) (Or.inl ⟨by rfl, ?hy7⟩) ?r7
      case hy7 => (intro w; go_simp; try with_reducible rfl)
      simp only [Act.put, List.setIfInBounds_toArray, List.set_cons_zero, List.set_cons_succ]
      refine wpAny_take (i := 8) (v := ?v8) rfl (by kernel_rfl) (by kernel_rfl) (by kernel_rfl) (fun _ _ _ h => h) (Or.inl ⟨by rfl, ?hy8⟩) ?r8
      case hy8 => (intro w; go_simp; try with_reducible rfl)
      simp only [Act.put, List.setIfInBounds_toArray, List.set_cons_zero, List.set_cons_succ]
      refine wpAny_take (i := 10) (v := ?v10) rfl (by kernel_rfl) (by kernel_rfl) (by kernel_rfl) (fun _ _ _ h => h) (Or.inl ⟨by rfl, ?hy10⟩) ?r10
      case hy10 => (intro w; go_simp; try with_reducible rfl)
      simp only [Act.put, List.setIfInBounds_toArray, List.set_cons_zero, List.set_cons_succ]
      refine wpAny_take (i := 11) (v := ?v11) rfl (by kernel_rfl) (by kernel_rfl) (by kernel_rfl) (fun _ _ _ h => h) (Or.inl ⟨by rfl, ?hy11⟩) ?r11
      case hy11 => (intro w; go_simp; try with_reducible rfl)
      simp only [Act.put, List.setIfInBounds_toArray, List.set_cons_zero, List.set_cons_succ]
      refine wpAny_take (i := 13) (v := ?v13) rfl (by kernel_rfl) (by kernel_rfl) (by kernel_rfl) (fun _ _ _ h => h) (Or.inl ⟨by rfl, ?hy13⟩) ?r13
      case hy13 => (intro w; go_simp; try with_reducible rfl)
      simp only [Act.put, List.setIfInBounds_toArray, List.set_cons_zero, List.set_cons_succ]
      refine wpAny_take (i := 14) (v := ?v14) rfl (by kernel_rfl) (by kernel_rfl) (by kernel_rfl) (fun _ _ _ h => h) (Or.inl ⟨by rfl, ?hy14⟩) ?r14
      case hy14 => (intro w; go_simp; try with_reducible rfl)
      simp only [Act.put, List.setIfInBounds_toArray, List.set_cons_zero, List.set_cons_succ]
      have hS4 : (fun w' : World => w'.cell? ⟨w.heap.size, k, none⟩ = some (U (g k)) ∧ w'.cell? ⟨w.heap.size, 4 + p1, none⟩ = some (U (g (4 + p1))) ∧ w'.cell? ⟨w.heap.size, 8 + p2, none⟩ = some (U (g (8 + p2))) ∧ w'.cell? ⟨w.heap.size, 12 + p3, none⟩ = some (U (g (12 + p3)))) wr.drew := by
        refine ⟨?_, ?_, ?_, ?_⟩
        · simpa using c0
        · simpa using c1
        · simpa using c2
        · simpa using c3
      refine wpAny_of_G (S := fun w' : World => w'.cell? ⟨w.heap.size, k, none⟩ = some (U (g k)) ∧ w'.cell? ⟨w.heap.size, 4 + p1, none⟩ = some (U (g (4 + p1))) ∧ w'.cell? ⟨w.heap.size, 8 + p2, none⟩ = some (U (g (8 + p2))) ∧ w'.cell? ⟨w.heap.size, 12 + p3, none⟩ = some (U (g (12 + p3)))) (c := 16) _ _ _ _ ?_
      refine wpAnyG_take (i := 6) (v := ?v6) rfl rfl (by kernel_rfl) (by kernel_rfl) (by kernel_rfl) (by rfl) (by kernel_rfl) (fun _ _ _ h => h) (Or.inl ⟨by rfl, ?hy6⟩) hS4 ?r6
      case hy6 => (intro w hSw; obtain ⟨s0, s1, s2, s3⟩ := hSw; go_simp; try with_reducible rfl)
      simp only [Act.put, List.setIfInBounds_toArray, List.set_cons_zero, List.set_cons_succ]
      refine wpAnyG_take (i := 9) (v := ?v9) rfl rfl (by kernel_rfl) (by kernel_rfl) (by kernel_rfl) (by rfl) (by kernel_rfl) (fun _ _ _ h => h) (Or.inl ⟨by rfl, ?hy9⟩) hS4 ?r9
      case hy9 => (intro w hSw; obtain ⟨s0, s1, s2, s3⟩ := hSw; go_simp; try with_reducible rfl)
      simp only [Act.put, List.setIfInBounds_toArray, List.set_cons_zero, List.set_cons_succ]
      refine wpAnyG_take (i := 12) (v := ?v12) rfl rfl (by kernel_rfl) (by kernel_rfl) (by kernel_rfl) (by rfl) (by kernel_rfl) (fun _ _ _ h => h) (Or.inl ⟨by rfl, ?hy12⟩) hS4 ?r12
      case hy12 => (intro w hSw; obtain ⟨s0, s1, s2, s3⟩ := hSw; go_simp; try with_reducible rfl)
      simp only [Act.put, List.setIfInBounds_toArray, List.set_cons_zero, List.set_cons_succ]
      refine wpAnyG_take (i := 15) (v := ?v15) rfl rfl (by kernel_rfl) (by kernel_rfl) (by kernel_rfl) (by rfl) (by kernel_rfl) (fun _ _ _ h => h) (Or.inl ⟨by rfl, ?hy15⟩) hS4 ?r15
      case hy15 => (intro w hSw; obtain ⟨s0, s1, s2, s3⟩ := hSw; go_simp; try with_reducible rfl)
      simp only [Act.put, List.setIfInBounds_toArray, List.set_cons_zero, List.set_cons_succ]
      refine wpAnyG_leave (by kernel_rfl) ?_
      clear hS4
      refine wpAny_ready (rs := [16]) (by kernel_rfl) (by simp) (AllReady.cons rfl (fun K hK => ?_) AllReady.nil)
      go_simp
      refine (quarter_any ⟨g k, g (4 + p1), g (8 + p2), g (12 + p3)⟩ _).mono ?_
      rintro e w' ⟨rfl, rfl⟩
      simp only []
      refine hK _ _ ?_
      clear hK K
      (try simp only [Act.put, List.setIfInBounds_toArray, List.set_cons_zero, List.set_cons_succ])
      generalize hq : quart _ = q
      have Hq := (show Hid (quart ⟨g k, g (4 + p1), g (8 + p2), g (12 + p3)⟩ = q) from hq)
      clear hq
      refine wpAny_take (i := 17) (v := ?v17) rfl (by kernel_rfl) (by kernel_rfl) (by kernel_rfl) (fun _ _ _ h => h) (Or.inl ⟨by rfl, ?hy17⟩) ?r17
      case hy17 => (intro w; go_simp; try with_reducible rfl)
      simp only [Act.put, List.setIfInBounds_toArray, List.set_cons_zero, List.set_cons_succ]
      refine wpAny_take (i := 18) (v := ?v18) rfl (by kernel_rfl) (by kernel_rfl) (by kernel_rfl) (fun _ _ _ h => h) (Or.inl ⟨by rfl, ?hy18⟩) ?r18
      case hy18 => (intro w; go_simp; try with_reducible rfl)
      simp only [Act.put, List.setIfInBounds_toArray, List.set_cons_zero, List.set_cons_succ]
      refine wpAny_take (i := 19) (v := ?v19) rfl (by kernel_rfl) (by kernel_rfl) (by kernel_rfl) (fun _ _ _ h => h) (Or.inl ⟨by rfl, ?hy19⟩) ?r19
      case hy19 => (intro w; go_simp; try with_reducible rfl)
      simp only [Act.put, List.setIfInBounds_toArray, List.set_cons_zero, List.set_cons_succ]
      refine wpAny_take (i := 20) (v := ?v20) rfl (by kernel_rfl) (by kernel_rfl) (by kernel_rfl) (fun _ _ _ h => h) (Or.inl ⟨by rfl, ?hy20⟩) ?r20
      case hy20 => (intro w; go_simp; try with_reducible rfl)
      simp only [Act.put, List.setIfInBounds_toArray, List.set_cons_zero, List.set_cons_succ]
      refine wpAny_take (i := 21) (v := ?v21) rfl (by kernel_rfl) (by kernel_rfl) (by kernel_rfl) (fun _ _ _ h => h) (Or.inl ⟨by rfl, ?hy21⟩) ?r21
      case hy21 => (intro w; go_simp; try with_reducible rfl)
      simp only [Act.put, List.setIfInBounds_toArray, List.set_cons_zero, List.set_cons_succ]
      refine wpAny_take (i := 22) (v := ?v22) rfl (by kernel_rfl) (by kernel_rfl) (by kernel_rfl) (fun _ _ _ h => h) (Or.inl ⟨by rfl, ?hy22⟩) ?r22
      case hy22 => (intro w; go_simp; try with_reducible rfl)
      simp only [Act.put, List.setIfInBounds_toArray, List.set_cons_zero, List.set_cons_succ]
      refine wpAny_ready (rs := [23]) (by kernel_rfl) (by simp) (AllReady.cons rfl (fun K hK => ?_) AllReady.nil)
      go_simp
      refine hK _ _ ?_
      clear hK K
      (try simp only [Act.put, List.setIfInBounds_toArray, List.set_cons_zero, List.set_cons_succ])
      refine wpAny_take (i := 24) (v := ?v24) rfl (by kernel_rfl) (by kernel_rfl) (by kernel_rfl) (fun _ _ _ h => h) (Or.inl ⟨by rfl, ?hy24⟩) ?r24
      case hy24 => (intro w; go_simp; try with_reducible rfl)
      simp only [Act.put, List.setIfInBounds_toArray, List.set_cons_zero, List.set_cons_succ]
      refine wpAny_ready (rs := [25]) (by kernel_rfl) (by simp) (AllReady.cons rfl (fun K hK => ?_) AllReady.nil)
      go_simp
      refine hK _ _ ?_
      clear hK K
      (try simp only [Act.put, List.setIfInBounds_toArray, List.set_cons_zero, List.set_cons_succ])
      refine wpAny_take (i := 26) (v := ?v26) rfl (by kernel_rfl) (by kernel_rfl) (by kernel_rfl) (fun _ _ _ h => h) (Or.inl ⟨by rfl, ?hy26⟩) ?r26
      case hy26 => (intro w; go_simp; try with_reducible rfl)
      simp only [Act.put, List.setIfInBounds_toArray, List.set_cons_zero, List.set_cons_succ]
      refine wpAny_ready (rs := [27]) (by kernel_rfl) (by simp) (AllReady.cons rfl (fun K hK => ?_) AllReady.nil)
      go_simp
      refine hK _ _ ?_
      clear hK K
      (try simp only [Act.put, List.setIfInBounds_toArray, List.set_cons_zero, List.set_cons_succ])
      refine wpAny_take (i := 28) (v := ?v28) rfl (by kernel_rfl) (by kernel_rfl) (by kernel_rfl) (fun _ _ _ h => h) (Or.inl ⟨by rfl, ?hy28⟩) ?r28
      case hy28 => (intro w; go_simp; try with_reducible rfl)
      simp only [Act.put, List.setIfInBounds_toArray, List.set_cons_zero, List.set_cons_succ]
      refine wpAny_ready (rs := [29]) (by kernel_rfl) (by simp) (AllReady.cons rfl (fun K hK => ?_) AllReady.nil)
      go_simp
      refine hK _ _ ?_
      clear hK K
      (try simp only [Act.put, List.setIfInBounds_toArray, List.set_cons_zero, List.set_cons_succ])
      refine wpAny_done (by kernel_rfl) ?_ _
      go_wp2_with fail
      go_roundw
      case rel =>
        have h4 := HA.out.put4 k (4 + p1) (8 + p2) (12 + p3) (by omega) (by omega) (by omega) (by omega) q
        have e4 : Arr _ w.heap.size 0 16 (rndTo 1 f (k + 1)) := h4.congr (fun j hj => by rw [← Hst.out j hj, ← Hq.out])
        exact ⟨k + 1, by omega, by go_num, e4.since (Since.refl _).drew, ((((HB.out.other (by simp) _).other (by simp) _).other (by simp) _).other (by simp) _).since (Since.refl _).drew, ((((HS.out.setCell (Nat.le_refl _) _).setCell (Nat.le_refl _) _).setCell (Nat.le_refl _) _).setCell (Nat.le_refl _) _).drew⟩
      case measure => simp [intOf]; omega
    · have hke : k = 4 := by omega
      subst hke
      have hA3 : Arr wr w.heap.size 0 16 (rnd 1 f) := hA.congr (fun j hj => rndTo_four 1 f j)
      have hRg := hA3.range
      have hst := hB.store Tryz.prog (rnd 1 f)
      have hL : (row 16 (rnd 1 f)).length = 16 := row_length _ _
      clear hA
      go_wp2_with (refine wpList_load_mid (by rfl) 391 _ (by rfl) w.heap.size 0 (by rfl) _ _ hRg Tryz.underlying391 (by rfl) (by rw [row_length]; kernel_rfl) ?_)
      exact bodyPost_ret (results_row Tryz.results332 _ _ _ (w.heap.size + 1) _ _ (by rfl) (hB.setRow (rnd 1 f)).range Tryz.underlying391 (by rfl) (by rw [row_length]; kernel_rfl)) rfl ⟨rfl, hS.setCells (by omega) _ _⟩
end Sm.Sr
end Go.Proofs.YtlgocfgnfdnloaaGreatDoor
end
section
namespace Go.Proofs.YtlgocfgnfdnloaaGreatDoor
set_option maxRecDepth 100000
namespace Sm.Sr
open Go.RowKit
attribute [local go_sem] U_add U_mulc U_xor U_and U_or U_shr U_shl U_not U_conv U_byte U_cells U_match U_oneCell U_store U_store1
def bval (f : Nat → Int) : Nat → Value := fun j => .int .u8 (f j)
def byteTo (f : Nat → BitVec 32) (k : Nat) : Nat → Int := fun j => if j < k then byteOf f j else 0
theorem byte_step (f : Nat → BitVec 32) (k j : Nat) : updv (bval (byteTo f k)) k (.int .u8 (byteOf f k)) j = bval (byteTo f (k + 1)) j := by
  unfold updv bval byteTo
  by_cases e : j = k
  · subst e; rw [if_pos rfl, if_pos (by omega)]
  · rw [if_neg e]
    by_cases h : j < k
    · rw [if_pos h, if_pos (by omega)]
    · rw [if_neg h, if_neg (by omega)]
def brow (n : Nat) (g : Nat → Value) : List Value := (List.range n).map g
theorem brow_length (n : Nat) (g : Nat → Value) : (brow n g).length = n := by simp [brow]
theorem brow_get (n : Nat) (g : Nat → Value) (j : Nat) (hj : j < n) : (brow n g)[j]? = some (g j) := by simp [brow, hj]
theorem _root_.Go.Proofs.YtlgocfgnfdnloaaGreatDoor.Sm.Cel.range {w : World} {b n : Nat} {g : Nat → Value} (h : Cel w b n g) : w.rangeAt b 0 (brow n g) := fun j v hv => by
  have hj : j < n := by have := (List.getElem?_eq_some_iff.1 hv).1; rwa [brow_length] at this
  rw [brow_get n g j hj] at hv
  rw [Nat.zero_add, h.cell j hj, hv]
theorem _root_.Go.Proofs.YtlgocfgnfdnloaaGreatDoor.Sm.Cel.there {w : World} {b n : Nat} {g : Nat → Value} (h : Cel w b n g) : w.there b 0 n := fun j hj => by
  rw [Nat.zero_add]; exact ⟨by rw [h.cell j hj]; rfl, h.frozen j hj⟩
theorem _root_.Go.Proofs.YtlgocfgnfdnloaaGreatDoor.Sm.Cel.setRow {w : World} {b n : Nat} {g : Nat → Value} (h : Cel w b n g) (g' : Nat → Value) : Cel (w.setCells b 0 (brow n g')) b n g' where
  cell j hj := by
    have := World.rangeAt_setCells_same w b 0 (brow n g') (by rw [brow_length]; exact h.there) j (g' j) (brow_get n g' j hj)
    rwa [Nat.zero_add] at this
  frozen j hj := by
    have := (World.there_setCells h.there b 0 (brow n g') j hj).2
    rwa [Nat.zero_add] at this
theorem _root_.Go.Proofs.YtlgocfgnfdnloaaGreatDoor.Sm.Cel.setRow_other {w : World} {b n : Nat} {g : Nat → Value} (h : Cel w b n g) {b' o' : Nat} (vs : List Value) (hb : b ≠ b') : Cel (w.setCells b' o' vs) b n g where
  cell j hj := by
    have := World.rangeAt_setCells_apart h.range b' o' vs (Or.inl hb) j _ (brow_get n g j hj)
    rwa [Nat.zero_add] at this
  frozen j hj := by
    have := (World.there_setCells h.there b' o' vs j hj).2
    rwa [Nat.zero_add] at this
theorem brow_one (n : Nat) (f : Nat → Int) : ∀ v ∈ brow n (bval f), v.oneCell' = true := by
  intro v hv
  simp only [brow, List.mem_map] at hv
  obtain ⟨i, _, rfl⟩ := hv
  rfl
theorem _root_.Go.Proofs.YtlgocfgnfdnloaaGreatDoor.Sm.Cel.store {w : World} {b n : Nat} {g : Nat → Value} (h : Cel w b n g) (P : Program) (f : Nat → Int) : (storeCells ⟨b, 0, none⟩ (brow n (bval f))).run P w = .ok () (w.setCells b 0 (brow n (bval f))) := by
  have := run_storeCells_cells (P := P) b 0 (brow n (bval f)) 0 w (fun j hj => by rw [brow_length] at hj; simpa using (h.there j hj).1) (fun j hj => by rw [brow_length] at hj; simpa using (h.there j hj).2) (brow_one n f)
  simpa using this
theorem zeros64 (j : Nat) (hj : j < 64) : (List.replicate 64 (Value.int .u8 0)).toArray[j]? = some (bval (fun _ => 0) j) := by
  rw [List.getElem?_toArray, List.getElem?_replicate, if_pos hj]; rfl
theorem _root_.Go.Proofs.YtlgocfgnfdnloaaGreatDoor.Sm.Cel.zeros (w : World) (t : TypeId) (cs : Array Value) (e : cs = (List.replicate 64 (Value.int .u8 0)).toArray) (k : Nat) (hk : k = w.heap.size) : Cel (w.alloc (.cells cs t)) k 64 (bval (fun _ => 0)) :=
  Cel.new w 64 _ t cs (fun j hj => by rw [e]; exact zeros64 j hj) k hk
set_option maxHeartbeats 1000000 in
set_option maxRecDepth 100000 in
theorem written_any (f : Nat → BitVec 32) (w : World) :
    Calls Tryz.prog 312 #[.agg (row 16 f).toArray] w fun e w' => e = .returned (.agg (brow 64 (bval (byteOf f))).toArray) ∧ Since w w' := by
  have hL : (row 16 f).length = 16 := row_length _ _
  go_enter Tryz.func312, Tryz.ntmps312
  go_wp2_with fail
  go_loopw [5] (fun i wr => ∃ k : Nat, k ≤ 64 ∧ i = .int .i64 k ∧ Arr wr w.heap.size 0 16 f ∧ Cel wr (w.heap.size + 1) 64 (bval (fun _ => 0)) ∧ Cel wr (w.heap.size + 2) 64 (bval (byteTo f k)) ∧ Since w wr) (fun i _ => 64 - (intOf i).toNat)
  case atStart =>
    refine ⟨0, by omega, rfl, ((Arr.new w 16 f _ _ (by rfl) _ rfl).alloc _).alloc _, ?_, ?_, (((Since.refl _).alloc _).alloc _).alloc _⟩
    · refine Cel.since (Cel.new (w.alloc _) 64 _ _ _ (fun j hj => zeros64 j hj) _ (by simp)) ((Since.refl _).alloc _)
    · refine Cel.new ((w.alloc _).alloc _) 64 _ _ _ (fun j hj => zeros64 j hj) _ (by simp)
  case round =>
    obtain ⟨k, hk, rfl, hF, hR, hA, hS⟩ := hrel
    by_cases hlt : k < 64
    · have c0 := hF.cell (k / 4) (by omega)
      have c1 := hA.cell k hlt
      have f1 := hA.frozen k hlt
      rw [Nat.zero_add] at c0
      have HF := (show Hid (Arr wr w.heap.size 0 16 f) from hF)
      have HR := (show Hid (Cel wr (w.heap.size + 1) 64 (bval (fun _ => 0))) from hR)
      have HA := (show Hid (Cel wr (w.heap.size + 2) 64 (bval (byteTo f k))) from hA)
      clear hF hR hA
      have z1 : (0 : Int) ≤ 8 * ((k : Int) % 4) := by omega
      have z2 : ((8 : Int) * ((k : Int) % 4)).toNat = 8 * (k % 4) := by omega
      go_wp2_with fail
      go_roundw
      case rel =>
        have h3 := HA.out.set k hlt (.int .u8 (byteOf f k))
        exact ⟨k + 1, by omega, by go_num, HF.out.other (by simp; omega) _, HR.out.other (by simp) _, h3.congr (fun j _ => byte_step f k j), hS.setCell (by simp; omega) _⟩
      case measure => simp [intOf]; omega
    · have hke : k = 64 := by omega
      subst hke
      have hA3 : Cel wr (w.heap.size + 2) 64 (bval (byteOf f)) := hA.congr (fun j hj => by unfold bval byteTo; rw [if_pos hj])
      have hRg := hA3.range
      have hst := hR.store Tryz.prog (byteOf f)
      have hL64 : (brow 64 (bval (byteOf f))).length = 64 := brow_length _ _
      clear hA
      go_wp2_with (refine wpList_load_mid (by rfl) 393 _ (by rfl) (w.heap.size + 2) 0 (by rfl) _ _ hRg Tryz.underlying393 (by rfl) (by rw [brow_length]; kernel_rfl) ?_)
      exact bodyPost_ret (results_row Tryz.results312 _ _ _ (w.heap.size + 1) _ _ (by rfl) (hR.setRow (bval (byteOf f))).range Tryz.underlying393 (by rfl) (by rw [brow_length]; kernel_rfl)) rfl ⟨rfl, hS.setCells (by omega) _ _⟩
end Sm.Sr
end Go.Proofs.YtlgocfgnfdnloaaGreatDoor
end
