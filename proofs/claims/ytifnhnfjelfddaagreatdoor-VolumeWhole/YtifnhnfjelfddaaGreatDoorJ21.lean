import Derived.Deep.QuietTactic
import Derived.BigQuiet
import Derived.Deep.RegionWith
import Derived.Deep.RegionHeld3
import Derived.Test.YtifnhnfjelfddaaGreatDoorJ13
set_option linter.unusedSimpArgs false
set_option linter.unusedVariables false
section
namespace Go.Proofs.YtifnhnfjelfddaaGreatDoor
set_option maxRecDepth 100000
namespace Sm.Sr
open Go.RowKit
attribute [local go_sem ↓] U_add U_mulc U_xor U_and U_or U_shr U_shl U_not U_conv U_byte U_cells U_oneCell
theorem and31 (k : Int) : bits BinOp.and IntKind.u64 (IntKind.u64.wrap k) 31 = k % 32 := by
  have e : IntKind.u64.wrap k = k % 18446744073709551616 := by simp [IntKind.wrap, IntKind.bits, IntKind.signed]
  have h := bits_mask .u64 64 (by decide) (fun n h0 h1 => by simp [IntKind.wrap, IntKind.bits, IntKind.signed]; omega) 5 (by decide) (IntKind.u64.wrap k) (by omega) (by omega)
  have e2 : (2 : Int) ^ 5 - 1 = 31 := by decide
  rw [e2] at h
  rw [h, e]
  omega
set_option maxHeartbeats 400000 in
theorem rol_any (x : BitVec 32) (k : Int) (w : World) :
    Calls Tryz.prog 153 #[U x, .int .i64 k] w fun e w' => e = .returned (U (rol x (k % 32).toNat)) ∧ w' = w := by
  have hb := and31 k
  have h1 : (0 : Int) ≤ k % 32 := by omega
  have h2 : IntKind.u64.wrap (32 - k % 32) = 32 - k % 32 := by
    simp [IntKind.wrap, IntKind.bits, IntKind.signed]; omega
  have h4 : k % 32 ≤ 32 := by omega
  have h3 : (32 - k % 32).toNat = 32 - (k % 32).toNat := by omega
  go_enter Tryz.func153, Tryz.ntmps153
  go_wp2
  go_ret
  exact ⟨rfl, rfl⟩
theorem results_tmp4 {fn : Func} {t u v x : Tmp} (h : fn.results = #[.tmp t, .tmp u, .tmp v, .tmp x]) (tmps : Array Value) (P : Program) (w : World) :
    (results fn tmps).run P w = .ok (.tuple #[tmps.getD t undef, tmps.getD u undef, tmps.getD v undef, tmps.getD x undef]) w := by
  simp [results, h]
set_option maxHeartbeats 400000 in
theorem quarter_any (q : Qu) (w : World) :
    Calls Tryz.prog 146 #[U q.a, U q.b, U q.c, U q.d] w fun e w' => e = .returned (.tuple #[U (quart q).a, U (quart q).b, U (quart q).c, U (quart q).d]) ∧ w' = w := by
  go_enter Tryz.func146, Tryz.ntmps146
  go_wp2_with (go_at_call 153; refine (rol_any _ _ _).mono ?_; rintro e w' ⟨rfl, rfl⟩)
  (try simp only [Exit.inBlock, Exit.then])
  refine bodyPost_ret (results_tmp4 rfl _ _ _) rfl ?_
  exact ⟨rfl, rfl⟩
set_option maxHeartbeats 400000 in
theorem word_any (s : ByteArray) (w : World) (hs : 4 ≤ s.size) :
    Calls Tryz.prog 135 #[.string s] w fun e w' => e = .returned (U (word4 (s[0]'(by omega)) (s[1]'(by omega)) (s[2]'(by omega)) (s[3]'(by omega)))) ∧ ∃ n, w' = w.drewN n := by
  have h0 : 0 < s.size := by omega
  have h1 : 1 < s.size := by omega
  have h2 : 2 < s.size := by omega
  have h3 : 3 < s.size := by omega
  have g0 : (0 : Int) < s.size := by omega
  have g1 : (1 : Int) < s.size := by omega
  have g2 : (2 : Int) < s.size := by omega
  have g3 : (3 : Int) < s.size := by omega
  go_enter Tryz.func135, Tryz.ntmps135
  go_wp2_with fail
  go_quiet (fail)
  go_wp2_with fail
  go_ret
  exact ⟨rfl, _, rfl⟩
end Sm.Sr
end Go.Proofs.YtifnhnfjelfddaaGreatDoor
end
section
namespace Go.Proofs.YtifnhnfjelfddaaGreatDoor
set_option maxRecDepth 100000
namespace Sm.Sr
open Go.RowKit
attribute [local go_sem] U_add U_mulc U_xor U_and U_or U_shr U_shl U_not U_conv U_byte U_cells U_match U_oneCell U_store U_store1
def bval (f : Nat → Int) : Nat → Value := fun j => .int .u8 (f j)
def byteTo (f : Nat → BitVec 32) (k : Nat) : Nat → Int := fun j => if j < k then byteOf f j else 0
theorem byte_step (f : Nat → BitVec 32) (k j : Nat) : updv (bval (byteTo f k)) k (.int .u8 (byteOf f k)) j = bval (byteTo f (k + 1)) j := by
  unfold updv bval byteTo
  by_cases e : j = k
  · subst e; rw [if_pos rfl, if_pos (by omega)]
  · rw [if_neg e]
    by_cases h : j < k
    · rw [if_pos h, if_pos (by omega)]
    · rw [if_neg h, if_neg (by omega)]
def brow (n : Nat) (g : Nat → Value) : List Value := (List.range n).map g
theorem brow_length (n : Nat) (g : Nat → Value) : (brow n g).length = n := by simp [brow]
theorem brow_get (n : Nat) (g : Nat → Value) (j : Nat) (hj : j < n) : (brow n g)[j]? = some (g j) := by simp [brow, hj]
theorem _root_.Go.Proofs.YtifnhnfjelfddaaGreatDoor.Sm.Cel.range {w : World} {b n : Nat} {g : Nat → Value} (h : Cel w b n g) : w.rangeAt b 0 (brow n g) := fun j v hv => by
  have hj : j < n := by have := (List.getElem?_eq_some_iff.1 hv).1; rwa [brow_length] at this
  rw [brow_get n g j hj] at hv
  rw [Nat.zero_add, h.cell j hj, hv]
theorem _root_.Go.Proofs.YtifnhnfjelfddaaGreatDoor.Sm.Cel.there {w : World} {b n : Nat} {g : Nat → Value} (h : Cel w b n g) : w.there b 0 n := fun j hj => by
  rw [Nat.zero_add]; exact ⟨by rw [h.cell j hj]; rfl, h.frozen j hj⟩
theorem _root_.Go.Proofs.YtifnhnfjelfddaaGreatDoor.Sm.Cel.setRow {w : World} {b n : Nat} {g : Nat → Value} (h : Cel w b n g) (g' : Nat → Value) : Cel (w.setCells b 0 (brow n g')) b n g' where
  cell j hj := by
    have := World.rangeAt_setCells_same w b 0 (brow n g') (by rw [brow_length]; exact h.there) j (g' j) (brow_get n g' j hj)
    rwa [Nat.zero_add] at this
  frozen j hj := by
    have := (World.there_setCells h.there b 0 (brow n g') j hj).2
    rwa [Nat.zero_add] at this
theorem _root_.Go.Proofs.YtifnhnfjelfddaaGreatDoor.Sm.Cel.setRow_other {w : World} {b n : Nat} {g : Nat → Value} (h : Cel w b n g) {b' o' : Nat} (vs : List Value) (hb : b ≠ b') : Cel (w.setCells b' o' vs) b n g where
  cell j hj := by
    have := World.rangeAt_setCells_apart h.range b' o' vs (Or.inl hb) j _ (brow_get n g j hj)
    rwa [Nat.zero_add] at this
  frozen j hj := by
    have := (World.there_setCells h.there b' o' vs j hj).2
    rwa [Nat.zero_add] at this
theorem brow_one (n : Nat) (f : Nat → Int) : ∀ v ∈ brow n (bval f), v.oneCell' = true := by
  intro v hv
  simp only [brow, List.mem_map] at hv
  obtain ⟨i, _, rfl⟩ := hv
  rfl
theorem _root_.Go.Proofs.YtifnhnfjelfddaaGreatDoor.Sm.Cel.store {w : World} {b n : Nat} {g : Nat → Value} (h : Cel w b n g) (P : Program) (f : Nat → Int) : (storeCells ⟨b, 0, none⟩ (brow n (bval f))).run P w = .ok () (w.setCells b 0 (brow n (bval f))) := by
  have := run_storeCells_cells (P := P) b 0 (brow n (bval f)) 0 w (fun j hj => by rw [brow_length] at hj; simpa using (h.there j hj).1) (fun j hj => by rw [brow_length] at hj; simpa using (h.there j hj).2) (brow_one n f)
  simpa using this
theorem zeros64 (j : Nat) (hj : j < 64) : (List.replicate 64 (Value.int .u8 0)).toArray[j]? = some (bval (fun _ => 0) j) := by
  rw [List.getElem?_toArray, List.getElem?_replicate, if_pos hj]; rfl
theorem _root_.Go.Proofs.YtifnhnfjelfddaaGreatDoor.Sm.Cel.zeros (w : World) (t : TypeId) (cs : Array Value) (e : cs = (List.replicate 64 (Value.int .u8 0)).toArray) (k : Nat) (hk : k = w.heap.size) : Cel (w.alloc (.cells cs t)) k 64 (bval (fun _ => 0)) :=
  Cel.new w 64 _ t cs (fun j hj => by rw [e]; exact zeros64 j hj) k hk
set_option maxHeartbeats 1000000 in
set_option maxRecDepth 100000 in
theorem written_any (f : Nat → BitVec 32) (w : World) :
    Calls Tryz.prog 116 #[.agg (row 16 f).toArray] w fun e w' => e = .returned (.agg (brow 64 (bval (byteOf f))).toArray) ∧ Since w w' := by
  have hL : (row 16 f).length = 16 := row_length _ _
  go_enter Tryz.func116, Tryz.ntmps116
  go_wp2_with fail
  go_loopw [5] (fun i wr => ∃ k : Nat, k ≤ 64 ∧ i = .int .i64 k ∧ Arr wr w.heap.size 0 16 f ∧ Cel wr (w.heap.size + 1) 64 (bval (fun _ => 0)) ∧ Cel wr (w.heap.size + 2) 64 (bval (byteTo f k)) ∧ Since w wr) (fun i _ => 64 - (intOf i).toNat)
  case atStart =>
    refine ⟨0, by omega, rfl, ((Arr.new w 16 f _ _ (by rfl) _ rfl).alloc _).alloc _, ?_, ?_, (((Since.refl _).alloc _).alloc _).alloc _⟩
    · refine Cel.since (Cel.new (w.alloc _) 64 _ _ _ (fun j hj => zeros64 j hj) _ (by simp)) ((Since.refl _).alloc _)
    · refine Cel.new ((w.alloc _).alloc _) 64 _ _ _ (fun j hj => zeros64 j hj) _ (by simp)
  case round =>
    obtain ⟨k, hk, rfl, hF, hR, hA, hS⟩ := hrel
    by_cases hlt : k < 64
    · have c0 := hF.cell (k / 4) (by omega)
      have c1 := hA.cell k hlt
      have f1 := hA.frozen k hlt
      rw [Nat.zero_add] at c0
      have HF := (show Hid (Arr wr w.heap.size 0 16 f) from hF)
      have HR := (show Hid (Cel wr (w.heap.size + 1) 64 (bval (fun _ => 0))) from hR)
      have HA := (show Hid (Cel wr (w.heap.size + 2) 64 (bval (byteTo f k))) from hA)
      clear hF hR hA
      have z1 : (0 : Int) ≤ 8 * ((k : Int) % 4) := by omega
      have z2 : ((8 : Int) * ((k : Int) % 4)).toNat = 8 * (k % 4) := by omega
      go_wp2_with fail
      go_roundw
      case rel =>
        have h3 := HA.out.set k hlt (.int .u8 (byteOf f k))
        exact ⟨k + 1, by omega, by go_num, HF.out.other (by simp; omega) _, HR.out.other (by simp) _, h3.congr (fun j _ => byte_step f k j), hS.setCell (by simp; omega) _⟩
      case measure => simp [intOf]; omega
    · have hke : k = 64 := by omega
      subst hke
      have hA3 : Cel wr (w.heap.size + 2) 64 (bval (byteOf f)) := hA.congr (fun j hj => by unfold bval byteTo; rw [if_pos hj])
      have hRg := hA3.range
      have hst := hR.store Tryz.prog (byteOf f)
      have hL64 : (brow 64 (bval (byteOf f))).length = 64 := brow_length _ _
      clear hA
      go_wp2_with (refine wpList_load_mid (by rfl) 198 _ (by rfl) (w.heap.size + 2) 0 (by rfl) _ _ hRg Tryz.underlying198 (by rfl) (by rw [brow_length]; kernel_rfl) ?_)
      exact bodyPost_ret (results_row Tryz.results116 _ _ _ (w.heap.size + 1) _ _ (by rfl) (hR.setRow (bval (byteOf f))).range Tryz.underlying198 (by rfl) (by rw [brow_length]; kernel_rfl)) rfl ⟨rfl, hS.setCells (by omega) _ _⟩
end Sm.Sr
end Go.Proofs.YtifnhnfjelfddaaGreatDoor
end
