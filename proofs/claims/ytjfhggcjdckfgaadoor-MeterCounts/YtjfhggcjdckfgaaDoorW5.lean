import Derived.Test.YtjfhggcjdckfgaaDoorW4
namespace Go.Proofs.YtjfhggcjdckfgaaDoor
set_option linter.unusedSimpArgs false
set_option linter.unusedVariables false
set_option maxRecDepth 100000
namespace Sm
open Go.RowKit
attribute [local go_sem] U_add U_mulc U_xor U_and U_or U_shr U_shl U_not U_conv U_byte U_cells U_match U_oneCell U_store U_store1

def blk (s : ByteArray) (n : Nat) : ByteArray := s.extract (n * 64) ((n + 1) * 64)
/-- one block mixed in -/
def St.mix (st : St) (b : ByteArray) : St := st.add (st.to kn (schTo b 48) 64)
def mixTo (st : St) (s : ByteArray) : Nat → St
  | 0 => st
  | n + 1 => (mixTo st s n).mix (blk s n)

theorem Arr.set8 {w : World} {b : Nat} {f : Nat → BitVec 32} (h : Arr w b 0 8 f) (t : St) :
    Arr ((((((((w.setCell ⟨b, 0, none⟩ (U t.a)).setCell ⟨b, 1, none⟩ (U t.b)).setCell ⟨b, 2, none⟩ (U t.c)).setCell ⟨b, 3, none⟩ (U t.d)).setCell ⟨b, 4, none⟩ (U t.e)).setCell ⟨b, 5, none⟩ (U t.f)).setCell ⟨b, 6, none⟩ (U t.g)).setCell ⟨b, 7, none⟩ (U t.h)) b 0 8 t.fn := by
  have h8 := (((((((h.set 0 (by omega) t.a).set 1 (by omega) t.b).set 2 (by omega) t.c).set 3 (by omega) t.d).set 4 (by omega) t.e).set 5 (by omega) t.f).set 6 (by omega) t.g).set 7 (by omega) t.h
  refine h8.congr (fun j hj => ?_)
  match j, hj with
  | 0, _ => rfl
  | 1, _ => rfl
  | 2, _ => rfl
  | 3, _ => rfl
  | 4, _ => rfl
  | 5, _ => rfl
  | 6, _ => rfl
  | 7, _ => rfl

theorem Arr.other8 {w : World} {b c o n : Nat} {f : Nat → BitVec 32} (h : Arr w c o n f) (hb : b ≠ c) (t : St) :
    Arr ((((((((w.setCell ⟨b, 0, none⟩ (U t.a)).setCell ⟨b, 1, none⟩ (U t.b)).setCell ⟨b, 2, none⟩ (U t.c)).setCell ⟨b, 3, none⟩ (U t.d)).setCell ⟨b, 4, none⟩ (U t.e)).setCell ⟨b, 5, none⟩ (U t.f)).setCell ⟨b, 6, none⟩ (U t.g)).setCell ⟨b, 7, none⟩ (U t.h)) c o n f :=
  (((((((h.other hb _).other hb _).other hb _).other hb _).other hb _).other hb _).other hb _).other hb _
theorem _root_.Go.Proofs.YtjfhggcjdckfgaaDoor.Since.set8 {a w : World} {b : Nat} (h : Since a w) (hb : a.heap.size ≤ b) (t : St) :
    Since a ((((((((w.setCell ⟨b, 0, none⟩ (U t.a)).setCell ⟨b, 1, none⟩ (U t.b)).setCell ⟨b, 2, none⟩ (U t.c)).setCell ⟨b, 3, none⟩ (U t.d)).setCell ⟨b, 4, none⟩ (U t.e)).setCell ⟨b, 5, none⟩ (U t.f)).setCell ⟨b, 6, none⟩ (U t.g)).setCell ⟨b, 7, none⟩ (U t.h)) :=
  (((((((h.setCell hb _).setCell hb _).setCell hb _).setCell hb _).setCell hb _).setCell hb _).setCell hb _).setCell hb _

set_option maxHeartbeats 1000000 in
set_option maxRecDepth 100000 in
theorem mixAll_any (st : St) (s : ByteArray) (w : World) (hs : s.size ≤ 1000000) (hT : Tab w) :
    Calls Tryd.prog 78 #[st.val, .string s] w fun e w' => e = .returned (mixTo st s (s.size / 64)).val ∧ Since w w' := by
  unfold St.val
  go_enter Tryd.func78, Tryd.ntmps78
  go_wp2_with fail
  go_loopw [9] (fun i wr => ∃ k : Nat, k ≤ s.size / 64 ∧ i = .int .i64 k ∧ Arr wr w.heap.size 0 8 (mixTo st s k).fn ∧ Arr wr (w.heap.size + 1) 0 8 (fun _ => 0) ∧ Since w wr) (fun i _ => s.size / 64 - (intOf i).toNat)
  case atStart => exact ⟨0, by omega, rfl, (Arr.new w 8 st.fn _ _ (by rfl) _ rfl).alloc _, Arr.new _ 8 (fun _ => 0) _ _ (by rfl) _ (by simp), ((Since.refl w).alloc _).alloc _⟩
  case round =>
    obtain ⟨k, hk, rfl, hA, hR, hS⟩ := hrel
    by_cases hlt : k < s.size / 64
    · generalize hr : mixTo st s k = r at *
      have Hr := (show Hid (mixTo st s k = r) from hr)
      clear hr
      have c0 : wr.cell? ⟨w.heap.size, 0, none⟩ = some (U r.a) := hA.cell 0 (by omega)
      have c1 : wr.cell? ⟨w.heap.size, 1, none⟩ = some (U r.b) := hA.cell 1 (by omega)
      have c2 : wr.cell? ⟨w.heap.size, 2, none⟩ = some (U r.c) := hA.cell 2 (by omega)
      have c3 : wr.cell? ⟨w.heap.size, 3, none⟩ = some (U r.d) := hA.cell 3 (by omega)
      have c4 : wr.cell? ⟨w.heap.size, 4, none⟩ = some (U r.e) := hA.cell 4 (by omega)
      have c5 : wr.cell? ⟨w.heap.size, 5, none⟩ = some (U r.f) := hA.cell 5 (by omega)
      have c6 : wr.cell? ⟨w.heap.size, 6, none⟩ = some (U r.g) := hA.cell 6 (by omega)
      have c7 : wr.cell? ⟨w.heap.size, 7, none⟩ = some (U r.h) := hA.cell 7 (by omega)
      have hb : (k + 1) * 64 ≤ s.size := by omega
      have v1 : IntKind.i64.wrap ((k : Int) * 64) = k * 64 := by simp [IntKind.wrap, IntKind.bits, IntKind.signed]; omega
      have v2 : IntKind.i64.wrap ((k : Int) + 1) = k + 1 := by simp [IntKind.wrap, IntKind.bits, IntKind.signed]; omega
      have v3 : IntKind.i64.wrap (((k : Int) + 1) * 64) = (k + 1) * 64 := by simp [IntKind.wrap, IntKind.bits, IntKind.signed]; omega
      have b1 : (0 : Int) ≤ k * 64 := by omega
      have b2 : (k : Int) * 64 ≤ (k + 1) * 64 := by omega
      have b3 : ((k : Int) + 1) * 64 ≤ s.size := by omega
      have t1 : ((k : Int) * 64).toNat = k * 64 := by omega
      have t2 : (((k : Int) + 1) * 64).toNat = (k + 1) * 64 := by omega
      have hx : (blk s k).size = 64 := by unfold blk; simp [ByteArray.size_extract]; omega
      have hTr := hT.since hS
      go_wp2_with fail
      go_region_with (first | (go_at_call 136; refine (mix_any r (blk s k) _ hx ?_).mono ?_; (exact hTr.since (Since.refl _).drew); rintro e w' ⟨rfl, hS'⟩; generalize hm : St.add _ _ = q; have Hm : Hid (r.mix (blk s k) = q) := hm; clear hm; simp only [St.val]; have hA' := hA.since ((Since.refl _).drew.trans hS'); have d0 := hA'.cell 0 (by omega); have d1 := hA'.cell 1 (by omega); have d2 := hA'.cell 2 (by omega); have d3 := hA'.cell 3 (by omega); have d4 := hA'.cell 4 (by omega); have d5 := hA'.cell 5 (by omega); have d6 := hA'.cell 6 (by omega); have d7 := hA'.cell 7 (by omega); have f0 := hA'.frozen 0 (by omega); have f1 := hA'.frozen 1 (by omega); have f2 := hA'.frozen 2 (by omega); have f3 := hA'.frozen 3 (by omega); have f4 := hA'.frozen 4 (by omega); have f5 := hA'.frozen 5 (by omega); have f6 := hA'.frozen 6 (by omega); have f7 := hA'.frozen 7 (by omega); simp only [Nat.zero_add] at d0 d1 d2 d3 d4 d5 d6 d7 f0 f1 f2 f3 f4 f5 f6 f7))
      all_goals
        generalize hw3 : World.setCell _ _ _ = w3
        have hA3 : Arr w3 w.heap.size 0 8 q.fn := by rw [← hw3]; exact hA'.set8 q
        have hR3 : Arr w3 (w.heap.size + 1) 0 8 (fun _ => 0) := by rw [← hw3]; exact (hR.since ((Since.refl _).drew.trans hS')).other8 (by omega) q
        have hS3 : Since w w3 := by rw [← hw3]; exact (hS.trans ((Since.refl _).drew.trans hS')).set8 (by omega) q
        clear hw3 d0 d1 d2 d3 d4 d5 d6 d7 f0 f1 f2 f3 f4 f5 f6 f7 c0 c1 c2 c3 c4 c5 c6 c7
        go_wp2_with fail
        go_roundw
        case rel =>
          have e1 : mixTo st s (k + 1) = q := by rw [← Hm.out, ← Hr.out]; rfl
          exact ⟨k + 1, by omega, by go_num, by rw [e1]; exact hA3, hR3, hS3⟩
        case measure => simp [intOf]; omega
    · have hke : k = s.size / 64 := by omega
      subst hke
      have hRg := hA.range
      have hL : (row 8 (mixTo st s (s.size / 64)).fn).length = 8 := row_length _ _
      have hst := hR.store Tryd.prog (mixTo st s (s.size / 64)).fn
      go_wp2_with (refine wpList_load_mid (by rfl) 110 _ (by rfl) w.heap.size 0 (by rfl) _ _ hRg Tryd.underlying110 (by rfl) (by rw [row_length]; kernel_rfl) ?_)
      exact bodyPost_ret (results_row Tryd.results78 _ _ _ (w.heap.size + 1) _ _ (by rfl) (hR.setRow (mixTo st s (s.size / 64)).fn).range Tryd.underlying110 (by rfl) (by rw [row_length]; kernel_rfl)) rfl ⟨rfl, hS.setCells (by omega) _ _⟩
end Sm
end Go.Proofs.YtjfhggcjdckfgaaDoor
