import Derived.Test.YtlgocfgnfdnloaaGreatDoorJ10
set_option linter.unusedSimpArgs false
set_option linter.unusedVariables false
section
namespace Go.Proofs.YtlgocfgnfdnloaaGreatDoor
set_option maxRecDepth 100000
namespace Sm.Sr
open Go.RowKit
attribute [local go_sem] U_add U_mulc U_xor U_and U_or U_shr U_shl U_not U_conv U_byte U_cells U_match U_oneCell U_store U_store1
def addTo (f g : Nat → BitVec 32) (k : Nat) : Nat → BitVec 32 := fun j => if j < k then g j + f j else g j
theorem add_step (f g : Nat → BitVec 32) (k j : Nat) : upd (addTo f g k) k (g k + f k) j = addTo f g (k + 1) j := by
  unfold upd addTo
  by_cases e : j = k
  · subst e; rw [if_pos rfl, if_pos (by omega)]
  · rw [if_neg e]
    by_cases h : j < k
    · rw [if_pos h, if_pos (by omega)]
    · rw [if_neg h, if_neg (by omega)]
set_option maxHeartbeats 1000000 in
set_option maxRecDepth 100000 in
theorem mixed_any (f : Nat → BitVec 32) (w : World) :
    Calls Tryz.prog 313 #[.agg (row 16 f).toArray] w fun e w' => e = .returned (.agg (row 16 (mixd f)).toArray) ∧ Since w w' := by
  have er : (row 16 f).toArray = #[U (f 0), U (f 1), U (f 2), U (f 3), U (f 4), U (f 5), U (f 6), U (f 7), U (f 8), U (f 9), U (f 10), U (f 11), U (f 12), U (f 13), U (f 14), U (f 15)] := rfl
  rw [er]
  clear er
  go_enter Tryz.func313, Tryz.ntmps313
  go_wp2_with fail
  go_loopw [6] (fun i wr => ∃ k : Nat, k ≤ 10 ∧ i = .int .i64 k ∧ Arr wr w.heap.size 0 16 f ∧ Arr wr (w.heap.size + 1) 0 16 (fun _ => 0) ∧ Arr wr (w.heap.size + 2) 0 16 (rnds f k) ∧ Since w wr) (fun i _ => 10 - (intOf i).toNat)
  case atStart =>
    exact ⟨0, by omega, rfl, ((Arr.new w 16 f _ _ (by rfl) _ rfl).alloc _).alloc _, (Arr.new (w.alloc _) 16 _ _ _ (by rfl) _ (by simp)).alloc _, Arr.new ((w.alloc _).alloc _) 16 f _ _ (by rfl) _ (by simp), (((Since.refl _).alloc _).alloc _).alloc _⟩
  case round =>
    obtain ⟨k, hk, rfl, hF, hR, hA, hS⟩ := hrel
    by_cases hlt : k < 10
    · generalize hg : rnds f k = g at *
      have HG := (show Hid (rnds f k = g) from hg)
      clear hg
      have HF := (show Hid (Arr wr w.heap.size 0 16 f) from hF)
      have HR := (show Hid (Arr wr (w.heap.size + 1) 0 16 (fun _ => 0)) from hR)
      clear hF hR
      have hRg := hA.range
      go_wp2_with (refine wpList_load_mid (by rfl) 391 _ (by rfl) (w.heap.size + 2) 0 (by rfl) _ _ hRg Tryz.underlying391 (by rfl) (by rw [row_length]; kernel_rfl) ?_)
      refine (columns_any g _).mono ?_
      rintro e w1 ⟨rfl, h1⟩
      go_wp2_with fail
      refine (diagonals_any (rnd 0 g) _).mono ?_
      rintro e w2 ⟨rfl, h2⟩
      have h12 := h1.trans h2
      have hst := (hA.since h12).store Tryz.prog (rnd 1 (rnd 0 g))
      have hL : (row 16 (rnd 1 (rnd 0 g))).length = 16 := row_length _ _
      go_wp2_with fail
      refine ⟨⟨k + 1, by omega, by go_num, ?_, ?_, ?_, ?_⟩, by simp [intOf]; omega⟩
      · exact (HF.out.since h12).setRow_other _ (by omega)
      · exact (HR.out.since h12).setRow_other _ (by omega)
      · have e1 : rnds f (k + 1) = rnd 1 (rnd 0 g) := by rw [← HG.out]; rfl
        rw [e1]; exact (hA.since h12).setRow _
      · exact (hS.trans h12).setCells (by omega) _ _
    · have hke : k = 10 := by omega
      subst hke
      generalize hg : rnds f 10 = g at *
      have HG := (show Hid (rnds f 10 = g) from hg)
      clear hg
      go_wp2_with fail
      go_loopw [12] (fun i wr => ∃ k : Nat, k ≤ 16 ∧ i = .int .i64 k ∧ Arr wr w.heap.size 0 16 f ∧ Arr wr (w.heap.size + 1) 0 16 (fun _ => 0) ∧ Arr wr (w.heap.size + 2) 0 16 (addTo f g k) ∧ Since w wr) (fun i _ => 16 - (intOf i).toNat)
      case atStart => exact ⟨0, by omega, rfl, hF, hR, hA.congr (fun j _ => rfl), hS⟩
      case round =>
        obtain ⟨k, hk2, rfl, hF2, hR2, hA2, hS2⟩ := hrel
        by_cases hlt2 : k < 16
        · have c0 := hF2.cell k (by omega)
          have c1 := hA2.cell k (by omega)
          have f1 := hA2.frozen k (by omega)
          rw [Nat.zero_add] at c0 c1 f1
          have e0 : addTo f g k k = g k := by unfold addTo; rw [if_neg (by omega)]
          rw [e0] at c1
          clear e0
          have HF2 := (show Hid (Arr wr w.heap.size 0 16 f) from hF2)
          have HR2 := (show Hid (Arr wr (w.heap.size + 1) 0 16 (fun _ => 0)) from hR2)
          have HA2 := (show Hid (Arr wr (w.heap.size + 2) 0 16 (addTo f g k)) from hA2)
          have HS2 := (show Hid (Since w wr) from hS2)
          clear hF hR hA hF2 hR2 hA2 hS2
          go_wp2_with fail
          go_region
          all_goals
            go_wp2_with fail
            go_roundw
            case rel =>
              have h3 := HA2.out.set k hlt2 (g k + f k)
              rw [Nat.zero_add] at h3
              exact ⟨k + 1, by omega, by go_num, (HF2.out.other (by simp; omega) _).since (Since.refl _).drew, (HR2.out.other (by simp) _).since (Since.refl _).drew, (h3.congr (fun j _ => add_step f g k j)).since (Since.refl _).drew, (HS2.out.setCell (by simp; omega) _).drew⟩
            case measure => simp [intOf]; omega
        · have hke : k = 16 := by omega
          subst hke
          have hA3 : Arr wr (w.heap.size + 2) 0 16 (mixd f) := hA2.congr (fun j hj => by unfold addTo mixd; rw [if_pos hj, HG.out])
          have hRg := hA3.range
          have hst := hR2.store Tryz.prog (mixd f)
          have hL : (row 16 (mixd f)).length = 16 := row_length _ _
          go_wp2_with (refine wpList_load_mid (by rfl) 391 _ (by rfl) (w.heap.size + 2) 0 (by rfl) _ _ hRg Tryz.underlying391 (by rfl) (by rw [row_length]; kernel_rfl) ?_)
          exact bodyPost_ret (results_row Tryz.results313 _ _ _ (w.heap.size + 1) _ _ (by rfl) (hR2.setRow (mixd f)).range Tryz.underlying391 (by rfl) (by rw [row_length]; kernel_rfl)) rfl ⟨rfl, hS2.setCells (by omega) _ _⟩
end Sm.Sr
end Go.Proofs.YtlgocfgnfdnloaaGreatDoor
end
section
namespace Go.Proofs.YtlgocfgnfdnloaaGreatDoor
set_option maxRecDepth 100000
namespace Sm.Sr
open Go.RowKit
attribute [local go_sem] U_add U_mulc U_xor U_and U_or U_shr U_shl U_not U_conv U_byte U_cells U_match U_oneCell U_store U_store1
theorem ext_byte (s : ByteArray) (a b i : Nat) (h : i < (s.extract a b).size) (hb : b ≤ s.size) : (s.extract a b)[i] = byteAt s (a + i) := by
  have h2 : a + i < s.size := by simp [ByteArray.size_extract] at h; omega
  unfold byteAt
  rw [ByteArray.getElem_extract]
  rw [List.getD_eq_getElem?_getD, List.getElem?_eq_getElem (by simpa using h2)]
  rfl
theorem word_ext (s : ByteArray) (k e : Nat) (he : e ≤ s.size) (h0 : 0 < (s.extract (4 * k) e).size) (h1 : 1 < (s.extract (4 * k) e).size) (h2 : 2 < (s.extract (4 * k) e).size) (h3 : 3 < (s.extract (4 * k) e).size) :
    word4 (s.extract (4 * k) e)[0] (s.extract (4 * k) e)[1] (s.extract (4 * k) e)[2] (s.extract (4 * k) e)[3] = wordAt s k := by
  unfold wordAt
  rw [ext_byte s _ _ _ _ (by omega), ext_byte s _ _ _ _ (by omega), ext_byte s _ _ _ _ (by omega), ext_byte s _ _ _ _ (by omega), Nat.add_zero]
def keyTo (key : ByteArray) (k : Nat) : Nat → BitVec 32 := fun j =>
  if j = 0 then 1634760805#32 else if j = 1 then 857760878#32 else if j = 2 then 2036477234#32 else if j = 3 then 1797285236#32
  else if j < 4 + k then wordAt key (j - 4) else 0
def nonTo (key nonce : ByteArray) (k : Nat) : Nat → BitVec 32 := fun j => if j < 13 then keyTo key 8 j else if j < 13 + k then wordAt nonce (j - 13) else 0
theorem key_step (key : ByteArray) (k j : Nat) : upd (keyTo key k) (4 + k) (wordAt key k) j = keyTo key (k + 1) j := by
  unfold upd keyTo
  by_cases e : j = 4 + k
  · subst e
    rw [if_pos rfl, if_neg (by omega), if_neg (by omega), if_neg (by omega), if_neg (by omega), if_pos (by omega), show 4 + k - 4 = k by omega]
  · rw [if_neg e]
    by_cases h : j < 4 + k
    · rw [if_pos h, if_pos (show j < 4 + (k + 1) by omega)]
    · rw [if_neg h, if_neg (show ¬ j < 4 + (k + 1) by omega)]
theorem non_step (key nonce : ByteArray) (k j : Nat) : upd (nonTo key nonce k) (13 + k) (wordAt nonce k) j = nonTo key nonce (k + 1) j := by
  unfold upd nonTo
  by_cases e : j = 13 + k
  · subst e
    rw [if_pos rfl, if_neg (by omega), if_pos (by omega), show 13 + k - 13 = k by omega]
  · rw [if_neg e]
    by_cases h : j < 13 + k
    · rw [if_pos h, if_pos (show j < 13 + (k + 1) by omega)]
    · rw [if_neg h, if_neg (show ¬ j < 13 + (k + 1) by omega)]
theorem non_laid (key nonce : ByteArray) (j : Nat) (hj : j < 16) : nonTo key nonce 3 j = laidF key nonce 0#32 j := by
  unfold nonTo keyTo laidF
  by_cases h : j < 13
  · rw [if_pos h]
    by_cases h12 : j < 12
    · rw [if_pos (show j < 4 + 8 by omega), if_pos h12]
    · rw [if_neg (show ¬ j < 4 + 8 by omega), if_neg h12, if_pos (show j = 12 by omega)]; rfl
  · rw [if_neg h, if_pos (by omega), if_neg (by omega), if_neg (by omega), if_neg (by omega), if_neg (by omega), if_neg (by omega), if_neg (by omega)]
set_option maxHeartbeats 1000000 in
set_option maxRecDepth 100000 in
theorem laid_any (key nonce : ByteArray) (w : World) (hk : key.size = 32) (hn : nonce.size = 12) :
    Calls Tryz.prog 311 #[.string key, .string nonce] w fun e w' => e = .returned (.agg (row 16 (laidF key nonce 0#32)).toArray) ∧ Since w w' := by
  go_enter Tryz.func311, Tryz.ntmps311
  go_wp2_with fail
  go_loopw [9] (fun i wr => ∃ k : Nat, k ≤ 8 ∧ i = .int .i64 k ∧ Arr wr w.heap.size 0 16 (fun _ => 0) ∧ Arr wr (w.heap.size + 1) 0 16 (keyTo key k) ∧ Since w wr) (fun i _ => 8 - (intOf i).toNat)
  case atStart =>
    refine ⟨0, by omega, rfl, (Arr.new w 16 (fun _ => 0) _ _ (by rfl) _ rfl).alloc _, Arr.new (w.alloc _) 16 _ _ _ (by rfl) _ (by simp), ((Since.refl _).alloc _).alloc _⟩
  case round =>
    obtain ⟨k, hk8, rfl, hR, hA, hS⟩ := hrel
    by_cases hlt : k < 8
    · have hex : 4 ≤ (key.extract (4 * k) 32).size := by simp [ByteArray.size_extract]; omega
      have HW := (show Hid _ from word_ext key k 32 (by omega) (by omega) (by omega) (by omega) (by omega))
      have c1 := hA.cell (4 + k) (by omega)
      have f1 := hA.frozen (4 + k) (by omega)
      rw [Nat.zero_add] at c1 f1
      have t1 : ((4 : Int) + k).toNat = 4 + k := by omega
      have t2 : ((4 : Int) * k).toNat = 4 * k := by omega
      have HR := (show Hid (Arr wr w.heap.size 0 16 (fun _ => 0)) from hR)
      have HA := (show Hid (Arr wr (w.heap.size + 1) 0 16 (keyTo key k)) from hA)
      clear hR hA
      go_wp2_with fail
      refine (word_any _ _ hex).mono ?_
      rintro e w1 ⟨rfl, n, rfl⟩
      rw [HW.out]
      go_wp2_with fail
      go_roundw
      case rel =>
        have h3 := (HA.out.drewN n).set (4 + k) (by omega) (wordAt key k)
        rw [Nat.zero_add] at h3
        exact ⟨k + 1, by omega, by go_num, (HR.out.drewN n).other (by simp) _, h3.congr (fun j _ => key_step key k j), (hS.drewN n).setCell (by simp) _⟩
      case measure => simp [intOf]; omega
    · have hke : k = 8 := by omega
      subst hke
      go_wp2_with fail
      go_loopw [21] (fun i wr => ∃ k : Nat, k ≤ 3 ∧ i = .int .i64 k ∧ Arr wr w.heap.size 0 16 (fun _ => 0) ∧ Arr wr (w.heap.size + 1) 0 16 (nonTo key nonce k) ∧ Since w wr) (fun i _ => 3 - (intOf i).toNat)
      case atStart =>
        refine ⟨0, by omega, rfl, hR, hA.congr (fun j hj => ?_), hS⟩
        unfold nonTo
        by_cases h : j < 13
        · rw [if_pos h]
        · rw [if_neg h, if_neg (by omega)]
          unfold keyTo
          rw [if_neg (by omega), if_neg (by omega), if_neg (by omega), if_neg (by omega), if_neg (by omega)]
      case round =>
        clear hR hA hS
        obtain ⟨k, hk3, rfl, hR, hA, hS⟩ := hrel
        by_cases hlt2 : k < 3
        · have hex : 4 ≤ (nonce.extract (4 * k) 12).size := by simp [ByteArray.size_extract]; omega
          have HW := (show Hid _ from word_ext nonce k 12 (by omega) (by omega) (by omega) (by omega) (by omega))
          have c1 := hA.cell (13 + k) (by omega)
          have f1 := hA.frozen (13 + k) (by omega)
          rw [Nat.zero_add] at c1 f1
          have t1 : ((13 : Int) + k).toNat = 13 + k := by omega
          have t2 : ((4 : Int) * k).toNat = 4 * k := by omega
          have HR := (show Hid (Arr wr w.heap.size 0 16 (fun _ => 0)) from hR)
          have HA := (show Hid (Arr wr (w.heap.size + 1) 0 16 (nonTo key nonce k)) from hA)
          clear hR hA
          go_wp2_with fail
          refine (word_any _ _ hex).mono ?_
          rintro e w1 ⟨rfl, n, rfl⟩
          rw [HW.out]
          go_wp2_with fail
          go_roundw
          case rel =>
            have h3 := (HA.out.drewN n).set (13 + k) (by omega) (wordAt nonce k)
            rw [Nat.zero_add] at h3
            (repeat apply Exists.intro)
            exact ⟨⟨k + 1, by omega, by go_num, (HR.out.drewN n).other (by simp) _, h3.congr (fun j _ => non_step key nonce k j), (hS.drewN n).setCell (by simp) _⟩, rfl⟩
          case measure => simp [intOf]; omega
        · have hke : k = 3 := by omega
          subst hke
          have hA3 : Arr wr (w.heap.size + 1) 0 16 (laidF key nonce 0#32) := hA.congr (fun j hj => non_laid key nonce j hj)
          have hRg := hA3.range
          have hst := hR.store Tryz.prog (laidF key nonce 0#32)
          have hL : (row 16 (laidF key nonce 0#32)).length = 16 := row_length _ _
          clear hA
          go_wp2_with (refine wpList_load_mid (by rfl) 391 _ (by rfl) (w.heap.size + 1) 0 (by rfl) _ _ hRg Tryz.underlying391 (by rfl) (by rw [row_length]; kernel_rfl) ?_)
          exact bodyPost_ret (results_row Tryz.results311 _ _ _ w.heap.size _ _ (by rfl) (hR.setRow (laidF key nonce 0#32)).range Tryz.underlying391 (by rfl) (by rw [row_length]; kernel_rfl)) rfl ⟨rfl, hS.setCells (by omega) _ _⟩
end Sm.Sr
end Go.Proofs.YtlgocfgnfdnloaaGreatDoor
end
section
namespace Go.Proofs.YtlgocfgnfdnloaaGreatDoor
set_option maxRecDepth 100000
namespace Sm.Sr
open Go.RowKit
attribute [local go_sem] U_add U_mulc U_xor U_and U_or U_shr U_shl U_not U_conv U_byte U_cells U_match U_oneCell U_store U_store1
theorem conv_cells (w : World) (xs : List Int) (k m cap : Nat) (hm : m = xs.length) (hb : ∀ i, i < xs.length → w.cell? ⟨k, i, none⟩ = some (.int .u8 (xs.getD i 0))) :
    (convert 187 9 (.slice (some ⟨k, 0, none⟩) m cap)).run Tryz.prog w = .ok (.string (strOfNums xs)) w := by
  subst hm
  exact run_convert_bytes_arg _ 187 5 Tryz.underlying187 Tryz.underlying5 k 0 xs.length cap xs rfl (fun i hi => by rw [Nat.zero_add]; exact hb i hi) 9 Tryz.underlying9
theorem sized_any (key nonce : ByteArray) (w : World) :
    Calls Tryz.prog 310 #[.string key, .string nonce] w fun e w' => e = .returned (.bool (decide (key.size = 32) && decide (nonce.size = 12))) ∧ w' = w := by
  by_cases h1 : key.size = 32
  · by_cases h2 : nonce.size = 12
    · go_enter Tryz.func310, Tryz.ntmps310
      go_wp2_with fail
      go_ret
      exact ⟨by simp [h1, h2], rfl⟩
    · go_enter Tryz.func310, Tryz.ntmps310
      go_wp2_with fail
      go_ret
      refine ⟨?_, rfl⟩
      simp [h1, h2]
      omega
  · go_enter Tryz.func310, Tryz.ntmps310
    go_wp2_with fail
    go_ret
    refine ⟨?_, rfl⟩
    simp [h1]
end Sm.Sr
end Go.Proofs.YtlgocfgnfdnloaaGreatDoor
end
section
namespace Go.Proofs.YtlgocfgnfdnloaaGreatDoor
set_option maxRecDepth 100000
namespace Sm.Sr
open Go.RowKit
attribute [local go_sem] U_add U_mulc U_xor U_and U_or U_shr U_shl U_not U_conv U_byte U_cells U_match U_oneCell U_store U_store1
def xorb (a b : Int) : Int := bits BinOp.xor IntKind.u8 a b
def xorAt (key nonce s : ByteArray) (i : Nat) : Int := xorb (byteAt s i).toNat (byteOf (mixd (laidF key nonce (BitVec.ofNat 32 (1 + i / 64)))) (i % 64))
def xorOf (key nonce s : ByteArray) : List Int := (List.range s.size).map (xorAt key nonce s)
def xorTo (key nonce s : ByteArray) (m : Nat) : Nat → Value := fun j => .int .u8 (if j < m then xorAt key nonce s j else 0)
theorem xor_step (key nonce s : ByteArray) (m j : Nat) : updv (xorTo key nonce s m) m (.int .u8 (xorAt key nonce s m)) j = xorTo key nonce s (m + 1) j := by
  unfold updv xorTo
  by_cases e : j = m
  · subst e; rw [if_pos rfl, if_pos (by omega)]
  · rw [if_neg e]
    by_cases h : j < m
    · rw [if_pos h, if_pos (by omega)]
    · rw [if_neg h, if_neg (by omega)]
theorem num_of (t : Nat) : Value.int .u32 (IntKind.u32.wrap ((1 : Int) + t)) = U (BitVec.ofNat 32 (1 + t)) := by
  unfold U
  rw [wrap_u32]
  have e : ((1 : Int) + t) = ((1 + t : Nat) : Int) := by omega
  rw [e, BitVec.ofInt_natCast]
set_option maxHeartbeats 1000000 in
set_option maxRecDepth 100000 in
theorem xor_any (key nonce s : ByteArray) (w : World) (hk : key.size = 32) (hn : nonce.size = 12) (hz : s.size ≤ 100000) :
    Calls Tryz.prog 281 #[.string key, .string nonce, .string s] w fun e w' => e = .returned (.tuple #[.string (strOfNums (xorOf key nonce s)), .nilIface]) ∧ Since w w' := by
  have hs : (decide (key.size = 32) && decide (nonce.size = 12)) = true := by simp [hk, hn]
  obtain ⟨ti, hti, htz, hb1, hs1⟩ : ∃ i, Tryz.prog.info? 5 = some i ∧ i.zero = some (.int .u8 0) ∧ i.bytes = 1 ∧ i.size = 1 := ⟨_, rfl, by kernel_rfl, by kernel_rfl, by kernel_rfl⟩
  have hmk := fun w => run_make (P := Tryz.prog) w 187 5 ti _ Tryz.underlying187 hti htz .i64 .i64 0 (s.size : Int) (by omega) (by omega) (by rw [hb1]; omega) (by omega)
  rw [hs1] at hmk
  clear hti htz hb1 hs1
  go_enter Tryz.func281, Tryz.ntmps281
  go_wp2_with fail
  refine (sized_any _ _ _).mono ?_
  rintro e w1 ⟨rfl, rfl⟩
  rw [hs]
  go_wp2_with fail
  refine (laid_any key nonce _ hk hn).mono ?_
  rintro e w2 ⟨rfl, h2⟩
  have hL : (row 16 (laidF key nonce 0#32)).length = 16 := row_length _ _
  go_wp2_with fail
  rw [Arr.store (f := fun _ => 0) (Arr.new _ _ _ _ _ (by rfl) _ rfl)]
  go_simp
  generalize hw3 : World.setCells _ _ _ _ = w3
  have hA : Arr w3 w2.heap.size 0 16 (laidF key nonce 0#32) := by rw [← hw3]; exact Arr.setRow (f := fun _ => 0) (Arr.new _ _ _ _ _ (by rfl) _ rfl) _
  have hS : Since w1 w3 := by rw [← hw3]; exact (h2.alloc _).setCells h2.size _ _
  have hb2 := h2.size
  have hbl : w2.heap.size < w3.heap.size := hA.lt (by omega)
  clear hw3 hL
  generalize w2.heap.size = b at *
  clear h2 hs
  go_wp2_with fail
  clear hmk
  go_loopw [10, 9] (fun i o wr => ∃ t : Nat, (t = 0 ∨ 64 * (t - 1) < s.size) ∧ i = .int .i64 (64 * t) ∧ o = .slice (some ⟨w3.heap.size, 0, none⟩) (min (64 * t) s.size) s.size ∧ Cel wr w3.heap.size s.size (xorTo key nonce s (64 * t)) ∧ (∃ n, Arr wr b 0 16 (laidF key nonce n)) ∧ Since w1 wr ∧ w3.heap.size < wr.heap.size) (fun i _ _ => s.size + 64 - (intOf i).toNat)
  case atStart =>
    refine ⟨0, Or.inl rfl, rfl, by simp, Cel.new w3 s.size _ _ _ (fun j hj => by simp [madeCells, hj, Nat.mod_one, xorTo]) _ rfl, ⟨0#32, hA.alloc _⟩, hS.alloc _, by simp⟩
  case round =>
    clear hA hS
    obtain ⟨t, ht, rfl, rfl, hC, ⟨n0, hA⟩, hS, hlw⟩ := hrel
    by_cases hlt : 64 * t < s.size
    · simp only [Nat.min_eq_left (Nat.le_of_lt hlt)]
      have c1 := hA.cell 12 (by omega)
      have f1 := hA.frozen 12 (by omega)
      rw [Nat.zero_add] at c1 f1
      have q1 : (64 * (t : Int)) / 64 = t := by omega
      have q2 : IntKind.i64.wrap (1 + (t : Int)) = 1 + t := by simp [IntKind.wrap, IntKind.bits, IntKind.signed]; omega
      have q3 : IntKind.u32.wrap (1 + (t : Int)) = 1 + t := by simp [IntKind.wrap, IntKind.bits, IntKind.signed]; omega
      have q4 : (64 * (t : Int)) < s.size := by omega
      have HT := (show Hid (t = 0 ∨ 64 * (t - 1) < s.size) from ht)
      clear ht
      have hU := num_of t
      rw [q3] at hU
      have hA4 : Arr (wr.setCell ⟨b, 12, none⟩ (.int .u32 (1 + (t : Int)))) b 0 16 (laidF key nonce (BitVec.ofNat 32 (1 + t))) := by
        have h4 := hA.set 12 (by omega) (BitVec.ofNat 32 (1 + t))
        rw [Nat.zero_add] at h4
        rw [hU]
        refine h4.congr (fun j _ => ?_)
        unfold upd laidF
        by_cases e : j = 12
        · subst e; simp
        · rw [if_neg e, if_neg e, if_neg e]
      have hC4 : Cel (wr.setCell ⟨b, 12, none⟩ (.int .u32 (1 + (t : Int)))) w3.heap.size s.size (xorTo key nonce s (64 * t)) := hC.other (by simp; omega) _
      have hS4 : Since w1 (wr.setCell ⟨b, 12, none⟩ (.int .u32 (1 + (t : Int)))) := hS.setCell hb2 _
      have hsz : (wr.setCell ⟨b, 12, none⟩ (.int .u32 (1 + (t : Int)))).heap.size = wr.heap.size := by simp
      have hRg := hA4.range
      have HA4 := (show Hid _ from hA4)
      have HC4 := (show Hid _ from hC4)
      have HS4 := (show Hid _ from hS4)
      clear hU hA4 hA hS hC hC4 hS4
      go_wp2_with (refine wpList_load_mid (by rfl) 391 _ (by rfl) b 0 (by rfl) _ _ hRg Tryz.underlying391 (by rfl) (by rw [row_length]; kernel_rfl) ?_)
      generalize World.setCell wr _ _ = w4 at *
      refine (mixed_any _ _).mono ?_
      rintro e w5 ⟨rfl, h5⟩
      go_wp2_with fail
      refine (written_any _ _).mono ?_
      rintro e w6 ⟨rfl, h6⟩
      have hL6 : (brow 64 (bval (byteOf (mixd (laidF key nonce (BitVec.ofNat 32 (1 + t))))))).length = 64 := brow_length _ _
      generalize hg : mixd (laidF key nonce (BitVec.ofNat 32 (1 + t))) = g at *
      have HG := (show Hid (mixd (laidF key nonce (BitVec.ofNat 32 (1 + t))) = g) from hg)
      clear hg hRg c1 f1
      go_wp2_with fail
      rw [Cel.store (Cel.zeros _ _ _ (by rfl) _ rfl)]
      go_simp
      have h56 := h5.trans h6
      generalize hw7 : World.setCells _ _ _ _ = w7
      have hD : Cel w7 w6.heap.size 64 (bval (byteOf g)) := by rw [← hw7]; exact Cel.setRow (Cel.zeros _ _ _ (by rfl) _ rfl) _
      have h47 : Since w4 w7 := by rw [← hw7]; exact (h56.alloc _).setCells h56.size _ _
      have hC7 := HC4.out.since h47
      have hA7 := HA4.out.since h47
      have hS7 : Since w1 w7 := Since.trans HS4.out h47
      have hz6 : w4.heap.size ≤ w6.heap.size := h56.size
      clear hw7 HA4 HC4 HS4 h5 h6 hL6 h47 h56
      generalize w6.heap.size = d at *
      have l8 : w3.heap.size < d := by omega
      by_cases hm : 64 * t + 64 ≤ s.size
      · have hm2 : (64 : Int) ≤ (s.size : Int) - 64 * t := by omega
        go_wp2_with fail
        go_loopw [43, 9] (fun i o wr => ∃ k : Nat, k ≤ 64 ∧ i = .int .i64 k ∧ o = .slice (some ⟨w3.heap.size, 0, none⟩) (64 * t + k) s.size ∧ Cel wr w3.heap.size s.size (xorTo key nonce s (64 * t + k)) ∧ Cel wr d 64 (bval (byteOf g)) ∧ Arr wr b 0 16 (laidF key nonce (BitVec.ofNat 32 (1 + t))) ∧ Since w1 wr ∧ w3.heap.size < wr.heap.size) (fun i _ _ => 64 - (intOf i).toNat)
        case atStart => exact ⟨0, by omega, rfl, rfl, hC7, hD, hA7, hS7, by have := hD.lt (by omega); omega⟩
        case round =>
          clear hC7 hD hA7 hS7
          obtain ⟨k, hk2, rfl, rfl, hC, hD, hA, hS, hl2⟩ := hrel
          by_cases hkl : k < 64
          · have a1 := hC.cell (64 * t + k) (by omega)
            have f1 := hC.frozen (64 * t + k) (by omega)
            have d1 := hD.cell k (by omega)
            have e1 : xorTo key nonce s (64 * t) (64 * t + k) = .int .u8 0 := by unfold xorTo; rw [if_neg (by omega)]
            have e2 : xorTo key nonce s (64 * t + k) (64 * t + k) = .int .u8 0 := by unfold xorTo; rw [if_neg (by omega)]
            rw [e2] at a1
            clear e1 e2
            unfold bval at d1
            have z0 : (0 : Int) ≤ 64 * t + k := by omega
            have z1 : (64 * (t : Int) + k) < s.size := by omega
            have z2 : (64 * (t : Int) + k).toNat = 64 * t + k := by omega
            have z3 : IntKind.i64.wrap (64 * (t : Int) + k) = 64 * t + k := by simp [IntKind.wrap, IntKind.bits, IntKind.signed]; omega
            have z4 : (k : Int) < 64 := by omega
            have z5 : 64 * t + k + 1 ≤ s.size := by omega
            have z6 : 64 * t + k < s.size := by omega
            have hdl := hD.lt (by omega)
            have n1 : ¬ w3.heap.size = d := by omega
            have n2 : ¬ wr.heap.size = d := by omega
            have n3 : ¬ wr.heap.size = w3.heap.size := by omega
            have HC := (show Hid (Cel wr w3.heap.size s.size (xorTo key nonce s (64 * t + k))) from hC)
            have HD := (show Hid (Cel wr d 64 (bval (byteOf g))) from hD)
            have HA := (show Hid (Arr wr b 0 16 (laidF key nonce (BitVec.ofNat 32 (1 + t)))) from hA)
            have HS := (show Hid (Since w1 wr) from hS)
            have HX : Hid (xorAt key nonce s (64 * t + k) = xorb s[64 * t + k].toNat (byteOf g k)) := by
              show xorAt key nonce s (64 * t + k) = _
              unfold xorAt byteAt
              rw [show (64 * t + k) / 64 = t by omega, show (64 * t + k) % 64 = k by omega, HG.out, List.getD_eq_getElem?_getD, List.getElem?_eq_getElem (by simpa using z6)]
              rfl
            generalize byteOf g k = y at *
            clear hC hD hA hS
            go_wp2_with fail
            go_region_held3 (fun w' => w'.cell? ⟨d, k, none⟩ = some (.int .u8 y)) (simp [d1, n1, n2, World.cell?_alloc_some, World.cell?_setCell_far]) (fail)
            all_goals
              have hC2 := HC.out.set (64 * t + k) (by omega) (.int .u8 (xorAt key nonce s (64 * t + k)))
              have hC3 := hC2.congr (fun j _ => xor_step key nonce s (64 * t + k) j)
              rw [HX.out] at hC3
              unfold xorb at hC3
              clear a1 f1 d1
              go_wp2_with fail
              go_roundw
              case rel =>
                exact ⟨k + 1, by omega, by go_num, rfl, hC3.since (((Since.refl _).alloc _).drew), (HD.out.other (by simp; omega) _).since (((Since.refl _).alloc _).drew), (HA.out.other (by simp; omega) _).since (((Since.refl _).alloc _).drew), ((HS.out.setCell (by simp; omega) _).alloc _).drew, by simp; omega⟩
              case measure => simp [intOf]; omega
          · have hke : k = 64 := by omega
            subst hke
            go_wp2_with fail
            refine ⟨⟨t + 1, Or.inr (by omega), by congr 1 <;> omega, by congr 1 <;> omega, hC.congr (fun j hj => ?_), ⟨_, hA⟩, hS, hl2⟩, by simp [intOf]; omega⟩
            unfold xorTo
            by_cases hj2 : j < 64 * t + 64
            · rw [if_pos hj2, if_pos (by omega)]
            · rw [if_neg hj2, if_neg (by omega)]
      · have hm2 : ¬ (64 : Int) ≤ (s.size : Int) - 64 * t := by omega
        have hm3 : (s.size : Int) - 64 * t < 64 := by omega
        go_wp2_with fail
        go_loopw [43, 9] (fun i o wr => ∃ k : Nat, k ≤ (s.size - 64 * t) ∧ i = .int .i64 k ∧ o = .slice (some ⟨w3.heap.size, 0, none⟩) (64 * t + k) s.size ∧ Cel wr w3.heap.size s.size (xorTo key nonce s (64 * t + k)) ∧ Cel wr d 64 (bval (byteOf g)) ∧ Arr wr b 0 16 (laidF key nonce (BitVec.ofNat 32 (1 + t))) ∧ Since w1 wr ∧ w3.heap.size < wr.heap.size) (fun i _ _ => (s.size - 64 * t) - (intOf i).toNat)
        case atStart => exact ⟨0, by omega, rfl, rfl, hC7, hD, hA7, hS7, by have := hD.lt (by omega); omega⟩
        case round =>
          clear hC7 hD hA7 hS7
          obtain ⟨k, hk2, rfl, rfl, hC, hD, hA, hS, hl2⟩ := hrel
          by_cases hkl : k < (s.size - 64 * t)
          · have a1 := hC.cell (64 * t + k) (by omega)
            have f1 := hC.frozen (64 * t + k) (by omega)
            have d1 := hD.cell k (by omega)
            have e1 : xorTo key nonce s (64 * t) (64 * t + k) = .int .u8 0 := by unfold xorTo; rw [if_neg (by omega)]
            have e2 : xorTo key nonce s (64 * t + k) (64 * t + k) = .int .u8 0 := by unfold xorTo; rw [if_neg (by omega)]
            rw [e2] at a1
            clear e1 e2
            unfold bval at d1
            have z0 : (0 : Int) ≤ 64 * t + k := by omega
            have z1 : (64 * (t : Int) + k) < s.size := by omega
            have z2 : (64 * (t : Int) + k).toNat = 64 * t + k := by omega
            have z3 : IntKind.i64.wrap (64 * (t : Int) + k) = 64 * t + k := by simp [IntKind.wrap, IntKind.bits, IntKind.signed]; omega
            have z4 : (k : Int) < 64 := by omega
            have z5 : 64 * t + k + 1 ≤ s.size := by omega
            have z6 : 64 * t + k < s.size := by omega
            have hdl := hD.lt (by omega)
            have n1 : ¬ w3.heap.size = d := by omega
            have n2 : ¬ wr.heap.size = d := by omega
            have n3 : ¬ wr.heap.size = w3.heap.size := by omega
            have HC := (show Hid (Cel wr w3.heap.size s.size (xorTo key nonce s (64 * t + k))) from hC)
            have HD := (show Hid (Cel wr d 64 (bval (byteOf g))) from hD)
            have HA := (show Hid (Arr wr b 0 16 (laidF key nonce (BitVec.ofNat 32 (1 + t)))) from hA)
            have HS := (show Hid (Since w1 wr) from hS)
            have HX : Hid (xorAt key nonce s (64 * t + k) = xorb s[64 * t + k].toNat (byteOf g k)) := by
              show xorAt key nonce s (64 * t + k) = _
              unfold xorAt byteAt
              rw [show (64 * t + k) / 64 = t by omega, show (64 * t + k) % 64 = k by omega, HG.out, List.getD_eq_getElem?_getD, List.getElem?_eq_getElem (by simpa using z6)]
              rfl
            generalize byteOf g k = y at *
            clear hC hD hA hS
            go_wp2_with fail
            go_region_held3 (fun w' => w'.cell? ⟨d, k, none⟩ = some (.int .u8 y)) (simp [d1, n1, n2, World.cell?_alloc_some, World.cell?_setCell_far]) (fail)
            all_goals
              have hC2 := HC.out.set (64 * t + k) (by omega) (.int .u8 (xorAt key nonce s (64 * t + k)))
              have hC3 := hC2.congr (fun j _ => xor_step key nonce s (64 * t + k) j)
              rw [HX.out] at hC3
              unfold xorb at hC3
              clear a1 f1 d1
              go_wp2_with fail
              go_roundw
              case rel =>
                exact ⟨k + 1, by omega, by go_num, rfl, hC3.since (((Since.refl _).alloc _).drew), (HD.out.other (by simp; omega) _).since (((Since.refl _).alloc _).drew), (HA.out.other (by simp; omega) _).since (((Since.refl _).alloc _).drew), ((HS.out.setCell (by simp; omega) _).alloc _).drew, by simp; omega⟩
              case measure => simp [intOf]; omega
          · have hke : k = (s.size - 64 * t) := by omega
            subst hke
            go_wp2_with fail
            refine ⟨⟨t + 1, Or.inr (by omega), by congr 1 <;> omega, by congr 1 <;> omega, hC.congr (fun j hj => ?_), ⟨_, hA⟩, hS, hl2⟩, by simp [intOf]; omega⟩
            unfold xorTo
            by_cases hj2 : j < 64 * t + (s.size - 64 * t)
            · rw [if_pos hj2, if_pos (by omega)]
            · rw [if_neg hj2, if_neg (by omega)]
    · simp only [Nat.min_eq_right (Nat.le_of_not_lt hlt)]
      have hcv := conv_cells wr (xorOf key nonce s) w3.heap.size s.size s.size (by simp [xorOf]) (fun i hi => by
        have hi' : i < s.size := by simpa [xorOf] using hi
        rw [hC.cell i hi']; simp [xorTo, xorOf, hi']; omega)
      go_wp2_with fail
      go_ret2
      exact ⟨rfl, hS⟩
end Sm.Sr
end Go.Proofs.YtlgocfgnfdnloaaGreatDoor
end
