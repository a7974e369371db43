import Derived.Laws.BitsAllLaws
import Derived.Test.YtbfjklpoheooaaaGreatDoorJ10
set_option linter.unusedSimpArgs false
set_option linter.unusedVariables false
section
namespace Go.Proofs.YtbfjklpoheooaaaGreatDoor
set_option maxRecDepth 100000
namespace Sm.Sr
open Go.RowKit
attribute [local go_sem] U_add U_mulc U_xor U_and U_or U_shr U_shl U_not U_conv U_byte U_cells U_match U_oneCell U_store U_store1
def addTo (f g : Nat → BitVec 32) (k : Nat) : Nat → BitVec 32 := fun j => if j < k then g j + f j else g j
theorem add_step (f g : Nat → BitVec 32) (k j : Nat) : upd (addTo f g k) k (g k + f k) j = addTo f g (k + 1) j := by
  unfold upd addTo
  by_cases e : j = k
  · subst e; rw [if_pos rfl, if_pos (by omega)]
  · rw [if_neg e]
    by_cases h : j < k
    · rw [if_pos h, if_pos (by omega)]
    · rw [if_neg h, if_neg (by omega)]
set_option maxHeartbeats 1000000 in
set_option maxRecDepth 100000 in
theorem mixed_any (f : Nat → BitVec 32) (w : World) :
    Calls Tryz.prog 164 #[.agg (row 16 f).toArray] w fun e w' => e = .returned (.agg (row 16 (mixd f)).toArray) ∧ Since w w' := by
  have er : (row 16 f).toArray = #[U (f 0), U (f 1), U (f 2), U (f 3), U (f 4), U (f 5), U (f 6), U (f 7), U (f 8), U (f 9), U (f 10), U (f 11), U (f 12), U (f 13), U (f 14), U (f 15)] := rfl
  rw [er]
  clear er
  go_enter Tryz.func164, Tryz.ntmps164
  go_wp2_with fail
  go_loopw [6] (fun i wr => ∃ k : Nat, k ≤ 10 ∧ i = .int .i64 k ∧ Arr wr w.heap.size 0 16 f ∧ Arr wr (w.heap.size + 1) 0 16 (fun _ => 0) ∧ Arr wr (w.heap.size + 2) 0 16 (rnds f k) ∧ Since w wr) (fun i _ => 10 - (intOf i).toNat)
  case atStart =>
    exact ⟨0, by omega, rfl, ((Arr.new w 16 f _ _ (by rfl) _ rfl).alloc _).alloc _, (Arr.new (w.alloc _) 16 _ _ _ (by rfl) _ (by simp)).alloc _, Arr.new ((w.alloc _).alloc _) 16 f _ _ (by rfl) _ (by simp), (((Since.refl _).alloc _).alloc _).alloc _⟩
  case round =>
    obtain ⟨k, hk, rfl, hF, hR, hA, hS⟩ := hrel
    by_cases hlt : k < 10
    · generalize hg : rnds f k = g at *
      have HG := (show Hid (rnds f k = g) from hg)
      clear hg
      have HF := (show Hid (Arr wr w.heap.size 0 16 f) from hF)
      have HR := (show Hid (Arr wr (w.heap.size + 1) 0 16 (fun _ => 0)) from hR)
      clear hF hR
      have hRg := hA.range
      go_wp2_with (refine wpList_load_mid (by rfl) 232 _ (by rfl) (w.heap.size + 2) 0 (by rfl) _ _ hRg Tryz.underlying232 (by rfl) (by rw [row_length]; kernel_rfl) ?_)
      refine (columns_any g _).mono ?_
      rintro e w1 ⟨rfl, h1⟩
      go_wp2_with fail
      refine (diagonals_any (rnd 0 g) _).mono ?_
      rintro e w2 ⟨rfl, h2⟩
      have h12 := h1.trans h2
      have hst := (hA.since h12).store Tryz.prog (rnd 1 (rnd 0 g))
      have hL : (row 16 (rnd 1 (rnd 0 g))).length = 16 := row_length _ _
      go_wp2_with fail
      refine ⟨⟨k + 1, by omega, by go_num, ?_, ?_, ?_, ?_⟩, by simp [intOf]; omega⟩
      · exact (HF.out.since h12).setRow_other _ (by omega)
      · exact (HR.out.since h12).setRow_other _ (by omega)
      · have e1 : rnds f (k + 1) = rnd 1 (rnd 0 g) := by rw [← HG.out]; rfl
        rw [e1]; exact (hA.since h12).setRow _
      · exact (hS.trans h12).setCells (by omega) _ _
    · have hke : k = 10 := by omega
      subst hke
      generalize hg : rnds f 10 = g at *
      have HG := (show Hid (rnds f 10 = g) from hg)
      clear hg
      go_wp2_with fail
      go_loopw [12] (fun i wr => ∃ k : Nat, k ≤ 16 ∧ i = .int .i64 k ∧ Arr wr w.heap.size 0 16 f ∧ Arr wr (w.heap.size + 1) 0 16 (fun _ => 0) ∧ Arr wr (w.heap.size + 2) 0 16 (addTo f g k) ∧ Since w wr) (fun i _ => 16 - (intOf i).toNat)
      case atStart => exact ⟨0, by omega, rfl, hF, hR, hA.congr (fun j _ => rfl), hS⟩
      case round =>
        obtain ⟨k, hk2, rfl, hF2, hR2, hA2, hS2⟩ := hrel
        by_cases hlt2 : k < 16
        · have c0 := hF2.cell k (by omega)
          have c1 := hA2.cell k (by omega)
          have f1 := hA2.frozen k (by omega)
          rw [Nat.zero_add] at c0 c1 f1
          have e0 : addTo f g k k = g k := by unfold addTo; rw [if_neg (by omega)]
          rw [e0] at c1
          clear e0
          have HF2 := (show Hid (Arr wr w.heap.size 0 16 f) from hF2)
          have HR2 := (show Hid (Arr wr (w.heap.size + 1) 0 16 (fun _ => 0)) from hR2)
          have HA2 := (show Hid (Arr wr (w.heap.size + 2) 0 16 (addTo f g k)) from hA2)
          have HS2 := (show Hid (Since w wr) from hS2)
          clear hF hR hA hF2 hR2 hA2 hS2
          go_wp2_with fail
          go_region
          all_goals
            go_wp2_with fail
            go_roundw
            case rel =>
              have h3 := HA2.out.set k hlt2 (g k + f k)
              rw [Nat.zero_add] at h3
              exact ⟨k + 1, by omega, by go_num, (HF2.out.other (by simp; omega) _).since (Since.refl _).drew, (HR2.out.other (by simp) _).since (Since.refl _).drew, (h3.congr (fun j _ => add_step f g k j)).since (Since.refl _).drew, (HS2.out.setCell (by simp; omega) _).drew⟩
            case measure => simp [intOf]; omega
        · have hke : k = 16 := by omega
          subst hke
          have hA3 : Arr wr (w.heap.size + 2) 0 16 (mixd f) := hA2.congr (fun j hj => by unfold addTo mixd; rw [if_pos hj, HG.out])
          have hRg := hA3.range
          have hst := hR2.store Tryz.prog (mixd f)
          have hL : (row 16 (mixd f)).length = 16 := row_length _ _
          go_wp2_with (refine wpList_load_mid (by rfl) 232 _ (by rfl) (w.heap.size + 2) 0 (by rfl) _ _ hRg Tryz.underlying232 (by rfl) (by rw [row_length]; kernel_rfl) ?_)
          exact bodyPost_ret (results_row Tryz.results164 _ _ _ (w.heap.size + 1) _ _ (by rfl) (hR2.setRow (mixd f)).range Tryz.underlying232 (by rfl) (by rw [row_length]; kernel_rfl)) rfl ⟨rfl, hS2.setCells (by omega) _ _⟩
end Sm.Sr
end Go.Proofs.YtbfjklpoheooaaaGreatDoor
end
section
namespace Go.Proofs.YtbfjklpoheooaaaGreatDoor
set_option maxRecDepth 100000
namespace Sm.Sr
open Go.RowKit
attribute [local go_sem] U_add U_mulc U_xor U_and U_or U_shr U_shl U_not U_conv U_byte U_cells U_match U_oneCell U_store U_store1
theorem ext_byte (s : ByteArray) (a b i : Nat) (h : i < (s.extract a b).size) (hb : b ≤ s.size) : (s.extract a b)[i] = byteAt s (a + i) := by
  have h2 : a + i < s.size := by simp [ByteArray.size_extract] at h; omega
  unfold byteAt
  rw [ByteArray.getElem_extract]
  rw [List.getD_eq_getElem?_getD, List.getElem?_eq_getElem (by simpa using h2)]
  rfl
theorem word_ext (s : ByteArray) (k e : Nat) (he : e ≤ s.size) (h0 : 0 < (s.extract (4 * k) e).size) (h1 : 1 < (s.extract (4 * k) e).size) (h2 : 2 < (s.extract (4 * k) e).size) (h3 : 3 < (s.extract (4 * k) e).size) :
    word4 (s.extract (4 * k) e)[0] (s.extract (4 * k) e)[1] (s.extract (4 * k) e)[2] (s.extract (4 * k) e)[3] = wordAt s k := by
  unfold wordAt
  rw [ext_byte s _ _ _ _ (by omega), ext_byte s _ _ _ _ (by omega), ext_byte s _ _ _ _ (by omega), ext_byte s _ _ _ _ (by omega), Nat.add_zero]
def keyTo (key : ByteArray) (k : Nat) : Nat → BitVec 32 := fun j =>
  if j = 0 then 1634760805#32 else if j = 1 then 857760878#32 else if j = 2 then 2036477234#32 else if j = 3 then 1797285236#32
  else if j < 4 + k then wordAt key (j - 4) else 0
def nonTo (key nonce : ByteArray) (k : Nat) : Nat → BitVec 32 := fun j => if j < 13 then keyTo key 8 j else if j < 13 + k then wordAt nonce (j - 13) else 0
theorem key_step (key : ByteArray) (k j : Nat) : upd (keyTo key k) (4 + k) (wordAt key k) j = keyTo key (k + 1) j := by
  unfold upd keyTo
  by_cases e : j = 4 + k
  · subst e
    rw [if_pos rfl, if_neg (by omega), if_neg (by omega), if_neg (by omega), if_neg (by omega), if_pos (by omega), show 4 + k - 4 = k by omega]
  · rw [if_neg e]
    by_cases h : j < 4 + k
    · rw [if_pos h, if_pos (show j < 4 + (k + 1) by omega)]
    · rw [if_neg h, if_neg (show ¬ j < 4 + (k + 1) by omega)]
theorem non_step (key nonce : ByteArray) (k j : Nat) : upd (nonTo key nonce k) (13 + k) (wordAt nonce k) j = nonTo key nonce (k + 1) j := by
  unfold upd nonTo
  by_cases e : j = 13 + k
  · subst e
    rw [if_pos rfl, if_neg (by omega), if_pos (by omega), show 13 + k - 13 = k by omega]
  · rw [if_neg e]
    by_cases h : j < 13 + k
    · rw [if_pos h, if_pos (show j < 13 + (k + 1) by omega)]
    · rw [if_neg h, if_neg (show ¬ j < 13 + (k + 1) by omega)]
theorem non_laid (key nonce : ByteArray) (j : Nat) (hj : j < 16) : nonTo key nonce 3 j = laidF key nonce 0#32 j := by
  unfold nonTo keyTo laidF
  by_cases h : j < 13
  · rw [if_pos h]
    by_cases h12 : j < 12
    · rw [if_pos (show j < 4 + 8 by omega), if_pos h12]
    · rw [if_neg (show ¬ j < 4 + 8 by omega), if_neg h12, if_pos (show j = 12 by omega)]; rfl
  · rw [if_neg h, if_pos (by omega), if_neg (by omega), if_neg (by omega), if_neg (by omega), if_neg (by omega), if_neg (by omega), if_neg (by omega)]
set_option maxHeartbeats 1000000 in
set_option maxRecDepth 100000 in
theorem laid_any (key nonce : ByteArray) (w : World) (hk : key.size = 32) (hn : nonce.size = 12) :
    Calls Tryz.prog 162 #[.string key, .string nonce] w fun e w' => e = .returned (.agg (row 16 (laidF key nonce 0#32)).toArray) ∧ Since w w' := by
  go_enter Tryz.func162, Tryz.ntmps162
  go_wp2_with fail
  go_loopw [9] (fun i wr => ∃ k : Nat, k ≤ 8 ∧ i = .int .i64 k ∧ Arr wr w.heap.size 0 16 (fun _ => 0) ∧ Arr wr (w.heap.size + 1) 0 16 (keyTo key k) ∧ Since w wr) (fun i _ => 8 - (intOf i).toNat)
  case atStart =>
    refine ⟨0, by omega, rfl, (Arr.new w 16 (fun _ => 0) _ _ (by rfl) _ rfl).alloc _, Arr.new (w.alloc _) 16 _ _ _ (by rfl) _ (by simp), ((Since.refl _).alloc _).alloc _⟩
  case round =>
    obtain ⟨k, hk8, rfl, hR, hA, hS⟩ := hrel
    by_cases hlt : k < 8
    · have hex : 4 ≤ (key.extract (4 * k) 32).size := by simp [ByteArray.size_extract]; omega
      have HW := (show Hid _ from word_ext key k 32 (by omega) (by omega) (by omega) (by omega) (by omega))
      have c1 := hA.cell (4 + k) (by omega)
      have f1 := hA.frozen (4 + k) (by omega)
      rw [Nat.zero_add] at c1 f1
      have t1 : ((4 : Int) + k).toNat = 4 + k := by omega
      have t2 : ((4 : Int) * k).toNat = 4 * k := by omega
      have HR := (show Hid (Arr wr w.heap.size 0 16 (fun _ => 0)) from hR)
      have HA := (show Hid (Arr wr (w.heap.size + 1) 0 16 (keyTo key k)) from hA)
      clear hR hA
      go_wp2_with fail
      refine (word_any _ _ hex).mono ?_
      rintro e w1 ⟨rfl, n, rfl⟩
      rw [HW.out]
      go_wp2_with fail
      go_roundw
      case rel =>
        have h3 := (HA.out.drewN n).set (4 + k) (by omega) (wordAt key k)
        rw [Nat.zero_add] at h3
        exact ⟨k + 1, by omega, by go_num, (HR.out.drewN n).other (by simp) _, h3.congr (fun j _ => key_step key k j), (hS.drewN n).setCell (by simp) _⟩
      case measure => simp [intOf]; omega
    · have hke : k = 8 := by omega
      subst hke
      go_wp2_with fail
      go_loopw [21] (fun i wr => ∃ k : Nat, k ≤ 3 ∧ i = .int .i64 k ∧ Arr wr w.heap.size 0 16 (fun _ => 0) ∧ Arr wr (w.heap.size + 1) 0 16 (nonTo key nonce k) ∧ Since w wr) (fun i _ => 3 - (intOf i).toNat)
      case atStart =>
        refine ⟨0, by omega, rfl, hR, hA.congr (fun j hj => ?_), hS⟩
        unfold nonTo
        by_cases h : j < 13
        · rw [if_pos h]
        · rw [if_neg h, if_neg (by omega)]
          unfold keyTo
          rw [if_neg (by omega), if_neg (by omega), if_neg (by omega), if_neg (by omega), if_neg (by omega)]
      case round =>
        clear hR hA hS
        obtain ⟨k, hk3, rfl, hR, hA, hS⟩ := hrel
        by_cases hlt2 : k < 3
        · have hex : 4 ≤ (nonce.extract (4 * k) 12).size := by simp [ByteArray.size_extract]; omega
          have HW := (show Hid _ from word_ext nonce k 12 (by omega) (by omega) (by omega) (by omega) (by omega))
          have c1 := hA.cell (13 + k) (by omega)
          have f1 := hA.frozen (13 + k) (by omega)
          rw [Nat.zero_add] at c1 f1
          have t1 : ((13 : Int) + k).toNat = 13 + k := by omega
          have t2 : ((4 : Int) * k).toNat = 4 * k := by omega
          have HR := (show Hid (Arr wr w.heap.size 0 16 (fun _ => 0)) from hR)
          have HA := (show Hid (Arr wr (w.heap.size + 1) 0 16 (nonTo key nonce k)) from hA)
          clear hR hA
          go_wp2_with fail
          refine (word_any _ _ hex).mono ?_
          rintro e w1 ⟨rfl, n, rfl⟩
          rw [HW.out]
          go_wp2_with fail
          go_roundw
          case rel =>
            have h3 := (HA.out.drewN n).set (13 + k) (by omega) (wordAt nonce k)
            rw [Nat.zero_add] at h3
            (repeat apply Exists.intro)
            exact ⟨⟨k + 1, by omega, by go_num, (HR.out.drewN n).other (by simp) _, h3.congr (fun j _ => non_step key nonce k j), (hS.drewN n).setCell (by simp) _⟩, rfl⟩
          case measure => simp [intOf]; omega
        · have hke : k = 3 := by omega
          subst hke
          have hA3 : Arr wr (w.heap.size + 1) 0 16 (laidF key nonce 0#32) := hA.congr (fun j hj => non_laid key nonce j hj)
          have hRg := hA3.range
          have hst := hR.store Tryz.prog (laidF key nonce 0#32)
          have hL : (row 16 (laidF key nonce 0#32)).length = 16 := row_length _ _
          clear hA
          go_wp2_with (refine wpList_load_mid (by rfl) 232 _ (by rfl) (w.heap.size + 1) 0 (by rfl) _ _ hRg Tryz.underlying232 (by rfl) (by rw [row_length]; kernel_rfl) ?_)
          exact bodyPost_ret (results_row Tryz.results162 _ _ _ w.heap.size _ _ (by rfl) (hR.setRow (laidF key nonce 0#32)).range Tryz.underlying232 (by rfl) (by rw [row_length]; kernel_rfl)) rfl ⟨rfl, hS.setCells (by omega) _ _⟩
end Sm.Sr
end Go.Proofs.YtbfjklpoheooaaaGreatDoor
end
section
namespace Go.Proofs.YtbfjklpoheooaaaGreatDoor
set_option maxRecDepth 100000
namespace Sm.Sr
open Go.RowKit
attribute [local go_sem] U_add U_mulc U_xor U_and U_or U_shr U_shl U_not U_conv U_byte U_cells U_match U_oneCell U_store U_store1
theorem conv_cells (w : World) (xs : List Int) (k m cap : Nat) (hm : m = xs.length) (hb : ∀ i, i < xs.length → w.cell? ⟨k, i, none⟩ = some (.int .u8 (xs.getD i 0))) :
    (convert 122 9 (.slice (some ⟨k, 0, none⟩) m cap)).run Tryz.prog w = .ok (.string (strOfNums xs)) w := by
  subst hm
  exact run_convert_bytes_arg _ 122 5 Tryz.underlying122 Tryz.underlying5 k 0 xs.length cap xs rfl (fun i hi => by rw [Nat.zero_add]; exact hb i hi) 9 Tryz.underlying9
theorem sized_any (key nonce : ByteArray) (w : World) :
    Calls Tryz.prog 161 #[.string key, .string nonce] w fun e w' => e = .returned (.bool (decide (key.size = 32) && decide (nonce.size = 12))) ∧ w' = w := by
  by_cases h1 : key.size = 32
  · by_cases h2 : nonce.size = 12
    · go_enter Tryz.func161, Tryz.ntmps161
      go_wp2_with fail
      go_ret
      exact ⟨by simp [h1, h2], rfl⟩
    · go_enter Tryz.func161, Tryz.ntmps161
      go_wp2_with fail
      go_ret
      refine ⟨?_, rfl⟩
      simp [h1, h2]
      omega
  · go_enter Tryz.func161, Tryz.ntmps161
    go_wp2_with fail
    go_ret
    refine ⟨?_, rfl⟩
    simp [h1]
end Sm.Sr
end Go.Proofs.YtbfjklpoheooaaaGreatDoor
end
section
namespace Go.Proofs.YtbfjklpoheooaaaGreatDoor
set_option maxRecDepth 100000
namespace Sm.Sr
open Go.RowKit
attribute [local go_sem] U_add U_mulc U_xor U_and U_or U_shr U_shl U_not U_conv U_byte U_cells U_match U_oneCell U_store U_store1
def xorb (a b : Int) : Int := bits BinOp.xor IntKind.u8 a b
def xorAt (key nonce s : ByteArray) (i : Nat) : Int := xorb (byteAt s i).toNat (byteOf (mixd (laidF key nonce (BitVec.ofNat 32 (1 + i / 64)))) (i % 64))
def xorOf (key nonce s : ByteArray) : List Int := (List.range s.size).map (xorAt key nonce s)
def xorTo (key nonce s : ByteArray) (m : Nat) : Nat → Value := fun j => .int .u8 (if j < m then xorAt key nonce s j else 0)
theorem xor_step (key nonce s : ByteArray) (m j : Nat) : updv (xorTo key nonce s m) m (.int .u8 (xorAt key nonce s m)) j = xorTo key nonce s (m + 1) j := by
  unfold updv xorTo
  by_cases e : j = m
  · subst e; rw [if_pos rfl, if_pos (by omega)]
  · rw [if_neg e]
    by_cases h : j < m
    · rw [if_pos h, if_pos (by omega)]
    · rw [if_neg h, if_neg (by omega)]
theorem num_of (t : Nat) : Value.int .u32 (IntKind.u32.wrap ((1 : Int) + t)) = U (BitVec.ofNat 32 (1 + t)) := by
  unfold U
  rw [wrap_u32]
  have e : ((1 : Int) + t) = ((1 + t : Nat) : Int) := by omega
  rw [e, BitVec.ofInt_natCast]
set_option maxHeartbeats 1000000 in
set_option maxRecDepth 100000 in
theorem xor_any (key nonce s : ByteArray) (w : World) (hk : key.size = 32) (hn : nonce.size = 12) (hz : s.size ≤ 100000) :
    Calls Tryz.prog 133 #[.string key, .string nonce, .string s] w fun e w' => e = .returned (.tuple #[.string (strOfNums (xorOf key nonce s)), .nilIface]) ∧ Since w w' := by
  have hs : (decide (key.size = 32) && decide (nonce.size = 12)) = true := by simp [hk, hn]
  obtain ⟨ti, hti, htz, hb1, hs1⟩ : ∃ i, Tryz.prog.info? 5 = some i ∧ i.zero = some (.int .u8 0) ∧ i.bytes = 1 ∧ i.size = 1 := ⟨_, rfl, by kernel_rfl, by kernel_rfl, by kernel_rfl⟩
  have hmk := fun w => run_make (P := Tryz.prog) w 122 5 ti _ Tryz.underlying122 hti htz .i64 .i64 0 (s.size : Int) (by omega) (by omega) (by rw [hb1]; omega) (by omega)
  rw [hs1] at hmk
  clear hti htz hb1 hs1
  go_enter Tryz.func133, Tryz.ntmps133
  go_wp2_with fail
  refine (sized_any _ _ _).mono ?_
  rintro e w1 ⟨rfl, rfl⟩
  rw [hs]
  go_wp2_with fail
  refine (laid_any key nonce _ hk hn).mono ?_
  rintro e w2 ⟨rfl, h2⟩
  have hL : (row 16 (laidF key nonce 0#32)).length = 16 := row_length _ _
  go_wp2_with fail
  rw [Arr.store (f := fun _ => 0) (Arr.new _ _ _ _ _ (by rfl) _ rfl)]
  go_simp
  generalize hw3 : World.setCells _ _ _ _ = w3
  have hA : Arr w3 w2.heap.size 0 16 (laidF key nonce 0#32) := by rw [← hw3]; exact Arr.setRow (f := fun _ => 0) (Arr.new _ _ _ _ _ (by rfl) _ rfl) _
  have hS : Since w1 w3 := by rw [← hw3]; exact (h2.alloc _).setCells h2.size _ _
  have hb2 := h2.size
  have hbl : w2.heap.size < w3.heap.size := hA.lt (by omega)
  clear hw3 hL
  generalize w2.heap.size = b at *
  clear h2 hs
  go_wp2_with fail
  clear hmk
  go_loopw [10, 9] (fun i o wr => ∃ t : Nat, (t = 0 ∨ 64 * (t - 1) < s.size) ∧ i = .int .i64 (64 * t) ∧ o = .slice (some ⟨w3.heap.size, 0, none⟩) (min (64 * t) s.size) s.size ∧ Cel wr w3.heap.size s.size (xorTo key nonce s (64 * t)) ∧ (∃ n, Arr wr b 0 16 (laidF key nonce n)) ∧ Since w1 wr ∧ w3.heap.size < wr.heap.size) (fun i _ _ => s.size + 64 - (intOf i).toNat)
  case atStart =>
    refine ⟨0, Or.inl rfl, rfl, by simp, Cel.new w3 s.size _ _ _ (fun j hj => by simp [madeCells, hj, Nat.mod_one, xorTo]) _ rfl, ⟨0#32, hA.alloc _⟩, hS.alloc _, by simp⟩
  case round =>
    clear hA hS
    obtain ⟨t, ht, rfl, rfl, hC, ⟨n0, hA⟩, hS, hlw⟩ := hrel
    by_cases hlt : 64 * t < s.size
    · simp only [Nat.min_eq_left (Nat.le_of_lt hlt)]
      have c1 := hA.cell 12 (by omega)
      have f1 := hA.frozen 12 (by omega)
      rw [Nat.zero_add] at c1 f1
      have q1 : (64 * (t : Int)) / 64 = t := by omega
      have q2 : IntKind.i64.wrap (1 + (t : Int)) = 1 + t := by simp [IntKind.wrap, IntKind.bits, IntKind.signed]; omega
      have q3 : IntKind.u32.wrap (1 + (t : Int)) = 1 + t := by simp [IntKind.wrap, IntKind.bits, IntKind.signed]; omega
      have q4 : (64 * (t : Int)) < s.size := by omega
      have HT := (show Hid (t = 0 ∨ 64 * (t - 1) < s.size) from ht)
      clear ht
      have hU := num_of t
      rw [q3] at hU
      have hA4 : Arr (wr.setCell ⟨b, 12, none⟩ (.int .u32 (1 + (t : Int)))) b 0 16 (laidF key nonce (BitVec.ofNat 32 (1 + t))) := by
        have h4 := hA.set 12 (by omega) (BitVec.ofNat 32 (1 + t))
        rw [Nat.zero_add] at h4
        rw [hU]
        refine h4.congr (fun j _ => ?_)
        unfold upd laidF
        by_cases e : j = 12
        · subst e; simp
        · rw [if_neg e, if_neg e, if_neg e]
      have hC4 : Cel (wr.setCell ⟨b, 12, none⟩ (.int .u32 (1 + (t : Int)))) w3.heap.size s.size (xorTo key nonce s (64 * t)) := hC.other (by simp; omega) _
      have hS4 : Since w1 (wr.setCell ⟨b, 12, none⟩ (.int .u32 (1 + (t : Int)))) := hS.setCell hb2 _
      have hsz : (wr.setCell ⟨b, 12, none⟩ (.int .u32 (1 + (t : Int)))).heap.size = wr.heap.size := by simp
      have hRg := hA4.range
      have HA4 := (show Hid _ from hA4)
      have HC4 := (show Hid _ from hC4)
      have HS4 := (show Hid _ from hS4)
      clear hU hA4 hA hS hC hC4 hS4
      go_wp2_with (refine wpList_load_mid (by rfl) 232 _ (by rfl) b 0 (by rfl) _ _ hRg Tryz.underlying232 (by rfl) (by rw [row_length]; kernel_rfl) ?_)
      generalize World.setCell wr _ _ = w4 at *
      refine (mixed_any _ _).mono ?_
      rintro e w5 ⟨rfl, h5⟩
      go_wp2_with fail
      refine (written_any _ _).mono ?_
      rintro e w6 ⟨rfl, h6⟩
      have hL6 : (brow 64 (bval (byteOf (mixd (laidF key nonce (BitVec.ofNat 32 (1 + t))))))).length = 64 := brow_length _ _
      generalize hg : mixd (laidF key nonce (BitVec.ofNat 32 (1 + t))) = g at *
      have HG := (show Hid (mixd (laidF key nonce (BitVec.ofNat 32 (1 + t))) = g) from hg)
      clear hg hRg c1 f1
      go_wp2_with fail
      rw [Cel.store (Cel.zeros _ _ _ (by rfl) _ rfl)]
      go_simp
      have h56 := h5.trans h6
      generalize hw7 : World.setCells _ _ _ _ = w7
      have hD : Cel w7 w6.heap.size 64 (bval (byteOf g)) := by rw [← hw7]; exact Cel.setRow (Cel.zeros _ _ _ (by rfl) _ rfl) _
      have h47 : Since w4 w7 := by rw [← hw7]; exact (h56.alloc _).setCells h56.size _ _
      have hC7 := HC4.out.since h47
      have hA7 := HA4.out.since h47
      have hS7 : Since w1 w7 := Since.trans HS4.out h47
      have hz6 : w4.heap.size ≤ w6.heap.size := h56.size
      clear hw7 HA4 HC4 HS4 h5 h6 hL6 h47 h56
      generalize w6.heap.size = d at *
      have l8 : w3.heap.size < d := by omega
      by_cases hm : 64 * t + 64 ≤ s.size
      · have hm2 : (64 : Int) ≤ (s.size : Int) - 64 * t := by omega
        go_wp2_with fail
        go_loopw [43, 9] (fun i o wr => ∃ k : Nat, k ≤ 64 ∧ i = .int .i64 k ∧ o = .slice (some ⟨w3.heap.size, 0, none⟩) (64 * t + k) s.size ∧ Cel wr w3.heap.size s.size (xorTo key nonce s (64 * t + k)) ∧ Cel wr d 64 (bval (byteOf g)) ∧ Arr wr b 0 16 (laidF key nonce (BitVec.ofNat 32 (1 + t))) ∧ Since w1 wr ∧ w3.heap.size < wr.heap.size) (fun i _ _ => 64 - (intOf i).toNat)
        case atStart => exact ⟨0, by omega, rfl, rfl, hC7, hD, hA7, hS7, by have := hD.lt (by omega); omega⟩
        case round =>
          clear hC7 hD hA7 hS7
          obtain ⟨k, hk2, rfl, rfl, hC, hD, hA, hS, hl2⟩ := hrel
          by_cases hkl : k < 64
          · have a1 := hC.cell (64 * t + k) (by omega)
            have f1 := hC.frozen (64 * t + k) (by omega)
            have d1 := hD.cell k (by omega)
            have e1 : xorTo key nonce s (64 * t) (64 * t + k) = .int .u8 0 := by unfold xorTo; rw [if_neg (by omega)]
            have e2 : xorTo key nonce s (64 * t + k) (64 * t + k) = .int .u8 0 := by unfold xorTo; rw [if_neg (by omega)]
            rw [e2] at a1
            clear e1 e2
            unfold bval at d1
            have z0 : (0 : Int) ≤ 64 * t + k := by omega
            have z1 : (64 * (t : Int) + k) < s.size := by omega
            have z2 : (64 * (t : Int) + k).toNat = 64 * t + k := by omega
            have z3 : IntKind.i64.wrap (64 * (t : Int) + k) = 64 * t + k := by simp [IntKind.wrap, IntKind.bits, IntKind.signed]; omega
            have z4 : (k : Int) < 64 := by omega
            have z5 : 64 * t + k + 1 ≤ s.size := by omega
            have z6 : 64 * t + k < s.size := by omega
            have hdl := hD.lt (by omega)
            have n1 : ¬ w3.heap.size = d := by omega
            have n2 : ¬ wr.heap.size = d := by omega
            have n3 : ¬ wr.heap.size = w3.heap.size := by omega
            have HC := (show Hid (Cel wr w3.heap.size s.size (xorTo key nonce s (64 * t + k))) from hC)
            have HD := (show Hid (Cel wr d 64 (bval (byteOf g))) from hD)
            have HA := (show Hid (Arr wr b 0 16 (laidF key nonce (BitVec.ofNat 32 (1 + t)))) from hA)
            have HS := (show Hid (Since w1 wr) from hS)
            have HX : Hid (xorAt key nonce s (64 * t + k) = xorb s[64 * t + k].toNat (byteOf g k)) := by
              show xorAt key nonce s (64 * t + k) = _
              unfold xorAt byteAt
              rw [show (64 * t + k) / 64 = t by omega, show (64 * t + k) % 64 = k by omega, HG.out, List.getD_eq_getElem?_getD, List.getElem?_eq_getElem (by simpa using z6)]
              rfl
            generalize byteOf g k = y at *
            clear hC hD hA hS
            go_wp2_with fail
            go_region_held3 (fun w' => w'.cell? ⟨d, k, none⟩ = some (.int .u8 y)) (simp [d1, n1, n2, World.cell?_alloc_some, World.cell?_setCell_far]) (fail)
            all_goals
              have hC2 := HC.out.set (64 * t + k) (by omega) (.int .u8 (xorAt key nonce s (64 * t + k)))
              have hC3 := hC2.congr (fun j _ => xor_step key nonce s (64 * t + k) j)
              rw [HX.out] at hC3
              unfold xorb at hC3
              clear a1 f1 d1
              go_wp2_with fail
              go_roundw
              case rel =>
                exact ⟨k + 1, by omega, by go_num, rfl, hC3.since (((Since.refl _).alloc _).drew), (HD.out.other (by simp; omega) _).since (((Since.refl _).alloc _).drew), (HA.out.other (by simp; omega) _).since (((Since.refl _).alloc _).drew), ((HS.out.setCell (by simp; omega) _).alloc _).drew, by simp; omega⟩
              case measure => simp [intOf]; omega
          · have hke : k = 64 := by omega
            subst hke
            go_wp2_with fail
            refine ⟨⟨t + 1, Or.inr (by omega), by congr 1 <;> omega, by congr 1 <;> omega, hC.congr (fun j hj => ?_), ⟨_, hA⟩, hS, hl2⟩, by simp [intOf]; omega⟩
            unfold xorTo
            by_cases hj2 : j < 64 * t + 64
            · rw [if_pos hj2, if_pos (by omega)]
            · rw [if_neg hj2, if_neg (by omega)]
      · have hm2 : ¬ (64 : Int) ≤ (s.size : Int) - 64 * t := by omega
        have hm3 : (s.size : Int) - 64 * t < 64 := by omega
        go_wp2_with fail
        go_loopw [43, 9] (fun i o wr => ∃ k : Nat, k ≤ (s.size - 64 * t) ∧ i = .int .i64 k ∧ o = .slice (some ⟨w3.heap.size, 0, none⟩) (64 * t + k) s.size ∧ Cel wr w3.heap.size s.size (xorTo key nonce s (64 * t + k)) ∧ Cel wr d 64 (bval (byteOf g)) ∧ Arr wr b 0 16 (laidF key nonce (BitVec.ofNat 32 (1 + t))) ∧ Since w1 wr ∧ w3.heap.size < wr.heap.size) (fun i _ _ => (s.size - 64 * t) - (intOf i).toNat)
        case atStart => exact ⟨0, by omega, rfl, rfl, hC7, hD, hA7, hS7, by have := hD.lt (by omega); omega⟩
        case round =>
          clear hC7 hD hA7 hS7
          obtain ⟨k, hk2, rfl, rfl, hC, hD, hA, hS, hl2⟩ := hrel
          by_cases hkl : k < (s.size - 64 * t)
          · have a1 := hC.cell (64 * t + k) (by omega)
            have f1 := hC.frozen (64 * t + k) (by omega)
            have d1 := hD.cell k (by omega)
            have e1 : xorTo key nonce s (64 * t) (64 * t + k) = .int .u8 0 := by unfold xorTo; rw [if_neg (by omega)]
            have e2 : xorTo key nonce s (64 * t + k) (64 * t + k) = .int .u8 0 := by unfold xorTo; rw [if_neg (by omega)]
            rw [e2] at a1
            clear e1 e2
            unfold bval at d1
            have z0 : (0 : Int) ≤ 64 * t + k := by omega
            have z1 : (64 * (t : Int) + k) < s.size := by omega
            have z2 : (64 * (t : Int) + k).toNat = 64 * t + k := by omega
            have z3 : IntKind.i64.wrap (64 * (t : Int) + k) = 64 * t + k := by simp [IntKind.wrap, IntKind.bits, IntKind.signed]; omega
            have z4 : (k : Int) < 64 := by omega
            have z5 : 64 * t + k + 1 ≤ s.size := by omega
            have z6 : 64 * t + k < s.size := by omega
            have hdl := hD.lt (by omega)
            have n1 : ¬ w3.heap.size = d := by omega
            have n2 : ¬ wr.heap.size = d := by omega
            have n3 : ¬ wr.heap.size = w3.heap.size := by omega
            have HC := (show Hid (Cel wr w3.heap.size s.size (xorTo key nonce s (64 * t + k))) from hC)
            have HD := (show Hid (Cel wr d 64 (bval (byteOf g))) from hD)
            have HA := (show Hid (Arr wr b 0 16 (laidF key nonce (BitVec.ofNat 32 (1 + t)))) from hA)
            have HS := (show Hid (Since w1 wr) from hS)
            have HX : Hid (xorAt key nonce s (64 * t + k) = xorb s[64 * t + k].toNat (byteOf g k)) := by
              show xorAt key nonce s (64 * t + k) = _
              unfold xorAt byteAt
              rw [show (64 * t + k) / 64 = t by omega, show (64 * t + k) % 64 = k by omega, HG.out, List.getD_eq_getElem?_getD, List.getElem?_eq_getElem (by simpa using z6)]
              rfl
            generalize byteOf g k = y at *
            clear hC hD hA hS
            go_wp2_with fail
            go_region_held3 (fun w' => w'.cell? ⟨d, k, none⟩ = some (.int .u8 y)) (simp [d1, n1, n2, World.cell?_alloc_some, World.cell?_setCell_far]) (fail)
            all_goals
              have hC2 := HC.out.set (64 * t + k) (by omega) (.int .u8 (xorAt key nonce s (64 * t + k)))
              have hC3 := hC2.congr (fun j _ => xor_step key nonce s (64 * t + k) j)
              rw [HX.out] at hC3
              unfold xorb at hC3
              clear a1 f1 d1
              go_wp2_with fail
              go_roundw
              case rel =>
                exact ⟨k + 1, by omega, by go_num, rfl, hC3.since (((Since.refl _).alloc _).drew), (HD.out.other (by simp; omega) _).since (((Since.refl _).alloc _).drew), (HA.out.other (by simp; omega) _).since (((Since.refl _).alloc _).drew), ((HS.out.setCell (by simp; omega) _).alloc _).drew, by simp; omega⟩
              case measure => simp [intOf]; omega
          · have hke : k = (s.size - 64 * t) := by omega
            subst hke
            go_wp2_with fail
            refine ⟨⟨t + 1, Or.inr (by omega), by congr 1 <;> omega, by congr 1 <;> omega, hC.congr (fun j hj => ?_), ⟨_, hA⟩, hS, hl2⟩, by simp [intOf]; omega⟩
            unfold xorTo
            by_cases hj2 : j < 64 * t + (s.size - 64 * t)
            · rw [if_pos hj2, if_pos (by omega)]
            · rw [if_neg hj2, if_neg (by omega)]
    · simp only [Nat.min_eq_right (Nat.le_of_not_lt hlt)]
      have hcv := conv_cells wr (xorOf key nonce s) w3.heap.size s.size s.size (by simp [xorOf]) (fun i hi => by
        have hi' : i < s.size := by simpa [xorOf] using hi
        rw [hC.cell i hi']; simp [xorTo, xorOf, hi']; omega)
      go_wp2_with fail
      go_ret2
      exact ⟨rfl, hS⟩
end Sm.Sr
end Go.Proofs.YtbfjklpoheooaaaGreatDoor
end
section
namespace Go.Proofs.YtbfjklpoheooaaaGreatDoor
set_option maxRecDepth 100000
namespace Sm.Sr
open Go.RowKit
theorem or_turn (x : BitVec 32) (n : Nat) (hn : n < 32) : BitVec.ofNat 32 (x.toNat * 2 ^ n ||| x.toNat * 2 ^ n / 4294967296) = rol x n := by
  unfold rol
  apply BitVec.eq_of_toNat_eq
  have hx := x.isLt
  rw [BitVec.toNat_ofNat, BitVec.toNat_or, BitVec.toNat_shiftLeft, BitVec.toNat_ushiftRight, Nat.shiftLeft_eq, Nat.shiftRight_eq_div_pow, Nat.or_mod_two_pow]
  have e : x.toNat * 2 ^ n / 4294967296 = x.toNat / 2 ^ (32 - n) := by
    rw [show 4294967296 = 2 ^ (32 - n) * 2 ^ n by rw [← Nat.pow_add, show 32 - n + n = 32 by omega], Nat.mul_div_mul_right _ _ (Nat.pow_pos (by decide))]
  rw [e, Nat.mod_eq_of_lt (a := x.toNat / 2 ^ (32 - n)) (Nat.lt_of_le_of_lt (Nat.div_le_self _ _) hx)]
attribute [local go_sem ↓] U_conv
set_option maxHeartbeats 400000 in
theorem left_any (x : BitVec 32) (n : Int) (w : World) (h0 : 0 ≤ n) (h1 : n < 32) :
    Calls Tryz.prog 182 #[U x, .int .u64 n] w fun e w' => e = .returned (U (rol x n.toNat)) ∧ w' = w := by
  obtain ⟨m, rfl⟩ := Int.eq_ofNat_of_zero_le h0
  have hm : m < 32 := by omega
  have hx := x.isLt
  have hU : U x = .int .u32 (x.toNat : Int) := rfl
  rw [hU]
  have v0 : IntKind.u64.wrap (x.toNat : Int) = x.toNat := by simp [IntKind.wrap, IntKind.bits, IntKind.signed]; omega
  have hp : x.toNat * 2 ^ m < 18446744073709551616 := by
    have h2 : 2 ^ m ≤ 2 ^ 31 := Nat.pow_le_pow_right (by decide) (by omega)
    have h3 : x.toNat * 2 ^ m ≤ x.toNat * 2 ^ 31 := Nat.mul_le_mul_left _ h2
    omega
  have hmin : min m 64 = m := by omega
  have v1 : IntKind.u64.wrap ((x.toNat : Int) * 2 ^ m) = ((x.toNat * 2 ^ m : Nat) : Int) := by
    have e : ((x.toNat : Int) * 2 ^ m) = ((x.toNat * 2 ^ m : Nat) : Int) := by norm_cast
    rw [e]; simp only [IntKind.wrap, IntKind.bits, IntKind.signed]; simp; omega
  go_enter Tryz.func182, Tryz.ntmps182
  go_wp2_with fail
  go_ret
  refine ⟨?_, rfl⟩
  have e : ((x.toNat : Int) * 2 ^ m) = ((x.toNat * 2 ^ m : Nat) : Int) := by norm_cast
  have e2 : (((x.toNat * 2 ^ m : Nat) : Int) / 4294967296) = ((x.toNat * 2 ^ m / 4294967296 : Nat) : Int) := (Int.natCast_ediv _ 4294967296).symm
  show Ending.returned (U (BitVec.ofInt 32 (bits BinOp.or IntKind.u64 ((x.toNat : Int) * 2 ^ m) ((x.toNat : Int) * 2 ^ m / 4294967296)))) = _
  rw [e, e2, u64_or_nat _ _ hp (by omega), BitVec.ofInt_natCast, or_turn x m hm, Int.toNat_natCast]
end Sm.Sr
end Go.Proofs.YtbfjklpoheooaaaGreatDoor
end
section
namespace Go.Proofs.YtbfjklpoheooaaaGreatDoor
set_option maxRecDepth 100000
namespace Sm.Sr
open Go.RowKit
attribute [local go_sem] U_add U_mulc U_xor U_and U_or U_shr U_shl U_not U_conv U_byte U_cells U_match U_oneCell U_store U_store1 isSome_set
structure Fr (b : Nat) (w w' : World) : Prop where
  since : ∀ a, Since a w → a.heap.size ≤ b → Since a w'
  arr : ∀ c o n f, c ≠ b → Arr w c o n f → Arr w' c o n f
  size : w.heap.size ≤ w'.heap.size
theorem Fr.refl (b : Nat) (w : World) : Fr b w w := ⟨fun _ h _ => h, fun _ _ _ _ _ h => h, Nat.le_refl _⟩
theorem Fr.trans {b : Nat} {w w' w'' : World} (h : Fr b w w') (k : Fr b w' w'') : Fr b w w'' := ⟨fun a h1 h2 => k.since a (h.since a h1 h2) h2, fun c o n f h1 h2 => k.arr c o n f h1 (h.arr c o n f h1 h2), Nat.le_trans h.size k.size⟩
theorem Fr.of_since {b : Nat} {w w' : World} (h : Since w w') : Fr b w w' := ⟨fun _ h1 _ => h1.trans h, fun _ _ _ _ _ h1 => h1.since h, h.size⟩
theorem Fr.set {b o : Nat} {w w' : World} (h : Fr b w w') (v : Value) : Fr b w (w'.setCell ⟨b, o, none⟩ v) := h.trans ⟨fun _ h1 h2 => h1.setCell (p := ⟨b, o, none⟩) h2 v, fun _ _ _ _ h1 h2 => h2.other (a := ⟨b, o, none⟩) (fun e => h1 e.symm) v, by simp⟩
theorem Fr.drew {b : Nat} {w w' : World} (h : Fr b w w') : Fr b w w'.drew := h.trans (Fr.of_since (Since.refl _).drew)
theorem Fr.drewN {b : Nat} {w w' : World} (h : Fr b w w') (n : Nat) : Fr b w (w'.drewN n) := h.trans (Fr.of_since ((Since.refl _).drewN n))
def stp (g : Nat → BitVec 32) (i0 i1 i2 i3 m n : Nat) : Nat → BitVec 32 :=
  let q := half ⟨g i0, g i1, g i2, g i3⟩ m n
  upd (upd (upd (upd g i0 q.a) i3 q.d) i2 q.c) i1 q.b
def mx (g : Nat → BitVec 32) (i0 i1 i2 i3 : Nat) : Nat → Nat → BitVec 32
  | 0 => g
  | 1 => stp g i0 i1 i2 i3 16 12
  | _ => stp (stp g i0 i1 i2 i3 16 12) i0 i1 i2 i3 8 7
set_option maxHeartbeats 4000000 in
set_option maxRecDepth 100000 in
theorem mix_any (g0 : Nat → BitVec 32) (b cap i0 i1 i2 i3 : Nat) (w : World) (l0 : i0 < 16) (l1 : i1 < 16) (l2 : i2 < 16) (l3 : i3 < 16)
    (n03 : i0 ≠ i3) (n02 : i0 ≠ i2) (n01 : i0 ≠ i1) (n12 : i1 ≠ i2) (n13 : i1 ≠ i3) (n23 : i2 ≠ i3) (hA : Arr w b 0 16 g0) :
    Calls Tryz.prog 172 #[.slice (some ⟨b, 0, none⟩) 16 cap, .agg #[.int .i64 i0, .int .i64 i1, .int .i64 i2, .int .i64 i3]] w fun e w' => e = .returned (.tuple #[]) ∧ Arr w' b 0 16 (mx g0 i0 i1 i2 i3 2) ∧ Fr b w w' := by
  have hbl := hA.lt (by omega)
  have N := (show Hid ((i0 ≠ i3 ∧ i0 ≠ i2 ∧ i0 ≠ i1) ∧ (i1 ≠ i2 ∧ i1 ≠ i3 ∧ i2 ≠ i3)) from ⟨⟨n03, n02, n01⟩, n12, n13, n23⟩)
  clear n03 n02 n01 n12 n13 n23
  have HA0 := (show Hid (Arr w b 0 16 g0) from hA)
  clear hA
  have j0 : (i0 : Int) < 16 := by omega
  have j1 : (i1 : Int) < 16 := by omega
  have j2 : (i2 : Int) < 16 := by omega
  have j3 : (i3 : Int) < 16 := by omega
  go_enter Tryz.func172, Tryz.ntmps172
  go_wp2_with fail
  go_loopw [10] (fun i wr => ∃ k : Nat, k ≤ 2 ∧ i = .int .i64 k ∧ Arr wr b 0 16 (mx g0 i0 i1 i2 i3 k) ∧ Cel wr w.heap.size 4 (fun j => [Value.int .i64 i0, .int .i64 i1, .int .i64 i2, .int .i64 i3].getD j undef) ∧ Fr b w wr) (fun i _ => 2 - (intOf i).toNat)
  case atStart =>
    refine ⟨0, by omega, rfl, HA0.out.alloc _, Cel.new w 4 _ _ _ (fun j hj => ?_) _ rfl, Fr.of_since ((Since.refl _).alloc _)⟩
    match j, hj with
    | 0, _ => rfl
    | 1, _ => rfl
    | 2, _ => rfl
    | 3, _ => rfl
  case round =>
    obtain ⟨k, hk, rfl, hA, hB, hF⟩ := hrel
    by_cases hlt : k < 2
    · have hstep : mx g0 i0 i1 i2 i3 (k + 1) = stp (mx g0 i0 i1 i2 i3 k) i0 i1 i2 i3 (16 - 8 * k) (12 - 5 * k) := by
        rcases k with _ | _ | k
        · rfl
        · rfl
        · omega
      have HST := (show Hid _ from hstep)
      clear hstep
      have hk01 : k = 0 ∨ k = 1 := by omega
      generalize mx g0 i0 i1 i2 i3 k = g at *
      have HA := (show Hid (Arr wr b 0 16 g) from hA)
      have HB := (show Hid (Cel wr w.heap.size 4 (fun j => [Value.int .i64 i0, .int .i64 i1, .int .i64 i2, .int .i64 i3].getD j undef)) from hB)
      have HF := (show Hid (Fr b w wr) from hF)
      have b0 : wr.cell? ⟨w.heap.size, 0, none⟩ = some (.int .i64 i0) := hB.cell 0 (by omega)
      have b1 : wr.cell? ⟨w.heap.size, 1, none⟩ = some (.int .i64 i1) := hB.cell 1 (by omega)
      have b2 : wr.cell? ⟨w.heap.size, 2, none⟩ = some (.int .i64 i2) := hB.cell 2 (by omega)
      have b3 : wr.cell? ⟨w.heap.size, 3, none⟩ = some (.int .i64 i3) := hB.cell 3 (by omega)
      clear hA hB hF hk
      go_wp2_with fail
      go_quiet (fail)
      go_wp2_with fail
      generalize hwa : World.drewN wr _ = wa
      have hAa : Arr wa b 0 16 (g) := by rw [← hwa]; exact HA.out.drewN _
      have hBa : Cel wa w.heap.size 4 (fun j => [Value.int .i64 i0, .int .i64 i1, .int .i64 i2, .int .i64 i3].getD j undef) := by rw [← hwa]; exact HB.out.since ((Since.refl _).drewN _)
      have hFa : Fr b w wa := by rw [← hwa]; exact HF.out.drewN _
      clear hwa b0 b1 b2 b3 HA HB HF
      obtain ⟨⟨N2, N4, N6⟩, N8, N10, N12⟩ := N.out
      have N1 : ¬ i3 = i0 := fun e => N2 e.symm
      have N3 : ¬ i2 = i0 := fun e => N4 e.symm
      have N5 : ¬ i1 = i0 := fun e => N6 e.symm
      have N7 : ¬ i2 = i1 := fun e => N8 e.symm
      have N9 : ¬ i3 = i1 := fun e => N10 e.symm
      have N11 : ¬ i3 = i2 := fun e => N12 e.symm
      have HK := (show Hid (k = 0 ∨ k = 1) from hk01)
      clear hk01
      have q1 : IntKind.i64.wrap (8 * (k : Int)) = 8 * k := by simp [IntKind.wrap, IntKind.bits, IntKind.signed]; omega
      have q2 : IntKind.i64.wrap (16 - 8 * (k : Int)) = 16 - 8 * k := by simp [IntKind.wrap, IntKind.bits, IntKind.signed]; omega
      have q3 : IntKind.u64.wrap (16 - 8 * (k : Int)) = 16 - 8 * k := by simp [IntKind.wrap, IntKind.bits, IntKind.signed]; omega
      have q4 : IntKind.i64.wrap (5 * (k : Int)) = 5 * k := by simp [IntKind.wrap, IntKind.bits, IntKind.signed]; omega
      have q5 : IntKind.i64.wrap (12 - 5 * (k : Int)) = 12 - 5 * k := by simp [IntKind.wrap, IntKind.bits, IntKind.signed]; omega
      have q6 : IntKind.u64.wrap (12 - 5 * (k : Int)) = 12 - 5 * k := by simp [IntKind.wrap, IntKind.bits, IntKind.signed]; omega
      have T1 := (show Hid ((16 - 8 * (k : Int)).toNat = 16 - 8 * k) from by show _ = _; omega)
      have T2 := (show Hid ((12 - 5 * (k : Int)).toNat = 12 - 5 * k) from by show _ = _; omega)
      have c1 : wa.cell? ⟨b, i0, none⟩ = some (U (g i0)) := by
        have h := hAa.cell i0 (by omega)
        rw [Nat.zero_add] at h
        rw [h] <;> simp [upd, N1, N2, N3, N4, N5, N6, N7, N8, N9, N10, N11, N12]
      have c2 : wa.cell? ⟨b, i1, none⟩ = some (U (g i1)) := by
        have h := hAa.cell i1 (by omega)
        rw [Nat.zero_add] at h
        rw [h] <;> simp [upd, N1, N2, N3, N4, N5, N6, N7, N8, N9, N10, N11, N12]
      have f1 := hAa.frozen i0 (by omega)
      rw [Nat.zero_add] at f1
      have HAa := (show Hid (Arr wa b 0 16 (g)) from hAa)
      have HBa := (show Hid (Cel wa w.heap.size 4 (fun j => [Value.int .i64 i0, .int .i64 i1, .int .i64 i2, .int .i64 i3].getD j undef)) from hBa)
      have HFa := (show Hid (Fr b w wa) from hFa)
      clear hAa hBa hFa
      have HN := (show Hid ((((¬ i3 = i0 ∧ ¬ i0 = i3) ∧ (¬ i2 = i0 ∧ ¬ i0 = i2)) ∧ ((¬ i1 = i0 ∧ ¬ i0 = i1) ∧ (¬ i2 = i1 ∧ ¬ i1 = i2))) ∧ ((¬ i3 = i1 ∧ ¬ i1 = i3) ∧ (¬ i3 = i2 ∧ ¬ i2 = i3))) from ⟨⟨⟨⟨N1, N2⟩, N3, N4⟩, ⟨N5, N6⟩, N7, N8⟩, ⟨N9, N10⟩, N11, N12⟩)
      clear N1 N2 N3 N4 N5 N6 N7 N8 N9 N10 N11 N12
      go_region
      obtain ⟨⟨⟨⟨N1, N2⟩, N3, N4⟩, ⟨N5, N6⟩, N7, N8⟩, ⟨N9, N10⟩, N11, N12⟩ := HN.out
      clear HN
      generalize hval : g i0 + g i1 = va at *
      have Hva := (show Hid (g i0 + g i1 = va) from hval)
      clear hval
      generalize hw : World.drew _ = wb
      have hAb : Arr wb b 0 16 (upd (g) i0 va) := by
        have h := HAa.out.set i0 (by omega) va
        rw [Nat.zero_add] at h
        rw [← hw]; exact h.since (Since.refl _).drew
      have hBb : Cel wb w.heap.size 4 (fun j => [Value.int .i64 i0, .int .i64 i1, .int .i64 i2, .int .i64 i3].getD j undef) := by rw [← hw]; exact (HBa.out.other (by simp; omega) _).since (Since.refl _).drew
      have hFb : Fr b w wb := by rw [← hw]; exact (HFa.out.set _).drew
      clear hw c1 c2 f1 HAa HBa HFa
      go_wp2_with fail
      have c1 : wb.cell? ⟨b, i3, none⟩ = some (U (g i3)) := by
        have h := hAb.cell i3 (by omega)
        rw [Nat.zero_add] at h
        rw [h] <;> simp [upd, N1, N2, N3, N4, N5, N6, N7, N8, N9, N10, N11, N12]
      have c2 : wb.cell? ⟨b, i0, none⟩ = some (U (va)) := by
        have h := hAb.cell i0 (by omega)
        rw [Nat.zero_add] at h
        rw [h] <;> simp [upd, N1, N2, N3, N4, N5, N6, N7, N8, N9, N10, N11, N12]
      have f1 := hAb.frozen i3 (by omega)
      rw [Nat.zero_add] at f1
      have HAb := (show Hid (Arr wb b 0 16 (upd (g) i0 va)) from hAb)
      have HBb := (show Hid (Cel wb w.heap.size 4 (fun j => [Value.int .i64 i0, .int .i64 i1, .int .i64 i2, .int .i64 i3].getD j undef)) from hBb)
      have HFb := (show Hid (Fr b w wb) from hFb)
      clear hAb hBb hFb
      refine wp_region_any (by kernel_rfl) ?_
      refine wpAny_take (i := 0) (v := ?vp0) rfl (by kernel_rfl) (by kernel_rfl) (by kernel_rfl) (fun _ _ _ h => h) (Or.inl ⟨by rfl, ?hyp0⟩) ?rp0
      case hyp0 => (intro w; go_simp; try with_reducible rfl)
      (try simp only [Act.put, List.setIfInBounds_toArray, List.set_cons_zero, List.set_cons_succ])
      refine wpAny_take (i := 1) (v := ?vp1) rfl (by kernel_rfl) (by kernel_rfl) (by kernel_rfl) (fun _ _ _ h => h) (Or.inl ⟨by rfl, ?hyp1⟩) ?rp1
      case hyp1 => (intro w; go_simp; try with_reducible rfl)
      (try simp only [Act.put, List.setIfInBounds_toArray, List.set_cons_zero, List.set_cons_succ])
      refine wpAny_take (i := 2) (v := ?vp2) rfl (by kernel_rfl) (by kernel_rfl) (by kernel_rfl) (fun _ _ _ h => h) (Or.inl ⟨by rfl, ?hyp2⟩) ?rp2
      case hyp2 => (intro w; go_simp; try with_reducible rfl)
      (try simp only [Act.put, List.setIfInBounds_toArray, List.set_cons_zero, List.set_cons_succ])
      refine wpAny_take (i := 3) (v := ?vp3) rfl (by kernel_rfl) (by kernel_rfl) (by kernel_rfl) (fun _ _ _ h => h) (Or.inl ⟨by rfl, ?hyp3⟩) ?rp3
      case hyp3 => (intro w; go_simp; try with_reducible rfl)
      (try simp only [Act.put, List.setIfInBounds_toArray, List.set_cons_zero, List.set_cons_succ])
      refine wpAny_take (i := 4) (v := ?vp4) rfl (by kernel_rfl) (by kernel_rfl) (by kernel_rfl) (fun _ _ _ h => h) (Or.inl ⟨by rfl, ?hyp4⟩) ?rp4
      case hyp4 => (intro w; go_simp; try with_reducible rfl)
      (try simp only [Act.put, List.setIfInBounds_toArray, List.set_cons_zero, List.set_cons_succ])
      refine wpAny_take (i := 5) (v := ?vp5) rfl (by kernel_rfl) (by kernel_rfl) (by kernel_rfl) (fun _ _ _ h => h) (Or.inl ⟨by rfl, ?hyp5⟩) ?rp5
      case hyp5 => (intro w; go_simp; try with_reducible rfl)
      (try simp only [Act.put, List.setIfInBounds_toArray, List.set_cons_zero, List.set_cons_succ])
      refine wpAny_take (i := 7) (v := ?vp7) rfl (by kernel_rfl) (by kernel_rfl) (by kernel_rfl) (fun _ _ _ h => h) (Or.inl ⟨by rfl, ?hyp7⟩) ?rp7
      case hyp7 => (intro w; go_simp; try with_reducible rfl)
      (try simp only [Act.put, List.setIfInBounds_toArray, List.set_cons_zero, List.set_cons_succ])
      refine wpAny_take (i := 8) (v := ?vp8) rfl (by kernel_rfl) (by kernel_rfl) (by kernel_rfl) (fun _ _ _ h => h) (Or.inl ⟨by rfl, ?hyp8⟩) ?rp8
      case hyp8 => (intro w; go_simp; try with_reducible rfl)
      (try simp only [Act.put, List.setIfInBounds_toArray, List.set_cons_zero, List.set_cons_succ])
      refine wpAny_take (i := 9) (v := ?vp9) rfl (by kernel_rfl) (by kernel_rfl) (by kernel_rfl) (fun _ _ _ h => h) (Or.inl ⟨by rfl, ?hyp9⟩) ?rp9
      case hyp9 => (intro w; go_simp; try with_reducible rfl)
      (try simp only [Act.put, List.setIfInBounds_toArray, List.set_cons_zero, List.set_cons_succ])
      refine wpAny_take (i := 12) (v := ?vp12) rfl (by kernel_rfl) (by kernel_rfl) (by kernel_rfl) (fun _ _ _ h => h) (Or.inl ⟨by rfl, ?hyp12⟩) ?rp12
      case hyp12 => (intro w; go_simp; try with_reducible rfl)
      (try simp only [Act.put, List.setIfInBounds_toArray, List.set_cons_zero, List.set_cons_succ])
      refine wpAny_take (i := 13) (v := ?vp13) rfl (by kernel_rfl) (by kernel_rfl) (by kernel_rfl) (fun _ _ _ h => h) (Or.inl ⟨by rfl, ?hyp13⟩) ?rp13
      case hyp13 => (intro w; go_simp; try with_reducible rfl)
      (try simp only [Act.put, List.setIfInBounds_toArray, List.set_cons_zero, List.set_cons_succ])
      refine wpAny_take (i := 14) (v := ?vp14) rfl (by kernel_rfl) (by kernel_rfl) (by kernel_rfl) (fun _ _ _ h => h) (Or.inl ⟨by rfl, ?hyp14⟩) ?rp14
      case hyp14 => (intro w; go_simp; try with_reducible rfl)
      (try simp only [Act.put, List.setIfInBounds_toArray, List.set_cons_zero, List.set_cons_succ])
      refine wpAny_take (i := 15) (v := ?vp15) rfl (by kernel_rfl) (by kernel_rfl) (by kernel_rfl) (fun _ _ _ h => h) (Or.inl ⟨by rfl, ?hyp15⟩) ?rp15
      case hyp15 => (intro w; go_simp; try with_reducible rfl)
      (try simp only [Act.put, List.setIfInBounds_toArray, List.set_cons_zero, List.set_cons_succ])
      have hS4 : (fun w' : World => w'.cell? ⟨b, i3, none⟩ = some (U (g i3)) ∧ w'.cell? ⟨b, i0, none⟩ = some (U (va))) wb.drew := by
        refine ⟨?_, ?_⟩
        · simpa using c1
        · simpa using c2
      refine wpAny_of_G (S := fun w' : World => w'.cell? ⟨b, i3, none⟩ = some (U (g i3)) ∧ w'.cell? ⟨b, i0, none⟩ = some (U (va))) (c := 11) _ _ _ _ ?_
      refine wpAnyG_take (i := 6) (v := ?vp6) rfl rfl (by kernel_rfl) (by kernel_rfl) (by kernel_rfl) (by rfl) (by kernel_rfl) (fun _ _ _ h => h) (Or.inl ⟨by rfl, ?hyp6⟩) hS4 ?rp6
      case hyp6 => (intro w hSw; obtain ⟨s0, s1⟩ := hSw; go_simp; try with_reducible rfl)
      (try simp only [Act.put, List.setIfInBounds_toArray, List.set_cons_zero, List.set_cons_succ])
      refine wpAnyG_take (i := 10) (v := ?vp10) rfl rfl (by kernel_rfl) (by kernel_rfl) (by kernel_rfl) (by rfl) (by kernel_rfl) (fun _ _ _ h => h) (Or.inl ⟨by rfl, ?hyp10⟩) hS4 ?rp10
      case hyp10 => (intro w hSw; obtain ⟨s0, s1⟩ := hSw; go_simp; try with_reducible rfl)
      (try simp only [Act.put, List.setIfInBounds_toArray, List.set_cons_zero, List.set_cons_succ])
      refine wpAnyG_leave (by kernel_rfl) ?_
      clear hS4
      refine wpAny_take (i := 11) (v := ?vp11) rfl (by kernel_rfl) (by kernel_rfl) (by kernel_rfl) (fun _ _ _ h => h) (Or.inl ⟨by rfl, ?hyp11⟩) ?rp11
      case hyp11 => (intro w; go_simp; try with_reducible rfl)
      (try simp only [Act.put, List.setIfInBounds_toArray, List.set_cons_zero, List.set_cons_succ])
      refine wpAny_ready (rs := [16]) (by kernel_rfl) (by simp) (AllReady.cons rfl (fun K hK => ?_) AllReady.nil)
      go_simp
      refine (left_any _ _ _ (by omega) (by omega)).mono ?_
      rintro e w' ⟨rfl, rfl⟩
      rw [T1.out]
      simp only []
      refine hK _ _ ?_
      clear hK K
      (try simp only [Act.put, List.setIfInBounds_toArray, List.set_cons_zero, List.set_cons_succ])
      generalize hval : rol (g i3 ^^^ va) (16 - 8 * k) = vd at *
      have Hvd := (show Hid (rol (g i3 ^^^ va) (16 - 8 * k) = vd) from hval)
      clear hval
      refine wpAny_take (i := 17) (v := ?vp17) rfl (by kernel_rfl) (by kernel_rfl) (by kernel_rfl) (fun _ _ _ h => h) (Or.inl ⟨by rfl, ?hyp17⟩) ?rp17
      case hyp17 => (intro w; go_simp; try with_reducible rfl)
      (try simp only [Act.put, List.setIfInBounds_toArray, List.set_cons_zero, List.set_cons_succ])
      refine wpAny_ready (rs := [18]) (by kernel_rfl) (by simp) (AllReady.cons rfl (fun K hK => ?_) AllReady.nil)
      go_simp
      refine hK _ _ ?_
      clear hK K
      (try simp only [Act.put, List.setIfInBounds_toArray, List.set_cons_zero, List.set_cons_succ])
      refine wpAny_done (by kernel_rfl) ?_ _
      generalize hw : World.drew _ = wc
      have hAc : Arr wc b 0 16 (upd (upd (g) i0 va) i3 vd) := by
        have h := HAb.out.set i3 (by omega) vd
        rw [Nat.zero_add] at h
        rw [← hw]; exact h.since (Since.refl _).drew
      have hBc : Cel wc w.heap.size 4 (fun j => [Value.int .i64 i0, .int .i64 i1, .int .i64 i2, .int .i64 i3].getD j undef) := by rw [← hw]; exact (HBb.out.other (by simp; omega) _).since (Since.refl _).drew
      have hFc : Fr b w wc := by rw [← hw]; exact (HFb.out.set _).drew
      clear hw c1 c2 f1 HAb HBb HFb
      go_wp2_with fail
      have c1 : wc.cell? ⟨b, i2, none⟩ = some (U (g i2)) := by
        have h := hAc.cell i2 (by omega)
        rw [Nat.zero_add] at h
        rw [h] <;> simp [upd, N1, N2, N3, N4, N5, N6, N7, N8, N9, N10, N11, N12]
      have c2 : wc.cell? ⟨b, i3, none⟩ = some (U (vd)) := by
        have h := hAc.cell i3 (by omega)
        rw [Nat.zero_add] at h
        rw [h] <;> simp [upd, N1, N2, N3, N4, N5, N6, N7, N8, N9, N10, N11, N12]
      have f1 := hAc.frozen i2 (by omega)
      rw [Nat.zero_add] at f1
      have HAc := (show Hid (Arr wc b 0 16 (upd (upd (g) i0 va) i3 vd)) from hAc)
      have HBc := (show Hid (Cel wc w.heap.size 4 (fun j => [Value.int .i64 i0, .int .i64 i1, .int .i64 i2, .int .i64 i3].getD j undef)) from hBc)
      have HFc := (show Hid (Fr b w wc) from hFc)
      clear hAc hBc hFc
      have HN := (show Hid ((((¬ i3 = i0 ∧ ¬ i0 = i3) ∧ (¬ i2 = i0 ∧ ¬ i0 = i2)) ∧ ((¬ i1 = i0 ∧ ¬ i0 = i1) ∧ (¬ i2 = i1 ∧ ¬ i1 = i2))) ∧ ((¬ i3 = i1 ∧ ¬ i1 = i3) ∧ (¬ i3 = i2 ∧ ¬ i2 = i3))) from ⟨⟨⟨⟨N1, N2⟩, N3, N4⟩, ⟨N5, N6⟩, N7, N8⟩, ⟨N9, N10⟩, N11, N12⟩)
      clear N1 N2 N3 N4 N5 N6 N7 N8 N9 N10 N11 N12
      go_region
      obtain ⟨⟨⟨⟨N1, N2⟩, N3, N4⟩, ⟨N5, N6⟩, N7, N8⟩, ⟨N9, N10⟩, N11, N12⟩ := HN.out
      clear HN
      generalize hval : g i2 + vd = vc at *
      have Hvc := (show Hid (g i2 + vd = vc) from hval)
      clear hval
      generalize hw : World.drew _ = wd
      have hAd : Arr wd b 0 16 (upd (upd (upd (g) i0 va) i3 vd) i2 vc) := by
        have h := HAc.out.set i2 (by omega) vc
        rw [Nat.zero_add] at h
        rw [← hw]; exact h.since (Since.refl _).drew
      have hBd : Cel wd w.heap.size 4 (fun j => [Value.int .i64 i0, .int .i64 i1, .int .i64 i2, .int .i64 i3].getD j undef) := by rw [← hw]; exact (HBc.out.other (by simp; omega) _).since (Since.refl _).drew
      have hFd : Fr b w wd := by rw [← hw]; exact (HFc.out.set _).drew
      clear hw c1 c2 f1 HAc HBc HFc
      go_wp2_with fail
      have c1 : wd.cell? ⟨b, i1, none⟩ = some (U (g i1)) := by
        have h := hAd.cell i1 (by omega)
        rw [Nat.zero_add] at h
        rw [h] <;> simp [upd, N1, N2, N3, N4, N5, N6, N7, N8, N9, N10, N11, N12]
      have c2 : wd.cell? ⟨b, i2, none⟩ = some (U (vc)) := by
        have h := hAd.cell i2 (by omega)
        rw [Nat.zero_add] at h
        rw [h] <;> simp [upd, N1, N2, N3, N4, N5, N6, N7, N8, N9, N10, N11, N12]
      have f1 := hAd.frozen i1 (by omega)
      rw [Nat.zero_add] at f1
      have HAd := (show Hid (Arr wd b 0 16 (upd (upd (upd (g) i0 va) i3 vd) i2 vc)) from hAd)
      have HBd := (show Hid (Cel wd w.heap.size 4 (fun j => [Value.int .i64 i0, .int .i64 i1, .int .i64 i2, .int .i64 i3].getD j undef)) from hBd)
      have HFd := (show Hid (Fr b w wd) from hFd)
      clear hAd hBd hFd
      refine wp_region_any (by kernel_rfl) ?_
      refine wpAny_take (i := 0) (v := ?vq0) rfl (by kernel_rfl) (by kernel_rfl) (by kernel_rfl) (fun _ _ _ h => h) (Or.inl ⟨by rfl, ?hyq0⟩) ?rq0
      case hyq0 => (intro w; go_simp; try with_reducible rfl)
      (try simp only [Act.put, List.setIfInBounds_toArray, List.set_cons_zero, List.set_cons_succ])
      refine wpAny_take (i := 1) (v := ?vq1) rfl (by kernel_rfl) (by kernel_rfl) (by kernel_rfl) (fun _ _ _ h => h) (Or.inl ⟨by rfl, ?hyq1⟩) ?rq1
      case hyq1 => (intro w; go_simp; try with_reducible rfl)
      (try simp only [Act.put, List.setIfInBounds_toArray, List.set_cons_zero, List.set_cons_succ])
      refine wpAny_take (i := 2) (v := ?vq2) rfl (by kernel_rfl) (by kernel_rfl) (by kernel_rfl) (fun _ _ _ h => h) (Or.inl ⟨by rfl, ?hyq2⟩) ?rq2
      case hyq2 => (intro w; go_simp; try with_reducible rfl)
      (try simp only [Act.put, List.setIfInBounds_toArray, List.set_cons_zero, List.set_cons_succ])
      refine wpAny_take (i := 3) (v := ?vq3) rfl (by kernel_rfl) (by kernel_rfl) (by kernel_rfl) (fun _ _ _ h => h) (Or.inl ⟨by rfl, ?hyq3⟩) ?rq3
      case hyq3 => (intro w; go_simp; try with_reducible rfl)
      (try simp only [Act.put, List.setIfInBounds_toArray, List.set_cons_zero, List.set_cons_succ])
      refine wpAny_take (i := 4) (v := ?vq4) rfl (by kernel_rfl) (by kernel_rfl) (by kernel_rfl) (fun _ _ _ h => h) (Or.inl ⟨by rfl, ?hyq4⟩) ?rq4
      case hyq4 => (intro w; go_simp; try with_reducible rfl)
      (try simp only [Act.put, List.setIfInBounds_toArray, List.set_cons_zero, List.set_cons_succ])
      refine wpAny_take (i := 5) (v := ?vq5) rfl (by kernel_rfl) (by kernel_rfl) (by kernel_rfl) (fun _ _ _ h => h) (Or.inl ⟨by rfl, ?hyq5⟩) ?rq5
      case hyq5 => (intro w; go_simp; try with_reducible rfl)
      (try simp only [Act.put, List.setIfInBounds_toArray, List.set_cons_zero, List.set_cons_succ])
      refine wpAny_take (i := 7) (v := ?vq7) rfl (by kernel_rfl) (by kernel_rfl) (by kernel_rfl) (fun _ _ _ h => h) (Or.inl ⟨by rfl, ?hyq7⟩) ?rq7
      case hyq7 => (intro w; go_simp; try with_reducible rfl)
      (try simp only [Act.put, List.setIfInBounds_toArray, List.set_cons_zero, List.set_cons_succ])
      refine wpAny_take (i := 8) (v := ?vq8) rfl (by kernel_rfl) (by kernel_rfl) (by kernel_rfl) (fun _ _ _ h => h) (Or.inl ⟨by rfl, ?hyq8⟩) ?rq8
      case hyq8 => (intro w; go_simp; try with_reducible rfl)
      (try simp only [Act.put, List.setIfInBounds_toArray, List.set_cons_zero, List.set_cons_succ])
      refine wpAny_take (i := 9) (v := ?vq9) rfl (by kernel_rfl) (by kernel_rfl) (by kernel_rfl) (fun _ _ _ h => h) (Or.inl ⟨by rfl, ?hyq9⟩) ?rq9
      case hyq9 => (intro w; go_simp; try with_reducible rfl)
      (try simp only [Act.put, List.setIfInBounds_toArray, List.set_cons_zero, List.set_cons_succ])
      refine wpAny_take (i := 12) (v := ?vq12) rfl (by kernel_rfl) (by kernel_rfl) (by kernel_rfl) (fun _ _ _ h => h) (Or.inl ⟨by rfl, ?hyq12⟩) ?rq12
      case hyq12 => (intro w; go_simp; try with_reducible rfl)
      (try simp only [Act.put, List.setIfInBounds_toArray, List.set_cons_zero, List.set_cons_succ])
      refine wpAny_take (i := 13) (v := ?vq13) rfl (by kernel_rfl) (by kernel_rfl) (by kernel_rfl) (fun _ _ _ h => h) (Or.inl ⟨by rfl, ?hyq13⟩) ?rq13
      case hyq13 => (intro w; go_simp; try with_reducible rfl)
      (try simp only [Act.put, List.setIfInBounds_toArray, List.set_cons_zero, List.set_cons_succ])
      refine wpAny_take (i := 14) (v := ?vq14) rfl (by kernel_rfl) (by kernel_rfl) (by kernel_rfl) (fun _ _ _ h => h) (Or.inl ⟨by rfl, ?hyq14⟩) ?rq14
      case hyq14 => (intro w; go_simp; try with_reducible rfl)
      (try simp only [Act.put, List.setIfInBounds_toArray, List.set_cons_zero, List.set_cons_succ])
      refine wpAny_take (i := 15) (v := ?vq15) rfl (by kernel_rfl) (by kernel_rfl) (by kernel_rfl) (fun _ _ _ h => h) (Or.inl ⟨by rfl, ?hyq15⟩) ?rq15
      case hyq15 => (intro w; go_simp; try with_reducible rfl)
      (try simp only [Act.put, List.setIfInBounds_toArray, List.set_cons_zero, List.set_cons_succ])
      have hS4 : (fun w' : World => w'.cell? ⟨b, i1, none⟩ = some (U (g i1)) ∧ w'.cell? ⟨b, i2, none⟩ = some (U (vc))) wd.drew := by
        refine ⟨?_, ?_⟩
        · simpa using c1
        · simpa using c2
      refine wpAny_of_G (S := fun w' : World => w'.cell? ⟨b, i1, none⟩ = some (U (g i1)) ∧ w'.cell? ⟨b, i2, none⟩ = some (U (vc))) (c := 11) _ _ _ _ ?_
      refine wpAnyG_take (i := 6) (v := ?vq6) rfl rfl (by kernel_rfl) (by kernel_rfl) (by kernel_rfl) (by rfl) (by kernel_rfl) (fun _ _ _ h => h) (Or.inl ⟨by rfl, ?hyq6⟩) hS4 ?rq6
      case hyq6 => (intro w hSw; obtain ⟨s0, s1⟩ := hSw; go_simp; try with_reducible rfl)
      (try simp only [Act.put, List.setIfInBounds_toArray, List.set_cons_zero, List.set_cons_succ])
      refine wpAnyG_take (i := 10) (v := ?vq10) rfl rfl (by kernel_rfl) (by kernel_rfl) (by kernel_rfl) (by rfl) (by kernel_rfl) (fun _ _ _ h => h) (Or.inl ⟨by rfl, ?hyq10⟩) hS4 ?rq10
      case hyq10 => (intro w hSw; obtain ⟨s0, s1⟩ := hSw; go_simp; try with_reducible rfl)
      (try simp only [Act.put, List.setIfInBounds_toArray, List.set_cons_zero, List.set_cons_succ])
      refine wpAnyG_leave (by kernel_rfl) ?_
      clear hS4
      refine wpAny_take (i := 11) (v := ?vq11) rfl (by kernel_rfl) (by kernel_rfl) (by kernel_rfl) (fun _ _ _ h => h) (Or.inl ⟨by rfl, ?hyq11⟩) ?rq11
      case hyq11 => (intro w; go_simp; try with_reducible rfl)
      (try simp only [Act.put, List.setIfInBounds_toArray, List.set_cons_zero, List.set_cons_succ])
      refine wpAny_ready (rs := [16]) (by kernel_rfl) (by simp) (AllReady.cons rfl (fun K hK => ?_) AllReady.nil)
      go_simp
      refine (left_any _ _ _ (by omega) (by omega)).mono ?_
      rintro e w' ⟨rfl, rfl⟩
      rw [T2.out]
      simp only []
      refine hK _ _ ?_
      clear hK K
      (try simp only [Act.put, List.setIfInBounds_toArray, List.set_cons_zero, List.set_cons_succ])
      generalize hval : rol (g i1 ^^^ vc) (12 - 5 * k) = vb at *
      have Hvb := (show Hid (rol (g i1 ^^^ vc) (12 - 5 * k) = vb) from hval)
      clear hval
      refine wpAny_take (i := 17) (v := ?vq17) rfl (by kernel_rfl) (by kernel_rfl) (by kernel_rfl) (fun _ _ _ h => h) (Or.inl ⟨by rfl, ?hyq17⟩) ?rq17
      case hyq17 => (intro w; go_simp; try with_reducible rfl)
      (try simp only [Act.put, List.setIfInBounds_toArray, List.set_cons_zero, List.set_cons_succ])
      refine wpAny_ready (rs := [18]) (by kernel_rfl) (by simp) (AllReady.cons rfl (fun K hK => ?_) AllReady.nil)
      go_simp
      refine hK _ _ ?_
      clear hK K
      (try simp only [Act.put, List.setIfInBounds_toArray, List.set_cons_zero, List.set_cons_succ])
      refine wpAny_done (by kernel_rfl) ?_ _
      generalize hw : World.drew _ = we
      have hAe : Arr we b 0 16 (upd (upd (upd (upd (g) i0 va) i3 vd) i2 vc) i1 vb) := by
        have h := HAd.out.set i1 (by omega) vb
        rw [Nat.zero_add] at h
        rw [← hw]; exact h.since (Since.refl _).drew
      have hBe : Cel we w.heap.size 4 (fun j => [Value.int .i64 i0, .int .i64 i1, .int .i64 i2, .int .i64 i3].getD j undef) := by rw [← hw]; exact (HBd.out.other (by simp; omega) _).since (Since.refl _).drew
      have hFe : Fr b w we := by rw [← hw]; exact (HFd.out.set _).drew
      clear hw c1 c2 f1 HAd HBd HFd
      go_wp2_with fail
      have e : upd (upd (upd (upd (g) i0 va) i3 vd) i2 vc) i1 vb = stp g i0 i1 i2 i3 (16 - 8 * k) (12 - 5 * k) := by
        unfold stp half
        rw [← Hvb.out, ← Hvc.out, ← Hvd.out, ← Hva.out]
      refine ⟨⟨k + 1, by omega, by go_num, ?_, hBe, hFe⟩, by simp [intOf]; omega⟩
      rw [HST.out, ← e]
      exact hAe
    · have hke : k = 2 := by omega
      subst hke
      go_wp2_with fail
      go_end0
      exact ⟨rfl, hA, hF⟩
end Sm.Sr
end Go.Proofs.YtbfjklpoheooaaaGreatDoor
end
