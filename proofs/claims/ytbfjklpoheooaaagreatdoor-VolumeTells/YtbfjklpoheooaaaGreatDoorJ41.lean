import Derived.Deep.Cut
import Derived.Test.YtbfjklpoheooaaaGreatDoorJ40
set_option linter.unusedSimpArgs false
set_option linter.unusedVariables false
namespace Go.Proofs.YtbfjklpoheooaaaGreatDoor
set_option maxRecDepth 100000
namespace Sm.Sr
open Go.RowKit
attribute [local go_sem ↓] U_add U_mulc U_xor U_and U_or U_shr U_shl U_not U_conv U_byte U_cells U_match U_oneCell
theorem conv1 (w : World) (a : Int) (t : TypeId) (k cap : Nat) (hk : k = w.heap.size) :
    (convert 122 9 (.slice (some ⟨k, 0, none⟩) 1 cap)).run Tryz.prog (w.alloc (.cells #[.int .u8 a] t)) = .ok (.string (strOfNums [a])) (w.alloc (.cells #[.int .u8 a] t)) := by
  subst hk
  refine run_convert_bytes_arg _ 122 5 Tryz.underlying122 Tryz.underlying5 w.heap.size 0 1 cap [a] rfl (fun i hi => ?_) 9 Tryz.underlying9
  have hi0 : i = 0 := by simp at hi; omega
  subst hi0
  rw [World.cell?_alloc_new]
  rfl
theorem son_append (xs ys : List Int) : strOfNums xs ++ strOfNums ys = strOfNums (xs ++ ys) := by
  apply ByteArray.ext
  simp [strOfNums, ByteArray.data_append]
theorem byteOf_at (G : Nat → BitVec 32) (i r : Nat) (hr : r < 4) : byteOf G (4 * i + r) = (((G i).toNat / 2 ^ (8 * r) % 256 : Nat) : Int) := by
  unfold byteOf lowb
  rw [show (4 * i + r) / 4 = i by omega, show (4 * i + r) % 4 = r by omega, BitVec.toNat_ushiftRight, Nat.shiftRight_eq_div_pow]
def outTo (G : Nat → BitVec 32) (i : Nat) : List Int := (List.range (4 * i)).map (byteOf G)
theorem out_length (G : Nat → BitVec 32) (i : Nat) : (outTo G i).length = 4 * i := by simp [outTo]
theorem out_step (G : Nat → BitVec 32) (i : Nat) : outTo G (i + 1) = outTo G i ++ [byteOf G (4 * i), byteOf G (4 * i + 1), byteOf G (4 * i + 2), byteOf G (4 * i + 3)] := by
  unfold outTo
  rw [show 4 * (i + 1) = 4 * i + 4 by omega, List.range_add, List.map_append]
  rfl
attribute [local go_sem ↓] conv1 son_append strOfNums_size
set_option maxHeartbeats 2000000 in
set_option maxRecDepth 100000 in
theorem refBlock_any (key nonce : ByteArray) (n : Int) (w : World) (hk : key.size = 32) (hnn : nonce.size = 12) (n0 : 0 ≤ n) (n1 : n < 4294967296) :
    Calls Tryz.prog 148 #[.string key, .int .i64 n, .string nonce] w fun e w' => e = .returned (.tuple #[.string (strOfNums (blockOf key (BitVec.ofInt 32 n) nonce)), .int .i64 0]) ∧ Since w w' := by
  obtain ⟨i0, hi, hz, hsz, hby⟩ : ∃ i, Tryz.prog.info? 66 = some i ∧ i.zero = some (.int .u32 0) ∧ i.size = 1 ∧ i.bytes = 4 := ⟨_, rfl, by kernel_rfl, by kernel_rfl, by kernel_rfl⟩
  have hn : (decide (0 ≤ n) && decide (n ≤ 4294967295)) = true := by simp; omega
  have he : expand.size = 16 := rfl
  have hek : (expand ++ key).size = 48 := by rw [ByteArray.size_append]; omega
  go_enter Tryz.func148, Tryz.ntmps148
  go_wp2_with fail
  refine (in_any _ _).mono ?_
  rintro e w1 ⟨rfl, rfl⟩
  rw [hn]
  go_wp2_with fail
  have ex : ∀ z : ByteArray, ({ data := #[101, 120, 112, 97, 110, 100, 32, 51, 50, 45, 98, 121, 116, 101, 32, 107] } : ByteArray) ++ z = expand ++ z := fun _ => rfl
  rw [ex]
  clear ex
  generalize hE : expand ++ key = E at *
  have HE := (show Hid (expand ++ key = E) from hE)
  clear hE
  refine (words_any E _ (by omega)).mono ?_
  rintro e w2 ⟨v2, rfl, hR2, hS2⟩
  have e12 : E.size / 4 = 12 := by omega
  rw [e12] at hR2
  have HN := (show Hid (laidF key nonce (BitVec.ofInt 32 n) = laidF key nonce (BitVec.ofInt 32 n)) from rfl)
  generalize hx : BitVec.ofInt 32 n = x at *
  clear HN
  have hrl : (row 12 (wordAt E)).length = 12 := row_length _ _
  have hb63 : (row 12 (wordAt E)).length + 1 ≤ maxLen := by simp [maxLen, hrl]
  have hbb : ((row 12 (wordAt E)).length + 1) * 4 ≤ 140737488355328 := by rw [hrl]; omega
  have hbase : ∀ o, w1.heap.size ≤ (w2.alloc o).heap.size := by intro o; have := hS2.size; simp; omega
  go_wp2_with (at_builtin; refine wpList_append_lies _ (by rfl) _ _ 256 (by rfl) w1.heap.size 66 i0 (.int .u32 0) 1 4 Tryz.underlying256 hi hz hsz hby (by rfl) (by decide) v2 (row 12 (wordAt E)).length (row 12 (wordAt E)) (by rfl) (hR2.since ((Since.refl _).alloc _)) ⟨w2.heap.size, 0, none⟩ 1 1 [U x] (by rfl) (by rfl) (one_at _ _ _ _ rfl) (fun u hu => by simp at hu; subst hu; rfl) (by decide) hb63 hbb (hbase _) (w2.heap.size + 1) (by simp) ?_; intro g3 cp3 w3 hown hgrow hat hlt3)
  have hR3 : Row w3 w1.heap.size 66 (.slice (some ⟨g3, 0, none⟩) 13 cp3) (row 12 (wordAt E) ++ [U x]) := by
    unfold Row
    rw [List.length_append, hrl]
    rw [hrl] at hown
    exact hown
  have hS3 : Since w1 w3 := (hS2.alloc _).grown hgrow (fun k hk => hR2.own k hk)
  clear hown hgrow hat hR2 hb63 hbb hbase hS2
  refine (words_any nonce _ (by omega)).mono ?_
  rintro e w4 ⟨v4, rfl, hR4, hS4⟩
  have e3 : nonce.size / 4 = 3 := by omega
  rw [e3] at hR4
  rcases hR4.form with ⟨_, h0⟩ | ⟨g4, cp4, hv4, hg41, hg42⟩
  · exfalso; have := congrArg List.length h0; simp [row] at this
  rw [row_length] at hv4
  subst hv4
  have hR34 := hR3.since hS4
  have hS14 := hS3.trans hS4
  have hrl13 : (row 12 (wordAt E) ++ [U x]).length = 13 := by simp [row]
  have hrl3 : (row 3 (wordAt nonce)).length = 3 := row_length _ _
  have hb63 : (row 12 (wordAt E) ++ [U x]).length + 3 ≤ maxLen := by simp [maxLen, hrl13]
  have hbb : ((row 12 (wordAt E) ++ [U x]).length + 3) * 4 ≤ 140737488355328 := by rw [hrl13]; omega
  have hbase := hS14.size
  have hnews : ∀ j u, (row 3 (wordAt nonce))[j]? = some u → w4.cell? ((⟨g4, 0, none⟩ : Addr).add j) = some u := World.ownsRow.cells hR4 rfl
  go_upto_region 5 with (at_builtin; refine wpList_append_lies _ (by rfl) _ _ 256 (by rfl) w1.heap.size 66 i0 (.int .u32 0) 1 4 Tryz.underlying256 hi hz hsz hby (by rfl) (by decide) (.slice (some ⟨g3, 0, none⟩) 13 cp3) (row 12 (wordAt E) ++ [U x]).length (row 12 (wordAt E) ++ [U x]) (by rfl) hR34 ⟨g4, 0, none⟩ 3 cp4 (row 3 (wordAt nonce)) (by rfl) (by rw [hrl3]) hnews (row_one _ _) (by decide) hb63 hbb hbase w4.heap.size rfl ?_; intro g5 cp5 w5 hown hgrow hat hlt5)
  have hR5 : Row w5 w1.heap.size 66 (.slice (some ⟨g5, 0, none⟩) 16 cp5) (row 16 (laidF key nonce x)) := by
    have e : row 12 (wordAt E) ++ [U x] ++ row 3 (wordAt nonce) = row 16 (laidF key nonce x) := by rw [← HE.out]; exact laid_row key nonce x
    unfold Row
    rw [row_length, ← e]
    rw [hrl13] at hown
    exact hown
  have hS5 : Since w1 w5 := hS14.grown hgrow (fun k hk => hR34.own k hk)
  clear hown hgrow hat hR34 hb63 hbb hbase hnews hrl13 hrl3 hR3 hS3 hR4 hS4 hS14 hg41 hg42 hlt3 hrl
  generalize hf : laidF key nonce x = f at *
  have HFl := (show Hid (laidF key nonce x = f) from hf)
  clear hf
  have hrl16 : (row 16 f).length = 16 := row_length _ _
  have hnews : ∀ j u, (row 16 f)[j]? = some u → (w5.alloc (.cells #[] 66)).cell? ((⟨g5, 0, none⟩ : Addr).add j) = some u := World.ownsRow.cells (hR5.since ((Since.refl _).alloc _)) rfl
  have hown0 : (w5.alloc (.cells #[] 66)).ownsRow w5.heap.size 66 1 (.slice (some ⟨w5.heap.size, 0, none⟩) 0 0) 0 [] := World.ownsRow_made w5 #[] 0 (Nat.le_refl _) (by simp [maxLen]) rfl
  have hb63 : 0 + 16 ≤ maxLen := by simp [maxLen]
  have hbb : (0 + 16) * 4 ≤ 140737488355328 := by omega
  have hbase : w5.heap.size ≤ (w5.alloc (.cells #[] 66)).heap.size := by simp
  go_wp2_with (at_builtin; refine wpList_append_lies _ (by rfl) _ _ 256 (by rfl) w5.heap.size 66 i0 (.int .u32 0) 1 4 Tryz.underlying256 hi hz hsz hby (by rfl) (by decide) (.slice (some ⟨w5.heap.size, 0, none⟩) 0 0) 0 [] (by rfl) hown0 ⟨g5, 0, none⟩ 16 cp5 (row 16 f) (by rfl) (by rw [hrl16]) hnews (row_one _ _) (by decide) hb63 hbb hbase (w5.heap.size + 1) (by simp) ?_; intro g6 cp6 w6 hown hgrow hat hlt6)
  have hS56 : Since w5 w6 := ((Since.refl w5).alloc _).grown hgrow (fun k hk => by simp [Value.ownBlock] at hk; omega)
  have hg5l : g5 < w5.heap.size := (hR5.arr).lt (by omega)
  have hg6 : w5.heap.size ≤ g6 := (World.ownsRow.lt hown g6 rfl).1
  have hA6 : Arr w6 g6 0 16 f := by
    refine Row.arr (B := w5.heap.size) (e := 66) (cap := cp6) ?_
    unfold Row
    rw [row_length]
    exact hown
  have hA5 : Arr w6 g5 0 16 f := (hR5.arr).since hS56
  have hS6 : Since w1 w6 := hS5.trans hS56
  have hw15 := hS5.size
  clear hown hgrow hat hnews hown0 hb63 hbb hbase hR5 hrl16 hlt6 hS56 hS5
  clear hi hz hsz hby
  go_loopw [43] (fun i wr => ∃ k : Nat, k ≤ 20 ∧ i = .int .i64 k ∧ Arr wr g6 0 16 (rr f k) ∧ Arr wr g5 0 16 f ∧ Since w1 wr) (fun i _ => 20 - (intOf i).toNat)
  case atStart => exact ⟨0, by omega, rfl, hA6, hA5, hS6⟩
  case round =>
    clear hA6 hA5 hS6
    obtain ⟨k, hk20, rfl, hA6, hA5, hS6⟩ := hrel
    by_cases hlt : k < 20
    · have Hrr := (show Hid (rr f (k + 1) = rnd (k % 2) (rr f k)) from rfl)
      generalize rr f k = h at *
      by_cases hp : k % 2 = 1
      · have hpI : (k : Int) % 2 = 1 := by omega
        go_wp2_with fail
        go_loopw [46] (fun i wr => ∃ m : Nat, m ≤ 4 ∧ i = .int .i64 m ∧ Arr wr g6 0 16 (rndTo 1 h m) ∧ Arr wr g5 0 16 f ∧ Since w1 wr) (fun i _ => 4 - (intOf i).toNat)
        case atStart => exact ⟨0, by omega, rfl, hA6.congr (fun j _ => rfl), hA5, hS6⟩
        case round =>
          clear hA6 hA5 hS6
          obtain ⟨m, hm, rfl, hA6, hA5, hS6⟩ := hrel
          by_cases hm4 : m < 4
          · have HA6 := (show Hid (Arr wr g6 0 16 (rndTo 1 h m)) from hA6)
            have HA5 := (show Hid (Arr wr g5 0 16 f) from hA5)
            have HS6 := (show Hid (Since w1 wr) from hS6)
            clear hA6 hA5 hS6
            go_wp2_with fail
            obtain ⟨p1, hp1⟩ : ∃ p1, p1 = (m + 1) % 4 := ⟨_, rfl⟩
            obtain ⟨p2, hp2⟩ : ∃ p2, p2 = (m + 2) % 4 := ⟨_, rfl⟩
            obtain ⟨p3, hp3⟩ : ∃ p3, p3 = (m + 3) % 4 := ⟨_, rfl⟩
            have x1 : ((m : Int) + 1) % 4 = p1 := by omega
            have x2 : ((m : Int) + 2) % 4 = p2 := by omega
            have x3 : ((m : Int) + 3) % 4 = p3 := by omega
            have y1 : (4 : Int) + p1 = ((4 + p1 : Nat) : Int) := by omega
            have y2 : (8 : Int) + p2 = ((8 + p2 : Nat) : Int) := by omega
            have y3 : (12 : Int) + p3 = ((12 + p3 : Nat) : Int) := by omega
            have HST := (show Hid (∀ j, j < 16 → mx (rndTo 1 h m) (m) (4 + p1) (8 + p2) (12 + p3) 2 j = rndTo 1 h (m + 1) j) from fun j hj => by
              have h := mx_step 1 h (by omega) m hm4 j hj
              rw [show (m + 1) % 4 = p1 by omega, show (m + 2 * 1) % 4 = p2 by omega, show (m + 3 * 1) % 4 = p3 by omega] at h
              exact h)
            rw [x1, x2, x3, y1, y2, y3]
            refine (mix_any (rndTo 1 h m) g6 cp6 (m) (4 + p1) (8 + p2) (12 + p3) _ (by omega) (by omega) (by omega) (by omega) (by omega) (by omega) (by omega) (by omega) (by omega) (by omega) (HA6.out.alloc _)).mono ?_
            rintro e w7 ⟨rfl, hA7, hF7⟩
            have hA8 := hA7.congr (fun j hj => HST.out j hj)
            have hA58 := hF7.arr g5 0 16 f (by omega) (HA5.out.alloc _)
            have hS8 := hF7.since w1 (HS6.out.alloc _) (by omega)
            clear hA7 hF7 HST
            go_wp2_with fail
            refine ⟨⟨m + 1, by omega, by go_num, hA8, hA58, hS8⟩, by simp [intOf]; omega⟩
          · have hme : m = 4 := by omega
            subst hme
            go_wp2_with fail
            refine ⟨⟨k + 1, by omega, by go_num, ?_, hA5, hS6⟩, by simp [intOf]; omega⟩
            rw [Hrr.out, show k % 2 = 1 by omega]
            exact hA6.congr (fun j _ => rndTo_four 1 h j)
      · have hpI : (k : Int) % 2 = 0 := by omega
        go_wp2_with fail
        go_loopw [46] (fun i wr => ∃ m : Nat, m ≤ 4 ∧ i = .int .i64 m ∧ Arr wr g6 0 16 (rndTo 0 h m) ∧ Arr wr g5 0 16 f ∧ Since w1 wr) (fun i _ => 4 - (intOf i).toNat)
        case atStart => exact ⟨0, by omega, rfl, hA6.congr (fun j _ => rfl), hA5, hS6⟩
        case round =>
          clear hA6 hA5 hS6
          obtain ⟨m, hm, rfl, hA6, hA5, hS6⟩ := hrel
          by_cases hm4 : m < 4
          · have HA6 := (show Hid (Arr wr g6 0 16 (rndTo 0 h m)) from hA6)
            have HA5 := (show Hid (Arr wr g5 0 16 f) from hA5)
            have HS6 := (show Hid (Since w1 wr) from hS6)
            clear hA6 hA5 hS6
            go_wp2_with fail
            have y1 : (4 : Int) + m = ((4 + m : Nat) : Int) := by omega
            have y2 : (8 : Int) + m = ((8 + m : Nat) : Int) := by omega
            have y3 : (12 : Int) + m = ((12 + m : Nat) : Int) := by omega
            have HST := (show Hid (∀ j, j < 16 → mx (rndTo 0 h m) (m) (4 + m) (8 + m) (12 + m) 2 j = rndTo 0 h (m + 1) j) from fun j hj => by
              have h := mx_step 0 h (by omega) m hm4 j hj
              simp only [Nat.mul_zero, Nat.add_zero, Nat.mod_eq_of_lt hm4] at h
              exact h)
            rw [y1, y2, y3]
            refine (mix_any (rndTo 0 h m) g6 cp6 (m) (4 + m) (8 + m) (12 + m) _ (by omega) (by omega) (by omega) (by omega) (by omega) (by omega) (by omega) (by omega) (by omega) (by omega) (HA6.out.alloc _)).mono ?_
            rintro e w7 ⟨rfl, hA7, hF7⟩
            have hA8 := hA7.congr (fun j hj => HST.out j hj)
            have hA58 := hF7.arr g5 0 16 f (by omega) (HA5.out.alloc _)
            have hS8 := hF7.since w1 (HS6.out.alloc _) (by omega)
            clear hA7 hF7 HST
            go_wp2_with fail
            refine ⟨⟨m + 1, by omega, by go_num, hA8, hA58, hS8⟩, by simp [intOf]; omega⟩
          · have hme : m = 4 := by omega
            subst hme
            go_wp2_with fail
            refine ⟨⟨k + 1, by omega, by go_num, ?_, hA5, hS6⟩, by simp [intOf]; omega⟩
            rw [Hrr.out, show k % 2 = 0 by omega]
            exact hA6.congr (fun j _ => rndTo_four 0 h j)
    · have hke : k = 20 := by omega
      subst hke
      have e20 : rr f 20 = rnds f 10 := rr_two f 10
      rw [e20] at hA6
      have HG := (show Hid (∀ j, mixd f j = rnds f 10 j + f j) from fun _ => rfl)
      generalize rnds f 10 = h at *
      generalize hG : mixd f = G at *
      have HGe := (show Hid (mixd f = G) from hG)
      clear hG e20
      go_wp2_with fail
      go_loopw [81, 13] (fun i o wr => ∃ m : Nat, m ≤ 16 ∧ i = .int .i64 m ∧ o = .string (strOfNums (outTo G m)) ∧ Arr wr g6 0 16 h ∧ Arr wr g5 0 16 f ∧ Since w1 wr) (fun i _ _ => 16 - (intOf i).toNat)
      case atStart => exact ⟨0, by omega, rfl, rfl, hA6, hA5, hS6⟩
      case round =>
        clear hA6 hA5 hS6
        obtain ⟨m, hm, rfl, rfl, hA6, hA5, hS6⟩ := hrel
        by_cases hm16 : m < 16
        · have c1 := hA6.cell m (by omega)
          have c2 := hA5.cell m (by omega)
          rw [Nat.zero_add] at c1 c2
          have HGm := (show Hid (G m = h m + f m) from HG.out m)
          have HO := (show Hid _ from out_step G m)
          have hlo : (strOfNums (outTo G m)).size = 4 * m := by rw [strOfNums_size, out_length]
          have hlt : (outTo G m).length = 4 * m := out_length G m
          have HA6 := (show Hid (Arr wr g6 0 16 h) from hA6)
          have HA5 := (show Hid (Arr wr g5 0 16 f) from hA5)
          have HS6 := (show Hid (Since w1 wr) from hS6)
          clear hA6 hA5 hS6
          generalize hl : outTo G m = l at *
          go_wp2_with fail
          go_quiet (fail)
          go_upto_region 23 with fail
          generalize hwd : World.drewN wr _ = wd
          have hwS : Since wr wd := by rw [← hwd]; exact (Since.refl _).drewN _
          clear hwd c1 c2
          generalize hv : h m + f m = v at *
          have hU : U v = .int .u32 (v.toNat : Int) := rfl
          rw [hU]
          clear hU
          have hvl : (v.toNat : Int) < 4294967296 := by have := v.isLt; omega
          have hv0 : (0 : Int) ≤ v.toNat := by omega
          generalize hX : (v.toNat : Int) = X at *
          have HX := (show Hid ((v.toNat : Int) = X) from hX)
          have HV := (show Hid (h m + f m = v) from hv)
          clear hX hv
          go_wp2_with fail
          refine wp_loop_rounds 5 ?_
          iterate 5 (rw [rounds_succ]; go_wp2_with fail)
          have hs4 : ∀ o1 o2 o3 o4, Since wr ((((wd.alloc o1).alloc o2).alloc o3).alloc o4) := fun _ _ _ _ => (((hwS.alloc _).alloc _).alloc _).alloc _
          have e0 : byteOf G (4 * m) = X % 256 := by
            have h := byteOf_at G m 0 (by omega)
            rw [Nat.add_zero, HGm.out, show (2 : Nat) ^ (8 * 0) = 1 by decide] at h
            rw [h, ← HX.out]; omega
          have e1 : byteOf G (4 * m + 1) = X / 256 % 256 := by
            have h := byteOf_at G m 1 (by omega)
            rw [HGm.out, show (2 : Nat) ^ (8 * 1) = 256 by decide] at h
            rw [h, ← HX.out]; omega
          have e2 : byteOf G (4 * m + 2) = X / 256 / 256 % 256 := by
            have h := byteOf_at G m 2 (by omega)
            rw [HGm.out, show (2 : Nat) ^ (8 * 2) = 65536 by decide] at h
            rw [h, ← HX.out]; omega
          have e3 : byteOf G (4 * m + 3) = X / 256 / 256 / 256 % 256 := by
            have h := byteOf_at G m 3 (by omega)
            rw [HGm.out, show (2 : Nat) ^ (8 * 3) = 16777216 by decide] at h
            rw [h, ← HX.out]; omega
          refine ⟨⟨m + 1, by omega, by go_num, ?_, HA6.out.since (hs4 _ _ _ _), HA5.out.since (hs4 _ _ _ _), HS6.out.trans (hs4 _ _ _ _)⟩, by simp [intOf]; omega⟩
          rw [HO.out, e0, e1, e2, e3]
        · have hme : m = 16 := by omega
          subst hme
          have eB : blockOf key (BitVec.ofInt 32 n) nonce = outTo G 16 := by
            rw [hx]; unfold blockOf; rw [HFl.out, HGe.out]; rfl
          have HEB := (show Hid _ from eB)
          clear eB
          generalize outTo G 16 = l at *
          go_wp2_with fail
          go_ret2
          exact ⟨by rw [HEB.out]; rfl, hS6⟩
end Sm.Sr
end Go.Proofs.YtbfjklpoheooaaaGreatDoor
