import Derived.Test.YtifnhnfjelfddaaGreatDoorJ19
set_option linter.unusedSimpArgs false
set_option linter.unusedVariables false
namespace Go.Proofs.YtifnhnfjelfddaaGreatDoor
set_option maxRecDepth 100000
namespace Tw
open Go.RowKit
def zat (s : ByteArray) (i : Nat) : Int := if sb s (24 + 18 * i) = 255 then 0 else ((sb s (24 + 18 * i)).toNat : Int)
def oat (s : ByteArray) (i : Nat) : Int := if sb s (24 + 18 * i) = 255 then 0 else ((sb s (25 + 18 * i)).toNat : Int)
def tat (s : ByteArray) (i : Nat) : ByteArray := if sb s (24 + 18 * i) = 255 then ⟨#[]⟩ else s.extract (26 + 18 * i) (42 + 18 * i)
def rdTo (s : ByteArray) (k : Nat) : Tb where
  count := wrap64 (numAt s 16 8 : Int)
  zone i := if i < k then zat s i else 0
  off i := if i < k then oat s i else 0
  tag i := if i < k then tat s i else ⟨#[]⟩
def rd (s : ByteArray) : Tb := rdTo s 24
theorem sb_extract (s : ByteArray) (a b j : Nat) (h : a + j < b) : sb (s.extract a b) j = if a + j < s.size then sb s (a + j) else 0 := by
  have hsz : s.data.size = s.size := rfl
  unfold sb
  rw [ByteArray.data_extract, Array.getElem?_extract]
  by_cases h2 : a + j < s.size
  · rw [if_pos h2, if_pos (by omega)]
  · rw [if_neg h2, if_neg (by omega)]
    rfl
theorem sb_ext (s : ByteArray) (a b j : Nat) (h : a + j < b) (hb : b ≤ s.size) : sb (s.extract a b) j = sb s (a + j) := by
  rw [sb_extract s a b j h, if_pos (by omega)]
theorem numAt_ext (s : ByteArray) (a b c : Nat) (hb : b ≤ s.size) : ∀ k, a + c + k ≤ b → numAt (s.extract a b) c k = numAt s (a + c) k := by
  intro k
  induction k with
  | zero => intro _; rfl
  | succ k ih =>
    intro h
    unfold numAt
    rw [ih (by omega), sb_ext s a b (c + k) (by omega) hb, show a + (c + k) = a + c + k by omega]
theorem ext_ext (s : ByteArray) (a b c d : Nat) (h : a + d ≤ b) : (s.extract a b).extract c d = s.extract (a + c) (a + d) := by
  apply ByteArray.ext
  rw [ByteArray.data_extract, ByteArray.data_extract, ByteArray.data_extract, Array.extract_extract]
  congr 1
  omega
theorem tb_ext {T U : Tb} (h0 : T.count = U.count) (h1 : T.zone = U.zone) (h2 : T.off = U.off) (h3 : T.tag = U.tag) : T = U := by
  cases T
  cases U
  dsimp only at h0 h1 h2 h3
  subst h0 h1 h2 h3
  rfl
theorem rd_cut (s : ByteArray) (h : 456 ≤ s.size) : rd (s.extract 0 456) = rd s := by
  have e1 : numAt (s.extract 0 456) 16 8 = numAt s 16 8 := by rw [numAt_ext s 0 456 16 h 8 (by omega), Nat.zero_add]
  have e2 : ∀ j, j < 456 → sb (s.extract 0 456) j = sb s j := fun j hj => by rw [sb_ext s 0 456 j (by omega) h, Nat.zero_add]
  have e3 : ∀ c d, d ≤ 456 → (s.extract 0 456).extract c d = s.extract c d := fun c d hd => by rw [ext_ext s 0 456 c d (by omega), Nat.zero_add, Nat.zero_add]
  have f0 : (rdTo (s.extract 0 456) 24).count = (rdTo s 24).count := by
    show wrap64 ((numAt (s.extract 0 456) 16 8 : Nat) : Int) = wrap64 ((numAt s 16 8 : Nat) : Int)
    rw [e1]
  have f1 : (rdTo (s.extract 0 456) 24).zone = (rdTo s 24).zone := by
    funext i
    show (if i < 24 then zat (s.extract 0 456) i else 0) = if i < 24 then zat s i else 0
    split
    · unfold zat
      rw [e2 _ (by omega)]
    · rfl
  have f2 : (rdTo (s.extract 0 456) 24).off = (rdTo s 24).off := by
    funext i
    show (if i < 24 then oat (s.extract 0 456) i else 0) = if i < 24 then oat s i else 0
    split
    · unfold oat
      rw [e2 _ (by omega), e2 _ (by omega)]
    · rfl
  have f3 : (rdTo (s.extract 0 456) 24).tag = (rdTo s 24).tag := by
    funext i
    show (if i < 24 then tat (s.extract 0 456) i else ⟨#[]⟩) = if i < 24 then tat s i else ⟨#[]⟩
    split
    · unfold tat
      rw [e2 _ (by omega), e3 _ _ (by omega)]
    · rfl
  exact tb_ext f0 f1 f2 f3
theorem cut_zone (s : ByteArray) (k : Nat) (hk : k < 24) (h : 456 ≤ s.size) : czone (s.extract (24 + 18 * k) (42 + 18 * k)) = zat s k ∧ coff (s.extract (24 + 18 * k) (42 + 18 * k)) = oat s k ∧ ctag (s.extract (24 + 18 * k) (42 + 18 * k)) = tat s k := by
  have e0 : sb (s.extract (24 + 18 * k) (42 + 18 * k)) 0 = sb s (24 + 18 * k) := by rw [sb_ext s _ _ 0 (by omega) (by omega), Nat.add_zero]
  have e1 : sb (s.extract (24 + 18 * k) (42 + 18 * k)) 1 = sb s (25 + 18 * k) := by rw [sb_ext s _ _ 1 (by omega) (by omega), show 24 + 18 * k + 1 = 25 + 18 * k by omega]
  have e2 : (s.extract (24 + 18 * k) (42 + 18 * k)).extract 2 18 = s.extract (26 + 18 * k) (42 + 18 * k) := by rw [ext_ext s _ _ 2 18 (by omega), show 24 + 18 * k + 2 = 26 + 18 * k by omega, show 24 + 18 * k + 18 = 42 + 18 * k by omega]
  unfold czone coff ctag zat oat tat
  rw [e0, e1, e2]
  exact ⟨rfl, rfl, rfl⟩
theorem rdTo_set (s : ByteArray) (k : Nat) (hk : k < 24) (j : Nat) (hj : j < 73) :
    updv (updv (updv (tcell (rdTo s k)) (1 + k * 3) (.int .i64 (zat s k))) (1 + k * 3 + 1) (.int .i64 (oat s k))) (1 + k * 3 + 2) (.string (tat s k)) j = tcell (rdTo s (k + 1)) j := by
  by_cases e2 : j = 1 + k * 3 + 2
  · subst e2
    rw [tcell_at _ k 2 (by omega)]
    simp [updv, tpart, rdTo]
  · by_cases e1 : j = 1 + k * 3 + 1
    · subst e1
      rw [tcell_at _ k 1 (by omega)]
      unfold updv
      rw [if_neg e2, if_pos rfl]
      simp [tpart, rdTo]
    · by_cases e0 : j = 1 + k * 3
      · subst e0
        rw [show tcell (rdTo s (k + 1)) (1 + k * 3) = tpart (rdTo s (k + 1)) k 0 from tcell_at (rdTo s (k + 1)) k 0 (by omega)]
        unfold updv
        rw [if_neg e2, if_neg e1, if_pos rfl]
        simp [tpart, rdTo]
      · unfold updv
        rw [if_neg e2, if_neg e1, if_neg e0]
        unfold tcell
        split
        · rfl
        · have hne : (j - 1) / 3 ≠ k := by omega
          have hq : ∀ {α : Type} (x y : α), (if (j - 1) / 3 < k then x else y) = if (j - 1) / 3 < k + 1 then x else y := fun x y => by
            by_cases h1 : (j - 1) / 3 < k
            · rw [if_pos h1, if_pos (by omega)]
            · rw [if_neg h1, if_neg (by omega)]
          unfold tpart rdTo
          dsimp only
          rw [hq, hq, hq]
theorem zeroTab : Tryz.zeroCells92 = (brow 73 (tcell Tb.zero)).toArray := by kernel_rfl
theorem zeroTab_get (j : Nat) (hj : j < 73) : Tryz.zeroCells92[j]? = some (tcell Tb.zero j) := by
  rw [zeroTab, List.getElem?_toArray]
  exact brow_get _ _ _ hj
theorem zeroTab_cel (w : World) (b : Nat) (hb : b = w.heap.size) : Cel (w.alloc (.cells Tryz.zeroCells92 92)) b 73 (tcell Tb.zero) := Cel.new w _ _ _ _ zeroTab_get _ hb
theorem zeroTab_set (s : ByteArray) : Tryz.zeroCells92.toList.set 0 (.int .i64 (wrap64 (numAt s 16 8 : Int))) = brow 73 (tcell (rdTo s 0)) := by
  have hz : Tryz.zeroCells92.toList = brow 73 (tcell Tb.zero) := by rw [zeroTab]
  rw [hz]
  apply brow_of
  · rw [List.length_set, brow_length]
  · intro j hj
    rw [List.getElem?_set]
    by_cases e : 0 = j
    · subst e
      rw [if_pos rfl, if_pos (by rw [brow_length]; omega)]
      unfold tcell
      rw [if_pos rfl]
      unfold rdTo
      dsimp only
    · rw [if_neg e, brow_get _ _ _ hj]
      unfold tcell
      rw [if_neg (by omega), if_neg (by omega)]
      unfold tpart rdTo Tb.zero
      dsimp only
      rw [if_neg (Nat.not_lt_zero _), if_neg (Nat.not_lt_zero _), if_neg (Nat.not_lt_zero _)]
theorem tcell_one (T : Tb) (j : Nat) : (tcell T j).oneCell' = true := by
  unfold tcell tpart
  split
  · rfl
  · split
    · rfl
    · split <;> rfl
set_option maxHeartbeats 4000000 in
theorem read_any (s : ByteArray) (w : World) (hs : s.size = 456) : Calls Tryz.prog 127 #[.string s] w fun e w' => e = .returned (tval (rd s)) ∧ Since w w' := by
  have hI : (s.size : Int) = 456 := by omega
  have z1 : (s.extract 16 24).size = 8 := by rw [ByteArray.size_extract]; omega
  have HN : Hid (∀ W, Calls Tryz.prog 141 #[.string (s.extract 16 24)] W fun e w' => e = .returned (.int .i64 (wrap64 (numAt s 16 8 : Int))) ∧ w' = W) := fun W => by
    have := number_any (s.extract 16 24) W z1
    rw [numAt_ext s 16 24 0 (by omega) 8 (by omega), Nat.add_zero] at this
    exact this
  have hC0 := (zeroTab_cel w w.heap.size rfl).since ((Since.refl _).alloc (.cells Tryz.zeroCells92 92))
  have hC1 := zeroTab_cel (w.alloc (.cells Tryz.zeroCells92 92)) (w.heap.size + 1) (by simp)
  have hst := hC1.store Tryz.prog 0 73 (by omega) (tcell (rdTo s 0)) (fun j _ => tcell_one _ j)
  have hC2 := hC1.setRow 0 73 (by omega) (tcell (rdTo s 0))
  have hC3 := hC2.congr (g := tcell (rdTo s 0)) (fun j hj => by unfold updl; rw [if_pos (by omega)]; rfl)
  have hC4 := hC0.setRow_other (b' := w.heap.size + 1) (o' := 0) (brow 73 (tcell (rdTo s 0))) (by omega)
  have hS : Since w (((w.alloc (.cells Tryz.zeroCells92 92)).alloc (.cells Tryz.zeroCells92 92)).setCells (w.heap.size + 1) 0 (brow 73 (tcell (rdTo s 0)))) := (((Since.refl w).alloc _).alloc _).setCells (by omega) _ _
  have HC3 : Hid (Cel (((w.alloc (.cells Tryz.zeroCells92 92)).alloc (.cells Tryz.zeroCells92 92)).setCells (w.heap.size + 1) 0 (brow 73 (tcell (rdTo s 0)))) (w.heap.size + 1) 73 (tcell (rdTo s 0))) := hC3
  have HC4 : Hid (Cel (((w.alloc (.cells Tryz.zeroCells92 92)).alloc (.cells Tryz.zeroCells92 92)).setCells (w.heap.size + 1) 0 (brow 73 (tcell (rdTo s 0)))) w.heap.size 73 (tcell Tb.zero)) := hC4
  have HS : Hid (Since w (((w.alloc (.cells Tryz.zeroCells92 92)).alloc (.cells Tryz.zeroCells92 92)).setCells (w.heap.size + 1) 0 (brow 73 (tcell (rdTo s 0))))) := hS
  clear hC0 hC1 hC2 hC3 hC4 hS
  generalize ((w.alloc (.cells Tryz.zeroCells92 92)).alloc (.cells Tryz.zeroCells92 92)).setCells (w.heap.size + 1) 0 (brow 73 (tcell (rdTo s 0))) = w2 at *
  rw [← zeroTab_set] at hst
  go_enter Tryz.func127, Tryz.ntmps127
  go_wp2_with fail
  refine (HN.out _).mono ?_
  rintro e w1 ⟨rfl, hw1⟩
  subst hw1
  go_wp2_with fail
  clear hst HN z1
  go_loopw [10, 4, 5] (fun i _ _ wr => ∃ k : Nat, k ≤ 24 ∧ i = .int .i64 k ∧ Cel wr (w.heap.size + 1) 73 (tcell (rdTo s k)) ∧ Cel wr w.heap.size 73 (tcell Tb.zero) ∧ Since w wr) (fun i _ _ _ => 24 - (intOf i).toNat)
  case atStart => exact ⟨0, by omega, rfl, HC3.out, HC4.out, HS.out⟩
  case round =>
    obtain ⟨k, hk, rfl, hc, hd, hs2⟩ := hrel
    have HCK : Hid (Cel wr (w.heap.size + 1) 73 (tcell (rdTo s k))) := hc
    have HDK : Hid (Cel wr w.heap.size 73 (tcell Tb.zero)) := hd
    have HSK : Hid (Since w wr) := hs2
    clear hc hd hs2
    by_cases hlt : k < 24
    · have hlt2 : (k : Int) < 24 := by omega
      have g1 : (24 : Int) + (k : Int) * 18 = ((24 + 18 * k : Nat) : Int) := by omega
      have g2 : ((24 + 18 * k : Nat) : Int) + 18 = ((42 + 18 * k : Nat) : Int) := by omega
      have g3 : ((42 + 18 * k : Nat) : Int) ≤ 456 := by omega
      have z2 : (s.extract (24 + 18 * k) (42 + 18 * k)).size = 18 := by rw [ByteArray.size_extract]; omega
      have HCE : Hid (∀ W, Calls Tryz.prog 142 #[.string (s.extract (24 + 18 * k) (42 + 18 * k))] W fun e w' => e = .returned (.agg #[.int .i64 (zat s k), .int .i64 (oat s k), .string (tat s k)]) ∧ Since W w') := fun W => by
        have := cell_any (s.extract (24 + 18 * k) (42 + 18 * k)) W z2
        obtain ⟨c1, c2, c3⟩ := cut_zone s k hlt (by omega)
        rw [c1, c2, c3] at this
        exact this
      go_wp2_with fail
      rw [show 24 + 18 * k + 18 = 42 + 18 * k by omega]
      refine (HCE.out _).mono ?_
      rintro e w4 ⟨rfl, h4⟩
      have HC5 : Hid (Cel w4 (w.heap.size + 1) 73 (tcell (rdTo s k))) := HCK.out.since h4
      have HD5 : Hid (Cel w4 w.heap.size 73 (tcell Tb.zero)) := HDK.out.since h4
      have HS5 : Hid (Since w w4) := HSK.out.trans h4
      clear h4 HCE g1 g2 g3 z2
      have q0 := HC5.out.cell (1 + k * 3) (by omega)
      have q1 := HC5.out.cell (1 + k * 3 + 1) (by omega)
      have q2 := HC5.out.cell (1 + k * 3 + 2) (by omega)
      have f0 := HC5.out.frozen (1 + k * 3) (by omega)
      have f1 := HC5.out.frozen (1 + k * 3 + 1) (by omega)
      have f2 := HC5.out.frozen (1 + k * 3 + 2) (by omega)
      have hC6 := ((HC5.out.set (1 + k * 3) (by omega) (.int .i64 (zat s k))).set (1 + k * 3 + 1) (by omega) (.int .i64 (oat s k))).set (1 + k * 3 + 2) (by omega) (.string (tat s k))
      have HC6 : Hid (Cel (((w4.setCell ⟨w.heap.size + 1, 1 + k * 3, none⟩ (.int .i64 (zat s k))).setCell ⟨w.heap.size + 1, 1 + k * 3 + 1, none⟩ (.int .i64 (oat s k))).setCell ⟨w.heap.size + 1, 1 + k * 3 + 2, none⟩ (.string (tat s k))) (w.heap.size + 1) 73 (tcell (rdTo s (k + 1)))) := hC6.congr (fun j hj => rdTo_set s k hlt j hj)
      have HD6 : Hid (Cel (((w4.setCell ⟨w.heap.size + 1, 1 + k * 3, none⟩ (.int .i64 (zat s k))).setCell ⟨w.heap.size + 1, 1 + k * 3 + 1, none⟩ (.int .i64 (oat s k))).setCell ⟨w.heap.size + 1, 1 + k * 3 + 2, none⟩ (.string (tat s k))) w.heap.size 73 (tcell Tb.zero)) := ((HD5.out.other (by show w.heap.size + 1 ≠ w.heap.size; omega) _).other (by show w.heap.size + 1 ≠ w.heap.size; omega) _).other (by show w.heap.size + 1 ≠ w.heap.size; omega) _
      have HS6 : Hid (Since w (((w4.setCell ⟨w.heap.size + 1, 1 + k * 3, none⟩ (.int .i64 (zat s k))).setCell ⟨w.heap.size + 1, 1 + k * 3 + 1, none⟩ (.int .i64 (oat s k))).setCell ⟨w.heap.size + 1, 1 + k * 3 + 2, none⟩ (.string (tat s k)))) := ((HS5.out.setCell (by show w.heap.size ≤ w.heap.size + 1; omega) _).setCell (by show w.heap.size ≤ w.heap.size + 1; omega) _).setCell (by show w.heap.size ≤ w.heap.size + 1; omega) _
      clear hC6
      go_wp2_with fail
      go_roundw
      case rel => exact ⟨k + 1, by omega, by go_num, HC6.out, HD6.out, HS6.out⟩
      case measure => simp [intOf]; omega
    · have hke : k = 24 := by omega
      subst hke
      have hR := tab_all HCK.out
      have hL : (brow 73 (tcell (rdTo s 24))).length = 73 := brow_length _ _
      have hst := HDK.out.store Tryz.prog 0 73 (by omega) (tcell (rdTo s 24)) (fun j _ => tcell_one _ j)
      have HR2 : Hid ((wr.setCells w.heap.size 0 (brow 73 (tcell (rdTo s 24)))).rangeAt w.heap.size 0 (brow 73 (tcell (rdTo s 24)))) := tab_all ((HDK.out.setRow 0 73 (by omega) (tcell (rdTo s 24))).congr (g := tcell (rdTo s 24)) (fun j hj => by unfold updl; rw [if_pos (by omega)]; rfl))
      have HS2 : Hid (Since w (wr.setCells w.heap.size 0 (brow 73 (tcell (rdTo s 24))))) := HSK.out.setCells (Nat.le_refl _) _ _
      have HV : Hid (tval (rd s) = .agg (brow 73 (tcell (rdTo s 24))).toArray) := show tval (rd s) = _ from rfl
      generalize brow 73 (tcell (rdTo s 24)) = cs at *
      go_wp2_with (refine wpList_load_mid (by rfl) 92 _ (by rfl) (w.heap.size + 1) 0 (by rfl) _ _ hR Tryz.underlying92 (by rfl) (by rw [hL]; kernel_rfl) ?_)
      exact bodyPost_ret (results_row Tryz.results127 _ _ _ w.heap.size _ _ (by rfl) HR2.out Tryz.underlying92 (by rfl) (by rw [hL]; kernel_rfl)) rfl ⟨by rw [HV.out], HS2.out⟩
end Tw
end Go.Proofs.YtifnhnfjelfddaaGreatDoor
