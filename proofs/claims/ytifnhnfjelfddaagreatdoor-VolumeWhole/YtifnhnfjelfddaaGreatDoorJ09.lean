import Derived.Test.YtifnhnfjelfddaaGreatDoorJ05
import Derived.Test.YtifnhnfjelfddaaGreatDoorJ08
set_option linter.unusedSimpArgs false
set_option linter.unusedVariables false
section
namespace Go.Proofs.YtifnhnfjelfddaaGreatDoor
open Go.RowKit
theorem infoS : (Tryz.prog.info? 9).map (fun i => (i.zero, i.size, i.bytes)) = some (some (.string ⟨#[]⟩), 1, 16) := by kernel_rfl
def blks (blk : Nat → Nat → UInt8) (n : Nat) : List Value := (List.range n).map fun k => .string (txt 128 (blk k))
theorem blks_succ (blk : Nat → Nat → UInt8) (n : Nat) : blks blk (n + 1) = blks blk n ++ [.string (txt 128 (blk n))] := by
  unfold blks
  rw [List.range_succ, List.map_append]
  rfl
set_option maxRecDepth 100000 in
set_option maxHeartbeats 1000000 in
theorem image1_any (D : Dv) (v : Value) (b z : Nat) (w : World) (hd : Dev w b D v) (hz : z < 8) :
    Calls Tryz.prog 64 #[.pointer (some ⟨b, z * 2050, none⟩)] w fun e w' => ∃ x, e = .returned x ∧ w'.ownsRow w.heap.size 9 1 x (D.sure z) (blks (D.blk z) (D.sure z)) ∧ Since w w' := by
  have c1 := hd.cel.cell (z * 2050 + 2049) (by omega)
  rw [dcell_sure D v z hz] at c1
  have hs16 : D.sure z ≤ 16 := Nat.le_trans (hd.ok.sure z hz) (hd.ok.cnt z hz)
  have HD := (show Hid _ from hd)
  obtain ⟨i0, hi, hz0, hz1, hz2⟩ := info_parts' infoS
  have HI := (show Hid (Tryz.prog.info? 9 = some i0 ∧ i0.zero = some (.string ⟨#[]⟩) ∧ i0.size = 1 ∧ i0.bytes = 16) from ⟨hi, hz0, hz1, hz2⟩)
  clear hd hi hz0 hz1 hz2
  go_enter Tryz.func64, Tryz.ntmps64
  go_wp2_with fail
  go_loopw [9, 3] (fun i x wr => ∃ k : Nat, k ≤ D.sure z ∧ i = .int .i64 k ∧ wr.ownsRow w.heap.size 9 1 x k (blks (D.blk z) k) ∧ Since w wr) (fun i _ _ => D.sure z - (intOf i).toNat)
  case atStart => exact ⟨0, by omega, rfl, World.ownsRow_nil _ _ _ _, Since.refl _⟩
  case round =>
    obtain ⟨k, hk, rfl, hown, hS⟩ := hrel
    have HO : Hid (wr.ownsRow w.heap.size 9 1 u3 k (blks (D.blk z) k)) := hown
    have HS : Hid (Since w wr) := hS
    by_cases hlt : k < D.sure z
    · have hlt2 : (k : Int) < D.sure z := by omega
      have hk16 : (k : Int) < 16 := by omega
      have hcv := conv_txt wr b (z * 2050 + k * 128) 128 128 (D.blk z k) (fun i hi => by rw [(HD.out.since hS).cel.cell _ (by omega), dcell_blk D v z k i hz (by omega) hi])
      clear hown hS
      go_wp2_with (at_builtin; refine wpList_append_own _ (by rfl) _ _ _ (by rfl) w.heap.size 9 i0 _ 1 16 Tryz.underlying23 HI.out.1 HI.out.2.1 HI.out.2.2.1 HI.out.2.2.2 (by rfl) (by decide) _ k (blks (D.blk z) k) (by rfl) (World.ownsRow.alloc HO.out _) ⟨wr.heap.size, 0, none⟩ 1 1 [.string (txt 128 (D.blk z k))] (by rfl) (by rfl) (World.news_of_block (heap_alloc_new wr _)) (by simp [Value.oneCell']) (by unfold maxLen; omega) (by omega) (by have := HS.out.size; simp; omega) ?_; intro x' w1 hown1 hgrow _)
      refine ⟨⟨k + 1, by omega, by go_num, by rw [blks_succ]; exact hown1, ?_⟩, by simp [intOf]; omega⟩
      exact Below.grown (Since.alloc HS.out _) hgrow (by have := HS.out.size; simp; omega) (fun j hj => (HO.out.lt j hj).1)
    · have hke : k = D.sure z := by omega
      subst hke
      clear hown hS
      go_wp2_with fail
      go_ret
      exact ⟨_, rfl, HO.out, HS.out⟩
theorem ownsRow_base {w : World} {base base' e size n : Nat} {v : Value} {xs : List Value} (h : w.ownsRow base e size v n xs) (hb : base' ≤ base) : w.ownsRow base' e size v n xs := by
  refine ⟨h.1, ?_⟩
  rcases h.2 with hn | ⟨k, cap, cur, hv, hbk, hk, rest⟩
  · exact .inl hn
  · exact .inr ⟨k, cap, cur, hv, by omega, hk, rest⟩
def icell (iv : Nat → Value) (s0 s1 : ByteArray) (j : Nat) : Value := if j < 8 then iv j else if j = 8 then .string s0 else .string s1
def ivTo (iv : Nat → Value) (k : Nat) : Nat → Value := fun j => if j < k then iv j else .slice none 0 0
theorem ownsRow_since {w w' : World} {base e size n : Nat} {v : Value} {xs : List Value} (h : w.ownsRow base e size v n xs) (hs : Since w w') : w'.ownsRow base e size v n xs :=
  ownsRow_fr h (b := w.heap.size) (g := none) (Fr.of_since hs) (fun e => by have := (h.lt _ e).2; omega) (by
    cases hv : v.ownBlock with
    | none => exact Or.inl rfl
    | some k => exact Or.inr (by simp))
set_option maxRecDepth 100000 in
set_option maxHeartbeats 1000000 in
theorem image_any (D : Dv) (v : Value) (b : Nat) (w : World) (hd : Dev w b D v) :
    Calls Tryz.prog 34 #[.pointer (some ⟨b, 0, none⟩)] w fun e w' => ∃ iv, e = .returned (.agg (brow 10 (icell iv (txt 500 (D.slot 0)) (txt 500 (D.slot 1)))).toArray) ∧ (∀ z, z < 8 → w'.ownsRow w.heap.size 9 1 (iv z) (D.sure z) (blks (D.blk z) (D.sure z))) ∧ Since w w' := by
  have hbl := hd.lt
  have HD : Hid (Dev w b D v) := hd
  clear hd
  go_enter Tryz.func34, Tryz.ntmps34
  go_wp2_with fail
  refine (orNew_any _ _).mono ?_
  rintro e w' ⟨rfl, rfl⟩
  go_wp2_with fail
  go_loopw [8] (fun i wr => ∃ (k : Nat) (iv : Nat → Value), k ≤ 8 ∧ i = .int .i64 k ∧ Cel wr (w.heap.size + 1) 10 (icell (ivTo iv k) ⟨#[]⟩ ⟨#[]⟩) ∧ Cel wr w.heap.size 10 (icell (ivTo iv 0) ⟨#[]⟩ ⟨#[]⟩) ∧ (∀ z, z < k → wr.ownsRow (w.heap.size + 2) 9 1 (iv z) (D.sure z) (blks (D.blk z) (D.sure z))) ∧ Since w wr ∧ w.heap.size + 2 ≤ wr.heap.size) (fun i _ => 8 - (intOf i).toNat)
  case atStart =>
    have hz : ∀ j, j < 10 → #[Value.slice none 0 0, .slice none 0 0, .slice none 0 0, .slice none 0 0, .slice none 0 0, .slice none 0 0, .slice none 0 0, .slice none 0 0, .string ⟨#[]⟩, .string ⟨#[]⟩][j]? = some (icell (ivTo (fun _ => undef) 0) ⟨#[]⟩ ⟨#[]⟩ j) := by
      intro j hj
      match j, hj with
      | 0, _ => rfl
      | 1, _ => rfl
      | 2, _ => rfl
      | 3, _ => rfl
      | 4, _ => rfl
      | 5, _ => rfl
      | 6, _ => rfl
      | 7, _ => rfl
      | 8, _ => rfl
      | 9, _ => rfl
    exact ⟨0, fun _ => undef, by omega, rfl, Cel.new _ _ _ _ _ hz _ (by simp), (Cel.new w _ _ _ _ hz _ rfl).since ((Since.refl _).alloc _), fun z hz => by omega, ((Since.refl _).alloc _).alloc _, by simp⟩
  case round =>
    obtain ⟨k, iv, hk, rfl, hm, hr, hrow, hS, hsz⟩ := hrel
    have HM : Hid (Cel wr (w.heap.size + 1) 10 (icell (ivTo iv k) ⟨#[]⟩ ⟨#[]⟩)) := hm
    have HR : Hid (Cel wr w.heap.size 10 (icell (ivTo iv 0) ⟨#[]⟩ ⟨#[]⟩)) := hr
    have HW : Hid (∀ z, z < k → wr.ownsRow (w.heap.size + 2) 9 1 (iv z) (D.sure z) (blks (D.blk z) (D.sure z))) := hrow
    have HS : Hid (Since w wr) := hS
    by_cases hlt : k < 8
    · have hlt2 : (k : Int) < 8 := by omega
      clear hm hr hrow hS
      go_wp2_with fail
      refine (image1_any D v b k _ (HD.out.since HS.out) hlt).mono ?_
      rintro e w2 ⟨x, rfl, hx, hS2⟩
      have hm2 := HM.out.since hS2
      have c1 := hm2.cell k (by omega)
      have f1 := hm2.frozen k (by omega)
      have hx1 : x.oneCell' = true ∧ ∃ xa xn xc, x = .slice xa xn xc := by
        rcases hx.2 with ⟨h, _⟩ | ⟨g, cap, cur, h, _⟩ <;> subst h <;> exact ⟨rfl, _, _, _, rfl⟩
      obtain ⟨_, xa, xn, xc, rfl⟩ := hx1
      have HX : Hid (w2.ownsRow wr.heap.size 9 1 (.slice xa xn xc) (D.sure k) (blks (D.blk k) (D.sure k))) := hx
      have HM2 : Hid (Cel w2 (w.heap.size + 1) 10 (icell (ivTo iv k) ⟨#[]⟩ ⟨#[]⟩)) := hm2
      clear hm2 hx
      go_wp2_with fail
      go_roundw
      case rel =>
        refine ⟨k + 1, fun z => if z = k then .slice xa xn xc else iv z, by omega, by go_num, (HM2.out.set k (by omega) _).congr (fun j hj => ?_), ((HR.out.since hS2).other (by simp) _).congr (fun j hj => rfl), fun z hz => ?_, (HS.out.trans hS2).setCell (by simp) _, by have := hS2.size; simp; omega⟩
        · unfold updv icell ivTo
          by_cases h1 : j = k
          · subst h1
            dsimp only
            rw [if_pos rfl, if_pos hlt, if_pos (by omega), if_pos rfl]
          · rw [if_neg h1]
            by_cases h2 : j < 8
            · rw [if_pos h2, if_pos h2]
              by_cases h3 : j < k
              · dsimp only
                rw [if_pos h3, if_pos (by omega), if_neg h1]
              · rw [if_neg h3, if_neg (by omega)]
            · rw [if_neg h2, if_neg h2]
        · by_cases h1 : z = k
          · subst h1
            simp only [if_true]
            exact ownsRow_setCell_below (ownsRow_base HX.out (by omega)) (by simp) _
          · simp only [if_neg h1]
            exact ownsRow_setCell_below (ownsRow_since (HW.out z (by omega)) hS2) (by simp) _
      case measure => simp [intOf]; omega
    · have hke : k = 8 := by omega
      subst hke
      clear hm hr hrow hS
      go_wp2_with fail
      have hiv : ∀ j, j < 8 → ivTo iv 8 j = iv j := fun j hj => by unfold ivTo; rw [if_pos hj]
      have hcv0 := conv_txt wr b 16400 500 500 (D.slot 0) (fun i hi => by rw [(HD.out.since HS.out).cel.cell _ (by omega)]; exact congrArg some (dcell_slot D v 0 i (by omega) hi))
      have c8 := HM.out.cell 8 (by omega)
      have f8 := HM.out.frozen 8 (by omega)
      refine wp_loop_rounds 3 ?_
      rw [rounds_succ]
      go_wp2_with fail
      have hm1 := HM.out.set 8 (by omega) (.string (txt 500 (D.slot 0)))
      have hr1 := HR.out.other (a := ⟨w.heap.size + 1, 8, none⟩) (by simp) (.string (txt 500 (D.slot 0)))
      have hS1 := HS.out.setCell (p := ⟨w.heap.size + 1, 8, none⟩) (by simp) (.string (txt 500 (D.slot 0)))
      have hw1 : ∀ z, z < 8 → (wr.setCell ⟨w.heap.size + 1, 8, none⟩ (.string (txt 500 (D.slot 0)))).ownsRow (w.heap.size + 2) 9 1 (iv z) (D.sure z) (blks (D.blk z) (D.sure z)) := fun z hz => ownsRow_setCell_below (HW.out z hz) (by simp) _
      generalize wr.setCell ⟨w.heap.size + 1, 8, none⟩ (.string (txt 500 (D.slot 0))) = w1 at *
      have hcv1 := conv_txt w1 b 16900 500 500 (D.slot 1) (fun i hi => by rw [(HD.out.since hS1).cel.cell _ (by omega)]; exact congrArg some (dcell_slot D v 1 i (by omega) hi))
      have c9 := hm1.cell 9 (by omega)
      have f9 := hm1.frozen 9 (by omega)
      have HM1 : Hid (Cel w1 (w.heap.size + 1) 10 _) := hm1
      have HR1 : Hid (Cel w1 w.heap.size 10 _) := hr1
      have HS1 : Hid (Since w w1) := hS1
      have HW1 : Hid (∀ z, z < 8 → w1.ownsRow (w.heap.size + 2) 9 1 (iv z) (D.sure z) (blks (D.blk z) (D.sure z))) := hw1
      clear hm1 hr1 hS1 hw1 hcv0 c8 f8
      rw [rounds_succ]
      go_wp2_with fail
      have hm2 := HM1.out.set 9 (by omega) (.string (txt 500 (D.slot 1)))
      have hr2 := HR1.out.other (a := ⟨w.heap.size + 1, 9, none⟩) (by simp) (.string (txt 500 (D.slot 1)))
      have hS2 := HS1.out.setCell (p := ⟨w.heap.size + 1, 9, none⟩) (by simp) (.string (txt 500 (D.slot 1)))
      have hw2 : ∀ z, z < 8 → (w1.setCell ⟨w.heap.size + 1, 9, none⟩ (.string (txt 500 (D.slot 1)))).ownsRow (w.heap.size + 2) 9 1 (iv z) (D.sure z) (blks (D.blk z) (D.sure z)) := fun z hz => ownsRow_setCell_below (HW1.out z hz) (by simp) _
      generalize w1.setCell ⟨w.heap.size + 1, 9, none⟩ (.string (txt 500 (D.slot 1))) = w2 at *
      have hm3 : Cel w2 (w.heap.size + 1) 10 (icell iv (txt 500 (D.slot 0)) (txt 500 (D.slot 1))) := hm2.congr (fun j hj => by
        unfold updv icell
        by_cases h9 : j = 9
        · subst h9; rfl
        · rw [if_neg h9]
          by_cases h8 : j = 8
          · subst h8; rfl
          · rw [if_neg h8, if_pos (by omega), if_pos (by omega), hiv j (by omega)])
      have hR := hm3.range 0 10 (by omega)
      simp only [Nat.zero_add] at hR
      have hic1 : ∀ j, j < 10 → (icell iv (txt 500 (D.slot 0)) (txt 500 (D.slot 1)) j).oneCell' = true := fun j hj => by
        unfold icell
        by_cases h : j < 8
        · rw [if_pos h]
          rcases (hw2 j h).2 with ⟨e, _⟩ | ⟨g, cap, cur, e, _⟩ <;> rw [e] <;> rfl
        · rw [if_neg h]
          split <;> rfl
      have hst := hr2.store Tryz.prog 0 10 (by omega) (icell iv (txt 500 (D.slot 0)) (txt 500 (D.slot 1))) hic1
      have hL : (brow 10 (icell iv (txt 500 (D.slot 0)) (txt 500 (D.slot 1)))).length = 10 := brow_length _ _
      have hr3 := (hr2.setRow 0 10 (by omega) (icell iv (txt 500 (D.slot 0)) (txt 500 (D.slot 1)))).congr (g := icell iv (txt 500 (D.slot 0)) (txt 500 (D.slot 1))) (fun j hj => by unfold updl; rw [if_pos (by omega)]; rfl)
      have hR3 := hr3.range 0 10 (by omega)
      simp only [Nat.zero_add] at hR3
      have HR3 : Hid _ := hR3
      have HS3 : Hid (Since w _) := hS2.setCells (b := w.heap.size) (by simp) (brow 10 (icell iv (txt 500 (D.slot 0)) (txt 500 (D.slot 1)))) 0
      have HW3 : Hid (∀ z, z < 8 → (w2.setCells w.heap.size 0 (brow 10 (icell iv (txt 500 (D.slot 0)) (txt 500 (D.slot 1))))).ownsRow w.heap.size 9 1 (iv z) (D.sure z) (blks (D.blk z) (D.sure z))) := fun z hz =>
        ownsRow_base (ownsRow_fr (hw2 z hz) (Fr.setCells w.heap.size none _ 0 w2) (fun e => by have := ((hw2 z hz).lt _ e).1; omega) (by
          cases hv : (iv z).ownBlock with
          | none => exact Or.inl rfl
          | some k => exact Or.inr (by simp))) (by omega)
      clear hm2 hr2 hS2 hw2 hm3 hic1 hr3 hR3 hcv1 c9 f9
      rw [rounds_succ]
      generalize hcs : brow 10 (icell iv (txt 500 (D.slot 0)) (txt 500 (D.slot 1))) = cs at *
      go_wp2_with (refine wpList_load_mid (by rfl) 61 _ (by rfl) (w.heap.size + 1) 0 (by rfl) _ _ hR Tryz.underlying61 (by rfl) (by rw [hL]; kernel_rfl) ?_)
      refine bodyPost_ret (results_row Tryz.results34 _ _ _ w.heap.size _ _ (by rfl) HR3.out Tryz.underlying61 (by rfl) (by rw [hL]; kernel_rfl)) rfl ⟨iv, by rw [hcs], HW3.out, HS3.out⟩
end Go.Proofs.YtifnhnfjelfddaaGreatDoor
end
section
namespace Go.Proofs.YtifnhnfjelfddaaGreatDoor
open Go.RowKit
def laidBlk (l : Nat → ByteArray) (m : Nat) : Nat → Nat → UInt8 := fun k i => if k < m then sb (l k) i else 0
theorem laidBlk_succ (l : Nat → ByteArray) (m : Nat) : (fun k i => if k = m then sb (l m) i else laidBlk l m k i) = laidBlk l (m + 1) := by
  funext k i
  unfold laidBlk
  by_cases h : k = m
  · subst h; rw [if_pos rfl, if_pos (by omega)]
  · rw [if_neg h]
    by_cases h2 : k < m
    · rw [if_pos h2, if_pos (by omega)]
    · rw [if_neg h2, if_neg (by omega)]
theorem scell_sure (blk : Nat → Nat → UInt8) (m s j : Nat) (hj : j < 2050) : updv (scell blk m s) 2049 (.int .i64 m) j = scell blk m m j := by
  unfold updv scell
  by_cases h : j = 2049
  · rw [if_pos h, if_neg (by omega), if_neg (by omega)]
  · rw [if_neg h]
    by_cases h1 : j < 2048
    · rw [if_pos h1, if_pos h1]
    · rw [if_neg h1, if_neg h1, if_pos (by omega), if_pos (by omega)]
def Txs (w : World) (a : Option Addr) (n : Nat) (l : Nat → ByteArray) : Prop := 0 < n → ∃ k o, a = some ⟨k, o, none⟩ ∧ ∀ j, j < n → w.cell? ⟨k, o + j, none⟩ = some (.string (l j))
set_option maxRecDepth 100000 in
set_option maxHeartbeats 2000000 in
theorem laid_few (a : Option Addr) (n c : Nat) (l : Nat → ByteArray) (w : World) (hs : Txs w a n l) (hc : n ≤ c) (hn : n ≤ 16) :
    Calls Tryz.prog 58 #[.slice a n c] w fun e w' => e = .returned (.agg (brow 2050 (scell (laidBlk l n) n n)).toArray) ∧ Since w w' := by
  have HT : Hid (Txs w a n l) := hs
  clear hs
  have hB : Cel ((w.alloc (.cells Tryz.zeroCells78 78)).alloc (.cells Tryz.zeroCells78 78)) w.heap.size 2050 (scell (fun _ _ => 0) 0 0) := (Cel.new w _ _ _ _ (fun j hj => zeroStrip_get j hj) _ rfl).since ((Since.refl _).alloc _)
  have hA : Cel ((w.alloc (.cells Tryz.zeroCells78 78)).alloc (.cells Tryz.zeroCells78 78)) (w.heap.size + 1) 2050 (scell (laidBlk l 0) 0 0) := (Cel.new (w.alloc _) _ _ _ _ (fun j hj => zeroStrip_get j hj) _ (by simp))
  have hS : Since w ((w.alloc (.cells Tryz.zeroCells78 78)).alloc (.cells Tryz.zeroCells78 78)) := ((Since.refl w).alloc _).alloc _
  have HB : Hid (Cel _ w.heap.size 2050 (scell (fun _ _ => 0) 0 0)) := hB
  have HA : Hid (Cel _ (w.heap.size + 1) 2050 (scell (laidBlk l 0) 0 0)) := hA
  have HS : Hid (Since w _) := hS
  have HC : Hid (n ≤ c) := hc
  clear hA hB hS
  have hni : (n : Int) ≤ 16 := by omega
  go_enter Tryz.func58, Tryz.ntmps58
  go_wp2_with fail
  skip
  go_loopw [12] (fun i wr => ∃ k : Nat, k ≤ n ∧ i = .int .i64 k ∧ Cel wr (w.heap.size + 1) 2050 (scell (laidBlk l k) k 0) ∧ Cel wr w.heap.size 2050 (scell (fun _ _ => 0) 0 0) ∧ Since w wr) (fun i _ => n - (intOf i).toNat)
  case atStart => exact ⟨0, by omega, rfl, HA.out, HB.out, HS.out⟩
  case round =>
    obtain ⟨k, hk, rfl, hz, hr, hsn⟩ := hrel
    have HZ : Hid (Cel wr (w.heap.size + 1) 2050 (scell (laidBlk l k) k 0)) := hz
    have HR : Hid (Cel wr w.heap.size 2050 (scell (fun _ _ => 0) 0 0)) := hr
    have HSN : Hid (Since w wr) := hsn
    clear hz hr hsn HA HB HS
    by_cases hlt : k < n
    · have hlt2 : (k : Int) < (n : Nat) := by omega
      obtain ⟨lk, lo, rfl, hlc⟩ := HT.out (by omega)
      have q1 := (HSN.out.cell (p := ⟨lk, lo + k, none⟩) (World.block_lt_of_cell? w _ (hlc k (by omega)))).trans (hlc k (by omega))
      clear hlc
      go_wp2_with fail
      refine (add_any (w.heap.size + 1) 0 k 2050 (scell (laidBlk l k) k 0) (l k) _ HZ.out (by omega) (by unfold scell; rfl) (by omega)).mono ?_
      rintro e w2 ⟨rfl, hw2⟩
      have hz2 : Cel w2 (w.heap.size + 1) 2050 (scell (laidBlk l (k + 1)) (k + 1) 0) := by
        rw [hw2, Nat.zero_add, Nat.zero_add]
        refine (((HZ.out.since (Since.refl _).drew).setRow (k * 128) (min (l k).size 128) (by omega) (fun i => bv (sb (l k) i))).set 2048 (by omega) (.int .i64 (k + 1))).congr (fun j hj => ?_)
        rw [scell_add (laidBlk l k) k 0 (l k) (by omega) (fun i _ => by unfold laidBlk; rw [if_neg (by omega)]) j hj, laidBlk_succ]
      have hr2 : Cel w2 w.heap.size 2050 (scell (fun _ _ => 0) 0 0) := by
        rw [hw2]
        exact ((HR.out.since (Since.refl _).drew).setRow_other _ (by omega)).other (by simp) _
      have hs2 : Since w w2 := by
        rw [hw2]
        exact ((HSN.out.drew).setCells (by omega) _ _).setCell (by simp) _
      have HZ2 : Hid (Cel w2 (w.heap.size + 1) 2050 (scell (laidBlk l (k + 1)) (k + 1) 0)) := hz2
      have HR2 : Hid (Cel w2 w.heap.size 2050 (scell (fun _ _ => 0) 0 0)) := hr2
      have HS2 : Hid (Since w w2) := hs2
      clear hw2 hz2 hr2 hs2 q1
      go_wp2_with fail
      go_roundw
      case rel => exact ⟨k + 1, by omega, by go_num, HZ2.out, HR2.out, HS2.out⟩
      case measure => simp [intOf]; omega
    · have hke : n = k := by omega
      subst hke
      have c1 := HZ.out.cell 2048 (by omega)
      rw [show scell (laidBlk l n) n 0 2048 = .int .i64 (n : Nat) by unfold scell; rfl] at c1
      have c2 := HZ.out.cell 2049 (by omega)
      have f2 := HZ.out.frozen 2049 (by omega)
      have hz3 : Cel (wr.setCell ⟨w.heap.size + 1, 2049, none⟩ (.int .i64 (n : Nat))) (w.heap.size + 1) 2050 (scell (laidBlk l n) n n) := (HZ.out.set 2049 (by omega) _).congr (fun j hj => scell_sure _ n 0 j hj)
      have hr3 : Cel (wr.setCell ⟨w.heap.size + 1, 2049, none⟩ (.int .i64 (n : Nat))) w.heap.size 2050 (scell (fun _ _ => 0) 0 0) := HR.out.other (by simp) _
      have hs3 : Since w (wr.setCell ⟨w.heap.size + 1, 2049, none⟩ (.int .i64 (n : Nat))) := HSN.out.setCell (by simp) _
      skip
      have hR := hz3.range 0 2050 (by omega)
      simp only [Nat.zero_add] at hR
      have hst := hr3.store Tryz.prog 0 2050 (by omega) (scell (laidBlk l n) n n) (fun _ _ => scell_one _ _ _ _)
      have hr4 := (hr3.setRow 0 2050 (by omega) (scell (laidBlk l n) n n)).congr (g := scell (laidBlk l n) n n) (fun j hj => by unfold updl; rw [if_pos (by omega)]; congr 1)
      have hR4 := hr4.range 0 2050 (by omega)
      simp only [Nat.zero_add] at hR4
      have hL : (brow 2050 (scell (laidBlk l n) n n)).length = 2050 := brow_length _ _
      have HR4 : Hid _ := hR4
      have HS4 : Hid (Since w _) := hs3.setCells (b := w.heap.size) (Nat.le_refl _) (brow 2050 (scell (laidBlk l n) n n)) 0
      clear hz3 hr3 hs3 hr4 hR4
      generalize hcs : brow 2050 (scell (laidBlk l n) n n) = cs at *
      go_wp2_with (refine wpList_load_mid (by rfl) 78 _ (by rfl) (w.heap.size + 1) 0 (by rfl) _ _ hR Tryz.underlying78 (by rfl) (by rw [hL]; kernel_rfl) ?_)
      exact bodyPost_ret (results_row Tryz.results58 _ _ _ w.heap.size _ _ (by rfl) HR4.out Tryz.underlying78 (by rfl) (by rw [hL]; kernel_rfl)) rfl ⟨by rw [hcs], HS4.out⟩
set_option maxRecDepth 100000 in
set_option maxHeartbeats 2000000 in
theorem laid_many (a : Option Addr) (n c : Nat) (l : Nat → ByteArray) (w : World) (hs : Txs w a n l) (hc : n ≤ c) (hn : 16 < n) :
    Calls Tryz.prog 58 #[.slice a n c] w fun e w' => e = .returned (.agg (brow 2050 (scell (laidBlk l 16) 16 16)).toArray) ∧ Since w w' := by
  have HT : Hid (Txs w a n l) := hs
  clear hs
  have hB : Cel ((w.alloc (.cells Tryz.zeroCells78 78)).alloc (.cells Tryz.zeroCells78 78)) w.heap.size 2050 (scell (fun _ _ => 0) 0 0) := (Cel.new w _ _ _ _ (fun j hj => zeroStrip_get j hj) _ rfl).since ((Since.refl _).alloc _)
  have hA : Cel ((w.alloc (.cells Tryz.zeroCells78 78)).alloc (.cells Tryz.zeroCells78 78)) (w.heap.size + 1) 2050 (scell (laidBlk l 0) 0 0) := (Cel.new (w.alloc _) _ _ _ _ (fun j hj => zeroStrip_get j hj) _ (by simp))
  have hS : Since w ((w.alloc (.cells Tryz.zeroCells78 78)).alloc (.cells Tryz.zeroCells78 78)) := ((Since.refl w).alloc _).alloc _
  have HB : Hid (Cel _ w.heap.size 2050 (scell (fun _ _ => 0) 0 0)) := hB
  have HA : Hid (Cel _ (w.heap.size + 1) 2050 (scell (laidBlk l 0) 0 0)) := hA
  have HS : Hid (Since w _) := hS
  have HC : Hid (n ≤ c) := hc
  clear hA hB hS
  have hni : ¬ (n : Int) ≤ 16 := by omega
  have h16c : 16 ≤ c := by omega
  go_enter Tryz.func58, Tryz.ntmps58
  go_wp2_with fail
  try rw [show (max (16 : Int) 0) = 16 from rfl]
  go_loopw [12] (fun i wr => ∃ k : Nat, k ≤ 16 ∧ i = .int .i64 k ∧ Cel wr (w.heap.size + 1) 2050 (scell (laidBlk l k) k 0) ∧ Cel wr w.heap.size 2050 (scell (fun _ _ => 0) 0 0) ∧ Since w wr) (fun i _ => 16 - (intOf i).toNat)
  case atStart => exact ⟨0, by omega, rfl, HA.out, HB.out, HS.out⟩
  case round =>
    obtain ⟨k, hk, rfl, hz, hr, hsn⟩ := hrel
    have HZ : Hid (Cel wr (w.heap.size + 1) 2050 (scell (laidBlk l k) k 0)) := hz
    have HR : Hid (Cel wr w.heap.size 2050 (scell (fun _ _ => 0) 0 0)) := hr
    have HSN : Hid (Since w wr) := hsn
    clear hz hr hsn HA HB HS
    by_cases hlt : k < 16
    · have hlt2 : (k : Int) < (16 : Nat) := by omega
      obtain ⟨lk, lo, rfl, hlc⟩ := HT.out (by omega)
      have q1 := (HSN.out.cell (p := ⟨lk, lo + k, none⟩) (World.block_lt_of_cell? w _ (hlc k (by omega)))).trans (hlc k (by omega))
      clear hlc
      go_wp2_with fail
      refine (add_any (w.heap.size + 1) 0 k 2050 (scell (laidBlk l k) k 0) (l k) _ HZ.out (by omega) (by unfold scell; rfl) (by omega)).mono ?_
      rintro e w2 ⟨rfl, hw2⟩
      have hz2 : Cel w2 (w.heap.size + 1) 2050 (scell (laidBlk l (k + 1)) (k + 1) 0) := by
        rw [hw2, Nat.zero_add, Nat.zero_add]
        refine (((HZ.out.since (Since.refl _).drew).setRow (k * 128) (min (l k).size 128) (by omega) (fun i => bv (sb (l k) i))).set 2048 (by omega) (.int .i64 (k + 1))).congr (fun j hj => ?_)
        rw [scell_add (laidBlk l k) k 0 (l k) (by omega) (fun i _ => by unfold laidBlk; rw [if_neg (by omega)]) j hj, laidBlk_succ]
      have hr2 : Cel w2 w.heap.size 2050 (scell (fun _ _ => 0) 0 0) := by
        rw [hw2]
        exact ((HR.out.since (Since.refl _).drew).setRow_other _ (by omega)).other (by simp) _
      have hs2 : Since w w2 := by
        rw [hw2]
        exact ((HSN.out.drew).setCells (by omega) _ _).setCell (by simp) _
      have HZ2 : Hid (Cel w2 (w.heap.size + 1) 2050 (scell (laidBlk l (k + 1)) (k + 1) 0)) := hz2
      have HR2 : Hid (Cel w2 w.heap.size 2050 (scell (fun _ _ => 0) 0 0)) := hr2
      have HS2 : Hid (Since w w2) := hs2
      clear hw2 hz2 hr2 hs2 q1
      go_wp2_with fail
      go_roundw
      case rel => exact ⟨k + 1, by omega, by go_num, HZ2.out, HR2.out, HS2.out⟩
      case measure => simp [intOf]; omega
    · have hke : 16 = k := by omega
      subst hke
      have c1 := HZ.out.cell 2048 (by omega)
      rw [show scell (laidBlk l 16) 16 0 2048 = .int .i64 (16 : Nat) by unfold scell; rfl] at c1
      have c2 := HZ.out.cell 2049 (by omega)
      have f2 := HZ.out.frozen 2049 (by omega)
      have hz3 : Cel (wr.setCell ⟨w.heap.size + 1, 2049, none⟩ (.int .i64 (16 : Nat))) (w.heap.size + 1) 2050 (scell (laidBlk l 16) 16 16) := (HZ.out.set 2049 (by omega) _).congr (fun j hj => scell_sure _ 16 0 j hj)
      have hr3 : Cel (wr.setCell ⟨w.heap.size + 1, 2049, none⟩ (.int .i64 (16 : Nat))) w.heap.size 2050 (scell (fun _ _ => 0) 0 0) := HR.out.other (by simp) _
      have hs3 : Since w (wr.setCell ⟨w.heap.size + 1, 2049, none⟩ (.int .i64 (16 : Nat))) := HSN.out.setCell (by simp) _
      simp only [Int.cast_ofNat_Int] at c1 hz3 hr3 hs3
      have hR := hz3.range 0 2050 (by omega)
      simp only [Nat.zero_add] at hR
      have hst := hr3.store Tryz.prog 0 2050 (by omega) (scell (laidBlk l 16) 16 16) (fun _ _ => scell_one _ _ _ _)
      have hr4 := (hr3.setRow 0 2050 (by omega) (scell (laidBlk l 16) 16 16)).congr (g := scell (laidBlk l 16) 16 16) (fun j hj => by unfold updl; rw [if_pos (by omega)]; congr 1)
      have hR4 := hr4.range 0 2050 (by omega)
      simp only [Nat.zero_add] at hR4
      have hL : (brow 2050 (scell (laidBlk l 16) 16 16)).length = 2050 := brow_length _ _
      have HR4 : Hid _ := hR4
      have HS4 : Hid (Since w _) := hs3.setCells (b := w.heap.size) (Nat.le_refl _) (brow 2050 (scell (laidBlk l 16) 16 16)) 0
      clear hz3 hr3 hs3 hr4 hR4
      generalize hcs : brow 2050 (scell (laidBlk l 16) 16 16) = cs at *
      go_wp2_with (refine wpList_load_mid (by rfl) 78 _ (by rfl) (w.heap.size + 1) 0 (by rfl) _ _ hR Tryz.underlying78 (by rfl) (by rw [hL]; kernel_rfl) ?_)
      exact bodyPost_ret (results_row Tryz.results58 _ _ _ w.heap.size _ _ (by rfl) HR4.out Tryz.underlying78 (by rfl) (by rw [hL]; kernel_rfl)) rfl ⟨by rw [hcs], HS4.out⟩
theorem laid_any (a : Option Addr) (n c : Nat) (l : Nat → ByteArray) (w : World) (hs : Txs w a n l) (hc : n ≤ c) :
    Calls Tryz.prog 58 #[.slice a n c] w fun e w' => e = .returned (.agg (brow 2050 (scell (laidBlk l (min n 16)) (min n 16) (min n 16))).toArray) ∧ Since w w' := by
  by_cases h : n ≤ 16
  · rw [Nat.min_eq_left h]; exact laid_few a n c l w hs hc h
  · rw [Nat.min_eq_right (by omega)]; exact laid_many a n c l w hs hc (by omega)
end Go.Proofs.YtifnhnfjelfddaaGreatDoor
end
section
namespace Go.Proofs.YtifnhnfjelfddaaGreatDoor
open Go.RowKit
structure Img (w : World) (b : Nat) (iv : Nat → Value) (n : Nat → Nat) (l : Nat → Nat → ByteArray) : Prop where
  row : ∀ z, z < 8 → ∃ a c, iv z = .slice a (n z) c ∧ n z ≤ c ∧ (0 < n z → ∃ k o, a = some ⟨k, o, none⟩ ∧ k ≠ b ∧ ∀ j, j < n z → w.cell? ⟨k, o + j, none⟩ = some (.string (l z j)))
theorem Img.fr {w w' : World} {b : Nat} {iv : Nat → Value} {n : Nat → Nat} {l : Nat → Nat → ByteArray} (h : Img w b iv n l) (hf : Fr b none w w') : Img w' b iv n l where
  row z hz := by
    obtain ⟨a, c, h1, h2, h3⟩ := h.row z hz
    refine ⟨a, c, h1, h2, fun hn => ?_⟩
    obtain ⟨k, o, ha, hk, hc⟩ := h3 hn
    exact ⟨k, o, ha, hk, fun j hj => (hf.cell (p := ⟨k, o + j, none⟩) (World.block_lt_of_cell? w _ (hc j hj)) hk (by simp)).trans (hc j hj)⟩
end Go.Proofs.YtifnhnfjelfddaaGreatDoor
end
