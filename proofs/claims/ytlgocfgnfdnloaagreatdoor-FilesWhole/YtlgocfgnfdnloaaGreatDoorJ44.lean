import Derived.Test.YtlgocfgnfdnloaaGreatDoorJ23
import Derived.Test.YtlgocfgnfdnloaaGreatDoorJ42
import Derived.Test.YtlgocfgnfdnloaaGreatDoorJ43
set_option linter.unusedSimpArgs false
set_option linter.unusedVariables false
section
namespace Go.Proofs.YtlgocfgnfdnloaaGreatDoor
set_option maxRecDepth 100000
namespace Fl
open Go.RowKit Go.Sort Go.Shelf
open En (Fi Fls Ints fval Row freeL allC need nameB filled ivals)
open Vl
theorem fcells_append (x : Fv) : ∀ d : List Fv, fcells (d ++ [x]) = fcells d ++ [.string x.1, .int .i64 x.2.1, .slice x.2.2.1 x.2.2.2.1 x.2.2.2.2]
  | [] => rfl
  | y :: r => by
    have ih := fcells_append x r
    have e : fcells (y :: r) = .string y.1 :: .int .i64 y.2.1 :: .slice y.2.2.1 y.2.2.2.1 y.2.2.2.2 :: fcells r := rfl
    have e2 : fcells (y :: r ++ [x]) = .string y.1 :: .int .i64 y.2.1 :: .slice y.2.2.1 y.2.2.2.1 y.2.2.2.2 :: fcells (r ++ [x]) := rfl
    rw [e, e2, ih]
    rfl
section
variable {w0 w w' : World} {fb vb db cb : Nat} {kb kt : ByteArray} {S : Vs} {v lv : Value} {d d0 : List Fv} {l l0 : List Fi}
set_option maxHeartbeats 8000000 in
theorem fput_any (B : Base w0 kb kt) (LB : En.Lb w0) (n : Int) (ho : S.ok n) (hn : n + 2000 < 900000000) (h : Fm w0 w fb vb db cb kb kt S v lv d l) (hr : En.right l = true) (s t : ByteArray) (hs : s.size ≤ 100000) (ht : t.size ≤ 100000) :
    Calls Tryz.prog 15 #[.pointer (some ⟨fb, 0, none⟩), .string s, .string t] w fun e w' =>
      (nameB s.data.toList = false ∧ e = .returned (En.errV 5) ∧ Since w w') ∨ (nameB s.data.toList = true ∧ fullB l s t = true ∧ e = .returned (En.errV 12) ∧ Since w w') ∨
      (nameB s.data.toList = true ∧ fullB l s t = false ∧ (wrF kb kt (cellsF l s t) t S).2.ok (n + (cellsF l s t).length) ∧ ∃ v1,
        ((wrF kb kt (cellsF l s t) t S).1 ≠ 0 → e = .returned (ev (wrF kb kt (cellsF l s t) t S).1) ∧ Fm w0 w' fb vb db cb kb kt (wrF kb kt (cellsF l s t) t S).2 v1 lv d l) ∧
        ((wrF kb kt (cellsF l s t) t S).1 = 0 → ∃ l' d' lv', (butL l s ++ [newF l s t]).Perm l' ∧ Rise l' ∧ e = .returned (ev (dirW kb kt l' (wrF kb kt (cellsF l s t) t S).2).1) ∧ (dirW kb kt l' (wrF kb kt (cellsF l s t) t S).2).2.ok (n + (cellsF l s t).length + 3) ∧
          ((dirW kb kt l' (wrF kb kt (cellsF l s t) t S).2).1 = 0 → Fm w0 w' fb vb db cb kb kt (dirW kb kt l' (wrF kb kt (cellsF l s t) t S).2).2 v1 lv' d' l' ∧ Nl w lv d lv' d') ∧ ((dirW kb kt l' (wrF kb kt (cellsF l s t) t S).2).1 ≠ 0 → Fm w0 w' fb vb db cb kb kt (dirW kb kt l' (wrF kb kt (cellsF l s t) t S).2).2 v1 lv d l)) ∧
        Fs (fun k => k = fb ∨ VP vb db cb v k) w w' ∧ (∀ k, k < w.heap.size → ¬ VP vb db cb v k → ¬ VP vb db cb v1 k)) := by
  have hor := orZero_any fb vb w h.c0
  have p1 := h.c1
  have hl8 : l.length ≤ 8 := ((right_iff l).1 hr).1.len
  have hdl := h.each.len
  have HF : Hid (Fm w0 w fb vb db cb kb kt S v lv d l) := h
  have HR : Hid (En.right l = true ∧ l.length ≤ 8 ∧ s.size ≤ 100000 ∧ t.size ≤ 100000) := ⟨hr, hl8, hs, ht⟩
  have HO : Hid (S.ok n ∧ n + 2000 < 900000000) := ⟨ho, hn⟩
  have HWI : Hid (Calls Tryz.prog 62 #[.pointer (some ⟨fb, 0, none⟩), .string s] w fun e w' => ∃ v', e = .returned v' ∧ w'.ownsRow w.heap.size 153 3 v' (d.filter (keepB s)).length (fcells (d.filter (keepB s))) ∧ Since w w' ∧ (v' = .slice none 0 0 → d = [])) := without_any _ w fb _ d l s h.c1 h.sr h.each (by omega)
  have HOR : Hid (Calls Tryz.prog 61 #[.pointer (some ⟨fb, 0, none⟩)] w fun e w' => e = .returned (.pointer (some ⟨fb, 0, none⟩)) ∧ w' = w) := hor
  clear h hr ho hn hor hl8 p1 hdl hs ht
  go_enter Tryz.func15, Tryz.ntmps15
  go_wp2_with fail
  refine HOR.out.mono ?_
  rintro e w1 ⟨rfl, hw1⟩
  subst hw1
  go_wp2_with fail
  refine (En.name_any s _).mono ?_
  rintro e w2 ⟨rfl, hw2⟩
  subst hw2
  cases hB : nameB s.data.toList with
  | false =>
    have HB : Hid (nameB s.data.toList = false) := hB
    clear hB
    go_wp2_with fail
    go_ret
    exact Or.inl ⟨HB.out, rfl, Since.refl _⟩
  | true =>
    have HB : Hid (nameB s.data.toList = true) := hB
    clear hB
    go_wp2_with fail
    refine HWI.out.mono ?_
    rintro e w4 ⟨v4, rfl, ho4, hs4, hnil⟩
    have he4 := (HF.out.each.filter s).since hs4
    have hfls : Fls w4 v4 (butL l s) := own_fls he4 ho4
    have hrb : En.right (butL l s) = true := (((right_iff l).1 HR.out.1).1.filter _).right (List.Perm.refl _) (rise_but HR.out.1 s)
    have HFR : Hid (Calls Tryz.prog 63 #[v4] w4 fun e w' => ∃ x, e = .returned x ∧ w'.ownsRow w4.heap.size 3 1 x (freeL (butL l s)).length (ivals (freeL (butL l s))) ∧ Since w4 w') := En.free_any _ v4 w4 hfls hrb
    have hvl : ∃ a c, v4 = .slice a (butL l s).length c := by
      obtain ⟨a, c, h1, _⟩ := hfls
      exact ⟨a, c, h1⟩
    obtain ⟨a4, c4, rfl⟩ := hvl
    have H4 : Hid (w4.ownsRow w2.heap.size 153 3 (.slice a4 (butL l s).length c4) (d.filter (keepB s)).length (fcells (d.filter (keepB s))) ∧ Since w2 w4) := ⟨ho4, hs4⟩
    clear ho4 hs4 hnil he4 hfls hrb
    go_wp2_with fail
    refine HFR.out.mono ?_
    rintro e w5 ⟨x, rfl, ho5, hs5⟩
    have hxl : ∃ a c, x = .slice a (freeL (butL l s)).length c := by
      rcases ho5.2 with ⟨h', h0⟩ | ⟨g, cap, cur, h', _⟩
      · exact ⟨none, 0, by rw [h', h0]⟩
      · exact ⟨_, _, h'⟩
    obtain ⟨a5, c5, rfl⟩ := hxl
    have H5 : Hid (w5.ownsRow w4.heap.size 3 1 (.slice a5 (freeL (butL l s)).length c5) (freeL (butL l s)).length (ivals (freeL (butL l s))) ∧ Since w4 w5) := ⟨ho5, hs5⟩
    clear ho5 hs5
    go_wp2_with fail
    refine (En.need_any (t.size : Int) (by have := HR.out.2.2.2; omega) _).mono ?_
    rintro e w6 ⟨rfl, hw6⟩
    subst hw6
    obtain ⟨k, hk⟩ : ∃ k : Nat, need t.size = k := ⟨(need t.size).toNat, by have := need_nonneg t.size; omega⟩
    rw [hk]
    have HK : Hid (need t.size = k) := hk
    clear hk
    by_cases h8 : 8 ≤ (butL l s).length
    · have h8i : (8 : Int) ≤ ((butL l s).length : Int) := by omega
      have hfu : fullB l s t = true := by unfold fullB; rw [decide_eq_true h8]; rfl
      have HFU : Hid (fullB l s t = true) := hfu
      clear hfu h8
      go_wp2_with fail
      go_ret
      exact Or.inr (Or.inl ⟨HB.out, HFU.out, rfl, H4.out.2.trans H5.out.2⟩)
    · have h8i : ¬ (8 : Int) ≤ ((butL l s).length : Int) := by omega
      by_cases hf : (freeL (butL l s)).length < k
      · have hfi : ((freeL (butL l s)).length : Int) < (k : Int) := by omega
        have hfu : fullB l s t = true := by unfold fullB; rw [HK.out, decide_eq_true hfi, Bool.or_true]
        have HFU : Hid (fullB l s t = true) := hfu
        clear hfu h8 hf
        go_wp2_with fail
        go_ret
        exact Or.inr (Or.inl ⟨HB.out, HFU.out, rfl, H4.out.2.trans H5.out.2⟩)
      · have hfi : ¬ ((freeL (butL l s)).length : Int) < (k : Int) := by omega
        have hfu : fullB l s t = false := by unfold fullB; rw [HK.out, decide_eq_false hfi, decide_eq_false h8]; rfl
        have HFU : Hid (fullB l s t = false) := hfu
        have hc5 : (freeL (butL l s)).length ≤ c5 := by
          rcases H5.out.1.2 with ⟨h', h0⟩ | ⟨g, cap, cur, h', _, _, hnc, _⟩
          · omega
          · simp only [Value.slice.injEq, Option.some.injEq, Addr.mk.injEq, and_true, true_and] at h'
            omega
        have hkc : k ≤ c5 := by omega
        have hcl : (cellsF l s t).length = k := by unfold cellsF; rw [List.length_take, HK.out]; omega
        have hs26 := H4.out.2.trans H5.out.2
        have F6 := HF.out.since hs26
        have hints : Ints w6 (.slice a5 k c5) (cellsF l s t) := by
          refine ⟨a5, c5, by rw [hcl], by rw [hcl]; exact hkc, fun hpos => ?_⟩
          rcases H5.out.1.2 with ⟨h', h0⟩ | ⟨g, cap, cur, h', _, _, hnc, _⟩
          · omega
          · simp only [Value.slice.injEq, true_and] at h'
            obtain ⟨rfl, rfl⟩ := h'
            refine ⟨g, 0, rfl, (H5.out.1.lt g rfl).2, fun j x hj => ?_⟩
            have hj2 : (freeL (butL l s))[j]? = some x := by
              unfold cellsF at hj
              rw [List.getElem?_take] at hj
              split at hj
              · exact hj
              · cases hj
            have hjl := (List.getElem?_eq_some_iff.1 hj2).1
            rw [Nat.zero_add, H5.out.1.cellAt j (by omega)]
            unfold ivals
            rw [List.getElem?_map, hj2]
            rfl
        have hfar : ∀ k' o m c, Value.slice a5 k c5 = .slice (some ⟨k', o, none⟩) m c → ¬ VP vb db cb v k' := fun k' o m c e => by
          simp only [Value.slice.injEq] at e
          have h1 := H5.out.1.lt k' (by rw [e.1]; rfl)
          exact (HF.out.vol.go H4.out.2).notGe h1.1
        have HFW : Hid (Calls Tryz.prog 65 #[.pointer (some ⟨fb, 0, none⟩), .slice a5 k c5, .string t] w6 fun e w' => e = .returned (ev (wrF kb kt (cellsF l s t) t S).1) ∧ Vto w0 w6 w' vb db cb kb kt (wrF kb kt (cellsF l s t) t S).2 v ∧ (wrF kb kt (cellsF l s t) t S).2.ok (n + (cellsF l s t).length)) :=
          fwrite_any B n HO.out.1 (by have := HO.out.2; omega) F6.vol F6.c0 F6.nfb (cellsF l s t) _ hints hfar (by rw [hcl]; have : (freeL (butL l s)).length ≤ 21 := List.length_filter_le _ _; omega) t
        have H6 : Hid (Fm w0 w6 fb vb db cb kb kt S v lv d l ∧ Since w2 w6 ∧ Ints w6 (.slice a5 k c5) (cellsF l s t)) := ⟨F6, hs26, hints⟩
        clear hfu h8 hcl hs26 F6 hints hfar
        obtain ⟨R, hR⟩ : ∃ R, wrF kb kt (cellsF l s t) t S = R := ⟨_, rfl⟩
        obtain ⟨rn, S1⟩ := R
        rw [hR] at HFW
        have HRR : Hid (wrF kb kt (cellsF l s t) t S = (rn, S1)) := hR
        clear hR
        go_wp2_with fail
        refine HFW.out.mono ?_
        rintro e w7 ⟨rfl, hvt, hok⟩
        obtain ⟨v7, F7, hf7, hnx⟩ := H6.out.1.vto hvt
        have H7 : Hid (Fm w0 w7 fb vb db cb kb kt S1 v7 lv d l ∧ S1.ok (n + (cellsF l s t).length) ∧ Fs (fun k => k = fb ∨ VP vb db cb v k) w2 w7 ∧ (∀ k, k < w6.heap.size → ¬ VP vb db cb v k → ¬ VP vb db cb v7 k) ∧ Fs (VP vb db cb v) w6 w7) := ⟨F7, hok, (Fs.of_since H6.out.2.1).trans (fs_wider hf7 (fun k e => .inr e)), hnx, hf7⟩
        clear F7 hok hnx hf7 hvt
        by_cases e0 : rn = 0
        · subst e0
          rw [ev_zero]
          go_wp2_with fail
          refine (En.clone_any s HR.out.2.2.1 w7).mono ?_
          rintro e w8 ⟨rfl, hs8⟩
          have hdl : (butL l s).length = (d.filter (keepB s)).length := (HF.out.each.filter s).len
          have hrow : ∀ g, (Value.slice a4 (butL l s).length c4).ownBlock = some g → w2.heap.size ≤ g := fun g hg => (H4.out.1.lt g hg).1
          have hnp : ∀ g, w2.heap.size ≤ g → g ≠ fb ∧ ¬ VP vb db cb v g := fun g hg => ⟨fun e => by have := World.block_lt_of_cell? w2 _ HF.out.c1; simp at this; omega, HF.out.vol.notGe hg⟩
          have ho7 : w7.ownsRow w2.heap.size 153 3 (.slice a4 (butL l s).length c4) (d.filter (keepB s)).length (fcells (d.filter (keepB s))) := ownFs (En.owns_since H4.out.1 H5.out.2) H7.out.2.2.2.2 (fun g hg => (hnp g (hrow g hg)).2)
          have HO8 : Hid (w8.ownsRow w2.heap.size 153 3 (.slice a4 (butL l s).length c4) (d.filter (keepB s)).length (fcells (d.filter (keepB s)))) := En.owns_since ho7 hs8
          have H8 : Hid (Since w7 w8 ∧ (∀ g, (Value.slice a4 (butL l s).length c4).ownBlock = some g → w2.heap.size ≤ g) ∧ (∀ g, w2.heap.size ≤ g → g ≠ fb ∧ ¬ VP vb db cb v g) ∧ (butL l s).length = (d.filter (keepB s)).length) := ⟨hs8, hrow, hnp, hdl⟩
          have hsz8 : w2.heap.size ≤ w8.heap.size := Nat.le_trans H7.out.2.2.1.size hs8.size
          obtain ⟨i0, hi, hz0, hz1, hz2⟩ := info_parts En.infoF
          have HI : Hid (Tryz.prog.info? 153 = some i0 ∧ i0.zero = some (.agg #[.string ByteArray.empty, .int .i64 0, .slice none 0 0]) ∧ i0.size = 3 ∧ i0.bytes = 48) := ⟨hi, hz0, hz1, hz2⟩
          have HB8 : Hid ((d.filter (keepB s)).length + 1 ≤ maxLen ∧ ((d.filter (keepB s)).length + 1) * 48 ≤ 140737488355328 ∧ w2.heap.size ≤ (w8.alloc (.cells #[.string s, .int .i64 t.size, .slice a5 k c5] 153)).heap.size) := by
            have h1 : (d.filter (keepB s)).length ≤ 8 := by omega
            exact ⟨by unfold maxLen; omega, by omega, by simp; omega⟩
          clear hi hz0 hz1 hz2 ho7 hs8 hdl hrow hnp hsz8
          go_wp2_with (at_builtin; refine wpList_append_lies _ (by rfl) _ _ 52 (by rfl) w2.heap.size 153 i0 _ 3 48 Tryz.underlying52 HI.out.1 HI.out.2.1 HI.out.2.2.1 HI.out.2.2.2 (by rfl) (by decide) _ _ _ (by rfl) (World.ownsRow.alloc HO8.out _) ⟨w8.heap.size, 0, none⟩ 1 1 [.string s, .int .i64 t.size, .slice a5 k c5] (by rfl) (by rfl) (World.news_of_block (heap_alloc_new w8 _)) (by simp [Value.oneCell']) (by decide) HB8.out.1 HB8.out.2.1 HB8.out.2.2 (w8.heap.size + 1) (by simp) ?_; intro g cap w9 hown hgrow hat hlt)
          have hrowl : ∀ r, (Value.slice a4 (butL l s).length c4).ownBlock = some r → w2.heap.size ≤ r ∧ r < w4.heap.size := fun r hr => H4.out.1.lt r hr
          have h46 : w4.heap.size ≤ w6.heap.size := H5.out.2.size
          have h24 : w2.heap.size ≤ w4.heap.size := H4.out.2.size
          have h67 : w6.heap.size ≤ w7.heap.size := H7.out.2.2.2.2.size
          have h78 : w7.heap.size ≤ w8.heap.size := H8.out.1.size
          have hg2 : w2.heap.size ≤ g := by
            rcases hat with hat | hat
            · exact (hrowl g hat).1
            · omega
          have hfr : Fs (fun r => (Value.slice a4 (butL l s).length c4).ownBlock = some r) (w8.alloc (.cells #[.string s, .int .i64 t.size, .slice a5 k c5] 153)) w9 := by
            obtain ⟨g1, g2, g3, g4, g5⟩ := hgrow
            exact ⟨g1, g2, g3, g4, fun r hr hn => g5 r hr (fun e => hn e.symm)⟩
          have hs8a : Since w7 (w8.alloc (.cells #[.string s, .int .i64 t.size, .slice a5 k c5] 153)) := H8.out.1.alloc _
          have hvr : ∀ r, (Value.slice a4 (butL l s).length c4).ownBlock = some r → r ≠ fb ∧ ¬ VP vb db cb v7 r := fun r hr => ⟨(H8.out.2.2.1 r (hrowl r hr).1).1, H7.out.2.2.2.1 r (by have := (hrowl r hr).2; omega) (H8.out.2.2.1 r (hrowl r hr).1).2⟩
          have hdi : ∀ (j : Nat) (x : Fv), d[j]? = some x → ∀ k o, x.2.2.1 = some ⟨k, o, none⟩ → k < w2.heap.size := fun j x hx k o e => by
            have hj : j < l.length := by rw [HF.out.each.len]; exact (List.getElem?_eq_some_iff.1 hx).1
            exact ((HF.out.each.each j l[j] x (List.getElem?_eq_getElem hj) hx).2.2.2 k o e).1
          have F9 : Fm w0 w9 fb vb db cb kb kt S1 v7 lv d l := (H7.out.1.since hs8a).fs hfr (fun r hr => Nat.le_trans HF.out.vol.since.size (hrowl r hr).1) (fun r _ hr => hvr r hr) (fun k o n c e hr => by have := (HF.out.blk k o n c e).1; have := (hrowl k hr).1; omega) (fun j x hx k o e hr => by have := hdi j x hx k o e; have := (hrowl k hr).1; omega)
          have hgv : ¬ VP vb db cb v7 g := by
            rcases hat with hat | hat
            · exact (hvr g hat).2
            · exact (H7.out.1.vol.go H8.out.1).notGe (by omega)
          have hFs : Fs (fun r => (r = fb ∨ VP vb db cb v r) ∨ w2.heap.size ≤ r) w2 w9 := ((fs_wider H7.out.2.2.1 (fun r e => .inl e)).trans (Fs.of_since hs8a)).trans (fs_wider hfr (fun r e => .inr (hrowl r e).1))
          have he9 : Each (fun r => r = g ∨ r = fb ∨ VP vb db cb v7 r) w9 (d.filter (keepB s)) (butL l s) := ((HF.out.each.filter s).wider (P' := fun r => (r = fb ∨ VP vb db cb v r) ∨ w2.heap.size ≤ r) (fun r hr hp => hp.elim id (fun h => by omega))).fs hFs (fun r hr hn h' => by
            rcases h' with rfl | h' | h'
            · omega
            · exact hn (.inl (.inl h'))
            · exact H7.out.2.2.2.1 r (by omega) (fun hv => hn (.inl (.inr hv))) h')
          have ha5 : ∀ k' o, a5 = some ⟨k', o, none⟩ → w4.heap.size ≤ k' ∧ k' < w6.heap.size := fun k' o e => H5.out.1.lt k' (by rw [e]; rfl)
          have hva5 : ∀ k' o, a5 = some ⟨k', o, none⟩ → ¬ VP vb db cb v k' := fun k' o e => (H8.out.2.2.1 k' (by have := (ha5 k' o e).1; omega)).2
          have hi9 : Ints w9 (.slice a5 k c5) (cellsF l s t) := ints_fs ((ints_fs H6.out.2.2 H7.out.2.2.2.2 (fun k' o e => ⟨(ha5 k' o e).2, hva5 k' o e⟩)).since hs8a) hfr (fun k' o e => ⟨by have := (ha5 k' o e).2; simp; omega, fun hr => by have := (hrowl k' hr).2; have := (ha5 k' o e).1; omega⟩)
          have hs9 : w8.heap.size + 1 ≤ w9.heap.size := by have := hfr.size; simpa using this
          have he10 := Each.append (x := (s, (t.size : Int), a5, k, c5)) (f := newF l s t) ⟨rfl, rfl, hi9, fun k' o e => ⟨by have := (ha5 k' o e).2; omega, fun h' => by
            have h1 := ha5 k' o e
            rcases h' with h' | h' | h'
            · rcases hat with hat | hat
              · have := (hrowl g hat).2; omega
              · omega
            · exact (H8.out.2.2.1 k' (by omega)).1 h'
            · exact H7.out.2.2.2.1 k' h1.2 (hva5 k' o e) h'⟩⟩ he9
          have hown2 : w9.ownsRow w2.heap.size 153 3 (.slice (some ⟨g, 0, none⟩) (d.filter (keepB s) ++ [(s, (t.size : Int), a5, k, c5)]).length cap) (d.filter (keepB s) ++ [(s, (t.size : Int), a5, k, c5)]).length (fcells (d.filter (keepB s) ++ [(s, (t.size : Int), a5, k, c5)])) := by
            rw [fcells_append, List.length_append]
            exact hown
          have hfit := fit_new ((right_iff l).1 HR.out.1).1 HB.out HFU.out
          have hc21 : (cellsF l s t).length ≤ 21 := by
            have : (freeL (butL l s)).length ≤ 21 := List.length_filter_le _ _
            unfold cellsF
            rw [List.length_take]
            omega
          have hbec := become_any B LB (n + (cellsF l s t).length) H7.out.2.1 (by have := HO.out.2; omega) F9 hown2 (Nat.le_trans HF.out.vol.since.size hg2) (H8.out.2.2.1 g hg2).1 hgv (fun k o n c e => by have := (HF.out.blk k o n c e).1; omega) (fun j x hx k o e => by have := hdi j x hx k o e; omega) he10 (by
            have h1 := hfit.len
            have h2 := he10.len
            omega) (fun f hf => by
            rcases List.mem_append.1 hf with hf | hf
            · exact sized_right HR.out.1 f (List.mem_filter.1 hf).1
            · rw [List.mem_singleton] at hf
              subst hf
              have := HR.out.2.2.2
              unfold newF
              constructor <;> simp <;> omega) (fun l' hp hr => hfit.right hp hr)
          have hlen1 : (d.filter (keepB s) ++ [(s, (t.size : Int), a5, k, c5)]).length = (d.filter (keepB s)).length + 1 := by simp
          rw [hlen1] at hbec
          have hFs2 : Fs (fun r => r = fb ∨ VP vb db cb v r) w2 w9 := ⟨hFs.os, hFs.tape, hFs.output, hFs.size, fun r hr hn => hFs.block r hr (fun h' => h'.elim hn (fun h'' => by omega))⟩
          refine hbec.mono ?_
          rintro e w10 ⟨d', l', v', hp, hri, rfl, hok, hz, hnz, hfs, hnx, hpd⟩
          have HNL : Hid (Nl w2 lv d (.slice (some ⟨g, 0, none⟩) ((d.filter (keepB s)).length + 1) cap) d') := by
            refine ⟨fun k o n c e => Or.inl ?_, fun x hx k o e => ?_⟩
            · simp only [Value.slice.injEq, Option.some.injEq, Addr.mk.injEq] at e
              omega
            · rcases List.mem_append.1 (hpd.mem_iff.1 hx) with hx | hx
              · exact Or.inr ⟨x, (List.mem_filter.1 hx).1, o, e⟩
              · rw [List.mem_singleton] at hx
                subst hx
                have := (ha5 k o e).1
                exact Or.inl (by omega)
          clear hpd
          have hfin : Fs (fun r => r = fb ∨ VP vb db cb v r) w2 w10 := hFs2.trans' hfs (fun r hr => by
            rcases hr with rfl | hr | hr
            · exact .inr hg2
            · exact .inl (.inl hr)
            · by_cases hv : VP vb db cb v r
              · exact .inl (.inr hv)
              · by_cases hlr : r < w6.heap.size
                · exact absurd hr (H7.out.2.2.2.1 r hlr hv)
                · exact .inr (by omega))
          have hnx2 : ∀ r, r < w2.heap.size → ¬ VP vb db cb v r → ¬ VP vb db cb v' r := fun r hr hv => hnx r (by omega) (H7.out.2.2.2.1 r (by omega) hv)
          have HZ : Hid ((butL l s ++ [newF l s t]).Perm l' ∧ Rise l' ∧ (dirW kb kt l' S1).2.ok (n + (cellsF l s t).length + 3) ∧ ((dirW kb kt l' S1).1 = 0 → Fm w0 w10 fb vb db cb kb kt (dirW kb kt l' S1).2 v' (.slice (some ⟨g, 0, none⟩) ((d.filter (keepB s)).length + 1) cap) d' l') ∧ ((dirW kb kt l' S1).1 ≠ 0 → Fm w0 w10 fb vb db cb kb kt (dirW kb kt l' S1).2 v' lv d l) ∧ Fs (fun r => r = fb ∨ VP vb db cb v r) w2 w10 ∧ (∀ r, r < w2.heap.size → ¬ VP vb db cb v r → ¬ VP vb db cb v' r)) := ⟨hp, hri, hok, hz, hnz, hfin, hnx2⟩
          clear hrowl h46 h24 h67 h78 hg2 hfr hs8a hvr hdi F9 hgv hFs he9 ha5 hva5 hi9 hs9 he10 hown2 hfit hc21 hbec hown hgrow hat hlt hlen1 hFs2 hp hri hok hz hnz hfs hnx hfin hnx2
          obtain ⟨x, hx⟩ : ∃ x, ev (dirW kb kt l' S1).1 = x := ⟨_, rfl⟩
          rw [hx]
          have HXX : Hid (ev (dirW kb kt l' S1).1 = x) := hx
          clear hx
          go_wp2_with fail
          go_ret
          refine Or.inr (Or.inr ⟨HB.out, HFU.out, by rw [HRR.out]; exact H7.out.2.1, v', fun hne => absurd (by rw [HRR.out]) hne, fun _ => ?_, HZ.out.2.2.2.2.2.1, HZ.out.2.2.2.2.2.2⟩)
          rw [HRR.out]
          exact ⟨l', d', _, HZ.out.1, HZ.out.2.1, by rw [HXX.out]; rfl, HZ.out.2.2.1, fun h0 => ⟨HZ.out.2.2.2.1 h0, HNL.out⟩, HZ.out.2.2.2.2.1⟩
        · have hev := ev_ne e0
          have HE0 : Hid (¬ rn = 0) := e0
          have HEV : Hid (ev rn = .iface 32 (.int .i64 rn)) := hev
          rw [hev]
          clear e0 hev
          go_wp2_with fail
          go_ret
          refine Or.inr (Or.inr ⟨HB.out, HFU.out, by rw [HRR.out]; exact H7.out.2.1, v7, fun _ => ⟨by rw [HRR.out, HEV.out]; rfl, by rw [HRR.out]; exact H7.out.1⟩, fun h0 => absurd (by rw [HRR.out] at h0; exact h0) HE0.out, H7.out.2.2.1, fun k hk => H7.out.2.2.2.1 k (Nat.lt_of_lt_of_le hk H6.out.2.1.size)⟩)
end
end Fl
end Go.Proofs.YtlgocfgnfdnloaaGreatDoor
end
section
namespace Go.Proofs.YtlgocfgnfdnloaaGreatDoor
set_option maxRecDepth 100000
namespace Fl
open Go.RowKit Go.Sort Go.Shelf
open En (Fi Fls Ints fval Row freeL allC need nameB filled)
open Vl
open Tw (Tb)
section
variable {w0 w w' : World} {fb vb db cb : Nat} {kb kt : ByteArray} {S : Vs} {v lv : Value} {d d0 : List Fv} {l l0 : List Fi} {n : Int} {k : Nat}
theorem fflush_any (B : Base w0 kb kt) (hr : Tw.Rt S.next) (hc : S.c < S.T.count + 1) (h : Fm w0 w fb vb db cb kb kt S v lv d l) :
    Calls Tryz.prog 19 #[.pointer (some ⟨fb, 0, none⟩)] w fun e w' => e = .returned (ev (S.flush kt).1) ∧ Vto w0 w w' vb db cb kb kt (S.flush kt).2 v := by
  have HOR : Hid (Calls Tryz.prog 61 #[.pointer (some ⟨fb, 0, none⟩)] w fun e w' => e = .returned (.pointer (some ⟨fb, 0, none⟩)) ∧ w' = w) := orZero_any fb vb w h.c0
  have p0 := h.c0
  have HFL : Hid (Calls Tryz.prog 78 #[.pointer (some ⟨vb, 0, none⟩)] w fun e w' => e = .returned (ev (S.flush kt).1) ∧ Vto w0 w w' vb db cb kb kt (S.flush kt).2 v) := flush_any B hr hc h.vol
  obtain ⟨x, hx⟩ : ∃ x, ev (S.flush kt).1 = x := ⟨_, rfl⟩
  rw [hx] at HFL ⊢
  clear h hr hc B hx
  go_enter Tryz.func19, Tryz.ntmps19
  go_wp2_with fail
  refine HOR.out.mono ?_
  rintro e w1 ⟨rfl, hw1⟩
  subst hw1
  go_wp2_with fail
  refine HFL.out.mono ?_
  rintro e w2 ⟨rfl, hv⟩
  have HV : Hid _ := hv
  clear hv p0
  go_wp2_with fail
  go_ret
  exact ⟨rfl, HV.out⟩
theorem freclaim_any (B : Base w0 kb kt) (ho : S.ok n) (hn : n < 1000000000) (h : Fm w0 w fb vb db cb kb kt S v lv d l) :
    Calls Tryz.prog 22 #[.pointer (some ⟨fb, 0, none⟩)] w fun e w' => e = .returned (.tuple #[.int .i64 (S.reclaim kb kt).1.1, .bool (S.reclaim kb kt).1.2.1, ev (S.reclaim kb kt).1.2.2]) ∧ Vto w0 w w' vb db cb kb kt (S.reclaim kb kt).2 v := by
  have HOR : Hid (Calls Tryz.prog 61 #[.pointer (some ⟨fb, 0, none⟩)] w fun e w' => e = .returned (.pointer (some ⟨fb, 0, none⟩)) ∧ w' = w) := orZero_any fb vb w h.c0
  have p0 := h.c0
  have HFL : Hid (Calls Tryz.prog 90 #[.pointer (some ⟨vb, 0, none⟩)] w fun e w' => e = .returned (.tuple #[.int .i64 (S.reclaim kb kt).1.1, .bool (S.reclaim kb kt).1.2.1, ev (S.reclaim kb kt).1.2.2]) ∧ Vto w0 w w' vb db cb kb kt (S.reclaim kb kt).2 v) := reclaim_any B n ho hn h.vol
  generalize ev (S.reclaim kb kt).1.2.2 = x at *
  generalize (S.reclaim kb kt).1.1 = y at *
  generalize (S.reclaim kb kt).1.2.1 = z at *
  clear h ho B hn
  go_enter Tryz.func22, Tryz.ntmps22
  go_wp2_with fail
  refine HOR.out.mono ?_
  rintro e w1 ⟨rfl, hw1⟩
  subst hw1
  go_wp2_with fail
  refine HFL.out.mono ?_
  rintro e w2 ⟨rfl, hv⟩
  have HV : Hid _ := hv
  clear hv p0
  go_wp2_with fail
  go_ret3
  exact ⟨rfl, HV.out⟩
theorem ffree_any (h : Fm w0 w fb vb db cb kb kt S v lv d l) : Calls Tryz.prog 31 #[.pointer (some ⟨fb, 0, none⟩)] w fun e w' => e = .returned (.int .i64 S.free) ∧ Since w w' := by
  have HOR : Hid (Calls Tryz.prog 61 #[.pointer (some ⟨fb, 0, none⟩)] w fun e w' => e = .returned (.pointer (some ⟨fb, 0, none⟩)) ∧ w' = w) := orZero_any fb vb w h.c0
  have p0 := h.c0
  have HFL : Hid (Calls Tryz.prog 99 #[.pointer (some ⟨vb, 0, none⟩)] w fun e w' => e = .returned (.int .i64 S.free) ∧ Since w w') := free_any h.vol
  generalize S.free = x at *
  clear h
  go_enter Tryz.func31, Tryz.ntmps31
  go_wp2_with fail
  refine HOR.out.mono ?_
  rintro e w1 ⟨rfl, hw1⟩
  subst hw1
  go_wp2_with fail
  refine HFL.out.mono ?_
  rintro e w2 ⟨rfl, hw⟩
  have HW : Hid (Since w1 w2) := hw
  clear hw p0
  go_wp2_with fail
  go_ret
  exact ⟨rfl, HW.out⟩
end
theorem Ph.tot_le {S : Vs} {k : Nat} (h : Ph S k) : tot S.D ≤ k := by
  rcases h with ⟨m, h1, h2, h3⟩ | ⟨_, h⟩ | h
  · rw [h3.tot (by omega)]; exact h1
  · omega
  · omega
theorem write_sure2 {kb kt : ByteArray} {S : Vs} {n : Int} (h : Vl.Good kb kt S n) (ht : tot S.D < 108) (hs : ∀ z, z < 8 → S.D.sure z ≤ S.D.cnt z) (i : Nat) (hi : i < 24) (t : ByteArray) (h80 : t.size ≤ 80) {c : Int} {T : Tb} {X : Nat → ByteArray} (hsu : Sure kb kt S.D c T X) (hw : S.D.ws = []) :
    Sure kb kt (S.write kb kt i t).2.D c T X ∧ (S.write kb kt i t).2.D.ws = [] ∧ (S.write kb kt i t).2.c = S.c ∧ ∀ z, z < 8 → (S.write kb kt i t).2.D.sure z ≤ (S.write kb kt i t).2.D.cnt z := by
  obtain ⟨a, b, c'⟩ := write_sure h ht hs i hi t h80 hsu hw
  refine ⟨a, b, c', ?_⟩
  clear a b c'
  have he : S.write kb kt i t = if t = S.X i then (0, S) else if t = ⟨#[]⟩ then (0, S.set i 0 0 ⟨#[]⟩ ⟨#[]⟩) else if S.free ≤ 20 then (if (S.reclaim kb kt).1.2.2 ≠ 0 then ((S.reclaim kb kt).1.2.2, (S.reclaim kb kt).2) else (S.reclaim kb kt).2.put kb i (-1) t) else S.put kb i (-1) t := by
    unfold Vs.write
    rw [if_neg (by rw [h.on.dead]; decide), if_neg (by omega), if_neg (by omega), Int.toNat_natCast]
  rw [he]
  by_cases h1 : t = S.X i
  · rw [if_pos h1]; exact hs
  · rw [if_neg h1]
    by_cases h2 : t = ⟨#[]⟩
    · rw [if_pos h2]; exact hs
    · rw [if_neg h2, free_tot h.on.c16, if_neg (by omega)]
      obtain ⟨z, _, hz8, hz16, _, hp⟩ := put_on h.on (by omega) kb i (-1) (Or.inl (by omega)) t
      rw [hp]
      intro y hy
      show S.D.sure y ≤ (S.D.app z _).cnt y
      rw [app_cnt]
      have := hs y hy
      split
      · rename_i e; subst e; omega
      · exact this
theorem wrF_sure {kb kt : ByteArray} {c : Int} {T : Tb} {X : Nat → ByteArray} : ∀ (cs : List Int) (t : ByteArray) (S : Vs) (n : Int) (k : Nat), Vl.Good kb kt S n → Ph S k → k + cs.length < 108 → n + cs.length < 1000000000 → (∀ c ∈ cs, 0 ≤ c ∧ c < 24) → (∀ z, z < 8 → S.D.sure z ≤ S.D.cnt z) → Sure kb kt S.D c T X → S.D.ws = [] →
    Sure kb kt (wrF kb kt cs t S).2.D c T X ∧ (wrF kb kt cs t S).2.D.ws = [] ∧ (wrF kb kt cs t S).2.c = S.c ∧ ∀ z, z < 8 → (wrF kb kt cs t S).2.D.sure z ≤ (wrF kb kt cs t S).2.D.cnt z
  | [], t, S, n, k, hg, hp, _, _, _, h1, h2, h3 => ⟨h2, h3, rfl, h1⟩
  | c' :: r, t, S, n, k, hg, hp, hk, hn, hc, h1, h2, h3 => by
    rw [List.length_cons] at hk hn
    have h0 := hc c' List.mem_cons_self
    obtain ⟨j, rfl⟩ : ∃ j : Nat, c' = j := ⟨c'.toNat, by omega⟩
    have htt := Ph.tot_le hp
    obtain ⟨a1, a2, a3, a4, a5⟩ := write_good hg (by omega) hp (by omega) j (by omega) (t.extract 0 (min t.size 80)) (piece_size t)
    obtain ⟨b1, b2, b3, b4⟩ := write_sure2 hg (by omega) h1 j (by omega) (t.extract 0 (min t.size 80)) (piece_size t) h2 h3
    rw [wrF_cons kb kt _ r t S a1]
    obtain ⟨i1, i2, i3, i4⟩ := wrF_sure r (t.extract (min t.size 80) t.size) _ (n + 1) (k + 1) a2 a3 (by omega) (by omega) (fun c'' hc'' => hc c'' (List.mem_cons_of_mem _ hc'')) b4 b1 b2
    exact ⟨i1, i2, i3.trans b3, i4⟩
def Stays (kb kt : ByteArray) (S S' : Vs) : Prop := ∀ c T X, Sure kb kt S.D c T X → S.D.ws = [] → Sure kb kt S'.D c T X ∧ S'.D.ws = [] ∧ S'.c = S.c
section
variable {w0 w w' : World} {fb vb db cb : Nat} {kb kt : ByteArray} {S : Vs} {v lv : Value} {d d0 : List Fv} {l l0 : List Fi} {n : Int} {k : Nat}
theorem fputG (B : Base w0 kb kt) (LB : En.Lb w0) (hF : Fok kb kt S l n k) (hk : k + 24 < 108) (hn : n + 3000 < 900000000) (h : Fm w0 w fb vb db cb kb kt S v lv d l) (s t : ByteArray) (hs : s.size ≤ 100000) (ht : t.size ≤ 100000) (hnm : nameB s.data.toList = true) (hfu : fullB l s t = false) :
    Calls Tryz.prog 15 #[.pointer (some ⟨fb, 0, none⟩), .string s, .string t] w fun e w' => e = .returned .nilIface ∧ ∃ S' l' v' lv' d', Fm w0 w' fb vb db cb kb kt S' v' lv' d' l' ∧ Fok kb kt S' l' (n + 24) (k + (cellsF l s t).length + 3) ∧ (∀ u, txtOf S'.X l' u = if u = s then some t.data.toList else txtOf S.X l u) ∧ (butL l s ++ [newF l s t]).Perm l' ∧ Stays kb kt S S' ∧ Fs (fun k => k = fb ∨ VP vb db cb v k) w w' ∧ (∀ k, k < w.heap.size → ¬ VP vb db cb v k → ¬ VP vb db cb v' k) := by
  refine (fput_any B LB n hF.good.ok (by omega) h hF.right s t hs ht).mono ?_
  rintro e w' (⟨h1, _⟩ | ⟨_, h1, _⟩ | ⟨_, _, hok, v1, _, hz, hfs, hnx⟩)
  · rw [hnm] at h1; cases h1
  · rw [hfu] at h1; cases h1
  · obtain ⟨hl1, hl2⟩ := cellsF_len hfu
    have ha := wrF_good (cellsF l s t) t S n k hF.good hF.ph (by omega) (by omega) (fun c hc => by have := (cellsF_in hc).1; omega)
    obtain ⟨l', d', lv', hp, hri, rfl, hok2, hz2, _⟩ := hz ha.1
    obtain ⟨a1, a2, a3, a4, a5⟩ := put_fok hF (by omega) (by omega) hnm hfu hp hri
    refine ⟨by rw [a2]; rfl, _, l', v1, lv', d', (hz2 a2).1, a3, a4, hp, fun c T X hsu hw => ?_, hfs, hnx⟩
    have hsc := h.vol.dev.ok.sure
    obtain ⟨b1, b2, b3, b4⟩ := wrF_sure (cellsF l s t) t S n k hF.good hF.ph (by omega) (by omega) (fun c hc => by have := (cellsF_in hc).1; omega) hsc hsu hw
    obtain ⟨c1, c2, c3, c4⟩ := wrF_sure [0, 1, 2] ⟨(En.print l').toArray⟩ _ (n + (cellsF l s t).length) (k + (cellsF l s t).length) ha.2.1 ha.2.2.1 (by simp; omega) (by simp; omega) (fun c hc => by
      simp only [List.mem_cons, List.not_mem_nil, or_false] at hc
      omega) b4 b1 b2
    exact ⟨c1, c2, c3.trans b3⟩
theorem fdelG (B : Base w0 kb kt) (LB : En.Lb w0) (hF : Fok kb kt S l n k) (hk : k + 24 < 108) (hn : n + 3000 < 900000000) (h : Fm w0 w fb vb db cb kb kt S v lv d l) (s : ByteArray) (hin : ∃ f ∈ l, f.nm = s) :
    Calls Tryz.prog 17 #[.pointer (some ⟨fb, 0, none⟩), .string s] w fun e w' => e = .returned .nilIface ∧ ∃ S' v' lv' d', Fm w0 w' fb vb db cb kb kt S' v' lv' d' (butL l s) ∧ Fok kb kt S' (butL l s) (n + 24) (k + 3) ∧ (∀ u, txtOf S'.X (butL l s) u = if u = s then none else txtOf S.X l u) ∧ Stays kb kt S S' ∧ Fs (fun k => k = fb ∨ VP vb db cb v k) w w' ∧ (∀ k, k < w.heap.size → ¬ VP vb db cb v k → ¬ VP vb db cb v' k) := by
  refine (fdel_any B LB n hF.good.ok (by omega) h hF.right s).mono ?_
  rintro e w' (⟨h1, _⟩ | ⟨_, rfl, hok, d', lv', v', hz, _, hfs, hnx⟩)
  · obtain ⟨f, hf, hfn⟩ := hin
    exact absurd hfn (h1 f hf)
  · obtain ⟨a2, a3, a4, a5⟩ := del_fok hF (by omega) (by omega) s
    refine ⟨by rw [a2]; rfl, _, v', lv', d', (hz a2).1, a3, a4, fun c T X hsu hw => ?_, hfs, hnx⟩
    obtain ⟨c1, c2, c3, c4⟩ := wrF_sure [0, 1, 2] ⟨(En.print (butL l s)).toArray⟩ S n k hF.good hF.ph (by simp; omega) (by simp; omega) (fun c hc => by
      simp only [List.mem_cons, List.not_mem_nil, or_false] at hc
      omega) h.vol.dev.ok.sure hsu hw
    exact ⟨c1, c2, c3⟩
theorem fflushG (B : Base w0 kb kt) (hF : Fok kb kt S l n k) (hn : n < 900000000) (h : Fm w0 w fb vb db cb kb kt S v lv d l) :
    Calls Tryz.prog 19 #[.pointer (some ⟨fb, 0, none⟩)] w fun e w' => e = .returned .nilIface ∧ ∃ v', Fm w0 w' fb vb db cb kb kt (S.flush kt).2 v' lv d l ∧ Fok kb kt (S.flush kt).2 l (n + 1) k ∧ (S.flush kt).2.X = S.X ∧ (S.flush kt).2.c = S.c + 1 ∧ Sure kb kt (S.flush kt).2.D (S.flush kt).2.c (S.flush kt).2.T (S.flush kt).2.X ∧ (S.flush kt).2.D.ws = [] ∧ Fs (VP vb db cb v) w w' ∧ (∀ k, k < w.heap.size → ¬ VP vb db cb v k → ¬ VP vb db cb v' k) := by
  refine (fflush_any B (hF.good.ok.next (by omega)) hF.good.ok.nc h).mono ?_
  rintro e w' ⟨rfl, hv⟩
  obtain ⟨v', hF', hfs, hnx⟩ := h.vto hv
  obtain ⟨h1, h2, h3, h4, h5, h6⟩ := flush_ph hF.good (by omega) hF.ph
  obtain ⟨s1, s2⟩ := flush_sure hF.good (by omega)
  exact ⟨by rw [h1]; rfl, v', hF', ⟨h2, h3, hF.right, by rw [h4]; exact hF.dir⟩, h4, h5, s1, s2, hfs, hnx⟩
end
end Fl
end Go.Proofs.YtlgocfgnfdnloaaGreatDoor
end
section
namespace Go.Proofs.YtlgocfgnfdnloaaGreatDoor
set_option maxRecDepth 100000
namespace Fl
open Go.RowKit Go.Sort Go.Shelf
open En (Fi Fls Ints fval Row freeL allC need nameB filled)
open Vl
open Tw (Tb)
theorem catL_in {X Y : Nat → ByteArray} (h : ∀ i, i < 24 → X i = Y i) {cs : List Int} (hc : ∀ c ∈ cs, 0 ≤ c ∧ c < 24) : catL X cs = catL Y cs := catL_congr (fun c hcc => h _ (by have := hc c hcc; omega))
theorem txtOf_in {X Y : Nat → ByteArray} (h : ∀ i, i < 24 → X i = Y i) {l : List Fi} (hr : En.right l = true) (s : ByteArray) : txtOf X l s = txtOf Y l s :=
  txtOf_congr (fun f hf => catL_in h (fun c hc => by have := cells_in hr hf hc; omega)) s
theorem dir_in {X Y : Nat → ByteArray} (h : ∀ i, i < 24 → X i = Y i) : catL X [0, 1, 2] = catL Y [0, 1, 2] := catL_in h (by simp)
theorem fopenG {w0 w : World} {db cb : Nat} {D : Dv} {c : Int} {v : Value} {T : Tb} {X : Nat → ByteArray} {l : List Fi} (s : ByteArray) (hs : s.size = 16) (hT : Sm.Tab w0) (LB : En.Lb w0) (hc : 0 ≤ c ∧ c < 1000000000) (hw : D.ws.length ≤ 1) (h : DC w0 w db cb D c v) (ht : Vl.Told (kbOf s) (ktOf s) D c T X) (hl : low D c) (hr : En.right l = true) (hp : catL X [0, 1, 2] = En.print l) :
    Calls Tryz.prog 12 #[.pointer (some ⟨db, 0, none⟩), .pointer (some ⟨cb, 0, none⟩), .string s] w fun e w' => ∃ vb S' v' fb lv d, e = .returned (.tuple #[.pointer (some ⟨fb, 0, none⟩), .nilIface]) ∧ Fm w0 w' fb vb db cb (kbOf s) (ktOf s) S' v' lv d l ∧ (S'.D = D ∧ S'.c = c ∧ S'.dead = false ∧ (c = 0 → S' = fresh D c) ∧ (∀ i, i < 24 → S'.X i = X i) ∧ S'.ok (c + 1) ∧ (c ≠ 0 → Tw.Same S'.T T ∧ whole (kbOf s) (ktOf s) D c ∧ S' = opened (kbOf s) D c c)) ∧ w.heap.size ≤ fb ∧ w.heap.size ≤ vb ∧ Fs (fun k => k = db ∨ k = cb ∨ v.ownBlock = some k) w w' ∧ Nx w v.ownBlock v'.ownBlock := by
  refine (fopen_any s hs hT LB hc hw h).mono ?_
  rintro e w' ⟨vb, r, S', v', hto, hvb, hvol, hf, hn, he⟩
  have ho : OpenIs (kbOf s) (ktOf s) D c r S' := hto
  obtain ⟨hr0, h1, h2, h3, h4, h5, h6⟩ := open_told ht hl ho
  have hpp : En.parse (catL S'.X [0, 1, 2]) = some l := by
    rw [dir_in h6]
    exact (En.parse_iff _ _).2 ⟨hr, hp.symm⟩
  rcases he with ⟨h0, _⟩ | ⟨_, h0, _⟩ | ⟨_, l', fb, lv, d, h0, rfl, hfb, hF, _⟩
  · exact absurd hr0 h0
  · rw [hpp] at h0; cases h0
  · rw [hpp] at h0
    injection h0 with h0
    subst h0
    exact ⟨vb, S', v', fb, lv, d, rfl, hF, ⟨h1, h2, h3, h4, h6, OpenTo.ok' hto hw hc.1 hr0, h5⟩, hfb, hvb, hf, hn⟩
def nmA : ByteArray := ⟨#[97]⟩
def nmB' : ByteArray := ⟨#[98]⟩
def x100 : ByteArray := ⟨(Lib.repeatL [120] 100).toArray⟩
theorem x100_size : x100.size = 100 := by kernel_rfl
theorem full_a : fullB [] nmA x100 = false := by kernel_rfl
theorem nameA : nameB nmA.data.toList = true := by kernel_rfl
theorem nameBb : nameB nmB'.data.toList = true := by kernel_rfl
theorem full_b : fullB [newF [] nmA x100] nmB' ⟨#[]⟩ = false := by kernel_rfl
theorem but_b : butL [newF [] nmA x100] nmB' = [newF [] nmA x100] := by kernel_rfl
theorem rise_ab (f g : Fi) (hf : f.nm = nmA) (hg : g.nm = nmB') : Rise [f, g] := by
  unfold Rise
  rw [List.pairwise_cons]
  refine ⟨fun x hx => ?_, List.pairwise_singleton _ _⟩
  rw [List.mem_singleton] at hx
  subst hx
  rw [hf, hg, bytesLess_eq, Lib.toList_data, Lib.toList_data]
  decide
theorem len_a : (cellsF [] nmA x100).length = 2 := by kernel_rfl
theorem len_b : (cellsF [newF [] nmA x100] nmB' ⟨#[]⟩).length = 0 := by kernel_rfl
theorem nm_ab {f g : Fi} {l2 : List Fi} (h : l2 = [f, g]) (hf : f.nm = nmA) (hg : g.nm = nmB') : nmV l2 = [.string nmA, .string nmB'] := by subst h; unfold nmV; simp [hf, hg]
set_option maxHeartbeats 8000000 in
theorem filed_any (w : World) (hT : Sm.Tab w) (hL : En.Lb w) : Calls Tryz.prog 36 #[] w fun e w' => e = .returned (.bool true) ∧ Since w w' := by
  have HT : Hid (Sm.Tab w ∧ En.Lb w) := ⟨hT, hL⟩
  have HB : Hid (Base w (kbOf sec) (ktOf sec)) := ⟨hT, keyOf_size _ _, keyOf_size _ _⟩
  clear hT hL
  have HOP : Hid (∀ (W : World) (db cb : Nat) (D : Dv) (c : Int) (v : Value) (T : Tb) (X : Nat → ByteArray) (l : List Fi), 0 ≤ c ∧ c < 1000000000 → D.ws.length ≤ 1 → DC w W db cb D c v → Vl.Told (kbOf sec) (ktOf sec) D c T X → low D c → En.right l = true → catL X [0, 1, 2] = En.print l → Calls Tryz.prog 12 #[.pointer (some ⟨db, 0, none⟩), .pointer (some ⟨cb, 0, none⟩), .string ⟨#[48, 49, 50, 51, 52, 53, 54, 55, 56, 57, 97, 98, 99, 100, 101, 102]⟩] W fun e w' => ∃ vb S' v' fb lv d, e = .returned (.tuple #[.pointer (some ⟨fb, 0, none⟩), .nilIface]) ∧ Fm w w' fb vb db cb (kbOf sec) (ktOf sec) S' v' lv d l ∧ (c = 0 → S' = fresh D c) ∧ (∀ i, i < 24 → S'.X i = X i) ∧ S'.ok (c + 1)) := fun W db cb D c v T X l hc hw hd ht hl hr hp => (fopenG sec rfl HT.out.1 HT.out.2 hc hw hd ht hl hr hp).mono (fun e w' hh => by
    obtain ⟨vb, S', v', fb, lv, d, rfl, hF, ⟨_, _, _, h4, h5, h6, _⟩, _⟩ := hh
    exact ⟨vb, S', v', fb, lv, d, rfl, hF, h4, h5, h6⟩)
  generalize kbOf sec = kb at *
  generalize ktOf sec = kt at *
  have hx : ∀ W, Calls Tryz.prog 104 #[.string ⟨#[120]⟩, .int .i64 ((100 : Nat) : Int)] W fun e w' => e = .returned (.string x100) ∧ Below W.heap.size W w' := fun W => repeat_any ⟨#[120]⟩ 100 W (by omega) (by decide)
  have HX : Hid (∀ W, Calls Tryz.prog 104 #[.string ⟨#[120]⟩, .int .i64 100] W fun e w' => e = .returned (.string x100) ∧ Since W w') := hx
  clear hx
  have h100 : x100.size = 100 := x100_size
  have H100 : Hid (x100.size = 100) := h100
  go_enter Tryz.func36, Tryz.ntmps36
  go_wp2_with fail
  refine (new_any _).mono ?_
  rintro e w1 ⟨rfl, rfl⟩
  go_wp2_with fail
  have hdc := dc_new w
  generalize (w.alloc (.cells Tryz.zeroCells129 129)).alloc (.cells #[.int .i64 0] 30) = w1 at *
  generalize w.heap.size + 1 = cb at *
  generalize w.heap.size = db at *
  have HDC : Hid (DC w w1 db cb dv0 0 (.slice none 0 0)) := hdc
  clear hdc
  refine (HOP.out _ _ _ _ _ _ _ _ [] (by omega) (by show 0 ≤ 1; omega) HDC.out (fresh_good kb kt).2.2 (fresh_good kb kt).1.low right_nil rfl).mono ?_
  rintro e w2 ⟨vb, S0, v0, fb, lv0, d0, rfl, hF0, hfr, _, _⟩
  obtain rfl := hfr rfl
  have HF0 : Hid (Fm w w2 fb vb db cb kb kt (fresh dv0 0) v0 lv0 d0 []) := hF0
  clear hF0 hfr
  go_wp2_with fail
  refine (HX.out _).mono ?_
  rintro e w3 ⟨rfl, hs3⟩
  have HF0' : Hid (Fm w w3 fb vb db cb kb kt (fresh dv0 0) v0 lv0 d0 []) := HF0.out.since hs3
  clear hs3
  have hp1 := fputG HB.out HT.out.2 (fresh_fok kb kt) (by omega) (by omega) HF0'.out nmA x100 (by decide) (by omega) nameA full_a
  have HP1 : Hid (Calls Tryz.prog 15 #[.pointer (some ⟨fb, 0, none⟩), .string ⟨#[97]⟩, .string x100] w3 fun e w' => e = .returned .nilIface ∧ ∃ S' l' v' lv' d', Fm w w' fb vb db cb kb kt S' v' lv' d' l' ∧ Fok kb kt S' l' (0 + 24) (0 + (cellsF [] nmA x100).length + 3) ∧ (∀ u, txtOf S'.X l' u = if u = nmA then some x100.data.toList else txtOf (fresh dv0 0).X [] u) ∧ (butL [] nmA ++ [newF [] nmA x100]).Perm l' ∧ Stays kb kt (fresh dv0 0) S' ∧ Fs (fun k => k = fb ∨ VP vb db cb v0 k) w3 w' ∧ (∀ k, k < w3.heap.size → ¬ VP vb db cb v0 k → ¬ VP vb db cb v' k)) := hp1
  clear hp1 h100
  generalize hX1 : x100 = xx at *
  have HXX : Hid (x100 = xx) := hX1
  clear hX1
  go_wp2_with fail
  refine HP1.out.mono ?_
  rintro e w4 ⟨rfl, S1, l1, v1, lv1, d1, hF1, hok1, htx1, hp1, hst1, _, _⟩
  obtain rfl : l1 = [newF [] nmA xx] := List.perm_singleton.1 hp1.symm
  have hl1 := len_a
  rw [HXX.out] at hl1
  rw [hl1] at hok1
  have H1 : Hid (Fm w w4 fb vb db cb kb kt S1 v1 lv1 d1 [newF [] nmA xx] ∧ Fok kb kt S1 [newF [] nmA xx] 24 5 ∧ (∀ u, txtOf S1.X [newF [] nmA xx] u = if u = nmA then some xx.data.toList else txtOf (fresh dv0 0).X [] u) ∧ Stays kb kt (fresh dv0 0) S1) := ⟨hF1, hok1, htx1, hst1⟩
  clear hF1 hok1 htx1 hp1 hst1 hl1
  have hfb := full_b
  rw [HXX.out] at hfb
  have hp2 := fputG HB.out HT.out.2 H1.out.2.1 (by omega) (by omega) H1.out.1 nmB' ⟨#[]⟩ (by decide) (by decide) nameBb hfb
  have HP2 : Hid (Calls Tryz.prog 15 #[.pointer (some ⟨fb, 0, none⟩), .string ⟨#[98]⟩, .string ⟨#[]⟩] w4 fun e w' => e = .returned .nilIface ∧ ∃ S' l' v' lv' d', Fm w w' fb vb db cb kb kt S' v' lv' d' l' ∧ Fok kb kt S' l' (24 + 24) (5 + (cellsF [newF [] nmA xx] nmB' ⟨#[]⟩).length + 3) ∧ (∀ u, txtOf S'.X l' u = if u = nmB' then some (⟨#[]⟩ : ByteArray).data.toList else txtOf S1.X [newF [] nmA xx] u) ∧ (butL [newF [] nmA xx] nmB' ++ [newF [newF [] nmA xx] nmB' ⟨#[]⟩]).Perm l' ∧ Stays kb kt S1 S' ∧ Fs (fun k => k = fb ∨ VP vb db cb v1 k) w4 w' ∧ (∀ k, k < w4.heap.size → ¬ VP vb db cb v1 k → ¬ VP vb db cb v' k)) := hp2
  clear hp2 hfb
  go_wp2_with fail
  refine HP2.out.mono ?_
  rintro e w5 ⟨rfl, S2, l2, v2, lv2, d2, hF2, hok2, htx2, hp2, hst2, _, _⟩
  have hl2 := len_b
  have hbb := but_b
  have hfb := full_b
  rw [HXX.out] at hl2 hbb hfb
  rw [hl2] at hok2
  rw [hbb] at hp2
  have hfit := fit_new ((right_iff _).1 H1.out.2.1.right).1 nameBb hfb
  rw [hbb] at hfit
  obtain rfl : l2 = [newF [] nmA xx] ++ [newF [newF [] nmA xx] nmB' ⟨#[]⟩] := hfit.uniq hp2 (List.Perm.refl _) (rise_right hok2.right) (rise_ab _ _ rfl rfl)
  have hnm : nmV ([newF [] nmA xx] ++ [newF [newF [] nmA xx] nmB' ⟨#[]⟩]) = [.string nmA, .string nmB'] := nm_ab rfl rfl rfl
  have hia : ∃ f ∈ ([newF [] nmA xx] ++ [newF [newF [] nmA xx] nmB' ⟨#[]⟩]), f.nm = nmA := ⟨newF [] nmA xx, by simp, rfl⟩
  have hle2 : ([newF [] nmA xx] ++ [newF [newF [] nmA xx] nmB' ⟨#[]⟩]).length = 2 := rfl
  generalize ([newF [] nmA xx] ++ [newF [newF [] nmA xx] nmB' ⟨#[]⟩]) = l2 at *
  have hta : txtOf S2.X l2 nmA = some xx.data.toList := by
    rw [htx2, if_neg (by decide), H1.out.2.2.1, if_pos rfl]
  have H2 : Hid (Fm w w5 fb vb db cb kb kt S2 v2 lv2 d2 l2 ∧ Fok kb kt S2 l2 48 8 ∧ txtOf S2.X l2 nmA = some xx.data.toList ∧ Stays kb kt S1 S2 ∧ nmV l2 = [.string nmA, .string nmB'] ∧ (∃ f ∈ l2, f.nm = nmA) ∧ l2.length = 2) := ⟨hF2, hok2, hta, hst2, hnm, hia, hle2⟩
  clear hF2 hok2 htx2 hp2 hst2 hl2 hbb hfb hfit hta hnm hia hle2
  have hf3 := fflushG HB.out H2.out.2.1 (by omega) H2.out.1
  have HF3 : Hid (Calls Tryz.prog 19 #[.pointer (some ⟨fb, 0, none⟩)] w5 fun e w' => e = .returned .nilIface ∧ ∃ v', Fm w w' fb vb db cb kb kt (S2.flush kt).2 v' lv2 d2 l2 ∧ Fok kb kt (S2.flush kt).2 l2 (48 + 1) 8 ∧ (S2.flush kt).2.X = S2.X ∧ (S2.flush kt).2.c = S2.c + 1 ∧ Sure kb kt (S2.flush kt).2.D (S2.flush kt).2.c (S2.flush kt).2.T (S2.flush kt).2.X ∧ (S2.flush kt).2.D.ws = [] ∧ Fs (VP vb db cb v2) w5 w' ∧ (∀ k, k < w5.heap.size → ¬ VP vb db cb v2 k → ¬ VP vb db cb v' k)) := hf3
  clear hf3
  go_wp2_with fail
  refine HF3.out.mono ?_
  clear HF3
  generalize (S2.flush kt).2 = S3 at *
  rintro e w6 ⟨rfl, v3, hF3, hok3, hx3, hc3, hsu3, hws3, _, _⟩
  have hc31 : S3.c = 1 := by
    obtain ⟨s1, s2, s3⟩ := H1.out.2.2.2 0 Tb.zero (fun _ => ⟨#[]⟩) (sure_zero kb kt) rfl
    obtain ⟨t1, t2, t3⟩ := H2.out.2.2.2.1 0 Tb.zero (fun _ => ⟨#[]⟩) s1 s2
    rw [hc3, t3, s3]
    rfl
  have H3 : Hid (Fm w w6 fb vb db cb kb kt S3 v3 lv2 d2 l2 ∧ Fok kb kt S3 l2 49 8 ∧ S3.X = S2.X ∧ S3.c = 1 ∧ Sure kb kt S3.D S3.c S3.T S3.X ∧ S3.D.ws = []) := ⟨hF3, hok3, hx3, hc31, hsu3, hws3⟩
  clear hF3 hok3 hx3 hc3 hsu3 hws3 hc31
  have hd4 := fdelG HB.out HT.out.2 H3.out.2.1 (by omega) (by omega) H3.out.1 nmA H2.out.2.2.2.2.2.1
  have HD4 : Hid (Calls Tryz.prog 17 #[.pointer (some ⟨fb, 0, none⟩), .string ⟨#[97]⟩] w6 fun e w' => e = .returned .nilIface ∧ ∃ S' v' lv' d', Fm w w' fb vb db cb kb kt S' v' lv' d' (butL l2 nmA) ∧ Fok kb kt S' (butL l2 nmA) (49 + 24) (8 + 3) ∧ (∀ u, txtOf S'.X (butL l2 nmA) u = if u = nmA then none else txtOf S3.X l2 u) ∧ Stays kb kt S3 S' ∧ Fs (fun k => k = fb ∨ VP vb db cb v3 k) w6 w' ∧ (∀ k, k < w6.heap.size → ¬ VP vb db cb v3 k → ¬ VP vb db cb v' k)) := hd4
  clear hd4
  go_wp2_with fail
  refine HD4.out.mono ?_
  rintro e w7 ⟨rfl, S4, v4, lv4, d4, hF4, _, _, hst4, _, _⟩
  have H4 : Hid (Fm w w7 fb vb db cb kb kt S4 v4 lv4 d4 (butL l2 nmA) ∧ Stays kb kt S3 S4) := ⟨hF4, hst4⟩
  clear hF4 hst4
  go_wp2_with fail
  refine (crash_any S4.D v4 db 0 0 _ _ (fun _ => 0) (fun _ => false) _ H4.out.1.vol.dev (sl_nil _ _ _) (sl_nil _ _ _)).mono ?_
  rintro e w8 ⟨rfl, hd6, hf6⟩
  have HS : Hid (Vl.Told kb kt (S4.D.crashed 0 (fun _ => 0) 0 (fun _ => false)) S3.c S3.T S3.X ∧ low (S4.D.crashed 0 (fun _ => 0) 0 (fun _ => false)) S3.c ∧ DC w w8 db cb (S4.D.crashed 0 (fun _ => 0) 0 (fun _ => false)) S3.c (.slice none 0 0)) := by
    obtain ⟨h1, h2, h3⟩ := H4.out.2 _ _ _ H3.out.2.2.2.2.1 H3.out.2.2.2.2.2
    obtain ⟨h4, h5⟩ := sure_crash h1 h2 0 (fun _ => 0) 0 (fun _ => false)
    have h6 := H4.out.1.vol.dc
    rw [h3] at h6
    exact ⟨h4, h5, h6.turn hd6 hf6 rfl⟩
  clear hd6 hf6
  go_wp2_with fail
  refine (HOP.out _ _ _ _ _ _ _ _ l2 (by have := H3.out.2.2.2.1; omega) (by show 0 ≤ 1; omega) HS.out.2.2 HS.out.1 HS.out.2.1 H2.out.2.1.right (by rw [H3.out.2.2.1]; exact H2.out.2.1.dir)).mono ?_
  rintro e w9 ⟨vc, S7, v7, fc, lv7, d7, rfl, hF7, _, hx7, hok7⟩
  have htx : txtOf S7.X l2 nmA = some xx.data.toList := by
    rw [txtOf_in hx7 H2.out.2.1.right, H3.out.2.2.1]
    exact H2.out.2.2.1
  have hxs : (⟨xx.data.toList.toArray⟩ : ByteArray) = xx := rfl
  have hnn := fnames_any hF7 (by rw [H2.out.2.2.2.2.2.2]; omega)
  rw [H2.out.2.2.2.2.1, H2.out.2.2.2.2.2.2] at hnn
  have HNN : Hid (Calls Tryz.prog 28 #[.pointer (some ⟨fc, 0, none⟩)] w9 fun e w' => ∃ x, e = .returned x ∧ w'.ownsRow w9.heap.size 9 1 x 2 [.string nmA, .string nmB'] ∧ Since w9 w') := hnn
  have HG : Hid (∀ W, Since w9 W → Calls Tryz.prog 34 #[.pointer (some ⟨fc, 0, none⟩), .string ⟨#[97]⟩] W fun e w' => e = .returned (.tuple #[.string xx, .nilIface]) ∧ Since W w') := fun W hW => by
    have := fget_any (hF7.since hW) H2.out.2.1.right hok7.txt nmA
    rw [htx] at this
    exact this
  have H7 : Hid (Since w w9) := hF7.vol.since
  clear hF7 hx7 hok7 htx hnn hxs
  go_wp2_with fail
  refine HNN.out.mono ?_
  rintro e w10 ⟨xv, rfl, hxo, hs10⟩
  rcases hxo.2 with ⟨_, h0⟩ | ⟨g, cap, cur, rfl, hb, hg, hnc, _⟩
  · cases h0
  have HE : Hid (∀ W b1, Since w10 W → (W.cell? ⟨b1, 0, none⟩ = some (.string nmA) ∧ W.cell? ⟨b1, 1, none⟩ = some (.string nmB')) → 0 < b1 → Calls Tryz.prog 105 #[.slice (some ⟨g, 0, none⟩) 2 cap, .slice (some ⟨b1, 0, none⟩) 2 2] W fun e w' => e = .returned (.bool true) ∧ Since W w') := fun W b1 hW hb1 h1 => by
    have h0g : 0 < g := by
      have := hb
      have : 0 < w9.heap.size := by
        obtain ⟨m, hm⟩ := (HT.out.2.since H7.out).max
        have := World.block_lt_of_cell? _ _ hm
        omega
      omega
    refine eq_any 0 2 _ _ (fun j => if j = 0 then nmA else nmB') (fun j => if j = 0 then nmA else nmB') W ⟨_, _, rfl, fun _ => ⟨g, 0, rfl, by omega, fun j hj => ?_⟩⟩ ⟨_, _, rfl, fun _ => ⟨b1, 0, rfl, by omega, fun j hj => ?_⟩⟩ (fun _ _ => rfl) (by omega)
    · have hc := hxo.cellAt j (by omega)
      rw [Nat.zero_add, hW.cell (p := ⟨g, j, none⟩) (hxo.lt g rfl).2, hc]
      have : j = 0 ∨ j = 1 := by omega
      rcases this with rfl | rfl <;> rfl
    · have : j = 0 ∨ j = 1 := by omega
      rcases this with rfl | rfl
      · exact hb1.1
      · exact hb1.2
  have HS10 : Hid (Since w9 w10 ∧ 0 < w10.heap.size) := ⟨hs10, by have := (hxo.lt g rfl).2; omega⟩
  clear hxo hs10 hb hg hnc
  go_wp2_with fail
  refine (HE.out _ w10.heap.size ((Since.refl _).alloc _) ⟨by simp [nmA], by simp [nmB']⟩ HS10.out.2).mono ?_
  rintro e w11 ⟨rfl, hs11⟩
  have HS11 : Hid (Since w9 w11) := HS10.out.1.trans (((Since.refl _).alloc _).trans hs11)
  clear hs11
  go_wp2_with fail
  refine (HG.out _ HS11.out).mono ?_
  rintro e w12 ⟨rfl, hs12⟩
  have HS12 : Hid (Since w9 w12) := HS11.out.trans hs12
  clear hs12
  go_wp2_with fail
  refine (HX.out _).mono ?_
  rintro e w13 ⟨rfl, hs13⟩
  have HS13 : Hid (Since w w13) := H7.out.trans (HS12.out.trans hs13)
  clear hs13
  go_wp2_with fail
  go_ret
  exact ⟨rfl, HS13.out⟩
end Fl
end Go.Proofs.YtlgocfgnfdnloaaGreatDoor
end
section
namespace Go.Proofs.YtlgocfgnfdnloaaGreatDoor
set_option maxRecDepth 100000
namespace Fl
open En (Fi freeL allC need nameB filled)
open Vl
open Tw (Tb nul may Same Rt)
structure Bud (D : Dv) : Prop where
  fused : D.fused = true
  le : (tot D : Int) + D.left ≤ 59
  pos : 0 ≤ D.left
theorem may_left {D : Dv} (h : D.may = true) (hf : D.fused = true) : D.left ≠ 0 := by
  unfold Dv.may at h
  rw [hf] at h
  simpa using h
theorem burnt_left {D : Dv} (hf : D.fused = true) : D.burnt.fused = true ∧ D.burnt.left = D.left - 1 := by
  unfold Dv.burnt
  rw [if_pos hf]
  exact ⟨hf, rfl⟩
theorem Bud.app {D : Dv} (h : Bud D) (hm : D.may = true) (z : Nat) (hz : z < 8) (s : ByteArray) : Bud (D.burnt.app z s) := by
  have h1 := may_left hm h.fused
  obtain ⟨b1, b2⟩ := burnt_left h.fused
  have ht : tot (D.burnt.app z s) = tot D + 1 := by rw [app_tot _ _ _ hz, burnt_tot]
  have hl : (D.burnt.app z s).left = D.left - 1 := b2
  refine ⟨b1, ?_, ?_⟩
  · rw [ht, hl]; have := h.le; omega
  · rw [hl]; have := h.pos; omega
theorem write_bud {kb kt : ByteArray} {S : Vs} {n : Int} {T : Tb} {Y : Nat → ByteArray} (h : Al kb kt S n T Y) (hb : Bud S.D) (i : Nat) (hi : i < 24) (t : ByteArray) (ht : t.size ≤ 80) :
    ((S.write kb kt i t).1 = 0 ∧ Al kb kt (S.write kb kt i t).2 n T Y ∧ Bud (S.write kb kt i t).2.D ∧ (S.write kb kt i t).2.X = updX S.X i t ∧ (S.write kb kt i t).2.c = S.c) ∨
    ((S.write kb kt i t).1 = 14 ∧ (S.write kb kt i t).2.D = S.D ∧ (S.write kb kt i t).2.c = S.c) := by
  have hw : S.write kb kt i t = if t = S.X i then (0, S) else if t = ⟨#[]⟩ then (0, S.set i 0 0 ⟨#[]⟩ ⟨#[]⟩) else if S.free ≤ 20 then (if (S.reclaim kb kt).1.2.2 ≠ 0 then ((S.reclaim kb kt).1.2.2, (S.reclaim kb kt).2) else (S.reclaim kb kt).2.put kb i (-1) t) else S.put kb i (-1) t := by
    unfold Vs.write
    rw [if_neg (by rw [h.dead]; decide), if_neg (by omega), if_neg (by omega), Int.toNat_natCast]
  have htot : tot S.D ≤ 59 := by have := hb.le; have := hb.pos; omega
  rw [hw]
  by_cases h1 : t = S.X i
  · rw [if_pos h1]
    exact Or.inl ⟨rfl, h, hb, by rw [h1, updX_self], rfl⟩
  · rw [if_neg h1]
    by_cases h2 : t = ⟨#[]⟩
    · rw [if_pos h2]
      refine Or.inl ⟨rfl, ⟨h.dead, h.c16, h.ok.clear i, h.su, fun j hj => ?_, h.sure, h.ws⟩, hb, by rw [h2]; rfl, rfl⟩
      show At kb S.D S.D.cnt (updT S.T i 0 0 ⟨#[]⟩) (updX S.X i ⟨#[]⟩) j
      by_cases e : j = i
      · subst e
        obtain ⟨a, b, c⟩ := updT_at S.T j 0 0 ⟨#[]⟩
        exact Or.inl ⟨⟨a, b, c⟩, by unfold updX; rw [if_pos rfl]⟩
      · obtain ⟨a, b, c⟩ := updT_ne S.T i 0 0 ⟨#[]⟩ e
        have hx : updX S.X i ⟨#[]⟩ j = S.X j := by unfold updX; rw [if_neg e]
        unfold At
        rw [updT_nul _ _ _ _ _ e, updT_may _ _ _ _ _ e, a, b, c, hx]
        exact h.lie j hj
    · rw [if_neg h2, free_tot h.c16, if_neg (by omega)]
      obtain ⟨z, hz8, hz16, _, hc⟩ := put_al h (by omega) i hi (-1) (Or.inl (by omega)) t ht
      rcases hc with ⟨hm, hp⟩ | ⟨hp, ha⟩
      · rw [hp]
        exact Or.inr ⟨rfl, rfl, rfl⟩
      · have hm : S.D.may = true := by
          cases hm : S.D.may with
          | true => rfl
          | false =>
            exfalso
            unfold Vs.put at hp
            cases hr : room S.atf (-1) with
            | none => rw [hr] at hp; injection hp with hp _; cases hp
            | some y =>
              rw [hr] at hp
              simp only [hm] at hp
              injection hp with hp _
              cases hp
        refine Or.inl ⟨by rw [hp], ha, ?_, by rw [hp], by rw [hp]⟩
        rw [hp]
        exact hb.app hm z hz8 _
def Fell (kb kt : ByteArray) (S S' : Vs) (n : Int) (T : Tb) (Y : Nat → ByteArray) : Prop := ∃ Sm, Al kb kt Sm n T Y ∧ Bud Sm.D ∧ S'.D = Sm.D ∧ S'.c = S.c ∧ Sm.c = S.c
theorem wrF_bud {kb kt : ByteArray} {n : Int} {T : Tb} {Y : Nat → ByteArray} : ∀ (cs : List Int) (t : ByteArray) (S : Vs), Al kb kt S n T Y → Bud S.D → (∀ c ∈ cs, 0 ≤ c ∧ c < 24) →
    ((wrF kb kt cs t S).1 = 0 ∧ Al kb kt (wrF kb kt cs t S).2 n T Y ∧ Bud (wrF kb kt cs t S).2.D ∧ (wrF kb kt cs t S).2.X = wrX cs t S.X ∧ (wrF kb kt cs t S).2.c = S.c) ∨ ((wrF kb kt cs t S).1 = 14 ∧ Fell kb kt S (wrF kb kt cs t S).2 n T Y)
  | [], t, S, ha, hb, _ => Or.inl ⟨rfl, ha, hb, rfl, rfl⟩
  | c :: r, t, S, ha, hb, hc => by
    have h0 := hc c List.mem_cons_self
    obtain ⟨j, rfl⟩ : ∃ j : Nat, c = j := ⟨c.toNat, by omega⟩
    rcases write_bud ha hb j (by omega) (t.extract 0 (min t.size 80)) (piece_size t) with ⟨h1, h2, h3, h4, h5⟩ | ⟨h1, h2, h3⟩
    · rw [wrF_cons kb kt _ r t S h1]
      rcases wrF_bud r (t.extract (min t.size 80) t.size) _ h2 h3 (fun c' hc' => hc c' (List.mem_cons_of_mem _ hc')) with ⟨i1, i2, i3, i4, i5⟩ | ⟨i1, Sm, i2, i3, i4, i5, i6⟩
      · refine Or.inl ⟨i1, i2, i3, ?_, i5.trans h5⟩
        rw [i4, h4]
        rfl
      · exact Or.inr ⟨i1, Sm, i2, i3, i4, i5.trans h5, i6.trans h5⟩
    · have e : wrF kb kt ((j : Int) :: r) t S = S.write kb kt j (t.extract 0 (min t.size 80)) := by
        rw [wrF, if_pos (by rw [h1]; decide)]
      rw [e]
      exact Or.inr ⟨h1, S, ha, hb, h2, h3, rfl⟩
structure Fw (kb kt : ByteArray) (S : Vs) (l : List Fi) (n : Int) (T : Tb) (Y : Nat → ByteArray) : Prop where
  al : Al kb kt S n T Y
  bud : Bud S.D
  right : En.right l = true
  dir : catL S.X [0, 1, 2] = En.print l
theorem Fw.le {kb kt : ByteArray} {S : Vs} {l : List Fi} {n m : Int} {T : Tb} {Y : Nat → ByteArray} (h : Fw kb kt S l n T Y) (hm : n ≤ m) : Fw kb kt S l m T Y := ⟨h.al.le hm, h.bud, h.right, h.dir⟩
theorem put_fw {kb kt : ByteArray} {S : Vs} {l l' : List Fi} {n : Int} {T : Tb} {Y : Nat → ByteArray} (h : Fw kb kt S l n T Y) {s t : ByteArray} (hnm : nameB s.data.toList = true) (hf : fullB l s t = false) (hp : (butL l s ++ [newF l s t]).Perm l') (hri : Rise l') :
    ((wrF kb kt (cellsF l s t) t S).1 = 14 ∧ Fell kb kt S (wrF kb kt (cellsF l s t) t S).2 n T Y) ∨
    ((wrF kb kt (cellsF l s t) t S).1 = 0 ∧ (((dirW kb kt l' (wrF kb kt (cellsF l s t) t S).2).1 = 14 ∧ Fell kb kt S (dirW kb kt l' (wrF kb kt (cellsF l s t) t S).2).2 n T Y) ∨
      ((dirW kb kt l' (wrF kb kt (cellsF l s t) t S).2).1 = 0 ∧ Fw kb kt (dirW kb kt l' (wrF kb kt (cellsF l s t) t S).2).2 l' n T Y ∧
        (∀ u, txtOf (dirW kb kt l' (wrF kb kt (cellsF l s t) t S).2).2.X l' u = if u = s then some t.data.toList else txtOf S.X l u) ∧ (dirW kb kt l' (wrF kb kt (cellsF l s t) t S).2).2.c = S.c))) := by
  have hr' := right_new h.right hnm hf hp hri
  rcases wrF_bud (cellsF l s t) t S h.al h.bud (fun c hc => by have := (cellsF_in hc).1; omega) with ⟨a1, a2, a3, a4, a5⟩ | ⟨a1, a2⟩
  · refine Or.inr ⟨a1, ?_⟩
    generalize (wrF kb kt (cellsF l s t) t S).2 = S1 at *
    unfold dirW
    rcases wrF_bud [0, 1, 2] ⟨(En.print l').toArray⟩ S1 a2 a3 (fun c hc => by
      simp only [List.mem_cons, List.not_mem_nil, or_false] at hc
      omega) with ⟨b1, b2, b3, b4, b5⟩ | ⟨b1, Sm, b2, b3, b4, b5, b6⟩
    · refine Or.inr ⟨b1, ⟨b2, b3, hr', by rw [b4]; exact dir_cat hr' _⟩, fun u => ?_, b5.trans a5⟩
      rw [b4, dir_out _ _ hr', a4, ← txtOf_perm (fit_new ((right_iff l).1 h.right).1 hnm hf).names hp]
      have e : (newF l s t).nm = s := rfl
      have hcat : catL (wrX (cellsF l s t) t S.X) (newF l s t).cs = t.data.toList := by
        refine catL_wr _ _ _ (nodup_nat ((free_nodup _).sublist (List.take_sublist _ _)) (fun c hc => by have := (cellsF_in hc).1; omega)) ?_
        have := need_cover t
        have := (cellsF_len hf).1
        omega
      have htp := txtOf_put (wrX (cellsF l s t) t S.X) l (newF l s t) u
      rw [e] at htp
      rw [htp, hcat]
      by_cases hu : u = s
      · rw [if_pos hu, if_pos hu]
      · have e1 : txtOf (wrX (cellsF l s t) t S.X) (butL l s) u = txtOf (wrX (cellsF l s t) t S.X) l u := by rw [txtOf_but, if_neg hu]
        have e2 : txtOf S.X (butL l s) u = txtOf S.X l u := by rw [txtOf_but, if_neg hu]
        rw [if_neg hu, if_neg hu, ← e1, ← e2]
        refine txtOf_congr (fun f hf' => catL_wr_ne _ _ _ _ (fun c hc c' hc' => ?_)) u
        obtain ⟨h1, h2⟩ := cellsF_in hc
        have h3 := cells_in (right_but h.right s) hf' hc'
        refine toNat_ne (by omega) (by omega) (fun e => h2 ?_)
        rw [e]
        exact En.mem_allC hf' hc'
    · exact Or.inl ⟨b1, Sm, b2, b3, b4, b5.trans a5, b6.trans a5⟩
  · exact Or.inl ⟨a1, a2⟩
theorem del_fw {kb kt : ByteArray} {S : Vs} {l : List Fi} {n : Int} {T : Tb} {Y : Nat → ByteArray} (h : Fw kb kt S l n T Y) (s : ByteArray) :
    ((dirW kb kt (butL l s) S).1 = 14 ∧ Fell kb kt S (dirW kb kt (butL l s) S).2 n T Y) ∨
    ((dirW kb kt (butL l s) S).1 = 0 ∧ Fw kb kt (dirW kb kt (butL l s) S).2 (butL l s) n T Y ∧ (∀ u, txtOf (dirW kb kt (butL l s) S).2.X (butL l s) u = if u = s then none else txtOf S.X l u) ∧ (dirW kb kt (butL l s) S).2.c = S.c) := by
  have hr' := right_but h.right s
  unfold dirW
  rcases wrF_bud [0, 1, 2] ⟨(En.print (butL l s)).toArray⟩ S h.al h.bud (fun c hc => by
    simp only [List.mem_cons, List.not_mem_nil, or_false] at hc
    omega) with ⟨b1, b2, b3, b4, b5⟩ | ⟨b1, b2⟩
  · refine Or.inr ⟨b1, ⟨b2, b3, hr', by rw [b4]; exact dir_cat hr' _⟩, fun u => ?_, b5⟩
    rw [b4, dir_out _ _ hr', txtOf_but]
  · exact Or.inl ⟨b1, b2⟩
def Dead (kb kt : ByteArray) (S' : Vs) (P : (Nat → ByteArray) → Prop) : Prop := CC kb kt S'.D S'.c P ∧ c16 S'.D ∧ tot S'.D ≤ 80
theorem Fell.dead {kb kt : ByteArray} {S S' : Vs} {n : Int} {T : Tb} {Y : Nat → ByteArray} (h : Fell kb kt S S' n T Y) {P : (Nat → ByteArray) → Prop} (hY : P Y) : Dead kb kt S' P := by
  obtain ⟨Sm, h1, h2, h3, h4, h5⟩ := h
  refine ⟨?_, ?_, ?_⟩
  · rw [h3, h4, ← h5]
    exact ⟨T, Y, h1.sure, hY, Or.inl h1.ws⟩
  · rw [h3]; exact h1.c16
  · rw [h3]
    have := h2.le
    have := h2.pos
    omega
theorem Fw.alive {kb kt : ByteArray} {S : Vs} {l : List Fi} {n : Int} {T : Tb} {Y : Nat → ByteArray} (h : Fw kb kt S l n T Y) {P : (Nat → ByteArray) → Prop} (hY : P Y) : Dead kb kt S P := by
  refine ⟨⟨T, Y, h.al.sure, hY, Or.inl h.al.ws⟩, h.al.c16, ?_⟩
  have := h.bud.le
  have := h.bud.pos
  omega
theorem flush_left {S : Vs} (kt : ByteArray) (hd : S.dead = false) (hf : S.D.fused = true) (hp : 0 ≤ S.D.left) (h : (S.flush kt).1 = 0) : (S.flush kt).2.D.fused = true ∧ 0 ≤ (S.flush kt).2.D.left ∧ (S.flush kt).2.D.left ≤ S.D.left := by
  unfold Vs.flush at h ⊢
  rw [if_neg (by rw [hd]; decide)] at h ⊢
  by_cases h1 : S.D.may = false
  · rw [if_pos h1] at h; cases h
  · rw [if_neg h1] at h ⊢
    have m1 : S.D.may = true := by simpa using h1
    have l1 := may_left m1 hf
    obtain ⟨b1, b2⟩ := burnt_left hf
    have hz1 : S.D.burnt.synced.fused = true := b1
    have hz2 : S.D.burnt.synced.left = S.D.left - 1 := b2
    by_cases h2 : (({ S with D := S.D.burnt.synced } : Vs).tell kt S.next).1 = 0
    · rw [if_pos h2]
      unfold Vs.tell at h2 ⊢
      dsimp only at h2 ⊢
      generalize S.D.burnt.synced = D1 at *
      by_cases h3 : D1.may = false
      · rw [if_pos h3] at h2; cases h2
      · rw [if_neg h3] at h2 ⊢
        have m2 : D1.may = true := by simpa using h3
        have l2 := may_left m2 hz1
        obtain ⟨c1, c2⟩ := burnt_left hz1
        have hw1 : (D1.burnt.wrote (S.next.count % 2).toNat (Tw.text kt S.next)).fused = true := c1
        have hw2 : (D1.burnt.wrote (S.next.count % 2).toNat (Tw.text kt S.next)).left = D1.left - 1 := c2
        generalize D1.burnt.wrote (S.next.count % 2).toNat (Tw.text kt S.next) = D2 at *
        by_cases h4 : D2.may = false
        · rw [if_pos h4] at h2; cases h2
        · rw [if_neg h4]
          have m3 : D2.may = true := by simpa using h4
          have l3 := may_left m3 hw1
          obtain ⟨d1, d2⟩ := burnt_left hw1
          refine ⟨d1, ?_, ?_⟩
          · show 0 ≤ D2.burnt.left
            omega
          · show D2.burnt.left ≤ S.D.left
            omega
    · rw [if_neg h2] at h; exact absurd h h2
theorem flush_fw {kb kt : ByteArray} {S : Vs} {l : List Fi} {n : Int} {T : Tb} {Y : Nat → ByteArray} (h : Fw kb kt S l n T Y) (hn : n < 1000000000) (P : (Nat → ByteArray) → Prop) (hY : P Y) (hX : P S.X) :
    ((S.flush kt).1 = 0 ∧ Fw kb kt (S.flush kt).2 l (n + 1) (S.flush kt).2.T S.X ∧ (S.flush kt).2.X = S.X ∧ (S.flush kt).2.c = S.c + 1) ∨ ((S.flush kt).1 = 14 ∧ Dead kb kt (S.flush kt).2 P ∧ (S.flush kt).2.c = S.c) := by
  have htl := h.bud.le
  have htp := h.bud.pos
  rcases flush_al h.al hn P hY hX with ⟨h1, h2, h3, h4, h5⟩ | ⟨h1, h2, h3, h4, h5⟩
  · obtain ⟨f1, f2, f3⟩ := flush_left kt h.al.dead h.bud.fused h.bud.pos h1
    have ht : tot (S.flush kt).2.D = tot S.D := by unfold tot; rw [h3]
    exact Or.inl ⟨h1, ⟨h2, ⟨f1, by rw [ht]; omega, f2⟩, h.right, by rw [h4]; exact h.dir⟩, h4, h5⟩
  · have ht : tot (S.flush kt).2.D = tot S.D := by unfold tot; rw [h5]
    exact Or.inr ⟨h1, ⟨h3, fun z hz => by rw [h5]; exact h.al.c16 z hz, by rw [ht]; omega⟩, h4⟩
theorem put_left {S : Vs} (kb : ByteArray) (i : Nat) (but : Int) (t : ByteArray) (hf : S.D.fused = true) (hp : 0 ≤ S.D.left) (h : (S.put kb i but t).1 = 0) : (S.put kb i but t).2.D.fused = true ∧ 0 ≤ (S.put kb i but t).2.D.left ∧ (S.put kb i but t).2.D.left = S.D.left - 1 ∧ (S.put kb i but t).2.dead = S.dead := by
  unfold Vs.put at h ⊢
  cases hr : room S.atf but with
  | none => rw [hr] at h; cases h
  | some z =>
    rw [hr] at h
    dsimp only at h ⊢
    by_cases h1 : S.D.may = false
    · rw [if_pos h1] at h; cases h
    · rw [if_neg h1]
      have m1 : S.D.may = true := by simpa using h1
      have l1 := may_left m1 hf
      obtain ⟨b1, b2⟩ := burnt_left hf
      refine ⟨b1, ?_, b2, rfl⟩
      show 0 ≤ S.D.burnt.left
      omega
theorem moves_left (kb : ByteArray) (z : Int) : ∀ (l : List Nat) (S : Vs), S.D.fused = true → 0 ≤ S.D.left → (S.moves kb z l).1 = 0 → (S.moves kb z l).2.D.fused = true ∧ 0 ≤ (S.moves kb z l).2.D.left ∧ (S.moves kb z l).2.D.left = S.D.left - l.length ∧ (S.moves kb z l).2.dead = S.dead
  | [], S, hf, hp, _ => ⟨hf, hp, by simp [Vs.moves], rfl⟩
  | i :: r, S, hf, hp, h => by
    unfold Vs.moves at h ⊢
    by_cases h1 : (S.put kb i z (S.X i)).1 = 0
    · rw [if_pos h1] at h ⊢
      obtain ⟨p1, p2, p3, p4⟩ := put_left kb i z (S.X i) hf hp h1
      obtain ⟨m1, m2, m3, m4⟩ := moves_left kb z r _ p1 p2 h
      exact ⟨m1, m2, by rw [m3, p3, List.length_cons]; omega, m4.trans p4⟩
    · rw [if_neg h1] at h
      exact absurd h h1
theorem reclaim_left {S : Vs} (kb kt : ByteArray) (hd : S.dead = false) (hf : S.D.fused = true) (hp : 0 ≤ S.D.left) {z : Nat} (hv : vicTo S.atf S.live 8 = some z) (h : (S.reclaim kb kt).1.2.2 = 0) : (S.reclaim kb kt).2.D.fused = true ∧ 0 ≤ (S.reclaim kb kt).2.D.left ∧ (S.reclaim kb kt).2.D.left ≤ S.D.left - (Sp.inI S.T (z : Int) 24).length := by
  unfold Vs.reclaim at h ⊢
  rw [if_neg (by rw [hd]; decide), hv] at h ⊢
  dsimp only at h ⊢
  by_cases h1 : (S.moves kb z (Sp.inI S.T (z : Int) 24)).1 ≠ 0
  · rw [if_pos h1] at h; exact absurd h h1
  · rw [if_neg h1] at h ⊢
    have h1' : (S.moves kb z (Sp.inI S.T (z : Int) 24)).1 = 0 := by simpa using h1
    obtain ⟨m1, m2, m3, m4⟩ := moves_left kb z _ S hf hp h1'
    generalize (S.moves kb z (Sp.inI S.T (z : Int) 24)).2 = S1 at *
    by_cases h2 : (S1.flush kt).1 ≠ 0
    · rw [if_pos h2] at h; exact absurd h h2
    · rw [if_neg h2] at h ⊢
      have h2' : (S1.flush kt).1 = 0 := by simpa using h2
      obtain ⟨f1, f2, f3⟩ := flush_left kt (m4.trans hd) m1 m2 h2'
      generalize (S1.flush kt).2 = S2 at *
      by_cases h3 : S2.D.may = false
      · rw [if_pos h3] at h; cases h
      · rw [if_neg h3]
        have m3' : S2.D.may = true := by simpa using h3
        have l1 := may_left m3' f1
        obtain ⟨b1, b2⟩ := burnt_left f1
        refine ⟨b1, ?_, ?_⟩
        · show 0 ≤ S2.D.burnt.left
          omega
        · show S2.D.burnt.left ≤ _
          omega
theorem reclaim_fw {kb kt : ByteArray} {S : Vs} {l : List Fi} {n : Int} {T : Tb} {Y : Nat → ByteArray} (h : Fw kb kt S l n T Y) (hn : n < 1000000000) (P : (Nat → ByteArray) → Prop) (hY : P Y) (hX : P S.X) :
    ((S.reclaim kb kt).1.2.2 = 0 ∧ (∃ T' Y', Fw kb kt (S.reclaim kb kt).2 l (n + 1) T' Y' ∧ P Y') ∧ (S.reclaim kb kt).2.X = S.X) ∨ ((S.reclaim kb kt).1.2.2 = 14 ∧ Dead kb kt (S.reclaim kb kt).2 P) := by
  have htl := h.bud.le
  have htp := h.bud.pos
  cases hv : vicTo S.atf S.live 8 with
  | none =>
    have e : S.reclaim kb kt = ((0, false, 0), S) := by
      unfold Vs.reclaim
      rw [if_neg (by rw [h.al.dead]; decide), hv]
    rw [e]
    exact Or.inl ⟨rfl, ⟨T, Y, h.le (by omega), hY⟩, rfl⟩
  | some z =>
    have h16 := inI16 h.al.ok (z : Int)
    rcases reclaim_al h.al hn P hY hX hv (by omega) with ⟨h1, h2, h3, h4, h5, h6⟩ | ⟨h1, h2, h3, h4, h5, h6⟩
    · obtain ⟨f1, f2, f3⟩ := reclaim_left kb kt h.al.dead h.bud.fused h.bud.pos hv h1
      exact Or.inl ⟨h1, ⟨_, _, ⟨h2, ⟨f1, by omega, f2⟩, h.right, by rw [h5]; exact h.dir⟩, hX⟩, h5⟩
    · exact Or.inr ⟨h1, h3, h6, by omega⟩
end Fl
end Go.Proofs.YtlgocfgnfdnloaaGreatDoor
end
