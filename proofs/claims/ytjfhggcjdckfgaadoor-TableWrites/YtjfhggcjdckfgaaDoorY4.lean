/- The reference's RightTable. -/
import Derived.Test.YtjfhggcjdckfgaaDoorY3
namespace Go.Proofs.YtjfhggcjdckfgaaDoor
set_option linter.unusedSimpArgs false
set_option linter.unusedVariables false
set_option maxRecDepth 100000
namespace Tw
open Go.RowKit

theorem rin_any (n lo hi : Int) (w : World) : Calls Tryd.prog 87 #[.int .i64 n, .int .i64 lo, .int .i64 hi] w fun e w' => e = .returned (.bool (decide (lo ≤ n) && decide (n ≤ hi))) ∧ w' = w := by
  by_cases h : lo ≤ n
  · go_enter Tryd.func87, Tryd.ntmps87
    go_wp2_with fail
    go_ret
    exact ⟨by simp [h], rfl⟩
  · go_enter Tryd.func87, Tryd.ntmps87
    go_wp2_with fail
    go_ret
    exact ⟨by simp [h]; intro h2; omega, rfl⟩
theorem info3 : ∃ i, Tryd.prog.info? 3 = some i := by
  cases h : Tryd.prog.info? 3 with
  | none => exact absurd h (by
      have : (Tryd.prog.info? 3).isSome = true := by kernel_rfl
      intro e; rw [e] at this; cases this)
  | some i => exact ⟨i, rfl⟩
theorem cells3 : Tryd.prog.cellsOf 3 = 1 := by kernel_rfl
theorem pairTy : PT Tryd.prog 186 := ⟨Tryd.underlying3, Tryd.underlying186, info3, fun w => Tryd.isAgg3 w, fun w => Tryd.sizeOf3 w, cells3⟩
theorem pair_lookup (w : World) (r : Nat) (L : List (Int × Int)) (c : Nat) (z o : Int) (hb : w.heap[r]? = some (.map (pes L 0).toArray c)) :
    (Instr.lookup 185 (.map (some r)) (.agg #[.int .i64 z, .int .i64 o]) false).run Tryd.prog w = .ok (.bool (decide ((z, o) ∈ L))) w := by
  exact pk_lookup pairTy Tryd.underlying185 (fun w => Tryd.zeroValue4 w) w r L c (z, o) hb
theorem pair_update (w : World) (r : Nat) (L : List (Int × Int)) (z o : Int) (hb : w.heap[r]? = some (.map (pes L 0).toArray L.length)) (h : (z, o) ∉ L) :
    (Instr.mapUpdate 185 (.map (some r)) (.agg #[.int .i64 z, .int .i64 o]) (.bool true)).run Tryd.prog w = .ok () { w with heap := w.heap.setIfInBounds r (.map (pes (L ++ [(z, o)]) 0).toArray (L ++ [(z, o)]).length) } := by
  exact pk_update pairTy Tryd.underlying185 w r L (z, o) hb h
theorem since_setObj {a w : World} (h : Since a w) {r : Nat} (hr : a.heap.size ≤ r) (o : Obj) : Since a { w with heap := w.heap.setIfInBounds r o } :=
  Below.trans (show Below a.heap.size a w from h) ⟨rfl, rfl, rfl, by simp, fun k hk => by
    show (w.heap.setIfInBounds r o)[k]? = _
    rw [Array.getElem?_setIfInBounds_ne (by omega)]⟩
theorem fr_setObj (w : World) (r : Nat) (o : Obj) : Fr r none w { w with heap := w.heap.setIfInBounds r o } :=
  ⟨rfl, rfl, rfl, by simp, fun k _ hb _ => by
    show (w.heap.setIfInBounds r o)[k]? = _
    rw [Array.getElem?_setIfInBounds_ne (fun h => hb h.symm)]⟩
theorem heap_since {a b : World} (h : Since a b) {r : Nat} {o : Obj} (hb : a.heap[r]? = some o) : b.heap[r]? = some o := by
  rw [h.block r (Array.getElem?_eq_some_iff.1 hb).1]
  exact hb
set_option maxHeartbeats 4000000 in
theorem rright_any (T : Tb) (w : World) : Calls Tryd.prog 73 #[tval T] w fun e w' => e = .returned (.bool (rtB T)) ∧ Since w w' := by
  have hmm := @run_makeMap Tryd.prog
  have hC := tab_cel T w
  have hS : Since w (w.alloc (.cells (brow 73 (tcell T)).toArray 100)) := (Since.refl w).alloc _
  have hR := tab_cells (hC.since ((Since.refl _).alloc (.map #[] 0)))
  unfold tval
  generalize (brow 73 (tcell T)).toArray = cs0 at *
  have HS : Hid (Since w ((w.alloc (.cells cs0 100)).alloc (.map #[] 0))) := hS.alloc _
  have HC : Hid (Cel ((w.alloc (.cells cs0 100)).alloc (.map #[] 0)) w.heap.size 73 (tcell T)) := hC.since ((Since.refl _).alloc _)
  have HM : Hid (((w.alloc (.cells cs0 100)).alloc (.map #[] 0)).heap[w.heap.size + 1]? = some (.map (pes (prs T 0) 0).toArray (prs T 0).length)) := by
    have := (MapKept.heap_alloc (w.alloc (.cells cs0 100)) (.map #[] 0)).1
    rw [World.size_alloc] at this
    exact this
  clear hS hC
  have hL : (brow 72 (ccell T)).length = 72 := brow_length _ _
  have HIX : Hid (∀ (k : Nat) (hk : k < 24) (w : World), (Instr.index 98 (.agg (brow 72 (ccell T)).toArray) (.int .i64 (k : Int))).run Tryd.prog w = .ok (.agg #[.int .i64 (T.zone k), .int .i64 (T.off k), .string (T.tag k)]) w) := fun k hk w => idx_cell T k hk w
  generalize hcs : brow 72 (ccell T) = cs at *
  clear hcs
  go_enter Tryd.func73, Tryd.ntmps73
  go_wp2_with (refine wpList_load_mid (by rfl) 98 _ (by rfl) w.heap.size 1 (by rfl) _ _ hR Tryd.underlying98 (by rfl) (by rw [hL]; kernel_rfl) ?_)
  clear hR hL hmm
  generalize (w.alloc (.cells cs0 100)).alloc (.map #[] 0) = w0 at *
  go_loopw [10] (fun i wr => ∃ k : Nat, k ≤ 24 ∧ i = .int .i64 k ∧ fine T k ∧ wr.heap[w.heap.size + 1]? = some (.map (pes (prs T k) 0).toArray (prs T k).length) ∧ Cel wr w.heap.size 73 (tcell T) ∧ Since w wr) (fun i _ => 24 - (intOf i).toNat)
  case atStart => exact ⟨0, by omega, rfl, fine_zero T, HM.out, HC.out, HS.out⟩
  case round =>
    obtain ⟨k, hk, rfl, hf, hm, hc, hs⟩ := hrel
    have HF : Hid (fine T k) := hf
    have HMK : Hid (wr.heap[w.heap.size + 1]? = some (.map (pes (prs T k) 0).toArray (prs T k).length)) := hm
    have HCK : Hid (Cel wr w.heap.size 73 (tcell T)) := hc
    have HSK : Hid (Since w wr) := hs
    clear hf hm hs hc
    by_cases hlt : k < 24
    · have hlt2 : (k : Int) < 24 := by omega
      have hix := HIX.out k hlt
      by_cases hn : nul T k
      · have HN : Hid (nul T k) := hn
        obtain ⟨z0, o0, t0⟩ := hn
        rw [z0, o0, t0] at hix
        clear z0 o0 t0
        go_wp2_with fail
        go_roundw
        case rel => exact ⟨k + 1, by omega, by go_num, fine_nul HF.out HN.out, by rw [prs_nul HN.out]; exact heap_since ((Since.refl _).alloc _) HMK.out, HCK.out.since ((Since.refl _).alloc _), HSK.out.alloc _⟩
        case measure => simp [intOf]; omega
      · have HN : Hid (¬ nul T k) := hn
        by_cases te : T.tag k = ⟨#[]⟩
        · have hm : ¬ may T k := fun h => by have := h.1; rw [te] at this; exact absurd this (by decide)
          have HB : Hid (rtB T = false) := rtB_false (fun h => fine_not HN.out (Or.inl hm) hlt h.2)
          rw [te] at hix
          clear hm
          by_cases z0 : T.zone k = 0
          · have o0 : ¬ T.off k = 0 := fun h => hn ⟨z0, h, te⟩
            rw [z0] at hix
            clear te hn z0
            generalize T.off k = o at *
            go_wp2_with fail
            go_ret
            exact ⟨by rw [HB.out]; rfl, (HSK.out.alloc _).alloc _⟩
          · clear te hn
            generalize T.off k = o at *
            generalize T.zone k = z at *
            go_wp2_with fail
            go_ret
            exact ⟨by rw [HB.out]; rfl, (HSK.out.alloc _).alloc _⟩
        · have ht1 : ¬ (T.tag k).toList = [] := by
            rw [ByteArray.toList_eq]
            exact fun e => te (ByteArray.ext (Array.toList_inj.1 e))
          clear hn te
          by_cases h16 : (T.tag k).size = 16
          · have h16I : ((T.tag k).size : Int) = 16 := by omega
            by_cases hz : 0 ≤ T.zone k ∧ T.zone k ≤ 7
            · have hzb : (decide (0 ≤ T.zone k) && decide (T.zone k ≤ 7)) = true := by simp; exact hz
              by_cases ho : 0 ≤ T.off k ∧ T.off k ≤ 15
              · have hob : (decide (0 ≤ T.off k) && decide (T.off k ≤ 15)) = true := by simp; exact ho
                have HM : Hid (may T k) := ⟨h16, hz.1, by omega, ho.1, by omega⟩
                have HPM : Hid ((T.zone k, T.off k) ∈ prs T k ↔ hit T k (T.zone k) (T.off k)) := prs_mem T k _ _
                have HPS : Hid (prs T (k + 1) = prs T k ++ [(T.zone k, T.off k)]) := prs_set HN.out
                have HW : Hid (((wr.alloc (.cells #[.int .i64 (T.zone k), .int .i64 (T.off k), .string (T.tag k)] 97)).alloc (.cells #[.int .i64 (T.zone k), .int .i64 (T.off k)] 186)).heap[w.heap.size + 1]? = some (.map (pes (prs T k) 0).toArray (prs T k).length)) := heap_since (((Since.refl _).alloc _).alloc _) HMK.out
                have hlk := pair_lookup _ (w.heap.size + 1) (prs T k) _ (T.zone k) (T.off k) HW.out
                have HSW : Hid (Since wr ((wr.alloc (.cells #[.int .i64 (T.zone k), .int .i64 (T.off k), .string (T.tag k)] 97)).alloc (.cells #[.int .i64 (T.zone k), .int .i64 (T.off k)] 186))) := ((Since.refl _).alloc _).alloc _
                by_cases hh : hit T k (T.zone k) (T.off k)
                · have HB : Hid (rtB T = false) := rtB_false (fun h => fine_not HN.out (Or.inr hh) hlt h.2)
                  rw [decide_eq_true (HPM.out.2 hh)] at hlk
                  clear h16 hz ho hh HM HPM HPS
                  generalize T.off k = o at *
                  generalize T.zone k = z at *
                  generalize T.tag k = t at *
                  go_wp2_with fail
                  refine (rin_any _ _ _ _).mono ?_
                  rintro e w1 ⟨rfl, hw1⟩
                  subst hw1
                  rw [hzb]
                  go_wp2_with fail
                  refine (rin_any _ _ _ _).mono ?_
                  rintro e w2 ⟨rfl, hw2⟩
                  subst hw2
                  rw [hob]
                  go_wp2_with fail
                  go_ret
                  exact ⟨by rw [HB.out]; rfl, HSK.out.trans HSW.out⟩
                · have hnp : (T.zone k, T.off k) ∉ prs T k := fun h => hh (HPM.out.1 h)
                  rw [decide_eq_false hnp] at hlk
                  have hup := pair_update _ (w.heap.size + 1) (prs T k) (T.zone k) (T.off k) HW.out hnp
                  rw [← HPS.out] at hup
                  have HF6 : Hid (fine T (k + 1)) := fine_may HF.out HM.out hh
                  have HM6 := (MapKept.heap_set (o' := .map (pes (prs T (k + 1)) 0).toArray (prs T (k + 1)).length) HW.out).1
                  have hsw := since_setObj (HSK.out.trans HSW.out) (r := w.heap.size + 1) (by omega) (.map (pes (prs T (k + 1)) 0).toArray (prs T (k + 1)).length)
                  have hcw := (HCK.out.since HSW.out).fr (fr_setObj _ (w.heap.size + 1) (.map (pes (prs T (k + 1)) 0).toArray (prs T (k + 1)).length)) (by omega) (by simp)
                  generalize hW6 : ({ (wr.alloc (.cells #[.int .i64 (T.zone k), .int .i64 (T.off k), .string (T.tag k)] 97)).alloc (.cells #[.int .i64 (T.zone k), .int .i64 (T.off k)] 186) with heap := ((wr.alloc (.cells #[.int .i64 (T.zone k), .int .i64 (T.off k), .string (T.tag k)] 97)).alloc (.cells #[.int .i64 (T.zone k), .int .i64 (T.off k)] 186)).heap.setIfInBounds (w.heap.size + 1) (.map (pes (prs T (k + 1)) 0).toArray (prs T (k + 1)).length) } : World) = w6 at *
                  have HMM : Hid (w6.heap[w.heap.size + 1]? = some (.map (pes (prs T (k + 1)) 0).toArray (prs T (k + 1)).length)) := by rw [← hW6]; exact HM6
                  have HS6 : Hid (Since w w6) := hsw
                  have HC6 : Hid (Cel w6 w.heap.size 73 (tcell T)) := hcw
                  clear HM6 hsw hcw hW6 h16 hz ho hh HM HPM HPS hnp HF
                  generalize T.off k = o at *
                  generalize T.zone k = z at *
                  generalize T.tag k = t at *
                  go_wp2_with fail
                  refine (rin_any _ _ _ _).mono ?_
                  rintro e w1 ⟨rfl, hw1⟩
                  subst hw1
                  rw [hzb]
                  go_wp2_with fail
                  refine (rin_any _ _ _ _).mono ?_
                  rintro e w2 ⟨rfl, hw2⟩
                  subst hw2
                  rw [hob]
                  go_wp2_with fail
                  go_roundw
                  case rel => exact ⟨k + 1, by omega, by go_num, HF6.out, HMM.out, HC6.out, HS6.out⟩
                  case measure => simp [intOf]; omega
              · have hob : (decide (0 ≤ T.off k) && decide (T.off k ≤ 15)) = false := by
                  rw [Bool.and_eq_false_iff]
                  by_cases h3 : 0 ≤ T.off k
                  · right; simp; omega
                  · left; simp; omega
                have HB : Hid (rtB T = false) := rtB_false (fun h => fine_not HN.out (Or.inl (fun hm => ho ⟨hm.2.2.2.1, by have := hm.2.2.2.2; omega⟩)) hlt h.2)
                clear h16 hz ho
                generalize T.off k = o at *
                generalize T.zone k = z at *
                generalize T.tag k = t at *
                go_wp2_with fail
                refine (rin_any _ _ _ _).mono ?_
                rintro e w1 ⟨rfl, rfl⟩
                rw [hzb]
                go_wp2_with fail
                refine (rin_any _ _ _ _).mono ?_
                rintro e w2 ⟨rfl, rfl⟩
                rw [hob]
                go_wp2_with fail
                go_ret
                exact ⟨by rw [HB.out]; rfl, (HSK.out.alloc _).alloc _⟩
            · have hzb : (decide (0 ≤ T.zone k) && decide (T.zone k ≤ 7)) = false := by
                rw [Bool.and_eq_false_iff]
                by_cases h3 : 0 ≤ T.zone k
                · right; simp; omega
                · left; simp; omega
              have HB : Hid (rtB T = false) := rtB_false (fun h => fine_not HN.out (Or.inl (fun hm => hz ⟨hm.2.1, by have := hm.2.2.1; omega⟩)) hlt h.2)
              clear h16 hz
              generalize T.off k = o at *
              generalize T.zone k = z at *
              generalize T.tag k = t at *
              go_wp2_with fail
              refine (rin_any _ _ _ _).mono ?_
              rintro e w1 ⟨rfl, rfl⟩
              rw [hzb]
              go_wp2_with fail
              go_ret
              exact ⟨by rw [HB.out]; rfl, (HSK.out.alloc _).alloc _⟩
          · have h16I : ¬ ((T.tag k).size : Int) = 16 := by omega
            have HB : Hid (rtB T = false) := rtB_false (fun h => fine_not HN.out (Or.inl (fun hm => h16 hm.1)) hlt h.2)
            clear h16
            generalize T.off k = o at *
            generalize T.zone k = z at *
            generalize T.tag k = t at *
            go_wp2_with fail
            go_ret
            exact ⟨by rw [HB.out]; rfl, (HSK.out.alloc _).alloc _⟩
    · have hke : k = 24 := by omega
      subst hke
      have q0 := HCK.out.cell 0 (by omega)
      rw [show tcell T 0 = .int .i64 T.count from rfl] at q0
      go_wp2_with fail
      refine (rin_any _ _ _ _).mono ?_
      rintro e w1 ⟨rfl, rfl⟩
      have HB : Hid (rtB T = (decide (1 ≤ T.count) && decide (T.count ≤ 1099511627776))) := by
        show rtB T = _
        by_cases h : 1 ≤ T.count ∧ T.count ≤ 1099511627776
        · rw [rtB_true ⟨h, HF.out⟩, decide_eq_true h.1, decide_eq_true h.2]; rfl
        · rw [rtB_false (fun hr => h hr.1)]
          by_cases h1 : 1 ≤ T.count
          · rw [decide_eq_false (fun h2 => h ⟨h1, h2⟩), Bool.and_false]
          · rw [decide_eq_false h1, Bool.false_and]
      generalize (decide (1 ≤ T.count) && decide (T.count ≤ 1099511627776)) = x at *
      clear q0
      go_wp2_with fail
      go_ret
      exact ⟨by rw [HB.out]; rfl, HSK.out⟩
end Tw
end Go.Proofs.YtjfhggcjdckfgaaDoor
