import Derived.Deep.DeepCutAuto
import Derived.Test.YtbfjklpoheooaaaGreatDoorJ45
set_option linter.unusedSimpArgs false
set_option linter.unusedVariables false
namespace Go.Proofs.YtbfjklpoheooaaaGreatDoor
set_option maxRecDepth 100000
namespace Vl
open Go.RowKit
open Tw (Tb tcell tval ccell)
theorem rparse_all (hsum : Sm.RSum) (Rb : Nat) (kt s : ByteArray) (w : World) (hk : kt.size = 32) (hs : s.size = 500) (hh : Sm.Arr w Rb 0 8 Sm.H0.fn) (hkn : Sm.Arr w Rb 8 64 Sm.kn) :
    Calls Tryz.prog 72 #[.pointer (some ⟨Rb, 0, none⟩), .string kt, .string s] w fun e w' => (∃ U er, e = .returned (.tuple #[.agg (brow 73 (tcell U)).toArray, .int .i64 er]) ∧ ((isTab kt s ∧ U = Tw.rd s ∧ er = 0) ∨ (¬ isTab kt s ∧ U = Tb.zero ∧ er = 15))) ∧ Since w w' := by
  by_cases hr : Tw.rtB (Tw.rd s) = true
  · have hR := (Tw.rtB_iff _).1 hr
    have hz : (Tw.text kt (Tw.rd s)).size = 456 := Tw.text_size hR.2
    have hiff := Tw.whole_iff s (Tw.text kt (Tw.rd s)) hz (by omega)
    by_cases he : s = Tw.text kt (Tw.rd s) ++ txt (s.size - 456) (fun _ => 0)
    · refine (Tw.rparse_long Rb kt s w hk (by omega) (by omega) hh hkn (Tw.text kt (Tw.rd s)) 0 _ (by omega) (fun W h1 h2 => Tw.rwrite_ok hsum Rb kt (Tw.rd s) W hk hR h1 h2) (Or.inr (Or.inr ⟨rfl, he, rfl⟩))).mono ?_
      rintro e w' ⟨rfl, h⟩
      exact ⟨⟨_, _, rfl, Or.inl ⟨⟨(hiff.1 he).2, hr, (hiff.1 he).1.symm⟩, rfl, rfl⟩⟩, h⟩
    · refine (Tw.rparse_long Rb kt s w hk (by omega) (by omega) hh hkn (Tw.text kt (Tw.rd s)) 0 _ (by omega) (fun W h1 h2 => Tw.rwrite_ok hsum Rb kt (Tw.rd s) W hk hR h1 h2) (Or.inr (Or.inl ⟨rfl, he, rfl⟩))).mono ?_
      rintro e w' ⟨rfl, h⟩
      exact ⟨⟨_, _, rfl, Or.inr ⟨fun q => he (hiff.2 ⟨q.2.2.symm, q.1⟩), rfl, rfl⟩⟩, h⟩
  · have hr2 : Tw.rtB (Tw.rd s) = false := by simpa using hr
    refine (Tw.rparse_long Rb kt s w hk (by omega) (by omega) hh hkn ⟨#[]⟩ 1 _ (by decide) (fun W h1 h2 => Tw.rwrite_not Rb kt (Tw.rd s) W hk hr2) (Or.inl ⟨rfl, rfl⟩)).mono ?_
    rintro e w' ⟨rfl, h⟩
    exact ⟨⟨_, _, rfl, Or.inr ⟨fun q => hr q.2.1, rfl, rfl⟩⟩, h⟩
section
variable {q : Bool} {w0 w : World} {N rv Rb rd rc : Nat} {s kb kt : ByteArray} {S : Vs}
theorem rreadD_any (z o : Int) (hok : S.D.ok) (h : RVol w0 w N rv Rb rd rc s S) :
    Calls Tryz.prog 73 #[.pointer (some ⟨rd, 0, none⟩), .int .i64 z, .int .i64 o] w fun e w' => e = .returned (.tuple #[.string (rdB S.D z o).1, .int .i64 (rdB S.D z o).2]) ∧ w' = w := by
  obtain ⟨lv, av, wv, hr⟩ := h.ref
  unfold rdB
  by_cases hz : 0 ≤ z ∧ z < 8
  · rw [if_neg (fun q => q hz)]
    obtain ⟨k, rfl⟩ := Int.eq_ofNat_of_zero_le hz.1
    rw [Int.toNat_natCast]
    have h16 := hok.cnt k (by omega)
    by_cases ho : 0 ≤ o ∧ o < S.D.cnt k
    · rw [if_neg (fun q => q ho)]
      obtain ⟨j, rfl⟩ := Int.eq_ofNat_of_zero_le ho.1
      exact rread_any S.D lv av wv rd N k j w hr (by omega) (by omega) h16
    · rw [if_pos ho]
      exact rread_miss S.D lv av wv rd N k o w hr (by omega) ho h16
  · rw [if_pos hz]
    exact rread_bad rd z o w hz
set_option maxHeartbeats 16000000 in
theorem whole_any (B : RBase Rb s kb kt) (n : Int) (hn : 0 ≤ n) (hok : S.D.ok) (h : RVol w0 w N rv Rb rd rc s S) :
    Calls Tryz.prog 31 #[.pointer (some ⟨rv, 0, none⟩), .int .i64 n] w fun e w' => (whole kb kt S.D n ∧ e = .returned (.bool true) ∧ RTo q w0 w w' N rv Rb rd rc s { S with T := tabAt S.D n, X := saysTo kb S.D (tabAt S.D n) 24 }) ∨ (¬ whole kb kt S.D n ∧ e = .returned (.bool false) ∧ Since w w') := by
  have HB : Hid (RBase Rb s kb kt) := B
  have H : Hid (RVol w0 w N rv Rb rd rc s S) := h
  have HOK : Hid (S.D.ok) := hok
  have hn1 : 0 ≤ n := hn
  obtain ⟨kk, hkk, hk2⟩ : ∃ k : Nat, n % 2 = k ∧ k < 2 := ⟨(n % 2).toNat, by omega, by omega⟩
  have HKK : Hid (n % 2 = (kk : Int) ∧ kk < 2) := ⟨hkk, hk2⟩
  have HST : Hid (slotTxt S.D n = txt 500 (S.D.slotBy kk (fun _ => true))) := by
    show slotTxt S.D n = _
    unfold slotTxt
    rw [hkk, Int.toNat_natCast]
  have ht2 : n.tmod 2 = (kk : Int) := by rw [tmod2 _ (by omega)]; exact hkk
  have hw64 : wrap64 (kk : Int) = (kk : Int) := by unfold wrap64; omega
  clear hkk hk2 h B hn hok
  have q1 := H.out.c1
  go_enter Tryz.func31, Tryz.ntmps31
  go_wp2_with fail
  obtain ⟨lv, av, wv, hr⟩ := H.out.ref
  refine (rget_any S.D lv av wv rd N kk _ hr HKK.out.2 (by have := HOK.out.few; omega)).mono ?_
  clear hr
  rintro e wx ⟨rfl, hw⟩
  rw [hw]
  clear hw wx
  rw [← HST.out]
  clear ht2 hw64 q1
  have HWH : Hid (whole kb kt S.D n ↔ (isTab kt (slotTxt S.D n) ∧ (tabAt S.D n).count = n) ∧ ∀ i, i < 24 → there kb S.D (tabAt S.D n) i) := by
    show whole kb kt S.D n ↔ _
    unfold whole tabOk isTab tabAt
    constructor
    · rintro ⟨⟨a, b, c, d⟩, e⟩; exact ⟨⟨⟨a, b, c⟩, d⟩, e⟩
    · rintro ⟨⟨⟨a, b, c⟩, d⟩, e⟩; exact ⟨⟨a, b, c, d⟩, e⟩
  have HZ : Hid ((slotTxt S.D n).size = 500) := slot_size _ _
  have HSS : Hid (∀ W, Since w.drew W → (fun W : World => W.cell? ⟨rv, 0, none⟩ = some (.pointer (some ⟨Rb, 0, none⟩))) W) := fun W hW => (H.out.go ((Since.refl w).drew.trans hW)).c0
  have HKY : Hid (∀ W, Since w.drew W → Calls Tryz.prog 50 #[.pointer (some ⟨rv, 0, none⟩), .int .u8 116] W fun e w' => e = .returned (.string kt) ∧ Since W w') := fun W hW => key_any kt 116 HB.out.keyt (H.out.go ((Since.refl w).drew.trans hW))
  have HPA : Hid (∀ W, Since w.drew W → Calls Tryz.prog 72 #[.pointer (some ⟨Rb, 0, none⟩), .string kt, .string (slotTxt S.D n)] W fun e w' => (∃ U er, e = .returned (.tuple #[.agg (brow 73 (tcell U)).toArray, .int .i64 er]) ∧ ((isTab kt (slotTxt S.D n) ∧ U = tabAt S.D n ∧ er = 0) ∨ (¬ isTab kt (slotTxt S.D n) ∧ U = Tb.zero ∧ er = 15))) ∧ Since W w') := fun W hW => rparse_all HB.out.sum Rb kt (slotTxt S.D n) W HB.out.kt HZ.out (H.out.go ((Since.refl w).drew.trans hW)).hh.1 (H.out.go ((Since.refl w).drew.trans hW)).hh.2
  generalize slotTxt S.D n = sl at *
  generalize hTT : tabAt S.D n = T at *
  have HTT : Hid (tabAt S.D n = T) := hTT
  clear hTT
  go_upto_region 2 with fail
  go_cut [7, 8] (fun t7 t8 wx => ∃ (bt : Nat) (U : Tb) (er : Int), t7 = .pointer (some ⟨bt, 0, none⟩) ∧ t8 = .int .i64 er ∧ ((isTab kt sl ∧ U = T ∧ er = 0) ∨ (¬ isTab kt sl ∧ U = Tb.zero ∧ er = 15)) ∧ Cel wx bt 73 (tcell U) ∧ Ty wx bt 92 ∧ w.heap.size ≤ bt ∧ Since w wx)
  case first =>
    have hS1 : (fun W : World => W.cell? ⟨rv, 0, none⟩ = some (.pointer (some ⟨Rb, 0, none⟩))) w.drew := HSS.out _ (Since.refl _)
    refine wp_region_held (S := fun W : World => W.cell? ⟨rv, 0, none⟩ = some (.pointer (some ⟨Rb, 0, none⟩))) (by kernel_rfl) ?_
    refine Tw.takeD (i := 0) (d := 27) (v := ?v1) rfl rfl (by kernel_rfl) (by kernel_rfl) (by kernel_rfl) (fun _ _ _ h => h) (Or.inl ⟨by rfl, ?hw1⟩) hS1 ?q1
    case hw1 => (intro w hSw; have s0 := hSw; go_simp; try with_reducible rfl)
    simp only [Act.put, List.setIfInBounds_toArray, List.set_cons_zero, List.set_cons_succ]
    refine Tw.takeD (i := 1) (d := 28) (v := ?v2) rfl rfl (by kernel_rfl) (by kernel_rfl) (by kernel_rfl) (fun _ _ _ h => h) (Or.inl ⟨by rfl, ?hw2⟩) hS1 ?q2
    case hw2 => (intro w hSw; have s0 := hSw; go_simp; try with_reducible rfl)
    simp only [Act.put, List.setIfInBounds_toArray, List.set_cons_zero, List.set_cons_succ]
    refine Tw.takeD (i := 2) (d := 29) (v := ?v3) rfl rfl (by kernel_rfl) (by kernel_rfl) (by kernel_rfl) (fun _ _ _ h => h) (Or.inl ⟨by rfl, ?hw3⟩) hS1 ?q3
    case hw3 => (intro w hSw; have s0 := hSw; go_simp; try with_reducible rfl)
    simp only [Act.put, List.setIfInBounds_toArray, List.set_cons_zero, List.set_cons_succ]
    refine Tw.takeD (i := 3) (d := 30) (v := ?v4) rfl rfl (by kernel_rfl) (by kernel_rfl) (by kernel_rfl) (fun _ _ _ h => h) (Or.inl ⟨by rfl, ?hw4⟩) hS1 ?q4
    case hw4 => (intro w hSw; have s0 := hSw; go_simp; try with_reducible rfl)
    simp only [Act.put, List.setIfInBounds_toArray, List.set_cons_zero, List.set_cons_succ]
    refine Tw.takeD (i := 4) (d := 31) (v := ?v5) rfl rfl (by kernel_rfl) (by kernel_rfl) (by kernel_rfl) (fun _ _ _ h => h) (Or.inl ⟨by rfl, ?hw5⟩) hS1 ?q5
    case hw5 => (intro w hSw; have s0 := hSw; go_simp; try with_reducible rfl)
    simp only [Act.put, List.setIfInBounds_toArray, List.set_cons_zero, List.set_cons_succ]
    refine Tw.takeD (i := 6) (d := 33) (v := ?v6) rfl rfl (by kernel_rfl) (by kernel_rfl) (by kernel_rfl) (fun _ _ _ h => h) (Or.inl ⟨by rfl, ?hw6⟩) hS1 ?q6
    case hw6 => (intro w hSw; have s0 := hSw; go_simp; try with_reducible rfl)
    simp only [Act.put, List.setIfInBounds_toArray, List.set_cons_zero, List.set_cons_succ]
    refine wpAnyH_ready (rs := [5, 11]) (by kernel_rfl) (by simp) (AllReadyH.cons rfl (fun K hK => ?_) (AllReadyH.cons rfl (fun K hK => ?_) AllReadyH.nil))
    · rw [if_pos (by rfl)]
      go_simp
      refine (HKY.out _ (Since.refl _)).mono ?_
      rintro e a1 ⟨rfl, h_a1⟩
      simp only []
      have SA1 : Hid (Since w.drew a1) := h_a1
      clear h_a1
      refine hK.out _ _ (HSS.out _ SA1.out) (fun _ => ?_)
      clear hK K
      (try simp only [Act.put, List.setIfInBounds_toArray, List.set_cons_zero, List.set_cons_succ])
      refine wpAnyH_ready (rs := [7, 11]) (by kernel_rfl) (by simp) (AllReadyH.cons rfl (fun K hK => ?_) (AllReadyH.cons rfl (fun K hK => ?_) AllReadyH.nil))
      · rw [if_pos (by rfl)]
        go_simp
        refine (HPA.out _ SA1.out).mono ?_
        rintro e a2 ⟨⟨U, er, rfl, hU⟩, h_a2⟩
        simp only []
        have SA2 : Hid (Since w.drew a2) := SA1.out.trans h_a2
        have HU : Hid _ := hU
        clear h_a2 hU
        refine hK.out _ _ (HSS.out _ SA2.out) (fun _ => ?_)
        clear hK K
        (try simp only [Act.put, List.setIfInBounds_toArray, List.set_cons_zero, List.set_cons_succ])
        have hS2 := HSS.out _ SA2.out
        refine Tw.takeD (i := 8) (d := 26) (v := ?v9) rfl rfl (by kernel_rfl) (by kernel_rfl) (by kernel_rfl) (fun _ _ _ h => h) (Or.inl ⟨by rfl, ?hw9⟩) hS2 ?q9
        case hw9 => (intro w hSw; have s0 := hSw; go_simp; try with_reducible rfl)
        simp only [Act.put, List.setIfInBounds_toArray, List.set_cons_zero, List.set_cons_succ]
        refine Tw.takeD (i := 9) (d := 35) (v := ?v10) rfl rfl (by kernel_rfl) (by kernel_rfl) (by kernel_rfl) (fun _ _ _ h => h) (Or.inl ⟨by rfl, ?hw10⟩) hS2 ?q10
        case hw10 => (intro w hSw; have s0 := hSw; go_simp; try with_reducible rfl)
        simp only [Act.put, List.setIfInBounds_toArray, List.set_cons_zero, List.set_cons_succ]
        refine Tw.takeD (i := 10) (d := 36) (v := ?v11) rfl rfl (by kernel_rfl) (by kernel_rfl) (by kernel_rfl) (fun _ _ _ h => h) (Or.inl ⟨by rfl, ?hw11⟩) hS2 ?q11
        case hw11 => (intro w hSw; have s0 := hSw; go_simp; try with_reducible rfl)
        simp only [Act.put, List.setIfInBounds_toArray, List.set_cons_zero, List.set_cons_succ]
        refine wpAnyH_ready (rs := [11]) (by kernel_rfl) (by simp) (AllReadyH.cons rfl (fun K hK => ?_) AllReadyH.nil)
        rw [if_pos (by rfl)]
        go_simp
        refine hK.out _ _ (HSS.out _ (SA2.out.alloc _)) (fun _ => ?_)
        clear hK K
        (try simp only [Act.put, List.setIfInBounds_toArray, List.set_cons_zero, List.set_cons_succ])
        have HY9 : Ty (a2.alloc (.cells Tryz.zeroCells92 92)) a2.heap.size 92 := Ty.new _ _ _
        have HBT : w.heap.size ≤ a2.heap.size := SA2.out.size
        obtain ⟨hst, hC9⟩ := Tw.tab_stored (Tw.zeroTab_cel a2 a2.heap.size rfl) U
        have HC9 : Hid (Cel ((a2.alloc (.cells Tryz.zeroCells92 92)).setCells a2.heap.size 0 (brow 73 (tcell U))) a2.heap.size 73 (tcell U)) := hC9
        have HS9 : Hid (Since w.drew ((a2.alloc (.cells Tryz.zeroCells92 92)).setCells a2.heap.size 0 (brow 73 (tcell U)))) := Since.setCells (SA2.out.alloc _) (HBT) _ _
        have HYU : Hid (Ty ((a2.alloc (.cells Tryz.zeroCells92 92)).setCells a2.heap.size 0 (brow 73 (tcell U))) a2.heap.size 92) := Ty.setCells _ _ _ _ HY9
        clear hC9
        have hL9 := Tw.ln73 U
        generalize hcs9 : brow 73 (tcell U) = cs9 at *
        clear hcs9
        refine wpAnyH_ready (rs := [12]) (by kernel_rfl) (by simp) (AllReadyH.cons rfl (fun K hK => ?_) AllReadyH.nil)
        rw [if_pos (by rfl)]
        go_simp
        refine hK.out _ _ (HSS.out _ HS9.out) (fun _ => ?_)
        clear hK K
        (try simp only [Act.put, List.setIfInBounds_toArray, List.set_cons_zero, List.set_cons_succ])
        have hS9 := HSS.out _ HS9.out
        refine Tw.takeD (i := 13) (d := 8) (v := ?v14) rfl rfl (by kernel_rfl) (by kernel_rfl) (by kernel_rfl) (fun _ _ _ h => h) (Or.inl ⟨by rfl, ?hw14⟩) hS9 ?q14
        case hw14 => (intro w hSw; have s0 := hSw; go_simp; try with_reducible rfl)
        simp only [Act.put, List.setIfInBounds_toArray, List.set_cons_zero, List.set_cons_succ]
        refine wpAnyH_done (by kernel_rfl) ?_ _
        go_wp2_with fail
        go_meet
        case rel => exact ⟨a2.heap.size, U, er, rfl, rfl, HU.out, HC9.out, HYU.out, HBT, (Since.refl w).drew.trans HS9.out⟩
      · rw [if_pos (by rfl)]
        go_simp
        refine hK.out _ _ (HSS.out _ (SA1.out.alloc _)) (fun _ => ?_)
        clear hK K
        (try simp only [Act.put, List.setIfInBounds_toArray, List.set_cons_zero, List.set_cons_succ])
        have HZ1 : Hid (Cel (a1.alloc (.cells Tryz.zeroCells92 92)) a1.heap.size 73 (tcell Tb.zero)) := Tw.zeroTab_cel a1 a1.heap.size rfl
        have HY1 : Hid (Ty (a1.alloc (.cells Tryz.zeroCells92 92)) a1.heap.size 92) := Ty.new _ _ _
        refine wpAnyH_ready (rs := [7]) (by kernel_rfl) (by simp) (AllReadyH.cons rfl (fun K hK => ?_) AllReadyH.nil)
        rw [if_pos (by rfl)]
        go_simp
        refine (HPA.out _ (SA1.out.alloc _)).mono ?_
        rintro e a2 ⟨⟨U, er, rfl, hU⟩, h_a2⟩
        simp only []
        have SA2 : Hid (Since w.drew a2) := (SA1.out.alloc _).trans h_a2
        have HU : Hid _ := hU
        have HZ2 : Hid (Cel a2 a1.heap.size 73 (tcell Tb.zero)) := HZ1.out.since h_a2
        have HY9 : Ty a2 a1.heap.size 92 := HY1.out.since h_a2
        clear h_a2 hU
        refine hK.out _ _ (HSS.out _ SA2.out) (fun _ => ?_)
        clear hK K
        (try simp only [Act.put, List.setIfInBounds_toArray, List.set_cons_zero, List.set_cons_succ])
        have hS2 := HSS.out _ SA2.out
        refine Tw.takeD (i := 8) (d := 26) (v := ?v18) rfl rfl (by kernel_rfl) (by kernel_rfl) (by kernel_rfl) (fun _ _ _ h => h) (Or.inl ⟨by rfl, ?hw18⟩) hS2 ?q18
        case hw18 => (intro w hSw; have s0 := hSw; go_simp; try with_reducible rfl)
        simp only [Act.put, List.setIfInBounds_toArray, List.set_cons_zero, List.set_cons_succ]
        refine Tw.takeD (i := 9) (d := 35) (v := ?v19) rfl rfl (by kernel_rfl) (by kernel_rfl) (by kernel_rfl) (fun _ _ _ h => h) (Or.inl ⟨by rfl, ?hw19⟩) hS2 ?q19
        case hw19 => (intro w hSw; have s0 := hSw; go_simp; try with_reducible rfl)
        simp only [Act.put, List.setIfInBounds_toArray, List.set_cons_zero, List.set_cons_succ]
        refine Tw.takeD (i := 10) (d := 36) (v := ?v20) rfl rfl (by kernel_rfl) (by kernel_rfl) (by kernel_rfl) (fun _ _ _ h => h) (Or.inl ⟨by rfl, ?hw20⟩) hS2 ?q20
        case hw20 => (intro w hSw; have s0 := hSw; go_simp; try with_reducible rfl)
        simp only [Act.put, List.setIfInBounds_toArray, List.set_cons_zero, List.set_cons_succ]
        have HBT : w.heap.size ≤ a1.heap.size := SA1.out.size
        obtain ⟨hst, hC9⟩ := Tw.tab_stored (HZ2.out) U
        have HC9 : Hid (Cel ((a2).setCells a1.heap.size 0 (brow 73 (tcell U))) a1.heap.size 73 (tcell U)) := hC9
        have HS9 : Hid (Since w.drew ((a2).setCells a1.heap.size 0 (brow 73 (tcell U)))) := Since.setCells (SA2.out) (HBT) _ _
        have HYU : Hid (Ty ((a2).setCells a1.heap.size 0 (brow 73 (tcell U))) a1.heap.size 92) := Ty.setCells _ _ _ _ HY9
        clear hC9
        have hL9 := Tw.ln73 U
        generalize hcs9 : brow 73 (tcell U) = cs9 at *
        clear hcs9
        refine wpAnyH_ready (rs := [12]) (by kernel_rfl) (by simp) (AllReadyH.cons rfl (fun K hK => ?_) AllReadyH.nil)
        rw [if_pos (by rfl)]
        go_simp
        refine hK.out _ _ (HSS.out _ HS9.out) (fun _ => ?_)
        clear hK K
        (try simp only [Act.put, List.setIfInBounds_toArray, List.set_cons_zero, List.set_cons_succ])
        have hS9 := HSS.out _ HS9.out
        refine Tw.takeD (i := 13) (d := 8) (v := ?v22) rfl rfl (by kernel_rfl) (by kernel_rfl) (by kernel_rfl) (fun _ _ _ h => h) (Or.inl ⟨by rfl, ?hw22⟩) hS9 ?q22
        case hw22 => (intro w hSw; have s0 := hSw; go_simp; try with_reducible rfl)
        simp only [Act.put, List.setIfInBounds_toArray, List.set_cons_zero, List.set_cons_succ]
        refine wpAnyH_done (by kernel_rfl) ?_ _
        go_wp2_with fail
        go_meet
        case rel => exact ⟨a1.heap.size, U, er, rfl, rfl, HU.out, HC9.out, HYU.out, HBT, (Since.refl w).drew.trans HS9.out⟩
    · rw [if_pos (by rfl)]
      go_simp
      have SB0 : Hid (Since w.drew (w.drew.alloc (.cells Tryz.zeroCells92 92))) := (Since.refl _).alloc _
      refine hK.out _ _ (HSS.out _ SB0.out) (fun _ => ?_)
      clear hK K
      (try simp only [Act.put, List.setIfInBounds_toArray, List.set_cons_zero, List.set_cons_succ])
      have HZ1 : Hid (Cel (w.drew.alloc (.cells Tryz.zeroCells92 92)) w.heap.size 73 (tcell Tb.zero)) := Tw.zeroTab_cel w.drew w.heap.size rfl
      have HY1 : Hid (Ty (w.drew.alloc (.cells Tryz.zeroCells92 92)) w.heap.size 92) := Ty.new w.drew _ _
      refine wpAnyH_ready (rs := [5]) (by kernel_rfl) (by simp) (AllReadyH.cons rfl (fun K hK => ?_) AllReadyH.nil)
      rw [if_pos (by rfl)]
      go_simp
      refine (HKY.out _ SB0.out).mono ?_
      rintro e a1 ⟨rfl, h_a1⟩
      simp only []
      have SA1 : Hid (Since w.drew a1) := SB0.out.trans h_a1
      have HZ2 : Hid (Cel a1 w.heap.size 73 (tcell Tb.zero)) := HZ1.out.since h_a1
      have HY2 : Hid (Ty a1 w.heap.size 92) := HY1.out.since h_a1
      clear h_a1
      refine hK.out _ _ (HSS.out _ SA1.out) (fun _ => ?_)
      clear hK K
      (try simp only [Act.put, List.setIfInBounds_toArray, List.set_cons_zero, List.set_cons_succ])
      refine wpAnyH_ready (rs := [7]) (by kernel_rfl) (by simp) (AllReadyH.cons rfl (fun K hK => ?_) AllReadyH.nil)
      rw [if_pos (by rfl)]
      go_simp
      refine (HPA.out _ SA1.out).mono ?_
      rintro e a2 ⟨⟨U, er, rfl, hU⟩, h_a2⟩
      simp only []
      have SA2 : Hid (Since w.drew a2) := SA1.out.trans h_a2
      have HU : Hid _ := hU
      have HZ3 : Hid (Cel a2 w.heap.size 73 (tcell Tb.zero)) := HZ2.out.since h_a2
      have HY9 : Ty a2 w.heap.size 92 := HY2.out.since h_a2
      clear h_a2 hU
      refine hK.out _ _ (HSS.out _ SA2.out) (fun _ => ?_)
      clear hK K
      (try simp only [Act.put, List.setIfInBounds_toArray, List.set_cons_zero, List.set_cons_succ])
      have hS2 := HSS.out _ SA2.out
      refine Tw.takeD (i := 8) (d := 26) (v := ?v27) rfl rfl (by kernel_rfl) (by kernel_rfl) (by kernel_rfl) (fun _ _ _ h => h) (Or.inl ⟨by rfl, ?hw27⟩) hS2 ?q27
      case hw27 => (intro w hSw; have s0 := hSw; go_simp; try with_reducible rfl)
      simp only [Act.put, List.setIfInBounds_toArray, List.set_cons_zero, List.set_cons_succ]
      refine Tw.takeD (i := 9) (d := 35) (v := ?v28) rfl rfl (by kernel_rfl) (by kernel_rfl) (by kernel_rfl) (fun _ _ _ h => h) (Or.inl ⟨by rfl, ?hw28⟩) hS2 ?q28
      case hw28 => (intro w hSw; have s0 := hSw; go_simp; try with_reducible rfl)
      simp only [Act.put, List.setIfInBounds_toArray, List.set_cons_zero, List.set_cons_succ]
      refine Tw.takeD (i := 10) (d := 36) (v := ?v29) rfl rfl (by kernel_rfl) (by kernel_rfl) (by kernel_rfl) (fun _ _ _ h => h) (Or.inl ⟨by rfl, ?hw29⟩) hS2 ?q29
      case hw29 => (intro w hSw; have s0 := hSw; go_simp; try with_reducible rfl)
      simp only [Act.put, List.setIfInBounds_toArray, List.set_cons_zero, List.set_cons_succ]
      have HBT : w.heap.size ≤ w.heap.size := Nat.le_refl _
      obtain ⟨hst, hC9⟩ := Tw.tab_stored (HZ3.out) U
      have HC9 : Hid (Cel ((a2).setCells w.heap.size 0 (brow 73 (tcell U))) w.heap.size 73 (tcell U)) := hC9
      have HS9 : Hid (Since w.drew ((a2).setCells w.heap.size 0 (brow 73 (tcell U)))) := Since.setCells (SA2.out) (HBT) _ _
      have HYU : Hid (Ty ((a2).setCells w.heap.size 0 (brow 73 (tcell U))) w.heap.size 92) := Ty.setCells _ _ _ _ HY9
      clear hC9
      have hL9 := Tw.ln73 U
      generalize hcs9 : brow 73 (tcell U) = cs9 at *
      clear hcs9
      refine wpAnyH_ready (rs := [12]) (by kernel_rfl) (by simp) (AllReadyH.cons rfl (fun K hK => ?_) AllReadyH.nil)
      rw [if_pos (by rfl)]
      go_simp
      refine hK.out _ _ (HSS.out _ HS9.out) (fun _ => ?_)
      clear hK K
      (try simp only [Act.put, List.setIfInBounds_toArray, List.set_cons_zero, List.set_cons_succ])
      have hS9 := HSS.out _ HS9.out
      refine Tw.takeD (i := 13) (d := 8) (v := ?v31) rfl rfl (by kernel_rfl) (by kernel_rfl) (by kernel_rfl) (fun _ _ _ h => h) (Or.inl ⟨by rfl, ?hw31⟩) hS9 ?q31
      case hw31 => (intro w hSw; have s0 := hSw; go_simp; try with_reducible rfl)
      simp only [Act.put, List.setIfInBounds_toArray, List.set_cons_zero, List.set_cons_succ]
      refine wpAnyH_done (by kernel_rfl) ?_ _
      go_wp2_with fail
      go_meet
      case rel => exact ⟨w.heap.size, U, er, rfl, rfl, HU.out, HC9.out, HYU.out, HBT, (Since.refl w).drew.trans HS9.out⟩
  case rest =>
  obtain ⟨bt, U, er, rfl, rfl, hU, hCU, hYU, hbt, hsU⟩ := hcut
  have HSW : Hid (Since w wc) := hsU
  rcases hU with ⟨hist, rfl, rfl⟩ | ⟨hist, rfl, rfl⟩
  · have HIST : Hid (isTab kt sl) := hist
    have HCU : Hid (Cel wc bt 73 (tcell U)) := hCU
    have HYU : Hid (Ty wc bt 92) := hYU
    have HBT : Hid (w.heap.size ≤ bt ∧ bt < wc.heap.size) := ⟨hbt, hCU.lt (by omega)⟩
    have c0 : wc.cell? ⟨bt, 0, none⟩ = some (.int .i64 U.count) := hCU.cell 0 (by omega)
    clear hist hCU hYU hbt hsU HPA HKY HSS
    by_cases hc : U.count = n
    · have HCN : Hid (U.count = n) := hc
      rw [hc] at c0
      clear hc
      have hR3 : (wc.alloc (.cells z24 93)).rangeAt bt 1 (brow 72 (ccell U)) := rangeSince (Tw.tab_cells HCU.out) ((Since.refl _).alloc _)
      have HX1 : Hid (Cel (wc.alloc (.cells z24 93)) wc.heap.size 24 (xcell (saysTo kb S.D U 0))) := (z24_cel _ _ rfl).congr (fun j hj => by unfold xcell saysTo; rw [if_neg (by omega)])
      have HC1 : Hid (Cel (wc.alloc (.cells z24 93)) bt 73 (tcell U)) := HCU.out.since ((Since.refl _).alloc _)
      have HS1 : Hid (Since w (wc.alloc (.cells z24 93))) := HSW.out.alloc _
      have hL : (brow 72 (ccell U)).length = 72 := brow_length _ _
      have HIX : Hid (∀ (k : Nat) (hk : k < 24) (w : World), (Instr.index 90 (.agg (brow 72 (ccell U)).toArray) (.int .i64 (k : Int))).run Tryz.prog w = .ok (.agg #[.int .i64 (U.zone k), .int .i64 (U.off k), .string (U.tag k)]) w) := fun k hk w => Tw.idx_cell U k hk w
      generalize hcs : brow 72 (ccell U) = cs at *
      clear hcs
      have hz24 : z24 = #[.string ⟨#[]⟩, .string ⟨#[]⟩, .string ⟨#[]⟩, .string ⟨#[]⟩, .string ⟨#[]⟩, .string ⟨#[]⟩, .string ⟨#[]⟩, .string ⟨#[]⟩, .string ⟨#[]⟩, .string ⟨#[]⟩, .string ⟨#[]⟩, .string ⟨#[]⟩, .string ⟨#[]⟩, .string ⟨#[]⟩, .string ⟨#[]⟩, .string ⟨#[]⟩, .string ⟨#[]⟩, .string ⟨#[]⟩, .string ⟨#[]⟩, .string ⟨#[]⟩, .string ⟨#[]⟩, .string ⟨#[]⟩, .string ⟨#[]⟩, .string ⟨#[]⟩] := rfl
      rw [hz24] at HX1 hR3 HC1 HS1
      go_wp2_with (refine wpList_load_mid (by rfl) 90 _ (by rfl) bt 1 (by rfl) _ _ hR3 Tryz.underlying90 (by rfl) (by rw [hL]; kernel_rfl) ?_)
      rw [← hz24] at HX1 hR3 HC1 HS1
      rw [← hz24]
      clear hR3 hL hz24 c0
      generalize wc.alloc (.cells z24 93) = w1 at *
      go_loopw [47, 10, 11, 12, 13, 14, 15] (fun i _ _ _ _ _ _ wr => ∃ k : Nat, k ≤ 24 ∧ i = .int .i64 k ∧ (∀ i, i < k → there kb S.D U i) ∧ Cel wr bt 73 (tcell U) ∧ Cel wr wc.heap.size 24 (xcell (saysTo kb S.D U k)) ∧ Since w wr) (fun i _ _ _ _ _ _ _ => 24 - (intOf i).toNat)
      case atStart => exact ⟨0, by omega, rfl, fun i hi => by omega, HC1.out, HX1.out, HS1.out⟩
      case round =>
        clear HX1 HC1 HS1
        obtain ⟨k, hk, rfl, hth, hr1, hx1, hs1⟩ := hrel
        have HTH : Hid (∀ i, i < k → there kb S.D U i) := hth
        have HR : Hid (Cel wr bt 73 (tcell U)) := hr1
        have HX : Hid (Cel wr wc.heap.size 24 (xcell (saysTo kb S.D U k))) := hx1
        have HS : Hid (Since w wr) := hs1
        clear hth hr1 hx1 hs1
        by_cases hlt : k < 24
        · have hlt2 : (k : Int) < 24 := by omega
          have hix := HIX.out k hlt
          by_cases te : U.tag k = ⟨#[]⟩
          · have HTE : Hid (U.tag k = ⟨#[]⟩) := te
            rw [te] at hix
            clear te
            go_wp2_with fail
            go_roundw
            case rel =>
              refine ⟨k + 1, by omega, by go_num, fun i hi => ?_, HR.out.since ((Since.refl _).alloc _), (HX.out.congr (fun j _ => says_skip kb S.D U k HTE.out j)).since ((Since.refl _).alloc _), HS.out.alloc _⟩
              by_cases e : i = k
              · subst e; exact Or.inl HTE.out
              · exact HTH.out i (by omega)
            case measure => simp [intOf]; omega
          · obtain ⟨g1, g2⟩ := ne_nil te
            have HTE : Hid (¬ U.tag k = ⟨#[]⟩) := te
            clear te
            go_wp2_with fail
            have HC2 : Hid (Cel (wr.alloc (.cells #[.int .i64 (U.zone k), .int .i64 (U.off k), .string (U.tag k)] 89)) wr.heap.size 3 (fun j => if j = 0 then .int .i64 (U.zone k) else if j = 1 then .int .i64 (U.off k) else .string (U.tag k))) := Cel.new wr _ _ _ _ (fun j hj => by
              match j, hj with
              | 0, _ => rfl
              | 1, _ => rfl
              | 2, _ => rfl) _ rfl
            have HS2 : Hid (Since wr (wr.alloc (.cells #[.int .i64 (U.zone k), .int .i64 (U.off k), .string (U.tag k)] 89)).drew) := ((Since.refl wr).alloc _).drew
            generalize hw2 : wr.alloc (.cells #[.int .i64 (U.zone k), .int .i64 (U.off k), .string (U.tag k)] 89) = w2 at *
            clear hw2
            have HC3 : Hid (Cel w2.drew wr.heap.size 3 (fun j => if j = 0 then .int .i64 (U.zone k) else if j = 1 then .int .i64 (U.off k) else .string (U.tag k))) := HC2.out.since (Since.refl _).drew
            have H3 : Hid (RVol w0 w2.drew N rv Rb rd rc s S) := H.out.go (HS.out.trans HS2.out)
            have hS3 : (fun W : World => W.cell? ⟨rv, 1, none⟩ = some (.pointer (some ⟨rd, 0, none⟩)) ∧ W.cell? ⟨wr.heap.size, 0, none⟩ = some (.int .i64 (U.zone k)) ∧ W.cell? ⟨wr.heap.size, 1, none⟩ = some (.int .i64 (U.off k))) w2.drew := ⟨H3.out.c1, HC3.out.cell 0 (by omega), HC3.out.cell 1 (by omega)⟩
            refine wp_region_held (S := fun W : World => W.cell? ⟨rv, 1, none⟩ = some (.pointer (some ⟨rd, 0, none⟩)) ∧ W.cell? ⟨wr.heap.size, 0, none⟩ = some (.int .i64 (U.zone k)) ∧ W.cell? ⟨wr.heap.size, 1, none⟩ = some (.int .i64 (U.off k))) (by kernel_rfl) ?_
            refine Tw.takeD (i := 0) (d := 55) (v := ?v33) rfl rfl (by kernel_rfl) (by kernel_rfl) (by kernel_rfl) (fun _ _ _ h => h) (Or.inl ⟨by rfl, ?hw33⟩) hS3 ?q33
            case hw33 => (intro w hSw; obtain ⟨s0, s1, s2⟩ := hSw; go_simp; try with_reducible rfl)
            simp only [Act.put, List.setIfInBounds_toArray, List.set_cons_zero, List.set_cons_succ]
            refine Tw.takeD (i := 1) (d := 56) (v := ?v34) rfl rfl (by kernel_rfl) (by kernel_rfl) (by kernel_rfl) (fun _ _ _ h => h) (Or.inl ⟨by rfl, ?hw34⟩) hS3 ?q34
            case hw34 => (intro w hSw; obtain ⟨s0, s1, s2⟩ := hSw; go_simp; try with_reducible rfl)
            simp only [Act.put, List.setIfInBounds_toArray, List.set_cons_zero, List.set_cons_succ]
            refine Tw.takeD (i := 2) (d := 57) (v := ?v35) rfl rfl (by kernel_rfl) (by kernel_rfl) (by kernel_rfl) (fun _ _ _ h => h) (Or.inl ⟨by rfl, ?hw35⟩) hS3 ?q35
            case hw35 => (intro w hSw; obtain ⟨s0, s1, s2⟩ := hSw; go_simp; try with_reducible rfl)
            simp only [Act.put, List.setIfInBounds_toArray, List.set_cons_zero, List.set_cons_succ]
            refine Tw.takeD (i := 3) (d := 58) (v := ?v36) rfl rfl (by kernel_rfl) (by kernel_rfl) (by kernel_rfl) (fun _ _ _ h => h) (Or.inl ⟨by rfl, ?hw36⟩) hS3 ?q36
            case hw36 => (intro w hSw; obtain ⟨s0, s1, s2⟩ := hSw; go_simp; try with_reducible rfl)
            simp only [Act.put, List.setIfInBounds_toArray, List.set_cons_zero, List.set_cons_succ]
            refine Tw.takeD (i := 4) (d := 59) (v := ?v37) rfl rfl (by kernel_rfl) (by kernel_rfl) (by kernel_rfl) (fun _ _ _ h => h) (Or.inl ⟨by rfl, ?hw37⟩) hS3 ?q37
            case hw37 => (intro w hSw; obtain ⟨s0, s1, s2⟩ := hSw; go_simp; try with_reducible rfl)
            simp only [Act.put, List.setIfInBounds_toArray, List.set_cons_zero, List.set_cons_succ]
            refine Tw.takeD (i := 5) (d := 60) (v := ?v38) rfl rfl (by kernel_rfl) (by kernel_rfl) (by kernel_rfl) (fun _ _ _ h => h) (Or.inl ⟨by rfl, ?hw38⟩) hS3 ?q38
            case hw38 => (intro w hSw; obtain ⟨s0, s1, s2⟩ := hSw; go_simp; try with_reducible rfl)
            simp only [Act.put, List.setIfInBounds_toArray, List.set_cons_zero, List.set_cons_succ]
            refine Tw.takeD (i := 6) (d := 61) (v := ?v39) rfl rfl (by kernel_rfl) (by kernel_rfl) (by kernel_rfl) (fun _ _ _ h => h) (Or.inl ⟨by rfl, ?hw39⟩) hS3 ?q39
            case hw39 => (intro w hSw; obtain ⟨s0, s1, s2⟩ := hSw; go_simp; try with_reducible rfl)
            simp only [Act.put, List.setIfInBounds_toArray, List.set_cons_zero, List.set_cons_succ]
            refine Tw.takeD (i := 7) (d := 62) (v := ?v40) rfl rfl (by kernel_rfl) (by kernel_rfl) (by kernel_rfl) (fun _ _ _ h => h) (Or.inl ⟨by rfl, ?hw40⟩) hS3 ?q40
            case hw40 => (intro w hSw; obtain ⟨s0, s1, s2⟩ := hSw; go_simp; try with_reducible rfl)
            simp only [Act.put, List.setIfInBounds_toArray, List.set_cons_zero, List.set_cons_succ]
            refine wpAnyH_ready (rs := [8]) (by kernel_rfl) (by simp) (AllReadyH.cons rfl (fun K hK => ?_) AllReadyH.nil)
            rw [if_pos (by rfl)]
            go_simp
            refine (rreadD_any (U.zone k) (U.off k) HOK.out H3.out).mono ?_
            rintro e w3 ⟨rfl, hw3⟩
            rw [hw3]
            clear hw3 w3
            simp only []
            refine hK.out _ _ hS3 (fun _ => ?_)
            clear hK K
            (try simp only [Act.put, List.setIfInBounds_toArray, List.set_cons_zero, List.set_cons_succ])
            refine Tw.takeD (i := 9) (d := 54) (v := ?v43) rfl rfl (by kernel_rfl) (by kernel_rfl) (by kernel_rfl) (fun _ _ _ h => h) (Or.inl ⟨by rfl, ?hw43⟩) hS3 ?q43
            case hw43 => (intro w hSw; obtain ⟨s0, s1, s2⟩ := hSw; go_simp; try with_reducible rfl)
            simp only [Act.put, List.setIfInBounds_toArray, List.set_cons_zero, List.set_cons_succ]
            refine Tw.takeD (i := 10) (d := 64) (v := ?v44) rfl rfl (by kernel_rfl) (by kernel_rfl) (by kernel_rfl) (fun _ _ _ h => h) (Or.inl ⟨by rfl, ?hw44⟩) hS3 ?q44
            case hw44 => (intro w hSw; obtain ⟨s0, s1, s2⟩ := hSw; go_simp; try with_reducible rfl)
            simp only [Act.put, List.setIfInBounds_toArray, List.set_cons_zero, List.set_cons_succ]
            refine Tw.takeD (i := 11) (d := 65) (v := ?v45) rfl rfl (by kernel_rfl) (by kernel_rfl) (by kernel_rfl) (fun _ _ _ h => h) (Or.inl ⟨by rfl, ?hw45⟩) hS3 ?q45
            case hw45 => (intro w hSw; obtain ⟨s0, s1, s2⟩ := hSw; go_simp; try with_reducible rfl)
            simp only [Act.put, List.setIfInBounds_toArray, List.set_cons_zero, List.set_cons_succ]
            refine Tw.takeD (i := 12) (d := 12) (v := ?v46) rfl rfl (by kernel_rfl) (by kernel_rfl) (by kernel_rfl) (fun _ _ _ h => h) (Or.inl ⟨by rfl, ?hw46⟩) hS3 ?q46
            case hw46 => (intro w hSw; obtain ⟨s0, s1, s2⟩ := hSw; go_simp; try with_reducible rfl)
            simp only [Act.put, List.setIfInBounds_toArray, List.set_cons_zero, List.set_cons_succ]
            refine Tw.takeD (i := 13) (d := 13) (v := ?v47) rfl rfl (by kernel_rfl) (by kernel_rfl) (by kernel_rfl) (fun _ _ _ h => h) (Or.inl ⟨by rfl, ?hw47⟩) hS3 ?q47
            case hw47 => (intro w hSw; obtain ⟨s0, s1, s2⟩ := hSw; go_simp; try with_reducible rfl)
            simp only [Act.put, List.setIfInBounds_toArray, List.set_cons_zero, List.set_cons_succ]
            refine wpAnyH_done (by kernel_rfl) ?_ _
            clear hS3 g1 g2 hix HC2
            have HS3 : Hid (Since w w2.drew) := HS.out.trans HS2.out
            have HR3 : Hid (Cel w2.drew bt 73 (tcell U)) := HR.out.since HS2.out
            have HX3 : Hid (Cel w2.drew wc.heap.size 24 (xcell (saysTo kb S.D U k))) := HX.out.since HS2.out
            clear HS HR HX HS2
            generalize w2.drew = w3 at *
            by_cases hz : 0 ≤ U.zone k ∧ U.zone k < 8 ∧ 0 ≤ U.off k ∧ U.off k < S.D.cnt (U.zone k).toNat
            · have e1 : rdB S.D (U.zone k) (U.off k) = (blkOf S.D (U.zone k) (U.off k), 0) := by
                unfold rdB
                rw [if_neg (fun q => q ⟨hz.1, hz.2.1⟩), if_neg (fun q => q ⟨hz.2.2.1, hz.2.2.2⟩)]
              rw [e1]
              have HZ : Hid (0 ≤ U.zone k ∧ U.zone k < 8 ∧ 0 ≤ U.off k ∧ U.off k < S.D.cnt (U.zone k).toNat) := hz
              have HBS : Hid ((blkOf S.D (U.zone k) (U.off k)).size = 128) := txt_size _ _
              have HTHK : Hid (there kb S.D U k ↔ ((blkOf S.D (U.zone k) (U.off k)).extract 0 16 = Sl.tagOf kb k (blkOf S.D (U.zone k) (U.off k)) ∧ (blkOf S.D (U.zone k) (U.off k)).extract 0 16 = U.tag k)) := by
                constructor
                · rintro (q | q)
                  · exact absurd q HTE.out
                  · exact q.2
                · exact fun q => Or.inr ⟨HZ.out, q⟩
              have HSX : Hid (∀ j, updv (xcell (saysTo kb S.D U k)) k (.string (Sl.textOf kb (blkOf S.D (U.zone k) (U.off k)))) j = xcell (saysTo kb S.D U (k + 1)) j) := fun j => says_set kb S.D U k _ (by rw [if_neg HTE.out]) j
              clear hz e1
              generalize hbb : blkOf S.D (U.zone k) (U.off k) = bb at *
              clear hbb
              go_wp2_with fail
              have H4 : Hid (RVol w0 w3.drew N rv Rb rd rc s S) := H3.out.go (Since.refl _).drew
              have HC4 : Hid (Cel w3.drew wr.heap.size 3 (fun j => if j = 0 then .int .i64 (U.zone k) else if j = 1 then .int .i64 (U.off k) else .string (U.tag k))) := HC3.out.since (Since.refl _).drew
              have HS4 : Hid (Since w w3.drew) := HS3.out.drew
              have HR4 : Hid (Cel w3.drew bt 73 (tcell U)) := HR3.out.since (Since.refl _).drew
              have HX4 : Hid (Cel w3.drew wc.heap.size 24 (xcell (saysTo kb S.D U k))) := HX3.out.since (Since.refl _).drew
              clear H3 HC3 HS3 HR3 HX3
              have hS4 : (fun W : World => W.cell? ⟨rv, 0, none⟩ = some (.pointer (some ⟨Rb, 0, none⟩))) w3.drew := H4.out.c0
              refine wp_region_held (S := fun W : World => W.cell? ⟨rv, 0, none⟩ = some (.pointer (some ⟨Rb, 0, none⟩))) (by kernel_rfl) ?_
              refine Tw.takeD (i := 0) (d := 69) (v := ?v49) rfl rfl (by kernel_rfl) (by kernel_rfl) (by kernel_rfl) (fun _ _ _ h => h) (Or.inl ⟨by rfl, ?hw49⟩) hS4 ?q49
              case hw49 => (intro w hSw; have s0 := hSw; go_simp; try with_reducible rfl)
              simp only [Act.put, List.setIfInBounds_toArray, List.set_cons_zero, List.set_cons_succ]
              refine Tw.takeD (i := 1) (d := 70) (v := ?v50) rfl rfl (by kernel_rfl) (by kernel_rfl) (by kernel_rfl) (fun _ _ _ h => h) (Or.inl ⟨by rfl, ?hw50⟩) hS4 ?q50
              case hw50 => (intro w hSw; have s0 := hSw; go_simp; try with_reducible rfl)
              simp only [Act.put, List.setIfInBounds_toArray, List.set_cons_zero, List.set_cons_succ]
              refine Tw.takeD (i := 2) (d := 71) (v := ?v51) rfl rfl (by kernel_rfl) (by kernel_rfl) (by kernel_rfl) (fun _ _ _ h => h) (Or.inl ⟨by rfl, ?hw51⟩) hS4 ?q51
              case hw51 => (intro w hSw; have s0 := hSw; go_simp; try with_reducible rfl)
              simp only [Act.put, List.setIfInBounds_toArray, List.set_cons_zero, List.set_cons_succ]
              refine Tw.takeD (i := 3) (d := 72) (v := ?v52) rfl rfl (by kernel_rfl) (by kernel_rfl) (by kernel_rfl) (fun _ _ _ h => h) (Or.inl ⟨by rfl, ?hw52⟩) hS4 ?q52
              case hw52 => (intro w hSw; have s0 := hSw; go_simp; try with_reducible rfl)
              simp only [Act.put, List.setIfInBounds_toArray, List.set_cons_zero, List.set_cons_succ]
              refine Tw.takeD (i := 4) (d := 73) (v := ?v53) rfl rfl (by kernel_rfl) (by kernel_rfl) (by kernel_rfl) (fun _ _ _ h => h) (Or.inl ⟨by rfl, ?hw53⟩) hS4 ?q53
              case hw53 => (intro w hSw; have s0 := hSw; go_simp; try with_reducible rfl)
              simp only [Act.put, List.setIfInBounds_toArray, List.set_cons_zero, List.set_cons_succ]
              refine Tw.takeD (i := 6) (d := 75) (v := ?v54) rfl rfl (by kernel_rfl) (by kernel_rfl) (by kernel_rfl) (fun _ _ _ h => h) (Or.inl ⟨by rfl, ?hw54⟩) hS4 ?q54
              case hw54 => (intro w hSw; have s0 := hSw; go_simp; try with_reducible rfl)
              simp only [Act.put, List.setIfInBounds_toArray, List.set_cons_zero, List.set_cons_succ]
              refine Tw.takeD (i := 7) (d := 76) (v := ?v55) rfl rfl (by kernel_rfl) (by kernel_rfl) (by kernel_rfl) (fun _ _ _ h => h) (Or.inl ⟨by rfl, ?hw55⟩) hS4 ?q55
              case hw55 => (intro w hSw; have s0 := hSw; go_simp; try with_reducible rfl)
              simp only [Act.put, List.setIfInBounds_toArray, List.set_cons_zero, List.set_cons_succ]
              refine wpAnyH_ready (rs := [5]) (by kernel_rfl) (by simp) (AllReadyH.cons rfl (fun K hK => ?_) AllReadyH.nil)
              rw [if_pos (by rfl)]
              go_simp
              refine (key_any kb 98 HB.out.keyb H4.out).mono ?_
              rintro e w5 ⟨rfl, h5⟩
              simp only []
              have H5 : Hid (RVol w0 w5 N rv Rb rd rc s S) := H4.out.go h5
              have HC5 : Hid (Cel w5 wr.heap.size 3 (fun j => if j = 0 then .int .i64 (U.zone k) else if j = 1 then .int .i64 (U.off k) else .string (U.tag k))) := HC4.out.since h5
              have HS5 : Hid (Since w w5) := HS4.out.trans h5
              have HR5 : Hid (Cel w5 bt 73 (tcell U)) := HR4.out.since h5
              have HX5 : Hid (Cel w5 wc.heap.size 24 (xcell (saysTo kb S.D U k))) := HX4.out.since h5
              have hS5 : (fun W : World => W.cell? ⟨rv, 0, none⟩ = some (.pointer (some ⟨Rb, 0, none⟩))) w5 := H5.out.c0
              clear h5
              refine hK.out _ _ hS5 (fun _ => ?_)
              clear hK K
              (try simp only [Act.put, List.setIfInBounds_toArray, List.set_cons_zero, List.set_cons_succ])
              have HUN : Hid (∀ W, Sm.Arr W Rb 0 8 Sm.H0.fn → Sm.Arr W Rb 8 64 Sm.kn → Calls Tryz.prog 74 #[.pointer (some ⟨Rb, 0, none⟩), .string kb, .int .i64 (k : Int), .string bb] W fun e w' => (∃ tg tx er, e = .returned (.tuple #[.string tg, .string tx, .int .i64 er]) ∧ ((bb.extract 0 16 = Sl.tagOf kb k bb ∧ tg = bb.extract 0 16 ∧ tx = Sl.textOf kb bb ∧ er = 0) ∨ (¬ bb.extract 0 16 = Sl.tagOf kb k bb ∧ er = 15))) ∧ Since W w') := fun W h1 h2 => by
                by_cases hg : bb.extract 0 16 = Sl.tagOf kb k bb
                · refine (Sl.runseal_ok HB.out.sum Rb kb k bb W HB.out.kb (by have := HBS.out; omega) (by have := HBS.out; omega) hg h1 h2).mono ?_
                  rintro e w' ⟨rfl, h⟩
                  exact ⟨⟨_, _, _, rfl, Or.inl ⟨hg, rfl, rfl, rfl⟩⟩, h⟩
                · refine (Sl.runseal_bad HB.out.sum Rb kb k bb W HB.out.kb (by have := HBS.out; omega) (by have := HBS.out; omega) hg h1 h2).mono ?_
                  rintro e w' ⟨rfl, h⟩
                  exact ⟨⟨_, _, _, rfl, Or.inr ⟨hg, rfl⟩⟩, h⟩
              refine wpAnyH_ready (rs := [8]) (by kernel_rfl) (by simp) (AllReadyH.cons rfl (fun K hK => ?_) AllReadyH.nil)
              rw [if_pos (by rfl)]
              go_simp
              refine (HUN.out _ H5.out.hh.1 H5.out.hh.2).mono ?_
              rintro e w6 ⟨⟨tg, tx, er6, rfl, hor6⟩, h6⟩
              simp only []
              have H6 : Hid (RVol w0 w6 N rv Rb rd rc s S) := H5.out.go h6
              have HC6 : Hid (Cel w6 wr.heap.size 3 (fun j => if j = 0 then .int .i64 (U.zone k) else if j = 1 then .int .i64 (U.off k) else .string (U.tag k))) := HC5.out.since h6
              have HS6 : Hid (Since w w6) := HS5.out.trans h6
              have HR6 : Hid (Cel w6 bt 73 (tcell U)) := HR5.out.since h6
              have HX6 : Hid (Cel w6 wc.heap.size 24 (xcell (saysTo kb S.D U k))) := HX5.out.since h6
              have HOR6 : Hid _ := hor6
              have hS6 : (fun W : World => W.cell? ⟨rv, 0, none⟩ = some (.pointer (some ⟨Rb, 0, none⟩))) w6 := H6.out.c0
              clear h6 hor6 HUN
              refine hK.out _ _ hS6 (fun _ => ?_)
              clear hK K
              (try simp only [Act.put, List.setIfInBounds_toArray, List.set_cons_zero, List.set_cons_succ])
              refine Tw.takeD (i := 9) (d := 68) (v := ?v60) rfl rfl (by kernel_rfl) (by kernel_rfl) (by kernel_rfl) (fun _ _ _ h => h) (Or.inl ⟨by rfl, ?hw60⟩) hS6 ?q60
              case hw60 => (intro w hSw; have s0 := hSw; go_simp; try with_reducible rfl)
              simp only [Act.put, List.setIfInBounds_toArray, List.set_cons_zero, List.set_cons_succ]
              refine Tw.takeD (i := 10) (d := 78) (v := ?v61) rfl rfl (by kernel_rfl) (by kernel_rfl) (by kernel_rfl) (fun _ _ _ h => h) (Or.inl ⟨by rfl, ?hw61⟩) hS6 ?q61
              case hw61 => (intro w hSw; have s0 := hSw; go_simp; try with_reducible rfl)
              simp only [Act.put, List.setIfInBounds_toArray, List.set_cons_zero, List.set_cons_succ]
              refine Tw.takeD (i := 11) (d := 79) (v := ?v62) rfl rfl (by kernel_rfl) (by kernel_rfl) (by kernel_rfl) (fun _ _ _ h => h) (Or.inl ⟨by rfl, ?hw62⟩) hS6 ?q62
              case hw62 => (intro w hSw; have s0 := hSw; go_simp; try with_reducible rfl)
              simp only [Act.put, List.setIfInBounds_toArray, List.set_cons_zero, List.set_cons_succ]
              refine Tw.takeD (i := 12) (d := 80) (v := ?v63) rfl rfl (by kernel_rfl) (by kernel_rfl) (by kernel_rfl) (fun _ _ _ h => h) (Or.inl ⟨by rfl, ?hw63⟩) hS6 ?q63
              case hw63 => (intro w hSw; have s0 := hSw; go_simp; try with_reducible rfl)
              simp only [Act.put, List.setIfInBounds_toArray, List.set_cons_zero, List.set_cons_succ]
              refine Tw.takeD (i := 13) (d := 14) (v := ?v64) rfl rfl (by kernel_rfl) (by kernel_rfl) (by kernel_rfl) (fun _ _ _ h => h) (Or.inl ⟨by rfl, ?hw64⟩) hS6 ?q64
              case hw64 => (intro w hSw; have s0 := hSw; go_simp; try with_reducible rfl)
              simp only [Act.put, List.setIfInBounds_toArray, List.set_cons_zero, List.set_cons_succ]
              refine Tw.takeD (i := 14) (d := 15) (v := ?v65) rfl rfl (by kernel_rfl) (by kernel_rfl) (by kernel_rfl) (fun _ _ _ h => h) (Or.inl ⟨by rfl, ?hw65⟩) hS6 ?q65
              case hw65 => (intro w hSw; have s0 := hSw; go_simp; try with_reducible rfl)
              simp only [Act.put, List.setIfInBounds_toArray, List.set_cons_zero, List.set_cons_succ]
              refine Tw.takeD (i := 15) (d := 13) (v := ?v66) rfl rfl (by kernel_rfl) (by kernel_rfl) (by kernel_rfl) (fun _ _ _ h => h) (Or.inl ⟨by rfl, ?hw66⟩) hS6 ?q66
              case hw66 => (intro w hSw; have s0 := hSw; go_simp; try with_reducible rfl)
              simp only [Act.put, List.setIfInBounds_toArray, List.set_cons_zero, List.set_cons_succ]
              refine wpAnyH_done (by kernel_rfl) ?_ _
              clear hS4 hS5 hS6 H4 H5 HC4 HC5 HS4 HS5 HR4 HR5 HX4 HX5
              have qt6 : w6.cell? ⟨wr.heap.size, 2, none⟩ = some (.string (U.tag k)) := HC6.out.cell 2 (by omega)
              rcases HOR6.out with ⟨hg, rfl, rfl, rfl⟩ | ⟨hg, rfl⟩
              · by_cases htg : bb.extract 0 16 = U.tag k
                · have HTK : Hid (there kb S.D U k) := HTHK.out.2 ⟨hg, htg⟩
                  rw [htg]
                  clear htg HTHK hg HOR6
                  generalize Sl.textOf kb bb = tx at *
                  have qx := HX6.out.cell k hlt
                  have qf := HX6.out.frozen k hlt
                  go_wp2_with fail
                  go_roundw
                  case rel =>
                    refine ⟨k + 1, by omega, by go_num, fun i hi => ?_, HR6.out.other (by have := HBT.out; show wc.heap.size ≠ bt; omega) _, (HX6.out.set k hlt _).congr (fun j _ => HSX.out j), HS6.out.setCell (by have := HSW.out.size; exact this) _⟩
                    by_cases e : i = k
                    · subst e; exact HTK.out
                    · exact HTH.out i (by omega)
                  case measure => simp [intOf]; omega
                · have hnl := Tw.neq_list htg
                  have HNT : Hid (¬ whole kb kt S.D n) := fun q => htg (HTHK.out.1 ((HWH.out.1 q).2 k hlt)).2
                  clear htg HTHK hg HOR6
                  generalize Sl.textOf kb bb = tx at *
                  generalize bb.extract 0 16 = tg at *
                  go_wp2_with fail
                  go_ret
                  exact Or.inr ⟨HNT.out, rfl, HS6.out⟩
              · have HNT : Hid (¬ whole kb kt S.D n) := fun q => hg (HTHK.out.1 ((HWH.out.1 q).2 k hlt)).1
                clear hg HTHK HOR6
                go_wp2_with fail
                go_ret
                exact Or.inr ⟨HNT.out, rfl, HS6.out⟩
            · obtain ⟨er, he1, he2⟩ : ∃ er : Int, rdB S.D (U.zone k) (U.off k) = (⟨#[]⟩, er) ∧ er ≠ 0 := by
                unfold rdB
                by_cases h8 : 0 ≤ U.zone k ∧ U.zone k < 8
                · rw [if_neg (fun q => q h8)]
                  rw [if_pos (fun q => hz ⟨h8.1, h8.2, q.1, q.2⟩)]
                  exact ⟨7, rfl, by decide⟩
                · rw [if_pos h8]
                  exact ⟨2, rfl, by decide⟩
              rw [he1]
              have HNT : Hid (¬ whole kb kt S.D n) := fun q => by
                rcases (HWH.out.1 q).2 k hlt with h6 | h6
                · exact HTE.out h6
                · exact hz h6.1
              have hed : ¬ er = 0 := he2
              clear he1 he2 hz
              go_wp2_with fail
              go_ret
              exact Or.inr ⟨HNT.out, rfl, HS3.out⟩
        · have hke : k = 24 := by omega
          subst hke
          have HW : Hid (whole kb kt S.D n) := HWH.out.2 ⟨⟨HIST.out, HCN.out⟩, HTH.out⟩
          have hL := Tw.ln73 U
          have hL5 := ln24 (saysTo kb S.D U 24)
          have H6 : Hid (RVol w0 wr.drew N rv Rb rd rc s S) := H.out.go HS.out.drew
          have HS8 : Hid (Since w wr.drew) := HS.out.drew
          have HR6 : Hid (wr.drew.rangeAt bt 0 (brow 73 (tcell U))) := Tw.tab_all (HR.out.since (Since.refl _).drew)
          have HX6 : Hid (wr.drew.rangeAt wc.heap.size 0 (brow 24 (xcell (saysTo kb S.D U 24)))) := x_all (HX.out.since (Since.refl _).drew)
          have hst6 := H6.out.cel.store Tryz.prog 4 73 (by omega) (tcell U) (fun j _ => Tw.tcell_one _ j)
          have HC7 : Hid (Cel (wr.drew.setCells rv 4 (brow 73 (tcell U))) rv 102 (rvcell Rb rd rc s U S.X S.dead)) := (H6.out.cel.setRow 4 73 (by omega) (tcell U)).congr (fun j hj => rvcell_tabs Rb rd rc s S.T U S.X S.dead j hj)
          have hst7 := HC7.out.store Tryz.prog 77 24 (by omega) (xcell (saysTo kb S.D U 24)) (fun j _ => xcell_one _ j)
          have HC8 : Hid (Cel ((wr.drew.setCells rv 4 (brow 73 (tcell U))).setCells rv 77 (brow 24 (xcell (saysTo kb S.D U 24)))) rv 102 (rvcell Rb rd rc s U (saysTo kb S.D U 24) S.dead)) := (HC7.out.setRow 77 24 (by omega) (xcell (saysTo kb S.D U 24))).congr (fun j hj => rvcell_both Rb rd rc s U U S.X (saysTo kb S.D U 24) S.dead j hj)
          have HF8 : Hid (Fr rv none wr.drew ((wr.drew.setCells rv 4 (brow 73 (tcell U))).setCells rv 77 (brow 24 (xcell (saysTo kb S.D U 24))))) := (Fr.setCells _ _ _ _ _).trans' (Fr.setCells _ _ _ _ _)
          have HTY8 : Hid (Ty ((wr.drew.setCells rv 4 (brow 73 (tcell U))).setCells rv 77 (brow 24 (xcell (saysTo kb S.D U 24)))) rv 95) := Ty.setCells _ _ _ _ (Ty.setCells _ _ _ _ H6.out.ty)
          have HNB : Hid (rv ≠ bt ∧ rv ≠ wc.heap.size) := by
            have h1 := H.out.ty.lt
            have h2 := HBT.out
            have h3 := HSW.out.size
            exact ⟨by omega, by omega⟩
          generalize brow 73 (tcell U) = cs7 at *
          generalize brow 24 (xcell (saysTo kb S.D U 24)) = cx at *
          have hS6 : (fun W : World => W.rangeAt bt 0 cs7 ∧ W.rangeAt wc.heap.size 0 cx) wr.drew := ⟨HR6.out, HX6.out⟩
          have HS7b : Hid ((fun W : World => W.rangeAt bt 0 cs7 ∧ W.rangeAt wc.heap.size 0 cx) (wr.drew.setCells rv 4 cs7)) := ⟨rangeOther HR6.out HNB.out.1 _ _, rangeOther HX6.out HNB.out.2 _ _⟩
          have HS8b : Hid ((fun W : World => W.rangeAt bt 0 cs7 ∧ W.rangeAt wc.heap.size 0 cx) ((wr.drew.setCells rv 4 cs7).setCells rv 77 cx)) := ⟨rangeOther (rangeOther HR6.out HNB.out.1 _ _) HNB.out.1 _ _, rangeOther (rangeOther HX6.out HNB.out.2 _ _) HNB.out.2 _ _⟩
          go_wp2_with fail
          refine wp_region_held (S := fun W : World => W.rangeAt bt 0 cs7 ∧ W.rangeAt wc.heap.size 0 cx) (by kernel_rfl) ?_
          refine Tw.takeD (i := 0) (d := 93) (v := ?v68) rfl rfl (by kernel_rfl) (by kernel_rfl) (by kernel_rfl) (fun _ _ _ h => h) (Or.inl ⟨by rfl, ?hw68⟩) hS6 ?q68
          case hw68 => (intro w hSw; obtain ⟨s0, s1⟩ := hSw; go_simp; try with_reducible rfl)
          simp only [Act.put, List.setIfInBounds_toArray, List.set_cons_zero, List.set_cons_succ]
          refine Tw.takeD (i := 1) (d := 94) (v := ?v69) rfl rfl (by kernel_rfl) (by kernel_rfl) (by kernel_rfl) (fun _ _ _ h => h) (Or.inl ⟨by rfl, ?hw69⟩) hS6 ?q69
          case hw69 => (intro w hSw; obtain ⟨s0, s1⟩ := hSw; go_simp; try with_reducible rfl)
          simp only [Act.put, List.setIfInBounds_toArray, List.set_cons_zero, List.set_cons_succ]
          refine Tw.takeD (i := 2) (d := 95) (v := .agg cs7.toArray) rfl rfl (by kernel_rfl) (by kernel_rfl) (by kernel_rfl) (fun _ _ _ h => h) (yieldsIf_load_mid (by rfl) 92 _ (by rfl) bt 0 (by rfl) _ _ (fun w hSw => hSw.1) Tryz.underlying92 (by rfl) (by rw [hL]; kernel_rfl)) hS6 ?q70
          simp only [Act.put, List.setIfInBounds_toArray, List.set_cons_zero, List.set_cons_succ]
          refine Tw.takeD (i := 3) (d := 96) (v := .agg cx.toArray) rfl rfl (by kernel_rfl) (by kernel_rfl) (by kernel_rfl) (fun _ _ _ h => h) (yieldsIf_load_mid (by rfl) 93 _ (by rfl) wc.heap.size 0 (by rfl) _ _ (fun w hSw => hSw.2) Tryz.underlying93 (by rfl) (by rw [hL5]; kernel_rfl)) hS6 ?q71
          simp only [Act.put, List.setIfInBounds_toArray, List.set_cons_zero, List.set_cons_succ]
          refine Tw.takeD (i := 4) (d := 97) (v := ?v72) rfl rfl (by kernel_rfl) (by kernel_rfl) (by kernel_rfl) (fun _ _ _ h => h) (Or.inl ⟨by rfl, ?hw72⟩) hS6 ?q72
          case hw72 => (intro w hSw; obtain ⟨s0, s1⟩ := hSw; go_simp; try with_reducible rfl)
          simp only [Act.put, List.setIfInBounds_toArray, List.set_cons_zero, List.set_cons_succ]
          refine Tw.takeD (i := 5) (d := 98) (v := ?v73) rfl rfl (by kernel_rfl) (by kernel_rfl) (by kernel_rfl) (fun _ _ _ h => h) (Or.inl ⟨by rfl, ?hw73⟩) hS6 ?q73
          case hw73 => (intro w hSw; obtain ⟨s0, s1⟩ := hSw; go_simp; try with_reducible rfl)
          simp only [Act.put, List.setIfInBounds_toArray, List.set_cons_zero, List.set_cons_succ]
          refine wpAnyH_ready (rs := [6]) (by kernel_rfl) (by simp) (AllReadyH.cons rfl (fun K hK => ?_) AllReadyH.nil)
          rw [if_pos (by rfl)]
          go_simp
          have hS7 : (fun W : World => W.rangeAt bt 0 cs7 ∧ W.rangeAt wc.heap.size 0 cx) (wr.drew.setCells rv 4 cs7) := HS7b.out
          refine hK.out _ _ hS7 (fun _ => ?_)
          clear hK K
          (try simp only [Act.put, List.setIfInBounds_toArray, List.set_cons_zero, List.set_cons_succ])
          refine Tw.takeD (i := 7) (d := 99) (v := ?v76) rfl rfl (by kernel_rfl) (by kernel_rfl) (by kernel_rfl) (fun _ _ _ h => h) (Or.inl ⟨by rfl, ?hw76⟩) hS7 ?q76
          case hw76 => (intro w hSw; obtain ⟨s0, s1⟩ := hSw; go_simp; try with_reducible rfl)
          simp only [Act.put, List.setIfInBounds_toArray, List.set_cons_zero, List.set_cons_succ]
          refine Tw.takeD (i := 8) (d := 100) (v := ?v77) rfl rfl (by kernel_rfl) (by kernel_rfl) (by kernel_rfl) (fun _ _ _ h => h) (Or.inl ⟨by rfl, ?hw77⟩) hS7 ?q77
          case hw77 => (intro w hSw; obtain ⟨s0, s1⟩ := hSw; go_simp; try with_reducible rfl)
          simp only [Act.put, List.setIfInBounds_toArray, List.set_cons_zero, List.set_cons_succ]
          refine wpAnyH_ready (rs := [9]) (by kernel_rfl) (by simp) (AllReadyH.cons rfl (fun K hK => ?_) AllReadyH.nil)
          rw [if_pos (by rfl)]
          go_simp
          have hS8 : (fun W : World => W.rangeAt bt 0 cs7 ∧ W.rangeAt wc.heap.size 0 cx) ((wr.drew.setCells rv 4 cs7).setCells rv 77 cx) := HS8b.out
          refine hK.out _ _ hS8 (fun _ => ?_)
          clear hK K
          (try simp only [Act.put, List.setIfInBounds_toArray, List.set_cons_zero, List.set_cons_succ])
          refine wpAnyH_done (by kernel_rfl) ?_ _
          clear hst6 hst7 hS6 hS7 hS8 HS7b HS8b
          generalize (wr.drew.setCells rv 4 cs7).setCells rv 77 cx = w7 at *
          go_wp2_with fail
          go_ret
          rw [HTT.out]
          exact Or.inl ⟨HW.out, rfl, RTo.pre HS8.out (H6.out.celTo HC8.out HF8.out HTY8.out)⟩
    · have HW : Hid (¬ whole kb kt S.D n) := fun q => hc (HWH.out.1 q).1.2
      go_wp2_with fail
      go_ret
      exact Or.inr ⟨HW.out, rfl, HSW.out⟩
  · have HW : Hid (¬ whole kb kt S.D n) := fun q => hist (HWH.out.1 q).1.1
    clear hist hCU hYU hbt hsU HPA HKY HSS
    go_wp2_with fail
    go_ret
    exact Or.inr ⟨HW.out, rfl, HSW.out⟩
end
end Vl
end Go.Proofs.YtbfjklpoheooaaaGreatDoor
