import Derived.Test.YtifnhnfjelfddaaGreatDoorJ27
import Derived.Test.YtifnhnfjelfddaaGreatDoorJ41
set_option linter.unusedSimpArgs false
set_option linter.unusedVariables false
namespace Go.Proofs.YtifnhnfjelfddaaGreatDoor
set_option maxRecDepth 100000
namespace Vl
open Go.RowKit
open Tw (Tb tcell tval ccell)
def isTab (kt s : ByteArray) : Prop := Tw.tail0 s ∧ Tw.rtB (Tw.rd s) = true ∧ Tw.text kt (Tw.rd s) = s.extract 0 456
theorem parse_all (kt s : ByteArray) (w : World) (hk : kt.size = 32) (hs : s.size = 500) (hT : Sm.Tab w) :
    Calls Tryz.prog 108 #[.string kt, .string s] w fun e w' => ((isTab kt s ∧ e = .returned (.tuple #[tval (Tw.rd s), .nilIface])) ∨ (¬ isTab kt s ∧ e = .returned (.tuple #[tval Tb.zero, .iface 45 (.int .i64 15)]))) ∧ Since w w' := by
  by_cases ht : Tw.tail0 s
  · by_cases hr : Tw.rtB (Tw.rd s) = true
    · by_cases he : Tw.text kt (Tw.rd s) = s.extract 0 456
      · refine (Tw.parse_long kt s w hk (by omega) (by omega) ht hT (Tw.text kt (Tw.rd s)) .nilIface _ (fun W hW => Tw.write_ok kt (Tw.rd s) W hk ((Tw.rtB_iff _).1 hr) hW) (Or.inr (Or.inr ⟨rfl, he, rfl⟩))).mono ?_
        rintro e w' ⟨rfl, h⟩
        exact ⟨Or.inl ⟨⟨ht, hr, he⟩, rfl⟩, h⟩
      · refine (Tw.parse_long kt s w hk (by omega) (by omega) ht hT (Tw.text kt (Tw.rd s)) .nilIface _ (fun W hW => Tw.write_ok kt (Tw.rd s) W hk ((Tw.rtB_iff _).1 hr) hW) (Or.inr (Or.inl ⟨rfl, he, rfl⟩))).mono ?_
        rintro e w' ⟨rfl, h⟩
        exact ⟨Or.inr ⟨fun q => he q.2.2, rfl⟩, h⟩
    · have hr2 : Tw.rtB (Tw.rd s) = false := by simpa using hr
      refine (Tw.parse_long kt s w hk (by omega) (by omega) ht hT ⟨#[]⟩ (.iface 45 (.int .i64 1)) _ (fun W hW => Tw.write_not kt (Tw.rd s) W hk hr2) (Or.inl ⟨rfl, rfl⟩)).mono ?_
      rintro e w' ⟨rfl, h⟩
      exact ⟨Or.inr ⟨fun q => hr q.2.1, rfl⟩, h⟩
  · refine (Tw.parse_tail kt s w hk (by omega) (by omega) ht).mono ?_
    rintro e w' ⟨rfl, h⟩
    exact ⟨Or.inr ⟨fun q => ht q.1, rfl⟩, h⟩
theorem slot_size (D : Dv) (n : Int) : (slotTxt D n).size = 500 := txt_size _ _
theorem vcell_both (db cb : Nat) (kb kt : ByteArray) (T U : Tb) (X Y : Nat → ByteArray) (f : Bool) (j : Nat) (hj : j < 102) :
    updl (vcell db cb kb kt T X f) 77 24 (xcell Y) j = vcell db cb kb kt T Y f j := by
  unfold updl
  by_cases h : 77 ≤ j ∧ j < 77 + 24
  · rw [if_pos h]
    have := vcell_says db cb kb kt T Y f (j - 77) (by omega)
    rw [show 77 + (j - 77) = j by omega] at this
    rw [this]
    rfl
  · rw [if_neg h]
    unfold vcell
    by_cases h4 : j < 77
    · simp only [if_pos h4]
    · have h5 : ¬ j < 101 := by omega
      simp only [if_neg h4, if_neg h5]
theorem rangeOther {w : World} {b o b' : Nat} {l : List Value} (h : w.rangeAt b o l) (hb : b' ≠ b) (o' : Nat) (vs : List Value) : (w.setCells b' o' vs).rangeAt b o l := fun j x hj => by
  rw [World.cell?_setCells_out b' _ o' w _ (fun e _ => absurd e.symm hb)]
  exact h j x hj
section
variable {w0 w : World} {vb db cb : Nat} {kb kt : ByteArray} {S : Vs} {v : Value}
set_option maxHeartbeats 8000000 in
theorem take_any (B : Base w0 kb kt) (n : Int) (hn : 0 ≤ n) (h : Vol w0 w vb db cb kb kt S v) :
    Calls Tryz.prog 82 #[.pointer (some ⟨vb, 0, none⟩), .int .i64 n] w fun e w' => (whole kb kt S.D n ∧ e = .returned (.bool true) ∧ Vto w0 w w' vb db cb kb kt { S with T := tabAt S.D n, X := saysTo kb S.D (tabAt S.D n) 24 } v) ∨ (¬ whole kb kt S.D n ∧ e = .returned (.bool false) ∧ Since w w') := by
  have HB : Hid (Base w0 kb kt) := B
  have H : Hid (Vol w0 w vb db cb kb kt S v) := h
  have hn1 : 0 ≤ n := hn
  obtain ⟨kk, hkk, hk2⟩ : ∃ k : Nat, n % 2 = k ∧ k < 2 := ⟨(n % 2).toNat, by omega, by omega⟩
  have HKK : Hid (n % 2 = (kk : Int) ∧ kk < 2) := ⟨hkk, hk2⟩
  have HST : Hid (slotTxt S.D n = txt 500 (S.D.slotBy kk (fun _ => true))) := by
    show slotTxt S.D n = _
    unfold slotTxt
    rw [hkk, Int.toNat_natCast]
  clear hkk hk2 h B hn
  go_enter Tryz.func82, Tryz.ntmps82
  go_wp2_with fail
  have H1 : Hid (Vol w0 w.drew vb db cb kb kt S v) := H.out.go (Since.refl _).drew
  have hS1 : (fun W : World => W.cell? ⟨vb, 0, none⟩ = some (.pointer (some ⟨db, 0, none⟩))) w.drew := H1.out.c0
  refine wp_region_held (S := fun W : World => W.cell? ⟨vb, 0, none⟩ = some (.pointer (some ⟨db, 0, none⟩))) (by kernel_rfl) ?_
  refine Tw.takeD (i := 0) (d := 11) (v := ?v1) rfl rfl (by kernel_rfl) (by kernel_rfl) (by kernel_rfl) (fun _ _ _ h => h) (Or.inl ⟨by rfl, ?hw1⟩) hS1 ?q1
  case hw1 => (intro w hSw; have s0 := hSw; go_simp; try with_reducible rfl)
  simp only [Act.put, List.setIfInBounds_toArray, List.set_cons_zero, List.set_cons_succ]
  refine Tw.takeD (i := 1) (d := 12) (v := ?v2) rfl rfl (by kernel_rfl) (by kernel_rfl) (by kernel_rfl) (fun _ _ _ h => h) (Or.inl ⟨by rfl, ?hw2⟩) hS1 ?q2
  case hw2 => (intro w hSw; have s0 := hSw; go_simp; try with_reducible rfl)
  simp only [Act.put, List.setIfInBounds_toArray, List.set_cons_zero, List.set_cons_succ]
  refine Tw.takeD (i := 2) (d := 13) (v := ?v3) rfl rfl (by kernel_rfl) (by kernel_rfl) (by kernel_rfl) (fun _ _ _ h => h) (Or.inl ⟨by rfl, ?hw3⟩) hS1 ?q3
  case hw3 => (intro w hSw; have s0 := hSw; go_simp; try with_reducible rfl)
  simp only [Act.put, List.setIfInBounds_toArray, List.set_cons_zero, List.set_cons_succ]
  refine Tw.takeD (i := 3) (d := 14) (v := ?v4) rfl rfl (by kernel_rfl) (by kernel_rfl) (by kernel_rfl) (fun _ _ _ h => h) (Or.inl ⟨by rfl, ?hw4⟩) hS1 ?q4
  case hw4 => (intro w hSw; have s0 := hSw; go_simp; try with_reducible rfl)
  simp only [Act.put, List.setIfInBounds_toArray, List.set_cons_zero, List.set_cons_succ]
  refine Tw.takeD (i := 4) (d := 15) (v := ?v5) rfl rfl (by kernel_rfl) (by kernel_rfl) (by kernel_rfl) (fun _ _ _ h => h) (Or.inl ⟨by rfl, ?hw5⟩) hS1 ?q5
  case hw5 => (intro w hSw; have s0 := hSw; go_simp; try with_reducible rfl)
  simp only [Act.put, List.setIfInBounds_toArray, List.set_cons_zero, List.set_cons_succ]
  refine wpAnyH_ready (rs := [5]) (by kernel_rfl) (by simp) (AllReadyH.cons rfl (fun K hK => ?_) AllReadyH.nil)
  rw [if_pos (by rfl)]
  go_simp
  refine (slotOf_any n _ hn1).mono ?_
  rintro e w1 ⟨rfl, hw1⟩
  rw [hw1]
  clear hw1 w1
  simp only []
  refine hK.out _ _ hS1 (fun _ => ?_)
  clear hK K
  (try simp only [Act.put, List.setIfInBounds_toArray, List.set_cons_zero, List.set_cons_succ])
  refine wpAnyH_ready (rs := [6]) (by kernel_rfl) (by simp) (AllReadyH.cons rfl (fun K hK => ?_) AllReadyH.nil)
  rw [if_pos (by rfl)]
  go_simp
  rw [HKK.out.1]
  refine (get_any S.D v db kk _ H1.out.dev HKK.out.2).mono ?_
  rintro e w2 ⟨rfl, h2⟩
  simp only []
  have H2 : Hid (Vol w0 w2 vb db cb kb kt S v) := H1.out.go h2
  have HS2 : Hid (Since w w2) := (Since.refl _).drew.trans h2
  have hS2 : (fun W : World => W.cell? ⟨vb, 0, none⟩ = some (.pointer (some ⟨db, 0, none⟩))) w2 := H2.out.c0
  clear h2
  refine hK.out _ _ hS2 (fun _ => ?_)
  clear hK K
  (try simp only [Act.put, List.setIfInBounds_toArray, List.set_cons_zero, List.set_cons_succ])
  refine Tw.takeD (i := 7) (d := 10) (v := ?v10) rfl rfl (by kernel_rfl) (by kernel_rfl) (by kernel_rfl) (fun _ _ _ h => h) (Or.inl ⟨by rfl, ?hw10⟩) hS2 ?q10
  case hw10 => (intro w hSw; have s0 := hSw; go_simp; try with_reducible rfl)
  simp only [Act.put, List.setIfInBounds_toArray, List.set_cons_zero, List.set_cons_succ]
  refine Tw.takeD (i := 8) (d := 18) (v := ?v11) rfl rfl (by kernel_rfl) (by kernel_rfl) (by kernel_rfl) (fun _ _ _ h => h) (Or.inl ⟨by rfl, ?hw11⟩) hS2 ?q11
  case hw11 => (intro w hSw; have s0 := hSw; go_simp; try with_reducible rfl)
  simp only [Act.put, List.setIfInBounds_toArray, List.set_cons_zero, List.set_cons_succ]
  refine Tw.takeD (i := 9) (d := 19) (v := ?v12) rfl rfl (by kernel_rfl) (by kernel_rfl) (by kernel_rfl) (fun _ _ _ h => h) (Or.inl ⟨by rfl, ?hw12⟩) hS2 ?q12
  case hw12 => (intro w hSw; have s0 := hSw; go_simp; try with_reducible rfl)
  simp only [Act.put, List.setIfInBounds_toArray, List.set_cons_zero, List.set_cons_succ]
  refine Tw.takeD (i := 10) (d := 5) (v := ?v13) rfl rfl (by kernel_rfl) (by kernel_rfl) (by kernel_rfl) (fun _ _ _ h => h) (Or.inl ⟨by rfl, ?hw13⟩) hS2 ?q13
  case hw13 => (intro w hSw; have s0 := hSw; go_simp; try with_reducible rfl)
  simp only [Act.put, List.setIfInBounds_toArray, List.set_cons_zero, List.set_cons_succ]
  refine Tw.takeD (i := 11) (d := 6) (v := ?v14) rfl rfl (by kernel_rfl) (by kernel_rfl) (by kernel_rfl) (fun _ _ _ h => h) (Or.inl ⟨by rfl, ?hw14⟩) hS2 ?q14
  case hw14 => (intro w hSw; have s0 := hSw; go_simp; try with_reducible rfl)
  simp only [Act.put, List.setIfInBounds_toArray, List.set_cons_zero, List.set_cons_succ]
  refine wpAnyH_done (by kernel_rfl) ?_ _
  rw [← HST.out]
  clear hS1 hS2 H1
  have HWH : Hid (whole kb kt S.D n ↔ (isTab kt (slotTxt S.D n) ∧ (tabAt S.D n).count = n) ∧ ∀ i, i < 24 → there kb S.D (tabAt S.D n) i) := by
    show whole kb kt S.D n ↔ _
    unfold whole tabOk isTab tabAt
    constructor
    · rintro ⟨⟨a, b, c, d⟩, e⟩; exact ⟨⟨⟨a, b, c⟩, d⟩, e⟩
    · rintro ⟨⟨⟨a, b, c⟩, d⟩, e⟩; exact ⟨⟨a, b, c, d⟩, e⟩
  have HZ : Hid ((slotTxt S.D n).size = 500) := slot_size _ _
  have HTA : Hid (Tw.rd (slotTxt S.D n) = tabAt S.D n) := show Tw.rd (slotTxt S.D n) = tabAt S.D n from rfl
  have HPA : Hid (∀ W, Sm.Tab W → Calls Tryz.prog 108 #[.string kt, .string (slotTxt S.D n)] W fun e w' => ((isTab kt (slotTxt S.D n) ∧ e = .returned (.tuple #[tval (tabAt S.D n), .nilIface])) ∨ (¬ isTab kt (slotTxt S.D n) ∧ e = .returned (.tuple #[tval Tb.zero, .iface 45 (.int .i64 15)]))) ∧ Since W w') := fun W hW => parse_all kt (slotTxt S.D n) W HB.out.kt HZ.out hW
  generalize slotTxt S.D n = sl at *
  generalize hTT : tabAt S.D n = T at *
  have HTT : Hid (tabAt S.D n = T) := hTT
  clear hTT
  have q3 := H2.out.c3
  go_wp2_with fail
  refine (HPA.out _ (H2.out.tabW HB.out)).mono ?_
  rintro e w3 ⟨hor, h3⟩
  have H3 : Hid (Vol w0 w3 vb db cb kb kt S v) := H2.out.go h3
  have HS3 : Hid (Since w w3) := HS2.out.trans h3
  clear h3 q3 H2 HS2 HPA
  rcases hor with ⟨hist, rfl⟩ | ⟨hist, rfl⟩
  · have HIST : Hid (isTab kt sl) := hist
    clear hist
    have hC3 := Tw.zeroTab_cel w3 w3.heap.size rfl
    obtain ⟨hst, hC4⟩ := Tw.tab_stored hC3 T
    have HC4 : Hid (Cel ((w3.alloc (.cells Tryz.zeroCells92 92)).setCells w3.heap.size 0 (brow 73 (tcell T))) w3.heap.size 73 (tcell T)) := hC4
    have HS4 : Hid (Since w3 ((w3.alloc (.cells Tryz.zeroCells92 92)).setCells w3.heap.size 0 (brow 73 (tcell T)))) := ((Since.refl w3).alloc _).setCells (Nat.le_refl _) _ _
    clear hC3 hC4
    have c0 : ((w3.alloc (.cells Tryz.zeroCells92 92)).setCells w3.heap.size 0 (brow 73 (tcell T))).cell? ⟨w3.heap.size, 0, none⟩ = some (.int .i64 T.count) := HC4.out.cell 0 (by omega)
    have hL := Tw.ln73 T
    have hV : tval T = .agg (brow 73 (tcell T)).toArray := rfl
    rw [hV]
    have HOP : Hid (∀ W, Vol w0 W vb db cb kb kt S v → Calls Tryz.prog 109 #[.pointer (some ⟨vb, 0, none⟩), .agg (brow 73 (tcell T)).toArray] W fun e w' => (((∀ i, i < 24 → there kb S.D T i) ∧ e = .returned (.tuple #[.agg (brow 24 (xcell (saysTo kb S.D T 24))).toArray, .bool true])) ∨ ((¬ ∀ i, i < 24 → there kb S.D T i) ∧ e = .returned (.tuple #[.agg (brow 24 (xcell (fun _ => ⟨#[]⟩))).toArray, .bool false]))) ∧ Since W w') := fun W hW => opened_any HB.out T hW
    clear hV
    have hR4 := Tw.tab_all HC4.out
    generalize hcs : brow 73 (tcell T) = cs at *
    have HCS : Hid (brow 73 (tcell T) = cs) := hcs
    clear hcs
    generalize ((w3.alloc (.cells Tryz.zeroCells92 92)).setCells w3.heap.size 0 cs) = w4 at *
    have H4 : Hid (Vol w0 w4 vb db cb kb kt S v) := H3.out.go HS4.out
    have HS5 : Hid (Since w w4) := HS3.out.trans HS4.out
    by_cases hc : T.count = n
    · have HCN : Hid (T.count = n) := hc
      rw [hc] at c0
      clear hc
      go_wp2_with (refine wpList_load_mid (by rfl) 92 _ (by rfl) w3.heap.size 0 (by rfl) _ _ hR4 Tryz.underlying92 (by rfl) (by rw [hL]; kernel_rfl) ?_)
      refine (HOP.out _ H4.out).mono ?_
      rintro e w5 ⟨hor, h5⟩
      have HC5 : Hid (Cel w5 w3.heap.size 73 (tcell T)) := HC4.out.since h5
      have H5 : Hid (Vol w0 w5 vb db cb kb kt S v) := H4.out.go h5
      have HS6 : Hid (Since w w5) := HS5.out.trans h5
      have HN5 : Hid (vb ≠ w3.heap.size ∧ vb < w5.heap.size) := by
        refine ⟨fun e => ?_, H5.out.cel.lt (by omega)⟩
        have := H3.out.cel.lt (by omega)
        omega
      clear h5 hR4 c0 hst HC4 HS4 H4 HS5 HOP H3 HS3
      rcases hor with ⟨hth, rfl⟩ | ⟨hth, rfl⟩
      · have HW : Hid (whole kb kt S.D n) := HWH.out.2 ⟨⟨HIST.out, HCN.out⟩, hth⟩
        clear hth HWH
        have hzc := z24_cel w5 w5.heap.size rfl
        have hC6 := (x_stored hzc (saysTo kb S.D T 24)).2
        have hL5 := ln24 (saysTo kb S.D T 24)
        have h15 : (brow 24 (xcell (saysTo kb S.D T 24))).toArray.all (·.oneCell') = true := all_oneCell_toArray (brow_one _ _ (fun j _ => xcell_one _ j))
        have hth5 : (w5.alloc (.cells z24 93)).there w5.heap.size 0 (brow 24 (xcell (saysTo kb S.D T 24))).toArray.size := by
          have e5 : ∀ l : List Value, l.length = 24 → l.toArray.size = 24 := fun l hl => by rw [List.size_toArray]; exact hl
          rw [e5 _ hL5]
          exact hzc.there 0 24 (by omega)
        have HC6 : Hid (Cel ((w5.alloc (.cells z24 93)).setCells w5.heap.size 0 (brow 24 (xcell (saysTo kb S.D T 24)))) w5.heap.size 24 (xcell (saysTo kb S.D T 24))) := hC6
        have HS7 : Hid (Since w5 ((w5.alloc (.cells z24 93)).setCells w5.heap.size 0 (brow 24 (xcell (saysTo kb S.D T 24))))) := ((Since.refl w5).alloc _).setCells (Nat.le_refl _) _ _
        clear hzc hC6
        generalize hcx : brow 24 (xcell (saysTo kb S.D T 24)) = cx at *
        have HCX : Hid (brow 24 (xcell (saysTo kb S.D T 24)) = cx) := hcx
        clear hcx
        go_wp2_with (refine wpList_store_mid (by rfl) 93 _ _ (by rfl) w5.heap.size 0 cx.toArray (by rfl) (by rfl) hth5 (by rw [List.size_toArray, hL5]; kernel_rfl) h15 ?_)
        have hz24 : z24 = #[.string ⟨#[]⟩, .string ⟨#[]⟩, .string ⟨#[]⟩, .string ⟨#[]⟩, .string ⟨#[]⟩, .string ⟨#[]⟩, .string ⟨#[]⟩, .string ⟨#[]⟩, .string ⟨#[]⟩, .string ⟨#[]⟩, .string ⟨#[]⟩, .string ⟨#[]⟩, .string ⟨#[]⟩, .string ⟨#[]⟩, .string ⟨#[]⟩, .string ⟨#[]⟩, .string ⟨#[]⟩, .string ⟨#[]⟩, .string ⟨#[]⟩, .string ⟨#[]⟩, .string ⟨#[]⟩, .string ⟨#[]⟩, .string ⟨#[]⟩, .string ⟨#[]⟩] := rfl
        rw [← hz24]
        clear hz24 hth5 h15
        generalize (w5.alloc (.cells z24 93)).setCells w5.heap.size 0 cx = w6 at *
        have H6 : Hid (Vol w0 w6.drew vb db cb kb kt S v) := (H5.out.go HS7.out).go (Since.refl _).drew
        have HS8 : Hid (Since w w6.drew) := (HS6.out.trans HS7.out).drew
        have HR6 : Hid (w6.drew.rangeAt w3.heap.size 0 cs) := by
          have := Tw.tab_all (HC5.out.since (HS7.out.trans (Since.refl w6).drew))
          rw [HCS.out] at this
          exact this
        have HX6 : Hid (w6.drew.rangeAt w5.heap.size 0 cx) := by
          have := x_all (HC6.out.since (Since.refl w6).drew)
          rw [HCX.out] at this
          exact this
        have hst6 := H6.out.cel.store Tryz.prog 4 73 (by omega) (tcell T) (fun j _ => Tw.tcell_one _ j)
        rw [HCS.out] at hst6
        have HC7 : Hid (Cel (w6.drew.setCells vb 4 cs) vb 102 (vcell db cb kb kt T S.X S.dead)) := by
          have := (H6.out.cel.setRow 4 73 (by omega) (tcell T)).congr (fun j hj => vcell_tabs db cb kb kt S.T T S.X S.dead j hj)
          rw [HCS.out] at this
          exact this
        have hst7 := HC7.out.store Tryz.prog 77 24 (by omega) (xcell (saysTo kb S.D T 24)) (fun j _ => xcell_one _ j)
        rw [HCX.out] at hst7
        have HC8 : Hid (Cel ((w6.drew.setCells vb 4 cs).setCells vb 77 cx) vb 102 (vcell db cb kb kt T (saysTo kb S.D T 24) S.dead)) := by
          have := (HC7.out.setRow 77 24 (by omega) (xcell (saysTo kb S.D T 24))).congr (fun j hj => vcell_both db cb kb kt T T S.X (saysTo kb S.D T 24) S.dead j hj)
          rw [HCX.out] at this
          exact this
        have HF8 : Hid (Fr vb none w6.drew ((w6.drew.setCells vb 4 cs).setCells vb 77 cx)) := (Fr.setCells _ _ _ _ _).trans' (Fr.setCells _ _ _ _ _)
        have HTY8 : Hid (Ty ((w6.drew.setCells vb 4 cs).setCells vb 77 cx) vb 95) := Ty.setCells _ _ _ _ (Ty.setCells _ _ _ _ H6.out.ty)
        have HNB : Hid (vb ≠ w3.heap.size ∧ vb ≠ w5.heap.size) := ⟨HN5.out.1, by have := HN5.out.2; omega⟩
        have hS6 : (fun W : World => W.rangeAt w3.heap.size 0 cs ∧ W.rangeAt w5.heap.size 0 cx) w6.drew := ⟨HR6.out, HX6.out⟩
        have HS7b : Hid ((fun W : World => W.rangeAt w3.heap.size 0 cs ∧ W.rangeAt w5.heap.size 0 cx) (w6.drew.setCells vb 4 cs)) := ⟨rangeOther HR6.out HNB.out.1 _ _, rangeOther HX6.out HNB.out.2 _ _⟩
        have HS8b : Hid ((fun W : World => W.rangeAt w3.heap.size 0 cs ∧ W.rangeAt w5.heap.size 0 cx) ((w6.drew.setCells vb 4 cs).setCells vb 77 cx)) := ⟨rangeOther (rangeOther HR6.out HNB.out.1 _ _) HNB.out.1 _ _, rangeOther (rangeOther HX6.out HNB.out.2 _ _) HNB.out.2 _ _⟩
        clear HC5 HC6 HS7 HS6 H5 HN5
        refine wp_region_held (S := fun W : World => W.rangeAt w3.heap.size 0 cs ∧ W.rangeAt w5.heap.size 0 cx) (by kernel_rfl) ?_
        refine Tw.takeD (i := 0) (d := 47) (v := ?v16) rfl rfl (by kernel_rfl) (by kernel_rfl) (by kernel_rfl) (fun _ _ _ h => h) (Or.inl ⟨by rfl, ?hw16⟩) hS6 ?q16
        case hw16 => (intro w hSw; obtain ⟨s0, s1⟩ := hSw; go_simp; try with_reducible rfl)
        simp only [Act.put, List.setIfInBounds_toArray, List.set_cons_zero, List.set_cons_succ]
        refine Tw.takeD (i := 1) (d := 48) (v := ?v17) rfl rfl (by kernel_rfl) (by kernel_rfl) (by kernel_rfl) (fun _ _ _ h => h) (Or.inl ⟨by rfl, ?hw17⟩) hS6 ?q17
        case hw17 => (intro w hSw; obtain ⟨s0, s1⟩ := hSw; go_simp; try with_reducible rfl)
        simp only [Act.put, List.setIfInBounds_toArray, List.set_cons_zero, List.set_cons_succ]
        refine Tw.takeD (i := 2) (d := 49) (v := .agg cs.toArray) rfl rfl (by kernel_rfl) (by kernel_rfl) (by kernel_rfl) (fun _ _ _ h => h) (yieldsIf_load_mid (by rfl) 92 _ (by rfl) w3.heap.size 0 (by rfl) _ _ (fun w hSw => hSw.1) Tryz.underlying92 (by rfl) (by rw [hL]; kernel_rfl)) hS6 ?q18
        simp only [Act.put, List.setIfInBounds_toArray, List.set_cons_zero, List.set_cons_succ]
        refine Tw.takeD (i := 3) (d := 50) (v := .agg cx.toArray) rfl rfl (by kernel_rfl) (by kernel_rfl) (by kernel_rfl) (fun _ _ _ h => h) (yieldsIf_load_mid (by rfl) 93 _ (by rfl) w5.heap.size 0 (by rfl) _ _ (fun w hSw => hSw.2) Tryz.underlying93 (by rfl) (by rw [hL5]; kernel_rfl)) hS6 ?q19
        simp only [Act.put, List.setIfInBounds_toArray, List.set_cons_zero, List.set_cons_succ]
        refine Tw.takeD (i := 4) (d := 51) (v := ?v20) rfl rfl (by kernel_rfl) (by kernel_rfl) (by kernel_rfl) (fun _ _ _ h => h) (Or.inl ⟨by rfl, ?hw20⟩) hS6 ?q20
        case hw20 => (intro w hSw; obtain ⟨s0, s1⟩ := hSw; go_simp; try with_reducible rfl)
        simp only [Act.put, List.setIfInBounds_toArray, List.set_cons_zero, List.set_cons_succ]
        refine Tw.takeD (i := 5) (d := 52) (v := ?v21) rfl rfl (by kernel_rfl) (by kernel_rfl) (by kernel_rfl) (fun _ _ _ h => h) (Or.inl ⟨by rfl, ?hw21⟩) hS6 ?q21
        case hw21 => (intro w hSw; obtain ⟨s0, s1⟩ := hSw; go_simp; try with_reducible rfl)
        simp only [Act.put, List.setIfInBounds_toArray, List.set_cons_zero, List.set_cons_succ]
        refine wpAnyH_ready (rs := [6]) (by kernel_rfl) (by simp) (AllReadyH.cons rfl (fun K hK => ?_) AllReadyH.nil)
        rw [if_pos (by rfl)]
        go_simp
        have hS7 : (fun W : World => W.rangeAt w3.heap.size 0 cs ∧ W.rangeAt w5.heap.size 0 cx) (w6.drew.setCells vb 4 cs) := HS7b.out
        refine hK.out _ _ hS7 (fun _ => ?_)
        clear hK K
        (try simp only [Act.put, List.setIfInBounds_toArray, List.set_cons_zero, List.set_cons_succ])
        refine Tw.takeD (i := 7) (d := 53) (v := ?v24) rfl rfl (by kernel_rfl) (by kernel_rfl) (by kernel_rfl) (fun _ _ _ h => h) (Or.inl ⟨by rfl, ?hw24⟩) hS7 ?q24
        case hw24 => (intro w hSw; obtain ⟨s0, s1⟩ := hSw; go_simp; try with_reducible rfl)
        simp only [Act.put, List.setIfInBounds_toArray, List.set_cons_zero, List.set_cons_succ]
        refine Tw.takeD (i := 8) (d := 54) (v := ?v25) rfl rfl (by kernel_rfl) (by kernel_rfl) (by kernel_rfl) (fun _ _ _ h => h) (Or.inl ⟨by rfl, ?hw25⟩) hS7 ?q25
        case hw25 => (intro w hSw; obtain ⟨s0, s1⟩ := hSw; go_simp; try with_reducible rfl)
        simp only [Act.put, List.setIfInBounds_toArray, List.set_cons_zero, List.set_cons_succ]
        refine wpAnyH_ready (rs := [9]) (by kernel_rfl) (by simp) (AllReadyH.cons rfl (fun K hK => ?_) AllReadyH.nil)
        rw [if_pos (by rfl)]
        go_simp
        have hS8 : (fun W : World => W.rangeAt w3.heap.size 0 cs ∧ W.rangeAt w5.heap.size 0 cx) ((w6.drew.setCells vb 4 cs).setCells vb 77 cx) := HS8b.out
        refine hK.out _ _ hS8 (fun _ => ?_)
        clear hK K
        (try simp only [Act.put, List.setIfInBounds_toArray, List.set_cons_zero, List.set_cons_succ])
        refine wpAnyH_done (by kernel_rfl) ?_ _
        clear hst6 hst7 hS6 hS7 hS8 HS7b HS8b
        generalize (w6.drew.setCells vb 4 cs).setCells vb 77 cx = w7 at *
        go_wp2_with fail
        go_ret
        rw [HTT.out]
        exact Or.inl ⟨HW.out, rfl, Vto.pre HS8.out (H6.out.celTo HC8.out HF8.out HTY8.out)⟩
      · have HW : Hid (¬ whole kb kt S.D n) := fun q => hth (HWH.out.1 q).2
        clear hth HWH
        have hzc := z24_cel w5 w5.heap.size rfl
        have hC6 := (x_stored hzc (fun _ => ⟨#[]⟩)).2
        have hL5 := ln24 (fun _ => ⟨#[]⟩)
        have h15 : (brow 24 (xcell (fun _ => ⟨#[]⟩))).toArray.all (·.oneCell') = true := all_oneCell_toArray (brow_one _ _ (fun j _ => xcell_one _ j))
        have hth5 : (w5.alloc (.cells z24 93)).there w5.heap.size 0 (brow 24 (xcell (fun _ => ⟨#[]⟩))).toArray.size := by
          have e5 : ∀ l : List Value, l.length = 24 → l.toArray.size = 24 := fun l hl => by rw [List.size_toArray]; exact hl
          rw [e5 _ hL5]
          exact hzc.there 0 24 (by omega)
        have HC6 : Hid (Cel ((w5.alloc (.cells z24 93)).setCells w5.heap.size 0 (brow 24 (xcell (fun _ => ⟨#[]⟩)))) w5.heap.size 24 (xcell (fun _ => ⟨#[]⟩))) := hC6
        have HS7 : Hid (Since w5 ((w5.alloc (.cells z24 93)).setCells w5.heap.size 0 (brow 24 (xcell (fun _ => ⟨#[]⟩))))) := ((Since.refl w5).alloc _).setCells (Nat.le_refl _) _ _
        clear hzc hC6
        generalize hcx : brow 24 (xcell (fun _ => ⟨#[]⟩)) = cx at *
        have HCX : Hid (brow 24 (xcell (fun _ => ⟨#[]⟩)) = cx) := hcx
        clear hcx
        have HS8 : Hid (Since w ((w5.alloc (.cells z24 93)).setCells w5.heap.size 0 cx)) := HS6.out.trans HS7.out
        go_wp2_with (refine wpList_store_mid (by rfl) 93 _ _ (by rfl) w5.heap.size 0 cx.toArray (by rfl) (by rfl) hth5 (by rw [List.size_toArray, hL5]; kernel_rfl) h15 ?_)
        go_ret
        exact Or.inr ⟨HW.out, rfl, HS8.out⟩
    · have HW : Hid (¬ whole kb kt S.D n) := fun q => hc (HWH.out.1 q).1.2
      go_wp2_with fail
      go_ret
      exact Or.inr ⟨HW.out, rfl, HS5.out⟩
  · have HW : Hid (¬ whole kb kt S.D n) := fun q => hist (HWH.out.1 q).1.1
    clear hist HWH
    have hC3 := Tw.zeroTab_cel w3 w3.heap.size rfl
    obtain ⟨hst, hC4⟩ := Tw.tab_stored hC3 Tb.zero
    have HS4 : Hid (Since w ((w3.alloc (.cells Tryz.zeroCells92 92)).setCells w3.heap.size 0 (brow 73 (tcell Tb.zero)))) := (HS3.out.alloc _).setCells (HS3.out.size) _ _
    clear hC3 hC4
    have hV : tval Tb.zero = .agg (brow 73 (tcell Tb.zero)).toArray := rfl
    rw [hV]
    clear hV
    have hL := Tw.ln73 Tb.zero
    generalize brow 73 (tcell Tb.zero) = cs at *
    go_wp2_with fail
    go_ret
    exact Or.inr ⟨HW.out, rfl, HS4.out⟩
end
end Vl
end Go.Proofs.YtifnhnfjelfddaaGreatDoor
