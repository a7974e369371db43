import Derived.Test.YtlgocfgnfdnloaaGreatDoorJ14
import Derived.Test.YtlgocfgnfdnloaaGreatDoorJ18
import Derived.Test.YtlgocfgnfdnloaaGreatDoorJ36
set_option linter.unusedSimpArgs false
set_option linter.unusedVariables false
section
namespace Go.Proofs.YtlgocfgnfdnloaaGreatDoor
set_option maxRecDepth 100000
namespace Vl
open Go.RowKit
open Tw (Tb tcell tval ccell)
def isTab (kt s : ByteArray) : Prop := Tw.tail0 s ∧ Tw.rtB (Tw.rd s) = true ∧ Tw.text kt (Tw.rd s) = s.extract 0 456
theorem parse_all (kt s : ByteArray) (w : World) (hk : kt.size = 32) (hs : s.size = 500) (hT : Sm.Tab w) :
    Calls Tryz.prog 254 #[.string kt, .string s] w fun e w' => ((isTab kt s ∧ e = .returned (.tuple #[tval (Tw.rd s), .nilIface])) ∨ (¬ isTab kt s ∧ e = .returned (.tuple #[tval Tb.zero, .iface 32 (.int .i64 15)]))) ∧ Since w w' := by
  by_cases ht : Tw.tail0 s
  · by_cases hr : Tw.rtB (Tw.rd s) = true
    · by_cases he : Tw.text kt (Tw.rd s) = s.extract 0 456
      · refine (Tw.parse_long kt s w hk (by omega) (by omega) ht hT (Tw.text kt (Tw.rd s)) .nilIface _ (fun W hW => Tw.write_ok kt (Tw.rd s) W hk ((Tw.rtB_iff _).1 hr) hW) (Or.inr (Or.inr ⟨rfl, he, rfl⟩))).mono ?_
        rintro e w' ⟨rfl, h⟩
        exact ⟨Or.inl ⟨⟨ht, hr, he⟩, rfl⟩, h⟩
      · refine (Tw.parse_long kt s w hk (by omega) (by omega) ht hT (Tw.text kt (Tw.rd s)) .nilIface _ (fun W hW => Tw.write_ok kt (Tw.rd s) W hk ((Tw.rtB_iff _).1 hr) hW) (Or.inr (Or.inl ⟨rfl, he, rfl⟩))).mono ?_
        rintro e w' ⟨rfl, h⟩
        exact ⟨Or.inr ⟨fun q => he q.2.2, rfl⟩, h⟩
    · have hr2 : Tw.rtB (Tw.rd s) = false := by simpa using hr
      refine (Tw.parse_long kt s w hk (by omega) (by omega) ht hT ⟨#[]⟩ (.iface 32 (.int .i64 1)) _ (fun W hW => Tw.write_not kt (Tw.rd s) W hk hr2) (Or.inl ⟨rfl, rfl⟩)).mono ?_
      rintro e w' ⟨rfl, h⟩
      exact ⟨Or.inr ⟨fun q => hr q.2.1, rfl⟩, h⟩
  · refine (Tw.parse_tail kt s w hk (by omega) (by omega) ht).mono ?_
    rintro e w' ⟨rfl, h⟩
    exact ⟨Or.inr ⟨fun q => ht q.1, rfl⟩, h⟩
theorem slot_size (D : Dv) (n : Int) : (slotTxt D n).size = 500 := txt_size _ _
theorem vcell_both (db cb : Nat) (kb kt : ByteArray) (T U : Tb) (X Y : Nat → ByteArray) (f : Bool) (j : Nat) (hj : j < 102) :
    updl (vcell db cb kb kt T X f) 77 24 (xcell Y) j = vcell db cb kb kt T Y f j := by
  unfold updl
  by_cases h : 77 ≤ j ∧ j < 77 + 24
  · rw [if_pos h]
    have := vcell_says db cb kb kt T Y f (j - 77) (by omega)
    rw [show 77 + (j - 77) = j by omega] at this
    rw [this]
    rfl
  · rw [if_neg h]
    unfold vcell
    by_cases h4 : j < 77
    · simp only [if_pos h4]
    · have h5 : ¬ j < 101 := by omega
      simp only [if_neg h4, if_neg h5]
theorem rangeOther {w : World} {b o b' : Nat} {l : List Value} (h : w.rangeAt b o l) (hb : b' ≠ b) (o' : Nat) (vs : List Value) : (w.setCells b' o' vs).rangeAt b o l := fun j x hj => by
  rw [World.cell?_setCells_out b' _ o' w _ (fun e _ => absurd e.symm hb)]
  exact h j x hj
section
variable {w0 w : World} {vb db cb : Nat} {kb kt : ByteArray} {S : Vs} {v : Value}
set_option maxHeartbeats 8000000 in
theorem take_any (B : Base w0 kb kt) (n : Int) (hn : 0 ≤ n) (h : Vol w0 w vb db cb kb kt S v) :
    Calls Tryz.prog 187 #[.pointer (some ⟨vb, 0, none⟩), .int .i64 n] w fun e w' => (whole kb kt S.D n ∧ e = .returned (.bool true) ∧ Vto w0 w w' vb db cb kb kt { S with T := tabAt S.D n, X := saysTo kb S.D (tabAt S.D n) 24 } v) ∨ (¬ whole kb kt S.D n ∧ e = .returned (.bool false) ∧ Since w w') := by
  have HB : Hid (Base w0 kb kt) := B
  have H : Hid (Vol w0 w vb db cb kb kt S v) := h
  have hn1 : 0 ≤ n := hn
  obtain ⟨kk, hkk, hk2⟩ : ∃ k : Nat, n % 2 = k ∧ k < 2 := ⟨(n % 2).toNat, by omega, by omega⟩
  have HKK : Hid (n % 2 = (kk : Int) ∧ kk < 2) := ⟨hkk, hk2⟩
  have HST : Hid (slotTxt S.D n = txt 500 (S.D.slotBy kk (fun _ => true))) := by
    show slotTxt S.D n = _
    unfold slotTxt
    rw [hkk, Int.toNat_natCast]
  clear hkk hk2 h B hn
  go_enter Tryz.func187, Tryz.ntmps187
  go_wp2_with fail
  have H1 : Hid (Vol w0 w.drew vb db cb kb kt S v) := H.out.go (Since.refl _).drew
  have hS1 : (fun W : World => W.cell? ⟨vb, 0, none⟩ = some (.pointer (some ⟨db, 0, none⟩))) w.drew := H1.out.c0
  refine wp_region_held (S := fun W : World => W.cell? ⟨vb, 0, none⟩ = some (.pointer (some ⟨db, 0, none⟩))) (by kernel_rfl) ?_
  refine Tw.takeD (i := 0) (d := 11) (v := ?v1) rfl rfl (by kernel_rfl) (by kernel_rfl) (by kernel_rfl) (fun _ _ _ h => h) (Or.inl ⟨by rfl, ?hw1⟩) hS1 ?q1
  case hw1 => (intro w hSw; have s0 := hSw; go_simp; try with_reducible rfl)
  simp only [Act.put, List.setIfInBounds_toArray, List.set_cons_zero, List.set_cons_succ]
  refine Tw.takeD (i := 1) (d := 12) (v := ?v2) rfl rfl (by kernel_rfl) (by kernel_rfl) (by kernel_rfl) (fun _ _ _ h => h) (Or.inl ⟨by rfl, ?hw2⟩) hS1 ?q2
  case hw2 => (intro w hSw; have s0 := hSw; go_simp; try with_reducible rfl)
  simp only [Act.put, List.setIfInBounds_toArray, List.set_cons_zero, List.set_cons_succ]
  refine Tw.takeD (i := 2) (d := 13) (v := ?v3) rfl rfl (by kernel_rfl) (by kernel_rfl) (by kernel_rfl) (fun _ _ _ h => h) (Or.inl ⟨by rfl, ?hw3⟩) hS1 ?q3
  case hw3 => (intro w hSw; have s0 := hSw; go_simp; try with_reducible rfl)
  simp only [Act.put, List.setIfInBounds_toArray, List.set_cons_zero, List.set_cons_succ]
  refine Tw.takeD (i := 3) (d := 14) (v := ?v4) rfl rfl (by kernel_rfl) (by kernel_rfl) (by kernel_rfl) (fun _ _ _ h => h) (Or.inl ⟨by rfl, ?hw4⟩) hS1 ?q4
  case hw4 => (intro w hSw; have s0 := hSw; go_simp; try with_reducible rfl)
  simp only [Act.put, List.setIfInBounds_toArray, List.set_cons_zero, List.set_cons_succ]
  refine Tw.takeD (i := 4) (d := 15) (v := ?v5) rfl rfl (by kernel_rfl) (by kernel_rfl) (by kernel_rfl) (fun _ _ _ h => h) (Or.inl ⟨by rfl, ?hw5⟩) hS1 ?q5
  case hw5 => (intro w hSw; have s0 := hSw; go_simp; try with_reducible rfl)
  simp only [Act.put, List.setIfInBounds_toArray, List.set_cons_zero, List.set_cons_succ]
  refine wpAnyH_ready (rs := [5]) (by kernel_rfl) (by simp) (AllReadyH.cons rfl (fun K hK => ?_) AllReadyH.nil)
  rw [if_pos (by rfl)]
  go_simp
  refine (slotOf_any n _ hn1).mono ?_
  rintro e w1 ⟨rfl, hw1⟩
  rw [hw1]
  clear hw1 w1
  simp only []
  refine hK.out _ _ hS1 (fun _ => ?_)
  clear hK K
  (try simp only [Act.put, List.setIfInBounds_toArray, List.set_cons_zero, List.set_cons_succ])
  refine wpAnyH_ready (rs := [6]) (by kernel_rfl) (by simp) (AllReadyH.cons rfl (fun K hK => ?_) AllReadyH.nil)
  rw [if_pos (by rfl)]
  go_simp
  rw [HKK.out.1]
  refine (get_any S.D v db kk _ H1.out.dev HKK.out.2).mono ?_
  rintro e w2 ⟨rfl, h2⟩
  simp only []
  have H2 : Hid (Vol w0 w2 vb db cb kb kt S v) := H1.out.go h2
  have HS2 : Hid (Since w w2) := (Since.refl _).drew.trans h2
  have hS2 : (fun W : World => W.cell? ⟨vb, 0, none⟩ = some (.pointer (some ⟨db, 0, none⟩))) w2 := H2.out.c0
  clear h2
  refine hK.out _ _ hS2 (fun _ => ?_)
  clear hK K
  (try simp only [Act.put, List.setIfInBounds_toArray, List.set_cons_zero, List.set_cons_succ])
  refine Tw.takeD (i := 7) (d := 10) (v := ?v10) rfl rfl (by kernel_rfl) (by kernel_rfl) (by kernel_rfl) (fun _ _ _ h => h) (Or.inl ⟨by rfl, ?hw10⟩) hS2 ?q10
  case hw10 => (intro w hSw; have s0 := hSw; go_simp; try with_reducible rfl)
  simp only [Act.put, List.setIfInBounds_toArray, List.set_cons_zero, List.set_cons_succ]
  refine Tw.takeD (i := 8) (d := 18) (v := ?v11) rfl rfl (by kernel_rfl) (by kernel_rfl) (by kernel_rfl) (fun _ _ _ h => h) (Or.inl ⟨by rfl, ?hw11⟩) hS2 ?q11
  case hw11 => (intro w hSw; have s0 := hSw; go_simp; try with_reducible rfl)
  simp only [Act.put, List.setIfInBounds_toArray, List.set_cons_zero, List.set_cons_succ]
  refine Tw.takeD (i := 9) (d := 19) (v := ?v12) rfl rfl (by kernel_rfl) (by kernel_rfl) (by kernel_rfl) (fun _ _ _ h => h) (Or.inl ⟨by rfl, ?hw12⟩) hS2 ?q12
  case hw12 => (intro w hSw; have s0 := hSw; go_simp; try with_reducible rfl)
  simp only [Act.put, List.setIfInBounds_toArray, List.set_cons_zero, List.set_cons_succ]
  refine Tw.takeD (i := 10) (d := 5) (v := ?v13) rfl rfl (by kernel_rfl) (by kernel_rfl) (by kernel_rfl) (fun _ _ _ h => h) (Or.inl ⟨by rfl, ?hw13⟩) hS2 ?q13
  case hw13 => (intro w hSw; have s0 := hSw; go_simp; try with_reducible rfl)
  simp only [Act.put, List.setIfInBounds_toArray, List.set_cons_zero, List.set_cons_succ]
  refine Tw.takeD (i := 11) (d := 6) (v := ?v14) rfl rfl (by kernel_rfl) (by kernel_rfl) (by kernel_rfl) (fun _ _ _ h => h) (Or.inl ⟨by rfl, ?hw14⟩) hS2 ?q14
  case hw14 => (intro w hSw; have s0 := hSw; go_simp; try with_reducible rfl)
  simp only [Act.put, List.setIfInBounds_toArray, List.set_cons_zero, List.set_cons_succ]
  refine wpAnyH_done (by kernel_rfl) ?_ _
  rw [← HST.out]
  clear hS1 hS2 H1
  have HWH : Hid (whole kb kt S.D n ↔ (isTab kt (slotTxt S.D n) ∧ (tabAt S.D n).count = n) ∧ ∀ i, i < 24 → there kb S.D (tabAt S.D n) i) := by
    show whole kb kt S.D n ↔ _
    unfold whole tabOk isTab tabAt
    constructor
    · rintro ⟨⟨a, b, c, d⟩, e⟩; exact ⟨⟨⟨a, b, c⟩, d⟩, e⟩
    · rintro ⟨⟨⟨a, b, c⟩, d⟩, e⟩; exact ⟨⟨a, b, c, d⟩, e⟩
  have HZ : Hid ((slotTxt S.D n).size = 500) := slot_size _ _
  have HTA : Hid (Tw.rd (slotTxt S.D n) = tabAt S.D n) := show Tw.rd (slotTxt S.D n) = tabAt S.D n from rfl
  have HPA : Hid (∀ W, Sm.Tab W → Calls Tryz.prog 254 #[.string kt, .string (slotTxt S.D n)] W fun e w' => ((isTab kt (slotTxt S.D n) ∧ e = .returned (.tuple #[tval (tabAt S.D n), .nilIface])) ∨ (¬ isTab kt (slotTxt S.D n) ∧ e = .returned (.tuple #[tval Tb.zero, .iface 32 (.int .i64 15)]))) ∧ Since W w') := fun W hW => parse_all kt (slotTxt S.D n) W HB.out.kt HZ.out hW
  generalize slotTxt S.D n = sl at *
  generalize hTT : tabAt S.D n = T at *
  have HTT : Hid (tabAt S.D n = T) := hTT
  clear hTT
  have q3 := H2.out.c3
  go_wp2_with fail
  refine (HPA.out _ (H2.out.tabW HB.out)).mono ?_
  rintro e w3 ⟨hor, h3⟩
  have H3 : Hid (Vol w0 w3 vb db cb kb kt S v) := H2.out.go h3
  have HS3 : Hid (Since w w3) := HS2.out.trans h3
  clear h3 q3 H2 HS2 HPA
  rcases hor with ⟨hist, rfl⟩ | ⟨hist, rfl⟩
  · have HIST : Hid (isTab kt sl) := hist
    clear hist
    have hC3 := Tw.zeroTab_cel w3 w3.heap.size rfl
    obtain ⟨hst, hC4⟩ := Tw.tab_stored hC3 T
    have HC4 : Hid (Cel ((w3.alloc (.cells Tryz.zeroCells72 72)).setCells w3.heap.size 0 (brow 73 (tcell T))) w3.heap.size 73 (tcell T)) := hC4
    have HS4 : Hid (Since w3 ((w3.alloc (.cells Tryz.zeroCells72 72)).setCells w3.heap.size 0 (brow 73 (tcell T)))) := ((Since.refl w3).alloc _).setCells (Nat.le_refl _) _ _
    clear hC3 hC4
    have c0 : ((w3.alloc (.cells Tryz.zeroCells72 72)).setCells w3.heap.size 0 (brow 73 (tcell T))).cell? ⟨w3.heap.size, 0, none⟩ = some (.int .i64 T.count) := HC4.out.cell 0 (by omega)
    have hL := Tw.ln73 T
    have hV : tval T = .agg (brow 73 (tcell T)).toArray := rfl
    rw [hV]
    have HOP : Hid (∀ W, Vol w0 W vb db cb kb kt S v → Calls Tryz.prog 255 #[.pointer (some ⟨vb, 0, none⟩), .agg (brow 73 (tcell T)).toArray] W fun e w' => (((∀ i, i < 24 → there kb S.D T i) ∧ e = .returned (.tuple #[.agg (brow 24 (xcell (saysTo kb S.D T 24))).toArray, .bool true])) ∨ ((¬ ∀ i, i < 24 → there kb S.D T i) ∧ e = .returned (.tuple #[.agg (brow 24 (xcell (fun _ => ⟨#[]⟩))).toArray, .bool false]))) ∧ Since W w') := fun W hW => opened_any HB.out T hW
    clear hV
    have hR4 := Tw.tab_all HC4.out
    generalize hcs : brow 73 (tcell T) = cs at *
    have HCS : Hid (brow 73 (tcell T) = cs) := hcs
    clear hcs
    generalize ((w3.alloc (.cells Tryz.zeroCells72 72)).setCells w3.heap.size 0 cs) = w4 at *
    have H4 : Hid (Vol w0 w4 vb db cb kb kt S v) := H3.out.go HS4.out
    have HS5 : Hid (Since w w4) := HS3.out.trans HS4.out
    by_cases hc : T.count = n
    · have HCN : Hid (T.count = n) := hc
      rw [hc] at c0
      clear hc
      go_wp2_with (refine wpList_load_mid (by rfl) 72 _ (by rfl) w3.heap.size 0 (by rfl) _ _ hR4 Tryz.underlying72 (by rfl) (by rw [hL]; kernel_rfl) ?_)
      refine (HOP.out _ H4.out).mono ?_
      rintro e w5 ⟨hor, h5⟩
      have HC5 : Hid (Cel w5 w3.heap.size 73 (tcell T)) := HC4.out.since h5
      have H5 : Hid (Vol w0 w5 vb db cb kb kt S v) := H4.out.go h5
      have HS6 : Hid (Since w w5) := HS5.out.trans h5
      have HN5 : Hid (vb ≠ w3.heap.size ∧ vb < w5.heap.size) := by
        refine ⟨fun e => ?_, H5.out.cel.lt (by omega)⟩
        have := H3.out.cel.lt (by omega)
        omega
      clear h5 hR4 c0 hst HC4 HS4 H4 HS5 HOP H3 HS3
      rcases hor with ⟨hth, rfl⟩ | ⟨hth, rfl⟩
      · have HW : Hid (whole kb kt S.D n) := HWH.out.2 ⟨⟨HIST.out, HCN.out⟩, hth⟩
        clear hth HWH
        have hzc := z24_cel w5 w5.heap.size rfl
        have hC6 := (x_stored hzc (saysTo kb S.D T 24)).2
        have hL5 := ln24 (saysTo kb S.D T 24)
        have h15 : (brow 24 (xcell (saysTo kb S.D T 24))).toArray.all (·.oneCell') = true := all_oneCell_toArray (brow_one _ _ (fun j _ => xcell_one _ j))
        have hth5 : (w5.alloc (.cells z24 73)).there w5.heap.size 0 (brow 24 (xcell (saysTo kb S.D T 24))).toArray.size := by
          have e5 : ∀ l : List Value, l.length = 24 → l.toArray.size = 24 := fun l hl => by rw [List.size_toArray]; exact hl
          rw [e5 _ hL5]
          exact hzc.there 0 24 (by omega)
        have HC6 : Hid (Cel ((w5.alloc (.cells z24 73)).setCells w5.heap.size 0 (brow 24 (xcell (saysTo kb S.D T 24)))) w5.heap.size 24 (xcell (saysTo kb S.D T 24))) := hC6
        have HS7 : Hid (Since w5 ((w5.alloc (.cells z24 73)).setCells w5.heap.size 0 (brow 24 (xcell (saysTo kb S.D T 24))))) := ((Since.refl w5).alloc _).setCells (Nat.le_refl _) _ _
        clear hzc hC6
        generalize hcx : brow 24 (xcell (saysTo kb S.D T 24)) = cx at *
        have HCX : Hid (brow 24 (xcell (saysTo kb S.D T 24)) = cx) := hcx
        clear hcx
        go_wp2_with (refine wpList_store_mid (by rfl) 73 _ _ (by rfl) w5.heap.size 0 cx.toArray (by rfl) (by rfl) hth5 (by rw [List.size_toArray, hL5]; kernel_rfl) h15 ?_)
        have hz24 : z24 = #[.string ⟨#[]⟩, .string ⟨#[]⟩, .string ⟨#[]⟩, .string ⟨#[]⟩, .string ⟨#[]⟩, .string ⟨#[]⟩, .string ⟨#[]⟩, .string ⟨#[]⟩, .string ⟨#[]⟩, .string ⟨#[]⟩, .string ⟨#[]⟩, .string ⟨#[]⟩, .string ⟨#[]⟩, .string ⟨#[]⟩, .string ⟨#[]⟩, .string ⟨#[]⟩, .string ⟨#[]⟩, .string ⟨#[]⟩, .string ⟨#[]⟩, .string ⟨#[]⟩, .string ⟨#[]⟩, .string ⟨#[]⟩, .string ⟨#[]⟩, .string ⟨#[]⟩] := rfl
        rw [← hz24]
        clear hz24 hth5 h15
        generalize (w5.alloc (.cells z24 73)).setCells w5.heap.size 0 cx = w6 at *
        have H6 : Hid (Vol w0 w6.drew vb db cb kb kt S v) := (H5.out.go HS7.out).go (Since.refl _).drew
        have HS8 : Hid (Since w w6.drew) := (HS6.out.trans HS7.out).drew
        have HR6 : Hid (w6.drew.rangeAt w3.heap.size 0 cs) := by
          have := Tw.tab_all (HC5.out.since (HS7.out.trans (Since.refl w6).drew))
          rw [HCS.out] at this
          exact this
        have HX6 : Hid (w6.drew.rangeAt w5.heap.size 0 cx) := by
          have := x_all (HC6.out.since (Since.refl w6).drew)
          rw [HCX.out] at this
          exact this
        have hst6 := H6.out.cel.store Tryz.prog 4 73 (by omega) (tcell T) (fun j _ => Tw.tcell_one _ j)
        rw [HCS.out] at hst6
        have HC7 : Hid (Cel (w6.drew.setCells vb 4 cs) vb 102 (vcell db cb kb kt T S.X S.dead)) := by
          have := (H6.out.cel.setRow 4 73 (by omega) (tcell T)).congr (fun j hj => vcell_tabs db cb kb kt S.T T S.X S.dead j hj)
          rw [HCS.out] at this
          exact this
        have hst7 := HC7.out.store Tryz.prog 77 24 (by omega) (xcell (saysTo kb S.D T 24)) (fun j _ => xcell_one _ j)
        rw [HCX.out] at hst7
        have HC8 : Hid (Cel ((w6.drew.setCells vb 4 cs).setCells vb 77 cx) vb 102 (vcell db cb kb kt T (saysTo kb S.D T 24) S.dead)) := by
          have := (HC7.out.setRow 77 24 (by omega) (xcell (saysTo kb S.D T 24))).congr (fun j hj => vcell_both db cb kb kt T T S.X (saysTo kb S.D T 24) S.dead j hj)
          rw [HCX.out] at this
          exact this
        have HF8 : Hid (Fr vb none w6.drew ((w6.drew.setCells vb 4 cs).setCells vb 77 cx)) := (Fr.setCells _ _ _ _ _).trans' (Fr.setCells _ _ _ _ _)
        have HTY8 : Hid (Ty ((w6.drew.setCells vb 4 cs).setCells vb 77 cx) vb 198) := Ty.setCells _ _ _ _ (Ty.setCells _ _ _ _ H6.out.ty)
        have HNB : Hid (vb ≠ w3.heap.size ∧ vb ≠ w5.heap.size) := ⟨HN5.out.1, by have := HN5.out.2; omega⟩
        have hS6 : (fun W : World => W.rangeAt w3.heap.size 0 cs ∧ W.rangeAt w5.heap.size 0 cx) w6.drew := ⟨HR6.out, HX6.out⟩
        have HS7b : Hid ((fun W : World => W.rangeAt w3.heap.size 0 cs ∧ W.rangeAt w5.heap.size 0 cx) (w6.drew.setCells vb 4 cs)) := ⟨rangeOther HR6.out HNB.out.1 _ _, rangeOther HX6.out HNB.out.2 _ _⟩
        have HS8b : Hid ((fun W : World => W.rangeAt w3.heap.size 0 cs ∧ W.rangeAt w5.heap.size 0 cx) ((w6.drew.setCells vb 4 cs).setCells vb 77 cx)) := ⟨rangeOther (rangeOther HR6.out HNB.out.1 _ _) HNB.out.1 _ _, rangeOther (rangeOther HX6.out HNB.out.2 _ _) HNB.out.2 _ _⟩
        clear HC5 HC6 HS7 HS6 H5 HN5
        refine wp_region_held (S := fun W : World => W.rangeAt w3.heap.size 0 cs ∧ W.rangeAt w5.heap.size 0 cx) (by kernel_rfl) ?_
        refine Tw.takeD (i := 0) (d := 47) (v := ?v16) rfl rfl (by kernel_rfl) (by kernel_rfl) (by kernel_rfl) (fun _ _ _ h => h) (Or.inl ⟨by rfl, ?hw16⟩) hS6 ?q16
        case hw16 => (intro w hSw; obtain ⟨s0, s1⟩ := hSw; go_simp; try with_reducible rfl)
        simp only [Act.put, List.setIfInBounds_toArray, List.set_cons_zero, List.set_cons_succ]
        refine Tw.takeD (i := 1) (d := 48) (v := ?v17) rfl rfl (by kernel_rfl) (by kernel_rfl) (by kernel_rfl) (fun _ _ _ h => h) (Or.inl ⟨by rfl, ?hw17⟩) hS6 ?q17
        case hw17 => (intro w hSw; obtain ⟨s0, s1⟩ := hSw; go_simp; try with_reducible rfl)
        simp only [Act.put, List.setIfInBounds_toArray, List.set_cons_zero, List.set_cons_succ]
        refine Tw.takeD (i := 2) (d := 49) (v := .agg cs.toArray) rfl rfl (by kernel_rfl) (by kernel_rfl) (by kernel_rfl) (fun _ _ _ h => h) (yieldsIf_load_mid (by rfl) 72 _ (by rfl) w3.heap.size 0 (by rfl) _ _ (fun w hSw => hSw.1) Tryz.underlying72 (by rfl) (by rw [hL]; kernel_rfl)) hS6 ?q18
        simp only [Act.put, List.setIfInBounds_toArray, List.set_cons_zero, List.set_cons_succ]
        refine Tw.takeD (i := 3) (d := 50) (v := .agg cx.toArray) rfl rfl (by kernel_rfl) (by kernel_rfl) (by kernel_rfl) (fun _ _ _ h => h) (yieldsIf_load_mid (by rfl) 73 _ (by rfl) w5.heap.size 0 (by rfl) _ _ (fun w hSw => hSw.2) Tryz.underlying73 (by rfl) (by rw [hL5]; kernel_rfl)) hS6 ?q19
        simp only [Act.put, List.setIfInBounds_toArray, List.set_cons_zero, List.set_cons_succ]
        refine Tw.takeD (i := 4) (d := 51) (v := ?v20) rfl rfl (by kernel_rfl) (by kernel_rfl) (by kernel_rfl) (fun _ _ _ h => h) (Or.inl ⟨by rfl, ?hw20⟩) hS6 ?q20
        case hw20 => (intro w hSw; obtain ⟨s0, s1⟩ := hSw; go_simp; try with_reducible rfl)
        simp only [Act.put, List.setIfInBounds_toArray, List.set_cons_zero, List.set_cons_succ]
        refine Tw.takeD (i := 5) (d := 52) (v := ?v21) rfl rfl (by kernel_rfl) (by kernel_rfl) (by kernel_rfl) (fun _ _ _ h => h) (Or.inl ⟨by rfl, ?hw21⟩) hS6 ?q21
        case hw21 => (intro w hSw; obtain ⟨s0, s1⟩ := hSw; go_simp; try with_reducible rfl)
        simp only [Act.put, List.setIfInBounds_toArray, List.set_cons_zero, List.set_cons_succ]
        refine wpAnyH_ready (rs := [6]) (by kernel_rfl) (by simp) (AllReadyH.cons rfl (fun K hK => ?_) AllReadyH.nil)
        rw [if_pos (by rfl)]
        go_simp
        have hS7 : (fun W : World => W.rangeAt w3.heap.size 0 cs ∧ W.rangeAt w5.heap.size 0 cx) (w6.drew.setCells vb 4 cs) := HS7b.out
        refine hK.out _ _ hS7 (fun _ => ?_)
        clear hK K
        (try simp only [Act.put, List.setIfInBounds_toArray, List.set_cons_zero, List.set_cons_succ])
        refine Tw.takeD (i := 7) (d := 53) (v := ?v24) rfl rfl (by kernel_rfl) (by kernel_rfl) (by kernel_rfl) (fun _ _ _ h => h) (Or.inl ⟨by rfl, ?hw24⟩) hS7 ?q24
        case hw24 => (intro w hSw; obtain ⟨s0, s1⟩ := hSw; go_simp; try with_reducible rfl)
        simp only [Act.put, List.setIfInBounds_toArray, List.set_cons_zero, List.set_cons_succ]
        refine Tw.takeD (i := 8) (d := 54) (v := ?v25) rfl rfl (by kernel_rfl) (by kernel_rfl) (by kernel_rfl) (fun _ _ _ h => h) (Or.inl ⟨by rfl, ?hw25⟩) hS7 ?q25
        case hw25 => (intro w hSw; obtain ⟨s0, s1⟩ := hSw; go_simp; try with_reducible rfl)
        simp only [Act.put, List.setIfInBounds_toArray, List.set_cons_zero, List.set_cons_succ]
        refine wpAnyH_ready (rs := [9]) (by kernel_rfl) (by simp) (AllReadyH.cons rfl (fun K hK => ?_) AllReadyH.nil)
        rw [if_pos (by rfl)]
        go_simp
        have hS8 : (fun W : World => W.rangeAt w3.heap.size 0 cs ∧ W.rangeAt w5.heap.size 0 cx) ((w6.drew.setCells vb 4 cs).setCells vb 77 cx) := HS8b.out
        refine hK.out _ _ hS8 (fun _ => ?_)
        clear hK K
        (try simp only [Act.put, List.setIfInBounds_toArray, List.set_cons_zero, List.set_cons_succ])
        refine wpAnyH_done (by kernel_rfl) ?_ _
        clear hst6 hst7 hS6 hS7 hS8 HS7b HS8b
        generalize (w6.drew.setCells vb 4 cs).setCells vb 77 cx = w7 at *
        go_wp2_with fail
        go_ret
        rw [HTT.out]
        exact Or.inl ⟨HW.out, rfl, Vto.pre HS8.out (H6.out.celTo HC8.out HF8.out HTY8.out)⟩
      · have HW : Hid (¬ whole kb kt S.D n) := fun q => hth (HWH.out.1 q).2
        clear hth HWH
        have hzc := z24_cel w5 w5.heap.size rfl
        have hC6 := (x_stored hzc (fun _ => ⟨#[]⟩)).2
        have hL5 := ln24 (fun _ => ⟨#[]⟩)
        have h15 : (brow 24 (xcell (fun _ => ⟨#[]⟩))).toArray.all (·.oneCell') = true := all_oneCell_toArray (brow_one _ _ (fun j _ => xcell_one _ j))
        have hth5 : (w5.alloc (.cells z24 73)).there w5.heap.size 0 (brow 24 (xcell (fun _ => ⟨#[]⟩))).toArray.size := by
          have e5 : ∀ l : List Value, l.length = 24 → l.toArray.size = 24 := fun l hl => by rw [List.size_toArray]; exact hl
          rw [e5 _ hL5]
          exact hzc.there 0 24 (by omega)
        have HC6 : Hid (Cel ((w5.alloc (.cells z24 73)).setCells w5.heap.size 0 (brow 24 (xcell (fun _ => ⟨#[]⟩)))) w5.heap.size 24 (xcell (fun _ => ⟨#[]⟩))) := hC6
        have HS7 : Hid (Since w5 ((w5.alloc (.cells z24 73)).setCells w5.heap.size 0 (brow 24 (xcell (fun _ => ⟨#[]⟩))))) := ((Since.refl w5).alloc _).setCells (Nat.le_refl _) _ _
        clear hzc hC6
        generalize hcx : brow 24 (xcell (fun _ => ⟨#[]⟩)) = cx at *
        have HCX : Hid (brow 24 (xcell (fun _ => ⟨#[]⟩)) = cx) := hcx
        clear hcx
        have HS8 : Hid (Since w ((w5.alloc (.cells z24 73)).setCells w5.heap.size 0 cx)) := HS6.out.trans HS7.out
        go_wp2_with (refine wpList_store_mid (by rfl) 73 _ _ (by rfl) w5.heap.size 0 cx.toArray (by rfl) (by rfl) hth5 (by rw [List.size_toArray, hL5]; kernel_rfl) h15 ?_)
        go_ret
        exact Or.inr ⟨HW.out, rfl, HS8.out⟩
    · have HW : Hid (¬ whole kb kt S.D n) := fun q => hc (HWH.out.1 q).1.2
      go_wp2_with fail
      go_ret
      exact Or.inr ⟨HW.out, rfl, HS5.out⟩
  · have HW : Hid (¬ whole kb kt S.D n) := fun q => hist (HWH.out.1 q).1.1
    clear hist HWH
    have hC3 := Tw.zeroTab_cel w3 w3.heap.size rfl
    obtain ⟨hst, hC4⟩ := Tw.tab_stored hC3 Tb.zero
    have HS4 : Hid (Since w ((w3.alloc (.cells Tryz.zeroCells72 72)).setCells w3.heap.size 0 (brow 73 (tcell Tb.zero)))) := (HS3.out.alloc _).setCells (HS3.out.size) _ _
    clear hC3 hC4
    have hV : tval Tb.zero = .agg (brow 73 (tcell Tb.zero)).toArray := rfl
    rw [hV]
    clear hV
    have hL := Tw.ln73 Tb.zero
    generalize brow 73 (tcell Tb.zero) = cs at *
    go_wp2_with fail
    go_ret
    exact Or.inr ⟨HW.out, rfl, HS4.out⟩
end
end Vl
end Go.Proofs.YtlgocfgnfdnloaaGreatDoor
end
section
namespace Go.Proofs.YtlgocfgnfdnloaaGreatDoor
set_option maxRecDepth 100000
namespace Vl
open Go.RowKit
open Tw (Tb tcell tval ccell)
section
variable {w0 w : World} {vb db cb : Nat} {kb kt : ByteArray} {S : Vs} {v : Value}
def OpenTo (kb kt : ByteArray) (S : Vs) (r : Int) (S' : Vs) : Prop :=
  (whole kb kt S.D (S.c + 1) ∧ r = 0 ∧ S' = { S with T := tabAt S.D (S.c + 1), X := saysTo kb S.D (tabAt S.D (S.c + 1)) 24, c := S.c + 1 }) ∨ (¬ whole kb kt S.D (S.c + 1) ∧ S.c = 0 ∧ r = 0 ∧ S' = S) ∨ (¬ whole kb kt S.D (S.c + 1) ∧ S.c ≠ 0 ∧ whole kb kt S.D S.c ∧ r = 0 ∧ S' = { S with T := tabAt S.D S.c, X := saysTo kb S.D (tabAt S.D S.c) 24 }) ∨ (¬ whole kb kt S.D (S.c + 1) ∧ S.c ≠ 0 ∧ ¬ whole kb kt S.D S.c ∧ r = 15 ∧ S' = S)
set_option maxHeartbeats 4000000 in
theorem resume_any (B : Base w0 kb kt) (hc : 0 ≤ S.c ∧ S.c < 1000000000) (h : Vol w0 w vb db cb kb kt S v) :
    Calls Tryz.prog 121 #[.pointer (some ⟨vb, 0, none⟩)] w fun e w' => ∃ r S', e = .returned (ev r) ∧ OpenTo kb kt S r S' ∧ Vto w0 w w' vb db cb kb kt S' v := by
  have HB : Hid (Base w0 kb kt) := B
  have H : Hid (Vol w0 w vb db cb kb kt S v) := h
  obtain ⟨hc0, hc1⟩ := hc
  have q1 := h.c1
  have HT1 : Hid (∀ W V SS, Vol w0 W vb db cb kb kt SS V → Calls Tryz.prog 187 #[.pointer (some ⟨vb, 0, none⟩), .int .i64 (S.c + 1)] W fun e w' => (whole kb kt SS.D (S.c + 1) ∧ e = .returned (.bool true) ∧ Vto w0 W w' vb db cb kb kt { SS with T := tabAt SS.D (S.c + 1), X := saysTo kb SS.D (tabAt SS.D (S.c + 1)) 24 } V) ∨ (¬ whole kb kt SS.D (S.c + 1) ∧ e = .returned (.bool false) ∧ Since W w')) := fun W V SS hV => take_any B (S.c + 1) (by omega) hV
  have HT0 : Hid (∀ W V SS, Vol w0 W vb db cb kb kt SS V → Calls Tryz.prog 187 #[.pointer (some ⟨vb, 0, none⟩), .int .i64 S.c] W fun e w' => (whole kb kt SS.D S.c ∧ e = .returned (.bool true) ∧ Vto w0 W w' vb db cb kb kt { SS with T := tabAt SS.D S.c, X := saysTo kb SS.D (tabAt SS.D S.c) 24 } V) ∨ (¬ whole kb kt SS.D S.c ∧ e = .returned (.bool false) ∧ Since W w')) := fun W V SS hV => take_any B S.c hc0 hV
  clear h B
  go_enter Tryz.func121, Tryz.ntmps121
  go_wp2_with fail
  refine (Mt.get_any cb S.c _ (H.out.ctr.cell 0 (by omega))).mono ?_
  rintro e wx ⟨rfl, hw⟩
  rw [hw]
  clear hw wx
  go_wp2_with fail
  refine (HT1.out _ _ _ H.out).mono ?_
  rintro e w1 (⟨hw1, rfl, h1⟩ | ⟨hw1, rfl, h1⟩)
  · have HW : Hid (whole kb kt S.D (S.c + 1)) := hw1
    obtain ⟨v1, h1v, F1⟩ := h1.cont
    have H1 : Hid (Vol w0 w1 vb db cb kb kt { S with T := tabAt S.D (S.c + 1), X := saysTo kb S.D (tabAt S.D (S.c + 1)) 24 } v1) := h1v
    have HF1 : Hid (∀ w' S', Vto w0 w1 w' vb db cb kb kt S' v1 → Vto w0 w w' vb db cb kb kt S' v) := F1
    clear hw1 h1 h1v F1 q1
    have q2 := H1.out.c1
    go_wp2_with fail
    refine (Mt.raise_up cb S.c (S.c + 1) _ (H1.out.ctr.cell 0 (by omega)) (H1.out.ctr.frozen 0 (by omega)) (by omega)).mono ?_
    rintro e w2 ⟨rfl, h2⟩
    have HT2 : Hid (Vto w0 w w2 vb db cb kb kt { S with T := tabAt S.D (S.c + 1), X := saysTo kb S.D (tabAt S.D (S.c + 1)) 24, c := S.c + 1 } v) := by
      rw [h2]
      exact HF1.out _ _ (H1.out.ctrTo (c' := S.c + 1))
    clear h2
    go_wp2_with fail
    go_ret
    exact ⟨0, _, by rw [ev0]; rfl, Or.inl ⟨HW.out, rfl, rfl⟩, HT2.out⟩
  · have HW : Hid (¬ whole kb kt S.D (S.c + 1)) := hw1
    have H1 : Hid (Vol w0 w1 vb db cb kb kt S v) := H.out.go h1
    have HS1 : Hid (Since w w1) := h1
    clear hw1 h1 q1
    by_cases h0 : S.c = 0
    · have HC : Hid (S.c = 0) := h0
      go_wp2_with fail
      go_ret
      exact ⟨0, S, by rw [ev0]; rfl, Or.inr (Or.inl ⟨HW.out, HC.out, rfl, rfl⟩), H1.out.self |> Vto.pre HS1.out⟩
    · have HC : Hid (S.c ≠ 0) := h0
      go_wp2_with fail
      refine (HT0.out _ _ _ H1.out).mono ?_
      rintro e w2 (⟨hw2, rfl, h2⟩ | ⟨hw2, rfl, h2⟩)
      · have HW2 : Hid (whole kb kt S.D S.c) := hw2
        have HT2 : Hid (Vto w0 w w2 vb db cb kb kt { S with T := tabAt S.D S.c, X := saysTo kb S.D (tabAt S.D S.c) 24 } v) := Vto.pre HS1.out h2
        clear hw2 h2
        go_wp2_with fail
        go_ret
        exact ⟨0, _, by rw [ev0]; rfl, Or.inr (Or.inr (Or.inl ⟨HW.out, HC.out, HW2.out, rfl, rfl⟩)), HT2.out⟩
      · have HW2 : Hid (¬ whole kb kt S.D S.c) := hw2
        have HS2 : Hid (Since w w2) := HS1.out.trans h2
        clear hw2 h2
        go_wp2_with fail
        go_ret
        exact ⟨15, S, by rw [evn 15 (by decide)]; rfl, Or.inr (Or.inr (Or.inr ⟨HW.out, HC.out, HW2.out, rfl, rfl⟩)), H.out.to HS2.out⟩
end
def kbOf (secret : ByteArray) : ByteArray := Mt.keyOf secret Mt.wBlocks
def ktOf (secret : ByteArray) : ByteArray := Mt.keyOf secret Mt.wTables
theorem keyOf_size (s u : ByteArray) : (Mt.keyOf s u).size = 32 := by
  unfold Mt.keyOf
  rw [strOfNums_size]
  rfl
end Vl
end Go.Proofs.YtlgocfgnfdnloaaGreatDoor
end
section
namespace Go.Proofs.YtlgocfgnfdnloaaGreatDoor
set_option maxRecDepth 100000
namespace Vl
open Go.RowKit
open Tw (Tb tcell tval ccell)
def KeyB (s k : ByteArray) (u : Int) : Prop := ∀ W, Sm.Tab W → Calls Tryz.prog 186 #[.string s, .int .u8 u] W fun e w' => e = .returned (.tuple #[.string k, .nilIface]) ∧ Since W w'
theorem keyB (s : ByteArray) (h : s.size = 16) : KeyB s (kbOf s) 98 := fun W hW => Mt.key_hit s 98 Mt.wBlocks W h (Or.inl ⟨rfl, rfl⟩) hW
theorem keyT (s : ByteArray) (h : s.size = 16) : KeyB s (ktOf s) 116 := fun W hW => Mt.key_hit s 116 Mt.wTables W h (Or.inr ⟨rfl, rfl⟩) hW
set_option maxHeartbeats 4000000 in
theorem keyed_any (s : ByteArray) (w : World) (h : s.size = 16) (hT : Sm.Tab w) :
    Calls Tryz.prog 120 #[.string s] w fun e w' => ∃ w1, e = .returned (.tuple #[.pointer (some ⟨w1.heap.size, 0, none⟩), .nilIface]) ∧ Since w w1 ∧ w' = w1.alloc (.cells ((Tryz.zeroCells198.setIfInBounds 2 (.string (kbOf s))).setIfInBounds 3 (.string (ktOf s))) 198) := by
  have HKB : Hid (KeyB s (kbOf s) 98) := keyB s h
  have HKT : Hid (KeyB s (ktOf s) 116) := keyT s h
  have HT : Hid (Sm.Tab w) := hT
  clear h hT
  generalize kbOf s = kb at *
  generalize ktOf s = kt at *
  go_enter Tryz.func120, Tryz.ntmps120
  go_wp2_with fail
  refine (HKB.out _ HT.out).mono ?_
  rintro e w1 ⟨rfl, h1⟩
  have HS1 : Hid (Since w w1) := h1
  clear h1
  go_wp2_with fail
  refine (HKT.out _ (HT.out.since HS1.out)).mono ?_
  rintro e w2 ⟨rfl, h2⟩
  have HS2 : Hid (Since w w2) := HS1.out.trans h2
  clear h2
  go_wp2_with fail
  go_ret2
  exact ⟨w2, rfl, HS2.out, rfl⟩
structure DC (w0 w : World) (db cb : Nat) (D : Dv) (c : Int) (v : Value) : Prop where
  dev : Dev w db D v
  ctr : Cel w cb 1 (fun _ => .int .i64 c)
  ne : db ≠ cb
  own : v.ownBlock ≠ some cb
  since : Since w0 w
  lo : w0.heap.size ≤ db ∧ w0.heap.size ≤ cb ∧ ∀ k, v.ownBlock = some k → w0.heap.size ≤ k
theorem DC.go {w0 w w' : World} {db cb : Nat} {D : Dv} {c : Int} {v : Value} (h : DC w0 w db cb D c v) (hs : Since w w') : DC w0 w' db cb D c v := ⟨h.dev.since hs, h.ctr.since hs, h.ne, h.own, h.since.trans hs, h.lo⟩
theorem Vol.dc {w0 w : World} {vb db cb : Nat} {kb kt : ByteArray} {S : Vs} {v : Value} (h : Vol w0 w vb db cb kb kt S v) : DC w0 w db cb S.D S.c v := ⟨h.dev, h.ctr, h.ne.2.2, h.own.2, h.since, h.lo.2⟩
theorem zeroVol_get (j : Nat) (hj : j < 102) : Tryz.zeroCells198[j]? = some (if j = 0 ∨ j = 1 then .pointer none else vcell 0 0 ⟨#[]⟩ ⟨#[]⟩ Tb.zero (fun _ => ⟨#[]⟩) false j) := by
  have hr : Tryz.zeroCells198.toList = brow 102 (fun j => if j = 0 ∨ j = 1 then .pointer none else vcell 0 0 ⟨#[]⟩ ⟨#[]⟩ Tb.zero (fun _ => ⟨#[]⟩) false j) := by kernel_rfl
  rw [← Array.getElem?_toList, hr]
  exact brow_get _ _ _ hj
theorem newVol (w : World) (kb kt : ByteArray) (db cb : Nat) (b : Nat) (hb : b = w.heap.size) :
    Cel (((w.alloc (.cells ((Tryz.zeroCells198.setIfInBounds 2 (.string kb)).setIfInBounds 3 (.string kt)) 198)).setCell ⟨b, 0, none⟩ (.pointer (some ⟨db, 0, none⟩))).setCell ⟨b, 1, none⟩ (.pointer (some ⟨cb, 0, none⟩))) b 102 (vcell db cb kb kt Tb.zero (fun _ => ⟨#[]⟩) false) := by
  have h0 : Cel (w.alloc (.cells ((Tryz.zeroCells198.setIfInBounds 2 (.string kb)).setIfInBounds 3 (.string kt)) 198)) b 102 (fun j => if j = 3 then .string kt else if j = 2 then .string kb else if j = 0 ∨ j = 1 then .pointer none else vcell 0 0 ⟨#[]⟩ ⟨#[]⟩ Tb.zero (fun _ => ⟨#[]⟩) false j) := by
    refine Cel.new w _ _ _ _ (fun j hj => ?_) _ hb
    have hz := Tryz.zeroCells198_size
    by_cases h3 : j = 3
    · subst h3
      rw [if_pos rfl, Array.getElem?_setIfInBounds_self_of_lt (by rw [Array.size_setIfInBounds, hz]; omega)]
    · rw [if_neg h3, Array.getElem?_setIfInBounds_ne (fun e => h3 e.symm)]
      by_cases h2 : j = 2
      · subst h2
        rw [if_pos rfl, Array.getElem?_setIfInBounds_self_of_lt (by rw [hz]; omega)]
      · rw [if_neg h2, Array.getElem?_setIfInBounds_ne (fun e => h2 e.symm)]
        exact zeroVol_get j hj
  refine ((h0.set 0 (by omega) _).set 1 (by omega) _).congr (fun j hj => ?_)
  unfold updv
  by_cases h1 : j = 1
  · subst h1; rfl
  · rw [if_neg h1]
    by_cases h00 : j = 0
    · subst h00; rfl
    · rw [if_neg h00]
      by_cases h3 : j = 3
      · subst h3; rfl
      · by_cases h2 : j = 2
        · subst h2; rfl
        · simp only [if_neg h3, if_neg h2, h00, h1, or_self, if_false]
          unfold vcell
          simp only [if_neg h00, if_neg h1, if_neg h2, if_neg h3]
def Opened (w0 w w' : World) (db cb : Nat) (s : ByteArray) (D : Dv) (c : Int) (v : Value) (e : Ending) : Prop :=
  ∃ vb r S' v', OpenTo (kbOf s) (ktOf s) (fresh D c) r S' ∧ ((r = 0 ∧ e = .returned (.tuple #[.pointer (some ⟨vb, 0, none⟩), .nilIface])) ∨ (r ≠ 0 ∧ e = .returned (.tuple #[.pointer none, ev r]))) ∧ w.heap.size ≤ vb ∧ Vol w0 w' vb db cb (kbOf s) (ktOf s) S' v' ∧
    Fs (fun k => k = db ∨ k = cb ∨ v.ownBlock = some k) w w' ∧ Nx w v.ownBlock v'.ownBlock
set_option maxHeartbeats 4000000 in
theorem open_any {w0 w : World} {db cb : Nat} {D : Dv} {c : Int} {v : Value} (s : ByteArray) (hs : s.size = 16) (hT : Sm.Tab w0) (hc : 0 ≤ c ∧ c < 1000000000) (h : DC w0 w db cb D c v) :
    Calls Tryz.prog 56 #[.pointer (some ⟨db, 0, none⟩), .pointer (some ⟨cb, 0, none⟩), .string s] w fun e w' => Opened w0 w w' db cb s D c v e := by
  have HB : Hid (Base w0 (kbOf s) (ktOf s)) := ⟨hT, keyOf_size _ _, keyOf_size _ _⟩
  have H : Hid (DC w0 w db cb D c v) := h
  have HC : Hid (0 ≤ c ∧ c < 1000000000) := hc
  have HK : Hid (∀ W, Sm.Tab W → Calls Tryz.prog 120 #[.string s] W fun e w' => ∃ w1, e = .returned (.tuple #[.pointer (some ⟨w1.heap.size, 0, none⟩), .nilIface]) ∧ Since W w1 ∧ w' = w1.alloc (.cells ((Tryz.zeroCells198.setIfInBounds 2 (.string (kbOf s))).setIfInBounds 3 (.string (ktOf s))) 198)) := fun W hW => keyed_any s W hs hW
  unfold Opened
  generalize kbOf s = kb at *
  generalize ktOf s = kt at *
  clear h hc hs hT
  go_enter Tryz.func56, Tryz.ntmps56
  go_wp2_with fail
  refine (HK.out _ (HB.out.tab.since H.out.since)).mono ?_
  rintro e w2 ⟨w1, rfl, h1, h2⟩
  have H1 : Hid (DC w0 w1 db cb D c v) := H.out.go h1
  have HS1 : Hid (Since w w1) := h1
  have HN := newVol w1 kb kt db cb w1.heap.size rfl
  rw [← h2] at HN
  have hA : Cel w2 w1.heap.size 102 (fun j => ((Tryz.zeroCells198.setIfInBounds 2 (.string kb)).setIfInBounds 3 (.string kt))[j]?.getD undef) := by
    rw [h2]
    refine Cel.new w1 _ _ _ _ (fun j hj => ?_) _ rfl
    rw [Array.getElem?_eq_getElem (by rw [Array.size_setIfInBounds, Array.size_setIfInBounds, Tryz.zeroCells198_size]; exact hj)]
    rfl
  have a0 := hA.cell 0 (by omega)
  have a1 := hA.cell 1 (by omega)
  have f0 := hA.frozen 0 (by omega)
  have f1 := hA.frozen 1 (by omega)
  have HTY2 : Hid (Ty w2 w1.heap.size 198) := by
    show Ty w2 w1.heap.size 198
    rw [h2]
    exact Ty.new _ _ _
  have HS2 : Hid (Since w1 w2) := by
    show Since w1 w2
    rw [h2]
    exact (Since.refl w1).alloc _
  clear hA h1 h2 HK
  have HNV : Hid (Cel ((w2.setCell ⟨w1.heap.size, 0, none⟩ (.pointer (some ⟨db, 0, none⟩))).setCell ⟨w1.heap.size, 1, none⟩ (.pointer (some ⟨cb, 0, none⟩))) w1.heap.size 102 (vcell db cb kb kt Tb.zero (fun _ => ⟨#[]⟩) false)) := HN
  clear HN
  generalize (((Tryz.zeroCells198.setIfInBounds 2 (.string kb)).setIfInBounds 3 (.string kt))[0]?.getD undef) = x0 at *
  generalize (((Tryz.zeroCells198.setIfInBounds 2 (.string kb)).setIfInBounds 3 (.string kt))[1]?.getD undef) = x1 at *
  have b1 : (w2.setCell ⟨w1.heap.size, 0, none⟩ (.pointer (some ⟨db, 0, none⟩))).cell? ⟨w1.heap.size, 1, none⟩ = some x1 := by
    rw [World.cell?_setCell_other _ _ _ _ (by intro hc; injection hc with _ h2; omega)]
    exact a1
  have HVL : Hid (Vol w0 ((w2.setCell ⟨w1.heap.size, 0, none⟩ (.pointer (some ⟨db, 0, none⟩))).setCell ⟨w1.heap.size, 1, none⟩ (.pointer (some ⟨cb, 0, none⟩))) w1.heap.size db cb kb kt (fresh D c) v ∧ Since w1 ((w2.setCell ⟨w1.heap.size, 0, none⟩ (.pointer (some ⟨db, 0, none⟩))).setCell ⟨w1.heap.size, 1, none⟩ (.pointer (some ⟨cb, 0, none⟩)))) := by
    have hS : Since w1 ((w2.setCell ⟨w1.heap.size, 0, none⟩ (.pointer (some ⟨db, 0, none⟩))).setCell ⟨w1.heap.size, 1, none⟩ (.pointer (some ⟨cb, 0, none⟩))) := (HS2.out.setCell (Nat.le_refl _) _).setCell (Nat.le_refl _) _
    have hd := H1.out.go hS
    have l1 := H1.out.dev.lt
    have l2 := H1.out.ctr.lt (by omega)
    refine ⟨⟨HNV.out, hd.dev, hd.ctr, ⟨by omega, by omega, hd.ne⟩, ⟨fun e => ?_, hd.own⟩, (HTY2.out.setCell _ _).setCell _ _, hd.since, Nat.le_trans H1.out.since.size (Nat.le_refl _), hd.lo⟩, hS⟩
    have := H1.out.dev.glt _ e
    omega
  clear HNV a1
  go_wp2_with fail
  generalize ((w2.setCell ⟨w1.heap.size, 0, none⟩ (.pointer (some ⟨db, 0, none⟩))).setCell ⟨w1.heap.size, 1, none⟩ (.pointer (some ⟨cb, 0, none⟩))) = w3 at *
  refine (resume_any HB.out (S := fresh D c) HC.out HVL.out.1).mono ?_
  rintro e w4 ⟨r, S', rfl, hop, h4⟩
  have HOP : Hid (OpenTo kb kt (fresh D c) r S') := hop
  have HF : Hid (∃ v', Vol w0 w4 w1.heap.size db cb kb kt S' v' ∧ Fs (fun k => k = db ∨ k = cb ∨ v.ownBlock = some k) w w4 ∧ Nx w v.ownBlock v'.ownBlock) := by
    obtain ⟨v', hv, F, n⟩ := h4
    have hS3 : Since w w3 := HS1.out.trans HVL.out.2
    refine ⟨v', hv, ⟨F.os.trans hS3.os, F.tape.trans hS3.tape, F.output.trans hS3.output, Nat.le_trans hS3.size F.size, fun k hk hs => ?_⟩, fun k hk => ?_⟩
    · rw [F.block k (Nat.lt_of_lt_of_le hk hS3.size) ?_]
      · exact hS3.block k hk
      · rintro (e | e | e | e)
        · have := HS1.out.size; omega
        · exact hs (Or.inl e)
        · exact hs (Or.inr (Or.inl e))
        · exact hs (Or.inr (Or.inr e))
    · rcases n k hk with h5 | h5
      · exact Or.inl h5
      · exact Or.inr (Nat.le_trans hS3.size h5)
  have HLE : Hid (w.heap.size ≤ w1.heap.size) := HS1.out.size
  clear hop h4
  by_cases h0 : r = 0
  · subst h0
    rw [ev0]
    go_wp2_with fail
    go_ret2
    obtain ⟨v', hv, F, n⟩ := HF.out
    exact ⟨_, 0, S', v', HOP.out, Or.inl ⟨rfl, rfl⟩, HLE.out, hv, F, n⟩
  · rw [evn _ h0]
    have HE : Hid (ev r = .iface 32 (.int .i64 r) ∧ r ≠ 0) := ⟨evn _ h0, h0⟩
    clear h0
    go_wp2_with fail
    go_ret2
    obtain ⟨v', hv, F, n⟩ := HF.out
    exact ⟨_, r, S', v', HOP.out, Or.inr ⟨HE.out.2, by rw [HE.out.1]; rfl⟩, HLE.out, hv, F, n⟩
end Vl
end Go.Proofs.YtlgocfgnfdnloaaGreatDoor
end
