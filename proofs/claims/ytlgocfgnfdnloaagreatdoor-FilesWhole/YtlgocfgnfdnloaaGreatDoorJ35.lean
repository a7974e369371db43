import Derived.Test.YtlgocfgnfdnloaaGreatDoorJ01
import Derived.Test.YtlgocfgnfdnloaaGreatDoorJ14
import Derived.Test.YtlgocfgnfdnloaaGreatDoorJ34
set_option linter.unusedSimpArgs false
set_option linter.unusedVariables false
section
namespace Go.Proofs.YtlgocfgnfdnloaaGreatDoor
set_option maxRecDepth 100000
namespace Vl
open Go.RowKit
open Tw (Tb tcell tval ccell)
theorem rangeSince {w w' : World} {b o : Nat} {l : List Value} (h : w.rangeAt b o l) (hs : Since w w') : w'.rangeAt b o l := fun j x hj => by
  have := h j x hj
  rw [hs.cell (p := ⟨b, o + j, none⟩) (World.block_lt_of_cell? w _ this)]
  exact this
def WritesTo (key : ByteArray) (U : Tb) (A : ByteArray) : Prop := ∀ W, Sm.Tab W → Calls Tryz.prog 220 #[.string key, .agg (brow 73 (tcell U)).toArray] W fun e w' => e = .returned (.tuple #[.string A, .nilIface]) ∧ Since W w'
def ptD (D : Dv) (k : Nat) (s : ByteArray) : Int × Dv := if D.may = false then (14, D) else (0, D.burnt.wrote k s)
def syD (D : Dv) : Int × Dv := if D.may = false then (14, D) else (0, D.burnt.synced)
def rsD (D : Dv) (k : Nat) : Int × Dv := if D.may = false then (14, D) else (0, D.burnt.reset k)
section
variable {w0 w : World} {vb db cb : Nat} {kb kt : ByteArray} {S : Vs} {v : Value}
theorem putD_any (k : Nat) (s : ByteArray) (hk : k < 2) (hs : s.size ≤ 500) (hn : S.D.ws.length < 1000) (h : Vol w0 w vb db cb kb kt S v) :
    Calls Tryz.prog 221 #[.pointer (some ⟨db, 0, none⟩), .int .i64 (k : Int), .string s] w fun e w' => e = .returned (ev (ptD S.D k s).1) ∧ Vto w0 w w' vb db cb kb kt { S with D := (ptD S.D k s).2 } v := by
  unfold ptD
  cases hm : S.D.may with
  | false =>
    rw [if_pos rfl, evn 14 (by decide)]
    refine (put_spent S.D v db k s w h.dev hk hs hm).mono ?_
    rintro e w' ⟨rfl, rfl⟩
    exact ⟨rfl, h.self⟩
  | true =>
    rw [if_neg (by decide), ev0]
    refine (Go.Proofs.YtlgocfgnfdnloaaGreatDoor.put_any S.D v db k s w h.dev hk hs hm hn).mono ?_
    rintro e w' ⟨rfl, v', hd, hf, hx⟩
    exact ⟨rfl, h.devTo hd hf hx⟩
theorem syncD_any (h : Vol w0 w vb db cb kb kt S v) :
    Calls Tryz.prog 145 #[.pointer (some ⟨db, 0, none⟩)] w fun e w' => e = .returned (ev (syD S.D).1) ∧ Vto w0 w w' vb db cb kb kt { S with D := (syD S.D).2 } v := by
  unfold syD
  cases hm : S.D.may with
  | false =>
    rw [if_pos rfl, evn 14 (by decide)]
    refine (sync_spent S.D v db w h.dev hm).mono ?_
    rintro e w' ⟨rfl, rfl⟩
    exact ⟨rfl, h.self⟩
  | true =>
    rw [if_neg (by decide), ev0]
    refine (sync_any S.D v db w h.dev hm).mono ?_
    rintro e w' ⟨rfl, hd, hf⟩
    exact ⟨rfl, h.devTo hd (Fr.wide hf) (Nx.none _ _)⟩
theorem resetD_any (k : Nat) (hk : k < 8) (h : Vol w0 w vb db cb kb kt S v) :
    Calls Tryz.prog 163 #[.pointer (some ⟨db, 0, none⟩), .int .i64 (k : Int)] w fun e w' => e = .returned (ev (rsD S.D k).1) ∧ Vto w0 w w' vb db cb kb kt { S with D := (rsD S.D k).2 } v := by
  unfold rsD
  cases hm : S.D.may with
  | false =>
    rw [if_pos rfl, evn 14 (by decide)]
    refine (reset_spent S.D v db k w h.dev hk hm).mono ?_
    rintro e w' ⟨rfl, rfl⟩
    exact ⟨rfl, h.self⟩
  | true =>
    rw [if_neg (by decide), ev0]
    refine (reset_any S.D v db k w h.dev hk hm).mono ?_
    rintro e w' ⟨rfl, hd, hf⟩
    exact ⟨rfl, h.devTo hd (Fr.wide hf) (Nx.refl _ _)⟩
set_option maxHeartbeats 4000000 in
theorem tell_any (B : Base w0 kb kt) (U : Tb) (hU : Tw.Rt U) (hc : S.c < U.count) (hws : S.D.ws.length < 1000) (h : Vol w0 w vb db cb kb kt S v) :
    Calls Tryz.prog 146 #[.pointer (some ⟨vb, 0, none⟩), tval U] w fun e w' => e = .returned (ev (S.tell kt U).1) ∧ Vto w0 w w' vb db cb kb kt (S.tell kt U).2 v := by
  have H : Hid (Vol w0 w vb db cb kb kt S v) := h
  have HB : Hid (Base w0 kb kt) := B
  have HW : Hid (WritesTo kt U (Tw.text kt U)) := fun W hW => Tw.write_ok kt U W B.kt hU hW
  have HZ : Hid ((Tw.text kt U).size ≤ 500) := by
    show (Tw.text kt U).size ≤ 500
    rw [Tw.text_size hU.2]; omega
  have HC : Hid (S.c < U.count ∧ 1 ≤ U.count) := ⟨hc, hU.1.1⟩
  have HN : Hid (S.D.ws.length < 1000) := hws
  have HP : Hid (S.tell kt U = if S.D.may = false then (14, { S with dead := true }) else
    if (S.D.burnt.wrote (U.count % 2).toNat (Tw.text kt U)).may = false then (14, { S with D := S.D.burnt.wrote (U.count % 2).toNat (Tw.text kt U), dead := true }) else
      (0, { S with D := (S.D.burnt.wrote (U.count % 2).toNat (Tw.text kt U)).burnt.synced, c := U.count })) := by
    show S.tell kt U = _
    rfl
  have HR : Hid ((w.alloc (.cells (brow 73 (tcell U)).toArray 72)).rangeAt w.heap.size 0 (brow 73 (tcell U))) := Tw.tab_all (Tw.tab_cel U w)
  have hq0 : (w.alloc (.cells (brow 73 (tcell U)).toArray 72)).cell? ⟨w.heap.size, 0, none⟩ = some (.int .i64 U.count) := (Tw.tab_cel U w).cell 0 (by omega)
  have HQ0 : Hid ((w.alloc (.cells (brow 73 (tcell U)).toArray 72)).cell? ⟨w.heap.size, 0, none⟩ = some (.int .i64 U.count)) := hq0
  have HS : Hid (Since w (w.alloc (.cells (brow 73 (tcell U)).toArray 72))) := (Since.refl w).alloc _
  have hL := Tw.ln73 U
  clear h B hU hc hws hq0
  unfold tval
  generalize Tw.text kt U = s at *
  have HBR : Hid (∀ W, Sm.Tab W → Calls Tryz.prog 220 #[.string kt, .agg (brow 73 (tcell U)).toArray] W fun e w' => e = .returned (.tuple #[.string s, .nilIface]) ∧ Since W w') := HW.out
  clear HW
  generalize brow 73 (tcell U) = cs at *
  generalize hcn : U.count = n at *
  clear hcn
  have H1 : Hid (Vol w0 (w.alloc (.cells cs.toArray 72)) vb db cb kb kt S v) := H.out.go HS.out
  go_enter Tryz.func146, Tryz.ntmps146
  go_wp2_with fail
  generalize w.alloc (.cells cs.toArray 72) = w1 at *
  have H1d : Hid (Vol w0 w1.drew vb db cb kb kt S v) := H1.out.go (Since.refl _).drew
  have HSd : Hid (Since w w1.drew) := HS.out.drew
  have HQd : Hid (w1.drew.cell? ⟨w.heap.size, 0, none⟩ = some (.int .i64 n)) := HQ0.out
  have hS1 : (fun W : World => W.rangeAt w.heap.size 0 cs ∧ W.cell? ⟨vb, 3, none⟩ = some (.string kt)) w1.drew := ⟨rangeSince HR.out (Since.refl _).drew, H1d.out.c3⟩
  refine wp_region_held (S := fun W : World => W.rangeAt w.heap.size 0 cs ∧ W.cell? ⟨vb, 3, none⟩ = some (.string kt)) (by kernel_rfl) ?_
  refine Tw.takeD (i := 0) (d := 10) (v := ?v1) rfl rfl (by kernel_rfl) (by kernel_rfl) (by kernel_rfl) (fun _ _ _ h => h) (Or.inl ⟨by rfl, ?hw1⟩) hS1 ?q1
  case hw1 => (intro w hSw; obtain ⟨s0, s1⟩ := hSw; go_simp; try with_reducible rfl)
  simp only [Act.put, List.setIfInBounds_toArray, List.set_cons_zero, List.set_cons_succ]
  refine Tw.takeD (i := 1) (d := 11) (v := ?v2) rfl rfl (by kernel_rfl) (by kernel_rfl) (by kernel_rfl) (fun _ _ _ h => h) (Or.inl ⟨by rfl, ?hw2⟩) hS1 ?q2
  case hw2 => (intro w hSw; obtain ⟨s0, s1⟩ := hSw; go_simp; try with_reducible rfl)
  simp only [Act.put, List.setIfInBounds_toArray, List.set_cons_zero, List.set_cons_succ]
  refine Tw.takeD (i := 2) (d := 12) (v := ?v3) rfl rfl (by kernel_rfl) (by kernel_rfl) (by kernel_rfl) (fun _ _ _ h => h) (Or.inl ⟨by rfl, ?hw3⟩) hS1 ?q3
  case hw3 => (intro w hSw; obtain ⟨s0, s1⟩ := hSw; go_simp; try with_reducible rfl)
  simp only [Act.put, List.setIfInBounds_toArray, List.set_cons_zero, List.set_cons_succ]
  refine Tw.takeD (i := 3) (d := 13) (v := ?v4) rfl rfl (by kernel_rfl) (by kernel_rfl) (by kernel_rfl) (fun _ _ _ h => h) (Or.inl ⟨by rfl, ?hw4⟩) hS1 ?q4
  case hw4 => (intro w hSw; obtain ⟨s0, s1⟩ := hSw; go_simp; try with_reducible rfl)
  simp only [Act.put, List.setIfInBounds_toArray, List.set_cons_zero, List.set_cons_succ]
  refine Tw.takeD (i := 4) (d := 14) (v := .agg cs.toArray) rfl rfl (by kernel_rfl) (by kernel_rfl) (by kernel_rfl) (fun _ _ _ h => h) (yieldsIf_load_mid (by rfl) 72 _ (by rfl) w.heap.size 0 (by rfl) _ _ (fun w hSw => hSw.1) Tryz.underlying72 (by rfl) (by rw [hL]; kernel_rfl)) hS1 ?q5
  simp only [Act.put, List.setIfInBounds_toArray, List.set_cons_zero, List.set_cons_succ]
  refine wpAnyH_ready (rs := [5]) (by kernel_rfl) (by simp) (AllReadyH.cons rfl (fun K hK => ?_) AllReadyH.nil)
  rw [if_pos (by rfl)]
  go_simp
  refine (HBR.out _ (H1d.out.tabW HB.out)).mono ?_
  rintro e w2 ⟨rfl, h2⟩
  simp only []
  have H2 : Hid (Vol w0 w2 vb db cb kb kt S v) := H1d.out.go h2
  have HS2 : Hid (Since w w2) := HSd.out.trans h2
  have HQ2 : Hid (w2.cell? ⟨w.heap.size, 0, none⟩ = some (.int .i64 n)) := by
    show w2.cell? ⟨w.heap.size, 0, none⟩ = some (.int .i64 n)
    rw [h2.cell (p := ⟨w.heap.size, 0, none⟩) (World.block_lt_of_cell? _ _ HQd.out)]
    exact HQd.out
  have hS2 : (fun W : World => W.rangeAt w.heap.size 0 cs ∧ W.cell? ⟨vb, 3, none⟩ = some (.string kt)) w2 := ⟨rangeSince hS1.1 h2, H2.out.c3⟩
  clear h2
  refine hK.out _ _ hS2 (fun _ => ?_)
  clear hK K
  (try simp only [Act.put, List.setIfInBounds_toArray, List.set_cons_zero, List.set_cons_succ])
  refine Tw.takeD (i := 6) (d := 9) (v := ?v8) rfl rfl (by kernel_rfl) (by kernel_rfl) (by kernel_rfl) (fun _ _ _ h => h) (Or.inl ⟨by rfl, ?hw8⟩) hS2 ?q8
  case hw8 => (intro w hSw; obtain ⟨s0, s1⟩ := hSw; go_simp; try with_reducible rfl)
  simp only [Act.put, List.setIfInBounds_toArray, List.set_cons_zero, List.set_cons_succ]
  refine Tw.takeD (i := 7) (d := 16) (v := ?v9) rfl rfl (by kernel_rfl) (by kernel_rfl) (by kernel_rfl) (fun _ _ _ h => h) (Or.inl ⟨by rfl, ?hw9⟩) hS2 ?q9
  case hw9 => (intro w hSw; obtain ⟨s0, s1⟩ := hSw; go_simp; try with_reducible rfl)
  simp only [Act.put, List.setIfInBounds_toArray, List.set_cons_zero, List.set_cons_succ]
  refine Tw.takeD (i := 8) (d := 17) (v := ?v10) rfl rfl (by kernel_rfl) (by kernel_rfl) (by kernel_rfl) (fun _ _ _ h => h) (Or.inl ⟨by rfl, ?hw10⟩) hS2 ?q10
  case hw10 => (intro w hSw; obtain ⟨s0, s1⟩ := hSw; go_simp; try with_reducible rfl)
  simp only [Act.put, List.setIfInBounds_toArray, List.set_cons_zero, List.set_cons_succ]
  refine Tw.takeD (i := 9) (d := 5) (v := ?v11) rfl rfl (by kernel_rfl) (by kernel_rfl) (by kernel_rfl) (fun _ _ _ h => h) (Or.inl ⟨by rfl, ?hw11⟩) hS2 ?q11
  case hw11 => (intro w hSw; obtain ⟨s0, s1⟩ := hSw; go_simp; try with_reducible rfl)
  simp only [Act.put, List.setIfInBounds_toArray, List.set_cons_zero, List.set_cons_succ]
  refine Tw.takeD (i := 10) (d := 6) (v := ?v12) rfl rfl (by kernel_rfl) (by kernel_rfl) (by kernel_rfl) (fun _ _ _ h => h) (Or.inl ⟨by rfl, ?hw12⟩) hS2 ?q12
  case hw12 => (intro w hSw; obtain ⟨s0, s1⟩ := hSw; go_simp; try with_reducible rfl)
  simp only [Act.put, List.setIfInBounds_toArray, List.set_cons_zero, List.set_cons_succ]
  refine wpAnyH_done (by kernel_rfl) ?_ _
  clear hS1 hS2 H1 H1d HS HSd HQ0 HQd HR HBR hL
  have hn1 : 0 ≤ n := by have := HC.out.2; omega
  obtain ⟨kk, hkk, hk2⟩ : ∃ k : Nat, n % 2 = k ∧ k < 2 := ⟨(n % 2).toNat, by omega, by omega⟩
  have HKK : Hid (n % 2 = (kk : Int)) := hkk
  have HK2 : Hid (kk < 2) := hk2
  clear hkk hk2
  go_wp2_with fail
  have H2d : Hid (Vol w0 w2.drew vb db cb kb kt S v) := H2.out.go (Since.refl _).drew
  have HS2d : Hid (Since w w2.drew) := HS2.out.drew
  have hS2 : (fun W : World => W.cell? ⟨vb, 0, none⟩ = some (.pointer (some ⟨db, 0, none⟩)) ∧ W.cell? ⟨w.heap.size, 0, none⟩ = some (.int .i64 n)) w2.drew := ⟨H2d.out.c0, HQ2.out⟩
  refine wp_region_held (S := fun W : World => W.cell? ⟨vb, 0, none⟩ = some (.pointer (some ⟨db, 0, none⟩)) ∧ W.cell? ⟨w.heap.size, 0, none⟩ = some (.int .i64 n)) (by kernel_rfl) ?_
  refine Tw.takeD (i := 0) (d := 21) (v := ?v14) rfl rfl (by kernel_rfl) (by kernel_rfl) (by kernel_rfl) (fun _ _ _ h => h) (Or.inl ⟨by rfl, ?hw14⟩) hS2 ?q14
  case hw14 => (intro w hSw; obtain ⟨s0, s1⟩ := hSw; go_simp; try with_reducible rfl)
  simp only [Act.put, List.setIfInBounds_toArray, List.set_cons_zero, List.set_cons_succ]
  refine Tw.takeD (i := 1) (d := 22) (v := ?v15) rfl rfl (by kernel_rfl) (by kernel_rfl) (by kernel_rfl) (fun _ _ _ h => h) (Or.inl ⟨by rfl, ?hw15⟩) hS2 ?q15
  case hw15 => (intro w hSw; obtain ⟨s0, s1⟩ := hSw; go_simp; try with_reducible rfl)
  simp only [Act.put, List.setIfInBounds_toArray, List.set_cons_zero, List.set_cons_succ]
  refine Tw.takeD (i := 2) (d := 23) (v := ?v16) rfl rfl (by kernel_rfl) (by kernel_rfl) (by kernel_rfl) (fun _ _ _ h => h) (Or.inl ⟨by rfl, ?hw16⟩) hS2 ?q16
  case hw16 => (intro w hSw; obtain ⟨s0, s1⟩ := hSw; go_simp; try with_reducible rfl)
  simp only [Act.put, List.setIfInBounds_toArray, List.set_cons_zero, List.set_cons_succ]
  refine Tw.takeD (i := 3) (d := 24) (v := ?v17) rfl rfl (by kernel_rfl) (by kernel_rfl) (by kernel_rfl) (fun _ _ _ h => h) (Or.inl ⟨by rfl, ?hw17⟩) hS2 ?q17
  case hw17 => (intro w hSw; obtain ⟨s0, s1⟩ := hSw; go_simp; try with_reducible rfl)
  simp only [Act.put, List.setIfInBounds_toArray, List.set_cons_zero, List.set_cons_succ]
  refine Tw.takeD (i := 4) (d := 25) (v := ?v18) rfl rfl (by kernel_rfl) (by kernel_rfl) (by kernel_rfl) (fun _ _ _ h => h) (Or.inl ⟨by rfl, ?hw18⟩) hS2 ?q18
  case hw18 => (intro w hSw; obtain ⟨s0, s1⟩ := hSw; go_simp; try with_reducible rfl)
  simp only [Act.put, List.setIfInBounds_toArray, List.set_cons_zero, List.set_cons_succ]
  refine Tw.takeD (i := 5) (d := 26) (v := ?v19) rfl rfl (by kernel_rfl) (by kernel_rfl) (by kernel_rfl) (fun _ _ _ h => h) (Or.inl ⟨by rfl, ?hw19⟩) hS2 ?q19
  case hw19 => (intro w hSw; obtain ⟨s0, s1⟩ := hSw; go_simp; try with_reducible rfl)
  simp only [Act.put, List.setIfInBounds_toArray, List.set_cons_zero, List.set_cons_succ]
  refine Tw.takeD (i := 6) (d := 27) (v := ?v20) rfl rfl (by kernel_rfl) (by kernel_rfl) (by kernel_rfl) (fun _ _ _ h => h) (Or.inl ⟨by rfl, ?hw20⟩) hS2 ?q20
  case hw20 => (intro w hSw; obtain ⟨s0, s1⟩ := hSw; go_simp; try with_reducible rfl)
  simp only [Act.put, List.setIfInBounds_toArray, List.set_cons_zero, List.set_cons_succ]
  refine Tw.takeD (i := 8) (d := 29) (v := ?v21) rfl rfl (by kernel_rfl) (by kernel_rfl) (by kernel_rfl) (fun _ _ _ h => h) (Or.inl ⟨by rfl, ?hw21⟩) hS2 ?q21
  case hw21 => (intro w hSw; obtain ⟨s0, s1⟩ := hSw; go_simp; try with_reducible rfl)
  simp only [Act.put, List.setIfInBounds_toArray, List.set_cons_zero, List.set_cons_succ]
  refine wpAnyH_ready (rs := [7]) (by kernel_rfl) (by simp) (AllReadyH.cons rfl (fun K hK => ?_) AllReadyH.nil)
  rw [if_pos (by rfl)]
  go_simp
  refine (slotOf_any n _ hn1).mono ?_
  rintro e w3 ⟨rfl, rfl⟩
  simp only []
  refine hK.out _ _ hS2 (fun _ => ?_)
  clear hK K
  (try simp only [Act.put, List.setIfInBounds_toArray, List.set_cons_zero, List.set_cons_succ])
  refine wpAnyH_ready (rs := [9]) (by kernel_rfl) (by simp) (AllReadyH.cons rfl (fun K hK => ?_) AllReadyH.nil)
  rw [if_pos (by rfl)]
  go_simp
  rw [HKK.out]
  refine (putD_any kk s HK2.out HZ.out HN.out H2d.out).mono ?_
  rintro e w4 ⟨rfl, h4⟩
  simp only []
  obtain ⟨v4, h4v, F4, x4, y4⟩ := h4.cont' H.out.notNew HQ2.out
  have H4 : Hid (Vol w0 w4 vb db cb kb kt { S with D := (ptD S.D kk s).2 } v4) := h4v
  have HF4 : Hid (∀ w' S', Vto w0 w4 w' vb db cb kb kt S' v4 → Vto w0 w w' vb db cb kb kt S' v) := fun w' S' h => Vto.pre HS2d.out (F4 w' S' h)
  have HQ4 : Hid (w4.cell? ⟨w.heap.size, 0, none⟩ = some (.int .i64 n) ∧ ¬ VP vb db cb v4 w.heap.size) := ⟨x4, y4⟩
  have hS4 : (fun W : World => W.cell? ⟨vb, 0, none⟩ = some (.pointer (some ⟨db, 0, none⟩)) ∧ W.cell? ⟨w.heap.size, 0, none⟩ = some (.int .i64 n)) w4 := ⟨H4.out.c0, HQ4.out.1⟩
  clear h4v F4 h4 hS2 x4 y4
  refine hK.out _ _ hS4 (fun _ => ?_)
  clear hK K
  (try simp only [Act.put, List.setIfInBounds_toArray, List.set_cons_zero, List.set_cons_succ])
  refine wpAnyH_ready (rs := [10]) (by kernel_rfl) (by simp) (AllReadyH.cons rfl (fun K hK => ?_) AllReadyH.nil)
  rw [if_pos (by rfl)]
  go_simp
  refine (heed_any (ptD S.D kk s).1 H4.out).mono ?_
  rintro e w5 ⟨rfl, h5⟩
  simp only []
  obtain ⟨v5, h5v, F5, x5, y5⟩ := h5.cont' HQ4.out.2 HQ4.out.1
  have H5 : Hid (Vol w0 w5 vb db cb kb kt { S with D := (ptD S.D kk s).2, dead := S.dead || decide ((ptD S.D kk s).1 = 14) } v5) := h5v
  have HF5 : Hid (∀ w' S', Vto w0 w5 w' vb db cb kb kt S' v5 → Vto w0 w w' vb db cb kb kt S' v) := fun w' S' h => HF4.out w' S' (F5 w' S' h)
  have HQ5 : Hid (w5.cell? ⟨w.heap.size, 0, none⟩ = some (.int .i64 n) ∧ ¬ VP vb db cb v5 w.heap.size) := ⟨x5, y5⟩
  have hS5 : (fun W : World => W.cell? ⟨vb, 0, none⟩ = some (.pointer (some ⟨db, 0, none⟩)) ∧ W.cell? ⟨w.heap.size, 0, none⟩ = some (.int .i64 n)) w5 := ⟨H5.out.c0, HQ5.out.1⟩
  clear h5 h5v F5 x5 y5
  refine hK.out _ _ hS5 (fun _ => ?_)
  clear hK K
  (try simp only [Act.put, List.setIfInBounds_toArray, List.set_cons_zero, List.set_cons_succ])
  refine Tw.takeD (i := 11) (d := 7) (v := ?v28) rfl rfl (by kernel_rfl) (by kernel_rfl) (by kernel_rfl) (fun _ _ _ h => h) (Or.inl ⟨by rfl, ?hw28⟩) hS5 ?q28
  case hw28 => (intro w hSw; obtain ⟨s0, s1⟩ := hSw; go_simp; try with_reducible rfl)
  simp only [Act.put, List.setIfInBounds_toArray, List.set_cons_zero, List.set_cons_succ]
  refine wpAnyH_done (by kernel_rfl) ?_ _
  clear hS5 hS4 H2 H2d HS2 HS2d HQ2 HQ4 H4 HF4
  have HKE : Hid ((n % 2).toNat = kk) := by
    show (n % 2).toNat = kk
    rw [HKK.out, Int.toNat_natCast]
  cases hm : S.D.may with
  | false =>
    have e1 : ptD S.D kk s = (14, S.D) := by unfold ptD; rw [if_pos hm]
    rw [e1] at H5 ⊢
    rw [evn 14 (by decide)]
    have HE : Hid (S.tell kt U = (14, { S with dead := true })) := by
      show S.tell kt U = _
      rw [HP.out, if_pos hm]
    clear e1 hm HP
    go_wp2_with fail
    go_ret
    rw [HE.out, evn 14 (by decide)]
    refine ⟨rfl, ?_⟩
    have := HF5.out _ _ H5.out.self
    simpa using this
  | true =>
    have e1 : ptD S.D kk s = (0, S.D.burnt.wrote kk s) := by unfold ptD; rw [if_neg (by rw [hm]; decide)]
    rw [e1] at H5 ⊢
    rw [ev0]
    have HE : Hid (S.tell kt U = if (S.D.burnt.wrote kk s).may = false then (14, { S with D := S.D.burnt.wrote kk s, dead := true }) else (0, { S with D := (S.D.burnt.wrote kk s).burnt.synced, c := n })) := by
      show S.tell kt U = _
      rw [HP.out, if_neg (by rw [hm]; decide), HKE.out]
    clear e1 hm HP
    have h5 : Vol w0 w5 vb db cb kb kt { S with D := S.D.burnt.wrote kk s } v5 := by
      have := H5.out
      simpa using this
    generalize S.D.burnt.wrote kk s = D2 at *
    clear H5
    have H5 : Hid (Vol w0 w5 vb db cb kb kt { S with D := D2 } v5) := h5
    clear h5
    have q0 := H5.out.c0
    go_wp2_with fail
    refine (syncD_any H5.out).mono ?_
    rintro e w6 ⟨rfl, h6⟩
    obtain ⟨v6, h6v, F6, x6, y6⟩ := h6.cont' HQ5.out.2 HQ5.out.1
    have H6 : Hid (Vol w0 w6 vb db cb kb kt { S with D := (syD D2).2 } v6) := h6v
    have HF6 : Hid (∀ w' S', Vto w0 w6 w' vb db cb kb kt S' v6 → Vto w0 w w' vb db cb kb kt S' v) := fun w' S' h => HF5.out w' S' (F6 w' S' h)
    have HQ6 : Hid (w6.cell? ⟨w.heap.size, 0, none⟩ = some (.int .i64 n) ∧ ¬ VP vb db cb v6 w.heap.size) := ⟨x6, y6⟩
    clear h6 h6v F6 x6 y6 q0 H5 HF5 HQ5
    go_wp2_with fail
    refine (heed_any (syD D2).1 H6.out).mono ?_
    rintro e w7 ⟨rfl, h7⟩
    obtain ⟨v7, h7v, F7, x7, y7⟩ := h7.cont' HQ6.out.2 HQ6.out.1
    have H7 : Hid (Vol w0 w7 vb db cb kb kt { S with D := (syD D2).2, dead := S.dead || decide ((syD D2).1 = 14) } v7) := h7v
    have HF7 : Hid (∀ w' S', Vto w0 w7 w' vb db cb kb kt S' v7 → Vto w0 w w' vb db cb kb kt S' v) := fun w' S' h => HF6.out w' S' (F7 w' S' h)
    have HQ7 : Hid (w7.cell? ⟨w.heap.size, 0, none⟩ = some (.int .i64 n) ∧ ¬ VP vb db cb v7 w.heap.size) := ⟨x7, y7⟩
    clear h7 h7v F7 x7 y7 H6 HF6 HQ6
    cases hm : D2.may with
    | false =>
      have e1 : syD D2 = (14, D2) := by unfold syD; rw [if_pos hm]
      rw [e1] at H7 ⊢
      rw [evn 14 (by decide)]
      have HE2 : Hid (S.tell kt U = (14, { S with D := D2, dead := true })) := by
        show S.tell kt U = _
        rw [HE.out, if_pos hm]
      clear e1 hm HE
      go_wp2_with fail
      go_ret
      rw [HE2.out, evn 14 (by decide)]
      refine ⟨rfl, ?_⟩
      have := HF7.out _ _ H7.out.self
      simpa using this
    | true =>
      have e1 : syD D2 = (0, D2.burnt.synced) := by unfold syD; rw [if_neg (by rw [hm]; decide)]
      rw [e1] at H7 ⊢
      rw [ev0]
      have HE2 : Hid (S.tell kt U = (0, { S with D := D2.burnt.synced, c := n })) := by
        show S.tell kt U = _
        rw [HE.out, if_neg (by rw [hm]; decide)]
      clear e1 hm HE
      have h7 : Vol w0 w7 vb db cb kb kt { S with D := D2.burnt.synced } v7 := by
        have := H7.out
        simpa using this
      generalize D2.burnt.synced = D3 at *
      clear H7
      have H7 : Hid (Vol w0 w7 vb db cb kb kt { S with D := D3 } v7) := h7
      clear h7
      go_wp2_with fail
      have H7d : Hid (Vol w0 w7.drew vb db cb kb kt { S with D := D3 } v7) := H7.out.go (Since.refl _).drew
      have HQ7d : Hid (w7.drew.cell? ⟨w.heap.size, 0, none⟩ = some (.int .i64 n)) := HQ7.out.1
      have hS7 : (fun W : World => W.cell? ⟨vb, 1, none⟩ = some (.pointer (some ⟨cb, 0, none⟩)) ∧ W.cell? ⟨w.heap.size, 0, none⟩ = some (.int .i64 n)) w7.drew := ⟨H7d.out.c1, HQ7d.out⟩
      refine wp_region_held (S := fun W : World => W.cell? ⟨vb, 1, none⟩ = some (.pointer (some ⟨cb, 0, none⟩)) ∧ W.cell? ⟨w.heap.size, 0, none⟩ = some (.int .i64 n)) (by kernel_rfl) ?_
      refine Tw.takeD (i := 0) (d := 45) (v := ?v30) rfl rfl (by kernel_rfl) (by kernel_rfl) (by kernel_rfl) (fun _ _ _ h => h) (Or.inl ⟨by rfl, ?hw30⟩) hS7 ?q30
      case hw30 => (intro w hSw; obtain ⟨s0, s1⟩ := hSw; go_simp; try with_reducible rfl)
      simp only [Act.put, List.setIfInBounds_toArray, List.set_cons_zero, List.set_cons_succ]
      refine Tw.takeD (i := 1) (d := 46) (v := ?v31) rfl rfl (by kernel_rfl) (by kernel_rfl) (by kernel_rfl) (fun _ _ _ h => h) (Or.inl ⟨by rfl, ?hw31⟩) hS7 ?q31
      case hw31 => (intro w hSw; obtain ⟨s0, s1⟩ := hSw; go_simp; try with_reducible rfl)
      simp only [Act.put, List.setIfInBounds_toArray, List.set_cons_zero, List.set_cons_succ]
      refine Tw.takeD (i := 2) (d := 47) (v := ?v32) rfl rfl (by kernel_rfl) (by kernel_rfl) (by kernel_rfl) (fun _ _ _ h => h) (Or.inl ⟨by rfl, ?hw32⟩) hS7 ?q32
      case hw32 => (intro w hSw; obtain ⟨s0, s1⟩ := hSw; go_simp; try with_reducible rfl)
      simp only [Act.put, List.setIfInBounds_toArray, List.set_cons_zero, List.set_cons_succ]
      refine Tw.takeD (i := 3) (d := 48) (v := ?v33) rfl rfl (by kernel_rfl) (by kernel_rfl) (by kernel_rfl) (fun _ _ _ h => h) (Or.inl ⟨by rfl, ?hw33⟩) hS7 ?q33
      case hw33 => (intro w hSw; obtain ⟨s0, s1⟩ := hSw; go_simp; try with_reducible rfl)
      simp only [Act.put, List.setIfInBounds_toArray, List.set_cons_zero, List.set_cons_succ]
      refine Tw.takeD (i := 4) (d := 49) (v := ?v34) rfl rfl (by kernel_rfl) (by kernel_rfl) (by kernel_rfl) (fun _ _ _ h => h) (Or.inl ⟨by rfl, ?hw34⟩) hS7 ?q34
      case hw34 => (intro w hSw; obtain ⟨s0, s1⟩ := hSw; go_simp; try with_reducible rfl)
      simp only [Act.put, List.setIfInBounds_toArray, List.set_cons_zero, List.set_cons_succ]
      refine Tw.takeD (i := 5) (d := 50) (v := ?v35) rfl rfl (by kernel_rfl) (by kernel_rfl) (by kernel_rfl) (fun _ _ _ h => h) (Or.inl ⟨by rfl, ?hw35⟩) hS7 ?q35
      case hw35 => (intro w hSw; obtain ⟨s0, s1⟩ := hSw; go_simp; try with_reducible rfl)
      simp only [Act.put, List.setIfInBounds_toArray, List.set_cons_zero, List.set_cons_succ]
      refine wpAnyH_ready (rs := [6]) (by kernel_rfl) (by simp) (AllReadyH.cons rfl (fun K hK => ?_) AllReadyH.nil)
      rw [if_pos (by rfl)]
      go_simp
      refine (Mt.raise_up cb S.c n _ (H7d.out.ctr.cell 0 (by omega)) (H7d.out.ctr.frozen 0 (by omega)) (by have := HC.out.1; omega)).mono ?_
      rintro e w8 ⟨rfl, h8⟩
      simp only []
      have HT8 : Hid (Vto w0 w w8 vb db cb kb kt { S with D := D3, c := n } v) := by
        rw [h8]
        exact HF7.out _ _ (Vto.pre (Since.refl _).drew (H7d.out.ctrTo (c' := n)))
      have hS8 : (fun W : World => W.cell? ⟨vb, 1, none⟩ = some (.pointer (some ⟨cb, 0, none⟩)) ∧ W.cell? ⟨w.heap.size, 0, none⟩ = some (.int .i64 n)) w8 := by
        have h9 := H7d.out.ctrTo (c' := n)
        rw [← h8] at h9
        obtain ⟨v9, h9v, F9, x9, y9⟩ := h9.cont' HQ7.out.2 HQ7d.out
        exact ⟨h9v.c1, x9⟩
      clear h8
      refine hK.out _ _ hS8 (fun _ => ?_)
      clear hK K
      (try simp only [Act.put, List.setIfInBounds_toArray, List.set_cons_zero, List.set_cons_succ])
      refine Tw.takeD (i := 7) (d := 4) (v := ?v38) rfl rfl (by kernel_rfl) (by kernel_rfl) (by kernel_rfl) (fun _ _ _ h => h) (Or.inl ⟨by rfl, ?hw38⟩) hS8 ?q38
      case hw38 => (intro w hSw; obtain ⟨s0, s1⟩ := hSw; go_simp; try with_reducible rfl)
      simp only [Act.put, List.setIfInBounds_toArray, List.set_cons_zero, List.set_cons_succ]
      refine wpAnyH_done (by kernel_rfl) ?_ _
      go_wp2_with fail
      go_ret
      rw [HE2.out, ev0]
      exact ⟨rfl, HT8.out⟩
end
end Vl
end Go.Proofs.YtlgocfgnfdnloaaGreatDoor
end
section
namespace Go.Proofs.YtlgocfgnfdnloaaGreatDoor
set_option maxRecDepth 100000
namespace Vl
open Go.RowKit
open Tw (Tb tcell tval ccell)
theorem synced_ws (D : Dv) : D.synced.ws = [] := rfl
theorem next_cell (S : Vs) (j : Nat) (hj : j < 73) : updv (tcell S.T) 0 (.int .i64 (S.T.count + 1)) j = tcell S.next j := by
  unfold updv tcell Tw.tpart Vs.next
  by_cases e : j = 0
  · rw [if_pos e, if_pos e]
  · rw [if_neg e, if_neg e, if_neg e]
theorem vcell_tabs (db cb : Nat) (kb kt : ByteArray) (T U : Tb) (X : Nat → ByteArray) (f : Bool) (j : Nat) (hj : j < 102) :
    updl (vcell db cb kb kt T X f) 4 73 (tcell U) j = vcell db cb kb kt U X f j := by
  unfold updl
  by_cases h : 4 ≤ j ∧ j < 4 + 73
  · rw [if_pos h]
    have := vcell_tab db cb kb kt U X f (j - 4) (by omega)
    rw [show 4 + (j - 4) = j by omega] at this
    rw [this]
  · rw [if_neg h]
    unfold vcell
    by_cases h4 : j < 77
    · match j, (show j < 4 by omega) with
      | 0, _ => rfl
      | 1, _ => rfl
      | 2, _ => rfl
      | 3, _ => rfl
    · simp only [if_neg h4]
section
variable {w0 w : World} {vb db cb : Nat} {kb kt : ByteArray} {S : Vs} {v : Value}
set_option maxHeartbeats 4000000 in
theorem flush_dead (h : Vol w0 w vb db cb kb kt S v) (hd : S.dead = true) :
    Calls Tryz.prog 78 #[.pointer (some ⟨vb, 0, none⟩)] w fun e w' => e = .returned (ev 6) ∧ w' = w := by
  have H : Hid (Vol w0 w vb db cb kb kt S v) := h
  have HD : Hid (S.dead = true) := hd
  clear h hd
  go_enter Tryz.func78, Tryz.ntmps78
  go_wp2_with fail
  refine (orZero_any _ _).mono ?_
  rintro e w' ⟨rfl, rfl⟩
  go_wp2_with fail
  refine (works_any H.out).mono ?_
  rintro e w' ⟨rfl, rfl⟩
  rw [HD.out]
  go_wp2_with fail
  go_ret
  exact ⟨by rw [evn 6 (by decide)]; rfl, rfl⟩
set_option maxHeartbeats 4000000 in
theorem flush_any (B : Base w0 kb kt) (hr : Tw.Rt S.next) (hc : S.c < S.T.count + 1) (h : Vol w0 w vb db cb kb kt S v) :
    Calls Tryz.prog 78 #[.pointer (some ⟨vb, 0, none⟩)] w fun e w' => e = .returned (ev (S.flush kt).1) ∧ Vto w0 w w' vb db cb kb kt (S.flush kt).2 v := by
  cases hd : S.dead with
  | true =>
    have e1 : S.flush kt = (6, S) := by unfold Vs.flush; rw [hd]; rfl
    rw [e1]
    refine (flush_dead h hd).mono ?_
    rintro e w' ⟨rfl, rfl⟩
    exact ⟨rfl, h.self⟩
  | false =>
    have HB : Hid (Base w0 kb kt) := B
    have HRT : Hid (Tw.Rt S.next) := hr
    have HC : Hid (S.c < S.T.count + 1) := hc
    have HN : Hid (S.T.count + 1 ≤ 1099511627776 ∧ 1 ≤ S.T.count + 1) := ⟨hr.1.2, hr.1.1⟩
    have HP : Hid (S.flush kt = if S.D.may = false then (14, { S with dead := true }) else if (({ S with D := S.D.burnt.synced } : Vs).tell kt S.next).1 = 0 then (0, { (({ S with D := S.D.burnt.synced } : Vs).tell kt S.next).2 with T := S.next }) else ({ S with D := S.D.burnt.synced } : Vs).tell kt S.next) := by
      show S.flush kt = _
      unfold Vs.flush
      rw [hd]
      rfl
    have H : Hid (Vol w0 w vb db cb kb kt S v) := h
    have HD : Hid (S.dead = false) := hd
    clear h hd B hr hc
    go_enter Tryz.func78, Tryz.ntmps78
    go_wp2_with fail
    refine (orZero_any _ _).mono ?_
    rintro e wx ⟨rfl, hw⟩
    rw [hw]
    clear hw wx
    go_wp2_with fail
    refine (works_any H.out).mono ?_
    rintro e wx ⟨rfl, hw⟩
    rw [hw]
    clear hw wx
    rw [HD.out]
    have q0 := H.out.c0
    go_wp2_with fail
    refine (syncD_any H.out).mono ?_
    rintro e w1 ⟨rfl, h1⟩
    obtain ⟨v1, h1v, F1⟩ := h1.cont
    have H1 : Hid (Vol w0 w1 vb db cb kb kt { S with D := (syD S.D).2 } v1) := h1v
    have HF1 : Hid (∀ w'' S', Vto w0 w1 w'' vb db cb kb kt S' v1 → Vto w0 w w'' vb db cb kb kt S' v) := F1
    clear h1 h1v F1 q0
    go_wp2_with fail
    refine (heed_any (syD S.D).1 H1.out).mono ?_
    rintro e w2 ⟨rfl, h2⟩
    obtain ⟨v2, h2v, F2⟩ := h2.cont
    have H2 : Hid (Vol w0 w2 vb db cb kb kt { S with D := (syD S.D).2, dead := S.dead || decide ((syD S.D).1 = 14) } v2) := h2v
    have HF2 : Hid (∀ w'' S', Vto w0 w2 w'' vb db cb kb kt S' v2 → Vto w0 w w'' vb db cb kb kt S' v) := fun w'' S' h => HF1.out _ _ (F2 w'' S' h)
    clear h2 h2v F2 H1 HF1
    cases hm : S.D.may with
    | false =>
      have e1 : syD S.D = (14, S.D) := by unfold syD; rw [if_pos hm]
      rw [e1] at H2 ⊢
      rw [evn 14 (by decide)]
      have HE : Hid (S.flush kt = (14, { S with dead := true })) := by
        show S.flush kt = _
        rw [HP.out, if_pos hm]
      clear e1 hm HP
      go_wp2_with fail
      go_ret
      rw [HE.out, evn 14 (by decide)]
      refine ⟨rfl, ?_⟩
      have := HF2.out _ _ H2.out.self
      simpa using this
    | true =>
      have e1 : syD S.D = (0, S.D.burnt.synced) := by unfold syD; rw [if_neg (by rw [hm]; decide)]
      rw [e1] at H2 ⊢
      rw [ev0]
      have HE : Hid (S.flush kt = if (({ S with D := S.D.burnt.synced } : Vs).tell kt S.next).1 = 0 then (0, { (({ S with D := S.D.burnt.synced } : Vs).tell kt S.next).2 with T := S.next }) else ({ S with D := S.D.burnt.synced } : Vs).tell kt S.next) := by
        show S.flush kt = _
        rw [HP.out, if_neg (by rw [hm]; decide)]
      clear e1 hm HP
      have h2 : Vol w0 w2 vb db cb kb kt { S with D := S.D.burnt.synced } v2 := by
        have := H2.out
        simpa using this
      clear H2
      have HTL : Hid (∀ W V, Vol w0 W vb db cb kb kt { S with D := S.D.burnt.synced } V → Calls Tryz.prog 146 #[.pointer (some ⟨vb, 0, none⟩), .agg (brow 73 (tcell S.next)).toArray] W fun e w' => e = .returned (ev (({ S with D := S.D.burnt.synced } : Vs).tell kt S.next).1) ∧ Vto w0 W w' vb db cb kb kt (({ S with D := S.D.burnt.synced } : Vs).tell kt S.next).2 V) := fun W V hV => tell_any HB.out S.next HRT.out HC.out (by show (S.D.burnt.synced).ws.length < 1000; rw [synced_ws]; decide) hV
      generalize ({ S with D := S.D.burnt.synced } : Vs).tell kt S.next = R at *
      generalize S.D.burnt.synced = D1 at *
      have H2 : Hid (Vol w0 w2 vb db cb kb kt { S with D := D1 } v2) := h2
      clear h2
      have hR := H2.out.tab
      have hL := Tw.ln73 S.T
      have hC3 := Tw.zeroTab_cel w2 w2.heap.size rfl
      obtain ⟨hst, hC4⟩ := Tw.tab_stored hC3 S.T
      have HC4 : Hid (Cel ((w2.alloc (.cells Tryz.zeroCells72 72)).setCells w2.heap.size 0 (brow 73 (tcell S.T))) w2.heap.size 73 (tcell S.T)) := hC4
      have HS4 : Hid (Since w2 ((w2.alloc (.cells Tryz.zeroCells72 72)).setCells w2.heap.size 0 (brow 73 (tcell S.T)))) := ((Since.refl w2).alloc _).setCells (Nat.le_refl _) _ _
      clear hC3 hC4
      have c0 : ((w2.alloc (.cells Tryz.zeroCells72 72)).setCells w2.heap.size 0 (brow 73 (tcell S.T))).cell? ⟨w2.heap.size, 0, none⟩ = some (.int .i64 S.T.count) := HC4.out.cell 0 (by omega)
      have f0 := HC4.out.frozen 0 (by omega)
      have hn0 : S.T.count + 1 ≤ 1099511627776 := HN.out.1
      have hn1 : 1 ≤ S.T.count + 1 := HN.out.2
      have HC5 : Hid (Cel (((w2.alloc (.cells Tryz.zeroCells72 72)).setCells w2.heap.size 0 (brow 73 (tcell S.T))).setCell ⟨w2.heap.size, 0, none⟩ (.int .i64 (S.T.count + 1))) w2.heap.size 73 (tcell S.next)) := (HC4.out.set 0 (by omega) _).congr (next_cell S)
      have HS5 : Hid (Since w2 (((w2.alloc (.cells Tryz.zeroCells72 72)).setCells w2.heap.size 0 (brow 73 (tcell S.T))).setCell ⟨w2.heap.size, 0, none⟩ (.int .i64 (S.T.count + 1)))) := HS4.out.setCell (Nat.le_refl _) _
      generalize hcs : brow 73 (tcell S.T) = cs at *
      clear hcs
      generalize ((w2.alloc (.cells Tryz.zeroCells72 72)).setCells w2.heap.size 0 cs) = w3 at *
      have hR2 := Tw.tab_all HC5.out
      have hL2 := Tw.ln73 S.next
      generalize hcs2 : brow 73 (tcell S.next) = cs2 at *
      generalize hw4 : w3.setCell ⟨w2.heap.size, 0, none⟩ (.int .i64 (S.T.count + 1)) = w4 at *
      have H4 : Hid (Vol w0 w4 vb db cb kb kt { S with D := D1 } v2) := H2.out.go HS5.out
      have HCS : Hid (brow 73 (tcell S.next) = cs2) := hcs2
      have HW4 : Hid (w3.setCell ⟨w2.heap.size, 0, none⟩ (.int .i64 (S.T.count + 1)) = w4) := hw4
      clear hcs2 hw4
      go_wp2_with (first
        | refine wpList_load_mid (by rfl) 72 _ (by rfl) vb 4 (by rfl) _ _ hR Tryz.underlying72 (by rfl) (by rw [hL]; kernel_rfl) ?_
        | (rw [HW4.out]; refine wpList_load_mid (by rfl) 72 _ (by rfl) w2.heap.size 0 (by rfl) _ _ hR2 Tryz.underlying72 (by rfl) (by rw [hL2]; kernel_rfl) ?_))
      refine (HTL.out w4 v2 H4.out).mono ?_
      rintro e w5 ⟨rfl, h5⟩
      have HNN : Hid (¬ VP vb db cb v2 w2.heap.size) := H2.out.notNew
      obtain ⟨v5, h5v, F5, n5⟩ := h5
      have HC6 : Hid (Cel w5 w2.heap.size 73 (tcell S.next)) := celFs HC5.out F5 HNN.out
      have HT5 : Hid (∀ w' S', Vto w0 w5 w' vb db cb kb kt S' v5 → Vto w0 w w' vb db cb kb kt S' v) := fun w' S' ⟨v6, h6, F6, n6⟩ => HF2.out _ _ (Vto.pre HS5.out ⟨v6, h6, F5.trans' F6 (VP.nx n5), n5.trans n6 F5.size⟩)
      have H5 : Hid (Vol w0 w5 vb db cb kb kt R.2 v5) := h5v
      clear h5v F5 n5 hR hR2 hL c0 f0 hst HC4 HS4 HC5 HS5 H4 H2 HF2 HTL HW4
      by_cases h0 : R.1 = 0
      · rw [h0, ev0]
        have HE2 : Hid (S.flush kt = (0, { R.2 with T := S.next })) := by
          show S.flush kt = _
          rw [HE.out, if_pos h0]
        clear h0 HE
        have hR := Tw.tab_all HC6.out
        rw [HCS.out] at hR
        have hst := H5.out.cel.store Tryz.prog 4 73 (by omega) (tcell S.next) (fun j _ => Tw.tcell_one _ j)
        rw [HCS.out] at hst
        have HC7 : Hid (Cel (w5.setCells vb 4 cs2) vb 102 (vcell db cb kb kt S.next R.2.X R.2.dead)) := by
          have := (H5.out.cel.setRow 4 73 (by omega) (tcell S.next)).congr (fun j hj => vcell_tabs db cb kb kt R.2.T S.next R.2.X R.2.dead j hj)
          rw [HCS.out] at this
          exact this
        go_wp2_with (refine wpList_load_mid (by rfl) 72 _ (by rfl) w2.heap.size 0 (by rfl) _ _ hR Tryz.underlying72 (by rfl) (by rw [hL2]; kernel_rfl) ?_)
        go_ret
        rw [HE2.out, ev0]
        exact ⟨rfl, HT5.out _ _ (H5.out.celTo HC7.out (Fr.setCells _ _ _ _ _) (Ty.setCells _ _ _ _ H5.out.ty))⟩
      · have HE2 : Hid (S.flush kt = R) := by
          show S.flush kt = _
          rw [HE.out, if_neg h0]
        rw [evn _ h0]
        have HE3 : Hid (ev R.1 = .iface 32 (.int .i64 R.1)) := evn _ h0
        clear h0 HE
        go_wp2_with fail
        go_ret
        rw [HE2.out, HE3.out]
        exact ⟨rfl, HT5.out _ _ H5.out.self⟩
end
end Vl
end Go.Proofs.YtlgocfgnfdnloaaGreatDoor
end
