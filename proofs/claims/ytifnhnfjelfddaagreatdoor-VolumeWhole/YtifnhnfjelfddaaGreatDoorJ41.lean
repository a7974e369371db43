import Derived.Test.YtifnhnfjelfddaaGreatDoorJ40
set_option linter.unusedSimpArgs false
set_option linter.unusedVariables false
namespace Go.Proofs.YtifnhnfjelfddaaGreatDoor
set_option maxRecDepth 100000
namespace Vl
open Go.RowKit
open Tw (Tb tcell tval ccell)
def rdB (D : Dv) (z o : Int) : ByteArray × Int := if ¬ (0 ≤ z ∧ z < 8) then (⟨#[]⟩, 2) else if ¬ (0 ≤ o ∧ o < D.cnt z.toNat) then (⟨#[]⟩, 7) else (blkOf D z o, 0)
theorem readD_any {w : World} {db : Nat} {D : Dv} {v : Value} (z o : Int) (h : Dev w db D v) :
    Calls Tryz.prog 128 #[.pointer (some ⟨db, 0, none⟩), .int .i64 z, .int .i64 o] w fun e w' => e = .returned (.tuple #[.string (rdB D z o).1, ev (rdB D z o).2]) ∧ w' = w := by
  unfold rdB
  by_cases hz : 0 ≤ z ∧ z < 8
  · rw [if_neg (fun q => q hz)]
    obtain ⟨k, rfl⟩ := Int.eq_ofNat_of_zero_le hz.1
    rw [Int.toNat_natCast]
    by_cases ho : 0 ≤ o ∧ o < D.cnt k
    · rw [if_neg (fun q => q ho)]
      obtain ⟨j, rfl⟩ := Int.eq_ofNat_of_zero_le ho.1
      rw [ev0]
      exact Go.Proofs.YtifnhnfjelfddaaGreatDoor.read_any D v db k j w h (by omega) (by omega)
    · rw [if_pos ho, evn 7 (by decide)]
      exact read_miss D v db k o w h (by omega) ho
  · rw [if_pos hz, evn 2 (by decide)]
    exact read_bad db z o w hz
def z24 : Array Value := #[.string ⟨#[]⟩, .string ⟨#[]⟩, .string ⟨#[]⟩, .string ⟨#[]⟩, .string ⟨#[]⟩, .string ⟨#[]⟩, .string ⟨#[]⟩, .string ⟨#[]⟩, .string ⟨#[]⟩, .string ⟨#[]⟩, .string ⟨#[]⟩, .string ⟨#[]⟩, .string ⟨#[]⟩, .string ⟨#[]⟩, .string ⟨#[]⟩, .string ⟨#[]⟩, .string ⟨#[]⟩, .string ⟨#[]⟩, .string ⟨#[]⟩, .string ⟨#[]⟩, .string ⟨#[]⟩, .string ⟨#[]⟩, .string ⟨#[]⟩, .string ⟨#[]⟩]
theorem z24_row : z24.toList = brow 24 (fun _ => .string ⟨#[]⟩) := by kernel_rfl
theorem z24_get (j : Nat) (hj : j < 24) : z24[j]? = some (.string ⟨#[]⟩) := by
  rw [← Array.getElem?_toList, z24_row]; exact brow_get _ _ _ hj
def xcell (X : Nat → ByteArray) (j : Nat) : Value := .string (X j)
def xval (X : Nat → ByteArray) : Value := .agg (brow 24 (xcell X)).toArray
theorem z24_cel (w : World) (b : Nat) (hb : b = w.heap.size) : Cel (w.alloc (.cells z24 93)) b 24 (xcell (fun _ => ⟨#[]⟩)) := Cel.new w _ _ _ _ z24_get _ hb
theorem ln24 (X : Nat → ByteArray) : (brow 24 (xcell X)).length = 24 := brow_length _ _
theorem says_set (kb : ByteArray) (D : Dv) (T : Tb) (k : Nat) (s : ByteArray) (hs : s = if T.tag k = ⟨#[]⟩ then ⟨#[]⟩ else Sl.textOf kb (blkOf D (T.zone k) (T.off k))) (j : Nat) : updv (xcell (saysTo kb D T k)) k (.string s) j = xcell (saysTo kb D T (k + 1)) j := by
  unfold updv xcell saysTo
  by_cases e : j = k
  · subst e
    rw [if_pos rfl, if_pos (by omega), hs]
  · rw [if_neg e]
    by_cases h : j < k
    · simp only [if_pos h, if_pos (show j < k + 1 by omega)]
    · simp only [if_neg h, if_neg (show ¬ j < k + 1 by omega)]
theorem says_skip (kb : ByteArray) (D : Dv) (T : Tb) (k : Nat) (hs : T.tag k = ⟨#[]⟩) (j : Nat) : xcell (saysTo kb D T k) j = xcell (saysTo kb D T (k + 1)) j := by
  unfold xcell saysTo
  by_cases e : j = k
  · subst e
    rw [if_neg (by omega), if_pos (by omega), if_pos hs]
  · by_cases h : j < k
    · simp only [if_pos h, if_pos (show j < k + 1 by omega)]
    · simp only [if_neg h, if_neg (show ¬ j < k + 1 by omega)]
theorem xcell_one (X : Nat → ByteArray) (j : Nat) : (xcell X j).oneCell' = true := rfl
theorem x_all {X : Nat → ByteArray} {w : World} {b : Nat} (h : Cel w b 24 (xcell X)) : w.rangeAt b 0 (brow 24 (xcell X)) := by
  have := h.range 0 24 (by omega)
  simpa only [Nat.zero_add] using this
theorem x_stored {w : World} {b : Nat} {X : Nat → ByteArray} (h : Cel w b 24 (xcell X)) (Y : Nat → ByteArray) : (storeCells ⟨b, 0, none⟩ (brow 24 (xcell Y))).run Tryz.prog w = .ok () (w.setCells b 0 (brow 24 (xcell Y))) ∧ Cel (w.setCells b 0 (brow 24 (xcell Y))) b 24 (xcell Y) :=
  ⟨h.store Tryz.prog 0 24 (by omega) (xcell Y) (fun j _ => xcell_one _ j), (h.setRow 0 24 (by omega) (xcell Y)).congr (fun j hj => by unfold updl; rw [if_pos (by omega)]; rfl)⟩
theorem z_stored {w : World} {b : Nat} {X : Nat → ByteArray} (h : Cel w b 24 (xcell X)) : Cel (w.setCells b 0 z24.toList) b 24 (xcell (fun _ => ⟨#[]⟩)) := by
  rw [z24_row]
  exact (x_stored h (fun _ => ⟨#[]⟩)).2
theorem z_there {w : World} {b : Nat} {X : Nat → ByteArray} (h : Cel w b 24 (xcell X)) : w.there b 0 z24.size := h.there 0 24 (by omega)
section
variable {w0 w : World} {vb db cb : Nat} {kb kt : ByteArray} {S : Vs} {v : Value}
set_option maxHeartbeats 8000000 in
theorem opened_any (B : Base w0 kb kt) (T : Tb) (h : Vol w0 w vb db cb kb kt S v) :
    Calls Tryz.prog 109 #[.pointer (some ⟨vb, 0, none⟩), tval T] w fun e w' => (((∀ i, i < 24 → there kb S.D T i) ∧ e = .returned (.tuple #[xval (saysTo kb S.D T 24), .bool true])) ∨ ((¬ ∀ i, i < 24 → there kb S.D T i) ∧ e = .returned (.tuple #[xval (fun _ => ⟨#[]⟩), .bool false]))) ∧ Since w w' := by
  have HB : Hid (Base w0 kb kt) := B
  have H : Hid (Vol w0 w vb db cb kb kt S v) := h
  clear h B
  have hC := Tw.tab_cel T w
  have hR := Tw.tab_cells hC
  unfold tval
  generalize (brow 73 (tcell T)).toArray = cs0 at *
  have hsz : (w.alloc (.cells cs0 92)).heap.size = w.heap.size + 1 := World.size_alloc _ _
  have hsz2 : ((w.alloc (.cells cs0 92)).alloc (.cells z24 93)).heap.size = w.heap.size + 1 + 1 := by rw [World.size_alloc, hsz]
  have HSA : Hid (Since (w.alloc (.cells cs0 92)) (((w.alloc (.cells cs0 92)).alloc (.cells z24 93)).alloc (.cells z24 93))) := ((Since.refl _).alloc _).alloc _
  have HS : Hid (Since w (((w.alloc (.cells cs0 92)).alloc (.cells z24 93)).alloc (.cells z24 93))) := (((Since.refl w).alloc _).alloc _).alloc _
  have HR1 : Hid (Cel (((w.alloc (.cells cs0 92)).alloc (.cells z24 93)).alloc (.cells z24 93)) (w.heap.size + 1) 24 (xcell (fun _ => ⟨#[]⟩))) := (z24_cel _ _ hsz.symm).since ((Since.refl _).alloc _)
  have HX1 : Hid (Cel (((w.alloc (.cells cs0 92)).alloc (.cells z24 93)).alloc (.cells z24 93)) (w.heap.size + 1 + 1) 24 (xcell (saysTo kb S.D T 0))) := (z24_cel _ _ hsz2.symm).congr (fun j hj => by unfold xcell saysTo; rw [if_neg (by omega)])
  have hR3 := rangeSince hR HSA.out
  clear hC hR HSA
  have hL : (brow 72 (ccell T)).length = 72 := brow_length _ _
  have HIX : Hid (∀ (k : Nat) (hk : k < 24) (w : World), (Instr.index 90 (.agg (brow 72 (ccell T)).toArray) (.int .i64 (k : Int))).run Tryz.prog w = .ok (.agg #[.int .i64 (T.zone k), .int .i64 (T.off k), .string (T.tag k)]) w) := fun k hk w => Tw.idx_cell T k hk w
  generalize hcs : brow 72 (ccell T) = cs at *
  clear hcs
  have hz24 : z24 = #[.string ⟨#[]⟩, .string ⟨#[]⟩, .string ⟨#[]⟩, .string ⟨#[]⟩, .string ⟨#[]⟩, .string ⟨#[]⟩, .string ⟨#[]⟩, .string ⟨#[]⟩, .string ⟨#[]⟩, .string ⟨#[]⟩, .string ⟨#[]⟩, .string ⟨#[]⟩, .string ⟨#[]⟩, .string ⟨#[]⟩, .string ⟨#[]⟩, .string ⟨#[]⟩, .string ⟨#[]⟩, .string ⟨#[]⟩, .string ⟨#[]⟩, .string ⟨#[]⟩, .string ⟨#[]⟩, .string ⟨#[]⟩, .string ⟨#[]⟩, .string ⟨#[]⟩] := rfl
  rw [hz24] at HS HR1 HX1 hR3
  go_enter Tryz.func109, Tryz.ntmps109
  go_wp2_with (refine wpList_load_mid (by rfl) 90 _ (by rfl) w.heap.size 1 (by rfl) _ _ hR3 Tryz.underlying90 (by rfl) (by rw [hL]; kernel_rfl) ?_)
  rw [← hz24] at HS HR1 HX1 hR3
  rw [← hz24]
  clear hR3 hL hz24 hsz hsz2
  generalize (((w.alloc (.cells cs0 92)).alloc (.cells z24 93)).alloc (.cells z24 93)) = w1 at *
  go_loopw [15, 7, 8, 9, 10, 11, 12] (fun i _ _ _ _ _ _ wr => ∃ k : Nat, k ≤ 24 ∧ i = .int .i64 k ∧ (∀ i, i < k → there kb S.D T i) ∧ Cel wr (w.heap.size + 1) 24 (xcell (fun _ => ⟨#[]⟩)) ∧ Cel wr (w.heap.size + 1 + 1) 24 (xcell (saysTo kb S.D T k)) ∧ Since w wr) (fun i _ _ _ _ _ _ _ => 24 - (intOf i).toNat)
  case atStart => exact ⟨0, by omega, rfl, fun i hi => by omega, HR1.out, HX1.out, HS.out⟩
  case round =>
    clear HR1 HX1 HS
    obtain ⟨k, hk, rfl, hth, hr1, hx1, hs1⟩ := hrel
    have HTH : Hid (∀ i, i < k → there kb S.D T i) := hth
    have HR : Hid (Cel wr (w.heap.size + 1) 24 (xcell (fun _ => ⟨#[]⟩))) := hr1
    have HX : Hid (Cel wr (w.heap.size + 1 + 1) 24 (xcell (saysTo kb S.D T k))) := hx1
    have HS : Hid (Since w wr) := hs1
    clear hth hr1 hx1 hs1
    by_cases hlt : k < 24
    · have hlt2 : (k : Int) < 24 := by omega
      have hix := HIX.out k hlt
      by_cases te : T.tag k = ⟨#[]⟩
      · have HTE : Hid (T.tag k = ⟨#[]⟩) := te
        rw [te] at hix
        clear te
        go_wp2_with fail
        go_roundw
        case rel =>
          refine ⟨k + 1, by omega, by go_num, fun i hi => ?_, HR.out.since ((Since.refl _).alloc _), (HX.out.congr (fun j _ => says_skip kb S.D T k HTE.out j)).since ((Since.refl _).alloc _), HS.out.alloc _⟩
          by_cases e : i = k
          · subst e; exact Or.inl HTE.out
          · exact HTH.out i (by omega)
        case measure => simp [intOf]; omega
      · obtain ⟨g1, g2⟩ := ne_nil te
        have HTE : Hid (¬ T.tag k = ⟨#[]⟩) := te
        clear te
        go_wp2_with fail
        have HC2 : Hid (Cel (wr.alloc (.cells #[.int .i64 (T.zone k), .int .i64 (T.off k), .string (T.tag k)] 89)) wr.heap.size 3 (fun j => if j = 0 then .int .i64 (T.zone k) else if j = 1 then .int .i64 (T.off k) else .string (T.tag k))) := Cel.new wr _ _ _ _ (fun j hj => by
          match j, hj with
          | 0, _ => rfl
          | 1, _ => rfl
          | 2, _ => rfl) _ rfl
        have HS2 : Hid (Since wr (wr.alloc (.cells #[.int .i64 (T.zone k), .int .i64 (T.off k), .string (T.tag k)] 89)).drew) := ((Since.refl wr).alloc _).drew
        generalize hw2 : wr.alloc (.cells #[.int .i64 (T.zone k), .int .i64 (T.off k), .string (T.tag k)] 89) = w2 at *
        clear hw2
        have HC3 : Hid (Cel w2.drew wr.heap.size 3 (fun j => if j = 0 then .int .i64 (T.zone k) else if j = 1 then .int .i64 (T.off k) else .string (T.tag k))) := HC2.out.since (Since.refl _).drew
        have H3 : Hid (Vol w0 w2.drew vb db cb kb kt S v) := H.out.go (HS.out.trans HS2.out)
        have hS3 : (fun W : World => W.cell? ⟨vb, 0, none⟩ = some (.pointer (some ⟨db, 0, none⟩)) ∧ W.cell? ⟨wr.heap.size, 0, none⟩ = some (.int .i64 (T.zone k)) ∧ W.cell? ⟨wr.heap.size, 1, none⟩ = some (.int .i64 (T.off k))) w2.drew := ⟨H3.out.c0, HC3.out.cell 0 (by omega), HC3.out.cell 1 (by omega)⟩
        refine wp_region_held (S := fun W : World => W.cell? ⟨vb, 0, none⟩ = some (.pointer (some ⟨db, 0, none⟩)) ∧ W.cell? ⟨wr.heap.size, 0, none⟩ = some (.int .i64 (T.zone k)) ∧ W.cell? ⟨wr.heap.size, 1, none⟩ = some (.int .i64 (T.off k))) (by kernel_rfl) ?_
        refine Tw.takeD (i := 0) (d := 23) (v := ?v1) rfl rfl (by kernel_rfl) (by kernel_rfl) (by kernel_rfl) (fun _ _ _ h => h) (Or.inl ⟨by rfl, ?hw1⟩) hS3 ?q1
        case hw1 => (intro w hSw; obtain ⟨s0, s1, s2⟩ := hSw; go_simp; try with_reducible rfl)
        simp only [Act.put, List.setIfInBounds_toArray, List.set_cons_zero, List.set_cons_succ]
        refine Tw.takeD (i := 1) (d := 24) (v := ?v2) rfl rfl (by kernel_rfl) (by kernel_rfl) (by kernel_rfl) (fun _ _ _ h => h) (Or.inl ⟨by rfl, ?hw2⟩) hS3 ?q2
        case hw2 => (intro w hSw; obtain ⟨s0, s1, s2⟩ := hSw; go_simp; try with_reducible rfl)
        simp only [Act.put, List.setIfInBounds_toArray, List.set_cons_zero, List.set_cons_succ]
        refine Tw.takeD (i := 2) (d := 25) (v := ?v3) rfl rfl (by kernel_rfl) (by kernel_rfl) (by kernel_rfl) (fun _ _ _ h => h) (Or.inl ⟨by rfl, ?hw3⟩) hS3 ?q3
        case hw3 => (intro w hSw; obtain ⟨s0, s1, s2⟩ := hSw; go_simp; try with_reducible rfl)
        simp only [Act.put, List.setIfInBounds_toArray, List.set_cons_zero, List.set_cons_succ]
        refine Tw.takeD (i := 3) (d := 26) (v := ?v4) rfl rfl (by kernel_rfl) (by kernel_rfl) (by kernel_rfl) (fun _ _ _ h => h) (Or.inl ⟨by rfl, ?hw4⟩) hS3 ?q4
        case hw4 => (intro w hSw; obtain ⟨s0, s1, s2⟩ := hSw; go_simp; try with_reducible rfl)
        simp only [Act.put, List.setIfInBounds_toArray, List.set_cons_zero, List.set_cons_succ]
        refine Tw.takeD (i := 4) (d := 27) (v := ?v5) rfl rfl (by kernel_rfl) (by kernel_rfl) (by kernel_rfl) (fun _ _ _ h => h) (Or.inl ⟨by rfl, ?hw5⟩) hS3 ?q5
        case hw5 => (intro w hSw; obtain ⟨s0, s1, s2⟩ := hSw; go_simp; try with_reducible rfl)
        simp only [Act.put, List.setIfInBounds_toArray, List.set_cons_zero, List.set_cons_succ]
        refine Tw.takeD (i := 5) (d := 28) (v := ?v6) rfl rfl (by kernel_rfl) (by kernel_rfl) (by kernel_rfl) (fun _ _ _ h => h) (Or.inl ⟨by rfl, ?hw6⟩) hS3 ?q6
        case hw6 => (intro w hSw; obtain ⟨s0, s1, s2⟩ := hSw; go_simp; try with_reducible rfl)
        simp only [Act.put, List.setIfInBounds_toArray, List.set_cons_zero, List.set_cons_succ]
        refine Tw.takeD (i := 6) (d := 29) (v := ?v7) rfl rfl (by kernel_rfl) (by kernel_rfl) (by kernel_rfl) (fun _ _ _ h => h) (Or.inl ⟨by rfl, ?hw7⟩) hS3 ?q7
        case hw7 => (intro w hSw; obtain ⟨s0, s1, s2⟩ := hSw; go_simp; try with_reducible rfl)
        simp only [Act.put, List.setIfInBounds_toArray, List.set_cons_zero, List.set_cons_succ]
        refine Tw.takeD (i := 7) (d := 30) (v := ?v8) rfl rfl (by kernel_rfl) (by kernel_rfl) (by kernel_rfl) (fun _ _ _ h => h) (Or.inl ⟨by rfl, ?hw8⟩) hS3 ?q8
        case hw8 => (intro w hSw; obtain ⟨s0, s1, s2⟩ := hSw; go_simp; try with_reducible rfl)
        simp only [Act.put, List.setIfInBounds_toArray, List.set_cons_zero, List.set_cons_succ]
        refine wpAnyH_ready (rs := [8]) (by kernel_rfl) (by simp) (AllReadyH.cons rfl (fun K hK => ?_) AllReadyH.nil)
        rw [if_pos (by rfl)]
        go_simp
        refine (readD_any (T.zone k) (T.off k) H3.out.dev).mono ?_
        rintro e w3 ⟨rfl, hw3⟩
        rw [hw3]
        clear hw3 w3
        simp only []
        refine hK.out _ _ hS3 (fun _ => ?_)
        clear hK K
        (try simp only [Act.put, List.setIfInBounds_toArray, List.set_cons_zero, List.set_cons_succ])
        refine Tw.takeD (i := 9) (d := 22) (v := ?v11) rfl rfl (by kernel_rfl) (by kernel_rfl) (by kernel_rfl) (fun _ _ _ h => h) (Or.inl ⟨by rfl, ?hw11⟩) hS3 ?q11
        case hw11 => (intro w hSw; obtain ⟨s0, s1, s2⟩ := hSw; go_simp; try with_reducible rfl)
        simp only [Act.put, List.setIfInBounds_toArray, List.set_cons_zero, List.set_cons_succ]
        refine Tw.takeD (i := 10) (d := 32) (v := ?v12) rfl rfl (by kernel_rfl) (by kernel_rfl) (by kernel_rfl) (fun _ _ _ h => h) (Or.inl ⟨by rfl, ?hw12⟩) hS3 ?q12
        case hw12 => (intro w hSw; obtain ⟨s0, s1, s2⟩ := hSw; go_simp; try with_reducible rfl)
        simp only [Act.put, List.setIfInBounds_toArray, List.set_cons_zero, List.set_cons_succ]
        refine Tw.takeD (i := 11) (d := 33) (v := ?v13) rfl rfl (by kernel_rfl) (by kernel_rfl) (by kernel_rfl) (fun _ _ _ h => h) (Or.inl ⟨by rfl, ?hw13⟩) hS3 ?q13
        case hw13 => (intro w hSw; obtain ⟨s0, s1, s2⟩ := hSw; go_simp; try with_reducible rfl)
        simp only [Act.put, List.setIfInBounds_toArray, List.set_cons_zero, List.set_cons_succ]
        refine Tw.takeD (i := 12) (d := 9) (v := ?v14) rfl rfl (by kernel_rfl) (by kernel_rfl) (by kernel_rfl) (fun _ _ _ h => h) (Or.inl ⟨by rfl, ?hw14⟩) hS3 ?q14
        case hw14 => (intro w hSw; obtain ⟨s0, s1, s2⟩ := hSw; go_simp; try with_reducible rfl)
        simp only [Act.put, List.setIfInBounds_toArray, List.set_cons_zero, List.set_cons_succ]
        refine Tw.takeD (i := 13) (d := 10) (v := ?v15) rfl rfl (by kernel_rfl) (by kernel_rfl) (by kernel_rfl) (fun _ _ _ h => h) (Or.inl ⟨by rfl, ?hw15⟩) hS3 ?q15
        case hw15 => (intro w hSw; obtain ⟨s0, s1, s2⟩ := hSw; go_simp; try with_reducible rfl)
        simp only [Act.put, List.setIfInBounds_toArray, List.set_cons_zero, List.set_cons_succ]
        refine wpAnyH_done (by kernel_rfl) ?_ _
        clear hS3 g1 g2 hix HC2
        have HS3 : Hid (Since w w2.drew) := HS.out.trans HS2.out
        have HR3 : Hid (Cel w2.drew (w.heap.size + 1) 24 (xcell (fun _ => ⟨#[]⟩))) := HR.out.since HS2.out
        have HX3 : Hid (Cel w2.drew (w.heap.size + 1 + 1) 24 (xcell (saysTo kb S.D T k))) := HX.out.since HS2.out
        clear HS HR HX HS2
        generalize w2.drew = w3 at *
        by_cases hz : 0 ≤ T.zone k ∧ T.zone k < 8 ∧ 0 ≤ T.off k ∧ T.off k < S.D.cnt (T.zone k).toNat
        · have e1 : rdB S.D (T.zone k) (T.off k) = (blkOf S.D (T.zone k) (T.off k), 0) := by
            unfold rdB
            rw [if_neg (fun q => q ⟨hz.1, hz.2.1⟩), if_neg (fun q => q ⟨hz.2.2.1, hz.2.2.2⟩)]
          rw [e1, ev0]
          have HZ : Hid (0 ≤ T.zone k ∧ T.zone k < 8 ∧ 0 ≤ T.off k ∧ T.off k < S.D.cnt (T.zone k).toNat) := hz
          have HBS : Hid ((blkOf S.D (T.zone k) (T.off k)).size = 128) := txt_size _ _
          have HTHK : Hid (there kb S.D T k ↔ ((blkOf S.D (T.zone k) (T.off k)).extract 0 16 = Sl.tagOf kb k (blkOf S.D (T.zone k) (T.off k)) ∧ (blkOf S.D (T.zone k) (T.off k)).extract 0 16 = T.tag k)) := by
            constructor
            · rintro (q | q)
              · exact absurd q HTE.out
              · exact q.2
            · exact fun q => Or.inr ⟨HZ.out, q⟩
          have HSX : Hid (∀ j, updv (xcell (saysTo kb S.D T k)) k (.string (Sl.textOf kb (blkOf S.D (T.zone k) (T.off k)))) j = xcell (saysTo kb S.D T (k + 1)) j) := fun j => says_set kb S.D T k _ (by rw [if_neg HTE.out]) j
          clear hz e1
          have q2 := H3.out.c2
          have qt : w3.cell? ⟨wr.heap.size, 2, none⟩ = some (.string (T.tag k)) := HC3.out.cell 2 (by omega)
          generalize hbb : blkOf S.D (T.zone k) (T.off k) = bb at *
          clear hbb
          by_cases hg : bb.extract 0 16 = Sl.tagOf kb k bb
          · go_wp2_with fail
            refine (Sl.open_ok kb k bb _ HB.out.kb (by have := HBS.out; omega) (by have := HBS.out; omega) hg (H3.out.tabW HB.out)).mono ?_
            rintro e w4 ⟨rfl, h4⟩
            have HS4 : Hid (Since w w4) := HS3.out.trans h4
            have HR4 : Hid (Cel w4 (w.heap.size + 1) 24 (xcell (fun _ => ⟨#[]⟩))) := HR3.out.since h4
            have HX4 : Hid (Cel w4 (w.heap.size + 1 + 1) 24 (xcell (saysTo kb S.D T k))) := HX3.out.since h4
            have qt4 : w4.cell? ⟨wr.heap.size, 2, none⟩ = some (.string (T.tag k)) := (HC3.out.since h4).cell 2 (by omega)
            have HG : Hid (bb.extract 0 16 = Sl.tagOf kb k bb) := hg
            clear h4 hg qt q2 HS3 HR3 HX3 HC3 H3
            by_cases htg : bb.extract 0 16 = T.tag k
            · have HTK : Hid (there kb S.D T k) := HTHK.out.2 ⟨HG.out, htg⟩
              rw [htg]
              clear htg HTHK HG
              generalize Sl.textOf kb bb = tx at *
              have qx := HX4.out.cell k hlt
              have qf := HX4.out.frozen k hlt
              go_wp2_with fail
              go_roundw
              case rel =>
                refine ⟨k + 1, by omega, by go_num, fun i hi => ?_, HR4.out.other (by show w.heap.size + 1 + 1 ≠ w.heap.size + 1; omega) _, (HX4.out.set k hlt _).congr (fun j _ => HSX.out j), HS4.out.setCell (by show w.heap.size ≤ w.heap.size + 1 + 1; omega) _⟩
                by_cases e : i = k
                · subst e; exact HTK.out
                · exact HTH.out i (by omega)
              case measure => simp [intOf]; omega
            · have hnl := Tw.neq_list htg
              have HNT : Hid (¬ ∀ i, i < 24 → there kb S.D T i) := fun q => htg (HTHK.out.1 (q k hlt)).2
              clear htg HTHK HG
              generalize Sl.textOf kb bb = tx at *
              generalize bb.extract 0 16 = tg at *
              have hC6 := z_stored HR4.out
              have hth := z_there HR4.out
              have HR6 : Hid ((w4.setCells (w.heap.size + 1) 0 z24.toList).rangeAt (w.heap.size + 1) 0 (brow 24 (xcell (fun _ => ⟨#[]⟩)))) := x_all hC6
              have HS6 : Hid (Since w (w4.setCells (w.heap.size + 1) 0 z24.toList)) := HS4.out.setCells (by omega) _ _
              clear hC6
              go_wp2_with (refine wpList_store_mid (by rfl) 93 _ _ (by rfl) (w.heap.size + 1) 0 z24 (by rfl) (by rfl) hth (by kernel_rfl) (by kernel_rfl) ?_)
              exact bodyPost_ret (Tw.results_row2 Tryz.results109 _ _ _ (w.heap.size + 1) _ _ _ (by rfl) HR6.out Tryz.underlying93 (by rfl) (by rw [ln24]; kernel_rfl) rfl) rfl ⟨Or.inr ⟨HNT.out, rfl⟩, HS6.out⟩
          · have HNT : Hid (¬ ∀ i, i < 24 → there kb S.D T i) := fun q => hg (HTHK.out.1 (q k hlt)).1
            go_wp2_with fail
            refine (Sl.open_bad kb k bb _ HB.out.kb (by have := HBS.out; omega) (by have := HBS.out; omega) hg (H3.out.tabW HB.out)).mono ?_
            rintro e w4 ⟨rfl, h4⟩
            have HS4 : Hid (Since w w4) := HS3.out.trans h4
            have HR4 : Hid (Cel w4 (w.heap.size + 1) 24 (xcell (fun _ => ⟨#[]⟩))) := HR3.out.since h4
            clear h4 hg qt q2 HS3 HR3 HX3 HC3 H3 HTHK HSX
            have hC6 := z_stored HR4.out
            have hth := z_there HR4.out
            have HR6 : Hid ((w4.setCells (w.heap.size + 1) 0 z24.toList).rangeAt (w.heap.size + 1) 0 (brow 24 (xcell (fun _ => ⟨#[]⟩)))) := x_all hC6
            have HS6 : Hid (Since w (w4.setCells (w.heap.size + 1) 0 z24.toList)) := HS4.out.setCells (by omega) _ _
            clear hC6
            go_wp2_with (refine wpList_store_mid (by rfl) 93 _ _ (by rfl) (w.heap.size + 1) 0 z24 (by rfl) (by rfl) hth (by kernel_rfl) (by kernel_rfl) ?_)
            exact bodyPost_ret (Tw.results_row2 Tryz.results109 _ _ _ (w.heap.size + 1) _ _ _ (by rfl) HR6.out Tryz.underlying93 (by rfl) (by rw [ln24]; kernel_rfl) rfl) rfl ⟨Or.inr ⟨HNT.out, rfl⟩, HS6.out⟩
        · obtain ⟨er, he1, he2⟩ : ∃ er : Int, rdB S.D (T.zone k) (T.off k) = (⟨#[]⟩, er) ∧ er ≠ 0 := by
            unfold rdB
            by_cases h8 : 0 ≤ T.zone k ∧ T.zone k < 8
            · rw [if_neg (fun q => q h8)]
              rw [if_pos (fun q => hz ⟨h8.1, h8.2, q.1, q.2⟩)]
              exact ⟨7, rfl, by decide⟩
            · rw [if_pos h8]
              exact ⟨2, rfl, by decide⟩
          rw [he1, evn _ he2]
          have HNT : Hid (¬ ∀ i, i < 24 → there kb S.D T i) := fun q => by
            rcases q k hlt with h6 | h6
            · exact HTE.out h6
            · exact hz h6.1
          clear he1 he2 hz
          have hC6 := z_stored HR3.out
          have hth := z_there HR3.out
          have HR6 : Hid ((w3.setCells (w.heap.size + 1) 0 z24.toList).rangeAt (w.heap.size + 1) 0 (brow 24 (xcell (fun _ => ⟨#[]⟩)))) := x_all hC6
          have HS6 : Hid (Since w (w3.setCells (w.heap.size + 1) 0 z24.toList)) := HS3.out.setCells (by omega) _ _
          clear hC6
          go_wp2_with (refine wpList_store_mid (by rfl) 93 _ _ (by rfl) (w.heap.size + 1) 0 z24 (by rfl) (by rfl) hth (by kernel_rfl) (by kernel_rfl) ?_)
          exact bodyPost_ret (Tw.results_row2 Tryz.results109 _ _ _ (w.heap.size + 1) _ _ _ (by rfl) HR6.out Tryz.underlying93 (by rfl) (by rw [ln24]; kernel_rfl) rfl) rfl ⟨Or.inr ⟨HNT.out, rfl⟩, HS6.out⟩
    · have hke : k = 24 := by omega
      subst hke
      have hR := x_all HX.out
      have hL := ln24 (saysTo kb S.D T 24)
      obtain ⟨hst, hC6⟩ := x_stored HR.out (saysTo kb S.D T 24)
      have HR6 : Hid ((wr.setCells (w.heap.size + 1) 0 (brow 24 (xcell (saysTo kb S.D T 24)))).rangeAt (w.heap.size + 1) 0 (brow 24 (xcell (saysTo kb S.D T 24)))) := x_all hC6
      have HS6 : Hid (Since w (wr.setCells (w.heap.size + 1) 0 (brow 24 (xcell (saysTo kb S.D T 24))))) := HS.out.setCells (by omega) _ _
      clear hC6
      have HV : Hid (xval (saysTo kb S.D T 24) = .agg (brow 24 (xcell (saysTo kb S.D T 24))).toArray) := show xval (saysTo kb S.D T 24) = _ from rfl
      generalize brow 24 (xcell (saysTo kb S.D T 24)) = cs4 at *
      go_wp2_with (refine wpList_load_mid (by rfl) 93 _ (by rfl) (w.heap.size + 1 + 1) 0 (by rfl) _ _ hR Tryz.underlying93 (by rfl) (by rw [hL]; kernel_rfl) ?_)
      exact bodyPost_ret (Tw.results_row2 Tryz.results109 _ _ _ (w.heap.size + 1) _ _ _ (by rfl) HR6.out Tryz.underlying93 (by rfl) (by rw [hL]; kernel_rfl) rfl) rfl ⟨Or.inl ⟨HTH.out, by rw [HV.out]; rfl⟩, HS6.out⟩
end
end Vl
end Go.Proofs.YtifnhnfjelfddaaGreatDoor
