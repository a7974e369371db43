import Derived.Test.YtbfjklpoheooaaaGreatDoorJ21
import Derived.Test.YtbfjklpoheooaaaGreatDoorJ44
set_option linter.unusedSimpArgs false
set_option linter.unusedVariables false
section
namespace Go.Proofs.YtbfjklpoheooaaaGreatDoor
set_option maxRecDepth 100000
namespace Vl
open Go.RowKit
open Tw (Tb tcell tval ccell)
section
variable {q : Bool} {w0 w : World} {N rv Rb rd rc : Nat} {s kb kt : ByteArray} {S : Vs}
theorem fr_ps {w' : World} (h : Go.Proofs.YtbfjklpoheooaaaGreatDoor.Fs (PS rd (.slice none 0 0) (.slice none 0 0)) w w') : Fr rd none w w' := ⟨h.os, h.tape, h.output, h.size, fun k hk hb _ => h.block k hk (by
  rintro (e | e | e)
  · exact hb e
  · simp [Value.ownBlock] at e
  · simp [Value.ownBlock] at e)⟩
theorem rputD_any (k : Nat) (x : ByteArray) (hk : k < 2) (hx : x.size ≤ 500) (hn : S.D.ws.length < 1000) (hok : S.D.ok) (h : RVol w0 w N rv Rb rd rc s S) (hr : ∃ lv, Ref w rd N S.D lv (.slice none 0 0) (.slice none 0 0)) :
    Calls Tryz.prog 52 #[.pointer (some ⟨rd, 0, none⟩), .int .i64 (k : Int), .string x] w fun e w' => e = .returned (.int .i64 (ptD S.D k x).1) ∧ RTo q w0 w w' N rv Rb rd rc s { S with D := (ptD S.D k x).2 } := by
  obtain ⟨lv, hr⟩ := hr
  unfold ptD
  cases hm : S.D.may with
  | false =>
    rw [if_pos rfl]
    refine (rput_spent S.D lv _ _ rd N k x w hr hok.left hk hx hm).mono ?_
    rintro e w' ⟨rfl, rfl⟩
    exact ⟨rfl, h.self⟩
  | true =>
    rw [if_neg (by decide)]
    refine (Go.Proofs.YtbfjklpoheooaaaGreatDoor.rput_any S.D lv _ _ rd N k x w hr hok.left hk hx hm hn).mono ?_
    rintro e w' ⟨rfl, av', wv', hr', hf⟩
    exact ⟨rfl, h.refTo0 hr hr' (fr_ps hf)⟩
theorem rsyncD_any (hok : S.D.ok) (h : RVol w0 w N rv Rb rd rc s S) :
    Calls Tryz.prog 51 #[.pointer (some ⟨rd, 0, none⟩)] w fun e w' => e = .returned (.int .i64 (syD S.D).1) ∧ RTo q w0 w w' N rv Rb rd rc s { S with D := (syD S.D).2 } ∧ (S.D.may = true → ∃ lv, Ref w' rd N (syD S.D).2 lv (.slice none 0 0) (.slice none 0 0)) := by
  obtain ⟨lv, av, wv, hr⟩ := h.ref
  unfold syD
  cases hm : S.D.may with
  | false =>
    rw [if_pos rfl]
    refine (rsync_spent S.D lv av wv rd N w hr hok.left hm).mono ?_
    rintro e w' ⟨rfl, rfl⟩
    exact ⟨rfl, h.self, fun h0 => by cases h0⟩
  | true =>
    rw [if_neg (by decide)]
    refine (rsync_any S.D lv av wv rd N w hr hok hm).mono ?_
    rintro e w' ⟨rfl, ⟨lv', hr'⟩, hf⟩
    exact ⟨rfl, h.refTo0 hr hr' hf, fun _ => ⟨lv', hr'⟩⟩
theorem rresetD_any (k : Nat) (hk : k < 8) (hok : S.D.ok) (h : RVol w0 w N rv Rb rd rc s S) :
    Calls Tryz.prog 94 #[.pointer (some ⟨rd, 0, none⟩), .int .i64 (k : Int)] w fun e w' => e = .returned (.int .i64 (rsD S.D k).1) ∧ RTo q w0 w w' N rv Rb rd rc s { S with D := (rsD S.D k).2 } := by
  obtain ⟨lv, av, wv, hr⟩ := h.ref
  unfold rsD
  cases hm : S.D.may with
  | false =>
    rw [if_pos rfl]
    refine (rreset_spent S.D lv av wv rd N k w hr hok.left hk hm).mono ?_
    rintro e w' ⟨rfl, rfl⟩
    exact ⟨rfl, h.self⟩
  | true =>
    rw [if_neg (by decide)]
    refine (rreset_any S.D lv av wv rd N k w hr hok.left hk hm).mono ?_
    rintro e w' ⟨rfl, ⟨lv', hr'⟩, hf⟩
    exact ⟨rfl, h.refTo0 hr hr' hf⟩
theorem RTo.cel {w1 : World} {b n : Nat} {f : Nat → Value} (h : RTo q w0 w w1 N rv Rb rd rc s S) (hc : Cel w b n f) (hn : 0 < n) (h1 : b ≠ rv ∧ b ≠ rd ∧ b ≠ rc) (ht : Ty w b 92) : Cel w1 b n f ∧ Ty w1 b 92 := by
  have e := h.2.block b (hc.lt hn) h1.1 h1.2.1 h1.2.2 (Or.inr (Or.inr ⟨_, ht, by decide, by decide⟩))
  exact ⟨celBlk hc e, ht.blk e⟩
theorem syD_ok {D : Dv} (h : D.ok) : (syD D).2.ok := by
  unfold syD
  split
  · exact h
  · rename_i hm
    have hb := burnt_ok D h (by simpa using hm)
    refine ⟨(sureTo_ok _ 8 hb).cnt, (sureTo_ok _ 8 hb).sure, hb.zero, hb.left, ?_, ?_⟩
    · intro p hp
      have hp2 : p ∈ ([] : List (Nat × ByteArray)) := hp
      cases hp2
    · show (0 : Nat) ≤ 1000
      omega
theorem ptD_ok {D : Dv} (h : D.ok) (k : Nat) (x : ByteArray) (hk : k < 2) (hx : x.size ≤ 500) (hn : D.ws.length < 1000) : (ptD D k x).2.ok := by
  unfold ptD
  split
  · exact h
  · rename_i hm
    have hb := burnt_ok D h (by simpa using hm)
    refine ⟨hb.cnt, hb.sure, hb.zero, hb.left, fun p hp => ?_, ?_⟩
    · rcases List.mem_append.1 hp with h1 | h1
      · exact hb.ws p h1
      · rw [List.mem_singleton.1 h1]; exact ⟨hk, hx⟩
    · show (D.burnt.ws ++ [_]).length ≤ 1000
      rw [burnt_ws]
      simp
      omega
theorem flush_cases (kk : Nat) (hk : (S.next.count % 2).toNat = kk) (hd : S.dead = false) (hm : S.D.may = true) :
    (S.D.burnt.synced.may = false → S.flush kt = (14, { S with D := S.D.burnt.synced, dead := true })) ∧
    (S.D.burnt.synced.may = true → (S.D.burnt.synced.burnt.wrote kk (Tw.text kt S.next)).may = false → S.flush kt = (14, { S with D := S.D.burnt.synced.burnt.wrote kk (Tw.text kt S.next), dead := true })) ∧
    (S.D.burnt.synced.may = true → (S.D.burnt.synced.burnt.wrote kk (Tw.text kt S.next)).may = true → S.flush kt = (0, { S with D := (S.D.burnt.synced.burnt.wrote kk (Tw.text kt S.next)).burnt.synced, c := S.T.count + 1, T := S.next })) := by
  subst hk
  have e0 : S.flush kt = if (({ S with D := S.D.burnt.synced } : Vs).tell kt S.next).1 = 0 then (0, { (({ S with D := S.D.burnt.synced } : Vs).tell kt S.next).2 with T := S.next }) else ({ S with D := S.D.burnt.synced } : Vs).tell kt S.next := by
    unfold Vs.flush
    rw [hd, if_neg (by decide), if_neg (by rw [hm]; decide)]
  refine ⟨fun h1 => ?_, fun h1 h2 => ?_, fun h1 h2 => ?_⟩
  · have e1 : ({ S with D := S.D.burnt.synced } : Vs).tell kt S.next = (14, { S with D := S.D.burnt.synced, dead := true }) := by
      unfold Vs.tell
      simp only [if_pos h1]
    rw [e0, e1, if_neg (show ¬ (14 : Int) = 0 by decide)]
  · have e1 : ({ S with D := S.D.burnt.synced } : Vs).tell kt S.next = (14, { S with D := S.D.burnt.synced.burnt.wrote (S.next.count % 2).toNat (Tw.text kt S.next), dead := true }) := by
      unfold Vs.tell
      simp only [if_pos h2, h1, Bool.true_eq_false, if_false]
    rw [e0, e1, if_neg (show ¬ (14 : Int) = 0 by decide)]
  · have e1 : ({ S with D := S.D.burnt.synced } : Vs).tell kt S.next = (0, { S with D := (S.D.burnt.synced.burnt.wrote (S.next.count % 2).toNat (Tw.text kt S.next)).burnt.synced, c := S.next.count }) := by
      unfold Vs.tell
      simp only [h1, h2, Bool.true_eq_false, if_false]
    rw [e0, e1, if_pos (show (0 : Int) = 0 from rfl)]
    rfl
set_option maxHeartbeats 8000000 in
theorem rflush_any (B : RBase Rb s kb kt) (hr : Tw.Rt S.next) (hok : S.D.ok) (h : RVol w0 w N rv Rb rd rc s S) :
    Calls Tryz.prog 14 #[.pointer (some ⟨rv, 0, none⟩)] w fun e w' => e = .returned (.int .i64 (S.flush kt).1) ∧ RTo q w0 w w' N rv Rb rd rc s (S.flush kt).2 := by
  have H : Hid (RVol w0 w N rv Rb rd rc s S) := h
  have q := h.cf
  cases hd : S.dead with
  | true =>
    have HE : Hid (S.flush kt = (6, S)) := by show S.flush kt = _; unfold Vs.flush; rw [hd]; rfl
    rw [hd] at q
    clear h hd hr hok B
    go_enter Tryz.func14, Tryz.ntmps14
    go_wp2_with fail
    go_ret
    rw [HE.out]
    exact ⟨rfl, H.out.self⟩
  | false =>
    have HB : Hid (RBase Rb s kb kt) := B
    have HOK : Hid (S.D.ok) := hok
    have HN : Hid (S.T.count + 1 ≤ 1099511627776 ∧ 1 ≤ S.T.count + 1) := ⟨hr.1.2, hr.1.1⟩
    have HP : Hid (S.flush kt = if S.D.may = false then (14, { S with dead := true }) else if (({ S with D := S.D.burnt.synced } : Vs).tell kt S.next).1 = 0 then (0, { (({ S with D := S.D.burnt.synced } : Vs).tell kt S.next).2 with T := S.next }) else ({ S with D := S.D.burnt.synced } : Vs).tell kt S.next) := by
      show S.flush kt = _
      unfold Vs.flush
      rw [hd]
      rfl
    have HD : Hid (S.dead = false) := hd
    have HTW : Hid (∀ W, Sm.Arr W Rb 0 8 Sm.H0.fn → Sm.Arr W Rb 8 64 Sm.kn → Calls Tryz.prog 49 #[.pointer (some ⟨Rb, 0, none⟩), .string kt, .agg (brow 73 (tcell S.next)).toArray] W fun e w' => e = .returned (.tuple #[.string (Tw.text kt S.next), .int .i64 0]) ∧ Since W w') := fun W h1 h2 => Tw.rwrite_ok B.sum Rb kt S.next W B.kt hr h1 h2
    have HZ : Hid ((Tw.text kt S.next).size ≤ 500) := by
      show (Tw.text kt S.next).size ≤ 500
      rw [Tw.text_size hr.2]; omega
    rw [hd] at q
    clear h hd hr hok B
    have hR := H.out.tab
    have hL := Tw.ln73 S.T
    have hC3 := Tw.zeroTab_cel w w.heap.size rfl
    obtain ⟨hst, hC4⟩ := Tw.tab_stored hC3 S.T
    have HC4 : Hid (Cel ((w.alloc (.cells Tryz.zeroCells92 92)).setCells w.heap.size 0 (brow 73 (tcell S.T))) w.heap.size 73 (tcell S.T)) := hC4
    have HS4 : Hid (Since w ((w.alloc (.cells Tryz.zeroCells92 92)).setCells w.heap.size 0 (brow 73 (tcell S.T)))) := ((Since.refl w).alloc _).setCells (Nat.le_refl _) _ _
    have HY4 : Hid (Ty ((w.alloc (.cells Tryz.zeroCells92 92)).setCells w.heap.size 0 (brow 73 (tcell S.T))) w.heap.size 92) := Ty.setCells _ _ _ _ (Ty.new _ _ _)
    clear hC3 hC4
    have c0 : ((w.alloc (.cells Tryz.zeroCells92 92)).setCells w.heap.size 0 (brow 73 (tcell S.T))).cell? ⟨w.heap.size, 0, none⟩ = some (.int .i64 S.T.count) := HC4.out.cell 0 (by omega)
    have f0 := HC4.out.frozen 0 (by omega)
    have hn0 : S.T.count + 1 ≤ 1099511627776 := HN.out.1
    have hn1 : 1 ≤ S.T.count + 1 := HN.out.2
    have HC5 : Hid (Cel (((w.alloc (.cells Tryz.zeroCells92 92)).setCells w.heap.size 0 (brow 73 (tcell S.T))).setCell ⟨w.heap.size, 0, none⟩ (.int .i64 (S.T.count + 1))) w.heap.size 73 (tcell S.next)) := (HC4.out.set 0 (by omega) _).congr (next_cell S)
    have HS5 : Hid (Since w (((w.alloc (.cells Tryz.zeroCells92 92)).setCells w.heap.size 0 (brow 73 (tcell S.T))).setCell ⟨w.heap.size, 0, none⟩ (.int .i64 (S.T.count + 1)))) := HS4.out.setCell (Nat.le_refl _) _
    have HY5 : Hid (Ty (((w.alloc (.cells Tryz.zeroCells92 92)).setCells w.heap.size 0 (brow 73 (tcell S.T))).setCell ⟨w.heap.size, 0, none⟩ (.int .i64 (S.T.count + 1))) w.heap.size 92) := HY4.out.setCell _ _
    have HNB : Hid (w.heap.size ≠ rv ∧ w.heap.size ≠ rd ∧ w.heap.size ≠ rc) := by
      obtain ⟨lv, av, wv, hr⟩ := H.out.ref
      have h1 := H.out.ty.lt
      have h2 := hr.cel.lt (by omega)
      have h3 := H.out.ctr.lt (by omega)
      exact ⟨by omega, by omega, by omega⟩
    generalize hcs : brow 73 (tcell S.T) = cs at *
    clear hcs
    generalize ((w.alloc (.cells Tryz.zeroCells92 92)).setCells w.heap.size 0 cs) = w3 at *
    go_enter Tryz.func14, Tryz.ntmps14
    go_wp2_with (refine wpList_load_mid (by rfl) 92 _ (by rfl) rv 4 (by rfl) _ _ hR Tryz.underlying92 (by rfl) (by rw [hL]; kernel_rfl) ?_)
    clear hR hL c0 f0 hst HC4 HS4 HY4 q
    generalize w3.setCell ⟨w.heap.size, 0, none⟩ (.int .i64 (S.T.count + 1)) = w4 at *
    have hL2 := Tw.ln73 S.next
    have HR5 : Hid (w4.drew.rangeAt w.heap.size 0 (brow 73 (tcell S.next))) := Tw.tab_all (HC5.out.since (Since.refl _).drew)
    have HY6 : Hid (Ty w4.drew w.heap.size 92) := HY5.out
    have HC6 : Hid (Cel w4.drew w.heap.size 73 (tcell S.next)) := HC5.out.since (Since.refl _).drew
    have HS6 : Hid (Since w w4.drew) := HS5.out.drew
    generalize hcs2 : brow 73 (tcell S.next) = cs2 at *
    have HCS : Hid (brow 73 (tcell S.next) = cs2) := hcs2
    clear hcs2 HC5 HS5 HY5
    have H6 : Hid (RVol w0 w4.drew N rv Rb rd rc s S) := H.out.go HS6.out
    have hS6 : (fun W : World => W.cell? ⟨rv, 0, none⟩ = some (.pointer (some ⟨Rb, 0, none⟩)) ∧ W.rangeAt w.heap.size 0 cs2) w4.drew := ⟨H6.out.c0, HR5.out⟩
    refine wp_region_held (S := fun W : World => W.cell? ⟨rv, 0, none⟩ = some (.pointer (some ⟨Rb, 0, none⟩)) ∧ W.rangeAt w.heap.size 0 cs2) (by kernel_rfl) ?_
    refine Tw.takeD (i := 0) (d := 20) (v := ?v1) rfl rfl (by kernel_rfl) (by kernel_rfl) (by kernel_rfl) (fun _ _ _ h => h) (Or.inl ⟨by rfl, ?hw1⟩) hS6 ?q1
    case hw1 => (intro w hSw; obtain ⟨s0, s1⟩ := hSw; go_simp; try with_reducible rfl)
    simp only [Act.put, List.setIfInBounds_toArray, List.set_cons_zero, List.set_cons_succ]
    refine Tw.takeD (i := 1) (d := 21) (v := ?v2) rfl rfl (by kernel_rfl) (by kernel_rfl) (by kernel_rfl) (fun _ _ _ h => h) (Or.inl ⟨by rfl, ?hw2⟩) hS6 ?q2
    case hw2 => (intro w hSw; obtain ⟨s0, s1⟩ := hSw; go_simp; try with_reducible rfl)
    simp only [Act.put, List.setIfInBounds_toArray, List.set_cons_zero, List.set_cons_succ]
    refine Tw.takeD (i := 2) (d := 22) (v := ?v3) rfl rfl (by kernel_rfl) (by kernel_rfl) (by kernel_rfl) (fun _ _ _ h => h) (Or.inl ⟨by rfl, ?hw3⟩) hS6 ?q3
    case hw3 => (intro w hSw; obtain ⟨s0, s1⟩ := hSw; go_simp; try with_reducible rfl)
    simp only [Act.put, List.setIfInBounds_toArray, List.set_cons_zero, List.set_cons_succ]
    refine Tw.takeD (i := 3) (d := 23) (v := ?v4) rfl rfl (by kernel_rfl) (by kernel_rfl) (by kernel_rfl) (fun _ _ _ h => h) (Or.inl ⟨by rfl, ?hw4⟩) hS6 ?q4
    case hw4 => (intro w hSw; obtain ⟨s0, s1⟩ := hSw; go_simp; try with_reducible rfl)
    simp only [Act.put, List.setIfInBounds_toArray, List.set_cons_zero, List.set_cons_succ]
    refine Tw.takeD (i := 4) (d := 24) (v := ?v5) rfl rfl (by kernel_rfl) (by kernel_rfl) (by kernel_rfl) (fun _ _ _ h => h) (Or.inl ⟨by rfl, ?hw5⟩) hS6 ?q5
    case hw5 => (intro w hSw; obtain ⟨s0, s1⟩ := hSw; go_simp; try with_reducible rfl)
    simp only [Act.put, List.setIfInBounds_toArray, List.set_cons_zero, List.set_cons_succ]
    refine Tw.takeD (i := 6) (d := 26) (v := .agg cs2.toArray) rfl rfl (by kernel_rfl) (by kernel_rfl) (by kernel_rfl) (fun _ _ _ h => h) (yieldsIf_load_mid (by rfl) 92 _ (by rfl) w.heap.size 0 (by rfl) _ _ (fun w hSw => hSw.2) Tryz.underlying92 (by rfl) (by rw [hL2]; kernel_rfl)) hS6 ?q6
    simp only [Act.put, List.setIfInBounds_toArray, List.set_cons_zero, List.set_cons_succ]
    refine wpAnyH_ready (rs := [5]) (by kernel_rfl) (by simp) (AllReadyH.cons rfl (fun K hK => ?_) AllReadyH.nil)
    rw [if_pos (by rfl)]
    go_simp
    refine (key_any kt 116 HB.out.keyt H6.out).mono ?_
    rintro e w7 ⟨rfl, h7⟩
    simp only []
    have H7 : Hid (RVol w0 w7 N rv Rb rd rc s S) := H6.out.go h7
    have HS7 : Hid (Since w w7) := HS6.out.trans h7
    have HY7 : Hid (Ty w7 w.heap.size 92) := HY6.out.since h7
    have HC7 : Hid (Cel w7 w.heap.size 73 (tcell S.next)) := HC6.out.since h7
    have hS7 : (fun W : World => W.cell? ⟨rv, 0, none⟩ = some (.pointer (some ⟨Rb, 0, none⟩)) ∧ W.rangeAt w.heap.size 0 cs2) w7 := ⟨H7.out.c0, rangeSince HR5.out h7⟩
    clear h7
    refine hK.out _ _ hS7 (fun _ => ?_)
    clear hK K
    (try simp only [Act.put, List.setIfInBounds_toArray, List.set_cons_zero, List.set_cons_succ])
    refine wpAnyH_ready (rs := [7]) (by kernel_rfl) (by simp) (AllReadyH.cons rfl (fun K hK => ?_) AllReadyH.nil)
    rw [if_pos (by rfl)]
    go_simp
    refine (HTW.out _ H7.out.hh.1 H7.out.hh.2).mono ?_
    rintro e w8 ⟨rfl, h8⟩
    simp only []
    have H8 : Hid (RVol w0 w8 N rv Rb rd rc s S) := H7.out.go h8
    have HS8 : Hid (Since w w8) := HS7.out.trans h8
    have HY8 : Hid (Ty w8 w.heap.size 92) := HY7.out.since h8
    have HC8 : Hid (Cel w8 w.heap.size 73 (tcell S.next)) := HC7.out.since h8
    have hS8 : (fun W : World => W.cell? ⟨rv, 0, none⟩ = some (.pointer (some ⟨Rb, 0, none⟩)) ∧ W.rangeAt w.heap.size 0 cs2) w8 := ⟨H8.out.c0, rangeSince hS7.2 h8⟩
    clear h8
    refine hK.out _ _ hS8 (fun _ => ?_)
    clear hK K
    (try simp only [Act.put, List.setIfInBounds_toArray, List.set_cons_zero, List.set_cons_succ])
    generalize htx : Tw.text kt S.next = tx at *
    have HTX : Hid (Tw.text kt S.next = tx) := htx
    clear htx
    refine Tw.takeD (i := 8) (d := 19) (v := ?v11) rfl rfl (by kernel_rfl) (by kernel_rfl) (by kernel_rfl) (fun _ _ _ h => h) (Or.inl ⟨by rfl, ?hw11⟩) hS8 ?q11
    case hw11 => (intro w hSw; obtain ⟨s0, s1⟩ := hSw; go_simp; try with_reducible rfl)
    simp only [Act.put, List.setIfInBounds_toArray, List.set_cons_zero, List.set_cons_succ]
    refine Tw.takeD (i := 9) (d := 28) (v := ?v12) rfl rfl (by kernel_rfl) (by kernel_rfl) (by kernel_rfl) (fun _ _ _ h => h) (Or.inl ⟨by rfl, ?hw12⟩) hS8 ?q12
    case hw12 => (intro w hSw; obtain ⟨s0, s1⟩ := hSw; go_simp; try with_reducible rfl)
    simp only [Act.put, List.setIfInBounds_toArray, List.set_cons_zero, List.set_cons_succ]
    refine Tw.takeD (i := 10) (d := 29) (v := ?v13) rfl rfl (by kernel_rfl) (by kernel_rfl) (by kernel_rfl) (fun _ _ _ h => h) (Or.inl ⟨by rfl, ?hw13⟩) hS8 ?q13
    case hw13 => (intro w hSw; obtain ⟨s0, s1⟩ := hSw; go_simp; try with_reducible rfl)
    simp only [Act.put, List.setIfInBounds_toArray, List.set_cons_zero, List.set_cons_succ]
    refine Tw.takeD (i := 11) (d := 4) (v := ?v14) rfl rfl (by kernel_rfl) (by kernel_rfl) (by kernel_rfl) (fun _ _ _ h => h) (Or.inl ⟨by rfl, ?hw14⟩) hS8 ?q14
    case hw14 => (intro w hSw; obtain ⟨s0, s1⟩ := hSw; go_simp; try with_reducible rfl)
    simp only [Act.put, List.setIfInBounds_toArray, List.set_cons_zero, List.set_cons_succ]
    refine Tw.takeD (i := 12) (d := 5) (v := ?v15) rfl rfl (by kernel_rfl) (by kernel_rfl) (by kernel_rfl) (fun _ _ _ h => h) (Or.inl ⟨by rfl, ?hw15⟩) hS8 ?q15
    case hw15 => (intro w hSw; obtain ⟨s0, s1⟩ := hSw; go_simp; try with_reducible rfl)
    simp only [Act.put, List.setIfInBounds_toArray, List.set_cons_zero, List.set_cons_succ]
    refine wpAnyH_done (by kernel_rfl) ?_ _
    clear hS6 hS7 hS8 H6 H7 HS6 HS7 HY6 HY7 HC6 HC7 HR5 HTW
    have q1 := H8.out.c1
    go_wp2_with fail
    refine (rsyncD_any (q := q) HOK.out H8.out).mono ?_
    rintro e w9 ⟨rfl, h9, hn9⟩
    have HN9 : Hid (S.D.may = true → ∃ lv, Ref w9 rd N (syD S.D).2 lv (.slice none 0 0) (.slice none 0 0)) := hn9
    clear hn9
    have HT9 : Hid (RTo q w0 w w9 N rv Rb rd rc s { S with D := (syD S.D).2 }) := RTo.pre HS8.out h9
    have H9 : Hid (RVol w0 w9 N rv Rb rd rc s { S with D := (syD S.D).2 }) := h9.1
    have HC9 : Hid (Cel w9 w.heap.size 73 (tcell S.next) ∧ Ty w9 w.heap.size 92) := h9.cel HC8.out (by omega) HNB.out HY8.out
    have HOK9 : Hid ((syD S.D).2.ok) := syD_ok HOK.out
    clear h9 q1 H8 HS8 HC8 HY8
    cases hm : S.D.may with
    | false =>
      have e1 : syD S.D = (14, S.D) := by unfold syD; rw [if_pos hm]
      rw [e1] at HT9 H9 ⊢
      have HE : Hid (S.flush kt = (14, { S with dead := true })) := by
        show S.flush kt = _
        rw [HP.out, if_pos hm]
      clear e1 hm HP
      go_wp2_with fail
      refine (device_any (q := q) 14 H9.out).mono ?_
      rintro e w10 ⟨rfl, h10⟩
      have HT10 : Hid (RTo q w0 w w10 N rv Rb rd rc s { S with dead := S.dead || decide ((14 : Int) = 14) }) := HT9.out.after h10
      clear h10
      go_wp2_with fail
      go_ret
      rw [HE.out]
      refine ⟨rfl, ?_⟩
      have := HT10.out
      simpa using this
    | true =>
      have e1 : syD S.D = (0, S.D.burnt.synced) := by unfold syD; rw [if_neg (by rw [hm]; decide)]
      have HR9 : Hid (∃ lv, Ref w9 rd N (syD S.D).2 lv (.slice none 0 0) (.slice none 0 0)) := HN9.out hm
      rw [e1] at HT9 H9 HOK9 HR9 ⊢
      have HFC : Hid (∀ kk, (S.next.count % 2).toNat = kk → _) := fun kk hk => flush_cases (kt := kt) kk hk HD.out hm
      have HWS : Hid (S.D.burnt.synced.ws.length < 1000) := by
        show S.D.burnt.synced.ws.length < 1000
        rw [synced_ws]; decide
      obtain ⟨kk, hkk, hk2⟩ : ∃ k : Nat, (S.T.count + 1) % 2 = k ∧ k < 2 := ⟨((S.T.count + 1) % 2).toNat, by omega, by omega⟩
      have HKK : Hid ((S.T.count + 1) % 2 = (kk : Int) ∧ kk < 2) := ⟨hkk, hk2⟩
      have HKE : Hid ((S.next.count % 2).toNat = kk) := by
        show ((S.T.count + 1) % 2).toNat = kk
        rw [hkk, Int.toNat_natCast]
      have HE : Hid _ := HFC.out kk HKE.out
      rw [HTX.out] at HE
      clear e1 hm HP HFC
      generalize S.D.burnt.synced = D1 at *
      have ht2 : (S.T.count + 1).tmod 2 = (kk : Int) := by rw [tmod2 _ (by omega)]; exact hkk
      clear hkk hk2
      have hw64 : wrap64 (kk : Int) = (kk : Int) := by have := HKK.out.2; unfold wrap64; omega
      go_wp2_with fail
      have H9d : Hid (RVol w0 w9.drew N rv Rb rd rc s { S with D := D1 }) := H9.out.go (Since.refl _).drew
      have HC9d : Hid (Cel w9.drew w.heap.size 73 (tcell S.next) ∧ Ty w9.drew w.heap.size 92) := ⟨HC9.out.1.since (Since.refl _).drew, HC9.out.2⟩
      have HT9d : Hid (RTo q w0 w w9.drew N rv Rb rd rc s { S with D := D1 }) := HT9.out.after (H9.out.to (Since.refl _).drew)
      have HR9d : Hid (∃ lv, Ref w9.drew rd N D1 lv (.slice none 0 0) (.slice none 0 0)) := by
        obtain ⟨lv, hr⟩ := HR9.out
        exact ⟨lv, hr.since (Since.refl _).drew⟩
      clear H9 HC9 HT9 HR9 HN9
      have hS9 : (fun W : World => W.cell? ⟨rv, 1, none⟩ = some (.pointer (some ⟨rd, 0, none⟩)) ∧ W.cell? ⟨w.heap.size, 0, none⟩ = some (.int .i64 (S.T.count + 1))) w9.drew := ⟨H9d.out.c1, HC9d.out.1.cell 0 (by omega)⟩
      refine wp_region_held (S := fun W : World => W.cell? ⟨rv, 1, none⟩ = some (.pointer (some ⟨rd, 0, none⟩)) ∧ W.cell? ⟨w.heap.size, 0, none⟩ = some (.int .i64 (S.T.count + 1))) (by kernel_rfl) ?_
      refine Tw.takeD (i := 0) (d := 37) (v := ?v17) rfl rfl (by kernel_rfl) (by kernel_rfl) (by kernel_rfl) (fun _ _ _ h => h) (Or.inl ⟨by rfl, ?hw17⟩) hS9 ?q17
      case hw17 => (intro w hSw; obtain ⟨s0, s1⟩ := hSw; go_simp; try with_reducible rfl)
      simp only [Act.put, List.setIfInBounds_toArray, List.set_cons_zero, List.set_cons_succ]
      refine Tw.takeD (i := 1) (d := 38) (v := ?v18) rfl rfl (by kernel_rfl) (by kernel_rfl) (by kernel_rfl) (fun _ _ _ h => h) (Or.inl ⟨by rfl, ?hw18⟩) hS9 ?q18
      case hw18 => (intro w hSw; obtain ⟨s0, s1⟩ := hSw; go_simp; try with_reducible rfl)
      simp only [Act.put, List.setIfInBounds_toArray, List.set_cons_zero, List.set_cons_succ]
      refine Tw.takeD (i := 2) (d := 39) (v := ?v19) rfl rfl (by kernel_rfl) (by kernel_rfl) (by kernel_rfl) (fun _ _ _ h => h) (Or.inl ⟨by rfl, ?hw19⟩) hS9 ?q19
      case hw19 => (intro w hSw; obtain ⟨s0, s1⟩ := hSw; go_simp; try with_reducible rfl)
      simp only [Act.put, List.setIfInBounds_toArray, List.set_cons_zero, List.set_cons_succ]
      refine Tw.takeD (i := 3) (d := 40) (v := ?v20) rfl rfl (by kernel_rfl) (by kernel_rfl) (by kernel_rfl) (fun _ _ _ h => h) (Or.inl ⟨by rfl, ?hw20⟩) hS9 ?q20
      case hw20 => (intro w hSw; obtain ⟨s0, s1⟩ := hSw; go_simp; try with_reducible rfl)
      simp only [Act.put, List.setIfInBounds_toArray, List.set_cons_zero, List.set_cons_succ]
      refine Tw.takeD (i := 4) (d := 41) (v := ?v21) rfl rfl (by kernel_rfl) (by kernel_rfl) (by kernel_rfl) (fun _ _ _ h => h) (Or.inl ⟨by rfl, ?hw21⟩) hS9 ?q21
      case hw21 => (intro w hSw; obtain ⟨s0, s1⟩ := hSw; go_simp; try with_reducible rfl)
      simp only [Act.put, List.setIfInBounds_toArray, List.set_cons_zero, List.set_cons_succ]
      refine Tw.takeD (i := 5) (d := 42) (v := ?v22) rfl rfl (by kernel_rfl) (by kernel_rfl) (by kernel_rfl) (fun _ _ _ h => h) (Or.inl ⟨by rfl, ?hw22⟩) hS9 ?q22
      case hw22 => (intro w hSw; obtain ⟨s0, s1⟩ := hSw; go_simp; try with_reducible rfl)
      simp only [Act.put, List.setIfInBounds_toArray, List.set_cons_zero, List.set_cons_succ]
      refine Tw.takeD (i := 6) (d := 43) (v := ?v23) rfl rfl (by kernel_rfl) (by kernel_rfl) (by kernel_rfl) (fun _ _ _ h => h) (Or.inl ⟨by rfl, ?hw23⟩) hS9 ?q23
      case hw23 => (intro w hSw; obtain ⟨s0, s1⟩ := hSw; go_simp; try with_reducible rfl)
      simp only [Act.put, List.setIfInBounds_toArray, List.set_cons_zero, List.set_cons_succ]
      refine Tw.takeD (i := 7) (d := 44) (v := ?v24) rfl rfl (by kernel_rfl) (by kernel_rfl) (by kernel_rfl) (fun _ _ _ h => h) (Or.inl ⟨by rfl, ?hw24⟩) hS9 ?q24
      case hw24 => (intro w hSw; obtain ⟨s0, s1⟩ := hSw; go_simp; try with_reducible rfl)
      simp only [Act.put, List.setIfInBounds_toArray, List.set_cons_zero, List.set_cons_succ]
      refine wpAnyH_ready (rs := [8]) (by kernel_rfl) (by simp) (AllReadyH.cons rfl (fun K hK => ?_) AllReadyH.nil)
      rw [if_pos (by rfl)]
      go_simp
      refine (rputD_any (q := q) kk tx HKK.out.2 HZ.out HWS.out HOK9.out H9d.out HR9d.out).mono ?_
      rintro e w10 ⟨rfl, h10⟩
      simp only []
      have HC10 : Hid (Cel w10 w.heap.size 73 (tcell S.next) ∧ Ty w10 w.heap.size 92) := h10.cel HC9d.out.1 (by omega) HNB.out HC9d.out.2
      have HT10 : Hid (RTo q w0 w w10 N rv Rb rd rc s { S with D := (ptD D1 kk tx).2 }) := HT9d.out.after h10
      have hS10 : (fun W : World => W.cell? ⟨rv, 1, none⟩ = some (.pointer (some ⟨rd, 0, none⟩)) ∧ W.cell? ⟨w.heap.size, 0, none⟩ = some (.int .i64 (S.T.count + 1))) w10 := ⟨h10.1.c1, HC10.out.1.cell 0 (by omega)⟩
      clear h10
      refine hK.out _ _ hS10 (fun _ => ?_)
      clear hK K
      (try simp only [Act.put, List.setIfInBounds_toArray, List.set_cons_zero, List.set_cons_succ])
      refine Tw.takeD (i := 9) (d := 6) (v := ?v27) rfl rfl (by kernel_rfl) (by kernel_rfl) (by kernel_rfl) (fun _ _ _ h => h) (Or.inl ⟨by rfl, ?hw27⟩) hS10 ?q27
      case hw27 => (intro w hSw; obtain ⟨s0, s1⟩ := hSw; go_simp; try with_reducible rfl)
      simp only [Act.put, List.setIfInBounds_toArray, List.set_cons_zero, List.set_cons_succ]
      refine wpAnyH_done (by kernel_rfl) ?_ _
      have HOK10 : Hid ((ptD D1 kk tx).2.ok) := ptD_ok HOK9.out kk tx HKK.out.2 HZ.out HWS.out
      clear hS9 hS10 H9d HC9d HT9d hw64 ht2
      cases hm : D1.may with
      | false =>
        have e1 : ptD D1 kk tx = (14, D1) := by unfold ptD; rw [if_pos hm]
        rw [e1] at HT10 ⊢
        have HE2 : Hid (S.flush kt = (14, { S with D := D1, dead := true })) := by
          show S.flush kt = _
          exact HE.out.1 hm
        clear e1 hm HE
        go_wp2_with fail
        refine (device_any (q := q) 14 HT10.out.1).mono ?_
        rintro e w11 ⟨rfl, h11⟩
        have HT11 : Hid (RTo q w0 w w11 N rv Rb rd rc s { S with D := D1, dead := S.dead || decide ((14 : Int) = 14) }) := HT10.out.after h11
        clear h11
        go_wp2_with fail
        go_ret
        rw [HE2.out]
        refine ⟨rfl, ?_⟩
        have := HT11.out
        simpa using this
      | true =>
        have e1 : ptD D1 kk tx = (0, D1.burnt.wrote kk tx) := by unfold ptD; rw [if_neg (by rw [hm]; decide)]
        rw [e1] at HT10 HOK10 ⊢
        have HE1 : Hid _ := HE.out.2.1 hm
        have HE3 : Hid _ := HE.out.2.2 hm
        clear e1 hm HE
        generalize D1.burnt.wrote kk tx = D2 at *
        have q1 := HT10.out.1.c1
        go_wp2_with fail
        refine (rsyncD_any (q := q) HOK10.out HT10.out.1).mono ?_
        rintro e w11 ⟨rfl, h11, _⟩
        have HC11 : Hid (Cel w11 w.heap.size 73 (tcell S.next) ∧ Ty w11 w.heap.size 92) := h11.cel HC10.out.1 (by omega) HNB.out HC10.out.2
        have HT11 : Hid (RTo q w0 w w11 N rv Rb rd rc s { S with D := (syD D2).2 }) := HT10.out.after h11
        clear h11 q1 HC10 HT10
        cases hm : D2.may with
        | false =>
          have e1 : syD D2 = (14, D2) := by unfold syD; rw [if_pos hm]
          rw [e1] at HT11 ⊢
          have HE2 : Hid (S.flush kt = (14, { S with D := D2, dead := true })) := by
            show S.flush kt = _
            exact HE1.out hm
          clear e1 hm HE1 HE3
          go_wp2_with fail
          refine (device_any (q := q) 14 HT11.out.1).mono ?_
          rintro e w12 ⟨rfl, h12⟩
          have HT12 : Hid (RTo q w0 w w12 N rv Rb rd rc s { S with D := D2, dead := S.dead || decide ((14 : Int) = 14) }) := HT11.out.after h12
          clear h12
          go_wp2_with fail
          go_ret
          rw [HE2.out]
          refine ⟨rfl, ?_⟩
          have := HT12.out
          simpa using this
        | true =>
          have e1 : syD D2 = (0, D2.burnt.synced) := by unfold syD; rw [if_neg (by rw [hm]; decide)]
          rw [e1] at HT11 ⊢
          have HE2 : Hid (S.flush kt = (0, { S with D := D2.burnt.synced, c := S.T.count + 1, T := S.next })) := HE3.out hm
          clear e1 hm HE1 HE3
          generalize D2.burnt.synced = D3 at *
          have a1 := HT11.out.1.c2
          have a1d : w11.drew.cell? ⟨rv, 2, none⟩ = some (.pointer (some ⟨rc, 0, none⟩)) := a1
          have a2 : w11.cell? ⟨w.heap.size, 0, none⟩ = some (.int .i64 (S.T.count + 1)) := HC11.out.1.cell 0 (by omega)
          have a2d : w11.drew.cell? ⟨w.heap.size, 0, none⟩ = some (.int .i64 (S.T.count + 1)) := a2
          have a3 := HT11.out.1.ctr.cell 0 (by omega)
          have a4 := HT11.out.1.ctr.frozen 0 (by omega)
          have a3d : w11.drew.cell? ⟨rc, 0, none⟩ = some (.int .i64 S.c) := a3
          have a4d : w11.drew.frozen? ⟨rc, 0, none⟩ = false := a4
          go_wp2_with fail
          go_region
          clear a1 a1d a2 a2d a3 a4 a3d a4d
          have hT12 := HT11.out.after ((HT11.out.1.ctrTo (q := q) (c' := S.T.count + 1)).then (fun h => h.to (Since.refl _).drew))
          have HT12 : Hid (RTo q w0 w (w11.setCell ⟨rc, 0, none⟩ (.int .i64 (S.T.count + 1))).drew N rv Rb rd rc s { S with D := D3, c := S.T.count + 1 }) := hT12
          have HC12 : Hid (Cel (w11.setCell ⟨rc, 0, none⟩ (.int .i64 (S.T.count + 1))).drew w.heap.size 73 (tcell S.next)) := (HC11.out.1.other (a := ⟨rc, 0, none⟩) (fun e => HNB.out.2.2 e.symm) _).since (Since.refl _).drew
          clear hT12 HT11 HC11
          generalize (w11.setCell ⟨rc, 0, none⟩ (.int .i64 (S.T.count + 1))).drew = w12 at *
          have hR := Tw.tab_all HC12.out
          rw [HCS.out] at hR
          have hst := HT12.out.1.cel.store Tryz.prog 4 73 (by omega) (tcell S.next) (fun j _ => Tw.tcell_one _ j)
          rw [HCS.out] at hst
          have HC13 : Hid (Cel (w12.setCells rv 4 cs2) rv 102 (rvcell Rb rd rc s S.next S.X S.dead)) := by
            have := (HT12.out.1.cel.setRow 4 73 (by omega) (tcell S.next)).congr (fun j hj => rvcell_tabs Rb rd rc s S.T S.next S.X S.dead j hj)
            rw [HCS.out] at this
            exact this
          have HT13 : Hid (RTo q w0 w (w12.setCells rv 4 cs2) N rv Rb rd rc s { S with D := D3, c := S.T.count + 1, T := S.next }) := HT12.out.after (HT12.out.1.celTo HC13.out (Fr.setCells _ _ _ _ _) (Ty.setCells _ _ _ _ HT12.out.1.ty))
          go_wp2_with (refine wpList_load_mid (by rfl) 92 _ (by rfl) w.heap.size 0 (by rfl) _ _ hR Tryz.underlying92 (by rfl) (by rw [hL2]; kernel_rfl) ?_)
          refine (device_any (q := q) 0 HT13.out.1).mono ?_
          rintro e w14 ⟨rfl, h14⟩
          have HT14 : Hid (RTo q w0 w w14 N rv Rb rd rc s { S with D := D3, c := S.T.count + 1, T := S.next }) := by
            have := HT13.out.after h14
            have e0 : (S.dead || decide ((0 : Int) = 14)) = S.dead := by simp
            rw [e0] at this
            exact this
          clear h14
          go_wp2_with fail
          go_ret
          rw [HE2.out]
          exact ⟨rfl, HT14.out⟩
end
end Vl
end Go.Proofs.YtbfjklpoheooaaaGreatDoor
end
section
namespace Go.Proofs.YtbfjklpoheooaaaGreatDoor
set_option maxRecDepth 100000
namespace Vl
open Go.RowKit
open Tw (Tb tcell tval ccell)
theorem put_dok {S : Vs} (h : S.D.ok) (kb : ByteArray) (i : Nat) (but : Int) (t : ByteArray) : (S.put kb i but t).2.D.ok := by
  unfold Vs.put
  cases hr : room S.atf but with
  | none => exact h
  | some z =>
    obtain ⟨hz8, _, hz16⟩ := room_some hr
    dsimp only
    by_cases hm : S.D.may = false
    · rw [if_pos hm]; exact h
    · rw [if_neg hm]
      have hb := burnt_ok S.D h (by simpa using hm)
      exact app_ok _ z _ hb hz8 (by rw [burnt_cnt]; unfold Vs.atf at hz16; omega)
theorem moves_dok (kb : ByteArray) (z : Int) : ∀ (l : List Nat) (S : Vs), S.D.ok → (S.moves kb z l).2.D.ok
  | [], S, h => by rw [moves_nil]; exact h
  | i :: r, S, h => by
    rw [moves_cons]
    split
    · exact moves_dok kb z r _ (put_dok h kb i z _)
    · exact put_dok h kb i z _
theorem flush_dok {S : Vs} (h : S.D.ok) (kt : ByteArray) (hr : Tw.Rt S.next) : (S.flush kt).2.D.ok := by
  cases hd : S.dead with
  | true =>
    have e : S.flush kt = (6, S) := by unfold Vs.flush; rw [hd]; rfl
    rw [e]; exact h
  | false =>
    cases hm : S.D.may with
    | false =>
      have e : S.flush kt = (14, { S with dead := true }) := by unfold Vs.flush; rw [hd, if_neg (by decide), if_pos hm]
      rw [e]; exact h
    | true =>
      have hk : (S.next.count % 2).toNat < 2 := by omega
      obtain ⟨c1, c2, c3⟩ := flush_cases (kt := kt) (S := S) _ rfl hd hm
      have h1 : S.D.burnt.synced.ok := by
        have := syD_ok h
        unfold syD at this
        rw [if_neg (by rw [hm]; decide)] at this
        exact this
      have hz : (Tw.text kt S.next).size ≤ 500 := by rw [Tw.text_size hr.2]; omega
      cases hm1 : S.D.burnt.synced.may with
      | false => rw [c1 hm1]; exact h1
      | true =>
        have h2 : (S.D.burnt.synced.burnt.wrote (S.next.count % 2).toNat (Tw.text kt S.next)).ok := by
          have := ptD_ok h1 (S.next.count % 2).toNat (Tw.text kt S.next) hk hz (by rw [synced_ws]; decide)
          unfold ptD at this
          rw [if_neg (by rw [hm1]; decide)] at this
          exact this
        cases hm2 : (S.D.burnt.synced.burnt.wrote (S.next.count % 2).toNat (Tw.text kt S.next)).may with
        | false => rw [c2 hm1 hm2]; exact h2
        | true =>
          rw [c3 hm1 hm2]
          have := syD_ok h2
          unfold syD at this
          rw [if_neg (by rw [hm2]; decide)] at this
          exact this
theorem reclaim_dok {S : Vs} {n : Int} (h : S.D.ok) (ho : S.ok n) (hn : n < 1000000000) (kb kt : ByteArray) : (S.reclaim kb kt).2.D.ok := by
  cases hd : S.dead with
  | true =>
    have e1 : S.reclaim kb kt = ((0, false, 6), S) := by unfold Vs.reclaim; rw [hd]; rfl
    rw [e1]; exact h
  | false =>
    cases hv : vicTo S.atf S.live 8 with
    | none =>
      have e1 : S.reclaim kb kt = ((0, false, 0), S) := by unfold Vs.reclaim; rw [hd, hv]; rfl
      rw [e1]; exact h
    | some z =>
      rw [reclaim_some hd hv]
      have hl : ∀ i ∈ Sp.inI S.T (z : Int) 24, i < 24 := fun i hi => (inI_mem.1 hi).1
      have hmv := Vs.ok.moves kb z (Sp.inI S.T (z : Int) 24) S ho hl
      have hmd := moves_dok kb z (Sp.inI S.T (z : Int) 24) S h
      split
      · exact hmd
      · have hf := flush_dok hmd kt (hmv.next (by omega))
        split
        · exact hf
        · split
          · exact hf
          · rename_i hm
            exact reset_ok _ z (burnt_ok _ hf (by simpa using hm))
section
variable {q : Bool} {w0 w : World} {N rv Rb rd rc : Nat} {s kb kt : ByteArray} {S : Vs}
def RLr (w0 w wr : World) (N rv Rb rd rc : Nat) (s kb : ByteArray) (S : Vs) (n : Int) (z : Nat) (L : List Nat) (a : Option Addr) (k : Nat) : Prop :=
  ∃ Sk, RTo true w0 w wr N rv Rb rd rc s Sk ∧ Sk.ok n ∧ Sk.D.ok ∧ Sk.moves kb z (L.drop k) = S.moves kb z L ∧
    (0 < L.length → ∃ g, a = some ⟨g, 0, none⟩ ∧ g < wr.heap.size ∧ ∀ j (hj : j < L.length), wr.cell? ⟨g, j, none⟩ = some (.int .i64 (L[j] : Int)))
set_option maxHeartbeats 8000000 in
theorem rreclaim_any (B : RBase Rb s kb kt) (n : Int) (ho : S.ok n) (hn : n < 1000000000) (hok : S.D.ok) (h : RVol w0 w N rv Rb rd rc s S) :
    Calls Tryz.prog 44 #[.pointer (some ⟨rv, 0, none⟩)] w fun e w' => e = .returned (.tuple #[.int .i64 (S.reclaim kb kt).1.1, .bool (S.reclaim kb kt).1.2.1, .int .i64 (S.reclaim kb kt).1.2.2]) ∧ RTo true w0 w w' N rv Rb rd rc s (S.reclaim kb kt).2 := by
  have H : Hid (RVol w0 w N rv Rb rd rc s S) := h
  have qf := h.cf
  cases hd : S.dead with
  | true =>
    have HE : Hid (S.reclaim kb kt = ((0, false, 6), S)) := by show S.reclaim kb kt = _; unfold Vs.reclaim; rw [hd]; rfl
    rw [hd] at qf
    clear h hd B ho hok
    go_enter Tryz.func44, Tryz.ntmps44
    go_wp2_with fail
    go_ret3
    rw [HE.out]
    exact ⟨rfl, H.out.self⟩
  | false =>
    have HB : Hid (RBase Rb s kb kt) := B
    have HO : Hid (S.ok n ∧ n < 1000000000 ∧ S.D.ok) := ⟨ho, hn, hok⟩
    have HD : Hid (S.dead = false) := hd
    rw [hd] at qf
    clear h hd B ho hn hok
    go_enter Tryz.func44, Tryz.ntmps44
    go_wp2_with fail
    have H1 : Hid (RVol w0 w.drew N rv Rb rd rc s S) := H.out.go (Since.refl _).drew
    have HS1 : Hid (Since w w.drew) := (Since.refl _).drew
    have hL := Tw.ln73 S.T
    have HLV : Hid (∀ W, Calls Tryz.prog 92 #[.agg (brow 73 (tcell S.T)).toArray] W fun e w' => ∃ x, e = .returned x ∧ Sp.Ls w' w'.heap.size x 8 S.live ∧ Since W w') := fun W => (Sp.rLive_any S.T W).mono fun e w' ⟨x, h1, h2, h3⟩ => ⟨x, h1, lsOwn h2 (fun j hj => by unfold Sp.liveV; rw [List.getElem?_map, List.getElem?_range hj]; rfl), h3⟩
    have HIN : Hid (∀ (z : Int) W, Calls Tryz.prog 93 #[.agg (brow 73 (tcell S.T)).toArray, .int .i64 z] W fun e w' => ∃ x, e = .returned x ∧ w'.ownsRow W.heap.size 3 1 x (Sp.inI S.T z 24).length (Sp.vals (Sp.inI S.T z 24)) ∧ Since W w') := fun z W => Sp.rIn_any S.T z W
    have HR1 : Hid (w.drew.rangeAt rv 4 (brow 73 (tcell S.T))) := H1.out.tab
    generalize hcs : brow 73 (tcell S.T) = cs at *
    have HCS : Hid (brow 73 (tcell S.T) = cs) := hcs
    clear hcs
    have hS1 : (fun W : World => W.rangeAt rv 4 cs) w.drew := HR1.out
    refine wp_region_held (S := fun W : World => W.rangeAt rv 4 cs) (by kernel_rfl) ?_
    refine Tw.takeD (i := 0) (d := 17) (v := ?v1) rfl rfl (by kernel_rfl) (by kernel_rfl) (by kernel_rfl) (fun _ _ _ h => h) (Or.inl ⟨by rfl, ?hw1⟩) hS1 ?q1
    case hw1 => (intro w hSw; have s0 := hSw; go_simp; try with_reducible rfl)
    simp only [Act.put, List.setIfInBounds_toArray, List.set_cons_zero, List.set_cons_succ]
    refine Tw.takeD (i := 2) (d := 19) (v := ?v2) rfl rfl (by kernel_rfl) (by kernel_rfl) (by kernel_rfl) (fun _ _ _ h => h) (Or.inl ⟨by rfl, ?hw2⟩) hS1 ?q2
    case hw2 => (intro w hSw; have s0 := hSw; go_simp; try with_reducible rfl)
    simp only [Act.put, List.setIfInBounds_toArray, List.set_cons_zero, List.set_cons_succ]
    refine Tw.takeD (i := 3) (d := 20) (v := ?v3) rfl rfl (by kernel_rfl) (by kernel_rfl) (by kernel_rfl) (fun _ _ _ h => h) (Or.inl ⟨by rfl, ?hw3⟩) hS1 ?q3
    case hw3 => (intro w hSw; have s0 := hSw; go_simp; try with_reducible rfl)
    simp only [Act.put, List.setIfInBounds_toArray, List.set_cons_zero, List.set_cons_succ]
    refine Tw.takeD (i := 4) (d := 21) (v := ?v4) rfl rfl (by kernel_rfl) (by kernel_rfl) (by kernel_rfl) (fun _ _ _ h => h) (Or.inl ⟨by rfl, ?hw4⟩) hS1 ?q4
    case hw4 => (intro w hSw; have s0 := hSw; go_simp; try with_reducible rfl)
    simp only [Act.put, List.setIfInBounds_toArray, List.set_cons_zero, List.set_cons_succ]
    refine Tw.takeD (i := 5) (d := 22) (v := .agg cs.toArray) rfl rfl (by kernel_rfl) (by kernel_rfl) (by kernel_rfl) (fun _ _ _ h => h) (yieldsIf_load_mid (by rfl) 92 _ (by rfl) rv 4 (by rfl) _ _ (fun w hSw => hSw) Tryz.underlying92 (by rfl) (by rw [hL]; kernel_rfl)) hS1 ?q5
    simp only [Act.put, List.setIfInBounds_toArray, List.set_cons_zero, List.set_cons_succ]
    refine wpAnyH_ready (rs := [1]) (by kernel_rfl) (by simp) (AllReadyH.cons rfl (fun K hK => ?_) AllReadyH.nil)
    rw [if_pos (by rfl)]
    go_simp
    refine (rat_any H1.out HO.out.2.2).mono ?_
    rintro e w2 ⟨⟨x, rfl, hx⟩, h2⟩
    simp only []
    have H2 : Hid (RVol w0 w2 N rv Rb rd rc s S) := H1.out.go h2
    have HS2 : Hid (Since w w2) := HS1.out.trans h2
    have HX2 : Hid (Sp.Ls w2 w2.heap.size x 8 S.atf) := hx
    have hS2 : (fun W : World => W.rangeAt rv 4 cs) w2 := rangeSince HR1.out h2
    clear h2 hx
    refine hK.out _ _ hS2 (fun _ => ?_)
    clear hK K
    (try simp only [Act.put, List.setIfInBounds_toArray, List.set_cons_zero, List.set_cons_succ])
    refine wpAnyH_ready (rs := [6]) (by kernel_rfl) (by simp) (AllReadyH.cons rfl (fun K hK => ?_) AllReadyH.nil)
    rw [if_pos (by rfl)]
    go_simp
    refine (HLV.out _).mono ?_
    rintro e w3 ⟨y, rfl, hy, h3⟩
    simp only []
    have H3 : Hid (RVol w0 w3 N rv Rb rd rc s S) := H2.out.go h3
    have HS3 : Hid (Since w w3) := HS2.out.trans h3
    have HX3 : Hid (Sp.Ls w3 w2.heap.size x 8 S.atf ∧ w2.heap.size ≤ w3.heap.size) := ⟨HX2.out.since h3, h3.size⟩
    have HY3 : Hid (Sp.Ls w3 w3.heap.size y 8 S.live) := hy
    have hS3 : (fun W : World => W.rangeAt rv 4 cs) w3 := rangeSince hS2 h3
    clear h3 hy
    refine hK.out _ _ hS3 (fun _ => ?_)
    clear hK K
    (try simp only [Act.put, List.setIfInBounds_toArray, List.set_cons_zero, List.set_cons_succ])
    refine wpAnyH_ready (rs := [7]) (by kernel_rfl) (by simp) (AllReadyH.cons rfl (fun K hK => ?_) AllReadyH.nil)
    rw [if_pos (by rfl)]
    go_simp
    refine (Sp.rvictim_any x y 8 8 w3.heap.size S.atf S.live _ (by
      obtain ⟨a, c, hv, hc, h⟩ := HX3.out.1
      exact ⟨a, c, hv, hc, fun hn => by
        obtain ⟨k, o, ha, hk, hcc⟩ := h hn
        exact ⟨k, o, ha, Nat.lt_of_lt_of_le hk HX3.out.2, hcc⟩⟩) HY3.out (by omega) (by omega)).mono ?_
    rintro e w4 ⟨⟨z, ok, rfl, hz⟩, h4⟩
    simp only []
    have H4 : Hid (RVol w0 w4 N rv Rb rd rc s S) := H3.out.go h4
    have HS4 : Hid (Since w w4) := HS3.out.trans h4
    have hS4 : (fun W : World => W.rangeAt rv 4 cs) w4 := rangeSince hS3 h4
    have HZ : Hid _ := vic_of hz
    clear h4 hz
    refine hK.out _ _ hS4 (fun _ => ?_)
    clear hK K
    (try simp only [Act.put, List.setIfInBounds_toArray, List.set_cons_zero, List.set_cons_succ])
    refine Tw.takeD (i := 8) (d := 16) (v := ?v12) rfl rfl (by kernel_rfl) (by kernel_rfl) (by kernel_rfl) (fun _ _ _ h => h) (Or.inl ⟨by rfl, ?hw12⟩) hS4 ?q12
    case hw12 => (intro w hSw; have s0 := hSw; go_simp; try with_reducible rfl)
    simp only [Act.put, List.setIfInBounds_toArray, List.set_cons_zero, List.set_cons_succ]
    refine Tw.takeD (i := 9) (d := 25) (v := ?v13) rfl rfl (by kernel_rfl) (by kernel_rfl) (by kernel_rfl) (fun _ _ _ h => h) (Or.inl ⟨by rfl, ?hw13⟩) hS4 ?q13
    case hw13 => (intro w hSw; have s0 := hSw; go_simp; try with_reducible rfl)
    simp only [Act.put, List.setIfInBounds_toArray, List.set_cons_zero, List.set_cons_succ]
    refine Tw.takeD (i := 10) (d := 26) (v := ?v14) rfl rfl (by kernel_rfl) (by kernel_rfl) (by kernel_rfl) (fun _ _ _ h => h) (Or.inl ⟨by rfl, ?hw14⟩) hS4 ?q14
    case hw14 => (intro w hSw; have s0 := hSw; go_simp; try with_reducible rfl)
    simp only [Act.put, List.setIfInBounds_toArray, List.set_cons_zero, List.set_cons_succ]
    refine Tw.takeD (i := 11) (d := 5) (v := ?v15) rfl rfl (by kernel_rfl) (by kernel_rfl) (by kernel_rfl) (fun _ _ _ h => h) (Or.inl ⟨by rfl, ?hw15⟩) hS4 ?q15
    case hw15 => (intro w hSw; have s0 := hSw; go_simp; try with_reducible rfl)
    simp only [Act.put, List.setIfInBounds_toArray, List.set_cons_zero, List.set_cons_succ]
    refine Tw.takeD (i := 12) (d := 6) (v := ?v16) rfl rfl (by kernel_rfl) (by kernel_rfl) (by kernel_rfl) (fun _ _ _ h => h) (Or.inl ⟨by rfl, ?hw16⟩) hS4 ?q16
    case hw16 => (intro w hSw; have s0 := hSw; go_simp; try with_reducible rfl)
    simp only [Act.put, List.setIfInBounds_toArray, List.set_cons_zero, List.set_cons_succ]
    refine wpAnyH_done (by kernel_rfl) ?_ _
    clear hS1 hS2 hS3 H1 H2 H3 HS1 HS2 HS3 HX2 HX3 HY3 HLV HR1
    rcases HZ.out with ⟨rfl, zz, rfl, hz8, hv⟩ | ⟨rfl, rfl, hv⟩
    · have HV : Hid (vicTo S.atf S.live 8 = some zz ∧ zz < 8) := ⟨hv, hz8⟩
      clear hv hz8 HZ
      have hR4 : w4.rangeAt rv 4 cs := hS4
      clear hS4
      go_wp2_with (refine wpList_load_mid (by rfl) 92 _ (by rfl) rv 4 (by rfl) _ _ hR4 Tryz.underlying92 (by rfl) (by rw [hL]; kernel_rfl) ?_)
      refine (HIN.out _ _).mono ?_
      rintro e w5 ⟨x5, rfl, ho5, h5⟩
      have H5 : Hid (RVol w0 w5 N rv Rb rd rc s S) := H4.out.go h5
      have HS5 : Hid (Since w w5) := HS4.out.trans h5
      have HG : Hid (rv < w4.heap.size ∧ rd < w4.heap.size ∧ rc < w4.heap.size) := by
        obtain ⟨lv, av, wv, hr⟩ := H4.out.ref
        exact ⟨H4.out.ty.lt, hr.cel.lt (by omega), H4.out.ctr.lt (by omega)⟩
      have HP : Hid _ := reclaim_some (kb := kb) (kt := kt) HD.out HV.out.1
      have HL24 : Hid (∀ i ∈ Sp.inI S.T (zz : Int) 24, i < 24) := fun i hi => (inI_mem.1 hi).1
      have HLN : Hid ((Sp.inI S.T (zz : Int) 24).length ≤ 24) := Sp.inI_len _ _ _
      generalize Sp.inI S.T (zz : Int) 24 = L at *
      obtain ⟨a5, c5, rfl, hc5⟩ := own_cells ho5 rfl
      have HRL : Hid (RLr w0 w w5 N rv Rb rd rc s kb S n zz L a5 0 ∧ ∀ g, a5 = some ⟨g, 0, none⟩ → 0 < L.length → g ≠ rv ∧ g ≠ rd ∧ g ≠ rc) := by
        refine ⟨⟨S, H.out.to HS5.out, HO.out.1, HO.out.2.2, rfl, fun h0 => ?_⟩, fun g hg h0 => ?_⟩
        · obtain ⟨g, hg1, hg2, hg3, hg4⟩ := hc5 h0
          exact ⟨g, hg1, hg3, hg4⟩
        · obtain ⟨g', hg1, hg2, hg3, hg4⟩ := hc5 h0
          rw [hg] at hg1
          injection hg1 with hg1
          injection hg1 with hg1
          have := HG.out
          omega
      have HGN : Hid (∀ g, a5 = some ⟨g, 0, none⟩ → 0 < L.length → g ≠ rv ∧ g ≠ rd ∧ g ≠ rc) := HRL.out.2
      clear hc5 ho5 h5 hR4 H4 HS4 HG H5 HS5 HIN HCS hL
      go_wp2_with fail
      go_loopw [37, 9, 10] (fun i _ _ wr => ∃ k : Nat, k ≤ L.length ∧ i = .int .i64 (k : Int) ∧ RLr w0 w wr N rv Rb rd rc s kb S n zz L a5 k) (fun i _ _ _ => L.length - (intOf i).toNat)
      case atStart => exact ⟨0, by omega, rfl, HRL.out.1⟩
      case round =>
        clear HRL
        obtain ⟨k, hk, rfl, Sk, hto, hok, hdk, hmv, hrow⟩ := hrel
        have HTO : Hid (RTo true w0 w wr N rv Rb rd rc s Sk) := hto
        have HOK : Hid (Sk.ok n ∧ Sk.D.ok) := ⟨hok, hdk⟩
        have HMV : Hid (Sk.moves kb zz (L.drop k) = S.moves kb zz L) := hmv
        have HRW : Hid (0 < L.length → ∃ g, a5 = some ⟨g, 0, none⟩ ∧ g < wr.heap.size ∧ ∀ j (hj : j < L.length), wr.cell? ⟨g, j, none⟩ = some (.int .i64 (L[j] : Int))) := hrow
        clear hto hok hdk hmv hrow
        by_cases hlt : k < L.length
        · have hlt2 : (k : Int) < L.length := by omega
          have hk24 : (k : Int) < 24 := by have := HLN.out; omega
          obtain ⟨g, rfl, hg3, hg4⟩ := HRW.out (by omega)
          have HGG : Hid ((g ≠ rv ∧ g ≠ rd ∧ g ≠ rc) ∧ g < wr.heap.size ∧ ∀ j (hj : j < L.length), wr.cell? ⟨g, j, none⟩ = some (.int .i64 (L[j] : Int))) := ⟨HGN.out g rfl (by omega), hg3, hg4⟩
          have q1 := hg4 k hlt
          clear hg3 hg4 HRW
          have hi24 : L[k] < 24 := HL24.out _ (List.getElem_mem _)
          have HDR : Hid (L.drop k = L[k] :: L.drop (k + 1)) := List.drop_eq_getElem_cons hlt
          generalize L[k] = ii at *
          have hi2 : (ii : Int) < 24 := by omega
          have q2 := HTO.out.1.cx ii hi24
          go_wp2_with fail
          refine (rput_any (q := true) HB.out ii (Sk.X ii) zz hi24 (HOK.out.1.txt ii) HOK.out.2 HTO.out.1).mono ?_
          rintro e w6 ⟨rfl, h6⟩
          have HOK6 : Hid ((Sk.put kb ii zz (Sk.X ii)).2.ok n ∧ (Sk.put kb ii zz (Sk.X ii)).2.D.ok) := ⟨HOK.out.1.put kb ii hi24 zz (Sk.X ii) (HOK.out.1.txt ii), put_dok HOK.out.2 kb ii zz (Sk.X ii)⟩
          have HM6 : Hid (S.moves kb zz L = if (Sk.put kb ii zz (Sk.X ii)).1 = 0 then (Sk.put kb ii zz (Sk.X ii)).2.moves kb zz (L.drop (k + 1)) else Sk.put kb ii zz (Sk.X ii)) := by
            show S.moves kb zz L = _
            rw [← HMV.out, HDR.out, moves_cons]
          have hb6 := h6.2.block g HGG.out.2.1 HGG.out.1.1 HGG.out.1.2.1 HGG.out.1.2.2 (Or.inl rfl)
          have HG6 : Hid (g < w6.heap.size ∧ ∀ j (hj : j < L.length), w6.cell? ⟨g, j, none⟩ = some (.int .i64 (L[j] : Int))) := ⟨Nat.lt_of_lt_of_le HGG.out.2.1 h6.2.size, fun j hj => (World.cell?_of_block (w := wr) (a := ⟨g, j, none⟩) hb6).trans (HGG.out.2.2 j hj)⟩
          have HT6 : Hid (RTo true w0 w w6 N rv Rb rd rc s (Sk.put kb ii zz (Sk.X ii)).2) := HTO.out.after h6
          clear h6 hb6 HGG q1 q2 HTO HOK HMV HDR
          generalize Sk.put kb ii zz (Sk.X ii) = R at *
          by_cases h0 : R.1 = 0
          · rw [h0]
            have HM7 : Hid (R.2.moves kb zz (L.drop (k + 1)) = S.moves kb zz L) := by
              show R.2.moves kb zz (L.drop (k + 1)) = S.moves kb zz L
              rw [HM6.out, if_pos h0]
            clear h0 HM6
            go_wp2_with fail
            go_roundw
            case rel => exact ⟨k + 1, by omega, by go_num, R.2, HT6.out, HOK6.out.1, HOK6.out.2, HM7.out, fun _ => ⟨g, rfl, HG6.out⟩⟩
            case measure => simp [intOf]; omega
          · have HE : Hid (S.reclaim kb kt = ((0, false, R.1), R.2)) := by
              show S.reclaim kb kt = _
              rw [HP.out, HM6.out, if_neg h0, if_pos h0]
            have h0d : ¬ R.1 = 0 := h0
            clear h0 HP HM6
            go_wp2_with fail
            go_ret3
            rw [HE.out]
            exact ⟨rfl, HT6.out⟩
        · have hke : k = L.length := by omega
          subst hke
          have HM7 : Hid (S.moves kb zz L = (0, Sk)) := by
            show S.moves kb zz L = (0, Sk)
            rw [← HMV.out, List.drop_length, moves_nil]
          clear HMV HRW hlt
          go_wp2_with fail
          refine (rflush_any (q := true) HB.out (HOK.out.1.next (by have := HO.out.2.1; omega)) HOK.out.2 HTO.out.1).mono ?_
          rintro e w6 ⟨rfl, h6⟩
          have HT6 : Hid (RTo true w0 w w6 N rv Rb rd rc s (Sk.flush kt).2) := HTO.out.after h6
          have HD6 : Hid ((Sk.flush kt).2.D.ok) := flush_dok HOK.out.2 kt (HOK.out.1.next (by have := HO.out.2.1; omega))
          have HP7 : Hid (S.reclaim kb kt = if (Sk.flush kt).1 ≠ 0 then ((0, false, (Sk.flush kt).1), (Sk.flush kt).2) else if (Sk.flush kt).2.D.may = false then ((0, false, 14), { (Sk.flush kt).2 with dead := true }) else (((L.length : Int), true, 0), { (Sk.flush kt).2 with D := (Sk.flush kt).2.D.burnt.reset zz })) := by
            show S.reclaim kb kt = _
            rw [HP.out, HM7.out, if_neg (fun h => h rfl)]
          clear h6 HTO HOK HM7 HP
          generalize Sk.flush kt = R at *
          by_cases h0 : R.1 = 0
          · rw [h0]
            have HP8 : Hid (S.reclaim kb kt = if R.2.D.may = false then ((0, false, 14), { R.2 with dead := true }) else (((L.length : Int), true, 0), { R.2 with D := R.2.D.burnt.reset zz })) := by
              show S.reclaim kb kt = _
              rw [HP7.out, if_neg (by rw [h0]; decide)]
            clear h0 HP7
            have q0 := HT6.out.1.c1
            go_wp2_with fail
            refine (rresetD_any (q := true) zz HV.out.2 HD6.out HT6.out.1).mono ?_
            rintro e w7 ⟨rfl, h7⟩
            have HT7 : Hid (RTo true w0 w w7 N rv Rb rd rc s { R.2 with D := (rsD R.2.D zz).2 }) := HT6.out.after h7
            clear h7 HT6 q0
            go_wp2_with fail
            refine (device_any (q := true) (rsD R.2.D zz).1 HT7.out.1).mono ?_
            rintro e w8 ⟨rfl, h8⟩
            have HT8 : Hid (RTo true w0 w w8 N rv Rb rd rc s { R.2 with D := (rsD R.2.D zz).2, dead := R.2.dead || decide ((rsD R.2.D zz).1 = 14) }) := HT7.out.after h8
            clear h8 HT7
            cases hm : R.2.D.may with
            | false =>
              have e1 : rsD R.2.D zz = (14, R.2.D) := by unfold rsD; rw [if_pos hm]
              rw [e1] at HT8 ⊢
              have HE : Hid (S.reclaim kb kt = ((0, false, 14), { R.2 with dead := true })) := by
                show S.reclaim kb kt = _
                rw [HP8.out, if_pos hm]
              clear e1 hm HP8
              go_wp2_with fail
              go_ret3
              rw [HE.out]
              refine ⟨rfl, ?_⟩
              have := HT8.out
              simpa using this
            | true =>
              have e1 : rsD R.2.D zz = (0, R.2.D.burnt.reset zz) := by unfold rsD; rw [if_neg (by rw [hm]; decide)]
              rw [e1] at HT8 ⊢
              have HE : Hid (S.reclaim kb kt = (((L.length : Int), true, 0), { R.2 with D := R.2.D.burnt.reset zz })) := by
                show S.reclaim kb kt = _
                rw [HP8.out, if_neg (by rw [hm]; decide)]
              clear e1 hm HP8
              go_wp2_with fail
              go_ret3
              rw [HE.out]
              refine ⟨rfl, ?_⟩
              have := HT8.out
              simpa using this
          · have HE : Hid (S.reclaim kb kt = ((0, false, R.1), R.2)) := by
              show S.reclaim kb kt = _
              rw [HP7.out, if_pos h0]
            have h0d : ¬ R.1 = 0 := h0
            clear h0 HP7
            go_wp2_with fail
            go_ret3
            rw [HE.out]
            exact ⟨rfl, HT6.out⟩
    · have HV : Hid (vicTo S.atf S.live 8 = none) := hv
      clear hv HZ
      go_wp2_with fail
      go_ret3
      have HP : S.reclaim kb kt = ((0, false, 0), S) := by
        unfold Vs.reclaim
        rw [HD.out, HV.out]
        rfl
      rw [HP]
      exact ⟨rfl, H.out.to HS4.out⟩
end
end Vl
end Go.Proofs.YtbfjklpoheooaaaGreatDoor
end
section
namespace Go.Proofs.YtbfjklpoheooaaaGreatDoor
set_option maxRecDepth 100000
namespace Vl
open Go.RowKit
open Tw (Tb tcell tval ccell)
theorem in_true {z : Int} (h : 0 ≤ z ∧ z < 24) : (decide (0 ≤ z) && decide (z ≤ 23)) = true := by simp; omega
theorem in_false {z : Int} (h : ¬ (0 ≤ z ∧ z < 24)) : (decide (0 ≤ z) && decide (z ≤ 23)) = false := by simp; omega
section
variable {q : Bool} {w0 w : World} {N rv Rb rd rc : Nat} {s kb kt : ByteArray} {S : Vs}
set_option maxHeartbeats 8000000 in
theorem rwrite_any (B : RBase Rb s kb kt) (n : Int) (ho : S.ok n) (hn : n < 1000000000) (hok : S.D.ok) (i : Int) (t : ByteArray) (h : RVol w0 w N rv Rb rd rc s S) :
    Calls Tryz.prog 12 #[.pointer (some ⟨rv, 0, none⟩), .int .i64 i, .string t] w fun e w' => e = .returned (.int .i64 (S.write kb kt i t).1) ∧ RTo true w0 w w' N rv Rb rd rc s (S.write kb kt i t).2 := by
  have HB : Hid (RBase Rb s kb kt) := B
  have HO : Hid (S.ok n ∧ n < 1000000000 ∧ S.D.ok) := ⟨ho, hn, hok⟩
  have H : Hid (RVol w0 w N rv Rb rd rc s S) := h
  have qf := h.cf
  clear h B ho hn hok
  cases hd : S.dead with
  | true =>
    have HE : Hid (S.write kb kt i t = (6, S)) := by show S.write kb kt i t = _; unfold Vs.write; rw [hd]; rfl
    rw [hd] at qf
    clear hd
    go_enter Tryz.func12, Tryz.ntmps12
    go_wp2_with fail
    go_ret
    rw [HE.out]
    exact ⟨rfl, H.out.self⟩
  | false =>
    have HD : Hid (S.dead = false) := hd
    rw [hd] at qf
    clear hd
    go_enter Tryz.func12, Tryz.ntmps12
    go_wp2_with fail
    refine (in_any _ _ _ _).mono ?_
    rintro e wx ⟨rfl, hw⟩
    rw [hw]
    clear hw wx
    by_cases hi : 0 ≤ i ∧ i < 24
    · rw [in_true hi]
      obtain ⟨k, rfl⟩ := Int.eq_ofNat_of_zero_le hi.1
      have hk : (k : Int) < 24 := hi.2
      have HK : Hid (k < 24) := by show k < 24; omega
      have HI : Hid (¬ ¬ (0 ≤ (k : Int) ∧ (k : Int) < 24)) := fun q => q hi
      clear hi
      by_cases ht : 80 < t.size
      · have ht2 : (80 : Int) < t.size := by omega
        have HE : Hid (S.write kb kt k t = (4, S)) := by show S.write kb kt k t = _; unfold Vs.write; rw [HD.out, if_neg (by decide), if_neg HI.out, if_pos ht]
        clear ht
        go_wp2_with fail
        go_ret
        rw [HE.out]
        exact ⟨rfl, H.out.self⟩
      · have ht2 : ¬ (80 : Int) < t.size := by omega
        have HT : Hid (¬ 80 < t.size) := ht
        clear ht
        have qx := H.out.cx k HK.out
        by_cases hx : t = S.X k
        · have HE : Hid (S.write kb kt k t = (0, S)) := by show S.write kb kt k t = _; unfold Vs.write; rw [HD.out, if_neg (by decide), if_neg HI.out, if_neg HT.out, Int.toNat_natCast, if_pos hx]
          rw [← hx] at qx
          clear hx
          go_wp2_with fail
          go_ret
          rw [HE.out]
          exact ⟨rfl, H.out.self⟩
        · have hxl := Tw.neq_list hx
          have HX : Hid (¬ t = S.X k) := hx
          clear hx
          by_cases he : t = ⟨#[]⟩
          · have HE : Hid (S.write kb kt k t = (0, S.set k 0 0 ⟨#[]⟩ ⟨#[]⟩)) := by show S.write kb kt k t = _; unfold Vs.write; rw [HD.out, if_neg (by decide), if_neg HI.out, if_neg HT.out, Int.toNat_natCast, if_neg HX.out, if_pos he]
            subst he
            obtain ⟨g1, g2⟩ := ne_nil (fun q : S.X k = ⟨#[]⟩ => HX.out q.symm)
            clear hxl
            have HC5 : Hid (Cel w rv 102 (rvcell Rb rd rc s S.T S.X S.dead)) := H.out.cel
            have HCD : Hid (Cel w.drew rv 102 (rvcell Rb rd rc s S.T S.X S.dead)) := H.out.cel.since (Since.refl _).drew
            have c0 := HC5.out.cell (5 + k * 3) (by have := HK.out; omega)
            have c1 := HC5.out.cell (5 + k * 3 + 1) (by have := HK.out; omega)
            have c2 := HC5.out.cell (5 + k * 3 + 2) (by have := HK.out; omega)
            have c3 := HC5.out.cell (77 + k) (by have := HK.out; omega)
            have d0 := HCD.out.cell (5 + k * 3) (by have := HK.out; omega)
            have d1 := HCD.out.cell (5 + k * 3 + 1) (by have := HK.out; omega)
            have d2 := HCD.out.cell (5 + k * 3 + 2) (by have := HK.out; omega)
            have d3 := HCD.out.cell (77 + k) (by have := HK.out; omega)
            have f0 := HC5.out.frozen (5 + k * 3) (by have := HK.out; omega)
            have f1 := HC5.out.frozen (5 + k * 3 + 1) (by have := HK.out; omega)
            have f2 := HC5.out.frozen (5 + k * 3 + 2) (by have := HK.out; omega)
            have f3 := HC5.out.frozen (77 + k) (by have := HK.out; omega)
            have x0 := HCD.out.frozen (5 + k * 3) (by have := HK.out; omega)
            have x1 := HCD.out.frozen (5 + k * 3 + 1) (by have := HK.out; omega)
            have x2 := HCD.out.frozen (5 + k * 3 + 2) (by have := HK.out; omega)
            have x3 := HCD.out.frozen (77 + k) (by have := HK.out; omega)
            go_wp2_with fail
            go_region
            have HT6 : Hid (RTo true w0 w ((((w.setCell ⟨rv, 5 + k * 3, none⟩ (.int .i64 0)).setCell ⟨rv, 5 + k * 3 + 1, none⟩ (.int .i64 0)).setCell ⟨rv, 5 + k * 3 + 2, none⟩ (.string ⟨#[]⟩)).setCell ⟨rv, 77 + k, none⟩ (.string ⟨#[]⟩)).drew N rv Rb rd rc s (S.set k 0 0 ⟨#[]⟩ ⟨#[]⟩)) := by
              refine RTo.then (H.out.celTo (T' := updT S.T k 0 0 ⟨#[]⟩) (X' := updX S.X k ⟨#[]⟩) (f' := S.dead) ?_ ((((Fr.setCell _ _ _ _ _).trans' (Fr.setCell _ _ _ _ _)).trans' (Fr.setCell _ _ _ _ _)).trans' (Fr.setCell _ _ _ _ _)) ((((H.out.ty.setCell _ _).setCell _ _).setCell _ _).setCell _ _)) (fun h => h.to (Since.refl _).drew)
              exact ((((HC5.out.set (5 + k * 3) (by have := HK.out; omega) _).set (5 + k * 3 + 1) (by have := HK.out; omega) _).set (5 + k * 3 + 2) (by have := HK.out; omega) _).congr (fun j hj => rvcell_set _ _ _ _ _ _ _ k HK.out 0 0 ⟨#[]⟩ j hj)).set (77 + k) (by have := HK.out; omega) _ |>.congr (fun j hj => rvcell_setX _ _ _ _ _ _ _ k HK.out ⟨#[]⟩ j hj)
            clear c0 c1 c2 c3 d0 d1 d2 d3 f0 f1 f2 f3 x0 x1 x2 x3 HC5 HCD
            go_wp2_with fail
            go_ret
            rw [HE.out]
            exact ⟨rfl, HT6.out⟩
          · obtain ⟨g1, g2⟩ := ne_nil he
            have HP : Hid (S.write kb kt k t = if S.free ≤ 20 then (if (S.reclaim kb kt).1.2.2 ≠ 0 then ((S.reclaim kb kt).1.2.2, (S.reclaim kb kt).2) else (S.reclaim kb kt).2.put kb k (-1) t) else S.put kb k (-1) t) := by
              show S.write kb kt k t = _
              unfold Vs.write
              rw [HD.out, if_neg (by decide), if_neg HI.out, if_neg HT.out, Int.toNat_natCast, if_neg HX.out, if_neg he]
            clear he
            go_wp2_with fail
            refine (rfree_any H.out HO.out.2.2).mono ?_
            rintro e w1 ⟨rfl, h1⟩
            have H1 : Hid (RVol w0 w1 N rv Rb rd rc s S) := H.out.go h1
            have HS1 : Hid (Since w w1) := h1
            clear h1 qx hxl g1 g2
            by_cases hf : S.free ≤ 20
            · have hfd : decide (S.free ≤ 20) = true := decide_eq_true hf
              have HP2 : Hid (S.write kb kt k t = if (S.reclaim kb kt).1.2.2 ≠ 0 then ((S.reclaim kb kt).1.2.2, (S.reclaim kb kt).2) else (S.reclaim kb kt).2.put kb k (-1) t) := by
                show S.write kb kt k t = _
                rw [HP.out, if_pos hf]
              clear HP
              generalize S.free = fr at *
              go_wp2_with fail
              refine (rreclaim_any HB.out n HO.out.1 HO.out.2.1 HO.out.2.2 H1.out).mono ?_
              rintro e w2 ⟨rfl, h2⟩
              have HT2 : Hid (RTo true w0 w w2 N rv Rb rd rc s (S.reclaim kb kt).2) := RTo.pre HS1.out h2
              have HD2 : Hid ((S.reclaim kb kt).2.D.ok) := reclaim_dok HO.out.2.2 HO.out.1 HO.out.2.1 kb kt
              clear h2 hf hfd
              generalize S.reclaim kb kt = R at *
              obtain ⟨⟨r1, r2, r3⟩, R2⟩ := R
              dsimp only at HT2 HP2 HD2 ⊢
              by_cases h0 : r3 = 0
              · subst h0
                have HP3 : Hid (S.write kb kt k t = R2.put kb k (-1) t) := by
                  show S.write kb kt k t = _
                  rw [HP2.out, if_neg (fun q => q rfl)]
                clear HP2
                go_wp2_with fail
                refine (rput_any (q := true) HB.out k t (-1) HK.out (by have := HT.out; omega) HD2.out HT2.out.1).mono ?_
                rintro e w3 ⟨rfl, h3⟩
                have H3 : Hid (RTo true w0 w w3 N rv Rb rd rc s (R2.put kb k (-1) t).2) := HT2.out.after h3
                clear h3
                go_wp2_with fail
                go_ret
                rw [HP3.out]
                exact ⟨rfl, H3.out⟩
              · have HP3 : Hid (S.write kb kt k t = (r3, R2)) := by
                  show S.write kb kt k t = _
                  rw [HP2.out, if_pos h0]
                clear HP2
                go_wp2_with fail
                go_ret
                rw [HP3.out]
                exact ⟨rfl, HT2.out⟩
            · have hfd : decide (S.free ≤ 20) = false := decide_eq_false hf
              have HP2 : Hid (S.write kb kt k t = S.put kb k (-1) t) := by
                show S.write kb kt k t = _
                rw [HP.out, if_neg hf]
              clear HP
              generalize S.free = fr at *
              go_wp2_with fail
              refine (rput_any (q := true) HB.out k t (-1) HK.out (by have := HT.out; omega) HO.out.2.2 H1.out).mono ?_
              rintro e w2 ⟨rfl, h2⟩
              have H2 : Hid (RTo true w0 w w2 N rv Rb rd rc s (S.put kb k (-1) t).2) := RTo.pre HS1.out h2
              clear h2
              go_wp2_with fail
              go_ret
              rw [HP2.out]
              exact ⟨rfl, H2.out⟩
    · have HE : Hid (S.write kb kt i t = (2, S)) := by show S.write kb kt i t = _; unfold Vs.write; rw [HD.out, if_neg (by decide), if_pos hi]
      rw [in_false hi]
      go_wp2_with fail
      go_ret
      rw [HE.out]
      exact ⟨rfl, H.out.self⟩
end
end Vl
end Go.Proofs.YtbfjklpoheooaaaGreatDoor
end
