import Derived.Test.YtifnhnfjelfddaaGreatDoorJ27
import Derived.Test.YtifnhnfjelfddaaGreatDoorJ35
set_option linter.unusedSimpArgs false
set_option linter.unusedVariables false
namespace Go.Proofs.YtifnhnfjelfddaaGreatDoor
set_option maxRecDepth 100000
namespace Vl
open Go.RowKit
open Tw (Tb tcell tval ccell)
theorem synced_ws (D : Dv) : D.synced.ws = [] := rfl
theorem next_cell (S : Vs) (j : Nat) (hj : j < 73) : updv (tcell S.T) 0 (.int .i64 (S.T.count + 1)) j = tcell S.next j := by
  unfold updv tcell Tw.tpart Vs.next
  by_cases e : j = 0
  · rw [if_pos e, if_pos e]
  · rw [if_neg e, if_neg e, if_neg e]
theorem vcell_tabs (db cb : Nat) (kb kt : ByteArray) (T U : Tb) (X : Nat → ByteArray) (f : Bool) (j : Nat) (hj : j < 102) :
    updl (vcell db cb kb kt T X f) 4 73 (tcell U) j = vcell db cb kb kt U X f j := by
  unfold updl
  by_cases h : 4 ≤ j ∧ j < 4 + 73
  · rw [if_pos h]
    have := vcell_tab db cb kb kt U X f (j - 4) (by omega)
    rw [show 4 + (j - 4) = j by omega] at this
    rw [this]
  · rw [if_neg h]
    unfold vcell
    by_cases h4 : j < 77
    · match j, (show j < 4 by omega) with
      | 0, _ => rfl
      | 1, _ => rfl
      | 2, _ => rfl
      | 3, _ => rfl
    · simp only [if_neg h4]
section
variable {w0 w : World} {vb db cb : Nat} {kb kt : ByteArray} {S : Vs} {v : Value}
set_option maxHeartbeats 4000000 in
theorem flush_dead (h : Vol w0 w vb db cb kb kt S v) (hd : S.dead = true) :
    Calls Tryz.prog 16 #[.pointer (some ⟨vb, 0, none⟩)] w fun e w' => e = .returned (ev 6) ∧ w' = w := by
  have H : Hid (Vol w0 w vb db cb kb kt S v) := h
  have HD : Hid (S.dead = true) := hd
  clear h hd
  go_enter Tryz.func16, Tryz.ntmps16
  go_wp2_with fail
  refine (orZero_any _ _).mono ?_
  rintro e w' ⟨rfl, rfl⟩
  go_wp2_with fail
  refine (works_any H.out).mono ?_
  rintro e w' ⟨rfl, rfl⟩
  rw [HD.out]
  go_wp2_with fail
  go_ret
  exact ⟨by rw [evn 6 (by decide)]; rfl, rfl⟩
set_option maxHeartbeats 4000000 in
theorem flush_any (B : Base w0 kb kt) (hr : Tw.Rt S.next) (hc : S.c < S.T.count + 1) (h : Vol w0 w vb db cb kb kt S v) :
    Calls Tryz.prog 16 #[.pointer (some ⟨vb, 0, none⟩)] w fun e w' => e = .returned (ev (S.flush kt).1) ∧ Vto w0 w w' vb db cb kb kt (S.flush kt).2 v := by
  cases hd : S.dead with
  | true =>
    have e1 : S.flush kt = (6, S) := by unfold Vs.flush; rw [hd]; rfl
    rw [e1]
    refine (flush_dead h hd).mono ?_
    rintro e w' ⟨rfl, rfl⟩
    exact ⟨rfl, h.self⟩
  | false =>
    have HB : Hid (Base w0 kb kt) := B
    have HRT : Hid (Tw.Rt S.next) := hr
    have HC : Hid (S.c < S.T.count + 1) := hc
    have HN : Hid (S.T.count + 1 ≤ 1099511627776 ∧ 1 ≤ S.T.count + 1) := ⟨hr.1.2, hr.1.1⟩
    have HP : Hid (S.flush kt = if S.D.may = false then (14, { S with dead := true }) else if (({ S with D := S.D.burnt.synced } : Vs).tell kt S.next).1 = 0 then (0, { (({ S with D := S.D.burnt.synced } : Vs).tell kt S.next).2 with T := S.next }) else ({ S with D := S.D.burnt.synced } : Vs).tell kt S.next) := by
      show S.flush kt = _
      unfold Vs.flush
      rw [hd]
      rfl
    have H : Hid (Vol w0 w vb db cb kb kt S v) := h
    have HD : Hid (S.dead = false) := hd
    clear h hd B hr hc
    go_enter Tryz.func16, Tryz.ntmps16
    go_wp2_with fail
    refine (orZero_any _ _).mono ?_
    rintro e wx ⟨rfl, hw⟩
    rw [hw]
    clear hw wx
    go_wp2_with fail
    refine (works_any H.out).mono ?_
    rintro e wx ⟨rfl, hw⟩
    rw [hw]
    clear hw wx
    rw [HD.out]
    have q0 := H.out.c0
    go_wp2_with fail
    refine (syncD_any H.out).mono ?_
    rintro e w1 ⟨rfl, h1⟩
    obtain ⟨v1, h1v, F1⟩ := h1.cont
    have H1 : Hid (Vol w0 w1 vb db cb kb kt { S with D := (syD S.D).2 } v1) := h1v
    have HF1 : Hid (∀ w'' S', Vto w0 w1 w'' vb db cb kb kt S' v1 → Vto w0 w w'' vb db cb kb kt S' v) := F1
    clear h1 h1v F1 q0
    go_wp2_with fail
    refine (heed_any (syD S.D).1 H1.out).mono ?_
    rintro e w2 ⟨rfl, h2⟩
    obtain ⟨v2, h2v, F2⟩ := h2.cont
    have H2 : Hid (Vol w0 w2 vb db cb kb kt { S with D := (syD S.D).2, dead := S.dead || decide ((syD S.D).1 = 14) } v2) := h2v
    have HF2 : Hid (∀ w'' S', Vto w0 w2 w'' vb db cb kb kt S' v2 → Vto w0 w w'' vb db cb kb kt S' v) := fun w'' S' h => HF1.out _ _ (F2 w'' S' h)
    clear h2 h2v F2 H1 HF1
    cases hm : S.D.may with
    | false =>
      have e1 : syD S.D = (14, S.D) := by unfold syD; rw [if_pos hm]
      rw [e1] at H2 ⊢
      rw [evn 14 (by decide)]
      have HE : Hid (S.flush kt = (14, { S with dead := true })) := by
        show S.flush kt = _
        rw [HP.out, if_pos hm]
      clear e1 hm HP
      go_wp2_with fail
      go_ret
      rw [HE.out, evn 14 (by decide)]
      refine ⟨rfl, ?_⟩
      have := HF2.out _ _ H2.out.self
      simpa using this
    | true =>
      have e1 : syD S.D = (0, S.D.burnt.synced) := by unfold syD; rw [if_neg (by rw [hm]; decide)]
      rw [e1] at H2 ⊢
      rw [ev0]
      have HE : Hid (S.flush kt = if (({ S with D := S.D.burnt.synced } : Vs).tell kt S.next).1 = 0 then (0, { (({ S with D := S.D.burnt.synced } : Vs).tell kt S.next).2 with T := S.next }) else ({ S with D := S.D.burnt.synced } : Vs).tell kt S.next) := by
        show S.flush kt = _
        rw [HP.out, if_neg (by rw [hm]; decide)]
      clear e1 hm HP
      have h2 : Vol w0 w2 vb db cb kb kt { S with D := S.D.burnt.synced } v2 := by
        have := H2.out
        simpa using this
      clear H2
      have HTL : Hid (∀ W V, Vol w0 W vb db cb kb kt { S with D := S.D.burnt.synced } V → Calls Tryz.prog 44 #[.pointer (some ⟨vb, 0, none⟩), .agg (brow 73 (tcell S.next)).toArray] W fun e w' => e = .returned (ev (({ S with D := S.D.burnt.synced } : Vs).tell kt S.next).1) ∧ Vto w0 W w' vb db cb kb kt (({ S with D := S.D.burnt.synced } : Vs).tell kt S.next).2 V) := fun W V hV => tell_any HB.out S.next HRT.out HC.out (by show (S.D.burnt.synced).ws.length < 1000; rw [synced_ws]; decide) hV
      generalize ({ S with D := S.D.burnt.synced } : Vs).tell kt S.next = R at *
      generalize S.D.burnt.synced = D1 at *
      have H2 : Hid (Vol w0 w2 vb db cb kb kt { S with D := D1 } v2) := h2
      clear h2
      have hR := H2.out.tab
      have hL := Tw.ln73 S.T
      have hC3 := Tw.zeroTab_cel w2 w2.heap.size rfl
      obtain ⟨hst, hC4⟩ := Tw.tab_stored hC3 S.T
      have HC4 : Hid (Cel ((w2.alloc (.cells Tryz.zeroCells92 92)).setCells w2.heap.size 0 (brow 73 (tcell S.T))) w2.heap.size 73 (tcell S.T)) := hC4
      have HS4 : Hid (Since w2 ((w2.alloc (.cells Tryz.zeroCells92 92)).setCells w2.heap.size 0 (brow 73 (tcell S.T)))) := ((Since.refl w2).alloc _).setCells (Nat.le_refl _) _ _
      clear hC3 hC4
      have c0 : ((w2.alloc (.cells Tryz.zeroCells92 92)).setCells w2.heap.size 0 (brow 73 (tcell S.T))).cell? ⟨w2.heap.size, 0, none⟩ = some (.int .i64 S.T.count) := HC4.out.cell 0 (by omega)
      have f0 := HC4.out.frozen 0 (by omega)
      have hn0 : S.T.count + 1 ≤ 1099511627776 := HN.out.1
      have hn1 : 1 ≤ S.T.count + 1 := HN.out.2
      have HC5 : Hid (Cel (((w2.alloc (.cells Tryz.zeroCells92 92)).setCells w2.heap.size 0 (brow 73 (tcell S.T))).setCell ⟨w2.heap.size, 0, none⟩ (.int .i64 (S.T.count + 1))) w2.heap.size 73 (tcell S.next)) := (HC4.out.set 0 (by omega) _).congr (next_cell S)
      have HS5 : Hid (Since w2 (((w2.alloc (.cells Tryz.zeroCells92 92)).setCells w2.heap.size 0 (brow 73 (tcell S.T))).setCell ⟨w2.heap.size, 0, none⟩ (.int .i64 (S.T.count + 1)))) := HS4.out.setCell (Nat.le_refl _) _
      generalize hcs : brow 73 (tcell S.T) = cs at *
      clear hcs
      generalize ((w2.alloc (.cells Tryz.zeroCells92 92)).setCells w2.heap.size 0 cs) = w3 at *
      have hR2 := Tw.tab_all HC5.out
      have hL2 := Tw.ln73 S.next
      generalize hcs2 : brow 73 (tcell S.next) = cs2 at *
      generalize hw4 : w3.setCell ⟨w2.heap.size, 0, none⟩ (.int .i64 (S.T.count + 1)) = w4 at *
      have H4 : Hid (Vol w0 w4 vb db cb kb kt { S with D := D1 } v2) := H2.out.go HS5.out
      have HCS : Hid (brow 73 (tcell S.next) = cs2) := hcs2
      have HW4 : Hid (w3.setCell ⟨w2.heap.size, 0, none⟩ (.int .i64 (S.T.count + 1)) = w4) := hw4
      clear hcs2 hw4
      go_wp2_with (first
        | refine wpList_load_mid (by rfl) 92 _ (by rfl) vb 4 (by rfl) _ _ hR Tryz.underlying92 (by rfl) (by rw [hL]; kernel_rfl) ?_
        | (rw [HW4.out]; refine wpList_load_mid (by rfl) 92 _ (by rfl) w2.heap.size 0 (by rfl) _ _ hR2 Tryz.underlying92 (by rfl) (by rw [hL2]; kernel_rfl) ?_))
      refine (HTL.out w4 v2 H4.out).mono ?_
      rintro e w5 ⟨rfl, h5⟩
      have HNN : Hid (¬ VP vb db cb v2 w2.heap.size) := H2.out.notNew
      obtain ⟨v5, h5v, F5, n5⟩ := h5
      have HC6 : Hid (Cel w5 w2.heap.size 73 (tcell S.next)) := celFs HC5.out F5 HNN.out
      have HT5 : Hid (∀ w' S', Vto w0 w5 w' vb db cb kb kt S' v5 → Vto w0 w w' vb db cb kb kt S' v) := fun w' S' ⟨v6, h6, F6, n6⟩ => HF2.out _ _ (Vto.pre HS5.out ⟨v6, h6, F5.trans' F6 (VP.nx n5), n5.trans n6 F5.size⟩)
      have H5 : Hid (Vol w0 w5 vb db cb kb kt R.2 v5) := h5v
      clear h5v F5 n5 hR hR2 hL c0 f0 hst HC4 HS4 HC5 HS5 H4 H2 HF2 HTL HW4
      by_cases h0 : R.1 = 0
      · rw [h0, ev0]
        have HE2 : Hid (S.flush kt = (0, { R.2 with T := S.next })) := by
          show S.flush kt = _
          rw [HE.out, if_pos h0]
        clear h0 HE
        have hR := Tw.tab_all HC6.out
        rw [HCS.out] at hR
        have hst := H5.out.cel.store Tryz.prog 4 73 (by omega) (tcell S.next) (fun j _ => Tw.tcell_one _ j)
        rw [HCS.out] at hst
        have HC7 : Hid (Cel (w5.setCells vb 4 cs2) vb 102 (vcell db cb kb kt S.next R.2.X R.2.dead)) := by
          have := (H5.out.cel.setRow 4 73 (by omega) (tcell S.next)).congr (fun j hj => vcell_tabs db cb kb kt R.2.T S.next R.2.X R.2.dead j hj)
          rw [HCS.out] at this
          exact this
        go_wp2_with (refine wpList_load_mid (by rfl) 92 _ (by rfl) w2.heap.size 0 (by rfl) _ _ hR Tryz.underlying92 (by rfl) (by rw [hL2]; kernel_rfl) ?_)
        go_ret
        rw [HE2.out, ev0]
        exact ⟨rfl, HT5.out _ _ (H5.out.celTo HC7.out (Fr.setCells _ _ _ _ _) (Ty.setCells _ _ _ _ H5.out.ty))⟩
      · have HE2 : Hid (S.flush kt = R) := by
          show S.flush kt = _
          rw [HE.out, if_neg h0]
        rw [evn _ h0]
        have HE3 : Hid (ev R.1 = .iface 45 (.int .i64 R.1)) := evn _ h0
        clear h0 HE
        go_wp2_with fail
        go_ret
        rw [HE2.out, HE3.out]
        exact ⟨rfl, HT5.out _ _ H5.out.self⟩
end
end Vl
end Go.Proofs.YtifnhnfjelfddaaGreatDoor
