import Derived.Test.YtbfjklpoheooaaaGreatDoorJ01
import Derived.Test.YtbfjklpoheooaaaGreatDoorJ30
import Derived.Test.YtbfjklpoheooaaaGreatDoorJ46
import Derived.Test.YtbfjklpoheooaaaGreatDoorJ47
set_option linter.unusedSimpArgs false
set_option linter.unusedVariables false
section
namespace Go.Proofs.YtbfjklpoheooaaaGreatDoor
set_option maxRecDepth 100000
namespace Vl
open Go.RowKit
open Tw (Tb tcell tval ccell)
structure RDC (w0 w : World) (N Rb rd rc : Nat) (D : Dv) (c : Int) : Prop where
  ref : ∃ lv av wv, Ref w rd N D lv av wv
  ctr : Cel w rc 1 (fun _ => .int .i64 c)
  hh : Sm.Arr w Rb 0 8 Sm.H0.fn ∧ Sm.Arr w Rb 8 64 Sm.kn
  ne : Rb < N ∧ rd < N ∧ rc < N ∧ rd ≠ rc ∧ rd ≠ Rb ∧ rc ≠ Rb
  since : Since w0 w
  lo : w0.heap.size ≤ Rb ∧ w0.heap.size ≤ rd ∧ w0.heap.size ≤ rc
theorem RDC.go {w0 w w' : World} {N Rb rd rc : Nat} {D : Dv} {c : Int} (h : RDC w0 w N Rb rd rc D c) (hs : Since w w') : RDC w0 w' N Rb rd rc D c where
  ref := by
    obtain ⟨lv, av, wv, hr⟩ := h.ref
    exact ⟨lv, av, wv, hr.since hs⟩
  ctr := h.ctr.since hs
  hh := ⟨h.hh.1.since hs, h.hh.2.since hs⟩
  ne := h.ne
  since := h.since.trans hs
  lo := h.lo
theorem RVol.rdc {w0 w : World} {N rv Rb rd rc : Nat} {s : ByteArray} {S : Vs} (h : RVol w0 w N rv Rb rd rc s S) : RDC w0 w N Rb rd rc S.D S.c := ⟨h.ref, h.ctr, h.hh, ⟨h.ne.1, h.ne.2.1, h.ne.2.2.1, h.ne.2.2.2.2⟩, h.since, h.lo⟩
theorem zeroRVol_get (j : Nat) (hj : j < 102) : Tryz.zeroCells95[j]? = some (if j < 3 then .pointer none else rvcell 0 0 0 ⟨#[]⟩ Tb.zero (fun _ => ⟨#[]⟩) false j) := by
  have hr : Tryz.zeroCells95.toList = brow 102 (fun j => if j < 3 then .pointer none else rvcell 0 0 0 ⟨#[]⟩ Tb.zero (fun _ => ⟨#[]⟩) false j) := by kernel_rfl
  rw [← Array.getElem?_toList, hr]
  exact brow_get _ _ _ hj
theorem newRVol (w : World) (Rb rd rc : Nat) (s : ByteArray) : Cel (w.alloc (.cells ((((Tryz.zeroCells95.setIfInBounds 0 (.pointer (some ⟨Rb, 0, none⟩))).setIfInBounds 1 (.pointer (some ⟨rd, 0, none⟩))).setIfInBounds 2 (.pointer (some ⟨rc, 0, none⟩))).setIfInBounds 3 (.string s)) 95)) w.heap.size 102 (rvcell Rb rd rc s Tb.zero (fun _ => ⟨#[]⟩) false) := by
  refine Cel.new w _ _ _ _ (fun j hj => ?_) _ rfl
  have hz := Tryz.zeroCells95_size
  by_cases h3 : j = 3
  · subst h3
    rw [Array.getElem?_setIfInBounds_self_of_lt (by simp only [Array.size_setIfInBounds, hz]; omega)]
    rfl
  · rw [Array.getElem?_setIfInBounds_ne (fun e => h3 e.symm)]
    by_cases h2 : j = 2
    · subst h2
      rw [Array.getElem?_setIfInBounds_self_of_lt (by simp only [Array.size_setIfInBounds, hz]; omega)]
      rfl
    · rw [Array.getElem?_setIfInBounds_ne (fun e => h2 e.symm)]
      by_cases h1 : j = 1
      · subst h1
        rw [Array.getElem?_setIfInBounds_self_of_lt (by simp only [Array.size_setIfInBounds, hz]; omega)]
        rfl
      · rw [Array.getElem?_setIfInBounds_ne (fun e => h1 e.symm)]
        by_cases h0 : j = 0
        · subst h0
          rw [Array.getElem?_setIfInBounds_self_of_lt (by rw [hz]; omega)]
          rfl
        · rw [Array.getElem?_setIfInBounds_ne (fun e => h0 e.symm), zeroRVol_get j hj, if_neg (by omega)]
          unfold rvcell
          simp only [if_neg h0, if_neg h1, if_neg h2, if_neg h3]
def ROpened (w0 w w' : World) (N Rb rd rc : Nat) (s kb kt : ByteArray) (D : Dv) (c : Int) (e : Ending) : Prop :=
  ∃ rv r S', OpenTo kb kt (fresh D c) r S' ∧ ((r = 0 ∧ e = .returned (.tuple #[.pointer (some ⟨rv, 0, none⟩), .int .i64 0])) ∨ (r ≠ 0 ∧ e = .returned (.tuple #[.pointer none, .int .i64 r]))) ∧ w.heap.size ≤ rv ∧ RVol w0 w' N rv Rb rd rc s S' ∧
    RF true N rv rd rc w w'
theorem ropen_secret (Rb rd rc : Nat) (s : ByteArray) (w : World) (h : s.size ≠ 16) :
    Calls Tryz.prog 8 #[.pointer (some ⟨Rb, 0, none⟩), .pointer (some ⟨rd, 0, none⟩), .pointer (some ⟨rc, 0, none⟩), .string s] w fun e w' => e = .returned (.tuple #[.pointer none, .int .i64 1]) ∧ w' = w := by
  have h2 : ¬ (s.size : Int) = 16 := by omega
  clear h
  go_enter Tryz.func8, Tryz.ntmps8
  go_wp2_with fail
  go_ret2
  exact ⟨rfl, rfl⟩
set_option maxHeartbeats 8000000 in
theorem ropen_any {w0 w : World} {N Rb rd rc : Nat} {s kb kt : ByteArray} {D : Dv} {c : Int} (B : RBase Rb s kb kt) (hs : s.size = 16) (hok : D.ok) (hc : 0 ≤ c ∧ c < 1000000000) (h : RDC w0 w N Rb rd rc D c) :
    Calls Tryz.prog 8 #[.pointer (some ⟨Rb, 0, none⟩), .pointer (some ⟨rd, 0, none⟩), .pointer (some ⟨rc, 0, none⟩), .string s] w fun e w' => ROpened w0 w w' N Rb rd rc s kb kt D c e := by
  have hs2 : (s.size : Int) = 16 := by omega
  obtain ⟨hc0, hc1⟩ := hc
  have HB : Hid (RBase Rb s kb kt) := B
  have HOK : Hid (D.ok) := hok
  have HSA : Hid (Since w (w.alloc (.cells ((((Tryz.zeroCells95.setIfInBounds 0 (.pointer (some ⟨Rb, 0, none⟩))).setIfInBounds 1 (.pointer (some ⟨rd, 0, none⟩))).setIfInBounds 2 (.pointer (some ⟨rc, 0, none⟩))).setIfInBounds 3 (.string s)) 95))) := (Since.refl w).alloc _
  have H1 : Hid (RVol w0 (w.alloc (.cells ((((Tryz.zeroCells95.setIfInBounds 0 (.pointer (some ⟨Rb, 0, none⟩))).setIfInBounds 1 (.pointer (some ⟨rd, 0, none⟩))).setIfInBounds 2 (.pointer (some ⟨rc, 0, none⟩))).setIfInBounds 3 (.string s)) 95)) N w.heap.size Rb rd rc s (fresh D c)) := by
    have h1 := h.go HSA.out
    obtain ⟨lv, av, wv, hr⟩ := h.ref
    exact ⟨newRVol w Rb rd rc s, h1.ref, h1.ctr, h1.hh, Ty.new _ _ _, ⟨h.ne.1, h.ne.2.1, h.ne.2.2.1, hr.le, h.ne.2.2.2⟩, h1.since, h.lo⟩
  have HDC : Hid (RDC w0 w N Rb rd rc D c) := h
  clear h B hok hs
  have q1 : (w.alloc (.cells ((((Tryz.zeroCells95.setIfInBounds 0 (.pointer (some ⟨Rb, 0, none⟩))).setIfInBounds 1 (.pointer (some ⟨rd, 0, none⟩))).setIfInBounds 2 (.pointer (some ⟨rc, 0, none⟩))).setIfInBounds 3 (.string s)) 95)).cell? ⟨rc, 0, none⟩ = some (.int .i64 c) := H1.out.ctr.cell 0 (by omega)
  have HWH : Hid (∀ W n, 0 ≤ n → ∀ SS : Vs, SS.D.ok → RVol w0 W N w.heap.size Rb rd rc s SS → Calls Tryz.prog 31 #[.pointer (some ⟨w.heap.size, 0, none⟩), .int .i64 n] W fun e w' => (whole kb kt SS.D n ∧ e = .returned (.bool true) ∧ RTo true w0 W w' N w.heap.size Rb rd rc s { SS with T := tabAt SS.D n, X := saysTo kb SS.D (tabAt SS.D n) 24 }) ∨ (¬ whole kb kt SS.D n ∧ e = .returned (.bool false) ∧ Since W w')) := fun W n hn SS hok hV => whole_any HB.out n hn hok hV
  go_enter Tryz.func8, Tryz.ntmps8
  go_wp2_with fail
  generalize w.alloc (.cells ((((Tryz.zeroCells95.setIfInBounds 0 (.pointer (some ⟨Rb, 0, none⟩))).setIfInBounds 1 (.pointer (some ⟨rd, 0, none⟩))).setIfInBounds 2 (.pointer (some ⟨rc, 0, none⟩))).setIfInBounds 3 (.string s)) 95) = w1 at *
  refine (HWH.out w1 (c + 1) (by omega) (fresh D c) HOK.out H1.out).mono ?_
  rintro e w2 (⟨hw1, rfl, h1⟩ | ⟨hw1, rfl, h1⟩)
  · have HW : Hid (whole kb kt D (c + 1)) := hw1
    have HT1 : Hid (RTo true w0 w w2 N w.heap.size Rb rd rc s { fresh D c with T := tabAt D (c + 1), X := saysTo kb D (tabAt D (c + 1)) 24 }) := RTo.pre HSA.out h1
    clear hw1 h1 q1
    have q2 : w2.cell? ⟨rc, 0, none⟩ = some (.int .i64 c) := HT1.out.1.ctr.cell 0 (by omega)
    have f2 := HT1.out.1.ctr.frozen 0 (by omega)
    go_wp2_with fail
    go_ret2
    have ht := HT1.out.after (HT1.out.1.ctrTo (q := true) (c' := c + 1))
    exact ⟨_, 0, _, Or.inl ⟨HW.out, rfl, rfl⟩, Or.inl ⟨rfl, rfl⟩, Nat.le_refl _, ht.1, ht.2⟩
  · have HW : Hid (¬ whole kb kt D (c + 1)) := hw1
    have H2 : Hid (RVol w0 w2 N w.heap.size Rb rd rc s (fresh D c)) := H1.out.go h1
    have HS2 : Hid (Since w w2) := HSA.out.trans h1
    clear hw1 h1 q1
    have q2 : w2.cell? ⟨rc, 0, none⟩ = some (.int .i64 c) := H2.out.ctr.cell 0 (by omega)
    by_cases h0 : 0 < c
    · have hd0 : decide (0 < c) = true := decide_eq_true h0
      go_wp2_with fail
      refine (HWH.out w2 c hc0 (fresh D c) HOK.out H2.out).mono ?_
      rintro e w3 (⟨hw2, rfl, h2⟩ | ⟨hw2, rfl, h2⟩)
      · have HW2 : Hid (whole kb kt D c) := hw2
        have HT2 : Hid (RTo true w0 w w3 N w.heap.size Rb rd rc s { fresh D c with T := tabAt D c, X := saysTo kb D (tabAt D c) 24 }) := RTo.pre HS2.out h2
        clear hw2 h2
        go_wp2_with fail
        go_ret2
        exact ⟨_, 0, _, Or.inr (Or.inr (Or.inl ⟨HW.out, by show c ≠ 0; omega, HW2.out, rfl, rfl⟩)), Or.inl ⟨rfl, rfl⟩, Nat.le_refl _, HT2.out.1, HT2.out.2⟩
      · have HW2 : Hid (¬ whole kb kt D c) := hw2
        have HS3 : Hid (Since w w3) := HS2.out.trans h2
        have H3 : Hid (RVol w0 w3 N w.heap.size Rb rd rc s (fresh D c)) := H2.out.go h2
        clear hw2 h2
        go_wp2_with fail
        go_ret2
        exact ⟨_, 15, _, Or.inr (Or.inr (Or.inr ⟨HW.out, by show c ≠ 0; omega, HW2.out, rfl, rfl⟩)), Or.inr ⟨by decide, rfl⟩, Nat.le_refl _, H3.out, RF.of_since HS3.out⟩
    · have hd0 : decide (0 < c) = false := decide_eq_false h0
      go_wp2_with fail
      go_ret2
      exact ⟨_, 0, _, Or.inr (Or.inl ⟨HW.out, by show c = 0; omega, rfl, rfl⟩), Or.inl ⟨rfl, rfl⟩, Nat.le_refl _, H2.out, RF.of_since HS2.out⟩
end Vl
end Go.Proofs.YtbfjklpoheooaaaGreatDoor
end
section
namespace Go.Proofs.YtbfjklpoheooaaaGreatDoor
namespace Vl
open Go.RowKit
open Tw (Tb tcell tval ccell)
structure Apart (N db cb Rb rd rc : Nat) : Prop where
  lt : db < N ∧ cb < N ∧ Rb < N ∧ rd < N ∧ rc < N
  ne : db ≠ cb ∧ rd ≠ rc ∧ rd ≠ Rb ∧ rc ≠ Rb
  pr : db ≠ Rb ∧ db ≠ rd ∧ db ≠ rc ∧ cb ≠ Rb ∧ cb ≠ rd ∧ cb ≠ rc
def Safe (w : World) (db cb rd rc k : Nat) : Prop := (∃ t, Ty w k t ∧ t ≠ 99 ∧ t ≠ 95 ∧ t ≠ 203) ∧ k ≠ db ∧ k ≠ cb ∧ k ≠ rd ∧ k ≠ rc
theorem Safe.blk {w w' : World} {db cb rd rc k : Nat} (h : Safe w db cb rd rc k) (hb : w'.heap[k]? = w.heap[k]?) : Safe w' db cb rd rc k := by
  obtain ⟨⟨t, ht, h1⟩, h2⟩ := h
  exact ⟨⟨t, ht.blk hb, h1⟩, h2⟩
theorem Safe.lt {w : World} {db cb rd rc k : Nat} (h : Safe w db cb rd rc k) : k < w.heap.size := by
  obtain ⟨⟨t, ht, _⟩, _⟩ := h
  exact ht.lt
section
variable {w0 w w' : World} {N vb db cb rv Rb rd rc : Nat} {s kb kt : ByteArray} {S : Vs} {v : Value} {D : Dv} {c : Int}
theorem Safe.fsP {k : Nat} (h : Safe w db cb rd rc k) (hty : Ty w vb 99) (hown : ∀ j, v.ownBlock = some j → Ty w j 203) (hf : Fs (VP vb db cb v) w w') : w'.heap[k]? = w.heap[k]? := by
  obtain ⟨⟨t, ht, h1, h2, h3⟩, h4, h5, _⟩ := h
  refine hf.block k ht.lt ?_
  rintro (e | e | e | e)
  · subst e; exact h1 (ht.one hty)
  · exact h4 e
  · exact h5 e
  · exact h3 (ht.one (hown _ e))
theorem Safe.fsD {k : Nat} (h : Safe w db cb rd rc k) (hown : ∀ j, v.ownBlock = some j → Ty w j 203) (hf : Fs (fun k => k = db ∨ k = cb ∨ v.ownBlock = some k) w w') : w'.heap[k]? = w.heap[k]? := by
  obtain ⟨⟨t, ht, h1, h2, h3⟩, h4, h5, _⟩ := h
  refine hf.block k ht.lt ?_
  rintro (e | e | e)
  · exact h4 e
  · exact h5 e
  · exact h3 (ht.one (hown _ e))
theorem Safe.rf {k : Nat} (h : Safe w db cb rd rc k) (hty : rv < w.heap.size → Ty w rv 95) (hf : RF true N rv rd rc w w') : w'.heap[k]? = w.heap[k]? := by
  obtain ⟨⟨t, ht, h1, h2, h3⟩, h4, h5, h6, h7⟩ := h
  refine hf.block k ht.lt (fun e => ?_) h6 h7 (Or.inl rfl)
  subst e
  exact h2 (ht.one (hty ht.lt))
theorem devOwn {b : Nat} (h : Dev w b D v) : ∀ j, v.ownBlock = some j → Ty w j 203 := fun j hj => Ty.own h.own hj
theorem RDC.keep (A : Apart N db cb Rb rd rc) (h : RDC w0 w N Rb rd rc D c) (hb : ∀ k, k < w.heap.size → k ≠ db → k ≠ cb → (k < N ∨ Ty w k 3 ∨ Ty w k 9) → w'.heap[k]? = w.heap[k]?) (hsz : w.heap.size ≤ w'.heap.size) (hs : Since w0 w') : RDC w0 w' N Rb rd rc D c := by
  obtain ⟨lv, av, wv, hr⟩ := h.ref
  have hlt := A.lt
  have hpr := A.pr
  have hrow : ∀ z, z < 8 → w'.ownsRow N 9 1 (lv z) (D.cnt z) (blks (D.blk z) (D.cnt z)) := fun z hz => by
    refine ⟨(hr.row z hz).1, ?_⟩
    rcases (hr.row z hz).2 with hn | ⟨k, cap, cur, hv, hbk, hk, rest⟩
    · exact .inl hn
    · exact .inr ⟨k, cap, cur, hv, hbk, by rw [hb k (Array.getElem?_eq_some_iff.1 hk).1 (by omega) (by omega) (Or.inr (Or.inr ⟨_, _, hk⟩))]; exact hk, rest⟩
  have hat : w'.ownsRow N 3 1 av D.ws.length (atL D.ws) := by
    refine ⟨hr.at_.1, ?_⟩
    rcases hr.at_.2 with hn | ⟨k, cap, cur, hv, hbk, hk, rest⟩
    · exact .inl hn
    · exact .inr ⟨k, cap, cur, hv, hbk, by rw [hb k (Array.getElem?_eq_some_iff.1 hk).1 (by omega) (by omega) (Or.inr (Or.inl ⟨_, _, hk⟩))]; exact hk, rest⟩
  have hwhat : w'.ownsRow N 9 1 wv D.ws.length (whatL D.ws) := by
    refine ⟨hr.what.1, ?_⟩
    rcases hr.what.2 with hn | ⟨k, cap, cur, hv, hbk, hk, rest⟩
    · exact .inl hn
    · exact .inr ⟨k, cap, cur, hv, hbk, by rw [hb k (Array.getElem?_eq_some_iff.1 hk).1 (by omega) (by omega) (Or.inr (Or.inr ⟨_, _, hk⟩))]; exact hk, rest⟩
  have e1 := hb rd (hr.cel.lt (by omega)) (by omega) (by omega) (Or.inl (by omega))
  have e2 := hb rc (h.ctr.lt (by omega)) (by omega) (by omega) (Or.inl (by omega))
  have e3 := hb Rb (arrLt h.hh.1 (by omega)) (by omega) (by omega) (Or.inl (by omega))
  exact ⟨⟨lv, av, wv, ⟨celBlk hr.cel e1, hrow, hat, hwhat, hr.apart, hr.lt, Nat.le_trans hr.le hsz⟩⟩, celBlk h.ctr e2, ⟨arrFs h.hh.1 e3, arrFs h.hh.2 e3⟩, h.ne, hs, h.lo⟩
theorem RVol.keep (A : Apart N db cb Rb rd rc) (h : RVol w0 w N rv Rb rd rc s S) (hb : ∀ k, k < w.heap.size → k ≠ db → k ≠ cb → (k < N ∨ Ty w k 3 ∨ Ty w k 9) → w'.heap[k]? = w.heap[k]?) (hrv : w'.heap[rv]? = w.heap[rv]?) (hsz : w.heap.size ≤ w'.heap.size) (hs : Since w0 w') : RVol w0 w' N rv Rb rd rc s S := by
  have hd := h.rdc.keep A hb hsz hs
  exact ⟨celBlk h.cel hrv, hd.ref, hd.ctr, hd.hh, h.ty.blk hrv, h.ne, hs, h.lo⟩
theorem RVol.fsP (A : Apart N db cb Rb rd rc) (hN : N ≤ vb) (hvN : ∀ k, v.ownBlock = some k → N ≤ k) (h : RVol w0 w N rv Rb rd rc s S) {S' : Vs} (hp : Vol w0 w vb db cb kb kt S' v) (hf : Fs (VP vb db cb v) w w') : RVol w0 w' N rv Rb rd rc s S := by
  have ho := devOwn hp.dev
  refine h.keep A (fun k hk h1 h2 h3 => hf.block k hk ?_) (hf.block rv h.ty.lt ?_) hf.size (hf.since h.since ?_)
  · rintro (e | e | e | e)
    · subst e
      rcases h3 with h3 | h3 | h3
      · omega
      · exact absurd (hp.ty.one h3) (by decide)
      · exact absurd (hp.ty.one h3) (by decide)
    · exact h1 e
    · exact h2 e
    · have := hvN k e
      rcases h3 with h3 | h3 | h3
      · omega
      · exact absurd ((ho k e).one h3) (by decide)
      · exact absurd ((ho k e).one h3) (by decide)
  · have := A.lt
    have := h.ne
    rintro (e | e | e | e)
    · subst e; exact absurd (hp.ty.one h.ty) (by decide)
    · omega
    · omega
    · exact absurd ((ho _ e).one h.ty) (by decide)
  · rintro k (e | e | e | e)
    · rw [e]; exact hp.lo.1
    · rw [e]; exact hp.lo.2.1
    · rw [e]; exact hp.lo.2.2.1
    · exact hp.lo.2.2.2 k e
theorem RDC.fsP (A : Apart N db cb Rb rd rc) (hvN : ∀ k, v.ownBlock = some k → N ≤ k) (h : RDC w0 w N Rb rd rc D c) {D' : Dv} {c' : Int} (hp : DC w0 w db cb D' c' v) (hf : Fs (fun k => k = db ∨ k = cb ∨ v.ownBlock = some k) w w') : RDC w0 w' N Rb rd rc D c := by
  have ho := devOwn hp.dev
  refine h.keep A (fun k hk h1 h2 h3 => hf.block k hk ?_) hf.size (hf.since h.since ?_)
  · rintro (e | e | e)
    · exact h1 e
    · exact h2 e
    · have := hvN k e
      rcases h3 with h3 | h3 | h3
      · omega
      · exact absurd ((ho k e).one h3) (by decide)
      · exact absurd ((ho k e).one h3) (by decide)
  · rintro k (e | e | e)
    · rw [e]; exact hp.lo.1
    · rw [e]; exact hp.lo.2.1
    · exact hp.lo.2.2 k e
theorem Vol.rf (A : Apart N db cb Rb rd rc) (hN : N ≤ vb) (hvN : ∀ k, v.ownBlock = some k → N ≤ k) (h : Vol w0 w vb db cb kb kt S v) (hrv : rv < w.heap.size → Ty w rv 95) (hrN : N ≤ rv) (hlo : w0.heap.size ≤ rd ∧ w0.heap.size ≤ rc ∧ w0.heap.size ≤ rv) (hf : RF true N rv rd rc w w') : Vol w0 w' vb db cb kb kt S v := by
  have hlt := A.lt
  have hpr := A.pr
  have hb : ∀ k, k < w.heap.size → k ≠ rv → k ≠ rd → k ≠ rc → w'.heap[k]? = w.heap[k]? := fun k hk h1 h2 h3 => hf.block k hk h1 h2 h3 (Or.inl rfl)
  have e1 := hb vb h.ty.lt (fun e => by
    have := h.ty
    rw [e] at this
    exact absurd (this.one (hrv this.lt)) (by decide)) (by omega) (by omega)
  have e2 := hb db h.dev.lt (by omega) (by omega) (by omega)
  have e3 := hb cb (h.ctr.lt (by omega)) (by omega) (by omega) (by omega)
  have ho := devOwn h.dev
  refine ⟨celBlk h.cel e1, ⟨celBlk h.dev.cel e2, ?_, h.dev.ne, h.dev.ok⟩, celBlk h.ctr e3, h.ne, h.own, h.ty.blk e1, ?_, h.lo⟩
  · refine ⟨h.dev.own.1, ?_⟩
    rcases h.dev.own.2 with hn | ⟨k, cap, cur, hv, hbk, hk, rest⟩
    · exact .inl hn
    · have hko : v.ownBlock = some k := by rw [hv]; rfl
      have hkN := hvN k hko
      refine .inr ⟨k, cap, cur, hv, hbk, ?_, rest⟩
      rw [hb k (Array.getElem?_eq_some_iff.1 hk).1 (fun e => ?_) (by omega) (by omega)]
      · exact hk
      · subst e
        have ht := ho k hko
        exact absurd (ht.one (hrv ht.lt)) (by decide)
  · exact Below.trans (show Below w0.heap.size w0 w from h.since) ⟨hf.os, hf.tape, hf.output, hf.size, fun k hk => hb k (Nat.lt_of_lt_of_le hk h.since.size) (by omega) (by omega) (by omega)⟩
theorem DC.rf (A : Apart N db cb Rb rd rc) (hvN : ∀ k, v.ownBlock = some k → N ≤ k) (h : DC w0 w db cb D c v) (hrv : rv < w.heap.size → Ty w rv 95) (hrN : N ≤ rv) (hlo : w0.heap.size ≤ rd ∧ w0.heap.size ≤ rc ∧ w0.heap.size ≤ rv) (hf : RF true N rv rd rc w w') : DC w0 w' db cb D c v := by
  have hlt := A.lt
  have hpr := A.pr
  have hb : ∀ k, k < w.heap.size → k ≠ rv → k ≠ rd → k ≠ rc → w'.heap[k]? = w.heap[k]? := fun k hk h1 h2 h3 => hf.block k hk h1 h2 h3 (Or.inl rfl)
  have e2 := hb db h.dev.lt (by omega) (by omega) (by omega)
  have e3 := hb cb (h.ctr.lt (by omega)) (by omega) (by omega) (by omega)
  have ho := devOwn h.dev
  refine ⟨⟨celBlk h.dev.cel e2, ?_, h.dev.ne, h.dev.ok⟩, celBlk h.ctr e3, h.ne, h.own, ?_, h.lo⟩
  · refine ⟨h.dev.own.1, ?_⟩
    rcases h.dev.own.2 with hn | ⟨k, cap, cur, hv, hbk, hk, rest⟩
    · exact .inl hn
    · have hko : v.ownBlock = some k := by rw [hv]; rfl
      have hkN := hvN k hko
      refine .inr ⟨k, cap, cur, hv, hbk, ?_, rest⟩
      rw [hb k (Array.getElem?_eq_some_iff.1 hk).1 (fun e => ?_) (by omega) (by omega)]
      · exact hk
      · subst e
        have ht := ho k hko
        exact absurd (ht.one (hrv ht.lt)) (by decide)
  · exact Below.trans (show Below w0.heap.size w0 w from h.since) ⟨hf.os, hf.tape, hf.output, hf.size, fun k hk => hb k (Nat.lt_of_lt_of_le hk h.since.size) (by omega) (by omega) (by omega)⟩
end
structure Both (w0 w : World) (N vb db cb rv Rb rd rc : Nat) (s kb kt : ByteArray) (S : Vs) (n : Int) : Prop where
  ap : Apart N db cb Rb rd rc
  p : ∃ v, Vol w0 w vb db cb kb kt S v ∧ ∀ k, v.ownBlock = some k → N ≤ k
  r : RVol w0 w N rv Rb rd rc s S
  nv : N ≤ vb
  ok : S.ok n
  nN : N ≤ w.heap.size
structure BothD (w0 w : World) (N db cb Rb rd rc : Nat) (D : Dv) (c : Int) : Prop where
  ap : Apart N db cb Rb rd rc
  p : ∃ v, DC w0 w db cb D c v ∧ ∀ k, v.ownBlock = some k → N ≤ k
  r : RDC w0 w N Rb rd rc D c
  nN : N ≤ w.heap.size
def Keeps (w w' : World) (db cb rd rc : Nat) : Prop := w.heap.size ≤ w'.heap.size ∧ w'.os = w.os ∧ w'.tape = w.tape ∧ w'.output = w.output ∧ ∀ k, Safe w db cb rd rc k → w'.heap[k]? = w.heap[k]?
theorem Keeps.trans {w w1 w2 : World} {db cb rd rc : Nat} (h : Keeps w w1 db cb rd rc) (k : Keeps w1 w2 db cb rd rc) : Keeps w w2 db cb rd rc :=
  ⟨Nat.le_trans h.1 k.1, k.2.1.trans h.2.1, k.2.2.1.trans h.2.2.1, k.2.2.2.1.trans h.2.2.2.1, fun j hj => (k.2.2.2.2 j (hj.blk (h.2.2.2.2 j hj))).trans (h.2.2.2.2 j hj)⟩
theorem Keeps.of_since {w w' : World} {db cb rd rc : Nat} (h : Since w w') : Keeps w w' db cb rd rc := ⟨h.size, h.os, h.tape, h.output, fun k hk => h.block k hk.lt⟩
section
variable {w0 w w' : World} {N vb db cb rv Rb rd rc : Nat} {s kb kt : ByteArray} {S S' : Vs} {n m : Int} {v : Value}
theorem Both.since (h : Both w0 w N vb db cb rv Rb rd rc s kb kt S n) : Since w0 w := h.r.since
theorem Both.dok (h : Both w0 w N vb db cb rv Rb rd rc s kb kt S n) : S.D.ok := by
  obtain ⟨v, hp, _⟩ := h.p
  exact hp.dev.ok
theorem Both.go (h : Both w0 w N vb db cb rv Rb rd rc s kb kt S n) (hs : Since w w') : Both w0 w' N vb db cb rv Rb rd rc s kb kt S n := by
  obtain ⟨v, hp, hv⟩ := h.p
  exact ⟨h.ap, ⟨v, hp.go hs, hv⟩, h.r.go hs, h.nv, h.ok, Nat.le_trans h.nN hs.size⟩
theorem Both.d (h : Both w0 w N vb db cb rv Rb rd rc s kb kt S n) : BothD w0 w N db cb Rb rd rc S.D S.c := by
  obtain ⟨v, hp, hv⟩ := h.p
  exact ⟨h.ap, ⟨v, hp.dc, hv⟩, h.r.rdc, h.nN⟩
theorem Both.half (h : Both w0 w N vb db cb rv Rb rd rc s kb kt S n) : ∃ v, Vol w0 w vb db cb kb kt S v ∧ ∀ w1 S1, Vto w0 w w1 vb db cb kb kt S1 v → RVol w0 w1 N rv Rb rd rc s S ∧ Keeps w w1 db cb rd rc ∧ N ≤ w1.heap.size ∧ ∃ v1, Vol w0 w1 vb db cb kb kt S1 v1 ∧ ∀ k, v1.ownBlock = some k → N ≤ k := by
  obtain ⟨v, hp, hv⟩ := h.p
  refine ⟨v, hp, fun w1 S1 ⟨v1, h1, f1, n1⟩ => ?_⟩
  refine ⟨h.r.fsP h.ap h.nv hv hp f1, ⟨f1.size, f1.os, f1.tape, f1.output, fun k hk => hk.fsP hp.ty (devOwn hp.dev) f1⟩, Nat.le_trans h.nN f1.size, v1, h1, fun k hk => ?_⟩
  rcases n1 k hk with h2 | h2
  · exact hv k h2
  · exact Nat.le_trans h.nN h2
theorem Both.join (A : Apart N db cb Rb rd rc) (hnv : N ≤ vb) (hN : N ≤ w.heap.size) (hok : S'.ok m) (hp : ∃ v1, Vol w0 w vb db cb kb kt S' v1 ∧ ∀ k, v1.ownBlock = some k → N ≤ k) (hr : RVol w0 w N rv Rb rd rc s S) (ht : RTo true w0 w w' N rv Rb rd rc s S') : Both w0 w' N vb db cb rv Rb rd rc s kb kt S' m ∧ Keeps w w' db cb rd rc := by
  obtain ⟨v1, h1, hv1⟩ := hp
  have hne := hr.ne
  have hlo := hr.lo
  refine ⟨⟨A, ⟨v1, h1.rf A hnv hv1 (fun _ => hr.ty) (by omega) ⟨hlo.2.1, hlo.2.2, by omega⟩ ht.2, hv1⟩, ht.1, hnv, hok, Nat.le_trans hN ht.2.size⟩, ⟨ht.2.size, ht.2.os, ht.2.tape, ht.2.output, fun k hk => hk.rf (fun _ => hr.ty) ht.2⟩⟩
end
end Vl
end Go.Proofs.YtbfjklpoheooaaaGreatDoor
end
section
namespace Go.Proofs.YtbfjklpoheooaaaGreatDoor
set_option maxRecDepth 100000
namespace Vl
open Go.RowKit
open Tw (Tb tcell tval ccell)
theorem bare_ev (n : Int) (w : World) (hg : Et w) : Calls Tryz.prog 10 #[ev n, .int .i64 n] w fun e w' => e = .returned (.bool true) ∧ Since w w' := by
  by_cases h : n = 0
  · subst h
    rw [ev0]
    refine (bare_nil w).mono ?_
    rintro e w' ⟨rfl, rfl⟩
    exact ⟨rfl, Since.refl _⟩
  · rw [evn n h]
    exact bare_hit n w hg
section
variable {w0 w w' : World} {N vb db cb rv Rb rd rc : Nat} {s kb kt : ByteArray} {S S' : Vs} {n m : Int}
theorem Both.halfR {S1 : Vs} {w1 : World} (h : Both w0 w N vb db cb rv Rb rd rc s kb kt S n) (ht : RTo true w0 w w1 N rv Rb rd rc s S1) : (∃ v, Vol w0 w1 vb db cb kb kt S v ∧ ∀ k, v.ownBlock = some k → N ≤ k) ∧ Keeps w w1 db cb rd rc ∧ N ≤ w1.heap.size := by
  obtain ⟨v, hp, hv⟩ := h.p
  have hne := h.r.ne
  have hlo := h.r.lo
  exact ⟨⟨v, hp.rf h.ap h.nv hv (fun _ => h.r.ty) (by omega) ⟨hlo.2.1, hlo.2.2, by omega⟩ ht.2, hv⟩, ⟨ht.2.size, ht.2.os, ht.2.tape, ht.2.output, fun k hk => hk.rf (fun _ => h.r.ty) ht.2⟩, Nat.le_trans h.nN ht.2.size⟩
theorem Both.joinP {v : Value} (A : Apart N db cb Rb rd rc) (hnv : N ≤ vb) (hN : N ≤ w.heap.size) (hok : S'.ok m) (hp : Vol w0 w vb db cb kb kt S v) (hv : ∀ k, v.ownBlock = some k → N ≤ k) (hr : RVol w0 w N rv Rb rd rc s S') (ht : Vto w0 w w' vb db cb kb kt S' v) : Both w0 w' N vb db cb rv Rb rd rc s kb kt S' m ∧ Keeps w w' db cb rd rc := by
  obtain ⟨v1, h1, f1, n1⟩ := ht
  refine ⟨⟨A, ⟨v1, h1, fun k hk => ?_⟩, hr.fsP A hnv hv hp f1, hnv, hok, Nat.le_trans hN f1.size⟩, ⟨f1.size, f1.os, f1.tape, f1.output, fun k hk => hk.fsP hp.ty (devOwn hp.dev) f1⟩⟩
  rcases n1 k hk with h2 | h2
  · exact hv k h2
  · exact Nat.le_trans hN h2
set_option maxHeartbeats 4000000 in
theorem reclaims_any (B : Base w0 kb kt) (RB : RBase Rb s kb kt) (hE : Et w0) (hn : n < 1000000000) (h : Both w0 w N vb db cb rv Rb rd rc s kb kt S n) :
    Calls Tryz.prog 15 #[.pointer (some ⟨vb, 0, none⟩), .pointer (some ⟨rv, 0, none⟩)] w fun e w' => e = .returned (.bool true) ∧ Both w0 w' N vb db cb rv Rb rd rc s kb kt (S.reclaim kb kt).2 (n + 1) ∧ Keeps w w' db cb rd rc := by
  have H : Hid (Both w0 w N vb db cb rv Rb rd rc s kb kt S n) := h
  have HB : Hid (Base w0 kb kt ∧ RBase Rb s kb kt ∧ Et w0 ∧ n < 1000000000) := ⟨B, RB, hE, hn⟩
  clear h B RB hE hn
  go_enter Tryz.func15, Tryz.ntmps15
  go_wp2_with fail
  refine (rreclaim_any HB.out.2.1 n H.out.ok HB.out.2.2.2 H.out.dok H.out.r).mono ?_
  rintro e w1 ⟨rfl, h1⟩
  obtain ⟨⟨v1, hv1, hN1⟩, hk1, hs1⟩ := H.out.halfR h1
  have H1 : Hid (Vol w0 w1 vb db cb kb kt S v1) := hv1
  have HR1 : Hid (RVol w0 w1 N rv Rb rd rc s (S.reclaim kb kt).2) := h1.1
  have HK1 : Hid (Keeps w w1 db cb rd rc ∧ N ≤ w1.heap.size ∧ ∀ k, v1.ownBlock = some k → N ≤ k) := ⟨hk1, hs1, hN1⟩
  clear h1 hv1 hN1 hk1 hs1
  go_wp2_with fail
  refine (reclaim_any HB.out.1 n H.out.ok HB.out.2.2.2 H1.out).mono ?_
  rintro e w2 ⟨rfl, h2⟩
  obtain ⟨hb2, hk2⟩ := Both.joinP (m := n + 1) H.out.ap H.out.nv HK1.out.2.1 (H.out.ok.reclaim kb kt) H1.out HK1.out.2.2 HR1.out h2
  have H2 : Hid (Both w0 w2 N vb db cb rv Rb rd rc s kb kt (S.reclaim kb kt).2 (n + 1)) := hb2
  have HK2 : Hid (Keeps w w2 db cb rd rc) := HK1.out.1.trans hk2
  clear h2 hb2 hk2 H1 HR1 HK1
  generalize hRR : S.reclaim kb kt = R at *
  have HRR : Hid (S.reclaim kb kt = R) := hRR
  clear hRR
  obtain ⟨⟨r1, r2, r3⟩, R2⟩ := R
  dsimp only at H2 ⊢
  go_wp2_with fail
  refine (bare_ev r3 _ (HB.out.2.2.1.since H2.out.since)).mono ?_
  rintro e w3 ⟨rfl, h3⟩
  have H3 : Hid (Both w0 w3 N vb db cb rv Rb rd rc s kb kt R2 (n + 1)) := H2.out.go h3
  have HK3 : Hid (Keeps w w3 db cb rd rc) := HK2.out.trans (Keeps.of_since h3)
  clear h3 H2 HK2
  go_wp2_with fail
  go_ret
  rw [HRR.out]
  refine ⟨?_, H3.out, HK3.out⟩
  cases r2 <;> rfl
set_option maxHeartbeats 8000000 in
theorem sameVolume_any (hE : Et w0) (h : Both w0 w N vb db cb rv Rb rd rc s kb kt S n) :
    Calls Tryz.prog 27 #[.pointer (some ⟨vb, 0, none⟩), .pointer (some ⟨rv, 0, none⟩)] w fun e w' => e = .returned (.bool true) ∧ Since w w' := by
  have H : Hid (Both w0 w N vb db cb rv Rb rd rc s kb kt S n) := h
  have HE : Hid (Et w0) := hE
  clear h hE
  go_enter Tryz.func27, Tryz.ntmps27
  go_wp2_with fail
  have H1 : Hid (Both w0 w.drew N vb db cb rv Rb rd rc s kb kt S n) := H.out.go (Since.refl _).drew
  have HS1 : Hid (Since w w.drew) := (Since.refl _).drew
  have hS1 : (fun W : World => W.cell? ⟨rv, 4, none⟩ = some (.int .i64 S.T.count)) w.drew := H1.out.r.c4
  refine wp_region_held (S := fun W : World => W.cell? ⟨rv, 4, none⟩ = some (.int .i64 S.T.count)) (by kernel_rfl) ?_
  refine Tw.takeD (i := 0) (d := 8) (v := ?v1) rfl rfl (by kernel_rfl) (by kernel_rfl) (by kernel_rfl) (fun _ _ _ h => h) (Or.inl ⟨by rfl, ?hw1⟩) hS1 ?q1
  case hw1 => (intro w hSw; have s0 := hSw; go_simp; try with_reducible rfl)
  simp only [Act.put, List.setIfInBounds_toArray, List.set_cons_zero, List.set_cons_succ]
  refine Tw.takeD (i := 2) (d := 10) (v := ?v2) rfl rfl (by kernel_rfl) (by kernel_rfl) (by kernel_rfl) (fun _ _ _ h => h) (Or.inl ⟨by rfl, ?hw2⟩) hS1 ?q2
  case hw2 => (intro w hSw; have s0 := hSw; go_simp; try with_reducible rfl)
  simp only [Act.put, List.setIfInBounds_toArray, List.set_cons_zero, List.set_cons_succ]
  refine Tw.takeD (i := 3) (d := 11) (v := ?v3) rfl rfl (by kernel_rfl) (by kernel_rfl) (by kernel_rfl) (fun _ _ _ h => h) (Or.inl ⟨by rfl, ?hw3⟩) hS1 ?q3
  case hw3 => (intro w hSw; have s0 := hSw; go_simp; try with_reducible rfl)
  simp only [Act.put, List.setIfInBounds_toArray, List.set_cons_zero, List.set_cons_succ]
  refine Tw.takeD (i := 4) (d := 12) (v := ?v4) rfl rfl (by kernel_rfl) (by kernel_rfl) (by kernel_rfl) (fun _ _ _ h => h) (Or.inl ⟨by rfl, ?hw4⟩) hS1 ?q4
  case hw4 => (intro w hSw; have s0 := hSw; go_simp; try with_reducible rfl)
  simp only [Act.put, List.setIfInBounds_toArray, List.set_cons_zero, List.set_cons_succ]
  refine Tw.takeD (i := 5) (d := 13) (v := ?v5) rfl rfl (by kernel_rfl) (by kernel_rfl) (by kernel_rfl) (fun _ _ _ h => h) (Or.inl ⟨by rfl, ?hw5⟩) hS1 ?q5
  case hw5 => (intro w hSw; have s0 := hSw; go_simp; try with_reducible rfl)
  simp only [Act.put, List.setIfInBounds_toArray, List.set_cons_zero, List.set_cons_succ]
  refine Tw.takeD (i := 6) (d := 14) (v := ?v6) rfl rfl (by kernel_rfl) (by kernel_rfl) (by kernel_rfl) (fun _ _ _ h => h) (Or.inl ⟨by rfl, ?hw6⟩) hS1 ?q6
  case hw6 => (intro w hSw; have s0 := hSw; go_simp; try with_reducible rfl)
  simp only [Act.put, List.setIfInBounds_toArray, List.set_cons_zero, List.set_cons_succ]
  refine wpAnyH_ready (rs := [1]) (by kernel_rfl) (by simp) (AllReadyH.cons rfl (fun K hK => ?_) AllReadyH.nil)
  rw [if_pos (by rfl)]
  go_simp
  obtain ⟨v1, hp1, _⟩ := H1.out.p
  refine (count_any hp1).mono ?_
  rintro e wx ⟨rfl, hw⟩
  rw [hw]
  clear hw wx hp1
  simp only []
  refine hK.out _ _ hS1 (fun _ => ?_)
  clear hK K
  (try simp only [Act.put, List.setIfInBounds_toArray, List.set_cons_zero, List.set_cons_succ])
  refine Tw.takeD (i := 7) (d := 15) (v := ?v9) rfl rfl (by kernel_rfl) (by kernel_rfl) (by kernel_rfl) (fun _ _ _ h => h) (Or.inl ⟨by rfl, ?hw9⟩) hS1 ?q9
  case hw9 => (intro w hSw; have s0 := hSw; go_simp; try with_reducible rfl)
  simp only [Act.put, List.setIfInBounds_toArray, List.set_cons_zero, List.set_cons_succ]
  refine Tw.takeD (i := 8) (d := 16) (v := ?v10) rfl rfl (by kernel_rfl) (by kernel_rfl) (by kernel_rfl) (fun _ _ _ h => h) (Or.inl ⟨by rfl, ?hw10⟩) hS1 ?q10
  case hw10 => (intro w hSw; have s0 := hSw; go_simp; try with_reducible rfl)
  simp only [Act.put, List.setIfInBounds_toArray, List.set_cons_zero, List.set_cons_succ]
  refine Tw.takeD (i := 9) (d := 17) (v := ?v11) rfl rfl (by kernel_rfl) (by kernel_rfl) (by kernel_rfl) (fun _ _ _ h => h) (Or.inl ⟨Tw.wanted_by rfl rfl rfl rfl, ?hw11⟩) hS1 ?q11
  case hw11 => (intro w hSw; have s0 := hSw; go_simp; try with_reducible rfl)
  simp only [Act.put, List.setIfInBounds_toArray, List.set_cons_zero, List.set_cons_succ]
  refine Tw.takeD (i := 11) (d := 19) (v := ?v12) rfl rfl (by kernel_rfl) (by kernel_rfl) (by kernel_rfl) (fun _ _ _ h => h) (Or.inl ⟨Tw.wanted_by rfl rfl rfl rfl, ?hw12⟩) hS1 ?q12
  case hw12 => (intro w hSw; have s0 := hSw; go_simp; try with_reducible rfl)
  simp only [Act.put, List.setIfInBounds_toArray, List.set_cons_zero, List.set_cons_succ]
  refine wpAnyH_ready (rs := [10]) (by kernel_rfl) (by simp) (AllReadyH.cons rfl (fun K hK => ?_) AllReadyH.nil)
  rw [if_pos (Tw.wanted_by rfl rfl rfl rfl)]
  go_simp
  obtain ⟨v2, hp2, _⟩ := H1.out.p
  refine (free_any hp2).mono ?_
  rintro e w2 ⟨rfl, h2⟩
  simp only []
  have H2 : Hid (Both w0 w2 N vb db cb rv Rb rd rc s kb kt S n) := H1.out.go h2
  have HS2 : Hid (Since w w2) := HS1.out.trans h2
  have hS2 : (fun W : World => W.cell? ⟨rv, 4, none⟩ = some (.int .i64 S.T.count)) w2 := H2.out.r.c4
  clear h2 hp2
  refine hK.out _ _ hS2 (fun _ => ?_)
  clear hK K
  (try simp only [Act.put, List.setIfInBounds_toArray, List.set_cons_zero, List.set_cons_succ])
  refine wpAnyH_ready (rs := [12]) (by kernel_rfl) (by simp) (AllReadyH.cons rfl (fun K hK => ?_) AllReadyH.nil)
  rw [if_pos (Tw.wanted_by rfl rfl rfl rfl)]
  go_simp
  refine (rfree_any H2.out.r H2.out.dok).mono ?_
  rintro e w3 ⟨rfl, h3⟩
  simp only []
  have H3 : Hid (Both w0 w3 N vb db cb rv Rb rd rc s kb kt S n) := H2.out.go h3
  have HS3 : Hid (Since w w3) := HS2.out.trans h3
  have hS3 : (fun W : World => W.cell? ⟨rv, 4, none⟩ = some (.int .i64 S.T.count)) w3 := H3.out.r.c4
  clear h3
  refine hK.out _ _ hS3 (fun _ => ?_)
  clear hK K
  (try simp only [Act.put, List.setIfInBounds_toArray, List.set_cons_zero, List.set_cons_succ])
  generalize S.free = fr at *
  refine Tw.takeD (i := 13) (d := 21) (v := ?v17) rfl rfl (by kernel_rfl) (by kernel_rfl) (by kernel_rfl) (fun _ _ _ h => h) (Or.inl ⟨Tw.wanted_by rfl rfl rfl rfl, ?hw17⟩) hS3 ?q17
  case hw17 => (intro w hSw; have s0 := hSw; go_simp; try with_reducible rfl)
  simp only [Act.put, List.setIfInBounds_toArray, List.set_cons_zero, List.set_cons_succ]
  refine Tw.takeD (i := 14) (d := 22) (v := ?v18) rfl rfl (by kernel_rfl) (by kernel_rfl) (by kernel_rfl) (fun _ _ _ h => h) (Or.inl ⟨by rfl, ?hw18⟩) hS3 ?q18
  case hw18 => (intro w hSw; have s0 := hSw; go_simp; try with_reducible rfl)
  simp only [Act.put, List.setIfInBounds_toArray, List.set_cons_zero, List.set_cons_succ]
  refine wpAnyH_done (by kernel_rfl) ?_ _
  clear hS1 hS2 hS3 H1 H2 HS1 HS2
  go_wp2_with fail
  go_loopw [5, 6, 7] (fun i _ _ wr => ∃ k : Nat, k ≤ 26 ∧ i = .int .i64 ((k : Int) - 1) ∧ Since w wr) (fun i _ _ _ => 26 - (intOf i + 1).toNat)
  case atStart => exact ⟨0, by omega, rfl, HS3.out⟩
  case round =>
    clear H3 HS3
    obtain ⟨k, hk, rfl, hs⟩ := hrel
    have HS : Hid (Since w wr) := hs
    have HW : Hid (Both w0 wr N vb db cb rv Rb rd rc s kb kt S n) := H.out.go hs
    clear hs
    by_cases hlt : k < 26
    · have hlt2 : (k : Int) - 1 ≤ 24 := by omega
      have hge : (-1 : Int) ≤ (k : Int) - 1 := by omega
      by_cases hin : 0 ≤ (k : Int) - 1 ∧ (k : Int) - 1 < 24
      · obtain ⟨j, hj⟩ : ∃ j : Nat, k = j + 1 := ⟨k - 1, by omega⟩
        subst hj
        have hjj : ((j + 1 : Nat) : Int) - 1 = (j : Int) := by omega
        rw [hjj]
        have hj24 : (j : Int) < 24 := by omega
        have hjn : decide ((j : Int) < 0) = false := decide_eq_false (by omega)
        have hje : ((j : Int) == 24) = false := by simp; omega
        have hje2 : ¬ (j : Int) = 24 := by omega
        clear hin hjj hlt2 hge
        have hj2 : j < 24 := by omega
        have qx := HW.out.r.cx j hj2
        go_wp2_with fail
        obtain ⟨v2, hp2, _⟩ := HW.out.p
        have hrd := vread_any (j : Int) hp2
        have e1 : S.read (j : Int) = (S.X j, 0) := by unfold Vs.read; rw [if_neg (by omega), Int.toNat_natCast]
        rw [e1] at hrd
        rw [ev0] at hrd
        refine hrd.mono ?_
        clear hrd hp2 e1
        rintro e wx ⟨rfl, hw⟩
        rw [hw]
        clear hw wx
        go_wp2_with fail
        go_roundw
        case rel => exact ⟨j + 1 + 1, by omega, by congr 1; omega, HS.out⟩
        case measure => simp [intOf]; omega
      · have hor : (k : Int) - 1 = -1 ∨ (k : Int) - 1 = 24 := by omega
        have HBR : Hid (∀ W, Since w W → Calls Tryz.prog 10 #[ev 2, .int .i64 2] W fun e w' => e = .returned (.bool true) ∧ Since W w') := fun W hW => bare_ev 2 W (HE.out.since (H.out.since.trans hW))
        rcases hor with hor | hor
        · obtain rfl : k = 0 := by omega
          rw [show ((0 : Nat) : Int) - 1 = -1 from rfl]
          clear hin hlt2 hge hlt hk hor
          go_wp2_with fail
          obtain ⟨v2, hp2, _⟩ := HW.out.p
          have hrd := vread_any (-1) hp2
          have e1 : S.read (-1) = (⟨#[]⟩, 2) := by unfold Vs.read; rw [if_pos (by omega)]
          rw [e1] at hrd
          refine hrd.mono ?_
          clear hrd hp2 e1
          rintro e wx ⟨rfl, hw⟩
          rw [hw]
          clear hw wx
          dsimp only
          generalize ev 2 = e2 at *
          go_wp2_with fail
          refine (HBR.out _ HS.out).mono ?_
          rintro e w4 ⟨rfl, h4⟩
          have HS4 : Hid (Since w w4) := HS.out.trans h4
          clear h4
          go_wp2_with fail
          go_roundw
          case rel => exact ⟨0 + 1, by omega, by rfl, HS4.out⟩
          case measure => simp [intOf]
        · obtain rfl : k = 25 := by omega
          rw [show ((25 : Nat) : Int) - 1 = 24 from rfl]
          clear hin hlt2 hge hlt hk hor
          go_wp2_with fail
          obtain ⟨v2, hp2, _⟩ := HW.out.p
          have hrd := vread_any (24) hp2
          have e1 : S.read (24) = (⟨#[]⟩, 2) := by unfold Vs.read; rw [if_pos (by omega)]
          rw [e1] at hrd
          refine hrd.mono ?_
          clear hrd hp2 e1
          rintro e wx ⟨rfl, hw⟩
          rw [hw]
          clear hw wx
          dsimp only
          generalize ev 2 = e2 at *
          go_wp2_with fail
          refine (HBR.out _ HS.out).mono ?_
          rintro e w4 ⟨rfl, h4⟩
          have HS4 : Hid (Since w w4) := HS.out.trans h4
          clear h4
          go_wp2_with fail
          go_roundw
          case rel => exact ⟨25 + 1, by omega, by rfl, HS4.out⟩
          case measure => simp [intOf]
    · have hke : k = 26 := by omega
      subst hke
      go_wp2_with fail
      go_ret
      exact ⟨rfl, HS.out⟩
end
end Vl
end Go.Proofs.YtbfjklpoheooaaaGreatDoor
end
section
namespace Go.Proofs.YtbfjklpoheooaaaGreatDoor
set_option maxRecDepth 100000
namespace Vl
open Go.RowKit
open Tw (Tb tcell tval ccell)
structure BD (w0 w : World) (N db cb Rb rd rc : Nat) (D1 D2 : Dv) (c : Int) : Prop where
  ap : Apart N db cb Rb rd rc
  p : ∃ v, DC w0 w db cb D1 c v ∧ ∀ k, v.ownBlock = some k → N ≤ k
  r : RDC w0 w N Rb rd rc D2 c
  nN : N ≤ w.heap.size
section
variable {w0 w w' : World} {N vb db cb rv Rb rd rc : Nat} {s kb kt : ByteArray} {S : Vs} {n c : Int} {D1 D2 D' : Dv} {v v' : Value}
theorem Both.bd (h : Both w0 w N vb db cb rv Rb rd rc s kb kt S n) : BD w0 w N db cb Rb rd rc S.D S.D S.c := by
  obtain ⟨v, hp, hv⟩ := h.p
  exact ⟨h.ap, ⟨v, hp.dc, hv⟩, h.r.rdc, h.nN⟩
theorem BD.since (h : BD w0 w N db cb Rb rd rc D1 D2 c) : Since w0 w := h.r.since
theorem BD.dok (h : BD w0 w N db cb Rb rd rc D1 D2 c) : D1.ok := by
  obtain ⟨v, hp, _⟩ := h.p
  exact hp.dev.ok
theorem BD.go (h : BD w0 w N db cb Rb rd rc D1 D2 c) (hs : Since w w') : BD w0 w' N db cb Rb rd rc D1 D2 c := by
  obtain ⟨v, hp, hv⟩ := h.p
  exact ⟨h.ap, ⟨v, hp.go hs, hv⟩, h.r.go hs, Nat.le_trans h.nN hs.size⟩
theorem BD.pTo (h : BD w0 w N db cb Rb rd rc D1 D2 c) (hp : DC w0 w db cb D1 c v) (hv : ∀ k, v.ownBlock = some k → N ≤ k) (hd : Dev w' db D' v') (hf : Fr db v.ownBlock w w') (hn : Nx w v.ownBlock v'.ownBlock) : BD w0 w' N db cb Rb rd rc D' D2 c ∧ Keeps w w' db cb rd rc := by
  have hF : Fs (fun k => k = db ∨ k = cb ∨ v.ownBlock = some k) w w' := Fs.of_fr hf (Or.inl rfl) (fun k hk => Or.inr (Or.inr hk))
  have hF2 : Fs (fun k => k = db ∨ v.ownBlock = some k) w w' := Fs.of_fr hf (Or.inl rfl) (fun k hk => Or.inr hk)
  have hlc := hp.ctr.lt (by omega)
  have hs : Since w0 w' := hF.since hp.since (by
    rintro k (e | e | e)
    · rw [e]; exact hp.lo.1
    · rw [e]; exact hp.lo.2.1
    · exact hp.lo.2.2 k e)
  refine ⟨⟨h.ap, ⟨v', ⟨hd, celFs hp.ctr hF2 ?_, hp.ne, fun e => ?_, hs, hp.lo.1, hp.lo.2.1, fun k hk => ?_⟩, fun k hk => ?_⟩, h.r.fsP h.ap hv hp hF, Nat.le_trans h.nN hf.size⟩, ⟨hf.size, hf.os, hf.tape, hf.output, fun k hk => hk.fsD (devOwn hp.dev) hF⟩⟩
  · rintro (e | e)
    · exact hp.ne e.symm
    · exact hp.own e
  · rcases hn _ e with h1 | h1
    · exact hp.own h1
    · omega
  · rcases hn k hk with h1 | h1
    · exact hp.lo.2.2 k h1
    · exact Nat.le_trans hp.since.size h1
  · rcases hn k hk with h1 | h1
    · exact hv k h1
    · exact Nat.le_trans h.nN h1
theorem BD.rTo {lv : Nat → Value} {av wv : Value} (h : BD w0 w N db cb Rb rd rc D1 D2 c) (hr' : Ref w' rd N D' lv av wv) (hf : Fr rd none w w') : BD w0 w' N db cb Rb rd rc D1 D' c ∧ Keeps w w' db cb rd rc := by
  obtain ⟨v, hp, hv⟩ := h.p
  have hlt := h.ap.lt
  have hpr := h.ap.pr
  have hne := h.ap.ne
  have hb : ∀ k, k < w.heap.size → k ≠ rd → w'.heap[k]? = w.heap[k]? := fun k hk h1 => hf.block k hk h1 (by simp)
  have e2 := hb db hp.dev.lt (by omega)
  have e3 := hb cb (hp.ctr.lt (by omega)) (by omega)
  have e4 := hb rc (h.r.ctr.lt (by omega)) (by omega)
  have e5 := hb Rb (arrLt h.r.hh.1 (by omega)) (by omega)
  have hs : Since w0 w' := Below.trans (show Below w0.heap.size w0 w from h.since) ⟨hf.os, hf.tape, hf.output, hf.size, fun k hk => hb k (Nat.lt_of_lt_of_le hk h.since.size) (by have := h.r.lo; omega)⟩
  have hdev : Dev w' db D1 v := ⟨celBlk hp.dev.cel e2, by
    refine ⟨hp.dev.own.1, ?_⟩
    rcases hp.dev.own.2 with hn | ⟨k, cap, cur, hvv, hbk, hk, rest⟩
    · exact .inl hn
    · have hkN := hv k (by rw [hvv]; rfl)
      exact .inr ⟨k, cap, cur, hvv, hbk, by rw [hb k (Array.getElem?_eq_some_iff.1 hk).1 (by omega)]; exact hk, rest⟩, hp.dev.ne, hp.dev.ok⟩
  exact ⟨⟨h.ap, ⟨v, ⟨hdev, celBlk hp.ctr e3, hp.ne, hp.own, hs, hp.lo⟩, hv⟩, ⟨⟨lv, av, wv, hr'⟩, celBlk h.r.ctr e4, ⟨arrFs h.r.hh.1 e5, arrFs h.r.hh.2 e5⟩, h.r.ne, hs, h.r.lo⟩, Nat.le_trans h.nN hf.size⟩, ⟨hf.size, hf.os, hf.tape, hf.output, fun k hk => hb k hk.lt hk.2.2.2.1⟩⟩
theorem slOf {b nk : Nat} {kv : Value} {f : Nat → Value} (h : SlA w0 w0.heap.size kv nk f) (hs : Since w0 w) (hb : w0.heap.size ≤ b) : Go.Proofs.YtbfjklpoheooaaaGreatDoor.Sl w b kv nk f := by
  obtain ⟨a, cc, hv, hh⟩ := h
  refine ⟨a, cc, hv, fun hn => ?_⟩
  obtain ⟨k, o, ha, hk, hc⟩ := hh hn
  exact ⟨k, o, ha, by omega, fun j hj => (hs.cell (p := ⟨k, o + j, none⟩) hk).trans (hc j hj)⟩
theorem crashP (nk ns : Nat) (kv sv : Value) (ks : Nat → Int) (sl : Nat → Bool) (hk : SlA w0 w0.heap.size kv nk (fun j => .int .i64 (ks j))) (hs : SlA w0 w0.heap.size sv ns (fun j => .bool (sl j))) (h : BD w0 w N db cb Rb rd rc D1 D2 c) :
    Calls Tryz.prog 18 #[.pointer (some ⟨db, 0, none⟩), kv, sv] w fun e w' => e = .returned (.tuple #[]) ∧ BD w0 w' N db cb Rb rd rc (D1.crashed nk ks ns sl) D2 c ∧ Keeps w w' db cb rd rc := by
  obtain ⟨v, hp, hv⟩ := h.p
  refine (crash_any D1 v db nk ns kv sv ks sl w hp.dev (slOf hk h.since hp.lo.1) (slOf hs h.since hp.lo.1)).mono ?_
  rintro e w' ⟨rfl, hd', hf⟩
  exact ⟨rfl, h.pTo hp hv hd' (Fr.wide hf) (Nx.none _ _)⟩
theorem crashR (nk ns : Nat) (kv sv : Value) (ks : Nat → Int) (sl : Nat → Bool) (hok : D2.ok) (hk : SlA w0 w0.heap.size kv nk (fun j => .int .i64 (ks j))) (hs : SlA w0 w0.heap.size sv ns (fun j => .bool (sl j))) (h : BD w0 w N db cb Rb rd rc D1 D2 c) :
    Calls Tryz.prog 19 #[.pointer (some ⟨rd, 0, none⟩), kv, sv] w fun e w' => e = .returned (.tuple #[]) ∧ BD w0 w' N db cb Rb rd rc D1 (D2.crashed nk ks ns sl) c ∧ Keeps w w' db cb rd rc := by
  obtain ⟨lv, av, wv, hr⟩ := h.r.ref
  refine (rcrash_any D2 lv av wv rd N nk ns kv sv ks sl w hr hok (slOf hk h.since h.r.lo.2.1) (slOf hs h.since h.r.lo.2.1)).mono ?_
  rintro e w' ⟨rfl, ⟨lv', hr'⟩, hf⟩
  exact ⟨rfl, h.rTo hr' hf⟩
theorem fuseP (m : Int) (hm : m ≤ 9223372036854775807) (h : BD w0 w N db cb Rb rd rc D1 D2 c) :
    Calls Tryz.prog 16 #[.pointer (some ⟨db, 0, none⟩), .int .i64 m] w fun e w' => e = .returned (.tuple #[]) ∧ BD w0 w' N db cb Rb rd rc (D1.fuse m) D2 c ∧ Keeps w w' db cb rd rc := by
  obtain ⟨v, hp, hv⟩ := h.p
  refine (fuse_any D1 v db m w hp.dev hm).mono ?_
  rintro e w' ⟨rfl, hd', hf⟩
  exact ⟨rfl, h.pTo hp hv hd' (Fr.wide hf) (Nx.refl _ _)⟩
theorem fuseR (m : Int) (h : BD w0 w N db cb Rb rd rc D1 D2 c) :
    Calls Tryz.prog 17 #[.pointer (some ⟨rd, 0, none⟩), .int .i64 m] w fun e w' => e = .returned (.tuple #[]) ∧ BD w0 w' N db cb Rb rd rc D1 (D2.fuse m) c ∧ Keeps w w' db cb rd rc := by
  obtain ⟨lv, av, wv, hr⟩ := h.r.ref
  refine (rfuse_any D2 lv av wv rd N m w hr).mono ?_
  rintro e w' ⟨rfl, hr', hf⟩
  exact ⟨rfl, h.rTo hr' hf⟩
theorem fuseVP (m : Int) (hm : m ≤ 9223372036854775807) (h : Both w0 w N vb db cb rv Rb rd rc s kb kt S n) :
    Calls Tryz.prog 16 #[.pointer (some ⟨db, 0, none⟩), .int .i64 m] w fun e w' => e = .returned (.tuple #[]) ∧ (∃ v1, Vol w0 w' vb db cb kb kt { S with D := S.D.fuse m } v1 ∧ ∀ k, v1.ownBlock = some k → N ≤ k) ∧ RVol w0 w' N rv Rb rd rc s S ∧ Keeps w w' db cb rd rc ∧ N ≤ w'.heap.size := by
  obtain ⟨v, hp, hh⟩ := h.half
  refine (fuse_any S.D v db m w hp.dev hm).mono ?_
  rintro e w' ⟨rfl, hd', hf⟩
  obtain ⟨a, b, c, d⟩ := hh _ _ (hp.devTo hd' (Fr.wide hf) (Nx.refl _ _))
  exact ⟨rfl, d, a, b, c⟩
theorem fuseVR (m : Int) (A : Apart N db cb Rb rd rc) (hnv : N ≤ vb) (hN : N ≤ w.heap.size) (hok : ({ S with D := S.D.fuse m } : Vs).ok n) (hp : ∃ v1, Vol w0 w vb db cb kb kt { S with D := S.D.fuse m } v1 ∧ ∀ k, v1.ownBlock = some k → N ≤ k) (h : RVol w0 w N rv Rb rd rc s S) :
    Calls Tryz.prog 17 #[.pointer (some ⟨rd, 0, none⟩), .int .i64 m] w fun e w' => e = .returned (.tuple #[]) ∧ Both w0 w' N vb db cb rv Rb rd rc s kb kt { S with D := S.D.fuse m } n ∧ Keeps w w' db cb rd rc := by
  obtain ⟨lv, av, wv, hr⟩ := h.ref
  refine (rfuse_any S.D lv av wv rd N m w hr).mono ?_
  rintro e w' ⟨rfl, hr', hf⟩
  exact ⟨rfl, Both.join A hnv hN hok hp h (h.refTo0 hr hr' hf)⟩
theorem fuse_vok (m : Int) (h : S.ok n) : ({ S with D := S.D.fuse m } : Vs).ok n := h.dev _ rfl h.ws
theorem imgP (h : BD w0 w N db cb Rb rd rc D1 D2 c) :
    Calls Tryz.prog 20 #[.pointer (some ⟨db, 0, none⟩)] w fun e w' => ∃ iv, e = .returned (.agg (brow 10 (icell iv (txt 500 (D1.slot 0)) (txt 500 (D1.slot 1)))).toArray) ∧ (∀ z, z < 8 → w'.ownsRow w.heap.size 9 1 (iv z) (D1.sure z) (blks (D1.blk z) (D1.sure z))) ∧ Since w w' := by
  obtain ⟨v, hp, hv⟩ := h.p
  exact image_any D1 v db w hp.dev
theorem imgR (hok : D2.ok) (h : BD w0 w N db cb Rb rd rc D1 D2 c) :
    Calls Tryz.prog 21 #[.pointer (some ⟨rd, 0, none⟩)] w fun e w' => ∃ iv, e = .returned (.agg (brow 10 (icell iv (txt 500 (D2.slot 0)) (txt 500 (D2.slot 1)))).toArray) ∧ (∀ z, z < 8 → w'.ownsRow w.heap.size 9 1 (iv z) (D2.sure z) (blks (D2.blk z) (D2.sure z))) ∧ Since w w' := by
  obtain ⟨lv, av, wv, hr⟩ := h.r.ref
  exact rimage_any D2 lv av wv rd N w hr hok
theorem layP (iv : Nat → Value) (s0 s1 : ByteArray) (nn : Nat → Nat) (l : Nat → Nat → ByteArray) (hi : Img w db iv nn l) (h : BD w0 w N db cb Rb rd rc D1 D2 c) :
    Calls Tryz.prog 22 #[.pointer (some ⟨db, 0, none⟩), .agg (brow 10 (icell iv s0 s1)).toArray] w fun e w' => e = .returned (.tuple #[]) ∧ BD w0 w' N db cb Rb rd rc (D1.laidBy nn l s0 s1) D2 c ∧ Keeps w w' db cb rd rc := by
  obtain ⟨v, hp, hv⟩ := h.p
  refine (lay_any D1 v db iv s0 s1 nn l w hp.dev hi).mono ?_
  rintro e w' ⟨rfl, hd', hf⟩
  exact ⟨rfl, h.pTo hp hv hd' (Fr.wide hf) (Nx.none _ _)⟩
theorem layR (iv : Nat → Value) (s0 s1 : ByteArray) (nn : Nat → Nat) (l : Nat → Nat → ByteArray) (hi : Img w rd iv nn l) (hn : ∀ z, z < 8 → nn z ≤ 1000) (h : BD w0 w N db cb Rb rd rc D1 D2 c) :
    Calls Tryz.prog 23 #[.pointer (some ⟨rd, 0, none⟩), .agg (brow 10 (icell iv s0 s1)).toArray] w fun e w' => e = .returned (.tuple #[]) ∧ BD w0 w' N db cb Rb rd rc D1 (D2.laidBy nn l s0 s1) c ∧ Keeps w w' db cb rd rc := by
  obtain ⟨lv, av, wv, hr⟩ := h.r.ref
  refine (rlay_any D2 lv av wv rd N iv s0 s1 nn l w hr hi hn).mono ?_
  rintro e w' ⟨rfl, ⟨lv', hr'⟩, hf⟩
  exact ⟨rfl, h.rTo hr' hf⟩
end
structure Kept (w : World) (db cb rd rc b : Nat) (iv : Nat → Value) (s0 s1 : ByteArray) (nn : Nat → Nat) (l : Nat → Nat → ByteArray) : Prop where
  cel : Cel w b 10 (icell iv s0 s1)
  safe : Safe w db cb rd rc b
  row : ∀ z, z < 8 → ∃ a cp, iv z = .slice a (nn z) cp ∧ nn z ≤ cp ∧ (0 < nn z → ∃ k o, a = some ⟨k, o, none⟩ ∧ Safe w db cb rd rc k ∧ ∀ j, j < nn z → w.cell? ⟨k, o + j, none⟩ = some (.string (l z j)))
theorem Kept.keeps {w w' : World} {db cb rd rc b : Nat} {iv : Nat → Value} {s0 s1 : ByteArray} {nn : Nat → Nat} {l : Nat → Nat → ByteArray} (h : Kept w db cb rd rc b iv s0 s1 nn l) (hk : Keeps w w' db cb rd rc) : Kept w' db cb rd rc b iv s0 s1 nn l := by
  have e := hk.2.2.2.2 b h.safe
  refine ⟨celBlk h.cel e, h.safe.blk e, fun z hz => ?_⟩
  obtain ⟨a, cp, hv, hc, hh⟩ := h.row z hz
  refine ⟨a, cp, hv, hc, fun hn => ?_⟩
  obtain ⟨k, o, ha, hs, hcell⟩ := hh hn
  have e2 := hk.2.2.2.2 k hs
  exact ⟨k, o, ha, hs.blk e2, fun j hj => (World.cell?_of_block (w := w) (a := ⟨k, o + j, none⟩) e2).trans (hcell j hj)⟩
theorem Kept.img {w : World} {db cb rd rc b : Nat} {iv : Nat → Value} {s0 s1 : ByteArray} {nn : Nat → Nat} {l : Nat → Nat → ByteArray} (h : Kept w db cb rd rc b iv s0 s1 nn l) : Img w db iv nn l ∧ Img w rd iv nn l := by
  refine ⟨⟨fun z hz => ?_⟩, ⟨fun z hz => ?_⟩⟩
  · obtain ⟨a, cp, hv, hc, hh⟩ := h.row z hz
    refine ⟨a, cp, hv, hc, fun hn => ?_⟩
    obtain ⟨k, o, ha, hs, hcell⟩ := hh hn
    exact ⟨k, o, ha, hs.2.1, hcell⟩
  · obtain ⟨a, cp, hv, hc, hh⟩ := h.row z hz
    refine ⟨a, cp, hv, hc, fun hn => ?_⟩
    obtain ⟨k, o, ha, hs, hcell⟩ := hh hn
    exact ⟨k, o, ha, hs.2.2.2.1, hcell⟩
end Vl
end Go.Proofs.YtbfjklpoheooaaaGreatDoor
end
section
namespace Go.Proofs.YtbfjklpoheooaaaGreatDoor
open Go.RowKit
def AP (iv : Nat → Value) (k : Nat) : Prop := ∀ z z', z < z' → z' < k → ∀ kk, (iv z).ownBlock = some kk → (iv z').ownBlock ≠ some kk
theorem AP.step {iv : Nat → Value} {k B : Nat} {x : Value} (h : AP iv k) (hx : ∀ kk, x.ownBlock = some kk → B ≤ kk) (hw : ∀ z, z < k → ∀ kk, (iv z).ownBlock = some kk → kk < B) : AP (fun z => if z = k then x else iv z) (k + 1) := by
  intro z z' h1 h2 kk e
  have hz : ¬ z = k := by omega
  simp only [if_neg hz] at e
  by_cases hk : z' = k
  · simp only [if_pos hk]
    intro e2
    have a1 := hx kk e2
    have a2 := hw z (by omega) kk e
    omega
  · simp only [if_neg hk]
    exact h z z' h1 (by omega) kk e
theorem AP.ne {iv : Nat → Value} {z z' k1 k2 : Nat} (h : AP iv 8) (hz : z < 8) (hz' : z' < 8) (hn : z ≠ z') (e1 : (iv z).ownBlock = some k1) (e2 : (iv z').ownBlock = some k2) : k1 ≠ k2 := by
  intro e
  subst e
  rcases Nat.lt_or_gt_of_ne hn with hh | hh
  · exact h z z' hh hz' k1 e1 e2
  · exact h z' z hh hz k1 e2 e1
set_option maxRecDepth 100000 in
set_option maxHeartbeats 4000000 in
theorem image_ap (D : Dv) (v : Value) (b : Nat) (w : World) (hd : Dev w b D v) :
    Calls Tryz.prog 20 #[.pointer (some ⟨b, 0, none⟩)] w fun e w' => ∃ iv, e = .returned (.agg (brow 10 (icell iv (txt 500 (D.slot 0)) (txt 500 (D.slot 1)))).toArray) ∧ (∀ z, z < 8 → w'.ownsRow w.heap.size 9 1 (iv z) (D.sure z) (blks (D.blk z) (D.sure z))) ∧ AP iv 8 ∧ Since w w' := by
  have hbl := hd.lt
  have HD : Hid (Dev w b D v) := hd
  clear hd
  go_enter Tryz.func20, Tryz.ntmps20
  go_wp2_with fail
  refine (orNew_any _ _).mono ?_
  rintro e w' ⟨rfl, rfl⟩
  go_wp2_with fail
  go_loopw [8] (fun i wr => ∃ (k : Nat) (iv : Nat → Value), k ≤ 8 ∧ i = .int .i64 k ∧ Cel wr (w.heap.size + 1) 10 (icell (ivTo iv k) ⟨#[]⟩ ⟨#[]⟩) ∧ Cel wr w.heap.size 10 (icell (ivTo iv 0) ⟨#[]⟩ ⟨#[]⟩) ∧ ((∀ z, z < k → wr.ownsRow (w.heap.size + 2) 9 1 (iv z) (D.sure z) (blks (D.blk z) (D.sure z))) ∧ AP iv k) ∧ Since w wr ∧ w.heap.size + 2 ≤ wr.heap.size) (fun i _ => 8 - (intOf i).toNat)
  case atStart =>
    have hz : ∀ j, j < 10 → #[Value.slice none 0 0, .slice none 0 0, .slice none 0 0, .slice none 0 0, .slice none 0 0, .slice none 0 0, .slice none 0 0, .slice none 0 0, .string ⟨#[]⟩, .string ⟨#[]⟩][j]? = some (icell (ivTo (fun _ => undef) 0) ⟨#[]⟩ ⟨#[]⟩ j) := by
      intro j hj
      match j, hj with
      | 0, _ => rfl
      | 1, _ => rfl
      | 2, _ => rfl
      | 3, _ => rfl
      | 4, _ => rfl
      | 5, _ => rfl
      | 6, _ => rfl
      | 7, _ => rfl
      | 8, _ => rfl
      | 9, _ => rfl
    exact ⟨0, fun _ => undef, by omega, rfl, Cel.new _ _ _ _ _ hz _ (by simp), (Cel.new w _ _ _ _ hz _ rfl).since ((Since.refl _).alloc _), ⟨fun z hz => by omega, fun z z' h1 h2 => by omega⟩, ((Since.refl _).alloc _).alloc _, by simp⟩
  case round =>
    obtain ⟨k, iv, hk, rfl, hm, hr, ⟨hrow, hap⟩, hS, hsz⟩ := hrel
    have HAP : Hid (AP iv k) := hap
    clear hap
    have HM : Hid (Cel wr (w.heap.size + 1) 10 (icell (ivTo iv k) ⟨#[]⟩ ⟨#[]⟩)) := hm
    have HR : Hid (Cel wr w.heap.size 10 (icell (ivTo iv 0) ⟨#[]⟩ ⟨#[]⟩)) := hr
    have HW : Hid (∀ z, z < k → wr.ownsRow (w.heap.size + 2) 9 1 (iv z) (D.sure z) (blks (D.blk z) (D.sure z))) := hrow
    have HS : Hid (Since w wr) := hS
    by_cases hlt : k < 8
    · have hlt2 : (k : Int) < 8 := by omega
      clear hm hr hrow hS
      go_wp2_with fail
      refine (image1_any D v b k _ (HD.out.since HS.out) hlt).mono ?_
      rintro e w2 ⟨x, rfl, hx, hS2⟩
      have hm2 := HM.out.since hS2
      have c1 := hm2.cell k (by omega)
      have f1 := hm2.frozen k (by omega)
      have hx1 : x.oneCell' = true ∧ ∃ xa xn xc, x = .slice xa xn xc := by
        rcases hx.2 with ⟨h, _⟩ | ⟨g, cap, cur, h, _⟩ <;> subst h <;> exact ⟨rfl, _, _, _, rfl⟩
      obtain ⟨_, xa, xn, xc, rfl⟩ := hx1
      have HX : Hid (w2.ownsRow wr.heap.size 9 1 (.slice xa xn xc) (D.sure k) (blks (D.blk k) (D.sure k))) := hx
      have HM2 : Hid (Cel w2 (w.heap.size + 1) 10 (icell (ivTo iv k) ⟨#[]⟩ ⟨#[]⟩)) := hm2
      clear hm2 hx
      go_wp2_with fail
      go_roundw
      case rel =>
        refine ⟨k + 1, fun z => if z = k then .slice xa xn xc else iv z, by omega, by go_num, (HM2.out.set k (by omega) _).congr (fun j hj => ?_), ((HR.out.since hS2).other (by simp) _).congr (fun j hj => rfl), ⟨fun z hz => ?_, AP.step HAP.out (fun kk e => (HX.out.lt kk e).1) (fun z hz kk e => ((HW.out z hz).lt kk e).2)⟩, (HS.out.trans hS2).setCell (by simp) _, by have := hS2.size; simp; omega⟩
        · unfold updv icell ivTo
          by_cases h1 : j = k
          · subst h1
            dsimp only
            rw [if_pos rfl, if_pos hlt, if_pos (by omega), if_pos rfl]
          · rw [if_neg h1]
            by_cases h2 : j < 8
            · rw [if_pos h2, if_pos h2]
              by_cases h3 : j < k
              · dsimp only
                rw [if_pos h3, if_pos (by omega), if_neg h1]
              · rw [if_neg h3, if_neg (by omega)]
            · rw [if_neg h2, if_neg h2]
        · by_cases h1 : z = k
          · subst h1
            simp only [if_true]
            exact ownsRow_setCell_below (ownsRow_base HX.out (by omega)) (by simp) _
          · simp only [if_neg h1]
            exact ownsRow_setCell_below (ownsRow_since (HW.out z (by omega)) hS2) (by simp) _
      case measure => simp [intOf]; omega
    · have hke : k = 8 := by omega
      subst hke
      clear hm hr hrow hS
      go_wp2_with fail
      have hiv : ∀ j, j < 8 → ivTo iv 8 j = iv j := fun j hj => by unfold ivTo; rw [if_pos hj]
      have hcv0 := conv_txt wr b 16400 500 500 (D.slot 0) (fun i hi => by rw [(HD.out.since HS.out).cel.cell _ (by omega)]; exact congrArg some (dcell_slot D v 0 i (by omega) hi))
      have c8 := HM.out.cell 8 (by omega)
      have f8 := HM.out.frozen 8 (by omega)
      refine wp_loop_rounds 3 ?_
      rw [rounds_succ]
      go_wp2_with fail
      have hm1 := HM.out.set 8 (by omega) (.string (txt 500 (D.slot 0)))
      have hr1 := HR.out.other (a := ⟨w.heap.size + 1, 8, none⟩) (by simp) (.string (txt 500 (D.slot 0)))
      have hS1 := HS.out.setCell (p := ⟨w.heap.size + 1, 8, none⟩) (by simp) (.string (txt 500 (D.slot 0)))
      have hw1 : ∀ z, z < 8 → (wr.setCell ⟨w.heap.size + 1, 8, none⟩ (.string (txt 500 (D.slot 0)))).ownsRow (w.heap.size + 2) 9 1 (iv z) (D.sure z) (blks (D.blk z) (D.sure z)) := fun z hz => ownsRow_setCell_below (HW.out z hz) (by simp) _
      generalize wr.setCell ⟨w.heap.size + 1, 8, none⟩ (.string (txt 500 (D.slot 0))) = w1 at *
      have hcv1 := conv_txt w1 b 16900 500 500 (D.slot 1) (fun i hi => by rw [(HD.out.since hS1).cel.cell _ (by omega)]; exact congrArg some (dcell_slot D v 1 i (by omega) hi))
      have c9 := hm1.cell 9 (by omega)
      have f9 := hm1.frozen 9 (by omega)
      have HM1 : Hid (Cel w1 (w.heap.size + 1) 10 _) := hm1
      have HR1 : Hid (Cel w1 w.heap.size 10 _) := hr1
      have HS1 : Hid (Since w w1) := hS1
      have HW1 : Hid (∀ z, z < 8 → w1.ownsRow (w.heap.size + 2) 9 1 (iv z) (D.sure z) (blks (D.blk z) (D.sure z))) := hw1
      clear hm1 hr1 hS1 hw1 hcv0 c8 f8
      rw [rounds_succ]
      go_wp2_with fail
      have hm2 := HM1.out.set 9 (by omega) (.string (txt 500 (D.slot 1)))
      have hr2 := HR1.out.other (a := ⟨w.heap.size + 1, 9, none⟩) (by simp) (.string (txt 500 (D.slot 1)))
      have hS2 := HS1.out.setCell (p := ⟨w.heap.size + 1, 9, none⟩) (by simp) (.string (txt 500 (D.slot 1)))
      have hw2 : ∀ z, z < 8 → (w1.setCell ⟨w.heap.size + 1, 9, none⟩ (.string (txt 500 (D.slot 1)))).ownsRow (w.heap.size + 2) 9 1 (iv z) (D.sure z) (blks (D.blk z) (D.sure z)) := fun z hz => ownsRow_setCell_below (HW1.out z hz) (by simp) _
      generalize w1.setCell ⟨w.heap.size + 1, 9, none⟩ (.string (txt 500 (D.slot 1))) = w2 at *
      have hm3 : Cel w2 (w.heap.size + 1) 10 (icell iv (txt 500 (D.slot 0)) (txt 500 (D.slot 1))) := hm2.congr (fun j hj => by
        unfold updv icell
        by_cases h9 : j = 9
        · subst h9; rfl
        · rw [if_neg h9]
          by_cases h8 : j = 8
          · subst h8; rfl
          · rw [if_neg h8, if_pos (by omega), if_pos (by omega), hiv j (by omega)])
      have hR := hm3.range 0 10 (by omega)
      simp only [Nat.zero_add] at hR
      have hic1 : ∀ j, j < 10 → (icell iv (txt 500 (D.slot 0)) (txt 500 (D.slot 1)) j).oneCell' = true := fun j hj => by
        unfold icell
        by_cases h : j < 8
        · rw [if_pos h]
          rcases (hw2 j h).2 with ⟨e, _⟩ | ⟨g, cap, cur, e, _⟩ <;> rw [e] <;> rfl
        · rw [if_neg h]
          split <;> rfl
      have hst := hr2.store Tryz.prog 0 10 (by omega) (icell iv (txt 500 (D.slot 0)) (txt 500 (D.slot 1))) hic1
      have hL : (brow 10 (icell iv (txt 500 (D.slot 0)) (txt 500 (D.slot 1)))).length = 10 := brow_length _ _
      have hr3 := (hr2.setRow 0 10 (by omega) (icell iv (txt 500 (D.slot 0)) (txt 500 (D.slot 1)))).congr (g := icell iv (txt 500 (D.slot 0)) (txt 500 (D.slot 1))) (fun j hj => by unfold updl; rw [if_pos (by omega)]; rfl)
      have hR3 := hr3.range 0 10 (by omega)
      simp only [Nat.zero_add] at hR3
      have HR3 : Hid _ := hR3
      have HS3 : Hid (Since w _) := hS2.setCells (b := w.heap.size) (by simp) (brow 10 (icell iv (txt 500 (D.slot 0)) (txt 500 (D.slot 1)))) 0
      have HW3 : Hid (∀ z, z < 8 → (w2.setCells w.heap.size 0 (brow 10 (icell iv (txt 500 (D.slot 0)) (txt 500 (D.slot 1))))).ownsRow w.heap.size 9 1 (iv z) (D.sure z) (blks (D.blk z) (D.sure z))) := fun z hz =>
        ownsRow_base (ownsRow_fr (hw2 z hz) (Fr.setCells w.heap.size none _ 0 w2) (fun e => by have := ((hw2 z hz).lt _ e).1; omega) (by
          cases hv : (iv z).ownBlock with
          | none => exact Or.inl rfl
          | some k => exact Or.inr (by simp))) (by omega)
      clear hm2 hr2 hS2 hw2 hm3 hic1 hr3 hR3 hcv1 c9 f9
      rw [rounds_succ]
      generalize hcs : brow 10 (icell iv (txt 500 (D.slot 0)) (txt 500 (D.slot 1))) = cs at *
      go_wp2_with (refine wpList_load_mid (by rfl) 48 _ (by rfl) (w.heap.size + 1) 0 (by rfl) _ _ hR Tryz.underlying48 (by rfl) (by rw [hL]; kernel_rfl) ?_)
      refine bodyPost_ret (results_row Tryz.results20 _ _ _ w.heap.size _ _ (by rfl) HR3.out Tryz.underlying48 (by rfl) (by rw [hL]; kernel_rfl)) rfl ⟨iv, by rw [hcs], HW3.out, HAP.out, HS3.out⟩
end Go.Proofs.YtbfjklpoheooaaaGreatDoor
end
section
namespace Go.Proofs.YtbfjklpoheooaaaGreatDoor
open Go.RowKit
set_option maxRecDepth 100000 in
set_option maxHeartbeats 4000000 in
theorem rimage_ap (D : Dv) (lv : Nat → Value) (av wv : Value) (rb N : Nat) (w : World) (hd : Ref w rb N D lv av wv) (hok : D.ok) :
    Calls Tryz.prog 21 #[.pointer (some ⟨rb, 0, none⟩)] w fun e w' => ∃ iv, e = .returned (.agg (brow 10 (icell iv (txt 500 (D.slot 0)) (txt 500 (D.slot 1)))).toArray) ∧ (∀ z, z < 8 → w'.ownsRow w.heap.size 9 1 (iv z) (D.sure z) (blks (D.blk z) (D.sure z))) ∧ AP iv 8 ∧ Since w w' := by
  have hS1 : Since w (w.alloc (.cells zImage 48)) := (Since.refl w).alloc _
  have c16 := (hd.since hS1).cel.cell 16 (by omega)
  have c17 := (hd.since hS1).cel.cell 17 (by omega)
  rw [show rcell D lv av wv 16 = .string (txt 500 (D.slot 0)) from rcell_slot D lv av wv 0 (by omega)] at c16
  rw [show rcell D lv av wv 17 = .string (txt 500 (D.slot 1)) from rcell_slot D lv av wv 1 (by omega)] at c17
  have HD : Hid (Ref w rb N D lv av wv) := hd
  have HOK : Hid D.ok := hok
  have hrbl : rb < w.heap.size := hd.cel.lt (by omega)
  generalize txt 500 (D.slot 0) = s0 at *
  generalize txt 500 (D.slot 1) = s1 at *
  clear hd hok hS1
  unfold zImage at *
  go_enter Tryz.func21, Tryz.ntmps21
  go_wp2_with fail
  have hY : ∀ j, j < 10 → (#[.slice none 0 0, .slice none 0 0, .slice none 0 0, .slice none 0 0, .slice none 0 0, .slice none 0 0, .slice none 0 0, .slice none 0 0, .string s0, .string s1] : Array Value)[j]? = some (icell (ivTo nilV 0) s0 s1 j) := by
    intro j hj
    match j, hj with
    | 0, _ => rfl
    | 1, _ => rfl
    | 2, _ => rfl
    | 3, _ => rfl
    | 4, _ => rfl
    | 5, _ => rfl
    | 6, _ => rfl
    | 7, _ => rfl
    | 8, _ => rfl
    | 9, _ => rfl
    | n + 10, h => exact absurd h (by omega)
  have hC2 : Cel ((w.alloc (.cells #[.slice none 0 0, .slice none 0 0, .slice none 0 0, .slice none 0 0, .slice none 0 0, .slice none 0 0, .slice none 0 0, .slice none 0 0, .string ⟨#[]⟩, .string ⟨#[]⟩] 48)).alloc (.cells #[.slice none 0 0, .slice none 0 0, .slice none 0 0, .slice none 0 0, .slice none 0 0, .slice none 0 0, .slice none 0 0, .slice none 0 0, .string s0, .string s1] 48)) (w.heap.size + 1) 10 (icell (ivTo nilV 0) s0 s1) := Cel.new _ 10 _ _ _ hY _ (by simp)
  have hR0 : Cel ((w.alloc (.cells #[.slice none 0 0, .slice none 0 0, .slice none 0 0, .slice none 0 0, .slice none 0 0, .slice none 0 0, .slice none 0 0, .slice none 0 0, .string ⟨#[]⟩, .string ⟨#[]⟩] 48)).alloc (.cells #[.slice none 0 0, .slice none 0 0, .slice none 0 0, .slice none 0 0, .slice none 0 0, .slice none 0 0, .slice none 0 0, .slice none 0 0, .string s0, .string s1] 48)) w.heap.size 10 (icell nilV ⟨#[]⟩ ⟨#[]⟩) := (Cel.new w 10 _ _ _ zImage_get _ rfl).since ((Since.refl _).alloc _)
  have hS2 : Since w ((w.alloc (.cells #[.slice none 0 0, .slice none 0 0, .slice none 0 0, .slice none 0 0, .slice none 0 0, .slice none 0 0, .slice none 0 0, .slice none 0 0, .string ⟨#[]⟩, .string ⟨#[]⟩] 48)).alloc (.cells #[.slice none 0 0, .slice none 0 0, .slice none 0 0, .slice none 0 0, .slice none 0 0, .slice none 0 0, .slice none 0 0, .slice none 0 0, .string s0, .string s1] 48)) := ((Since.refl w).alloc _).alloc _
  have hz2 : ((w.alloc (.cells #[.slice none 0 0, .slice none 0 0, .slice none 0 0, .slice none 0 0, .slice none 0 0, .slice none 0 0, .slice none 0 0, .slice none 0 0, .string ⟨#[]⟩, .string ⟨#[]⟩] 48)).alloc (.cells #[.slice none 0 0, .slice none 0 0, .slice none 0 0, .slice none 0 0, .slice none 0 0, .slice none 0 0, .slice none 0 0, .slice none 0 0, .string s0, .string s1] 48)).heap.size = w.heap.size + 2 := by simp
  generalize (w.alloc (.cells #[.slice none 0 0, .slice none 0 0, .slice none 0 0, .slice none 0 0, .slice none 0 0, .slice none 0 0, .slice none 0 0, .slice none 0 0, .string ⟨#[]⟩, .string ⟨#[]⟩] 48)).alloc (.cells #[.slice none 0 0, .slice none 0 0, .slice none 0 0, .slice none 0 0, .slice none 0 0, .slice none 0 0, .slice none 0 0, .slice none 0 0, .string s0, .string s1] 48) = w2 at *
  have HC2 : Hid (Cel w2 (w.heap.size + 1) 10 (icell (ivTo nilV 0) s0 s1)) := hC2
  have HR0 : Hid (Cel w2 w.heap.size 10 (icell nilV ⟨#[]⟩ ⟨#[]⟩)) := hR0
  have HS2 : Hid (Since w w2) := hS2
  have HZ2 : Hid (w2.heap.size = w.heap.size + 2) := hz2
  clear hY hC2 hR0 hS2 hz2 c16 c17
  go_loopw [10] (fun i wr => ∃ (k : Nat) (iv : Nat → Value), k ≤ 8 ∧ i = .int .i64 k ∧ Cel wr (w.heap.size + 1) 10 (icell (ivTo iv k) s0 s1) ∧ Cel wr w.heap.size 10 (icell nilV ⟨#[]⟩ ⟨#[]⟩) ∧ ((∀ z, z < k → wr.ownsRow (w.heap.size + 2) 9 1 (iv z) (D.sure z) (blks (D.blk z) (D.sure z))) ∧ AP iv k) ∧ Since w wr ∧ w.heap.size + 2 ≤ wr.heap.size) (fun i _ => 8 - (intOf i).toNat)
  case atStart => exact ⟨0, nilV, by omega, rfl, HC2.out, HR0.out, ⟨fun z hz => by omega, fun z z' h1 h2 => by omega⟩, HS2.out, by have := HZ2.out; omega⟩
  case round =>
    obtain ⟨k, iv, hk8, rfl, hm, hr, ⟨hrow, hap⟩, hS, hsz⟩ := hrel
    have HAP : Hid (AP iv k) := hap
    clear hap
    have HM : Hid (Cel wr (w.heap.size + 1) 10 (icell (ivTo iv k) s0 s1)) := hm
    have HR : Hid (Cel wr w.heap.size 10 (icell nilV ⟨#[]⟩ ⟨#[]⟩)) := hr
    have HW : Hid (∀ z, z < k → wr.ownsRow (w.heap.size + 2) 9 1 (iv z) (D.sure z) (blks (D.blk z) (D.sure z))) := hrow
    have HS : Hid (Since w wr) := hS
    have HSZ : Hid (w.heap.size + 2 ≤ wr.heap.size) := hsz
    clear hm hr hrow hS hsz
    by_cases hlt : k < 8
    · have hlt2 : (k : Int) < 8 := by omega
      have HD1 : Hid (Ref wr rb N D lv av wv) := HD.out.since HS.out
      obtain ⟨a, c, ea, hac, hTx⟩ := Tx.of_own (l := fun j => txt 128 (D.blk k j)) (HD1.out.row k hlt)
      have hsc : D.sure k ≤ D.cnt k := HOK.out.sure k hlt
      have hc16 : D.cnt k ≤ 16 := HOK.out.cnt k hlt
      have hscap : D.sure k ≤ c := by omega
      have HTM : Hid (Tx wr a (D.sure k) (fun j => txt 128 (D.blk k j))) := hTx.take hsc
      have d1 := HD1.out.cel.cell k (by omega)
      rw [rcell_l _ _ _ _ k hlt, ea] at d1
      have d2 := HD1.out.cel.cell (8 + k) (by omega)
      rw [rcell_sure _ _ _ _ k hlt] at d2
      have HS7 : Hid (Since wr (wr.drew.alloc (.cells #[] 9))) := (Since.refl wr).drew.alloc _
      have HLT : Hid ((wr.drew.alloc (.cells #[] 9)).ownsRow wr.heap.size 9 1 (.slice (some ⟨wr.heap.size, 0, none⟩) 0 0) 0 []) := World.ownsRow_lit (base := wr.heap.size) wr.drew #[] 0 (Nat.le_refl _) (by unfold maxLen; omega) rfl
      have d3 : (wr.alloc (.cells #[] 9)).cell? ⟨rb, k, none⟩ = some (.slice a (D.cnt k) c) := by
        have := (HD1.out.since HS7.out).cel.cell k (by omega)
        rw [rcell_l _ _ _ _ k hlt, ea] at this
        exact this
      have d4 : (wr.alloc (.cells #[] 9)).cell? ⟨rb, 8 + k, none⟩ = some (.int .i64 (D.sure k)) := by
        have := (HD1.out.since HS7.out).cel.cell (8 + k) (by omega)
        rw [rcell_sure _ _ _ _ k hlt] at this
        exact this
      clear ea hTx hac
      go_wp2_with fail
      go_region_law (first
        | (obtain ⟨g3, cap3, w5, hr, ho, hg, hgg⟩ := run_spread (wr.drew.alloc (.cells #[] 9)) 44 wr.heap.size wr.heap.size a (D.sure k) c _ HLT.out (HTM.out.since HS7.out) (by omega) HS7.out.size; refine step_run (by rfl) (.tmp 14) (.tmp 27) 44 _ _ _ (by rfl) (by rfl) (by rfl) hr ?_; have HO3 : Hid (w5.ownsRow wr.heap.size 9 1 (.slice (some ⟨g3, 0, none⟩) (D.sure k) cap3) (D.sure k) (blks (D.blk k) (D.sure k))) := ho; have HS5 : Hid (Since wr w5) := Below.grown HS7.out hg HS7.out.size (fun j hj => by cases hj; exact Nat.le_refl _); have hc5 := HM.out.since HS5.out; have k1 := hc5.cell k (by omega); have l1 := hc5.frozen k (by omega); clear hr ho hg hgg hc5))
      all_goals
        go_wp2_with fail
        go_roundw
        case rel =>
          refine ⟨k + 1, fun z => if z = k then .slice (some ⟨g3, 0, none⟩) (D.sure k) cap3 else iv z, by omega, by go_num, ((HM.out.since HS5.out).set k (by omega) _).congr (fun j hj => ?_), (HR.out.since HS5.out).other (by simp) _, ⟨fun z hz => ?_, AP.step HAP.out (fun kk e => (HO3.out.lt kk e).1) (fun z hz kk e => ((HW.out z hz).lt kk e).2)⟩, (HS.out.trans HS5.out).setCell (by simp) _, by have h1 := HS5.out.size; have h2 := HSZ.out; simp [World.setCell]; omega⟩
          · unfold updv icell ivTo
            by_cases h1 : j = k
            · subst h1
              dsimp only
              rw [if_pos rfl, if_pos hlt, if_pos (by omega), if_pos rfl]
            · rw [if_neg h1]
              by_cases h2 : j < 8
              · rw [if_pos h2, if_pos h2]
                by_cases h3 : j < k
                · dsimp only
                  rw [if_pos h3, if_pos (by omega), if_neg h1]
                · rw [if_neg h3, if_neg (by omega)]
              · rw [if_neg h2, if_neg h2]
          · by_cases h1 : z = k
            · subst h1
              simp only [if_true]
              exact ownsRow_setCell_below (ownsRow_base HO3.out HSZ.out) (by simp) _
            · simp only [if_neg h1]
              exact ownsRow_setCell_below (ownsRow_since (HW.out z (by omega)) HS5.out) (by simp) _
        case measure => simp [intOf]; omega
    · have hke : 8 = k := by omega
      subst hke
      have hiv : ∀ j, j < 8 → ivTo iv 8 j = iv j := fun j hj => by unfold ivTo; rw [if_pos hj]
      have hm3 : Cel wr (w.heap.size + 1) 10 (icell iv s0 s1) := HM.out.congr (fun j hj => by
        unfold icell
        by_cases h : j < 8
        · rw [if_pos h, if_pos h, hiv j h]
        · rw [if_neg h, if_neg h])
      have hR := hm3.range 0 10 (by omega)
      simp only [Nat.zero_add] at hR
      have hst := HR.out.store Tryz.prog 0 10 (by omega) (icell iv s0 s1) (icell_one HW.out s0 s1)
      have hL : (brow 10 (icell iv s0 s1)).length = 10 := brow_length _ _
      have hr3 := (HR.out.setRow 0 10 (by omega) (icell iv s0 s1)).congr (g := icell iv s0 s1) (fun j hj => by unfold updl; rw [if_pos (by omega)]; rfl)
      have hR3 := hr3.range 0 10 (by omega)
      simp only [Nat.zero_add] at hR3
      have HR3 : Hid _ := hR3
      have HS3 : Hid (Since w _) := HS.out.setCells (b := w.heap.size) (Nat.le_refl _) (brow 10 (icell iv s0 s1)) 0
      have HW3 : Hid (∀ z, z < 8 → (wr.setCells w.heap.size 0 (brow 10 (icell iv s0 s1))).ownsRow w.heap.size 9 1 (iv z) (D.sure z) (blks (D.blk z) (D.sure z))) := fun z hz =>
        ownsRow_base (ownsRow_fr (HW.out z hz) (Fr.setCells w.heap.size none _ 0 wr) (fun e => by have := ((HW.out z hz).lt _ e).1; omega) (none_or _)) (by omega)
      clear hm3 hr3 hR3 hiv
      generalize hcs : brow 10 (icell iv s0 s1) = cs at *
      go_wp2_with (refine wpList_load_mid (by rfl) 48 _ (by rfl) (w.heap.size + 1) 0 (by rfl) _ _ hR Tryz.underlying48 (by rfl) (by rw [hL]; kernel_rfl) ?_)
      refine bodyPost_ret (results_row Tryz.results21 _ _ _ w.heap.size _ _ (by rfl) HR3.out Tryz.underlying48 (by rfl) (by rw [hL]; kernel_rfl)) rfl ⟨iv, by rw [hcs], HW3.out, HAP.out, HS3.out⟩
end Go.Proofs.YtbfjklpoheooaaaGreatDoor
end
