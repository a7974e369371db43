/- What the laws of files call besides: lists held against each other, sorted lists. -/
import Derived.Test.YtceoamhenpohhaaDoorEJ
import Derived.Test.YtceoamhenpohhaaDoorEK
namespace Go.Proofs.YtceoamhenpohhaaDoor
set_option linter.unusedSimpArgs false
set_option linter.unusedVariables false
set_option maxRecDepth 100000
namespace En
open Go.RowKit
theorem Ints.at_ {w : World} {a : Option Addr} {c : Nat} {l : List Int} (h : Ints w (.slice a l.length c) l) {j : Nat} {x : Int} (hj : l[j]? = some x) : ∃ k o, a = some ⟨k, o, none⟩ ∧ w.cell? ⟨k, o + j, none⟩ = some (.int .i64 x) := by
  obtain ⟨a', c', hv, hc, h⟩ := h
  injection hv with e1 e2 e3
  subst e1 e3
  have hjl := (List.getElem?_eq_some_iff.1 hj).1
  obtain ⟨k, o, ha, hk, hh⟩ := h (by omega)
  exact ⟨k, o, ha, hh j x hj⟩
theorem Ints.form {w : World} {v : Value} {l : List Int} (h : Ints w v l) : ∃ a c, v = .slice a l.length c := by
  obtain ⟨a, c, h, _⟩ := h
  exact ⟨a, c, h⟩
theorem Fls.form {w : World} {v : Value} {l : List Fi} (h : Fls w v l) : ∃ a c, v = .slice a l.length c ∧ l.length ≤ c := by
  obtain ⟨a, c, h, h2, _⟩ := h
  exact ⟨a, c, h, h2⟩
set_option maxHeartbeats 1000000 in
theorem eqI_any (l : List Int) (v1 v2 : Value) (w : World) (h1 : Ints w v1 l) (h2 : Ints w v2 l) (hn : l.length ≤ 100000) :
    Calls Tryd.prog 18 #[v1, v2] w fun e w' => e = .returned (.bool true) ∧ ∃ n, w' = w.drewN n := by
  obtain ⟨a1, c1, rfl⟩ := h1.form
  obtain ⟨a2, c2, rfl⟩ := h2.form
  have H1 : Hid (Ints w (.slice a1 l.length c1) l) := h1
  have H2 : Hid (Ints w (.slice a2 l.length c2) l) := h2
  clear h1 h2
  go_enter Tryd.func18, Tryd.ntmps18
  go_wp2_with fail
  go_loopw [13, 5] (fun i _ wr => ∃ k : Nat, k ≤ l.length ∧ i = .int .i64 k ∧ ∃ n, wr = w.drewN n) (fun i _ _ => l.length - (intOf i).toNat)
  case atStart => exact ⟨0, by omega, rfl, 0, rfl⟩
  case round =>
    obtain ⟨k, hk, rfl, n, rfl⟩ := hrel
    by_cases hlt : k < l.length
    · have hlt2 : (k : Int) < l.length := by omega
      obtain ⟨k1, o1, rfl, q1⟩ := H1.out.at_ (List.getElem?_eq_getElem hlt)
      obtain ⟨k2, o2, rfl, q2⟩ := H2.out.at_ (List.getElem?_eq_getElem hlt)
      generalize l[k] = x at *
      go_wp2_with fail
      go_quiet (fail)
      go_wp2_with fail
      go_roundw
      case rel => exact ⟨k + 1, by omega, by go_num, _, rfl⟩
      case measure => simp [intOf]; omega
    · have hke : k = l.length := by omega
      subst hke
      go_wp2_with fail
      go_ret
      exact ⟨rfl, n, rfl⟩
theorem nan_any (x : Int) (w : World) : Calls Tryd.prog 49 #[.int .i64 x] w fun e w' => e = .returned (.bool false) ∧ w' = w := by
  go_enter Tryd.func49, Tryd.ntmps49
  go_wp2_with fail
  go_ret
  exact ⟨by simp, rfl⟩
theorem less_any (x y : Int) (w : World) (h : ¬ x < y) : Calls Tryd.prog 36 #[.int .i64 x, .int .i64 y] w fun e w' => e = .returned (.bool false) ∧ w' = w := by
  have HN : Hid (y ≤ x) := Int.not_lt.1 h
  clear h
  go_enter Tryd.func36, Tryd.ntmps36
  go_wp2_with fail
  refine (nan_any _ _).mono ?_
  rintro e w1 ⟨rfl, hw⟩
  subst hw
  go_wp2_with fail
  go_ret
  refine ⟨?_, rfl⟩
  show Ending.returned (.bool (decide (x < y))) = _
  rw [decide_eq_false (Int.not_lt.2 HN.out)]
set_option maxHeartbeats 1000000 in
theorem sorted_any (l : List Int) (v : Value) (w : World) (h : Ints w v l) (hn : l.length ≤ 1000) (hf : l.Pairwise (· ≤ ·)) :
    Calls Tryd.prog 15 #[v] w fun e w' => e = .returned (.bool true) ∧ Since w w' := by
  obtain ⟨a, c, rfl⟩ := h.form
  have HL : Hid (Ints w (.slice a l.length c) l) := h
  have HF : Hid (∀ (i : Nat) (h1 : i + 1 < l.length), l[i] ≤ l[i + 1]) := fun i h1 => List.pairwise_iff_getElem.1 hf i (i + 1) (by omega) h1 (by omega)
  clear h hf
  go_enter Tryd.func15, Tryd.ntmps15
  go_wp2_with fail
  go_loopw [3] (fun i wr => ∃ k : Int, -1 ≤ k ∧ k < l.length ∧ i = .int .i64 k ∧ Since w wr) (fun i _ => (intOf i).toNat)
  case atStart => exact ⟨(l.length : Int) - 1, by omega, by omega, rfl, Since.refl _⟩
  case round =>
    obtain ⟨k, hk1, hk2, rfl, hs⟩ := hrel
    have HS : Hid (Since w wr) := hs
    clear hs
    by_cases hlt : 0 < k
    · obtain ⟨j, rfl⟩ : ∃ j : Nat, k = (j : Int) + 1 := ⟨(k - 1).toNat, by omega⟩
      obtain ⟨lk, lo, rfl, q⟩ := (HL.out.since HS.out).at_ (List.getElem?_eq_getElem (show j < l.length by omega))
      obtain ⟨lk2, lo2, he, q2⟩ := (HL.out.since HS.out).at_ (List.getElem?_eq_getElem (show j + 1 < l.length by omega))
      injection he with he
      injection he with he1 he2
      subst he1 he2
      have hle := HF.out j (by omega)
      generalize l[j] = x at *
      generalize l[j + 1] = y at *
      have hle2 : ¬ y < x := by omega
      clear hle
      go_wp2_with fail
      go_quiet ((go_at_call 36; exact Calls.quiet_of_same (less_any _ _ _ (by omega))))
      go_wp2_with fail
      go_roundw
      case rel => exact ⟨(j : Int), by omega, by omega, by go_num, HS.out.drewN _⟩
      case measure => simp [intOf]
    · go_wp2_with fail
      go_ret
      exact ⟨rfl, HS.out⟩
set_option maxHeartbeats 1000000 in
/-- two files that are one compare so -/
theorem sameF_any (f : Fi) (c1 c2 : Value) (w : World) (h1 : Ints w c1 f.cs) (h2 : Ints w c2 f.cs) (hn : f.cs.length ≤ 100000) :
    Calls Tryd.prog 30 #[fval f c1, fval f c2] w fun e w' => e = .returned (.bool true) ∧ Since w w' := by
  have hS : Since w ((w.alloc (.cells #[.string f.nm, .int .i64 f.sz, c1] 38)).alloc (.cells #[.string f.nm, .int .i64 f.sz, c2] 38)) := ((Since.refl w).alloc _).alloc _
  have heq := eqI_any f.cs c1 c2 _ (h1.since hS) (h2.since hS) hn
  obtain ⟨a1, p1, rfl⟩ := h1.form
  obtain ⟨a2, p2, rfl⟩ := h2.form
  have hst : (f.nm.toList == f.nm.toList) = true := by simp
  have hst2 : (f.nm.data.toList == f.nm.data.toList) = true := by simp
  clear h1 h2
  unfold fval
  go_enter Tryd.func30, Tryd.ntmps30
  go_wp2_with fail
  refine heq.mono ?_
  rintro e w1 ⟨rfl, n, rfl⟩
  go_wp2_with fail
  go_ret
  exact ⟨rfl, hS.drewN n⟩
set_option maxHeartbeats 4000000 in
theorem eqF_any (l : List Fi) (v1 v2 : Value) (w : World) (h1 : Fls w v1 l) (h2 : Fls w v2 l) (hg : ∀ f, f ∈ l → f.cs.length ≤ 100000) (hn : l.length ≤ 1000) :
    Calls Tryd.prog 29 #[v1, v2, .func (.func 30) #[] #[]] w fun e w' => e = .returned (.bool true) ∧ Since w w' := by
  obtain ⟨a1, c1, rfl, hc1⟩ := h1.form
  obtain ⟨a2, c2, rfl, hc2⟩ := h2.form
  have H1 : Hid (Fls w (.slice a1 l.length c1) l) := h1
  have H2 : Hid (Fls w (.slice a2 l.length c2) l) := h2
  have HG : Hid (∀ f, f ∈ l → f.cs.length ≤ 100000) := hg
  clear h1 h2 hg
  go_enter Tryd.func29, Tryd.ntmps29
  go_wp2_with fail
  go_loopw [17, 7, 8, 9] (fun i _ _ _ wr => ∃ k : Nat, k ≤ l.length ∧ i = .int .i64 k ∧ Since w wr) (fun i _ _ _ _ => l.length - (intOf i).toNat)
  case atStart => exact ⟨0, by omega, rfl, Since.refl _⟩
  case round =>
    obtain ⟨k, hk, rfl, hs⟩ := hrel
    have HS : Hid (Since w wr) := hs
    clear hs
    by_cases hlt : k < l.length
    · have hlt2 : (k : Int) < l.length := by omega
      have hE : Hid (l[k]? = some l[k]) := List.getElem?_eq_getElem hlt
      have HGF : Hid (l[k].cs.length ≤ 100000) := HG.out l[k] (List.getElem_mem hlt)
      generalize l[k] = f at *
      obtain ⟨k1, o1, u1, rfl, hi1, hl1, p0, p1, p2⟩ := (H1.out.since HS.out).at_ hE.out
      obtain ⟨a1', b1', rfl⟩ := hi1.form
      have HS1 : Hid (Since wr (wr.alloc (.cells #[.string f.nm, .int .i64 f.sz, .slice a1' f.cs.length b1'] 38))) := (Since.refl _).alloc _
      have HI1 : Hid (Ints wr (.slice a1' f.cs.length b1') f.cs) := hi1
      clear hi1
      go_upto_region 6 with fail
      obtain ⟨k2, o2, u2, rfl, hi2, hl2, q0, q1, q2⟩ := ((H2.out.since HS.out).since HS1.out).at_ hE.out
      obtain ⟨a2', b2', rfl⟩ := hi2.form
      have HI2 : Hid (Ints (wr.alloc (.cells #[.string f.nm, .int .i64 f.sz, .slice a1' f.cs.length b1'] 38)) (.slice a2' f.cs.length b2') f.cs) := hi2
      have HI1' : Hid (Ints (wr.alloc (.cells #[.string f.nm, .int .i64 f.sz, .slice a1' f.cs.length b1'] 38)) (.slice a1' f.cs.length b1') f.cs) := HI1.out.since HS1.out
      have HBX : Hid (Bx (wr.alloc (.cells #[.string f.nm, .int .i64 f.sz, .slice a1' f.cs.length b1'] 38)) wr.heap.size f (.slice a1' f.cs.length b1')) := Bx.new wr f _
      have HSW : Hid (Since w (wr.alloc (.cells #[.string f.nm, .int .i64 f.sz, .slice a1' f.cs.length b1'] 38))) := HS.out.trans HS1.out
      clear hi2 p0 p1 p2 HS1
      generalize wr.alloc (.cells #[.string f.nm, .int .i64 f.sz, .slice a1' f.cs.length b1'] 38) = wa at *
      go_upto_region 7 with fail
      have HSB : Hid (Since wa (wa.alloc (.cells #[.string f.nm, .int .i64 f.sz, .slice a2' f.cs.length b2'] 38))) := (Since.refl _).alloc _
      have x0 := Cel.cell (HBX.out.since HSB.out) 0 (by omega)
      have x1 := Cel.cell (HBX.out.since HSB.out) 1 (by omega)
      have x2 := Cel.cell (HBX.out.since HSB.out) 2 (by omega)
      have hbx2 := Bx.new wa f (.slice a2' f.cs.length b2')
      have y0 := Cel.cell hbx2 0 (by omega)
      have y1 := Cel.cell hbx2 1 (by omega)
      have y2 := Cel.cell hbx2 2 (by omega)
      clear hbx2 q0 q1 q2
      have HJ1 : Hid (Ints (wa.alloc (.cells #[.string f.nm, .int .i64 f.sz, .slice a2' f.cs.length b2'] 38)) (.slice a1' f.cs.length b1') f.cs) := HI1'.out.since HSB.out
      have HJ2 : Hid (Ints (wa.alloc (.cells #[.string f.nm, .int .i64 f.sz, .slice a2' f.cs.length b2'] 38)) (.slice a2' f.cs.length b2') f.cs) := HI2.out.since HSB.out
      generalize wa.alloc (.cells #[.string f.nm, .int .i64 f.sz, .slice a2' f.cs.length b2'] 38) = wb at *
      go_wp2_with fail
      refine (sameF_any f _ _ _ HJ1.out HJ2.out HGF.out).mono ?_
      rintro e w1 ⟨rfl, h1⟩
      have HSX : Hid (Since w w1) := (HSW.out.trans HSB.out).trans h1
      clear h1 x0 x1 x2 y0 y1 y2
      go_wp2_with fail
      go_roundw
      case rel => exact ⟨k + 1, by omega, by go_num, HSX.out⟩
      case measure => simp [intOf]; omega
    · have hke : k = l.length := by omega
      subst hke
      go_wp2_with fail
      go_ret
      exact ⟨rfl, HS.out⟩
theorem same_any (l : List Fi) (v1 v2 : Value) (w : World) (h1 : Fls w v1 l) (h2 : Fls w v2 l) (hg : ∀ f, f ∈ l → f.cs.length ≤ 100000) (hn : l.length ≤ 1000) :
    Calls Tryd.prog 10 #[v1, v2] w fun e w' => e = .returned (.bool true) ∧ Since w w' := by
  have h := eqF_any l v1 v2 w h1 h2 hg hn
  obtain ⟨a1, c1, rfl, hc1⟩ := h1.form
  obtain ⟨a2, c2, rfl, hc2⟩ := h2.form
  clear h1 h2
  go_enter Tryd.func10, Tryd.ntmps10
  go_wp2_with fail
  refine h.mono ?_
  rintro e w1 ⟨rfl, h1⟩
  go_wp2_with fail
  go_ret
  exact ⟨rfl, h1⟩
end En
end Go.Proofs.YtceoamhenpohhaaDoor
