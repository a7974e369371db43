import Derived.Deep.RegionHeld3
import Derived.Test.YtlgocfgnfdnloaaGreatDoorJ45
set_option linter.unusedSimpArgs false
set_option linter.unusedVariables false
section
namespace Go.Proofs.YtlgocfgnfdnloaaGreatDoor
set_option maxRecDepth 100000
namespace Fl
open Go.RowKit Go.Sort Go.Shelf
open En (Fi Fls Ints fval Row)
open Vl
section
variable {w0 w w' : World} {fb vb db cb : Nat} {kb kt : ByteArray} {S : Vs} {v lv : Value} {d d0 : List Fv} {l l0 : List Fi}
theorem Fm.fls (h : Fm w0 w fb vb db cb kb kt S v lv d l) : Fls w lv l := by
  rcases h.sr with ⟨rfl, c, rfl⟩ | ⟨k, o, c, rfl, hc, hcell⟩
  · have : l = [] := List.length_eq_zero_iff.1 h.each.len
    subst this
    exact ⟨none, c, rfl, Nat.zero_le _, fun h => by simp at h⟩
  · refine ⟨some ⟨k, o, none⟩, c, by rw [h.each.len], by rw [h.each.len]; exact hc, fun _ => ⟨k, o, rfl, (h.blk k o _ _ rfl).1, fun j f hj => ?_⟩⟩
    have hjl : j < d.length := by rw [← h.each.len]; exact (List.getElem?_eq_some_iff.1 hj).1
    obtain ⟨h1, h2, h3, h4⟩ := h.each.each j f d[j] hj (List.getElem?_eq_getElem hjl)
    obtain ⟨e0, e1, e2⟩ := fcells_get d j d[j] (List.getElem?_eq_getElem hjl)
    refine ⟨_, h3, ?_, ?_, ?_⟩
    · rw [hcell _ _ e0, h1]
    · rw [Nat.add_assoc, hcell _ _ e1, h2]
    · rw [Nat.add_assoc, hcell _ _ e2]
def butL (l : List Fi) (s : ByteArray) : List Fi := l.filter (fun f => !decide (f.nm = s))
theorem rise_right {l : List Fi} (h : En.right l = true) : Rise l := ((right_iff l).1 h).2.imp (fun {f g} hh => by
  rw [bytesLess_eq, decide_eq_false_iff_not]
  exact fun h' => List.lt_irrefl _ (List.lt_trans h' ((gt_iff _ _).1 hh)))
theorem rise_but {l : List Fi} (h : En.right l = true) (s : ByteArray) : Rise (butL l s) := (rise_right h).filter _
theorem sized_right {l : List Fi} (h : En.right l = true) : En.Sized l := fun f hf => by
  have h1 := (((right_iff l).1 h).1.good f hf).2
  unfold En.filled at h1
  simp only [Bool.and_eq_true, decide_eq_true_eq] at h1
  omega
def hasB (l : List Fi) (s : ByteArray) : Bool := l.any (fun f => decide (f.nm = s))
theorem hasB_iff (l : List Fi) (s : ByteArray) : hasB l s = true ↔ ∃ f ∈ l, f.nm = s := by simp [hasB]
theorem hasB_not {l : List Fi} {s : ByteArray} (h : ∀ f ∈ l, ¬ f.nm = s) : hasB l s = false := by
  cases e : hasB l s with
  | false => rfl
  | true =>
    obtain ⟨f, h1, h2⟩ := (hasB_iff l s).1 e
    exact absurd h2 (h f h1)
set_option maxHeartbeats 8000000 in
theorem fdel_any (B : Base w0 kb kt) (LB : En.Lb w0) (n : Int) (ho : S.ok n) (hn : n + 1000 < 900000000) (h : Fm w0 w fb vb db cb kb kt S v lv d l) (hr : En.right l = true) (s : ByteArray) :
    Calls Tryz.prog 17 #[.pointer (some ⟨fb, 0, none⟩), .string s] w fun e w' => ((∀ f ∈ l, ¬ f.nm = s) ∧ e = .returned (En.errV 7) ∧ Since w w') ∨
      ((∃ f ∈ l, f.nm = s) ∧ e = .returned (ev (dirW kb kt (butL l s) S).1) ∧ (dirW kb kt (butL l s) S).2.ok (n + 3) ∧ ∃ d' lv' v', ((dirW kb kt (butL l s) S).1 = 0 → Fm w0 w' fb vb db cb kb kt (dirW kb kt (butL l s) S).2 v' lv' d' (butL l s) ∧ Nl w lv d lv' d') ∧ ((dirW kb kt (butL l s) S).1 ≠ 0 → Fm w0 w' fb vb db cb kb kt (dirW kb kt (butL l s) S).2 v' lv d l) ∧
        Fs (fun k => k = fb ∨ VP vb db cb v k) w w' ∧ (∀ k, k < w.heap.size → ¬ VP vb db cb v k → ¬ VP vb db cb v' k)) := by
  have hl8 : l.length ≤ 8 := ((right_iff l).1 hr).1.len
  have hor := orZero_any fb vb w h.c0
  have p1 := h.c1
  have HF : Hid (Fm w0 w fb vb db cb kb kt S v lv d l) := h
  have HR : Hid (En.right l = true ∧ l.length ≤ 8) := ⟨hr, hl8⟩
  have HO : Hid (S.ok n ∧ n + 1000 < 900000000) := ⟨ho, hn⟩
  obtain ⟨la, ln, lc, rfl⟩ : ∃ a n c, lv = .slice a n c := by
    rcases h.sr with ⟨_, c, rfl⟩ | ⟨k, o, c, rfl, _⟩
    · exact ⟨_, _, _, rfl⟩
    · exact ⟨_, _, _, rfl⟩
  have HCF : Hid (∀ (W : World) (b : Nat), Since w W → W.cell? ⟨b, 0, none⟩ = some (.string s) → Calls Tryz.prog 76 #[.slice la ln lc, .func (.func 141) #[] #[.pointer (some ⟨b, 0, none⟩)]] W fun e w' => e = .returned (.bool (hasB l s)) ∧ Since W w') := fun W b hs hb => (CFn_any l _ s b W (HF.out.since hs).fls hb (by omega)).mono (fun e w' hh => by
    obtain ⟨hc, hs'⟩ := hh
    refine ⟨?_, hs'⟩
    rcases hc with ⟨rfl, hc⟩ | ⟨rfl, hc⟩
    · rw [(hasB_iff l s).2 hc]
    · rw [hasB_not hc])
  have hfl : fb < w.heap.size := World.block_lt_of_cell? w _ p1
  have q1 : ∀ W, Since w W → W.cell? ⟨fb, 1, none⟩ = some (.slice la ln lc) := fun W hs => (hs.cell (p := ⟨fb, 1, none⟩) hfl).trans p1
  have Q1 : Hid (∀ W, Since w W → W.cell? ⟨fb, 1, none⟩ = some (.slice la ln lc)) := q1
  have hbx : ∀ W : World, (W.alloc (.cells #[.string s] 9)).cell? ⟨W.heap.size, 0, none⟩ = some (.string s) := fun W => by
    have hgen : ∀ W1 : World, W1.heap[W.heap.size]? = some (.cells #[.string s] 9) → W1.cell? ⟨W.heap.size, 0, none⟩ = some (.string s) := fun W1 hW => by simp [World.cell?, hW]
    exact hgen _ (heap_alloc_new W _)
  have HBX : Hid (∀ W : World, (W.alloc (.cells #[.string s] 9)).cell? ⟨W.heap.size, 0, none⟩ = some (.string s)) := hbx
  have HOR : Hid (Calls Tryz.prog 61 #[.pointer (some ⟨fb, 0, none⟩)] w fun e w' => e = .returned (.pointer (some ⟨fb, 0, none⟩)) ∧ w' = w) := hor
  clear h hr ho hn hor hl8 p1 q1 hbx
  go_enter Tryz.func17, Tryz.ntmps17
  go_wp2_with fail
  refine HOR.out.mono ?_
  rintro e w1 ⟨rfl, hw1⟩
  subst hw1
  go_wp2_with fail
  go_region_held3 (fun W => W.cell? ⟨fb, 1, none⟩ = some (.slice la ln lc)) (first | exact Q1.out _ (Since.refl _) | exact Q1.out _ (Since.refl _).drew | exact Q1.out _ ((Since.refl _).alloc _) | exact Q1.out _ ((Since.refl _).drew.alloc _) | exact Q1.out _ (((Since.refl _).alloc _).trans hs3) | exact Q1.out _ (((Since.refl _).drew.alloc _).trans hs3)) (first
    | (go_simp; go_at_call 77; refine (called_any s _).mono ?_; rintro e w2 ⟨rfl, rfl⟩; dsimp only)
    | (go_simp; go_at_call 76; refine (HCF.out _ _ (by first | exact ((Since.refl _).alloc _) | exact ((Since.refl _).drew.alloc _)) (by first | exact HBX.out _)).mono ?_; rintro e w3 ⟨rfl, hs3⟩; dsimp only))
  have hs13 : Since w1 w3 := ((Since.refl w1).alloc _).drew.trans hs3
  have F3 := HF.out.since hs13
  have H3 : Hid (Since w1 w3 ∧ Fm w0 w3 fb vb db cb kb kt S v (.slice la ln lc) d l) := ⟨hs13, F3⟩
  have p3 := F3.c1
  clear hs3 hs13 F3
  cases hB : hasB l s with
  | false =>
    have HB : Hid (hasB l s = false) := hB
    clear hB
    go_wp2_with fail
    go_ret
    refine Or.inl ⟨fun f hf e => ?_, rfl, H3.out.1⟩
    have h1 := HB.out
    rw [(hasB_iff l s).2 ⟨f, hf, e⟩] at h1
    cases h1
  | true =>
    have HB : Hid (∃ f ∈ l, f.nm = s) := (hasB_iff l s).1 hB
    clear hB
    have hdl := H3.out.2.each.len
    have HWI : Hid (Calls Tryz.prog 62 #[.pointer (some ⟨fb, 0, none⟩), .string s] w3 fun e w' => ∃ v', e = .returned v' ∧ w'.ownsRow w3.heap.size 153 3 v' (d.filter (keepB s)).length (fcells (d.filter (keepB s))) ∧ Since w3 w' ∧ (v' = .slice none 0 0 → d = [])) := without_any _ w3 fb _ d l s H3.out.2.c1 H3.out.2.sr H3.out.2.each (by have := HR.out.2; omega)
    clear hdl
    go_wp2_with fail
    refine HWI.out.mono ?_
    rintro e w4 ⟨v4, rfl, ho4, hs4, hnil⟩
    rcases ho4.2 with ⟨h', _⟩ | ⟨g, cap, cur, h', hb, hg, hnc, _⟩
    · exfalso
      have hd := hnil h'
      have h1 := H3.out.2.each.len
      rw [hd] at h1
      obtain ⟨f, hf, _⟩ := HB.out
      rw [List.length_eq_zero_iff.1 h1] at hf
      cases hf
    · subst h'
      have F3 := H3.out.2
      have F4 := F3.since hs4
      have hfl3 : fb < w3.heap.size := World.block_lt_of_cell? w3 _ F3.c1
      have hw0 := F3.vol.since.size
      have hfit := ((right_iff l).1 HR.out.1).1.filter (fun f => !decide (f.nm = s))
      have he4 : Each (fun k => k = g ∨ k = fb ∨ VP vb db cb v k) w4 (d.filter (keepB s)) (butL l s) := ((F3.each.filter s).wider (P' := fun k => k = g ∨ k = fb ∨ VP vb db cb v k) (fun k hk hp => by
        rcases hp with rfl | hp
        · omega
        · exact hp)).since hs4
      have hge : ∀ (j : Nat) (x : Fv), d[j]? = some x → ∀ k o, x.2.2.1 = some ⟨k, o, none⟩ → k ≠ g := fun j x hx k o e => by
        have hj : j < l.length := by rw [F3.each.len]; exact (List.getElem?_eq_some_iff.1 hx).1
        have := ((F3.each.each j l[j] x (List.getElem?_eq_getElem hj) hx).2.2.2 k o e).1
        omega
      have hbec := become_any B LB n HO.out.1 HO.out.2 F4 ho4 (by omega) (by omega) (fun hv => F3.vol.notGe hb hv) (fun k o n c e => by have := (F3.blk k o n c e).1; omega) hge he4 (by
        have h1 := hfit.len
        have h2 := he4.len
        unfold butL at h2
        omega) (fun f hf => sized_right HR.out.1 f (List.mem_filter.1 hf).1) (fun l' hp hr => hfit.right hp hr)
      have HBE : Hid (Calls Tryz.prog 66 #[.pointer (some ⟨fb, 0, none⟩), .slice (some ⟨g, 0, none⟩) (d.filter (keepB s)).length cap] w4 fun e w' => ∃ d' l' v', (butL l s).Perm l' ∧ Rise l' ∧ e = .returned (ev (dirW kb kt l' S).1) ∧ (dirW kb kt l' S).2.ok (n + 3) ∧
        ((dirW kb kt l' S).1 = 0 → Fm w0 w' fb vb db cb kb kt (dirW kb kt l' S).2 v' (.slice (some ⟨g, 0, none⟩) (d.filter (keepB s)).length cap) d' l') ∧ ((dirW kb kt l' S).1 ≠ 0 → Fm w0 w' fb vb db cb kb kt (dirW kb kt l' S).2 v' (.slice la ln lc) d l) ∧ Fs (fun k => k = g ∨ k = fb ∨ VP vb db cb v k) w4 w' ∧ (∀ k, k < w4.heap.size → ¬ VP vb db cb v k → ¬ VP vb db cb v' k) ∧ d'.Perm (d.filter (keepB s))) := hbec
      have H4 : Hid (Since w1 w4 ∧ w3.heap.size ≤ g ∧ Fit (butL l s)) := ⟨H3.out.1.trans hs4, hb, hfit⟩
      clear hbec hge he4 hfit hw0 hfl3 F4 F3 ho4 hs4 hnil hb hg hnc p3
      go_wp2_with fail
      refine HBE.out.mono ?_
      rintro e w5 ⟨d', l', v', hp, hri, rfl, hok, hz, hnz, hfs, hnx, hpd⟩
      have HPD : Hid (d'.Perm (d.filter (keepB s))) := hpd
      clear hpd
      obtain rfl : l' = butL l s := H4.out.2.2.uniq hp (List.Perm.refl _) hri (rise_but HR.out.1 s)
      have HZ : Hid ((dirW kb kt (butL l s) S).2.ok (n + 3) ∧ ((dirW kb kt (butL l s) S).1 = 0 → Fm w0 w5 fb vb db cb kb kt (dirW kb kt (butL l s) S).2 v' (.slice (some ⟨g, 0, none⟩) (d.filter (keepB s)).length cap) d' (butL l s)) ∧ ((dirW kb kt (butL l s) S).1 ≠ 0 → Fm w0 w5 fb vb db cb kb kt (dirW kb kt (butL l s) S).2 v' (.slice la ln lc) d l) ∧ Fs (fun k => k = g ∨ k = fb ∨ VP vb db cb v k) w4 w5 ∧ (∀ k, k < w4.heap.size → ¬ VP vb db cb v k → ¬ VP vb db cb v' k)) := ⟨hok, hz, hnz, hfs, hnx⟩
      clear hok hz hnz hfs hnx hp hri
      have hwv : ∃ x, ev (dirW kb kt (butL l s) S).1 = x := ⟨_, rfl⟩
      obtain ⟨x, hx⟩ := hwv
      rw [hx]
      have HXX : Hid (ev (dirW kb kt (butL l s) S).1 = x) := hx
      clear hx
      go_wp2_with fail
      go_ret
      refine Or.inr ⟨HB.out, by rw [HXX.out]; rfl, HZ.out.1, d', _, v', fun h0 => ⟨HZ.out.2.1 h0, fun k o n c e => Or.inl (by
        simp only [Value.slice.injEq, Option.some.injEq, Addr.mk.injEq] at e
        have h1 := H4.out.2.1
        have h2 := H3.out.1.size
        omega), fun x hx k o e => Or.inr ⟨x, (List.mem_filter.1 (HPD.out.mem_iff.1 hx)).1, o, e⟩⟩, HZ.out.2.2.1, ?_, fun k hk => HZ.out.2.2.2.2 k (Nat.lt_of_lt_of_le hk H4.out.1.size)⟩
      exact (Fs.of_since H4.out.1).trans' HZ.out.2.2.2.1 (fun k hk => by
        rcases hk with rfl | hk
        · exact .inr (Nat.le_trans H3.out.1.size H4.out.2.1)
        · exact .inl hk)
end
end Fl
end Go.Proofs.YtlgocfgnfdnloaaGreatDoor
end
section
namespace Go.Proofs.YtlgocfgnfdnloaaGreatDoor
set_option maxRecDepth 100000
namespace Fl
open Go.RowKit Go.Sort Go.Shelf
open En (Fi Fls Ints fval Row freeL allC need nameB filled ivals)
open Vl
def fullB (l : List Fi) (s t : ByteArray) : Bool := decide (8 ≤ (butL l s).length) || decide (((freeL (butL l s)).length : Int) < need t.size)
def cellsF (l : List Fi) (s t : ByteArray) : List Int := (freeL (butL l s)).take (need t.size).toNat
def newF (l : List Fi) (s t : ByteArray) : Fi := ⟨s, t.size, cellsF l s t⟩
theorem need_nonneg (n : Nat) : 0 ≤ need n := by unfold need; split <;> omega
theorem free_in {l : List Fi} {c : Int} (h : c ∈ freeL l) : 3 ≤ c ∧ c < 24 := by
  have h1 := (List.mem_filter.1 h).1
  simp only [En.files21, List.mem_cons, List.not_mem_nil, or_false] at h1
  omega
theorem free_nodup (l : List Fi) : (freeL l).Nodup := (show En.files21.Nodup by decide).filter _
theorem fit_new {l : List Fi} (h : Fit l) {s t : ByteArray} (hn : nameB s.data.toList = true) (hf : fullB l s t = false) : Fit (butL l s ++ [newF l s t]) := by
  unfold fullB at hf
  rw [Bool.or_eq_false_iff, decide_eq_false_iff_not, decide_eq_false_iff_not] at hf
  obtain ⟨h8, hfr⟩ := hf
  have hb : Fit (butL l s) := h.filter _
  have hnn := need_nonneg t.size
  have hlen : (cellsF l s t).length = (need t.size).toNat := by unfold cellsF; rw [List.length_take]; omega
  have hsub : ∀ c ∈ cellsF l s t, c ∈ freeL (butL l s) := fun c hc => List.mem_of_mem_take hc
  have h21 : (freeL (butL l s)).length ≤ 21 := List.length_filter_le _ _
  have e : allC (butL l s ++ [newF l s t]) = allC (butL l s) ++ cellsF l s t := by simp [allC, newF]
  refine ⟨by simp; omega, fun f hf => ?_, ?_, fun c hc => ?_, ?_⟩
  · rcases List.mem_append.1 hf with hf | hf
    · exact hb.good f hf
    · rw [List.mem_singleton] at hf
      subst hf
      refine ⟨hn, ?_⟩
      unfold filled newF
      simp only [Bool.and_eq_true, decide_eq_true_eq]
      refine ⟨⟨by omega, ?_⟩, by rw [hlen]; omega⟩
      have h1 : need t.size ≤ 21 := by omega
      unfold need at h1
      split at h1 <;> omega
  · refine List.pairwise_append.2 ⟨hb.names, List.pairwise_singleton _ _, fun f hf g hg => ?_⟩
    rw [List.mem_singleton] at hg
    subst hg
    have := (List.mem_filter.1 hf).2
    simp at this
    exact this
  · rw [e] at hc
    rcases List.mem_append.1 hc with hc | hc
    · exact hb.cells c hc
    · exact free_in (hsub c hc)
  · rw [e, List.nodup_append]
    refine ⟨hb.once, (free_nodup _).sublist (List.take_sublist _ _), fun x hx y hy e => ?_⟩
    subst e
    exact En.free_not hx (hsub x hy)
theorem own_fls {P : Nat → Prop} {w : World} {d : List Fv} {l : List Fi} {base : Nat} {v : Value} (h : Each P w d l) (ho : w.ownsRow base 153 3 v d.length (fcells d)) : Fls w v l := by
  rcases ho.2 with ⟨h', h0⟩ | ⟨g, cap, cur, h', _⟩
  · subst h'
    have : l = [] := List.length_eq_zero_iff.1 (h.len.trans h0)
    subst this
    exact ⟨none, 0, rfl, Nat.zero_le _, fun h => by simp at h⟩
  · subst h'
    exact h.fls ho
end Fl
end Go.Proofs.YtlgocfgnfdnloaaGreatDoor
end
section
namespace Go.Proofs.YtlgocfgnfdnloaaGreatDoor
set_option maxRecDepth 100000
namespace Fl
open Go.RowKit Go.Sort Go.Shelf
open En (Fi Fls Ints fval Row freeL allC need nameB filled ivals)
open Vl
theorem fcells_append (x : Fv) : ∀ d : List Fv, fcells (d ++ [x]) = fcells d ++ [.string x.1, .int .i64 x.2.1, .slice x.2.2.1 x.2.2.2.1 x.2.2.2.2]
  | [] => rfl
  | y :: r => by
    have ih := fcells_append x r
    have e : fcells (y :: r) = .string y.1 :: .int .i64 y.2.1 :: .slice y.2.2.1 y.2.2.2.1 y.2.2.2.2 :: fcells r := rfl
    have e2 : fcells (y :: r ++ [x]) = .string y.1 :: .int .i64 y.2.1 :: .slice y.2.2.1 y.2.2.2.1 y.2.2.2.2 :: fcells (r ++ [x]) := rfl
    rw [e, e2, ih]
    rfl
section
variable {w0 w w' : World} {fb vb db cb : Nat} {kb kt : ByteArray} {S : Vs} {v lv : Value} {d d0 : List Fv} {l l0 : List Fi}
set_option maxHeartbeats 8000000 in
theorem fput_any (B : Base w0 kb kt) (LB : En.Lb w0) (n : Int) (ho : S.ok n) (hn : n + 2000 < 900000000) (h : Fm w0 w fb vb db cb kb kt S v lv d l) (hr : En.right l = true) (s t : ByteArray) (hs : s.size ≤ 100000) (ht : t.size ≤ 100000) :
    Calls Tryz.prog 15 #[.pointer (some ⟨fb, 0, none⟩), .string s, .string t] w fun e w' =>
      (nameB s.data.toList = false ∧ e = .returned (En.errV 5) ∧ Since w w') ∨ (nameB s.data.toList = true ∧ fullB l s t = true ∧ e = .returned (En.errV 12) ∧ Since w w') ∨
      (nameB s.data.toList = true ∧ fullB l s t = false ∧ (wrF kb kt (cellsF l s t) t S).2.ok (n + (cellsF l s t).length) ∧ ∃ v1,
        ((wrF kb kt (cellsF l s t) t S).1 ≠ 0 → e = .returned (ev (wrF kb kt (cellsF l s t) t S).1) ∧ Fm w0 w' fb vb db cb kb kt (wrF kb kt (cellsF l s t) t S).2 v1 lv d l) ∧
        ((wrF kb kt (cellsF l s t) t S).1 = 0 → ∃ l' d' lv', (butL l s ++ [newF l s t]).Perm l' ∧ Rise l' ∧ e = .returned (ev (dirW kb kt l' (wrF kb kt (cellsF l s t) t S).2).1) ∧ (dirW kb kt l' (wrF kb kt (cellsF l s t) t S).2).2.ok (n + (cellsF l s t).length + 3) ∧
          ((dirW kb kt l' (wrF kb kt (cellsF l s t) t S).2).1 = 0 → Fm w0 w' fb vb db cb kb kt (dirW kb kt l' (wrF kb kt (cellsF l s t) t S).2).2 v1 lv' d' l' ∧ Nl w lv d lv' d') ∧ ((dirW kb kt l' (wrF kb kt (cellsF l s t) t S).2).1 ≠ 0 → Fm w0 w' fb vb db cb kb kt (dirW kb kt l' (wrF kb kt (cellsF l s t) t S).2).2 v1 lv d l)) ∧
        Fs (fun k => k = fb ∨ VP vb db cb v k) w w' ∧ (∀ k, k < w.heap.size → ¬ VP vb db cb v k → ¬ VP vb db cb v1 k)) := by
  have hor := orZero_any fb vb w h.c0
  have p1 := h.c1
  have hl8 : l.length ≤ 8 := ((right_iff l).1 hr).1.len
  have hdl := h.each.len
  have HF : Hid (Fm w0 w fb vb db cb kb kt S v lv d l) := h
  have HR : Hid (En.right l = true ∧ l.length ≤ 8 ∧ s.size ≤ 100000 ∧ t.size ≤ 100000) := ⟨hr, hl8, hs, ht⟩
  have HO : Hid (S.ok n ∧ n + 2000 < 900000000) := ⟨ho, hn⟩
  have HWI : Hid (Calls Tryz.prog 62 #[.pointer (some ⟨fb, 0, none⟩), .string s] w fun e w' => ∃ v', e = .returned v' ∧ w'.ownsRow w.heap.size 153 3 v' (d.filter (keepB s)).length (fcells (d.filter (keepB s))) ∧ Since w w' ∧ (v' = .slice none 0 0 → d = [])) := without_any _ w fb _ d l s h.c1 h.sr h.each (by omega)
  have HOR : Hid (Calls Tryz.prog 61 #[.pointer (some ⟨fb, 0, none⟩)] w fun e w' => e = .returned (.pointer (some ⟨fb, 0, none⟩)) ∧ w' = w) := hor
  clear h hr ho hn hor hl8 p1 hdl hs ht
  go_enter Tryz.func15, Tryz.ntmps15
  go_wp2_with fail
  refine HOR.out.mono ?_
  rintro e w1 ⟨rfl, hw1⟩
  subst hw1
  go_wp2_with fail
  refine (En.name_any s _).mono ?_
  rintro e w2 ⟨rfl, hw2⟩
  subst hw2
  cases hB : nameB s.data.toList with
  | false =>
    have HB : Hid (nameB s.data.toList = false) := hB
    clear hB
    go_wp2_with fail
    go_ret
    exact Or.inl ⟨HB.out, rfl, Since.refl _⟩
  | true =>
    have HB : Hid (nameB s.data.toList = true) := hB
    clear hB
    go_wp2_with fail
    refine HWI.out.mono ?_
    rintro e w4 ⟨v4, rfl, ho4, hs4, hnil⟩
    have he4 := (HF.out.each.filter s).since hs4
    have hfls : Fls w4 v4 (butL l s) := own_fls he4 ho4
    have hrb : En.right (butL l s) = true := (((right_iff l).1 HR.out.1).1.filter _).right (List.Perm.refl _) (rise_but HR.out.1 s)
    have HFR : Hid (Calls Tryz.prog 63 #[v4] w4 fun e w' => ∃ x, e = .returned x ∧ w'.ownsRow w4.heap.size 3 1 x (freeL (butL l s)).length (ivals (freeL (butL l s))) ∧ Since w4 w') := En.free_any _ v4 w4 hfls hrb
    have hvl : ∃ a c, v4 = .slice a (butL l s).length c := by
      obtain ⟨a, c, h1, _⟩ := hfls
      exact ⟨a, c, h1⟩
    obtain ⟨a4, c4, rfl⟩ := hvl
    have H4 : Hid (w4.ownsRow w2.heap.size 153 3 (.slice a4 (butL l s).length c4) (d.filter (keepB s)).length (fcells (d.filter (keepB s))) ∧ Since w2 w4) := ⟨ho4, hs4⟩
    clear ho4 hs4 hnil he4 hfls hrb
    go_wp2_with fail
    refine HFR.out.mono ?_
    rintro e w5 ⟨x, rfl, ho5, hs5⟩
    have hxl : ∃ a c, x = .slice a (freeL (butL l s)).length c := by
      rcases ho5.2 with ⟨h', h0⟩ | ⟨g, cap, cur, h', _⟩
      · exact ⟨none, 0, by rw [h', h0]⟩
      · exact ⟨_, _, h'⟩
    obtain ⟨a5, c5, rfl⟩ := hxl
    have H5 : Hid (w5.ownsRow w4.heap.size 3 1 (.slice a5 (freeL (butL l s)).length c5) (freeL (butL l s)).length (ivals (freeL (butL l s))) ∧ Since w4 w5) := ⟨ho5, hs5⟩
    clear ho5 hs5
    go_wp2_with fail
    refine (En.need_any (t.size : Int) (by have := HR.out.2.2.2; omega) _).mono ?_
    rintro e w6 ⟨rfl, hw6⟩
    subst hw6
    obtain ⟨k, hk⟩ : ∃ k : Nat, need t.size = k := ⟨(need t.size).toNat, by have := need_nonneg t.size; omega⟩
    rw [hk]
    have HK : Hid (need t.size = k) := hk
    clear hk
    by_cases h8 : 8 ≤ (butL l s).length
    · have h8i : (8 : Int) ≤ ((butL l s).length : Int) := by omega
      have hfu : fullB l s t = true := by unfold fullB; rw [decide_eq_true h8]; rfl
      have HFU : Hid (fullB l s t = true) := hfu
      clear hfu h8
      go_wp2_with fail
      go_ret
      exact Or.inr (Or.inl ⟨HB.out, HFU.out, rfl, H4.out.2.trans H5.out.2⟩)
    · have h8i : ¬ (8 : Int) ≤ ((butL l s).length : Int) := by omega
      by_cases hf : (freeL (butL l s)).length < k
      · have hfi : ((freeL (butL l s)).length : Int) < (k : Int) := by omega
        have hfu : fullB l s t = true := by unfold fullB; rw [HK.out, decide_eq_true hfi, Bool.or_true]
        have HFU : Hid (fullB l s t = true) := hfu
        clear hfu h8 hf
        go_wp2_with fail
        go_ret
        exact Or.inr (Or.inl ⟨HB.out, HFU.out, rfl, H4.out.2.trans H5.out.2⟩)
      · have hfi : ¬ ((freeL (butL l s)).length : Int) < (k : Int) := by omega
        have hfu : fullB l s t = false := by unfold fullB; rw [HK.out, decide_eq_false hfi, decide_eq_false h8]; rfl
        have HFU : Hid (fullB l s t = false) := hfu
        have hc5 : (freeL (butL l s)).length ≤ c5 := by
          rcases H5.out.1.2 with ⟨h', h0⟩ | ⟨g, cap, cur, h', _, _, hnc, _⟩
          · omega
          · simp only [Value.slice.injEq, Option.some.injEq, Addr.mk.injEq, and_true, true_and] at h'
            omega
        have hkc : k ≤ c5 := by omega
        have hcl : (cellsF l s t).length = k := by unfold cellsF; rw [List.length_take, HK.out]; omega
        have hs26 := H4.out.2.trans H5.out.2
        have F6 := HF.out.since hs26
        have hints : Ints w6 (.slice a5 k c5) (cellsF l s t) := by
          refine ⟨a5, c5, by rw [hcl], by rw [hcl]; exact hkc, fun hpos => ?_⟩
          rcases H5.out.1.2 with ⟨h', h0⟩ | ⟨g, cap, cur, h', _, _, hnc, _⟩
          · omega
          · simp only [Value.slice.injEq, true_and] at h'
            obtain ⟨rfl, rfl⟩ := h'
            refine ⟨g, 0, rfl, (H5.out.1.lt g rfl).2, fun j x hj => ?_⟩
            have hj2 : (freeL (butL l s))[j]? = some x := by
              unfold cellsF at hj
              rw [List.getElem?_take] at hj
              split at hj
              · exact hj
              · cases hj
            have hjl := (List.getElem?_eq_some_iff.1 hj2).1
            rw [Nat.zero_add, H5.out.1.cellAt j (by omega)]
            unfold ivals
            rw [List.getElem?_map, hj2]
            rfl
        have hfar : ∀ k' o m c, Value.slice a5 k c5 = .slice (some ⟨k', o, none⟩) m c → ¬ VP vb db cb v k' := fun k' o m c e => by
          simp only [Value.slice.injEq] at e
          have h1 := H5.out.1.lt k' (by rw [e.1]; rfl)
          exact (HF.out.vol.go H4.out.2).notGe h1.1
        have HFW : Hid (Calls Tryz.prog 65 #[.pointer (some ⟨fb, 0, none⟩), .slice a5 k c5, .string t] w6 fun e w' => e = .returned (ev (wrF kb kt (cellsF l s t) t S).1) ∧ Vto w0 w6 w' vb db cb kb kt (wrF kb kt (cellsF l s t) t S).2 v ∧ (wrF kb kt (cellsF l s t) t S).2.ok (n + (cellsF l s t).length)) :=
          fwrite_any B n HO.out.1 (by have := HO.out.2; omega) F6.vol F6.c0 F6.nfb (cellsF l s t) _ hints hfar (by rw [hcl]; have : (freeL (butL l s)).length ≤ 21 := List.length_filter_le _ _; omega) t
        have H6 : Hid (Fm w0 w6 fb vb db cb kb kt S v lv d l ∧ Since w2 w6 ∧ Ints w6 (.slice a5 k c5) (cellsF l s t)) := ⟨F6, hs26, hints⟩
        clear hfu h8 hcl hs26 F6 hints hfar
        obtain ⟨R, hR⟩ : ∃ R, wrF kb kt (cellsF l s t) t S = R := ⟨_, rfl⟩
        obtain ⟨rn, S1⟩ := R
        rw [hR] at HFW
        have HRR : Hid (wrF kb kt (cellsF l s t) t S = (rn, S1)) := hR
        clear hR
        go_wp2_with fail
        refine HFW.out.mono ?_
        rintro e w7 ⟨rfl, hvt, hok⟩
        obtain ⟨v7, F7, hf7, hnx⟩ := H6.out.1.vto hvt
        have H7 : Hid (Fm w0 w7 fb vb db cb kb kt S1 v7 lv d l ∧ S1.ok (n + (cellsF l s t).length) ∧ Fs (fun k => k = fb ∨ VP vb db cb v k) w2 w7 ∧ (∀ k, k < w6.heap.size → ¬ VP vb db cb v k → ¬ VP vb db cb v7 k) ∧ Fs (VP vb db cb v) w6 w7) := ⟨F7, hok, (Fs.of_since H6.out.2.1).trans (fs_wider hf7 (fun k e => .inr e)), hnx, hf7⟩
        clear F7 hok hnx hf7 hvt
        by_cases e0 : rn = 0
        · subst e0
          rw [ev_zero]
          go_wp2_with fail
          refine (En.clone_any s HR.out.2.2.1 w7).mono ?_
          rintro e w8 ⟨rfl, hs8⟩
          have hdl : (butL l s).length = (d.filter (keepB s)).length := (HF.out.each.filter s).len
          have hrow : ∀ g, (Value.slice a4 (butL l s).length c4).ownBlock = some g → w2.heap.size ≤ g := fun g hg => (H4.out.1.lt g hg).1
          have hnp : ∀ g, w2.heap.size ≤ g → g ≠ fb ∧ ¬ VP vb db cb v g := fun g hg => ⟨fun e => by have := World.block_lt_of_cell? w2 _ HF.out.c1; simp at this; omega, HF.out.vol.notGe hg⟩
          have ho7 : w7.ownsRow w2.heap.size 153 3 (.slice a4 (butL l s).length c4) (d.filter (keepB s)).length (fcells (d.filter (keepB s))) := ownFs (En.owns_since H4.out.1 H5.out.2) H7.out.2.2.2.2 (fun g hg => (hnp g (hrow g hg)).2)
          have HO8 : Hid (w8.ownsRow w2.heap.size 153 3 (.slice a4 (butL l s).length c4) (d.filter (keepB s)).length (fcells (d.filter (keepB s)))) := En.owns_since ho7 hs8
          have H8 : Hid (Since w7 w8 ∧ (∀ g, (Value.slice a4 (butL l s).length c4).ownBlock = some g → w2.heap.size ≤ g) ∧ (∀ g, w2.heap.size ≤ g → g ≠ fb ∧ ¬ VP vb db cb v g) ∧ (butL l s).length = (d.filter (keepB s)).length) := ⟨hs8, hrow, hnp, hdl⟩
          have hsz8 : w2.heap.size ≤ w8.heap.size := Nat.le_trans H7.out.2.2.1.size hs8.size
          obtain ⟨i0, hi, hz0, hz1, hz2⟩ := info_parts En.infoF
          have HI : Hid (Tryz.prog.info? 153 = some i0 ∧ i0.zero = some (.agg #[.string ByteArray.empty, .int .i64 0, .slice none 0 0]) ∧ i0.size = 3 ∧ i0.bytes = 48) := ⟨hi, hz0, hz1, hz2⟩
          have HB8 : Hid ((d.filter (keepB s)).length + 1 ≤ maxLen ∧ ((d.filter (keepB s)).length + 1) * 48 ≤ 140737488355328 ∧ w2.heap.size ≤ (w8.alloc (.cells #[.string s, .int .i64 t.size, .slice a5 k c5] 153)).heap.size) := by
            have h1 : (d.filter (keepB s)).length ≤ 8 := by omega
            exact ⟨by unfold maxLen; omega, by omega, by simp; omega⟩
          clear hi hz0 hz1 hz2 ho7 hs8 hdl hrow hnp hsz8
          go_wp2_with (at_builtin; refine wpList_append_lies _ (by rfl) _ _ 52 (by rfl) w2.heap.size 153 i0 _ 3 48 Tryz.underlying52 HI.out.1 HI.out.2.1 HI.out.2.2.1 HI.out.2.2.2 (by rfl) (by decide) _ _ _ (by rfl) (World.ownsRow.alloc HO8.out _) ⟨w8.heap.size, 0, none⟩ 1 1 [.string s, .int .i64 t.size, .slice a5 k c5] (by rfl) (by rfl) (World.news_of_block (heap_alloc_new w8 _)) (by simp [Value.oneCell']) (by decide) HB8.out.1 HB8.out.2.1 HB8.out.2.2 (w8.heap.size + 1) (by simp) ?_; intro g cap w9 hown hgrow hat hlt)
          have hrowl : ∀ r, (Value.slice a4 (butL l s).length c4).ownBlock = some r → w2.heap.size ≤ r ∧ r < w4.heap.size := fun r hr => H4.out.1.lt r hr
          have h46 : w4.heap.size ≤ w6.heap.size := H5.out.2.size
          have h24 : w2.heap.size ≤ w4.heap.size := H4.out.2.size
          have h67 : w6.heap.size ≤ w7.heap.size := H7.out.2.2.2.2.size
          have h78 : w7.heap.size ≤ w8.heap.size := H8.out.1.size
          have hg2 : w2.heap.size ≤ g := by
            rcases hat with hat | hat
            · exact (hrowl g hat).1
            · omega
          have hfr : Fs (fun r => (Value.slice a4 (butL l s).length c4).ownBlock = some r) (w8.alloc (.cells #[.string s, .int .i64 t.size, .slice a5 k c5] 153)) w9 := by
            obtain ⟨g1, g2, g3, g4, g5⟩ := hgrow
            exact ⟨g1, g2, g3, g4, fun r hr hn => g5 r hr (fun e => hn e.symm)⟩
          have hs8a : Since w7 (w8.alloc (.cells #[.string s, .int .i64 t.size, .slice a5 k c5] 153)) := H8.out.1.alloc _
          have hvr : ∀ r, (Value.slice a4 (butL l s).length c4).ownBlock = some r → r ≠ fb ∧ ¬ VP vb db cb v7 r := fun r hr => ⟨(H8.out.2.2.1 r (hrowl r hr).1).1, H7.out.2.2.2.1 r (by have := (hrowl r hr).2; omega) (H8.out.2.2.1 r (hrowl r hr).1).2⟩
          have hdi : ∀ (j : Nat) (x : Fv), d[j]? = some x → ∀ k o, x.2.2.1 = some ⟨k, o, none⟩ → k < w2.heap.size := fun j x hx k o e => by
            have hj : j < l.length := by rw [HF.out.each.len]; exact (List.getElem?_eq_some_iff.1 hx).1
            exact ((HF.out.each.each j l[j] x (List.getElem?_eq_getElem hj) hx).2.2.2 k o e).1
          have F9 : Fm w0 w9 fb vb db cb kb kt S1 v7 lv d l := (H7.out.1.since hs8a).fs hfr (fun r hr => Nat.le_trans HF.out.vol.since.size (hrowl r hr).1) (fun r _ hr => hvr r hr) (fun k o n c e hr => by have := (HF.out.blk k o n c e).1; have := (hrowl k hr).1; omega) (fun j x hx k o e hr => by have := hdi j x hx k o e; have := (hrowl k hr).1; omega)
          have hgv : ¬ VP vb db cb v7 g := by
            rcases hat with hat | hat
            · exact (hvr g hat).2
            · exact (H7.out.1.vol.go H8.out.1).notGe (by omega)
          have hFs : Fs (fun r => (r = fb ∨ VP vb db cb v r) ∨ w2.heap.size ≤ r) w2 w9 := ((fs_wider H7.out.2.2.1 (fun r e => .inl e)).trans (Fs.of_since hs8a)).trans (fs_wider hfr (fun r e => .inr (hrowl r e).1))
          have he9 : Each (fun r => r = g ∨ r = fb ∨ VP vb db cb v7 r) w9 (d.filter (keepB s)) (butL l s) := ((HF.out.each.filter s).wider (P' := fun r => (r = fb ∨ VP vb db cb v r) ∨ w2.heap.size ≤ r) (fun r hr hp => hp.elim id (fun h => by omega))).fs hFs (fun r hr hn h' => by
            rcases h' with rfl | h' | h'
            · omega
            · exact hn (.inl (.inl h'))
            · exact H7.out.2.2.2.1 r (by omega) (fun hv => hn (.inl (.inr hv))) h')
          have ha5 : ∀ k' o, a5 = some ⟨k', o, none⟩ → w4.heap.size ≤ k' ∧ k' < w6.heap.size := fun k' o e => H5.out.1.lt k' (by rw [e]; rfl)
          have hva5 : ∀ k' o, a5 = some ⟨k', o, none⟩ → ¬ VP vb db cb v k' := fun k' o e => (H8.out.2.2.1 k' (by have := (ha5 k' o e).1; omega)).2
          have hi9 : Ints w9 (.slice a5 k c5) (cellsF l s t) := ints_fs ((ints_fs H6.out.2.2 H7.out.2.2.2.2 (fun k' o e => ⟨(ha5 k' o e).2, hva5 k' o e⟩)).since hs8a) hfr (fun k' o e => ⟨by have := (ha5 k' o e).2; simp; omega, fun hr => by have := (hrowl k' hr).2; have := (ha5 k' o e).1; omega⟩)
          have hs9 : w8.heap.size + 1 ≤ w9.heap.size := by have := hfr.size; simpa using this
          have he10 := Each.append (x := (s, (t.size : Int), a5, k, c5)) (f := newF l s t) ⟨rfl, rfl, hi9, fun k' o e => ⟨by have := (ha5 k' o e).2; omega, fun h' => by
            have h1 := ha5 k' o e
            rcases h' with h' | h' | h'
            · rcases hat with hat | hat
              · have := (hrowl g hat).2; omega
              · omega
            · exact (H8.out.2.2.1 k' (by omega)).1 h'
            · exact H7.out.2.2.2.1 k' h1.2 (hva5 k' o e) h'⟩⟩ he9
          have hown2 : w9.ownsRow w2.heap.size 153 3 (.slice (some ⟨g, 0, none⟩) (d.filter (keepB s) ++ [(s, (t.size : Int), a5, k, c5)]).length cap) (d.filter (keepB s) ++ [(s, (t.size : Int), a5, k, c5)]).length (fcells (d.filter (keepB s) ++ [(s, (t.size : Int), a5, k, c5)])) := by
            rw [fcells_append, List.length_append]
            exact hown
          have hfit := fit_new ((right_iff l).1 HR.out.1).1 HB.out HFU.out
          have hc21 : (cellsF l s t).length ≤ 21 := by
            have : (freeL (butL l s)).length ≤ 21 := List.length_filter_le _ _
            unfold cellsF
            rw [List.length_take]
            omega
          have hbec := become_any B LB (n + (cellsF l s t).length) H7.out.2.1 (by have := HO.out.2; omega) F9 hown2 (Nat.le_trans HF.out.vol.since.size hg2) (H8.out.2.2.1 g hg2).1 hgv (fun k o n c e => by have := (HF.out.blk k o n c e).1; omega) (fun j x hx k o e => by have := hdi j x hx k o e; omega) he10 (by
            have h1 := hfit.len
            have h2 := he10.len
            omega) (fun f hf => by
            rcases List.mem_append.1 hf with hf | hf
            · exact sized_right HR.out.1 f (List.mem_filter.1 hf).1
            · rw [List.mem_singleton] at hf
              subst hf
              have := HR.out.2.2.2
              unfold newF
              constructor <;> simp <;> omega) (fun l' hp hr => hfit.right hp hr)
          have hlen1 : (d.filter (keepB s) ++ [(s, (t.size : Int), a5, k, c5)]).length = (d.filter (keepB s)).length + 1 := by simp
          rw [hlen1] at hbec
          have hFs2 : Fs (fun r => r = fb ∨ VP vb db cb v r) w2 w9 := ⟨hFs.os, hFs.tape, hFs.output, hFs.size, fun r hr hn => hFs.block r hr (fun h' => h'.elim hn (fun h'' => by omega))⟩
          refine hbec.mono ?_
          rintro e w10 ⟨d', l', v', hp, hri, rfl, hok, hz, hnz, hfs, hnx, hpd⟩
          have HNL : Hid (Nl w2 lv d (.slice (some ⟨g, 0, none⟩) ((d.filter (keepB s)).length + 1) cap) d') := by
            refine ⟨fun k o n c e => Or.inl ?_, fun x hx k o e => ?_⟩
            · simp only [Value.slice.injEq, Option.some.injEq, Addr.mk.injEq] at e
              omega
            · rcases List.mem_append.1 (hpd.mem_iff.1 hx) with hx | hx
              · exact Or.inr ⟨x, (List.mem_filter.1 hx).1, o, e⟩
              · rw [List.mem_singleton] at hx
                subst hx
                have := (ha5 k o e).1
                exact Or.inl (by omega)
          clear hpd
          have hfin : Fs (fun r => r = fb ∨ VP vb db cb v r) w2 w10 := hFs2.trans' hfs (fun r hr => by
            rcases hr with rfl | hr | hr
            · exact .inr hg2
            · exact .inl (.inl hr)
            · by_cases hv : VP vb db cb v r
              · exact .inl (.inr hv)
              · by_cases hlr : r < w6.heap.size
                · exact absurd hr (H7.out.2.2.2.1 r hlr hv)
                · exact .inr (by omega))
          have hnx2 : ∀ r, r < w2.heap.size → ¬ VP vb db cb v r → ¬ VP vb db cb v' r := fun r hr hv => hnx r (by omega) (H7.out.2.2.2.1 r (by omega) hv)
          have HZ : Hid ((butL l s ++ [newF l s t]).Perm l' ∧ Rise l' ∧ (dirW kb kt l' S1).2.ok (n + (cellsF l s t).length + 3) ∧ ((dirW kb kt l' S1).1 = 0 → Fm w0 w10 fb vb db cb kb kt (dirW kb kt l' S1).2 v' (.slice (some ⟨g, 0, none⟩) ((d.filter (keepB s)).length + 1) cap) d' l') ∧ ((dirW kb kt l' S1).1 ≠ 0 → Fm w0 w10 fb vb db cb kb kt (dirW kb kt l' S1).2 v' lv d l) ∧ Fs (fun r => r = fb ∨ VP vb db cb v r) w2 w10 ∧ (∀ r, r < w2.heap.size → ¬ VP vb db cb v r → ¬ VP vb db cb v' r)) := ⟨hp, hri, hok, hz, hnz, hfin, hnx2⟩
          clear hrowl h46 h24 h67 h78 hg2 hfr hs8a hvr hdi F9 hgv hFs he9 ha5 hva5 hi9 hs9 he10 hown2 hfit hc21 hbec hown hgrow hat hlt hlen1 hFs2 hp hri hok hz hnz hfs hnx hfin hnx2
          obtain ⟨x, hx⟩ : ∃ x, ev (dirW kb kt l' S1).1 = x := ⟨_, rfl⟩
          rw [hx]
          have HXX : Hid (ev (dirW kb kt l' S1).1 = x) := hx
          clear hx
          go_wp2_with fail
          go_ret
          refine Or.inr (Or.inr ⟨HB.out, HFU.out, by rw [HRR.out]; exact H7.out.2.1, v', fun hne => absurd (by rw [HRR.out]) hne, fun _ => ?_, HZ.out.2.2.2.2.2.1, HZ.out.2.2.2.2.2.2⟩)
          rw [HRR.out]
          exact ⟨l', d', _, HZ.out.1, HZ.out.2.1, by rw [HXX.out]; rfl, HZ.out.2.2.1, fun h0 => ⟨HZ.out.2.2.2.1 h0, HNL.out⟩, HZ.out.2.2.2.2.1⟩
        · have hev := ev_ne e0
          have HE0 : Hid (¬ rn = 0) := e0
          have HEV : Hid (ev rn = .iface 32 (.int .i64 rn)) := hev
          rw [hev]
          clear e0 hev
          go_wp2_with fail
          go_ret
          refine Or.inr (Or.inr ⟨HB.out, HFU.out, by rw [HRR.out]; exact H7.out.2.1, v7, fun _ => ⟨by rw [HRR.out, HEV.out]; rfl, by rw [HRR.out]; exact H7.out.1⟩, fun h0 => absurd (by rw [HRR.out] at h0; exact h0) HE0.out, H7.out.2.2.1, fun k hk => H7.out.2.2.2.1 k (Nat.lt_of_lt_of_le hk H6.out.2.1.size)⟩)
end
end Fl
end Go.Proofs.YtlgocfgnfdnloaaGreatDoor
end
