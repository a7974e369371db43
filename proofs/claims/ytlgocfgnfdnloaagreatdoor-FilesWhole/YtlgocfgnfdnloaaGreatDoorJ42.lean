import Derived.Deep.RegionHeld3
import Derived.Deep.AppendLies
import Derived.Test.YtlgocfgnfdnloaaGreatDoorJ26
import Derived.Test.YtlgocfgnfdnloaaGreatDoorJ41
set_option linter.unusedSimpArgs false
set_option linter.unusedVariables false
section
namespace Go.Proofs.YtlgocfgnfdnloaaGreatDoor
set_option maxRecDepth 100000
namespace Fl
open Go.RowKit Go.Sort Go.Shelf
open En (Fi Fls Ints fval Row)
open Vl
section
variable {w0 w w' : World} {fb vb db cb : Nat} {kb kt : ByteArray} {S : Vs} {v lv : Value} {d d0 : List Fv} {l l0 : List Fi}
theorem Fm.fls (h : Fm w0 w fb vb db cb kb kt S v lv d l) : Fls w lv l := by
  rcases h.sr with ⟨rfl, c, rfl⟩ | ⟨k, o, c, rfl, hc, hcell⟩
  · have : l = [] := List.length_eq_zero_iff.1 h.each.len
    subst this
    exact ⟨none, c, rfl, Nat.zero_le _, fun h => by simp at h⟩
  · refine ⟨some ⟨k, o, none⟩, c, by rw [h.each.len], by rw [h.each.len]; exact hc, fun _ => ⟨k, o, rfl, (h.blk k o _ _ rfl).1, fun j f hj => ?_⟩⟩
    have hjl : j < d.length := by rw [← h.each.len]; exact (List.getElem?_eq_some_iff.1 hj).1
    obtain ⟨h1, h2, h3, h4⟩ := h.each.each j f d[j] hj (List.getElem?_eq_getElem hjl)
    obtain ⟨e0, e1, e2⟩ := fcells_get d j d[j] (List.getElem?_eq_getElem hjl)
    refine ⟨_, h3, ?_, ?_, ?_⟩
    · rw [hcell _ _ e0, h1]
    · rw [Nat.add_assoc, hcell _ _ e1, h2]
    · rw [Nat.add_assoc, hcell _ _ e2]
def butL (l : List Fi) (s : ByteArray) : List Fi := l.filter (fun f => !decide (f.nm = s))
theorem rise_right {l : List Fi} (h : En.right l = true) : Rise l := ((right_iff l).1 h).2.imp (fun {f g} hh => by
  rw [bytesLess_eq, decide_eq_false_iff_not]
  exact fun h' => List.lt_irrefl _ (List.lt_trans h' ((gt_iff _ _).1 hh)))
theorem rise_but {l : List Fi} (h : En.right l = true) (s : ByteArray) : Rise (butL l s) := (rise_right h).filter _
theorem sized_right {l : List Fi} (h : En.right l = true) : En.Sized l := fun f hf => by
  have h1 := (((right_iff l).1 h).1.good f hf).2
  unfold En.filled at h1
  simp only [Bool.and_eq_true, decide_eq_true_eq] at h1
  omega
def hasB (l : List Fi) (s : ByteArray) : Bool := l.any (fun f => decide (f.nm = s))
theorem hasB_iff (l : List Fi) (s : ByteArray) : hasB l s = true ↔ ∃ f ∈ l, f.nm = s := by simp [hasB]
theorem hasB_not {l : List Fi} {s : ByteArray} (h : ∀ f ∈ l, ¬ f.nm = s) : hasB l s = false := by
  cases e : hasB l s with
  | false => rfl
  | true =>
    obtain ⟨f, h1, h2⟩ := (hasB_iff l s).1 e
    exact absurd h2 (h f h1)
set_option maxHeartbeats 8000000 in
theorem fdel_any (B : Base w0 kb kt) (LB : En.Lb w0) (n : Int) (ho : S.ok n) (hn : n + 1000 < 900000000) (h : Fm w0 w fb vb db cb kb kt S v lv d l) (hr : En.right l = true) (s : ByteArray) :
    Calls Tryz.prog 17 #[.pointer (some ⟨fb, 0, none⟩), .string s] w fun e w' => ((∀ f ∈ l, ¬ f.nm = s) ∧ e = .returned (En.errV 7) ∧ Since w w') ∨
      ((∃ f ∈ l, f.nm = s) ∧ e = .returned (ev (dirW kb kt (butL l s) S).1) ∧ (dirW kb kt (butL l s) S).2.ok (n + 3) ∧ ∃ d' lv' v', ((dirW kb kt (butL l s) S).1 = 0 → Fm w0 w' fb vb db cb kb kt (dirW kb kt (butL l s) S).2 v' lv' d' (butL l s) ∧ Nl w lv d lv' d') ∧ ((dirW kb kt (butL l s) S).1 ≠ 0 → Fm w0 w' fb vb db cb kb kt (dirW kb kt (butL l s) S).2 v' lv d l) ∧
        Fs (fun k => k = fb ∨ VP vb db cb v k) w w' ∧ (∀ k, k < w.heap.size → ¬ VP vb db cb v k → ¬ VP vb db cb v' k)) := by
  have hl8 : l.length ≤ 8 := ((right_iff l).1 hr).1.len
  have hor := orZero_any fb vb w h.c0
  have p1 := h.c1
  have HF : Hid (Fm w0 w fb vb db cb kb kt S v lv d l) := h
  have HR : Hid (En.right l = true ∧ l.length ≤ 8) := ⟨hr, hl8⟩
  have HO : Hid (S.ok n ∧ n + 1000 < 900000000) := ⟨ho, hn⟩
  obtain ⟨la, ln, lc, rfl⟩ : ∃ a n c, lv = .slice a n c := by
    rcases h.sr with ⟨_, c, rfl⟩ | ⟨k, o, c, rfl, _⟩
    · exact ⟨_, _, _, rfl⟩
    · exact ⟨_, _, _, rfl⟩
  have HCF : Hid (∀ (W : World) (b : Nat), Since w W → W.cell? ⟨b, 0, none⟩ = some (.string s) → Calls Tryz.prog 76 #[.slice la ln lc, .func (.func 141) #[] #[.pointer (some ⟨b, 0, none⟩)]] W fun e w' => e = .returned (.bool (hasB l s)) ∧ Since W w') := fun W b hs hb => (CFn_any l _ s b W (HF.out.since hs).fls hb (by omega)).mono (fun e w' hh => by
    obtain ⟨hc, hs'⟩ := hh
    refine ⟨?_, hs'⟩
    rcases hc with ⟨rfl, hc⟩ | ⟨rfl, hc⟩
    · rw [(hasB_iff l s).2 hc]
    · rw [hasB_not hc])
  have hfl : fb < w.heap.size := World.block_lt_of_cell? w _ p1
  have q1 : ∀ W, Since w W → W.cell? ⟨fb, 1, none⟩ = some (.slice la ln lc) := fun W hs => (hs.cell (p := ⟨fb, 1, none⟩) hfl).trans p1
  have Q1 : Hid (∀ W, Since w W → W.cell? ⟨fb, 1, none⟩ = some (.slice la ln lc)) := q1
  have hbx : ∀ W : World, (W.alloc (.cells #[.string s] 9)).cell? ⟨W.heap.size, 0, none⟩ = some (.string s) := fun W => by
    have hgen : ∀ W1 : World, W1.heap[W.heap.size]? = some (.cells #[.string s] 9) → W1.cell? ⟨W.heap.size, 0, none⟩ = some (.string s) := fun W1 hW => by simp [World.cell?, hW]
    exact hgen _ (heap_alloc_new W _)
  have HBX : Hid (∀ W : World, (W.alloc (.cells #[.string s] 9)).cell? ⟨W.heap.size, 0, none⟩ = some (.string s)) := hbx
  have HOR : Hid (Calls Tryz.prog 61 #[.pointer (some ⟨fb, 0, none⟩)] w fun e w' => e = .returned (.pointer (some ⟨fb, 0, none⟩)) ∧ w' = w) := hor
  clear h hr ho hn hor hl8 p1 q1 hbx
  go_enter Tryz.func17, Tryz.ntmps17
  go_wp2_with fail
  refine HOR.out.mono ?_
  rintro e w1 ⟨rfl, hw1⟩
  subst hw1
  go_wp2_with fail
  go_region_held3 (fun W => W.cell? ⟨fb, 1, none⟩ = some (.slice la ln lc)) (first | exact Q1.out _ (Since.refl _) | exact Q1.out _ (Since.refl _).drew | exact Q1.out _ ((Since.refl _).alloc _) | exact Q1.out _ ((Since.refl _).drew.alloc _) | exact Q1.out _ (((Since.refl _).alloc _).trans hs3) | exact Q1.out _ (((Since.refl _).drew.alloc _).trans hs3)) (first
    | (go_simp; go_at_call 77; refine (called_any s _).mono ?_; rintro e w2 ⟨rfl, rfl⟩; dsimp only)
    | (go_simp; go_at_call 76; refine (HCF.out _ _ (by first | exact ((Since.refl _).alloc _) | exact ((Since.refl _).drew.alloc _)) (by first | exact HBX.out _)).mono ?_; rintro e w3 ⟨rfl, hs3⟩; dsimp only))
  have hs13 : Since w1 w3 := ((Since.refl w1).alloc _).drew.trans hs3
  have F3 := HF.out.since hs13
  have H3 : Hid (Since w1 w3 ∧ Fm w0 w3 fb vb db cb kb kt S v (.slice la ln lc) d l) := ⟨hs13, F3⟩
  have p3 := F3.c1
  clear hs3 hs13 F3
  cases hB : hasB l s with
  | false =>
    have HB : Hid (hasB l s = false) := hB
    clear hB
    go_wp2_with fail
    go_ret
    refine Or.inl ⟨fun f hf e => ?_, rfl, H3.out.1⟩
    have h1 := HB.out
    rw [(hasB_iff l s).2 ⟨f, hf, e⟩] at h1
    cases h1
  | true =>
    have HB : Hid (∃ f ∈ l, f.nm = s) := (hasB_iff l s).1 hB
    clear hB
    have hdl := H3.out.2.each.len
    have HWI : Hid (Calls Tryz.prog 62 #[.pointer (some ⟨fb, 0, none⟩), .string s] w3 fun e w' => ∃ v', e = .returned v' ∧ w'.ownsRow w3.heap.size 153 3 v' (d.filter (keepB s)).length (fcells (d.filter (keepB s))) ∧ Since w3 w' ∧ (v' = .slice none 0 0 → d = [])) := without_any _ w3 fb _ d l s H3.out.2.c1 H3.out.2.sr H3.out.2.each (by have := HR.out.2; omega)
    clear hdl
    go_wp2_with fail
    refine HWI.out.mono ?_
    rintro e w4 ⟨v4, rfl, ho4, hs4, hnil⟩
    rcases ho4.2 with ⟨h', _⟩ | ⟨g, cap, cur, h', hb, hg, hnc, _⟩
    · exfalso
      have hd := hnil h'
      have h1 := H3.out.2.each.len
      rw [hd] at h1
      obtain ⟨f, hf, _⟩ := HB.out
      rw [List.length_eq_zero_iff.1 h1] at hf
      cases hf
    · subst h'
      have F3 := H3.out.2
      have F4 := F3.since hs4
      have hfl3 : fb < w3.heap.size := World.block_lt_of_cell? w3 _ F3.c1
      have hw0 := F3.vol.since.size
      have hfit := ((right_iff l).1 HR.out.1).1.filter (fun f => !decide (f.nm = s))
      have he4 : Each (fun k => k = g ∨ k = fb ∨ VP vb db cb v k) w4 (d.filter (keepB s)) (butL l s) := ((F3.each.filter s).wider (P' := fun k => k = g ∨ k = fb ∨ VP vb db cb v k) (fun k hk hp => by
        rcases hp with rfl | hp
        · omega
        · exact hp)).since hs4
      have hge : ∀ (j : Nat) (x : Fv), d[j]? = some x → ∀ k o, x.2.2.1 = some ⟨k, o, none⟩ → k ≠ g := fun j x hx k o e => by
        have hj : j < l.length := by rw [F3.each.len]; exact (List.getElem?_eq_some_iff.1 hx).1
        have := ((F3.each.each j l[j] x (List.getElem?_eq_getElem hj) hx).2.2.2 k o e).1
        omega
      have hbec := become_any B LB n HO.out.1 HO.out.2 F4 ho4 (by omega) (by omega) (fun hv => F3.vol.notGe hb hv) (fun k o n c e => by have := (F3.blk k o n c e).1; omega) hge he4 (by
        have h1 := hfit.len
        have h2 := he4.len
        unfold butL at h2
        omega) (fun f hf => sized_right HR.out.1 f (List.mem_filter.1 hf).1) (fun l' hp hr => hfit.right hp hr)
      have HBE : Hid (Calls Tryz.prog 66 #[.pointer (some ⟨fb, 0, none⟩), .slice (some ⟨g, 0, none⟩) (d.filter (keepB s)).length cap] w4 fun e w' => ∃ d' l' v', (butL l s).Perm l' ∧ Rise l' ∧ e = .returned (ev (dirW kb kt l' S).1) ∧ (dirW kb kt l' S).2.ok (n + 3) ∧
        ((dirW kb kt l' S).1 = 0 → Fm w0 w' fb vb db cb kb kt (dirW kb kt l' S).2 v' (.slice (some ⟨g, 0, none⟩) (d.filter (keepB s)).length cap) d' l') ∧ ((dirW kb kt l' S).1 ≠ 0 → Fm w0 w' fb vb db cb kb kt (dirW kb kt l' S).2 v' (.slice la ln lc) d l) ∧ Fs (fun k => k = g ∨ k = fb ∨ VP vb db cb v k) w4 w' ∧ (∀ k, k < w4.heap.size → ¬ VP vb db cb v k → ¬ VP vb db cb v' k) ∧ d'.Perm (d.filter (keepB s))) := hbec
      have H4 : Hid (Since w1 w4 ∧ w3.heap.size ≤ g ∧ Fit (butL l s)) := ⟨H3.out.1.trans hs4, hb, hfit⟩
      clear hbec hge he4 hfit hw0 hfl3 F4 F3 ho4 hs4 hnil hb hg hnc p3
      go_wp2_with fail
      refine HBE.out.mono ?_
      rintro e w5 ⟨d', l', v', hp, hri, rfl, hok, hz, hnz, hfs, hnx, hpd⟩
      have HPD : Hid (d'.Perm (d.filter (keepB s))) := hpd
      clear hpd
      obtain rfl : l' = butL l s := H4.out.2.2.uniq hp (List.Perm.refl _) hri (rise_but HR.out.1 s)
      have HZ : Hid ((dirW kb kt (butL l s) S).2.ok (n + 3) ∧ ((dirW kb kt (butL l s) S).1 = 0 → Fm w0 w5 fb vb db cb kb kt (dirW kb kt (butL l s) S).2 v' (.slice (some ⟨g, 0, none⟩) (d.filter (keepB s)).length cap) d' (butL l s)) ∧ ((dirW kb kt (butL l s) S).1 ≠ 0 → Fm w0 w5 fb vb db cb kb kt (dirW kb kt (butL l s) S).2 v' (.slice la ln lc) d l) ∧ Fs (fun k => k = g ∨ k = fb ∨ VP vb db cb v k) w4 w5 ∧ (∀ k, k < w4.heap.size → ¬ VP vb db cb v k → ¬ VP vb db cb v' k)) := ⟨hok, hz, hnz, hfs, hnx⟩
      clear hok hz hnz hfs hnx hp hri
      have hwv : ∃ x, ev (dirW kb kt (butL l s) S).1 = x := ⟨_, rfl⟩
      obtain ⟨x, hx⟩ := hwv
      rw [hx]
      have HXX : Hid (ev (dirW kb kt (butL l s) S).1 = x) := hx
      clear hx
      go_wp2_with fail
      go_ret
      refine Or.inr ⟨HB.out, by rw [HXX.out]; rfl, HZ.out.1, d', _, v', fun h0 => ⟨HZ.out.2.1 h0, fun k o n c e => Or.inl (by
        simp only [Value.slice.injEq, Option.some.injEq, Addr.mk.injEq] at e
        have h1 := H4.out.2.1
        have h2 := H3.out.1.size
        omega), fun x hx k o e => Or.inr ⟨x, (List.mem_filter.1 (HPD.out.mem_iff.1 hx)).1, o, e⟩⟩, HZ.out.2.2.1, ?_, fun k hk => HZ.out.2.2.2.2 k (Nat.lt_of_lt_of_le hk H4.out.1.size)⟩
      exact (Fs.of_since H4.out.1).trans' HZ.out.2.2.2.1 (fun k hk => by
        rcases hk with rfl | hk
        · exact .inr (Nat.le_trans H3.out.1.size H4.out.2.1)
        · exact .inl hk)
end
end Fl
end Go.Proofs.YtlgocfgnfdnloaaGreatDoor
end
section
namespace Go.Proofs.YtlgocfgnfdnloaaGreatDoor
set_option maxRecDepth 100000
namespace Fl
open Go.RowKit Go.Sort Go.Shelf
open En (Fi Fls Ints fval Row freeL allC need nameB filled ivals)
open Vl
def fullB (l : List Fi) (s t : ByteArray) : Bool := decide (8 ≤ (butL l s).length) || decide (((freeL (butL l s)).length : Int) < need t.size)
def cellsF (l : List Fi) (s t : ByteArray) : List Int := (freeL (butL l s)).take (need t.size).toNat
def newF (l : List Fi) (s t : ByteArray) : Fi := ⟨s, t.size, cellsF l s t⟩
theorem need_nonneg (n : Nat) : 0 ≤ need n := by unfold need; split <;> omega
theorem free_in {l : List Fi} {c : Int} (h : c ∈ freeL l) : 3 ≤ c ∧ c < 24 := by
  have h1 := (List.mem_filter.1 h).1
  simp only [En.files21, List.mem_cons, List.not_mem_nil, or_false] at h1
  omega
theorem free_nodup (l : List Fi) : (freeL l).Nodup := (show En.files21.Nodup by decide).filter _
theorem fit_new {l : List Fi} (h : Fit l) {s t : ByteArray} (hn : nameB s.data.toList = true) (hf : fullB l s t = false) : Fit (butL l s ++ [newF l s t]) := by
  unfold fullB at hf
  rw [Bool.or_eq_false_iff, decide_eq_false_iff_not, decide_eq_false_iff_not] at hf
  obtain ⟨h8, hfr⟩ := hf
  have hb : Fit (butL l s) := h.filter _
  have hnn := need_nonneg t.size
  have hlen : (cellsF l s t).length = (need t.size).toNat := by unfold cellsF; rw [List.length_take]; omega
  have hsub : ∀ c ∈ cellsF l s t, c ∈ freeL (butL l s) := fun c hc => List.mem_of_mem_take hc
  have h21 : (freeL (butL l s)).length ≤ 21 := List.length_filter_le _ _
  have e : allC (butL l s ++ [newF l s t]) = allC (butL l s) ++ cellsF l s t := by simp [allC, newF]
  refine ⟨by simp; omega, fun f hf => ?_, ?_, fun c hc => ?_, ?_⟩
  · rcases List.mem_append.1 hf with hf | hf
    · exact hb.good f hf
    · rw [List.mem_singleton] at hf
      subst hf
      refine ⟨hn, ?_⟩
      unfold filled newF
      simp only [Bool.and_eq_true, decide_eq_true_eq]
      refine ⟨⟨by omega, ?_⟩, by rw [hlen]; omega⟩
      have h1 : need t.size ≤ 21 := by omega
      unfold need at h1
      split at h1 <;> omega
  · refine List.pairwise_append.2 ⟨hb.names, List.pairwise_singleton _ _, fun f hf g hg => ?_⟩
    rw [List.mem_singleton] at hg
    subst hg
    have := (List.mem_filter.1 hf).2
    simp at this
    exact this
  · rw [e] at hc
    rcases List.mem_append.1 hc with hc | hc
    · exact hb.cells c hc
    · exact free_in (hsub c hc)
  · rw [e, List.nodup_append]
    refine ⟨hb.once, (free_nodup _).sublist (List.take_sublist _ _), fun x hx y hy e => ?_⟩
    subst e
    exact En.free_not hx (hsub x hy)
theorem own_fls {P : Nat → Prop} {w : World} {d : List Fv} {l : List Fi} {base : Nat} {v : Value} (h : Each P w d l) (ho : w.ownsRow base 153 3 v d.length (fcells d)) : Fls w v l := by
  rcases ho.2 with ⟨h', h0⟩ | ⟨g, cap, cur, h', _⟩
  · subst h'
    have : l = [] := List.length_eq_zero_iff.1 (h.len.trans h0)
    subst this
    exact ⟨none, 0, rfl, Nat.zero_le _, fun h => by simp at h⟩
  · subst h'
    exact h.fls ho
end Fl
end Go.Proofs.YtlgocfgnfdnloaaGreatDoor
end
section
namespace Go.Proofs.YtlgocfgnfdnloaaGreatDoor
set_option maxRecDepth 100000
namespace Fl
open En (Fi freeL allC need nameB filled)
open Vl
def wrX : List Int → ByteArray → (Nat → ByteArray) → (Nat → ByteArray)
  | [], _, X => X
  | c :: r, t, X => wrX r (t.extract (min t.size 80) t.size) (updX X c.toNat (t.extract 0 (min t.size 80)))
theorem wrX_ne : ∀ (cs : List Int) (t : ByteArray) (X : Nat → ByteArray) (k : Nat), (∀ c ∈ cs, c.toNat ≠ k) → wrX cs t X k = X k
  | [], _, _, _, _ => rfl
  | c :: r, t, X, k, h => by
    rw [wrX, wrX_ne r _ _ k (fun c' hc => h c' (List.mem_cons_of_mem _ hc))]
    unfold updX
    rw [if_neg (fun e => h c List.mem_cons_self e.symm)]
theorem catL_cons (X : Nat → ByteArray) (c : Int) (r : List Int) : catL X (c :: r) = (X c.toNat).data.toList ++ catL X r := rfl
theorem catL_congr {X Y : Nat → ByteArray} : ∀ {cs : List Int}, (∀ c ∈ cs, X c.toNat = Y c.toNat) → catL X cs = catL Y cs
  | [], _ => rfl
  | c :: r, h => by rw [catL_cons, catL_cons, h c List.mem_cons_self, catL_congr (fun c' hc => h c' (List.mem_cons_of_mem _ hc))]
theorem catL_wr_ne (cs' cs : List Int) (t : ByteArray) (X : Nat → ByteArray) (h : ∀ c ∈ cs, ∀ c' ∈ cs', c.toNat ≠ c'.toNat) : catL (wrX cs t X) cs' = catL X cs' :=
  catL_congr (fun c' hc' => wrX_ne cs t X _ (fun c hc => h c hc c' hc'))
theorem ext_split (t : ByteArray) (m : Nat) (_h : m ≤ t.size) : (t.extract 0 m).data.toList ++ (t.extract m t.size).data.toList = t.data.toList := by
  have hs : t.data.toList.length = t.size := by rw [Array.length_toList]; rfl
  simp only [ByteArray.data_extract, Array.toList_extract, List.extract_eq_take_drop, List.drop_zero, Nat.sub_zero]
  rw [List.take_of_length_le (l := t.data.toList.drop m) (by rw [List.length_drop, hs]; exact Nat.le_refl _)]
  exact List.take_append_drop m _
theorem catL_wr : ∀ (cs : List Int) (t : ByteArray) (X : Nat → ByteArray), cs.Pairwise (fun a b => a.toNat ≠ b.toNat) → t.size ≤ 80 * cs.length → catL (wrX cs t X) cs = t.data.toList
  | [], t, X, _, h => by
    have h0 : t.data.toList.length = 0 := by
      have hs : t.data.toList.length = t.size := by rw [Array.length_toList]; rfl
      rw [hs]
      simpa using h
    rw [List.length_eq_zero_iff.1 h0]
    rfl
  | c :: r, t, X, hp, h => by
    rw [List.pairwise_cons] at hp
    rw [List.length_cons] at h
    have hsz : (t.extract (min t.size 80) t.size).size = t.size - min t.size 80 := by rw [ByteArray.size_extract]; omega
    rw [catL_cons, wrX, catL_wr r _ _ hp.2 (by rw [hsz]; omega), wrX_ne r _ _ c.toNat (fun c' hc => (hp.1 c' hc).symm)]
    unfold updX
    rw [if_pos rfl]
    exact ext_split t _ (by omega)
def txtOf (X : Nat → ByteArray) (l : List Fi) (s : ByteArray) : Option (List UInt8) := (l.find? (fun f => decide (f.nm = s))).map (fun f => catL X f.cs)
def Dif (l : List Fi) : Prop := l.Pairwise (fun f g => f.nm ≠ g.nm)
theorem find_of {l : List Fi} (hd : Dif l) {f : Fi} (hf : f ∈ l) : l.find? (fun g => decide (g.nm = f.nm)) = some f := by
  induction l with
  | nil => cases hf
  | cons g r ih =>
    unfold Dif at hd
    rw [List.pairwise_cons] at hd
    rcases List.mem_cons.1 hf with rfl | hf
    · rw [List.find?_cons_of_pos (by simp)]
    · rw [List.find?_cons_of_neg (by simpa using hd.1 f hf)]
      exact ih hd.2 hf
theorem find_none {l : List Fi} {s : ByteArray} (h : ∀ f ∈ l, f.nm ≠ s) : l.find? (fun g => decide (g.nm = s)) = none := by
  rw [List.find?_eq_none]
  intro f hf
  simpa using h f hf
theorem Dif.perm {l l' : List Fi} (h : Dif l) (hp : l.Perm l') : Dif l' := List.Perm.pairwise (R := fun (f g : Fi) => f.nm ≠ g.nm) hp h (fun {_ _} h => Ne.symm h)
theorem find_perm {l l' : List Fi} (hd : Dif l) (hp : l.Perm l') (s : ByteArray) : l.find? (fun g => decide (g.nm = s)) = l'.find? (fun g => decide (g.nm = s)) := by
  by_cases h : ∃ f ∈ l, f.nm = s
  · obtain ⟨f, hf, rfl⟩ := h
    rw [find_of hd hf, find_of (hd.perm hp) (hp.mem_iff.1 hf)]
  · have h' : ∀ f ∈ l, f.nm ≠ s := fun f hf e => h ⟨f, hf, e⟩
    rw [find_none h', find_none (fun f hf => h' f (hp.mem_iff.2 hf))]
theorem txtOf_perm {X : Nat → ByteArray} {l l' : List Fi} (hd : Dif l) (hp : l.Perm l') (s : ByteArray) : txtOf X l s = txtOf X l' s := by unfold txtOf; rw [find_perm hd hp]
theorem txtOf_congr {X Y : Nat → ByteArray} {l : List Fi} (h : ∀ f ∈ l, catL X f.cs = catL Y f.cs) (s : ByteArray) : txtOf X l s = txtOf Y l s := by
  unfold txtOf
  cases e : l.find? (fun f => decide (f.nm = s)) with
  | none => rfl
  | some f => exact congrArg some (h f (List.mem_of_find?_eq_some e))
theorem find_but (l : List Fi) (s u : ByteArray) (hu : u ≠ s) : (butL l s).find? (fun g => decide (g.nm = u)) = l.find? (fun g => decide (g.nm = u)) := by
  unfold butL
  rw [List.find?_filter]
  congr 1
  funext g
  by_cases h : g.nm = u
  · have : ¬ g.nm = s := fun e => hu (h.symm.trans e)
    simp [h, hu]
  · simp [h]
theorem txtOf_but (X : Nat → ByteArray) (l : List Fi) (s u : ByteArray) : txtOf X (butL l s) u = if u = s then none else txtOf X l u := by
  unfold txtOf
  by_cases hu : u = s
  · subst hu
    rw [if_pos rfl, find_none (fun f hf => by simpa [butL] using (List.mem_filter.1 hf).2)]
    rfl
  · rw [if_neg hu, find_but l s u hu]
theorem txtOf_put (X : Nat → ByteArray) (l : List Fi) (f : Fi) (u : ByteArray) : txtOf X (butL l f.nm ++ [f]) u = if u = f.nm then some (catL X f.cs) else txtOf X l u := by
  by_cases hu : u = f.nm
  · subst hu
    unfold txtOf
    rw [if_pos rfl, List.find?_append, find_none (fun g hg => by simpa [butL] using (List.mem_filter.1 hg).2)]
    simp
  · rw [if_neg hu]
    unfold txtOf
    rw [List.find?_append, find_but l f.nm u hu]
    have : ([f] : List Fi).find? (fun g => decide (g.nm = u)) = none := find_none (fun g hg => by
      rw [List.mem_singleton] at hg
      subst hg
      exact fun e => hu e.symm)
    rw [this, Option.or_none]
theorem txtOf_some {X : Nat → ByteArray} {l : List Fi} {s : ByteArray} : (txtOf X l s ≠ none) ↔ s ∈ l.map Fi.nm := by
  unfold txtOf
  constructor
  · intro h
    cases e : l.find? (fun f => decide (f.nm = s)) with
    | none => rw [e] at h; exact absurd rfl h
    | some f =>
      have h1 := List.mem_of_find?_eq_some e
      have h2 : f.nm = s := by simpa using List.find?_some e
      exact List.mem_map.2 ⟨f, h1, h2⟩
  · intro h he
    obtain ⟨f, hf, rfl⟩ := List.mem_map.1 h
    rw [Option.map_eq_none_iff, List.find?_eq_none] at he
    simpa using he f hf
theorem wrF_cons (kb kt : ByteArray) (c : Int) (r : List Int) (t : ByteArray) (S : Vs) (h : (S.write kb kt c (t.extract 0 (min t.size 80))).1 = 0) : wrF kb kt (c :: r) t S = wrF kb kt r (t.extract (min t.size 80) t.size) (S.write kb kt c (t.extract 0 (min t.size 80))).2 := by
  rw [wrF, if_neg (by rw [h]; decide)]
theorem piece_size (t : ByteArray) : (t.extract 0 (min t.size 80)).size ≤ 80 := by rw [ByteArray.size_extract]; omega
theorem wrF_good {kb kt : ByteArray} : ∀ (cs : List Int) (t : ByteArray) (S : Vs) (n : Int) (k : Nat), Vl.Good kb kt S n → Ph S k → k + cs.length ≤ 120 → n + cs.length < 1000000000 → (∀ c ∈ cs, 0 ≤ c ∧ c < 24) →
    (wrF kb kt cs t S).1 = 0 ∧ Vl.Good kb kt (wrF kb kt cs t S).2 (n + cs.length) ∧ Ph (wrF kb kt cs t S).2 (k + cs.length) ∧ (wrF kb kt cs t S).2.X = wrX cs t S.X ∧ S.c ≤ (wrF kb kt cs t S).2.c
  | [], t, S, n, k, hg, hp, _, _, _ => ⟨rfl, hg.le (by simp), hp, rfl, Int.le_refl _⟩
  | c :: r, t, S, n, k, hg, hp, hk, hn, hc => by
    rw [List.length_cons] at hk hn
    have h0 := hc c List.mem_cons_self
    obtain ⟨j, rfl⟩ : ∃ j : Nat, c = j := ⟨c.toNat, by omega⟩
    obtain ⟨h1, h2, h3, h4, h5⟩ := write_good hg (by omega) hp (by omega) j (by omega) (t.extract 0 (min t.size 80)) (piece_size t)
    rw [wrF_cons kb kt _ r t S h1]
    obtain ⟨i1, i2, i3, i4, i5⟩ := wrF_good r (t.extract (min t.size 80) t.size) _ (n + 1) (k + 1) h2 h3 (by omega) (by omega) (fun c' hc' => hc c' (List.mem_cons_of_mem _ hc'))
    refine ⟨i1, i2.le (by rw [List.length_cons]; omega), by rw [List.length_cons, show k + (r.length + 1) = k + 1 + r.length by omega]; exact i3, ?_, by omega⟩
    rw [i4, h4]
    rfl
structure Fok (kb kt : ByteArray) (S : Vs) (l : List Fi) (n : Int) (k : Nat) : Prop where
  good : Vl.Good kb kt S n
  ph : Ph S k
  right : En.right l = true
  dir : catL S.X [0, 1, 2] = En.print l
theorem Fok.le {kb kt : ByteArray} {S : Vs} {l : List Fi} {n m : Int} {k j : Nat} (h : Fok kb kt S l n k) (hn : n ≤ m) (hk : k ≤ j) : Fok kb kt S l m j := ⟨h.good.le hn, h.ph.le hk, h.right, h.dir⟩
theorem dif_right {l : List Fi} (h : En.right l = true) : Dif l := ((right_iff l).1 h).1.names
theorem cells_in {l : List Fi} (h : En.right l = true) {f : Fi} (hf : f ∈ l) {c : Int} (hc : c ∈ f.cs) : 3 ≤ c ∧ c < 24 := ((right_iff l).1 h).1.cells c (En.mem_allC hf hc)
theorem toNat_ne {c c' : Int} (h : 0 ≤ c) (h' : 0 ≤ c') (hn : c ≠ c') : c.toNat ≠ c'.toNat := by omega
theorem nodup_nat {cs : List Int} (h : cs.Nodup) (h0 : ∀ c ∈ cs, 0 ≤ c) : cs.Pairwise (fun a b => a.toNat ≠ b.toNat) := by
  refine List.Pairwise.imp_of_mem (R := fun a b => a ≠ b) (fun {a b} ha hb hab => toNat_ne (h0 a ha) (h0 b hb) hab) h
theorem need_cover (t : ByteArray) : (t.size : Int) ≤ 80 * need t.size := by
  unfold need
  split <;> omega
theorem cellsF_len {l : List Fi} {s t : ByteArray} (hf : fullB l s t = false) : ((cellsF l s t).length : Int) = need t.size ∧ (cellsF l s t).length ≤ 21 := by
  unfold fullB at hf
  rw [Bool.or_eq_false_iff, decide_eq_false_iff_not, decide_eq_false_iff_not] at hf
  have hnn := need_nonneg t.size
  have h21 : (freeL (butL l s)).length ≤ 21 := List.length_filter_le _ _
  unfold cellsF
  rw [List.length_take]
  omega
theorem cellsF_in {l : List Fi} {s t : ByteArray} {c : Int} (h : c ∈ cellsF l s t) : (3 ≤ c ∧ c < 24) ∧ c ∉ allC (butL l s) := by
  have h1 : c ∈ freeL (butL l s) := List.mem_of_mem_take h
  exact ⟨free_in h1, fun h2 => En.free_not h2 h1⟩
theorem right_new {l l' : List Fi} {s t : ByteArray} (hr : En.right l = true) (hn : nameB s.data.toList = true) (hf : fullB l s t = false) (hp : (butL l s ++ [newF l s t]).Perm l') (hri : Rise l') : En.right l' = true := (fit_new ((right_iff l).1 hr).1 hn hf).right hp hri
theorem right_but {l : List Fi} (hr : En.right l = true) (s : ByteArray) : En.right (butL l s) = true := (((right_iff l).1 hr).1.filter _).right (List.Perm.refl _) (rise_but hr s)
theorem dir_cat {l : List Fi} (hr : En.right l = true) (X : Nat → ByteArray) : catL (wrX [0, 1, 2] ⟨(En.print l).toArray⟩ X) [0, 1, 2] = En.print l := by
  rw [catL_wr [0, 1, 2] _ X (by decide)]
  have h := En.print_fits hr
  show (En.print l).toArray.size ≤ _
  simp
  omega
theorem dir_out (t : ByteArray) (X : Nat → ByteArray) {l : List Fi} (hr : En.right l = true) (s : ByteArray) : txtOf (wrX [0, 1, 2] t X) l s = txtOf X l s :=
  txtOf_congr (fun f hf => catL_wr_ne _ _ _ _ (fun c hc c' hc' => by
    have h1 := cells_in hr hf hc'
    simp only [List.mem_cons, List.not_mem_nil, or_false] at hc
    omega)) s
theorem put_fok {kb kt : ByteArray} {S : Vs} {l l' : List Fi} {n : Int} {k : Nat} (h : Fok kb kt S l n k) (hk : k + 24 ≤ 120) (hn : n + 24 < 1000000000) {s t : ByteArray} (hnm : nameB s.data.toList = true) (hf : fullB l s t = false) (hp : (butL l s ++ [newF l s t]).Perm l') (hri : Rise l') :
    (wrF kb kt (cellsF l s t) t S).1 = 0 ∧ (dirW kb kt l' (wrF kb kt (cellsF l s t) t S).2).1 = 0 ∧ Fok kb kt (dirW kb kt l' (wrF kb kt (cellsF l s t) t S).2).2 l' (n + 24) (k + (cellsF l s t).length + 3) ∧
      (∀ u, txtOf (dirW kb kt l' (wrF kb kt (cellsF l s t) t S).2).2.X l' u = if u = s then some t.data.toList else txtOf S.X l u) ∧ S.c ≤ (dirW kb kt l' (wrF kb kt (cellsF l s t) t S).2).2.c := by
  obtain ⟨hl1, hl2⟩ := cellsF_len hf
  have hr' := right_new h.right hnm hf hp hri
  obtain ⟨a1, a2, a3, a4, a5⟩ := wrF_good (cellsF l s t) t S n k h.good h.ph (by omega) (by omega) (fun c hc => by have := (cellsF_in hc).1; omega)
  generalize (wrF kb kt (cellsF l s t) t S).2 = S1 at *
  unfold dirW
  obtain ⟨b1, b2, b3, b4, b5⟩ := wrF_good [0, 1, 2] ⟨(En.print l').toArray⟩ S1 (n + (cellsF l s t).length) (k + (cellsF l s t).length) a2 a3 (by simp; omega) (by simp; omega) (fun c hc => by
    simp only [List.mem_cons, List.not_mem_nil, or_false] at hc
    omega)
  refine ⟨a1, b1, ⟨b2.le (by simp; omega), b3, hr', by rw [b4]; exact dir_cat hr' _⟩, fun u => ?_, by omega⟩
  rw [b4, dir_out _ _ hr', a4, ← txtOf_perm (fit_new ((right_iff l).1 h.right).1 hnm hf).names hp]
  have e : (newF l s t).nm = s := rfl
  have hcat : catL (wrX (cellsF l s t) t S.X) (newF l s t).cs = t.data.toList := by
    refine catL_wr _ _ _ (nodup_nat ((free_nodup _).sublist (List.take_sublist _ _)) (fun c hc => by have := (cellsF_in hc).1; omega)) ?_
    have := need_cover t
    omega
  have htp := txtOf_put (wrX (cellsF l s t) t S.X) l (newF l s t) u
  rw [e] at htp
  rw [htp, hcat]
  by_cases hu : u = s
  · rw [if_pos hu, if_pos hu]
  · have e1 : txtOf (wrX (cellsF l s t) t S.X) (butL l s) u = txtOf (wrX (cellsF l s t) t S.X) l u := by rw [txtOf_but, if_neg hu]
    have e2 : txtOf S.X (butL l s) u = txtOf S.X l u := by rw [txtOf_but, if_neg hu]
    rw [if_neg hu, if_neg hu, ← e1, ← e2]
    refine txtOf_congr (fun f hf' => catL_wr_ne _ _ _ _ (fun c hc c' hc' => ?_)) u
    obtain ⟨h1, h2⟩ := cellsF_in hc
    have h3 := cells_in (right_but h.right s) hf' hc'
    refine toNat_ne (by omega) (by omega) (fun e => h2 ?_)
    rw [e]
    exact En.mem_allC hf' hc'
theorem del_fok {kb kt : ByteArray} {S : Vs} {l : List Fi} {n : Int} {k : Nat} (h : Fok kb kt S l n k) (hk : k + 24 ≤ 120) (hn : n + 24 < 1000000000) (s : ByteArray) :
    (dirW kb kt (butL l s) S).1 = 0 ∧ Fok kb kt (dirW kb kt (butL l s) S).2 (butL l s) (n + 24) (k + 3) ∧ (∀ u, txtOf (dirW kb kt (butL l s) S).2.X (butL l s) u = if u = s then none else txtOf S.X l u) ∧ S.c ≤ (dirW kb kt (butL l s) S).2.c := by
  have hr' := right_but h.right s
  unfold dirW
  obtain ⟨b1, b2, b3, b4, b5⟩ := wrF_good [0, 1, 2] ⟨(En.print (butL l s)).toArray⟩ S n k h.good h.ph (by simp; omega) (by simp; omega) (fun c hc => by
    simp only [List.mem_cons, List.not_mem_nil, or_false] at hc
    omega)
  refine ⟨b1, ⟨b2.le (by simp), b3, hr', by rw [b4]; exact dir_cat hr' _⟩, fun u => ?_, b5⟩
  rw [b4, dir_out _ _ hr', txtOf_but]
theorem right_nil : En.right [] = true := rfl
theorem fresh_fok (kb kt : ByteArray) : Fok kb kt (fresh dv0 0) [] 0 0 := ⟨(fresh_good kb kt).1, (fresh_good kb kt).2.1, rfl, rfl⟩
end Fl
end Go.Proofs.YtlgocfgnfdnloaaGreatDoor
end
section
namespace Go.Proofs.YtlgocfgnfdnloaaGreatDoor
set_option maxRecDepth 100000
namespace Fl
open Go.RowKit Go.Sort Go.Shelf
open En (Fi Fls Ints fval Row)
open Vl
def getV : Option (List UInt8) → Value
  | none => .tuple #[.string ⟨#[]⟩, En.errV 7]
  | some t => .tuple #[.string ⟨t.toArray⟩, .nilIface]
def Ix (l : List Fi) (s : ByteArray) (i : Int) : Prop := (∃ k : Nat, i = k ∧ k < l.length ∧ (∃ f, l[k]? = some f ∧ f.nm = s) ∧ ∀ j f, j < k → l[j]? = some f → ¬ f.nm = s) ∨ (i = -1 ∧ ∀ f ∈ l, ¬ f.nm = s)
section
variable {w0 w w' : World} {fb vb db cb : Nat} {kb kt : ByteArray} {S : Vs} {v lv : Value} {d d0 : List Fv} {l l0 : List Fi}
set_option maxHeartbeats 8000000 in
theorem fget_any (h : Fm w0 w fb vb db cb kb kt S v lv d l) (hr : En.right l = true) (hx : ∀ i, (S.X i).size ≤ 80) (s : ByteArray) :
    Calls Tryz.prog 34 #[.pointer (some ⟨fb, 0, none⟩), .string s] w fun e w' => e = .returned (getV (txtOf S.X l s)) ∧ Since w w' := by
  have hl8 : l.length ≤ 8 := ((right_iff l).1 hr).1.len
  have hor := orZero_any fb vb w h.c0
  have p1 := h.c1
  have HF : Hid (Fm w0 w fb vb db cb kb kt S v lv d l) := h
  have HR : Hid (En.right l = true ∧ l.length ≤ 8 ∧ ∀ i, (S.X i).size ≤ 80) := ⟨hr, hl8, hx⟩
  obtain ⟨la, lc, rfl⟩ : ∃ a c, lv = .slice a l.length c := by
    obtain ⟨a, c, h1, _⟩ := h.fls
    exact ⟨a, c, h1⟩
  have HIF : Hid (∀ (W : World) (b : Nat), Since w W → W.cell? ⟨b, 0, none⟩ = some (.string s) → Calls Tryz.prog 101 #[.slice la l.length lc, .func (.func 141) #[] #[.pointer (some ⟨b, 0, none⟩)]] W fun e w' => (∃ i : Int, e = .returned (.int .i64 i) ∧ Ix l s i) ∧ Since W w') := fun W b hs hb => IFn_any l _ s b W (HF.out.since hs).fls hb (by omega)
  have hfl : fb < w.heap.size := World.block_lt_of_cell? w _ p1
  have q1 : ∀ W, Since w W → W.cell? ⟨fb, 1, none⟩ = some (.slice la l.length lc) := fun W hs => (hs.cell (p := ⟨fb, 1, none⟩) hfl).trans p1
  have Q1 : Hid (∀ W, Since w W → W.cell? ⟨fb, 1, none⟩ = some (.slice la l.length lc)) := q1
  have hbx : ∀ W : World, (W.alloc (.cells #[.string s] 9)).cell? ⟨W.heap.size, 0, none⟩ = some (.string s) := fun W => by
    have hgen : ∀ W1 : World, W1.heap[W.heap.size]? = some (.cells #[.string s] 9) → W1.cell? ⟨W.heap.size, 0, none⟩ = some (.string s) := fun W1 hW => by simp [World.cell?, hW]
    exact hgen _ (heap_alloc_new W _)
  have HBX : Hid (∀ W : World, (W.alloc (.cells #[.string s] 9)).cell? ⟨W.heap.size, 0, none⟩ = some (.string s)) := hbx
  have HOR : Hid (Calls Tryz.prog 61 #[.pointer (some ⟨fb, 0, none⟩)] w fun e w' => e = .returned (.pointer (some ⟨fb, 0, none⟩)) ∧ w' = w) := hor
  clear h hr hor hl8 p1 q1 hbx hx
  go_enter Tryz.func34, Tryz.ntmps34
  go_wp2_with fail
  refine HOR.out.mono ?_
  rintro e w1 ⟨rfl, hw1⟩
  subst hw1
  go_wp2_with fail
  go_region_held3 (fun W => W.cell? ⟨fb, 1, none⟩ = some (.slice la l.length lc)) (first | exact Q1.out _ (Since.refl _) | exact Q1.out _ (Since.refl _).drew | exact Q1.out _ ((Since.refl _).alloc _) | exact Q1.out _ ((Since.refl _).drew.alloc _) | exact Q1.out _ (((Since.refl _).alloc _).trans hs3) | exact Q1.out _ (((Since.refl _).drew.alloc _).trans hs3)) (first
    | (go_simp; go_at_call 77; refine (called_any s _).mono ?_; rintro e w2 ⟨rfl, rfl⟩; dsimp only)
    | (go_simp; go_at_call 101; refine (HIF.out _ _ (by first | exact ((Since.refl _).alloc _) | exact ((Since.refl _).drew.alloc _)) (by first | exact HBX.out _)).mono ?_; rintro e w3 ⟨⟨i, rfl, hi⟩, hs3⟩; dsimp only))
  have hs13 : Since w1 w3 := ((Since.refl w1).alloc _).drew.trans hs3
  have F3 := HF.out.since hs13
  have H3 : Hid (Since w1 w3 ∧ Fm w0 w3 fb vb db cb kb kt S v (.slice la l.length lc) d l) := ⟨hs13, F3⟩
  clear hs3 hs13 F3
  rcases hi with ⟨k, rfl, hk, ⟨f, hkf, hfn⟩, _⟩ | ⟨rfl, hno⟩
  · have hfm : f ∈ l := List.mem_of_getElem? hkf
    have htx : txtOf S.X l s = some (catL S.X f.cs) := by
      unfold txtOf
      rw [← hfn, find_of (dif_right HR.out.1) hfm]
      rfl
    have HTX : Hid (txtOf S.X l s = some (catL S.X f.cs)) := htx
    have F3 := H3.out.2
    obtain ⟨k1, o1, u1, hla, hi1, hl1, q0, q1, q2⟩ := F3.fls.at_ hkf
    subst hla
    have p0 := F3.c0
    have p1 := F3.c1
    have hin : ∀ c ∈ f.cs, 0 ≤ c ∧ c < 24 := fun c hc => by have := cells_in HR.out.1 hfm hc; omega
    have hfl : f.cs.length ≤ 1000 := by
      have h1 := (((right_iff l).1 HR.out.1).1.good f hfm).2
      have h2 := En.need_le ((En.filled_iff f).1 h1).2.1
      have h3 := ((En.filled_iff f).1 h1).2.2
      omega
    have HJ : Hid (∀ W, Since w3 W → Calls Tryz.prog 57 #[.pointer (some ⟨vb, 0, none⟩), u1] W fun e w' => e = .returned (.tuple #[.string ⟨(catL S.X f.cs).toArray⟩, .nilIface]) ∧ Since W w') := fun W hW => joined_any (F3.vol.go hW) HR.out.2.2 f.cs u1 (hi1.since hW) hin hfl
    have hk0 : ¬ ((k : Int) < 0) := by omega
    have hk1 : (k : Int) < (l.length : Int) := by omega
    obtain ⟨ua, un, uc, rfl⟩ : ∃ a n c, u1 = .slice a n c := by
      obtain ⟨a', c', he, _⟩ := hi1
      exact ⟨_, _, _, he⟩
    have HQ : Hid (∀ W, Since w3 W → W.cell? ⟨fb, 0, none⟩ = some (.pointer (some ⟨vb, 0, none⟩)) ∧ W.cell? ⟨fb, 1, none⟩ = some (.slice (some ⟨k1, o1, none⟩) l.length lc) ∧ W.cell? ⟨k1, o1 + k * 3 + 2, none⟩ = some (.slice ua un uc)) := fun W hW =>
      ⟨(hW.cell (p := ⟨fb, 0, none⟩) (World.block_lt_of_cell? _ _ p0)).trans p0, (hW.cell (p := ⟨fb, 1, none⟩) (World.block_lt_of_cell? _ _ p1)).trans p1, (hW.cell (p := ⟨k1, o1 + k * 3 + 2, none⟩) (World.block_lt_of_cell? _ _ q2)).trans q2⟩
    clear F3 hi1 hl1 hin hfl htx hfm hkf hfn q0 q1
    go_wp2_with fail
    go_region_held3 (fun W => W.cell? ⟨fb, 0, none⟩ = some (.pointer (some ⟨vb, 0, none⟩)) ∧ W.cell? ⟨fb, 1, none⟩ = some (.slice (some ⟨k1, o1, none⟩) l.length lc) ∧ W.cell? ⟨k1, o1 + k * 3 + 2, none⟩ = some (.slice ua un uc)) (first | exact HQ.out _ (Since.refl _) | exact HQ.out _ (Since.refl _).drew | exact HQ.out _ ((Since.refl _).drew.trans hs5)) (first
      | (go_simp; go_at_call 57; refine (HJ.out _ (by first | exact Since.refl _ | exact (Since.refl _).drew)).mono ?_; rintro e w5 ⟨rfl, hs5⟩; dsimp only))
    have HS5 : Hid (Since w1 w5) := H3.out.1.trans ((Since.refl _).drew.trans hs5)
    clear hs5
    go_wp2_with fail
    go_ret2
    exact ⟨by rw [HTX.out]; rfl, HS5.out⟩
  · have htx : txtOf S.X l s = none := by
      unfold txtOf
      rw [find_none hno]
      rfl
    have HTX : Hid (txtOf S.X l s = none) := htx
    clear hno htx
    go_wp2_with fail
    go_ret2
    exact ⟨by rw [HTX.out]; rfl, H3.out.1⟩
def nmV (l : List Fi) : List Value := l.map (fun f => .string f.nm)
theorem nmV_take (l : List Fi) (k : Nat) (f : Fi) (h : l[k]? = some f) : nmV (l.take (k + 1)) = nmV (l.take k) ++ [.string f.nm] := by
  unfold nmV
  rw [List.take_add_one, h]
  simp
set_option maxHeartbeats 8000000 in
theorem fnames_any (h : Fm w0 w fb vb db cb kb kt S v lv d l) (hl8 : l.length ≤ 1000) :
    Calls Tryz.prog 28 #[.pointer (some ⟨fb, 0, none⟩)] w fun e w' => ∃ x, e = .returned x ∧ w'.ownsRow w.heap.size 9 1 x l.length (nmV l) ∧ Since w w' := by
  obtain ⟨i0, hi, hz0, hz1, hz2⟩ := info_parts' infoS
  have HI : Hid (Tryz.prog.info? 9 = some i0 ∧ i0.zero = some (.string ⟨#[]⟩) ∧ i0.size = 1 ∧ i0.bytes = 16) := ⟨hi, hz0, hz1, hz2⟩
  clear hi hz0 hz1 hz2
  have hor := orZero_any fb vb w h.c0
  have p1 := h.c1
  have HL : Hid (Fls w lv l) := h.fls
  have HOR : Hid (Calls Tryz.prog 61 #[.pointer (some ⟨fb, 0, none⟩)] w fun e w' => e = .returned (.pointer (some ⟨fb, 0, none⟩)) ∧ w' = w) := hor
  obtain ⟨la, lc, rfl, _⟩ := h.fls
  clear h hor
  go_enter Tryz.func28, Tryz.ntmps28
  go_wp2_with fail
  refine HOR.out.mono ?_
  rintro e w1 ⟨rfl, hw1⟩
  subst hw1
  go_wp2_with fail
  clear p1
  go_loopw [12, 3] (fun i x wr => ∃ k : Nat, k ≤ l.length ∧ i = .int .i64 k ∧ wr.ownsRow w1.heap.size 9 1 x k (nmV (l.take k)) ∧ Since w1 wr) (fun i _ _ => l.length - (intOf i).toNat)
  case atStart => exact ⟨0, by omega, rfl, World.ownsRow_nil _ _ _ _, Since.refl _⟩
  case round =>
    obtain ⟨k, hk, rfl, hx, hS⟩ := hrel
    have HX : Hid (wr.ownsRow w1.heap.size 9 1 u3 k (nmV (l.take k))) := hx
    have HS : Hid (Since w1 wr) := hS
    clear hx hS
    by_cases hlt : k < l.length
    · have hlt2 : (k : Int) < l.length := by omega
      have hE : Hid (l[k]? = some l[k]) := List.getElem?_eq_getElem hlt
      have HPT : Hid (nmV (l.take (k + 1)) = nmV (l.take k) ++ [.string (l[k]).nm]) := nmV_take l k _ hE.out
      generalize l[k] = f at *
      obtain ⟨k1, o1, u1, rfl, hi1, hl1, q0, q1, q2⟩ := (HL.out.since HS.out).at_ hE.out
      obtain ⟨a1, b1, rfl, _, _⟩ := hi1
      go_upto_region 5 with fail
      clear q0 q1 q2
      generalize hw2 : wr.alloc (.cells #[.string f.nm, .int .i64 f.sz, .slice a1 f.cs.length b1] 153) = w2
      have p0 : w2.cell? ⟨wr.heap.size, 0, none⟩ = some (.string f.nm) := by rw [← hw2]; simp
      have HS2 : Hid (Since wr w2) := by rw [← hw2]; exact (Since.refl _).alloc _
      have HSZ : Hid (w1.heap.size ≤ w2.heap.size) := Nat.le_trans HS.out.size HS2.out.size
      clear hw2
      go_wp2_with (at_builtin; refine wpList_append_own _ (by rfl) _ _ _ (by rfl) w1.heap.size 9 i0 _ 1 16 Tryz.underlying65 HI.out.1 HI.out.2.1 HI.out.2.2.1 HI.out.2.2.2 (by rfl) (by decide) _ k (nmV (l.take k)) (by rfl) (World.ownsRow.alloc (En.owns_since HX.out HS2.out) _) ⟨w2.heap.size, 0, none⟩ 1 1 [.string f.nm] (by rfl) (by rfl) (World.news_of_block (heap_alloc_new w2 _)) (by simp [Value.oneCell']) (by unfold maxLen; omega) (by omega) (by have := HSZ.out; simp; omega) ?_; intro x' w3 hown1 hgrow _)
      have HO1 : Hid (w3.ownsRow w1.heap.size 9 1 x' (k + 1) (nmV (l.take k) ++ [.string f.nm])) := hown1
      have HG1 : Hid (Since w1 w3) := Below.grown (Since.alloc (HS.out.trans HS2.out) _) hgrow (by have := HSZ.out; simp; omega) (fun j hj => (HX.out.lt j hj).1)
      clear hown1 hgrow
      go_wp2_with fail
      go_roundw
      case rel => exact ⟨k + 1, by omega, by go_num, by rw [HPT.out]; exact HO1.out, HG1.out⟩
      case measure => simp [intOf]; omega
    · have hke : k = l.length := by omega
      subst hke
      go_wp2_with fail
      go_ret
      exact ⟨_, rfl, by have := HX.out; rw [List.take_length] at this; exact this, HS.out⟩
end
end Fl
end Go.Proofs.YtlgocfgnfdnloaaGreatDoor
end
section
namespace Go.Proofs.YtlgocfgnfdnloaaGreatDoor
set_option maxRecDepth 100000
namespace Fl
open Go.RowKit Go.Sort Go.Shelf
open En (Fi Fls Ints fval Row)
open Vl
def slP : Value → Option Addr × Nat × Nat
  | .slice a n c => (a, n, c)
  | _ => (none, 0, 0)
def dOf (p : List (Fi × Value)) : List Fv := p.map (fun x => (x.1.nm, x.1.sz, slP x.2))
theorem dOf_cells : ∀ (p : List (Fi × Value)), (∀ x ∈ p, ∃ a n c, x.2 = .slice a n c) → En.pcells p = fcells (dOf p)
  | [], _ => rfl
  | x :: r, h => by
    obtain ⟨a, n, c, e⟩ := h x List.mem_cons_self
    have ih := dOf_cells r (fun y hy => h y (List.mem_cons_of_mem _ hy))
    show [.string x.1.nm, .int .i64 x.1.sz, x.2] ++ En.pcells r = .string x.1.nm :: .int .i64 x.1.sz :: .slice (slP x.2).1 (slP x.2).2.1 (slP x.2).2.2 :: fcells (dOf r)
    rw [ih, e]
    rfl
theorem row_slices {b : Nat} {W : World} {v : Value} {p : List (Fi × Value)} (h : Row b W v p) : ∀ x ∈ p, ∃ a n c, x.2 = .slice a n c := fun x hx => by
  obtain ⟨a, c, e, _⟩ := h.ints x hx
  exact ⟨a, _, c, e⟩
theorem row_own {b : Nat} {W : World} {v : Value} {p : List (Fi × Value)} (h : Row b W v p) : W.ownsRow b 153 3 v (dOf p).length (fcells (dOf p)) := by
  have h1 := h.own
  rw [dOf_cells p (row_slices h)] at h1
  unfold dOf at *
  rw [List.length_map]
  exact h1
theorem row_each {P : Nat → Prop} {b : Nat} {W : World} {v : Value} {p : List (Fi × Value)} (h : Row b W v p) (hP : ∀ k, b ≤ k → k < W.heap.size → ¬ P k) : Each P W (dOf p) (p.map (fun x => x.1)) := by
  refine ⟨by simp [dOf], fun j f x hj hx => ?_⟩
  unfold dOf at hx
  rw [List.getElem?_map] at hj hx
  cases e : p[j]? with
  | none => rw [e] at hj; cases hj
  | some y =>
    rw [e] at hj hx
    simp only [Option.map_some, Option.some.injEq] at hj hx
    subst hj hx
    have hm : y ∈ p := List.mem_of_getElem? e
    obtain ⟨a, n, c, es⟩ := row_slices h y hm
    have hi := h.ints y hm
    refine ⟨rfl, rfl, ?_, fun k o ek => ?_⟩
    · rw [es] at hi ⊢
      exact hi
    · rw [es] at ek
      have ek' : a = some ⟨k, o, none⟩ := ek
      subst ek'
      obtain ⟨h1, cur, fz, h2⟩ := h.far y hm k o n c es
      have h3 := (Array.getElem?_eq_some_iff.1 h2).1
      exact ⟨h3, hP k (by omega) h3⟩
theorem OpenTo.ok' {kb kt : ByteArray} {D : Dv} {c r : Int} {S : Vs} (h : OpenTo kb kt (fresh D c) r S) (hw : D.ws.length ≤ 1) (hc : 0 ≤ c) (hr : r = 0) : S.ok (c + 1) := by
  rcases h with ⟨h1, _, rfl⟩ | ⟨h1, h2, _, rfl⟩ | ⟨h1, h2, h3, _, rfl⟩ | h
  · exact opened_ok kb kt D (c + 1) hw (by omega) h1
  · have h2' : c = 0 := h2
    subst h2'
    exact (fresh_ok D hw).le (by omega)
  · exact (opened_ok kb kt D c hw hc h3).le (by omega)
  · exact absurd hr (by obtain ⟨_, _, _, h, _⟩ := h; omega)
def FOpened (w0 w w' : World) (db cb : Nat) (s : ByteArray) (D : Dv) (c : Int) (v : Value) (e : Ending) : Prop :=
  ∃ vb r S' v', OpenTo (kbOf s) (ktOf s) (fresh D c) r S' ∧ w.heap.size ≤ vb ∧ Vol w0 w' vb db cb (kbOf s) (ktOf s) S' v' ∧ Fs (fun k => k = db ∨ k = cb ∨ v.ownBlock = some k) w w' ∧ Nx w v.ownBlock v'.ownBlock ∧
    ((r ≠ 0 ∧ e = .returned (.tuple #[.pointer none, ev r])) ∨ (r = 0 ∧ En.parse (catL S'.X [0, 1, 2]) = none ∧ e = .returned (.tuple #[.pointer none, En.errV 15])) ∨
      (r = 0 ∧ ∃ l fb lv d, En.parse (catL S'.X [0, 1, 2]) = some l ∧ e = .returned (.tuple #[.pointer (some ⟨fb, 0, none⟩), .nilIface]) ∧ w.heap.size ≤ fb ∧ Fm w0 w' fb vb db cb (kbOf s) (ktOf s) S' v' lv d l ∧ Nl w (.slice none 0 0) [] lv d))
set_option maxHeartbeats 8000000 in
theorem fopen_any {w0 w : World} {db cb : Nat} {D : Dv} {c : Int} {v : Value} (s : ByteArray) (hs : s.size = 16) (hT : Sm.Tab w0) (LB : En.Lb w0) (hc : 0 ≤ c ∧ c < 1000000000) (hw : D.ws.length ≤ 1) (h : DC w0 w db cb D c v) :
    Calls Tryz.prog 12 #[.pointer (some ⟨db, 0, none⟩), .pointer (some ⟨cb, 0, none⟩), .string s] w fun e w' => FOpened w0 w w' db cb s D c v e := by
  have HOP : Hid (Calls Tryz.prog 56 #[.pointer (some ⟨db, 0, none⟩), .pointer (some ⟨cb, 0, none⟩), .string s] w fun e w' => Opened w0 w w' db cb s D c v e) := open_any s hs hT hc h
  have HL : Hid (En.Lb w0 ∧ D.ws.length ≤ 1 ∧ 0 ≤ c ∧ Since w0 w) := ⟨LB, hw, hc.1, h.since⟩
  unfold FOpened
  unfold Opened at HOP
  clear h hw LB hc hT hs
  generalize kbOf s = kb at *
  generalize ktOf s = kt at *
  go_enter Tryz.func12, Tryz.ntmps12
  go_wp2_with fail
  refine HOP.out.mono ?_
  rintro e w1 ⟨vb, r, S1, v1, hto, he, hvb, hvol, hf, hn⟩
  have H1 : Hid (OpenTo kb kt (fresh D c) r S1 ∧ w.heap.size ≤ vb ∧ Vol w0 w1 vb db cb kb kt S1 v1 ∧ Fs (fun k => k = db ∨ k = cb ∨ v.ownBlock = some k) w w1 ∧ Nx w v.ownBlock v1.ownBlock) := ⟨hto, hvb, hvol, hf, hn⟩
  clear hto hvb hvol hf hn
  rcases he with ⟨hr, rfl⟩ | ⟨hr, rfl⟩
  · have HR : Hid (r = 0) := hr
    clear hr
    have hok := OpenTo.ok' H1.out.1 HL.out.2.1 HL.out.2.2.1 HR.out
    have hx : ∀ i, (S1.X i).size ≤ 80 := hok.txt
    go_wp2_with fail
    refine (directory_any w1).mono ?_
    rintro e w2 ⟨rfl, ho2, hs2⟩
    have hints : Ints w2 (.slice (some ⟨w1.heap.size, 0, none⟩) 3 3) [0, 1, 2] := by
      refine ⟨_, 3, rfl, by simp, fun _ => ⟨w1.heap.size, 0, rfl, (ho2.lt _ rfl).2, fun j x hj => ?_⟩⟩
      have hjl := (List.getElem?_eq_some_iff.1 hj).1
      rw [Nat.zero_add, ho2.cellAt j (by simpa using hjl)]
      have : j = 0 ∨ j = 1 ∨ j = 2 := by simp at hjl; omega
      rcases this with rfl | rfl | rfl <;> simp at hj ⊢ <;> exact hj
    have hj := joined_any (H1.out.2.2.1.go hs2) hx [0, 1, 2] _ hints (by simp) (by simp)
    have HJ : Hid (Calls Tryz.prog 57 #[.pointer (some ⟨vb, 0, none⟩), .slice (some ⟨w1.heap.size, 0, none⟩) 3 3] w2 fun e w' => e = .returned (.tuple #[.string ⟨(catL S1.X [0, 1, 2]).toArray⟩, .nilIface]) ∧ Since w2 w') := hj
    have hcl := catL_len S1.X hx [0, 1, 2]
    have hz : (⟨(catL S1.X [0, 1, 2]).toArray⟩ : ByteArray).size ≤ 1000 := by
      show (catL S1.X [0, 1, 2]).toArray.size ≤ 1000
      simp at hcl ⊢
      omega
    have hpa : ∀ W, Since w2 W → _ := fun W hW => En.parse_row ⟨(catL S1.X [0, 1, 2]).toArray⟩ hz W (HL.out.1.since ((H1.out.2.2.1.go hs2).since.trans hW))
    have HPA : Hid (∀ W, Since w2 W → Calls Tryz.prog 59 #[.string ⟨(catL S1.X [0, 1, 2]).toArray⟩] W fun e w' => ((∃ l v, En.parse (catL S1.X [0, 1, 2]) = some l ∧ e = .returned (.tuple #[v, .nilIface]) ∧ Fls w' v l ∧ ∃ p, p.map (fun x => x.1) = l ∧ Row W.heap.size w' v p) ∨ (En.parse (catL S1.X [0, 1, 2]) = none ∧ e = .returned (.tuple #[.slice none 0 0, En.errV 3]))) ∧ Since W w') := hpa
    have HS2 : Hid (Since w1 w2) := hs2
    clear hpa hj hz hcl hints ho2 hs2 hx hok
    go_wp2_with fail
    refine HJ.out.mono ?_
    rintro e w3 ⟨rfl, hs3⟩
    have HS3 : Hid (Since w1 w3) := HS2.out.trans hs3
    have HS23 : Hid (Since w2 w3) := hs3
    clear hs3
    generalize (⟨(catL S1.X [0, 1, 2]).toArray⟩ : ByteArray) = tx at *
    go_wp2_with fail
    refine (HPA.out w3 HS23.out).mono ?_
    clear HPA
    rintro e w4 ⟨hp, hs4⟩
    have HS4 : Hid (Since w1 w4 ∧ Since w3 w4) := ⟨HS3.out.trans hs4, hs4⟩
    clear hs4
    rcases hp with ⟨l, lv, hpl, rfl, hfls, p, hpe, hrow⟩ | ⟨hpn, rfl⟩
    · have HP : Hid (En.parse (catL S1.X [0, 1, 2]) = some l ∧ p.map (fun x => x.1) = l ∧ Row w3.heap.size w4 lv p) := ⟨hpl, hpe, hrow⟩
      obtain ⟨la, lc, rfl, _⟩ := hfls
      clear hpl hpe hrow
      go_wp2_with fail
      go_ret2
      have hv4 := H1.out.2.2.1.go HS4.out.1
      have hS5 : Since w4 (w4.alloc (.cells #[.pointer (some ⟨vb, 0, none⟩), .slice la l.length lc] 142)) := (Since.refl _).alloc _
      have hrow := HP.out.2.2
      have hown := row_own hrow
      refine ⟨vb, r, S1, v1, H1.out.1, H1.out.2.1, hv4.go hS5, H1.out.2.2.2.1.trans (Fs.of_since (HS4.out.1.trans hS5)), H1.out.2.2.2.2, Or.inr (Or.inr ⟨HR.out, l, w4.heap.size, .slice la l.length lc, dOf p, HP.out.1, rfl, Nat.le_trans H1.out.2.2.2.1.size HS4.out.1.size, (⟨hv4.go hS5, by simp, by simp, by simp, Nat.le_trans hv4.since.size (Nat.le_refl _), hv4.notNew, (own_sr hown).fs (Fs.of_since (S := fun _ => False) hS5) (fun k o n c e => ?_), fun k o n c e => ?_, ?_⟩ : Fm _ _ _ _ _ _ _ _ _ _ _ _ _), ?_⟩)⟩
      · have := hown.lt k (by rw [e]; rfl)
        exact ⟨this.2, fun h => h⟩
      · have h1 := hown.lt k (by rw [e]; rfl)
        refine ⟨Nat.lt_of_lt_of_le h1.2 hS5.size, fun hp => ?_⟩
        rcases hp with rfl | hp
        · omega
        · exact (H1.out.2.2.1.go HS3.out).notGe h1.1 hp
      · have he := row_each (P := fun k => k = w4.heap.size ∨ VP vb db cb v1 k) hrow (fun k hk hlt hp => by
          rcases hp with rfl | hp
          · omega
          · exact (H1.out.2.2.1.go HS3.out).notGe hk hp)
        rw [HP.out.2.1] at he
        exact he.since hS5
      · have hsz : w.heap.size ≤ w3.heap.size := Nat.le_trans H1.out.2.2.2.1.size HS3.out.size
        refine ⟨fun k o n c e => Or.inl ?_, fun x hx k o e => Or.inl ?_⟩
        · have := hown.lt k (by rw [e]; rfl)
          omega
        · unfold dOf at hx
          obtain ⟨y, hy, rfl⟩ := List.mem_map.1 hx
          obtain ⟨a, n, c, es⟩ := row_slices hrow y hy
          rw [es] at e
          have e' : a = some ⟨k, o, none⟩ := e
          subst e'
          have := (hrow.far y hy k o n c es).1
          omega
    · have HP : Hid (En.parse (catL S1.X [0, 1, 2]) = none) := hpn
      clear hpn
      have her : En.errV 3 = .iface 32 (.int .i64 3) := rfl
      rw [her]
      go_wp2_with fail
      go_ret2
      exact ⟨vb, r, S1, v1, H1.out.1, H1.out.2.1, H1.out.2.2.1.go HS4.out.1, H1.out.2.2.2.1.trans (Fs.of_since HS4.out.1), H1.out.2.2.2.2, Or.inr (Or.inl ⟨HR.out, HP.out, rfl⟩)⟩
  · have HR : Hid (r ≠ 0) := hr
    rw [ev_ne hr]
    clear hr
    go_wp2_with fail
    go_ret2
    exact ⟨vb, r, S1, v1, H1.out.1, H1.out.2.1, H1.out.2.2.1, H1.out.2.2.2.1, H1.out.2.2.2.2, Or.inl ⟨HR.out, by rw [ev_ne HR.out]; rfl⟩⟩
end Fl
end Go.Proofs.YtlgocfgnfdnloaaGreatDoor
end
