import Derived.Test.YtlgocfgnfdnloaaGreatDoorJ40
set_option linter.unusedSimpArgs false
set_option linter.unusedVariables false
section
namespace Go.Proofs.YtlgocfgnfdnloaaGreatDoor
set_option maxRecDepth 100000
namespace Fl
open Go.RowKit Go.Sort Go.Shelf
open En (Fi Fls Ints fval Row)
open Vl
theorem vol_fs {P : Nat → Prop} {w0 w w' : World} {vb db cb : Nat} {kb kt : ByteArray} {S : Vs} {v : Value} (h : Vol w0 w vb db cb kb kt S v) (hf : Fs P w w') (hP : ∀ k, P k → w0.heap.size ≤ k) (hn : ∀ k, VP vb db cb v k → ¬ P k) : Vol w0 w' vb db cb kb kt S v :=
  ⟨celFs h.cel hf (hn _ (.inl rfl)), devFs h.dev hf (hn _ (.inr (.inl rfl))) (fun k hk => hn k (.inr (.inr (.inr hk)))), celFs h.ctr hf (hn _ (.inr (.inr (.inl rfl)))), h.ne, h.own, h.ty.blk (hf.block vb h.ty.lt (hn _ (.inl rfl))), hf.since h.since hP, h.lo⟩
theorem Each.cons {P : Nat → Prop} {w : World} {x : Fv} {d : List Fv} {f : Fi} {l : List Fi} (h0 : f.nm = x.1 ∧ f.sz = x.2.1 ∧ Ints w (.slice x.2.2.1 x.2.2.2.1 x.2.2.2.2) f.cs ∧ ∀ k o, x.2.2.1 = some ⟨k, o, none⟩ → k < w.heap.size ∧ ¬ P k) (h : Each P w d l) : Each P w (x :: d) (f :: l) := by
  refine ⟨by simp [h.len], fun j g y hj hy => ?_⟩
  cases j with
  | zero =>
    simp at hj hy
    subst hj hy
    exact h0
  | succ j => exact h.each j g y (by simpa using hj) (by simpa using hy)
theorem Each.tail {P : Nat → Prop} {w : World} {x : Fv} {d : List Fv} {f : Fi} {l : List Fi} (h : Each P w (x :: d) (f :: l)) : Each P w d l := ⟨by have := h.len; simpa using this, fun j g y hj hy => h.each (j + 1) g y (by simpa using hj) (by simpa using hy)⟩
theorem Each.head {P : Nat → Prop} {w : World} {x : Fv} {d : List Fv} {f : Fi} {l : List Fi} (h : Each P w (x :: d) (f :: l)) : f.nm = x.1 ∧ f.sz = x.2.1 ∧ Ints w (.slice x.2.2.1 x.2.2.2.1 x.2.2.2.2) f.cs ∧ ∀ k o, x.2.2.1 = some ⟨k, o, none⟩ → k < w.heap.size ∧ ¬ P k := h.each 0 f x rfl rfl
theorem Each.more {P : Nat → Prop} {w : World} {x : Fv} {d : List Fv} {l : List Fi} (h : Each P w (x :: d) l) : ∃ f q, l = f :: q := by
  cases l with
  | nil => have := h.len; simp at this
  | cons f q => exact ⟨f, q, rfl⟩
theorem Each.perm {P : Nat → Prop} {w : World} {d d' : List Fv} (hp : d.Perm d') : ∀ {l : List Fi}, Each P w d l → ∃ l', l.Perm l' ∧ Each P w d' l' := by
  induction hp with
  | nil => exact fun h => ⟨_, List.Perm.refl _, h⟩
  | cons x _ ih =>
    intro l h
    obtain ⟨f, q, rfl⟩ := h.more
    obtain ⟨q', h1, h2⟩ := ih h.tail
    exact ⟨f :: q', h1.cons f, h2.cons h.head⟩
  | swap x y r =>
    intro l h
    obtain ⟨f, q, rfl⟩ := h.more
    obtain ⟨g, q, rfl⟩ := h.tail.more
    exact ⟨g :: f :: q, List.Perm.swap g f q, (h.tail.tail.cons h.head).cons h.tail.head⟩
  | trans _ _ ih1 ih2 =>
    intro l h
    obtain ⟨l1, p1, h1⟩ := ih1 h
    obtain ⟨l2, p2, h2⟩ := ih2 h1
    exact ⟨l2, p1.trans p2, h2⟩
theorem Each.append {P : Nat → Prop} {w : World} {x : Fv} {f : Fi} (h0 : f.nm = x.1 ∧ f.sz = x.2.1 ∧ Ints w (.slice x.2.2.1 x.2.2.2.1 x.2.2.2.2) f.cs ∧ ∀ k o, x.2.2.1 = some ⟨k, o, none⟩ → k < w.heap.size ∧ ¬ P k) : ∀ {d : List Fv} {l : List Fi}, Each P w d l → Each P w (d ++ [x]) (l ++ [f])
  | [], [], h => h.cons h0
  | [], g :: q, h => by have := h.len; simp at this
  | y :: r, [], h => by have := h.len; simp at this
  | y :: r, g :: q, h => (Each.append h0 h.tail).cons h.head
def Rise (l : List Fi) : Prop := l.Pairwise (fun f g => Op.bytesLess g.nm.toList f.nm.toList = false)
theorem rise_of {P : Nat → Prop} {w : World} {d : Array Fv} {l : List Fi} (hs : SortedIn (ltOf cfF) 0 d.size d) (he : Each P w d.toList l) : Rise l := by
  refine List.pairwise_iff_getElem.2 fun i j hi hj hij => ?_
  have hl : l.length = d.size := by rw [he.len, Array.length_toList]
  have h := hs i j (Nat.zero_le _) hij (by omega)
  have ei := (he.each i l[i] d[i] (List.getElem?_eq_getElem hi) (by rw [Array.getElem?_toList]; exact Array.getElem?_eq_getElem (by omega))).1
  have ej := (he.each j l[j] d[j] (List.getElem?_eq_getElem hj) (by rw [Array.getElem?_toList]; exact Array.getElem?_eq_getElem (by omega))).1
  rw [getElem!_pos d i (by omega), getElem!_pos d j (by omega), ltF] at h
  rw [ei, ej, bytesLess_eq]
  exact h
structure Fm (w0 w : World) (fb vb db cb : Nat) (kb kt : ByteArray) (S : Vs) (v lv : Value) (d : List Fv) (l : List Fi) : Prop where
  vol : Vol w0 w vb db cb kb kt S v
  c0 : w.cell? ⟨fb, 0, none⟩ = some (.pointer (some ⟨vb, 0, none⟩))
  c1 : w.cell? ⟨fb, 1, none⟩ = some lv
  fz : w.frozen? ⟨fb, 1, none⟩ = false
  lo : w0.heap.size ≤ fb
  nfb : ¬ VP vb db cb v fb
  sr : Sr w lv d
  blk : ∀ k o n c, lv = .slice (some ⟨k, o, none⟩) n c → k < w.heap.size ∧ ¬ (k = fb ∨ VP vb db cb v k)
  each : Each (fun k => k = fb ∨ VP vb db cb v k) w d l
theorem Sr.fs {P : Nat → Prop} {w w' : World} {v : Value} {d : List Fv} (h : Sr w v d) (hf : Fs P w w') (hb : ∀ k o n c, v = .slice (some ⟨k, o, none⟩) n c → k < w.heap.size ∧ ¬ P k) : Sr w' v d := by
  rcases h with h | ⟨k, o, c, rfl, hc, hcell⟩
  · exact .inl h
  · exact .inr ⟨k, o, c, rfl, hc, fun j u hj => (hf.cell (p := ⟨k, o + j, none⟩) (hb k o _ _ rfl).1 (hb k o _ _ rfl).2).trans (hcell j u hj)⟩
section
variable {w0 w w' : World} {fb vb db cb : Nat} {kb kt : ByteArray} {S : Vs} {v lv : Value} {d : List Fv} {l : List Fi}
theorem Fm.fs {P : Nat → Prop} (h : Fm w0 w fb vb db cb kb kt S v lv d l) (hf : Fs P w w') (hP : ∀ k, P k → w0.heap.size ≤ k) (hn : ∀ k, k < w.heap.size → P k → k ≠ fb ∧ ¬ VP vb db cb v k) (hb : ∀ k o n c, lv = .slice (some ⟨k, o, none⟩) n c → ¬ P k) (he : ∀ (j : Nat) (x : Fv), d[j]? = some x → ∀ k o, x.2.2.1 = some ⟨k, o, none⟩ → ¬ P k) : Fm w0 w' fb vb db cb kb kt S v lv d l := by
  have hfl : fb < w.heap.size := World.block_lt_of_cell? w _ h.c0
  have hfp : ¬ P fb := fun hp => (hn fb hfl hp).1 rfl
  have hvl : ∀ k, VP vb db cb v k → k < w.heap.size := fun k hk => by
    rcases Nat.lt_or_ge k w.heap.size with h1 | h1
    · exact h1
    · exact absurd hk (h.vol.notGe h1)
  have hvp : ∀ k, VP vb db cb v k → ¬ P k := fun k hk hp => (hn k (hvl k hk) hp).2 hk
  refine ⟨vol_fs h.vol hf hP hvp, (hf.cell hfl hfp).trans h.c0, (hf.cell hfl hfp).trans h.c1, (hf.frozen hfl hfp).trans h.fz, h.lo, h.nfb, h.sr.fs hf (fun k o n c e => ⟨(h.blk k o n c e).1, hb k o n c e⟩), fun k o n c e => ⟨Nat.lt_of_lt_of_le (h.blk k o n c e).1 hf.size, (h.blk k o n c e).2⟩, ⟨h.each.len, fun j f x hj hx => ?_⟩⟩
  obtain ⟨h1, h2, h3, h4⟩ := h.each.each j f x hj hx
  exact ⟨h1, h2, ints_fs h3 hf (fun k o e => ⟨(h4 k o e).1, he j x hx k o e⟩), fun k o e => ⟨Nat.lt_of_lt_of_le (h4 k o e).1 hf.size, (h4 k o e).2⟩⟩
theorem Fm.since (h : Fm w0 w fb vb db cb kb kt S v lv d l) (hs : Since w w') : Fm w0 w' fb vb db cb kb kt S v lv d l :=
  h.fs (P := fun _ => False) (Fs.of_since hs) (fun _ h => h.elim) (fun _ _ h => h.elim) (fun _ _ _ _ _ h => h) (fun _ _ _ _ _ _ h => h)
theorem Fm.vto {S' : Vs} (h : Fm w0 w fb vb db cb kb kt S v lv d l) (ht : Vto w0 w w' vb db cb kb kt S' v) : ∃ v', Fm w0 w' fb vb db cb kb kt S' v' lv d l ∧ Fs (VP vb db cb v) w w' ∧ ∀ k, k < w.heap.size → ¬ VP vb db cb v k → ¬ VP vb db cb v' k := by
  obtain ⟨v', hv, hf, hx⟩ := ht
  have hfl : fb < w.heap.size := World.block_lt_of_cell? w _ h.c0
  have hnx : ∀ k, k < w.heap.size → ¬ VP vb db cb v k → ¬ VP vb db cb v' k := fun k hk hn h' => by
    rcases VP.nx hx k h' with h1 | h1
    · exact hn h1
    · omega
  refine ⟨v', ⟨hv, (hf.cell hfl h.nfb).trans h.c0, (hf.cell hfl h.nfb).trans h.c1, (hf.frozen hfl h.nfb).trans h.fz, h.lo, hnx fb hfl h.nfb, h.sr.fs hf (fun k o n c e => ⟨(h.blk k o n c e).1, fun hp => (h.blk k o n c e).2 (.inr hp)⟩), fun k o n c e => ⟨Nat.lt_of_lt_of_le (h.blk k o n c e).1 hf.size, ?_⟩, ⟨h.each.len, fun j f x hj hx => ?_⟩⟩, hf, hnx⟩
  · obtain ⟨h1, h2⟩ := h.blk k o n c e
    exact fun hp => hp.elim (fun e => h2 (.inl e)) (hnx k h1 (fun h' => h2 (.inr h')))
  · obtain ⟨h1, h2, h3, h4⟩ := h.each.each j f x hj hx
    exact ⟨h1, h2, ints_fs h3 hf (fun k o e => ⟨(h4 k o e).1, fun hp => (h4 k o e).2 (.inr hp)⟩), fun k o e => ⟨Nat.lt_of_lt_of_le (h4 k o e).1 hf.size, fun hp => hp.elim (fun e' => (h4 k o e).2 (.inl e')) (hnx k (h4 k o e).1 (fun h' => (h4 k o e).2 (.inr h')))⟩⟩
end
end Fl
end Go.Proofs.YtlgocfgnfdnloaaGreatDoor
end
section
namespace Go.Proofs.YtlgocfgnfdnloaaGreatDoor
set_option maxRecDepth 100000
namespace Fl
open Go.RowKit Go.Sort Go.Shelf
open En (Fi Fls Ints fval Row)
open Vl
theorem fcells_at (d : List Fv) (t : Nat) (ht : t < d.length * 3) : (fcells d)[t]? = some ((encF d.toArray[t / 3]!)[t % 3]!) := by
  have hj : t / 3 < d.length := by omega
  have hx : d[t / 3]? = some d[t / 3] := List.getElem?_eq_getElem hj
  have ea : d.toArray[t / 3]! = d[t / 3] := by rw [getElem!_pos d.toArray (t / 3) (by simpa using hj)]; simp
  rw [ea]
  generalize d[t / 3] = x at *
  obtain ⟨e0, e1, e2⟩ := fcells_get d (t / 3) x hx
  have h3 : t % 3 = 0 ∨ t % 3 = 1 ∨ t % 3 = 2 := by omega
  rcases h3 with h | h | h
  · rw [show (fcells d)[t]? = (fcells d)[t / 3 * 3]? by congr 1; omega, e0, h]
    rfl
  · rw [show (fcells d)[t]? = (fcells d)[t / 3 * 3 + 1]? by congr 1; omega, e1, h]
    rfl
  · rw [show (fcells d)[t]? = (fcells d)[t / 3 * 3 + 2]? by congr 1; omega, e2, h]
    rfl
theorem own_holds {w : World} {base g cap : Nat} {d : List Fv} (ho : w.ownsRow base 153 3 (.slice (some ⟨g, 0, none⟩) d.length cap) d.length (fcells d)) : HoldsK encF 3 w g 0 d.toArray := by
  intro t ht
  rw [size_flatK] at ht
  have ht' : t < d.length * 3 := by simpa using ht
  rw [get_flatK _ _ _ _ ht, Nat.zero_add]
  exact ⟨(ho.cellAt t ht').trans (fcells_at d t ht'), ho.frozenAt t⟩
theorem holds_sr {w : World} {g cap : Nat} {d : Array Fv} (h : HoldsK encF 3 w g 0 d) (hc : d.size ≤ cap) : Sr w (.slice (some ⟨g, 0, none⟩) d.size cap) d.toList := by
  refine .inr ⟨g, 0, cap, by rw [Array.length_toList], by rw [Array.length_toList]; exact hc, fun j u hj => ?_⟩
  have hjl : j < d.toList.length * 3 := by rw [← fcells_len]; exact (List.getElem?_eq_some_iff.1 hj).1
  have hjs : j < d.size * 3 := by simpa using hjl
  have h1 := (h j (by rw [size_flatK]; exact hjs)).1
  rw [get_flatK _ _ _ _ hjs] at h1
  rw [fcells_at d.toList j hjl] at hj
  rw [h1, ← hj]
  rfl
theorem Each.sfls {P : Nat → Prop} {w : World} {d : List Fv} {l : List Fi} {g cap : Nat} (h : Each P w d l) (ho : Sr w (.slice (some ⟨g, 0, none⟩) d.length cap) d) (hg : g < w.heap.size) : Fls w (.slice (some ⟨g, 0, none⟩) d.length cap) l := by
  rcases ho with ⟨_, c, hv⟩ | ⟨k, o, c, hv, hc, hcell⟩
  · simp at hv
  · simp only [Value.slice.injEq, Option.some.injEq, Addr.mk.injEq, and_true, true_and] at hv
    obtain ⟨⟨rfl, rfl⟩, rfl⟩ := hv
    refine ⟨some ⟨g, 0, none⟩, cap, by rw [h.len], by rw [h.len]; exact hc, fun _ => ⟨g, 0, rfl, hg, fun j f hj => ?_⟩⟩
    have hjl : j < d.length := by rw [← h.len]; exact (List.getElem?_eq_some_iff.1 hj).1
    obtain ⟨h1, h2, h3, h4⟩ := h.each j f d[j] hj (List.getElem?_eq_getElem hjl)
    obtain ⟨e0, e1, e2⟩ := fcells_get d j d[j] (List.getElem?_eq_getElem hjl)
    refine ⟨_, h3, ?_, ?_, ?_⟩
    · rw [hcell _ _ e0, h1]
    · rw [Nat.add_assoc, hcell _ _ e1, h2]
    · rw [Nat.add_assoc, hcell _ _ e2]
theorem fs_wider {S S' : Nat → Prop} {w w' : World} (h : Fs S w w') (hs : ∀ k, S k → S' k) : Fs S' w w' := ⟨h.os, h.tape, h.output, h.size, fun k hk hn => h.block k hk (fun e => hn (hs k e))⟩
theorem Each.wider {P P' : Nat → Prop} {w : World} {d : List Fv} {l : List Fi} (h : Each P w d l) (hp : ∀ k, k < w.heap.size → P' k → P k) : Each P' w d l :=
  ⟨h.len, fun j f x hj hx => by
    obtain ⟨h1, h2, h3, h4⟩ := h.each j f x hj hx
    exact ⟨h1, h2, h3, fun k o e => ⟨(h4 k o e).1, fun hk => (h4 k o e).2 (hp k (h4 k o e).1 hk)⟩⟩⟩
section
variable {w0 w w' : World} {fb vb db cb : Nat} {kb kt : ByteArray} {S : Vs} {v lv : Value} {d d0 : List Fv} {l l0 : List Fi}
theorem Fm.store {g cap : Nat} {d' : List Fv} {l' : List Fi} (h : Fm w0 w fb vb db cb kb kt S v lv d l) (hs : Sr w (.slice (some ⟨g, 0, none⟩) d'.length cap) d') (hg : g < w.heap.size ∧ ¬ (g = fb ∨ VP vb db cb v g)) (he : Each (fun k => k = fb ∨ VP vb db cb v k) w d' l') :
    Fm w0 (w.setCell ⟨fb, 1, none⟩ (.slice (some ⟨g, 0, none⟩) d'.length cap)) fb vb db cb kb kt S v (.slice (some ⟨g, 0, none⟩) d'.length cap) d' l' ∧ Fs (fun k => k = fb) w (w.setCell ⟨fb, 1, none⟩ (.slice (some ⟨g, 0, none⟩) d'.length cap)) := by
  have hf : Fs (fun k => k = fb) w (w.setCell ⟨fb, 1, none⟩ (.slice (some ⟨g, 0, none⟩) d'.length cap)) := ⟨rfl, rfl, rfl, by simp, fun k _ hk => heap_setCell_other w ⟨fb, 1, none⟩ k _ (fun e => hk e)⟩
  refine ⟨⟨vol_fs h.vol hf (fun k hk => by subst hk; exact h.lo) (fun k hk e => by subst e; exact h.nfb hk), (World.cell?_setCell_other _ _ _ _ (by simp)).trans h.c0, World.cell?_setCell_same _ _ _ h.c1, by rw [World.frozen?_setCell]; exact h.fz, h.lo, h.nfb, hs.fs hf (fun k o n c e => ?_), fun k o n c e => ?_, he.fs (fs_wider hf (fun k e => .inl e)) (fun _ _ h => h)⟩, hf⟩
  · simp only [Value.slice.injEq, Option.some.injEq, Addr.mk.injEq, and_true, true_and] at e
    obtain ⟨⟨rfl, _⟩, _⟩ := e
    exact ⟨hg.1, fun e => hg.2 (.inl e)⟩
  · simp only [Value.slice.injEq, Option.some.injEq, Addr.mk.injEq, and_true, true_and] at e
    obtain ⟨⟨rfl, _⟩, _⟩ := e
    exact ⟨by simpa using hg.1, hg.2⟩
end
end Fl
end Go.Proofs.YtlgocfgnfdnloaaGreatDoor
end
section
namespace Go.Proofs.YtlgocfgnfdnloaaGreatDoor
set_option maxRecDepth 100000
namespace Fl
open Go.RowKit Go.Sort Go.Shelf
open En (Fi Fls Ints fval Row)
open Vl
section
variable {w0 w w' : World} {fb vb db cb : Nat} {kb kt : ByteArray} {S : Vs} {v lv : Value} {d d0 : List Fv} {l l0 : List Fi}
def Nl (w : World) (lv : Value) (d : List Fv) (lv' : Value) (d' : List Fv) : Prop :=
  (∀ k o n c, lv' = .slice (some ⟨k, o, none⟩) n c → w.heap.size ≤ k ∨ ∃ o' n' c', lv = .slice (some ⟨k, o', none⟩) n' c') ∧ (∀ x ∈ d', ∀ k o, x.2.2.1 = some ⟨k, o, none⟩ → w.heap.size ≤ k ∨ ∃ y ∈ d, ∃ o', y.2.2.1 = some ⟨k, o', none⟩)
def dirW (kb kt : ByteArray) (l : List Fi) (S : Vs) : Int × Vs := wrF kb kt [0, 1, 2] ⟨(En.print l).toArray⟩ S
set_option maxHeartbeats 8000000 in
theorem become_any (B : Base w0 kb kt) (LB : En.Lb w0) (n : Int) (ho : S.ok n) (hn : n + 1000 < 900000000) (h : Fm w0 w fb vb db cb kb kt S v lv d0 l0)
    {g cap base : Nat} (own : w.ownsRow base 153 3 (.slice (some ⟨g, 0, none⟩) d.length cap) d.length (fcells d)) (hg0 : w0.heap.size ≤ g) (hgf : g ≠ fb) (hgv : ¬ VP vb db cb v g)
    (hgl : ∀ k o n c, lv = .slice (some ⟨k, o, none⟩) n c → k ≠ g) (hge : ∀ (j : Nat) (x : Fv), d0[j]? = some x → ∀ k o, x.2.2.1 = some ⟨k, o, none⟩ → k ≠ g)
    (he : Each (fun k => k = g ∨ k = fb ∨ VP vb db cb v k) w d l) (h12 : d.length ≤ 12) (hz : En.Sized l) (hr : ∀ l', l.Perm l' → Rise l' → En.right l' = true) :
    Calls Tryz.prog 66 #[.pointer (some ⟨fb, 0, none⟩), .slice (some ⟨g, 0, none⟩) d.length cap] w fun e w' => ∃ d' l' v', l.Perm l' ∧ Rise l' ∧ e = .returned (ev (dirW kb kt l' S).1) ∧ (dirW kb kt l' S).2.ok (n + 3) ∧
      ((dirW kb kt l' S).1 = 0 → Fm w0 w' fb vb db cb kb kt (dirW kb kt l' S).2 v' (.slice (some ⟨g, 0, none⟩) d.length cap) d' l') ∧ ((dirW kb kt l' S).1 ≠ 0 → Fm w0 w' fb vb db cb kb kt (dirW kb kt l' S).2 v' lv d0 l0) ∧ Fs (fun k => k = g ∨ k = fb ∨ VP vb db cb v k) w w' ∧ (∀ k, k < w.heap.size → ¬ VP vb db cb v k → ¬ VP vb db cb v' k) ∧ d'.Perm d := by
  have hgw : g < w.heap.size := (own.lt g rfl).2
  have hcap : d.length ≤ cap := by
    rcases own.2 with ⟨h', _⟩ | ⟨g', cap', cur, h', _, _, hnc, _⟩
    · simp at h'
    · simp only [Value.slice.injEq, Option.some.injEq, Addr.mk.injEq, and_true, true_and] at h'
      obtain ⟨_, rfl⟩ := h'
      exact hnc
  have hso := sortF_any g 0 cap d.toArray w (own_holds own) hgw (by simpa using h12)
  have hso2 : Calls Tryz.prog 130 #[.slice (some ⟨g, 0, none⟩) d.length cap, .func (.func 131) #[] #[]] w fun e w' => e = .returned (.tuple #[]) ∧ ∃ d' : Array Fv, d'.size = d.length ∧ d'.toList.Perm d ∧ SortedIn (ltOf cfF) 0 d.length d' ∧ HoldsK encF 3 w' g 0 d' ∧ Fs (fun k => k = g) w w' := by
    simpa using hso
  have HSO : Hid (Calls Tryz.prog 130 #[.slice (some ⟨g, 0, none⟩) d.length cap, .func (.func 131) #[] #[]] w fun e w' => e = .returned (.tuple #[]) ∧ ∃ d' : Array Fv, d'.size = d.length ∧ d'.toList.Perm d ∧ SortedIn (ltOf cfF) 0 d.length d' ∧ HoldsK encF 3 w' g 0 d' ∧ Fs (fun k => k = g) w w') := hso2
  clear hso2
  have HF : Hid (Fm w0 w fb vb db cb kb kt S v lv d0 l0) := h
  have HE : Hid (Each (fun k => k = g ∨ k = fb ∨ VP vb db cb v k) w d l) := he
  have HG : Hid ((w0.heap.size ≤ g ∧ g ≠ fb ∧ ¬ VP vb db cb v g) ∧ (∀ k o n c, lv = .slice (some ⟨k, o, none⟩) n c → k ≠ g) ∧ (∀ (j : Nat) (x : Fv), d0[j]? = some x → ∀ k o, x.2.2.1 = some ⟨k, o, none⟩ → k ≠ g) ∧ g < w.heap.size ∧ d.length ≤ cap) := ⟨⟨hg0, hgf, hgv⟩, hgl, hge, hgw, hcap⟩
  have HR : Hid ((∀ l', l.Perm l' → Rise l' → En.right l' = true) ∧ En.Sized l) := ⟨hr, hz⟩
  have HO : Hid (S.ok n ∧ n + 1000 < 900000000) := ⟨ho, hn⟩
  clear hso h he own hg0 hgf hgv hgl hge hr hz ho hn h12 hgw hcap
  go_enter Tryz.func66, Tryz.ntmps66
  go_wp2_with fail
  refine HSO.out.mono ?_
  rintro e w1 ⟨rfl, da, hsz, hp, hst, hH, hf⟩
  have hF1 : Fm w0 w1 fb vb db cb kb kt S v lv d0 l0 := HF.out.fs hf (fun k e => by subst e; exact HG.out.1.1) (fun k _ e => by subst e; exact HG.out.1.2) HG.out.2.1 HG.out.2.2.1
  have hg1 : g < w1.heap.size := Nat.lt_of_lt_of_le HG.out.2.2.2.1 hf.size
  obtain ⟨l', hpl, he1⟩ := (HE.out.fs (P' := fun k => k = g ∨ k = fb ∨ VP vb db cb v k) (fs_wider hf (fun k e => .inl e)) (fun _ _ h => h)).perm hp.symm
  have hrise : Rise l' := rise_of (by rw [hsz]; exact hst) he1
  have hsr := holds_sr hH (cap := cap) (by rw [hsz]; exact HG.out.2.2.2.2)
  have hdl : da.toList.length = d.length := by rw [Array.length_toList]; exact hsz
  rw [hsz] at hsr
  have hfls : Fls w1 (.slice (some ⟨g, 0, none⟩) d.length cap) l' := by
    have := he1.sfls (g := g) (cap := cap) (by rw [hdl]; exact hsr) hg1
    rw [hdl] at this
    exact this
  have hsized : En.Sized l' := fun f hf => HR.out.2 f (hpl.mem_iff.2 hf)
  have HPR : Hid (Calls Tryz.prog 125 #[.slice (some ⟨g, 0, none⟩) d.length cap] w1 fun e w' => e = .returned (.tuple #[.string ⟨(En.print l').toArray⟩, .nilIface]) ∧ Since w1 w') := En.print_yes l' _ w1 hfls hsized (LB.since hF1.vol.since) (HR.out.1 l' hpl hrise)
  have H1 : Hid (Fm w0 w1 fb vb db cb kb kt S v lv d0 l0 ∧ Each (fun k => k = g ∨ k = fb ∨ VP vb db cb v k) w1 da.toList l' ∧ Sr w1 (.slice (some ⟨g, 0, none⟩) d.length cap) da.toList ∧ da.toList.length = d.length ∧ (l.Perm l' ∧ Rise l') ∧ Fs (fun k => k = g) w w1 ∧ g < w1.heap.size) := ⟨hF1, he1, hsr, hdl, ⟨hpl, hrise⟩, hf, hg1⟩
  have HPD : Hid (da.toList.Perm d) := hp
  clear hF1 he1 hsr hdl hpl hrise hf hg1 hfls hsized hH hst hp hsz
  go_wp2_with fail
  refine HPR.out.mono ?_
  rintro e w2 ⟨rfl, hs2⟩
  have HS2 : Hid (Since w1 w2) := hs2
  clear hs2
  go_wp2_with fail
  refine (directory_any w2).mono ?_
  rintro e w3 ⟨rfl, ho3, hs3⟩
  have hs13 := HS2.out.trans hs3
  have hF3 := H1.out.1.since hs13
  have hints : Ints w3 (.slice (some ⟨w2.heap.size, 0, none⟩) 3 3) [0, 1, 2] := by
    refine ⟨_, 3, rfl, Nat.le_refl _, fun _ => ⟨w2.heap.size, 0, rfl, (ho3.lt _ rfl).2, fun j x hj => ?_⟩⟩
    rw [Nat.zero_add, ho3.cellAt j (by have := (List.getElem?_eq_some_iff.1 hj).1; simpa using this)]
    match j, hj with
    | 0, hj => simp at hj; subst hj; rfl
    | 1, hj => simp at hj; subst hj; rfl
    | 2, hj => simp at hj; subst hj; rfl
    | j + 3, hj => simp at hj
  have hnv : ¬ VP vb db cb v w2.heap.size := (H1.out.1.vol.go HS2.out).notGe (Nat.le_refl _)
  have HW : Hid (Calls Tryz.prog 65 #[.pointer (some ⟨fb, 0, none⟩), .slice (some ⟨w2.heap.size, 0, none⟩) 3 3, .string ⟨(En.print l').toArray⟩] w3 fun e w' => e = .returned (ev (dirW kb kt l' S).1) ∧ Vto w0 w3 w' vb db cb kb kt (dirW kb kt l' S).2 v ∧ (dirW kb kt l' S).2.ok (n + 3)) :=
    fwrite_any B n HO.out.1 HO.out.2 hF3.vol hF3.c0 hF3.nfb [0, 1, 2] _ hints (fun k o m c e => by simp at e; rw [← e.1.1]; exact hnv) (by simp) _
  have H3 : Hid (Fm w0 w3 fb vb db cb kb kt S v lv d0 l0 ∧ Since w1 w3) := ⟨hF3, hs13⟩
  clear hs13 hF3 hints hnv ho3 hs3
  obtain ⟨R, hR⟩ : ∃ R, dirW kb kt l' S = R := ⟨_, rfl⟩
  obtain ⟨rn, S'⟩ := R
  rw [hR] at HW
  have HRR : Hid (dirW kb kt l' S = (rn, S')) := hR
  clear hR
  go_wp2_with fail
  refine HW.out.mono ?_
  rintro e w4 ⟨rfl, hvt, hok⟩
  obtain ⟨v', hF4, hf4, hnx⟩ := H3.out.1.vto hvt
  have hsz3 : w.heap.size ≤ w3.heap.size := Nat.le_trans H1.out.2.2.2.2.2.1.size H3.out.2.size
  have hnx2 : ∀ k, k < w.heap.size → ¬ VP vb db cb v k → ¬ VP vb db cb v' k := fun k hk => hnx k (by omega)
  have hfw : Fs (fun k => k = g ∨ k = fb ∨ VP vb db cb v k) w w4 := ((fs_wider H1.out.2.2.2.2.2.1 (fun k e => .inl e)).trans (Fs.of_since H3.out.2)).trans (fs_wider hf4 (fun k e => .inr (.inr e)))
  have hg3 : g < w3.heap.size := Nat.lt_of_lt_of_le H1.out.2.2.2.2.2.2 H3.out.2.size
  have hsr4 : Sr w4 (.slice (some ⟨g, 0, none⟩) d.length cap) da.toList := (H1.out.2.2.1.fs (P := fun _ => False) (Fs.of_since H3.out.2) (fun k o n c e => by simp at e; rw [← e.1.1]; exact ⟨H1.out.2.2.2.2.2.2, fun h => h⟩)).fs hf4 (fun k o n c e => by simp at e; rw [← e.1.1]; exact ⟨hg3, HG.out.1.2.2⟩)
  have he4 : Each (fun k => k = fb ∨ VP vb db cb v' k) w4 da.toList l' := (H1.out.2.1.since H3.out.2).fs (fs_wider hf4 (fun k e => .inr (.inr e))) (fun k hk hn h' => h'.elim (fun e => hn (.inr (.inl e))) (hnx k hk (fun hv => hn (.inr (.inr hv)))))
  have hg4 : g < w4.heap.size ∧ ¬ (g = fb ∨ VP vb db cb v' g) := ⟨Nat.lt_of_lt_of_le hg3 hf4.size, fun h' => h'.elim (fun e => HG.out.1.2.1 e) (hnx g hg3 HG.out.1.2.2)⟩
  have H4 : Hid (Fm w0 w4 fb vb db cb kb kt S' v' lv d0 l0 ∧ S'.ok (n + 3) ∧ Fs (fun k => k = g ∨ k = fb ∨ VP vb db cb v k) w w4 ∧ (∀ k, k < w.heap.size → ¬ VP vb db cb v k → ¬ VP vb db cb v' k)) := ⟨hF4, hok, hfw, hnx2⟩
  have hdl := H1.out.2.2.2.1
  have hstore := hF4.store (g := g) (cap := cap) (d' := da.toList) (l' := l') (by rw [hdl]; exact hsr4) hg4 he4
  rw [hdl] at hstore
  have H5 : Hid (Fm w0 (w4.setCell ⟨fb, 1, none⟩ (.slice (some ⟨g, 0, none⟩) d.length cap)) fb vb db cb kb kt S' v' (.slice (some ⟨g, 0, none⟩) d.length cap) da.toList l' ∧ Fs (fun k => k = fb) w4 (w4.setCell ⟨fb, 1, none⟩ (.slice (some ⟨g, 0, none⟩) d.length cap))) := hstore
  have p1 := hF4.c1
  have p2 := hF4.fz
  clear hvt hok hf4 hnx hsz3 hnx2 hfw hg3 hsr4 he4 hg4 hdl hstore hF4
  by_cases e0 : rn = 0
  · subst e0
    rw [ev_zero]
    go_wp2_with fail
    go_ret
    refine ⟨da.toList, l', v', H1.out.2.2.2.2.1.1, H1.out.2.2.2.2.1.2, by rw [HRR.out]; rfl, by rw [HRR.out]; exact H4.out.2.1, fun _ => by rw [HRR.out]; exact H5.out.1, fun hne => absurd (by rw [HRR.out]) hne, H4.out.2.2.1.trans (fs_wider H5.out.2 (fun k e => .inr (.inl e))), H4.out.2.2.2, HPD.out⟩
  · have hev := ev_ne e0
    have HE0 : Hid (¬ rn = 0) := e0
    have HEV : Hid (ev rn = .iface 32 (.int .i64 rn)) := hev
    rw [hev]
    clear e0 hev
    go_wp2_with fail
    go_ret
    refine ⟨da.toList, l', v', H1.out.2.2.2.2.1.1, H1.out.2.2.2.2.1.2, by rw [HRR.out, HEV.out]; rfl, by rw [HRR.out]; exact H4.out.2.1, fun h0 => absurd (by rw [HRR.out] at h0; exact h0) HE0.out, fun _ => by rw [HRR.out]; exact H4.out.1, H4.out.2.2.1, H4.out.2.2.2, HPD.out⟩
end
end Fl
end Go.Proofs.YtlgocfgnfdnloaaGreatDoor
end
section
namespace Go.Proofs.YtlgocfgnfdnloaaGreatDoor
set_option maxRecDepth 100000
namespace Fl
open En (Fi gtB nameB filled takeB takeB_iff rightFrom right allC freeL need)
def Gd (f : Fi) : Prop := nameB f.nm.data.toList = true ∧ filled f = true
theorem gt_iff (a b : ByteArray) : gtB a b = true ↔ b.toList < a.toList := by
  unfold gtB
  rw [bytesLess_eq, Bool.not_eq_true', Bool.or_eq_false_iff, decide_eq_false_iff_not]
  constructor
  · rintro ⟨h1, h2⟩
    by_cases h : b.toList < a.toList
    · exact h
    · exact absurd (List.le_antisymm (List.not_lt.1 h) (List.not_lt.1 h1)) (by simpa using h2)
  · intro h
    refine ⟨fun h' => List.lt_irrefl _ (List.lt_trans h h'), ?_⟩
    have : a.toList ≠ b.toList := fun e => by rw [e] at h; exact List.lt_irrefl _ h
    simpa using this
theorem gt_trans {a b c : ByteArray} (h1 : gtB a b = true) (h2 : gtB b c = true) : gtB a c = true := (gt_iff a c).2 (List.lt_trans ((gt_iff b c).1 h2) ((gt_iff a b).1 h1))
theorem gt_none {f : Fi} (h : Gd f) : gtB f.nm ⟨#[]⟩ = true := by
  refine (gt_iff _ _).2 ?_
  have h1 := h.1
  rw [Lib.toList_data, Lib.toList_data]
  cases e : f.nm.data.toList with
  | nil => rw [e] at h1; cases h1
  | cons c r => exact List.Lex.nil
theorem rightFrom_iff : ∀ (l : List Fi) (b : ByteArray) (L : List Int), rightFrom b L l = true ↔ (∀ f ∈ l, gtB f.nm b = true) ∧ (∀ f ∈ l, Gd f) ∧ l.Pairwise (fun f g => gtB g.nm f.nm = true) ∧ (∀ c ∈ allC l, 3 ≤ c ∧ c < 24) ∧ (allC l).Nodup ∧ ∀ c ∈ allC l, c ∉ L
  | [], b, L => by simp [rightFrom, allC]
  | f :: r, b, L => by
    have ih := rightFrom_iff r f.nm (L ++ f.cs)
    have e : allC (f :: r) = f.cs ++ allC r := by simp [allC]
    rw [rightFrom, Bool.and_eq_true, Bool.and_eq_true, Bool.and_eq_true, Bool.and_eq_true, ih, takeB_iff, e]
    constructor
    · rintro ⟨⟨⟨⟨h1, h2⟩, h3⟩, h4, h5, h6⟩, g1, g2, g3, g4, g5, g6⟩
      refine ⟨fun x hx => ?_, fun x hx => ?_, List.pairwise_cons.2 ⟨g1, g3⟩, fun c hc => ?_, ?_, fun c hc => ?_⟩
      · rcases List.mem_cons.1 hx with rfl | hx
        · exact h1
        · exact gt_trans (g1 x hx) h1
      · rcases List.mem_cons.1 hx with rfl | hx
        · exact ⟨h2, h3⟩
        · exact g2 x hx
      · exact (List.mem_append.1 hc).elim (h4 c) (g4 c)
      · rw [List.nodup_append]
        exact ⟨h5, g5, fun x hx y hy e => by subst e; exact g6 x hy (by simp [hx])⟩
      · exact (List.mem_append.1 hc).elim (h6 c) (fun h hl => g6 c h (by simp [hl]))
    · rintro ⟨h1, h2, h3, h4, h5, h6⟩
      obtain ⟨h31, h32⟩ := List.pairwise_cons.1 h3
      obtain ⟨h51, h52, h53⟩ := List.nodup_append.1 h5
      refine ⟨⟨⟨⟨h1 f (by simp), (h2 f (by simp)).1⟩, (h2 f (by simp)).2⟩, fun c hc => h4 c (by simp [hc]), h51, fun c hc => h6 c (by simp [hc])⟩, h31, fun x hx => h2 x (by simp [hx]), h32, fun c hc => h4 c (by simp [hc]), h52, fun c hc hl => ?_⟩
      rcases List.mem_append.1 hl with hl | hl
      · exact h6 c (by simp [hc]) hl
      · exact h53 c hl c hc rfl
structure Fit (l : List Fi) : Prop where
  len : l.length ≤ 8
  good : ∀ f ∈ l, Gd f
  names : l.Pairwise (fun f g => f.nm ≠ g.nm)
  cells : ∀ c ∈ allC l, 3 ≤ c ∧ c < 24
  once : (allC l).Nodup
theorem right_iff (l : List Fi) : right l = true ↔ Fit l ∧ l.Pairwise (fun f g => gtB g.nm f.nm = true) := by
  rw [right, Bool.and_eq_true, decide_eq_true_eq, rightFrom_iff]
  constructor
  · rintro ⟨h0, h1, h2, h3, h4, h5, h6⟩
    exact ⟨⟨h0, h2, h3.imp (fun {f g} h e => by rw [e] at h; exact List.lt_irrefl _ ((gt_iff _ _).1 h)), h4, h5⟩, h3⟩
  · rintro ⟨h, h3⟩
    exact ⟨h.len, fun f hf => gt_none (h.good f hf), h.good, h3, h.cells, h.once, fun c hc => by simp⟩
theorem allC_perm {l l' : List Fi} (h : l.Perm l') : (allC l).Perm (allC l') := (h.map Fi.cs).flatten
theorem Fit.perm {l l' : List Fi} (h : Fit l) (hp : l.Perm l') : Fit l' :=
  ⟨by rw [← hp.length_eq]; exact h.len, fun f hf => h.good f (hp.mem_iff.2 hf), hp.pairwise h.names (fun {a b} e => Ne.symm e), fun c hc => h.cells c ((allC_perm hp).mem_iff.2 hc), (allC_perm hp).nodup_iff.1 h.once⟩
theorem Fit.right {l l' : List Fi} (h : Fit l) (hp : l.Perm l') (hr : Rise l') : right l' = true := by
  have h' := h.perm hp
  refine (right_iff l').2 ⟨h', (h'.names.and hr).imp (fun {f g} hh => (gt_iff _ _).2 ?_)⟩
  obtain ⟨hne, hb⟩ := hh
  rw [bytesLess_eq, decide_eq_false_iff_not] at hb
  by_cases hlt : f.nm.toList < g.nm.toList
  · exact hlt
  · have := List.le_antisymm (List.not_lt.1 hb) (List.not_lt.1 hlt)
    rw [Lib.toList_data, Lib.toList_data] at this
    exact absurd (ByteArray.ext (Array.toList_inj.1 this)) hne
theorem flat_sub {a b : List (List Int)} (h : a.Sublist b) : a.flatten.Sublist b.flatten := by
  induction h with
  | slnil => exact List.Sublist.refl _
  | cons x _ ih => rw [List.flatten_cons]; exact ih.trans (List.sublist_append_right _ _)
  | cons_cons x _ ih => rw [List.flatten_cons, List.flatten_cons]; exact (List.Sublist.refl x).append ih
theorem Fit.filter {l : List Fi} (h : Fit l) (p : Fi → Bool) : Fit (l.filter p) := by
  have hs : (l.filter p).Sublist l := List.filter_sublist
  have hc : (allC (l.filter p)).Sublist (allC l) := flat_sub (hs.map Fi.cs)
  exact ⟨Nat.le_trans hs.length_le h.len, fun f hf => h.good f (hs.subset hf), h.names.sublist hs, fun c hc' => h.cells c (hc.subset hc'), h.once.sublist hc⟩
theorem Fit.uniq {l l1 l2 : List Fi} (h : Fit l) (h1 : l.Perm l1) (h2 : l.Perm l2) (r1 : Rise l1) (r2 : Rise l2) : l1 = l2 := by
  refine List.Perm.eq_of_pairwise (le := fun (f g : Fi) => Op.bytesLess g.nm.toList f.nm.toList = false) ?_ r1 r2 (h1.symm.trans h2)
  intro a b ha hb e1 e2
  have ha' := h1.mem_iff.2 ha
  have hb' := h2.mem_iff.2 hb
  rw [bytesLess_eq, decide_eq_false_iff_not] at e1 e2
  have e := List.le_antisymm (List.not_lt.1 e1) (List.not_lt.1 e2)
  rw [Lib.toList_data, Lib.toList_data] at e
  have en : a.nm = b.nm := ByteArray.ext (Array.toList_inj.1 e)
  obtain ⟨i, hi, rfl⟩ := List.getElem_of_mem ha'
  obtain ⟨j, hj, rfl⟩ := List.getElem_of_mem hb'
  have hpw := List.pairwise_iff_getElem.1 h.names
  rcases Nat.lt_trichotomy i j with hlt | rfl | hlt
  · exact absurd en (hpw i j hi hj hlt)
  · rfl
  · exact absurd en.symm (hpw j i hj hi hlt)
end Fl
end Go.Proofs.YtlgocfgnfdnloaaGreatDoor
end
