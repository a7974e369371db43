import Derived.Deep.AppendLies
import Derived.Test.YtlgocfgnfdnloaaGreatDoorJ09
import Derived.Test.YtlgocfgnfdnloaaGreatDoorJ34
import Derived.Test.YtlgocfgnfdnloaaGreatDoorJ35
import Derived.Test.YtlgocfgnfdnloaaGreatDoorJ46
set_option linter.unusedSimpArgs false
set_option linter.unusedVariables false
section
namespace Go.Proofs.YtlgocfgnfdnloaaGreatDoor
set_option maxRecDepth 100000
namespace Fl
open En (Fi freeL allC need nameB filled)
open Vl
def wrX : List Int → ByteArray → (Nat → ByteArray) → (Nat → ByteArray)
  | [], _, X => X
  | c :: r, t, X => wrX r (t.extract (min t.size 80) t.size) (updX X c.toNat (t.extract 0 (min t.size 80)))
theorem wrX_ne : ∀ (cs : List Int) (t : ByteArray) (X : Nat → ByteArray) (k : Nat), (∀ c ∈ cs, c.toNat ≠ k) → wrX cs t X k = X k
  | [], _, _, _, _ => rfl
  | c :: r, t, X, k, h => by
    rw [wrX, wrX_ne r _ _ k (fun c' hc => h c' (List.mem_cons_of_mem _ hc))]
    unfold updX
    rw [if_neg (fun e => h c List.mem_cons_self e.symm)]
theorem catL_cons (X : Nat → ByteArray) (c : Int) (r : List Int) : catL X (c :: r) = (X c.toNat).data.toList ++ catL X r := rfl
theorem catL_congr {X Y : Nat → ByteArray} : ∀ {cs : List Int}, (∀ c ∈ cs, X c.toNat = Y c.toNat) → catL X cs = catL Y cs
  | [], _ => rfl
  | c :: r, h => by rw [catL_cons, catL_cons, h c List.mem_cons_self, catL_congr (fun c' hc => h c' (List.mem_cons_of_mem _ hc))]
theorem catL_wr_ne (cs' cs : List Int) (t : ByteArray) (X : Nat → ByteArray) (h : ∀ c ∈ cs, ∀ c' ∈ cs', c.toNat ≠ c'.toNat) : catL (wrX cs t X) cs' = catL X cs' :=
  catL_congr (fun c' hc' => wrX_ne cs t X _ (fun c hc => h c hc c' hc'))
theorem ext_split (t : ByteArray) (m : Nat) (_h : m ≤ t.size) : (t.extract 0 m).data.toList ++ (t.extract m t.size).data.toList = t.data.toList := by
  have hs : t.data.toList.length = t.size := by rw [Array.length_toList]; rfl
  simp only [ByteArray.data_extract, Array.toList_extract, List.extract_eq_take_drop, List.drop_zero, Nat.sub_zero]
  rw [List.take_of_length_le (l := t.data.toList.drop m) (by rw [List.length_drop, hs]; exact Nat.le_refl _)]
  exact List.take_append_drop m _
theorem catL_wr : ∀ (cs : List Int) (t : ByteArray) (X : Nat → ByteArray), cs.Pairwise (fun a b => a.toNat ≠ b.toNat) → t.size ≤ 80 * cs.length → catL (wrX cs t X) cs = t.data.toList
  | [], t, X, _, h => by
    have h0 : t.data.toList.length = 0 := by
      have hs : t.data.toList.length = t.size := by rw [Array.length_toList]; rfl
      rw [hs]
      simpa using h
    rw [List.length_eq_zero_iff.1 h0]
    rfl
  | c :: r, t, X, hp, h => by
    rw [List.pairwise_cons] at hp
    rw [List.length_cons] at h
    have hsz : (t.extract (min t.size 80) t.size).size = t.size - min t.size 80 := by rw [ByteArray.size_extract]; omega
    rw [catL_cons, wrX, catL_wr r _ _ hp.2 (by rw [hsz]; omega), wrX_ne r _ _ c.toNat (fun c' hc => (hp.1 c' hc).symm)]
    unfold updX
    rw [if_pos rfl]
    exact ext_split t _ (by omega)
def txtOf (X : Nat → ByteArray) (l : List Fi) (s : ByteArray) : Option (List UInt8) := (l.find? (fun f => decide (f.nm = s))).map (fun f => catL X f.cs)
def Dif (l : List Fi) : Prop := l.Pairwise (fun f g => f.nm ≠ g.nm)
theorem find_of {l : List Fi} (hd : Dif l) {f : Fi} (hf : f ∈ l) : l.find? (fun g => decide (g.nm = f.nm)) = some f := by
  induction l with
  | nil => cases hf
  | cons g r ih =>
    unfold Dif at hd
    rw [List.pairwise_cons] at hd
    rcases List.mem_cons.1 hf with rfl | hf
    · rw [List.find?_cons_of_pos (by simp)]
    · rw [List.find?_cons_of_neg (by simpa using hd.1 f hf)]
      exact ih hd.2 hf
theorem find_none {l : List Fi} {s : ByteArray} (h : ∀ f ∈ l, f.nm ≠ s) : l.find? (fun g => decide (g.nm = s)) = none := by
  rw [List.find?_eq_none]
  intro f hf
  simpa using h f hf
theorem Dif.perm {l l' : List Fi} (h : Dif l) (hp : l.Perm l') : Dif l' := List.Perm.pairwise (R := fun (f g : Fi) => f.nm ≠ g.nm) hp h (fun {_ _} h => Ne.symm h)
theorem find_perm {l l' : List Fi} (hd : Dif l) (hp : l.Perm l') (s : ByteArray) : l.find? (fun g => decide (g.nm = s)) = l'.find? (fun g => decide (g.nm = s)) := by
  by_cases h : ∃ f ∈ l, f.nm = s
  · obtain ⟨f, hf, rfl⟩ := h
    rw [find_of hd hf, find_of (hd.perm hp) (hp.mem_iff.1 hf)]
  · have h' : ∀ f ∈ l, f.nm ≠ s := fun f hf e => h ⟨f, hf, e⟩
    rw [find_none h', find_none (fun f hf => h' f (hp.mem_iff.2 hf))]
theorem txtOf_perm {X : Nat → ByteArray} {l l' : List Fi} (hd : Dif l) (hp : l.Perm l') (s : ByteArray) : txtOf X l s = txtOf X l' s := by unfold txtOf; rw [find_perm hd hp]
theorem txtOf_congr {X Y : Nat → ByteArray} {l : List Fi} (h : ∀ f ∈ l, catL X f.cs = catL Y f.cs) (s : ByteArray) : txtOf X l s = txtOf Y l s := by
  unfold txtOf
  cases e : l.find? (fun f => decide (f.nm = s)) with
  | none => rfl
  | some f => exact congrArg some (h f (List.mem_of_find?_eq_some e))
theorem find_but (l : List Fi) (s u : ByteArray) (hu : u ≠ s) : (butL l s).find? (fun g => decide (g.nm = u)) = l.find? (fun g => decide (g.nm = u)) := by
  unfold butL
  rw [List.find?_filter]
  congr 1
  funext g
  by_cases h : g.nm = u
  · have : ¬ g.nm = s := fun e => hu (h.symm.trans e)
    simp [h, hu]
  · simp [h]
theorem txtOf_but (X : Nat → ByteArray) (l : List Fi) (s u : ByteArray) : txtOf X (butL l s) u = if u = s then none else txtOf X l u := by
  unfold txtOf
  by_cases hu : u = s
  · subst hu
    rw [if_pos rfl, find_none (fun f hf => by simpa [butL] using (List.mem_filter.1 hf).2)]
    rfl
  · rw [if_neg hu, find_but l s u hu]
theorem txtOf_put (X : Nat → ByteArray) (l : List Fi) (f : Fi) (u : ByteArray) : txtOf X (butL l f.nm ++ [f]) u = if u = f.nm then some (catL X f.cs) else txtOf X l u := by
  by_cases hu : u = f.nm
  · subst hu
    unfold txtOf
    rw [if_pos rfl, List.find?_append, find_none (fun g hg => by simpa [butL] using (List.mem_filter.1 hg).2)]
    simp
  · rw [if_neg hu]
    unfold txtOf
    rw [List.find?_append, find_but l f.nm u hu]
    have : ([f] : List Fi).find? (fun g => decide (g.nm = u)) = none := find_none (fun g hg => by
      rw [List.mem_singleton] at hg
      subst hg
      exact fun e => hu e.symm)
    rw [this, Option.or_none]
theorem txtOf_some {X : Nat → ByteArray} {l : List Fi} {s : ByteArray} : (txtOf X l s ≠ none) ↔ s ∈ l.map Fi.nm := by
  unfold txtOf
  constructor
  · intro h
    cases e : l.find? (fun f => decide (f.nm = s)) with
    | none => rw [e] at h; exact absurd rfl h
    | some f =>
      have h1 := List.mem_of_find?_eq_some e
      have h2 : f.nm = s := by simpa using List.find?_some e
      exact List.mem_map.2 ⟨f, h1, h2⟩
  · intro h he
    obtain ⟨f, hf, rfl⟩ := List.mem_map.1 h
    rw [Option.map_eq_none_iff, List.find?_eq_none] at he
    simpa using he f hf
theorem wrF_cons (kb kt : ByteArray) (c : Int) (r : List Int) (t : ByteArray) (S : Vs) (h : (S.write kb kt c (t.extract 0 (min t.size 80))).1 = 0) : wrF kb kt (c :: r) t S = wrF kb kt r (t.extract (min t.size 80) t.size) (S.write kb kt c (t.extract 0 (min t.size 80))).2 := by
  rw [wrF, if_neg (by rw [h]; decide)]
theorem piece_size (t : ByteArray) : (t.extract 0 (min t.size 80)).size ≤ 80 := by rw [ByteArray.size_extract]; omega
theorem wrF_good {kb kt : ByteArray} : ∀ (cs : List Int) (t : ByteArray) (S : Vs) (n : Int) (k : Nat), Vl.Good kb kt S n → Ph S k → k + cs.length ≤ 120 → n + cs.length < 1000000000 → (∀ c ∈ cs, 0 ≤ c ∧ c < 24) →
    (wrF kb kt cs t S).1 = 0 ∧ Vl.Good kb kt (wrF kb kt cs t S).2 (n + cs.length) ∧ Ph (wrF kb kt cs t S).2 (k + cs.length) ∧ (wrF kb kt cs t S).2.X = wrX cs t S.X ∧ S.c ≤ (wrF kb kt cs t S).2.c
  | [], t, S, n, k, hg, hp, _, _, _ => ⟨rfl, hg.le (by simp), hp, rfl, Int.le_refl _⟩
  | c :: r, t, S, n, k, hg, hp, hk, hn, hc => by
    rw [List.length_cons] at hk hn
    have h0 := hc c List.mem_cons_self
    obtain ⟨j, rfl⟩ : ∃ j : Nat, c = j := ⟨c.toNat, by omega⟩
    obtain ⟨h1, h2, h3, h4, h5⟩ := write_good hg (by omega) hp (by omega) j (by omega) (t.extract 0 (min t.size 80)) (piece_size t)
    rw [wrF_cons kb kt _ r t S h1]
    obtain ⟨i1, i2, i3, i4, i5⟩ := wrF_good r (t.extract (min t.size 80) t.size) _ (n + 1) (k + 1) h2 h3 (by omega) (by omega) (fun c' hc' => hc c' (List.mem_cons_of_mem _ hc'))
    refine ⟨i1, i2.le (by rw [List.length_cons]; omega), by rw [List.length_cons, show k + (r.length + 1) = k + 1 + r.length by omega]; exact i3, ?_, by omega⟩
    rw [i4, h4]
    rfl
structure Fok (kb kt : ByteArray) (S : Vs) (l : List Fi) (n : Int) (k : Nat) : Prop where
  good : Vl.Good kb kt S n
  ph : Ph S k
  right : En.right l = true
  dir : catL S.X [0, 1, 2] = En.print l
theorem Fok.le {kb kt : ByteArray} {S : Vs} {l : List Fi} {n m : Int} {k j : Nat} (h : Fok kb kt S l n k) (hn : n ≤ m) (hk : k ≤ j) : Fok kb kt S l m j := ⟨h.good.le hn, h.ph.le hk, h.right, h.dir⟩
theorem dif_right {l : List Fi} (h : En.right l = true) : Dif l := ((right_iff l).1 h).1.names
theorem cells_in {l : List Fi} (h : En.right l = true) {f : Fi} (hf : f ∈ l) {c : Int} (hc : c ∈ f.cs) : 3 ≤ c ∧ c < 24 := ((right_iff l).1 h).1.cells c (En.mem_allC hf hc)
theorem toNat_ne {c c' : Int} (h : 0 ≤ c) (h' : 0 ≤ c') (hn : c ≠ c') : c.toNat ≠ c'.toNat := by omega
theorem nodup_nat {cs : List Int} (h : cs.Nodup) (h0 : ∀ c ∈ cs, 0 ≤ c) : cs.Pairwise (fun a b => a.toNat ≠ b.toNat) := by
  refine List.Pairwise.imp_of_mem (R := fun a b => a ≠ b) (fun {a b} ha hb hab => toNat_ne (h0 a ha) (h0 b hb) hab) h
theorem need_cover (t : ByteArray) : (t.size : Int) ≤ 80 * need t.size := by
  unfold need
  split <;> omega
theorem cellsF_len {l : List Fi} {s t : ByteArray} (hf : fullB l s t = false) : ((cellsF l s t).length : Int) = need t.size ∧ (cellsF l s t).length ≤ 21 := by
  unfold fullB at hf
  rw [Bool.or_eq_false_iff, decide_eq_false_iff_not, decide_eq_false_iff_not] at hf
  have hnn := need_nonneg t.size
  have h21 : (freeL (butL l s)).length ≤ 21 := List.length_filter_le _ _
  unfold cellsF
  rw [List.length_take]
  omega
theorem cellsF_in {l : List Fi} {s t : ByteArray} {c : Int} (h : c ∈ cellsF l s t) : (3 ≤ c ∧ c < 24) ∧ c ∉ allC (butL l s) := by
  have h1 : c ∈ freeL (butL l s) := List.mem_of_mem_take h
  exact ⟨free_in h1, fun h2 => En.free_not h2 h1⟩
theorem right_new {l l' : List Fi} {s t : ByteArray} (hr : En.right l = true) (hn : nameB s.data.toList = true) (hf : fullB l s t = false) (hp : (butL l s ++ [newF l s t]).Perm l') (hri : Rise l') : En.right l' = true := (fit_new ((right_iff l).1 hr).1 hn hf).right hp hri
theorem right_but {l : List Fi} (hr : En.right l = true) (s : ByteArray) : En.right (butL l s) = true := (((right_iff l).1 hr).1.filter _).right (List.Perm.refl _) (rise_but hr s)
theorem dir_cat {l : List Fi} (hr : En.right l = true) (X : Nat → ByteArray) : catL (wrX [0, 1, 2] ⟨(En.print l).toArray⟩ X) [0, 1, 2] = En.print l := by
  rw [catL_wr [0, 1, 2] _ X (by decide)]
  have h := En.print_fits hr
  show (En.print l).toArray.size ≤ _
  simp
  omega
theorem dir_out (t : ByteArray) (X : Nat → ByteArray) {l : List Fi} (hr : En.right l = true) (s : ByteArray) : txtOf (wrX [0, 1, 2] t X) l s = txtOf X l s :=
  txtOf_congr (fun f hf => catL_wr_ne _ _ _ _ (fun c hc c' hc' => by
    have h1 := cells_in hr hf hc'
    simp only [List.mem_cons, List.not_mem_nil, or_false] at hc
    omega)) s
theorem put_fok {kb kt : ByteArray} {S : Vs} {l l' : List Fi} {n : Int} {k : Nat} (h : Fok kb kt S l n k) (hk : k + 24 ≤ 120) (hn : n + 24 < 1000000000) {s t : ByteArray} (hnm : nameB s.data.toList = true) (hf : fullB l s t = false) (hp : (butL l s ++ [newF l s t]).Perm l') (hri : Rise l') :
    (wrF kb kt (cellsF l s t) t S).1 = 0 ∧ (dirW kb kt l' (wrF kb kt (cellsF l s t) t S).2).1 = 0 ∧ Fok kb kt (dirW kb kt l' (wrF kb kt (cellsF l s t) t S).2).2 l' (n + 24) (k + (cellsF l s t).length + 3) ∧
      (∀ u, txtOf (dirW kb kt l' (wrF kb kt (cellsF l s t) t S).2).2.X l' u = if u = s then some t.data.toList else txtOf S.X l u) ∧ S.c ≤ (dirW kb kt l' (wrF kb kt (cellsF l s t) t S).2).2.c := by
  obtain ⟨hl1, hl2⟩ := cellsF_len hf
  have hr' := right_new h.right hnm hf hp hri
  obtain ⟨a1, a2, a3, a4, a5⟩ := wrF_good (cellsF l s t) t S n k h.good h.ph (by omega) (by omega) (fun c hc => by have := (cellsF_in hc).1; omega)
  generalize (wrF kb kt (cellsF l s t) t S).2 = S1 at *
  unfold dirW
  obtain ⟨b1, b2, b3, b4, b5⟩ := wrF_good [0, 1, 2] ⟨(En.print l').toArray⟩ S1 (n + (cellsF l s t).length) (k + (cellsF l s t).length) a2 a3 (by simp; omega) (by simp; omega) (fun c hc => by
    simp only [List.mem_cons, List.not_mem_nil, or_false] at hc
    omega)
  refine ⟨a1, b1, ⟨b2.le (by simp; omega), b3, hr', by rw [b4]; exact dir_cat hr' _⟩, fun u => ?_, by omega⟩
  rw [b4, dir_out _ _ hr', a4, ← txtOf_perm (fit_new ((right_iff l).1 h.right).1 hnm hf).names hp]
  have e : (newF l s t).nm = s := rfl
  have hcat : catL (wrX (cellsF l s t) t S.X) (newF l s t).cs = t.data.toList := by
    refine catL_wr _ _ _ (nodup_nat ((free_nodup _).sublist (List.take_sublist _ _)) (fun c hc => by have := (cellsF_in hc).1; omega)) ?_
    have := need_cover t
    omega
  have htp := txtOf_put (wrX (cellsF l s t) t S.X) l (newF l s t) u
  rw [e] at htp
  rw [htp, hcat]
  by_cases hu : u = s
  · rw [if_pos hu, if_pos hu]
  · have e1 : txtOf (wrX (cellsF l s t) t S.X) (butL l s) u = txtOf (wrX (cellsF l s t) t S.X) l u := by rw [txtOf_but, if_neg hu]
    have e2 : txtOf S.X (butL l s) u = txtOf S.X l u := by rw [txtOf_but, if_neg hu]
    rw [if_neg hu, if_neg hu, ← e1, ← e2]
    refine txtOf_congr (fun f hf' => catL_wr_ne _ _ _ _ (fun c hc c' hc' => ?_)) u
    obtain ⟨h1, h2⟩ := cellsF_in hc
    have h3 := cells_in (right_but h.right s) hf' hc'
    refine toNat_ne (by omega) (by omega) (fun e => h2 ?_)
    rw [e]
    exact En.mem_allC hf' hc'
theorem del_fok {kb kt : ByteArray} {S : Vs} {l : List Fi} {n : Int} {k : Nat} (h : Fok kb kt S l n k) (hk : k + 24 ≤ 120) (hn : n + 24 < 1000000000) (s : ByteArray) :
    (dirW kb kt (butL l s) S).1 = 0 ∧ Fok kb kt (dirW kb kt (butL l s) S).2 (butL l s) (n + 24) (k + 3) ∧ (∀ u, txtOf (dirW kb kt (butL l s) S).2.X (butL l s) u = if u = s then none else txtOf S.X l u) ∧ S.c ≤ (dirW kb kt (butL l s) S).2.c := by
  have hr' := right_but h.right s
  unfold dirW
  obtain ⟨b1, b2, b3, b4, b5⟩ := wrF_good [0, 1, 2] ⟨(En.print (butL l s)).toArray⟩ S n k h.good h.ph (by simp; omega) (by simp; omega) (fun c hc => by
    simp only [List.mem_cons, List.not_mem_nil, or_false] at hc
    omega)
  refine ⟨b1, ⟨b2.le (by simp), b3, hr', by rw [b4]; exact dir_cat hr' _⟩, fun u => ?_, b5⟩
  rw [b4, dir_out _ _ hr', txtOf_but]
theorem right_nil : En.right [] = true := rfl
theorem fresh_fok (kb kt : ByteArray) : Fok kb kt (fresh dv0 0) [] 0 0 := ⟨(fresh_good kb kt).1, (fresh_good kb kt).2.1, rfl, rfl⟩
theorem names_of {X Y : Nat → ByteArray} {l m : List Fi} (hl : En.right l = true) (hm : En.right m = true) (h : ∀ u, (txtOf X l u ≠ none) ↔ (txtOf Y m u ≠ none)) : l.map Fi.nm = m.map Fi.nm := by
  have srt : ∀ {q : List Fi}, En.right q = true → (q.map Fi.nm).Pairwise (fun a b => Op.bytesLess b.toList a.toList = false) := fun hq => List.pairwise_map.2 (rise_right hq)
  have nd : ∀ {q : List Fi}, En.right q = true → (q.map Fi.nm).Nodup := fun hq => List.pairwise_map.2 (dif_right hq)
  have hp : (l.map Fi.nm).Perm (m.map Fi.nm) := (List.perm_ext_iff_of_nodup (nd hl) (nd hm)).2 (fun u => by rw [← txtOf_some (X := X), ← txtOf_some (X := Y)]; exact h u)
  refine List.Perm.eq_of_pairwise (le := fun (a b : ByteArray) => Op.bytesLess b.toList a.toList = false) ?_ (srt hl) (srt hm) hp
  intro a b _ _ e1 e2
  rw [bytesLess_eq, decide_eq_false_iff_not] at e1 e2
  have e := List.le_antisymm (List.not_lt.1 e1) (List.not_lt.1 e2)
  rw [Lib.toList_data, Lib.toList_data] at e
  exact ByteArray.ext (Array.toList_inj.1 e)
end Fl
end Go.Proofs.YtlgocfgnfdnloaaGreatDoor
end
section
namespace Go.Proofs.YtlgocfgnfdnloaaGreatDoor
set_option maxRecDepth 100000
namespace Fl
open Go.RowKit Go.Sort Go.Shelf
open En (Fi Fls Ints fval Row)
open Vl
def getV : Option (List UInt8) → Value
  | none => .tuple #[.string ⟨#[]⟩, En.errV 7]
  | some t => .tuple #[.string ⟨t.toArray⟩, .nilIface]
def Ix (l : List Fi) (s : ByteArray) (i : Int) : Prop := (∃ k : Nat, i = k ∧ k < l.length ∧ (∃ f, l[k]? = some f ∧ f.nm = s) ∧ ∀ j f, j < k → l[j]? = some f → ¬ f.nm = s) ∨ (i = -1 ∧ ∀ f ∈ l, ¬ f.nm = s)
section
variable {w0 w w' : World} {fb vb db cb : Nat} {kb kt : ByteArray} {S : Vs} {v lv : Value} {d d0 : List Fv} {l l0 : List Fi}
set_option maxHeartbeats 8000000 in
theorem fget_any (h : Fm w0 w fb vb db cb kb kt S v lv d l) (hr : En.right l = true) (hx : ∀ i, (S.X i).size ≤ 80) (s : ByteArray) :
    Calls Tryz.prog 34 #[.pointer (some ⟨fb, 0, none⟩), .string s] w fun e w' => e = .returned (getV (txtOf S.X l s)) ∧ Since w w' := by
  have hl8 : l.length ≤ 8 := ((right_iff l).1 hr).1.len
  have hor := orZero_any fb vb w h.c0
  have p1 := h.c1
  have HF : Hid (Fm w0 w fb vb db cb kb kt S v lv d l) := h
  have HR : Hid (En.right l = true ∧ l.length ≤ 8 ∧ ∀ i, (S.X i).size ≤ 80) := ⟨hr, hl8, hx⟩
  obtain ⟨la, lc, rfl⟩ : ∃ a c, lv = .slice a l.length c := by
    obtain ⟨a, c, h1, _⟩ := h.fls
    exact ⟨a, c, h1⟩
  have HIF : Hid (∀ (W : World) (b : Nat), Since w W → W.cell? ⟨b, 0, none⟩ = some (.string s) → Calls Tryz.prog 101 #[.slice la l.length lc, .func (.func 141) #[] #[.pointer (some ⟨b, 0, none⟩)]] W fun e w' => (∃ i : Int, e = .returned (.int .i64 i) ∧ Ix l s i) ∧ Since W w') := fun W b hs hb => IFn_any l _ s b W (HF.out.since hs).fls hb (by omega)
  have hfl : fb < w.heap.size := World.block_lt_of_cell? w _ p1
  have q1 : ∀ W, Since w W → W.cell? ⟨fb, 1, none⟩ = some (.slice la l.length lc) := fun W hs => (hs.cell (p := ⟨fb, 1, none⟩) hfl).trans p1
  have Q1 : Hid (∀ W, Since w W → W.cell? ⟨fb, 1, none⟩ = some (.slice la l.length lc)) := q1
  have hbx : ∀ W : World, (W.alloc (.cells #[.string s] 9)).cell? ⟨W.heap.size, 0, none⟩ = some (.string s) := fun W => by
    have hgen : ∀ W1 : World, W1.heap[W.heap.size]? = some (.cells #[.string s] 9) → W1.cell? ⟨W.heap.size, 0, none⟩ = some (.string s) := fun W1 hW => by simp [World.cell?, hW]
    exact hgen _ (heap_alloc_new W _)
  have HBX : Hid (∀ W : World, (W.alloc (.cells #[.string s] 9)).cell? ⟨W.heap.size, 0, none⟩ = some (.string s)) := hbx
  have HOR : Hid (Calls Tryz.prog 61 #[.pointer (some ⟨fb, 0, none⟩)] w fun e w' => e = .returned (.pointer (some ⟨fb, 0, none⟩)) ∧ w' = w) := hor
  clear h hr hor hl8 p1 q1 hbx hx
  go_enter Tryz.func34, Tryz.ntmps34
  go_wp2_with fail
  refine HOR.out.mono ?_
  rintro e w1 ⟨rfl, hw1⟩
  subst hw1
  go_wp2_with fail
  go_region_held3 (fun W => W.cell? ⟨fb, 1, none⟩ = some (.slice la l.length lc)) (first | exact Q1.out _ (Since.refl _) | exact Q1.out _ (Since.refl _).drew | exact Q1.out _ ((Since.refl _).alloc _) | exact Q1.out _ ((Since.refl _).drew.alloc _) | exact Q1.out _ (((Since.refl _).alloc _).trans hs3) | exact Q1.out _ (((Since.refl _).drew.alloc _).trans hs3)) (first
    | (go_simp; go_at_call 77; refine (called_any s _).mono ?_; rintro e w2 ⟨rfl, rfl⟩; dsimp only)
    | (go_simp; go_at_call 101; refine (HIF.out _ _ (by first | exact ((Since.refl _).alloc _) | exact ((Since.refl _).drew.alloc _)) (by first | exact HBX.out _)).mono ?_; rintro e w3 ⟨⟨i, rfl, hi⟩, hs3⟩; dsimp only))
  have hs13 : Since w1 w3 := ((Since.refl w1).alloc _).drew.trans hs3
  have F3 := HF.out.since hs13
  have H3 : Hid (Since w1 w3 ∧ Fm w0 w3 fb vb db cb kb kt S v (.slice la l.length lc) d l) := ⟨hs13, F3⟩
  clear hs3 hs13 F3
  rcases hi with ⟨k, rfl, hk, ⟨f, hkf, hfn⟩, _⟩ | ⟨rfl, hno⟩
  · have hfm : f ∈ l := List.mem_of_getElem? hkf
    have htx : txtOf S.X l s = some (catL S.X f.cs) := by
      unfold txtOf
      rw [← hfn, find_of (dif_right HR.out.1) hfm]
      rfl
    have HTX : Hid (txtOf S.X l s = some (catL S.X f.cs)) := htx
    have F3 := H3.out.2
    obtain ⟨k1, o1, u1, hla, hi1, hl1, q0, q1, q2⟩ := F3.fls.at_ hkf
    subst hla
    have p0 := F3.c0
    have p1 := F3.c1
    have hin : ∀ c ∈ f.cs, 0 ≤ c ∧ c < 24 := fun c hc => by have := cells_in HR.out.1 hfm hc; omega
    have hfl : f.cs.length ≤ 1000 := by
      have h1 := (((right_iff l).1 HR.out.1).1.good f hfm).2
      have h2 := En.need_le ((En.filled_iff f).1 h1).2.1
      have h3 := ((En.filled_iff f).1 h1).2.2
      omega
    have HJ : Hid (∀ W, Since w3 W → Calls Tryz.prog 57 #[.pointer (some ⟨vb, 0, none⟩), u1] W fun e w' => e = .returned (.tuple #[.string ⟨(catL S.X f.cs).toArray⟩, .nilIface]) ∧ Since W w') := fun W hW => joined_any (F3.vol.go hW) HR.out.2.2 f.cs u1 (hi1.since hW) hin hfl
    have hk0 : ¬ ((k : Int) < 0) := by omega
    have hk1 : (k : Int) < (l.length : Int) := by omega
    obtain ⟨ua, un, uc, rfl⟩ : ∃ a n c, u1 = .slice a n c := by
      obtain ⟨a', c', he, _⟩ := hi1
      exact ⟨_, _, _, he⟩
    have HQ : Hid (∀ W, Since w3 W → W.cell? ⟨fb, 0, none⟩ = some (.pointer (some ⟨vb, 0, none⟩)) ∧ W.cell? ⟨fb, 1, none⟩ = some (.slice (some ⟨k1, o1, none⟩) l.length lc) ∧ W.cell? ⟨k1, o1 + k * 3 + 2, none⟩ = some (.slice ua un uc)) := fun W hW =>
      ⟨(hW.cell (p := ⟨fb, 0, none⟩) (World.block_lt_of_cell? _ _ p0)).trans p0, (hW.cell (p := ⟨fb, 1, none⟩) (World.block_lt_of_cell? _ _ p1)).trans p1, (hW.cell (p := ⟨k1, o1 + k * 3 + 2, none⟩) (World.block_lt_of_cell? _ _ q2)).trans q2⟩
    clear F3 hi1 hl1 hin hfl htx hfm hkf hfn q0 q1
    go_wp2_with fail
    go_region_held3 (fun W => W.cell? ⟨fb, 0, none⟩ = some (.pointer (some ⟨vb, 0, none⟩)) ∧ W.cell? ⟨fb, 1, none⟩ = some (.slice (some ⟨k1, o1, none⟩) l.length lc) ∧ W.cell? ⟨k1, o1 + k * 3 + 2, none⟩ = some (.slice ua un uc)) (first | exact HQ.out _ (Since.refl _) | exact HQ.out _ (Since.refl _).drew | exact HQ.out _ ((Since.refl _).drew.trans hs5)) (first
      | (go_simp; go_at_call 57; refine (HJ.out _ (by first | exact Since.refl _ | exact (Since.refl _).drew)).mono ?_; rintro e w5 ⟨rfl, hs5⟩; dsimp only))
    have HS5 : Hid (Since w1 w5) := H3.out.1.trans ((Since.refl _).drew.trans hs5)
    clear hs5
    go_wp2_with fail
    go_ret2
    exact ⟨by rw [HTX.out]; rfl, HS5.out⟩
  · have htx : txtOf S.X l s = none := by
      unfold txtOf
      rw [find_none hno]
      rfl
    have HTX : Hid (txtOf S.X l s = none) := htx
    clear hno htx
    go_wp2_with fail
    go_ret2
    exact ⟨by rw [HTX.out]; rfl, H3.out.1⟩
def nmV (l : List Fi) : List Value := l.map (fun f => .string f.nm)
theorem nmV_take (l : List Fi) (k : Nat) (f : Fi) (h : l[k]? = some f) : nmV (l.take (k + 1)) = nmV (l.take k) ++ [.string f.nm] := by
  unfold nmV
  rw [List.take_add_one, h]
  simp
set_option maxHeartbeats 8000000 in
theorem fnames_any (h : Fm w0 w fb vb db cb kb kt S v lv d l) (hl8 : l.length ≤ 1000) :
    Calls Tryz.prog 28 #[.pointer (some ⟨fb, 0, none⟩)] w fun e w' => ∃ x, e = .returned x ∧ w'.ownsRow w.heap.size 9 1 x l.length (nmV l) ∧ Since w w' := by
  obtain ⟨i0, hi, hz0, hz1, hz2⟩ := info_parts' infoS
  have HI : Hid (Tryz.prog.info? 9 = some i0 ∧ i0.zero = some (.string ⟨#[]⟩) ∧ i0.size = 1 ∧ i0.bytes = 16) := ⟨hi, hz0, hz1, hz2⟩
  clear hi hz0 hz1 hz2
  have hor := orZero_any fb vb w h.c0
  have p1 := h.c1
  have HL : Hid (Fls w lv l) := h.fls
  have HOR : Hid (Calls Tryz.prog 61 #[.pointer (some ⟨fb, 0, none⟩)] w fun e w' => e = .returned (.pointer (some ⟨fb, 0, none⟩)) ∧ w' = w) := hor
  obtain ⟨la, lc, rfl, _⟩ := h.fls
  clear h hor
  go_enter Tryz.func28, Tryz.ntmps28
  go_wp2_with fail
  refine HOR.out.mono ?_
  rintro e w1 ⟨rfl, hw1⟩
  subst hw1
  go_wp2_with fail
  clear p1
  go_loopw [12, 3] (fun i x wr => ∃ k : Nat, k ≤ l.length ∧ i = .int .i64 k ∧ wr.ownsRow w1.heap.size 9 1 x k (nmV (l.take k)) ∧ Since w1 wr) (fun i _ _ => l.length - (intOf i).toNat)
  case atStart => exact ⟨0, by omega, rfl, World.ownsRow_nil _ _ _ _, Since.refl _⟩
  case round =>
    obtain ⟨k, hk, rfl, hx, hS⟩ := hrel
    have HX : Hid (wr.ownsRow w1.heap.size 9 1 u3 k (nmV (l.take k))) := hx
    have HS : Hid (Since w1 wr) := hS
    clear hx hS
    by_cases hlt : k < l.length
    · have hlt2 : (k : Int) < l.length := by omega
      have hE : Hid (l[k]? = some l[k]) := List.getElem?_eq_getElem hlt
      have HPT : Hid (nmV (l.take (k + 1)) = nmV (l.take k) ++ [.string (l[k]).nm]) := nmV_take l k _ hE.out
      generalize l[k] = f at *
      obtain ⟨k1, o1, u1, rfl, hi1, hl1, q0, q1, q2⟩ := (HL.out.since HS.out).at_ hE.out
      obtain ⟨a1, b1, rfl, _, _⟩ := hi1
      go_upto_region 5 with fail
      clear q0 q1 q2
      generalize hw2 : wr.alloc (.cells #[.string f.nm, .int .i64 f.sz, .slice a1 f.cs.length b1] 153) = w2
      have p0 : w2.cell? ⟨wr.heap.size, 0, none⟩ = some (.string f.nm) := by rw [← hw2]; simp
      have HS2 : Hid (Since wr w2) := by rw [← hw2]; exact (Since.refl _).alloc _
      have HSZ : Hid (w1.heap.size ≤ w2.heap.size) := Nat.le_trans HS.out.size HS2.out.size
      clear hw2
      go_wp2_with (at_builtin; refine wpList_append_own _ (by rfl) _ _ _ (by rfl) w1.heap.size 9 i0 _ 1 16 Tryz.underlying65 HI.out.1 HI.out.2.1 HI.out.2.2.1 HI.out.2.2.2 (by rfl) (by decide) _ k (nmV (l.take k)) (by rfl) (World.ownsRow.alloc (En.owns_since HX.out HS2.out) _) ⟨w2.heap.size, 0, none⟩ 1 1 [.string f.nm] (by rfl) (by rfl) (World.news_of_block (heap_alloc_new w2 _)) (by simp [Value.oneCell']) (by unfold maxLen; omega) (by omega) (by have := HSZ.out; simp; omega) ?_; intro x' w3 hown1 hgrow _)
      have HO1 : Hid (w3.ownsRow w1.heap.size 9 1 x' (k + 1) (nmV (l.take k) ++ [.string f.nm])) := hown1
      have HG1 : Hid (Since w1 w3) := Below.grown (Since.alloc (HS.out.trans HS2.out) _) hgrow (by have := HSZ.out; simp; omega) (fun j hj => (HX.out.lt j hj).1)
      clear hown1 hgrow
      go_wp2_with fail
      go_roundw
      case rel => exact ⟨k + 1, by omega, by go_num, by rw [HPT.out]; exact HO1.out, HG1.out⟩
      case measure => simp [intOf]; omega
    · have hke : k = l.length := by omega
      subst hke
      go_wp2_with fail
      go_ret
      exact ⟨_, rfl, by have := HX.out; rw [List.take_length] at this; exact this, HS.out⟩
end
end Fl
end Go.Proofs.YtlgocfgnfdnloaaGreatDoor
end
section
namespace Go.Proofs.YtlgocfgnfdnloaaGreatDoor
set_option maxRecDepth 100000
namespace Fl
open Go.RowKit Go.Sort Go.Shelf
open En (Fi Fls Ints fval Row)
open Vl
def slP : Value → Option Addr × Nat × Nat
  | .slice a n c => (a, n, c)
  | _ => (none, 0, 0)
def dOf (p : List (Fi × Value)) : List Fv := p.map (fun x => (x.1.nm, x.1.sz, slP x.2))
theorem dOf_cells : ∀ (p : List (Fi × Value)), (∀ x ∈ p, ∃ a n c, x.2 = .slice a n c) → En.pcells p = fcells (dOf p)
  | [], _ => rfl
  | x :: r, h => by
    obtain ⟨a, n, c, e⟩ := h x List.mem_cons_self
    have ih := dOf_cells r (fun y hy => h y (List.mem_cons_of_mem _ hy))
    show [.string x.1.nm, .int .i64 x.1.sz, x.2] ++ En.pcells r = .string x.1.nm :: .int .i64 x.1.sz :: .slice (slP x.2).1 (slP x.2).2.1 (slP x.2).2.2 :: fcells (dOf r)
    rw [ih, e]
    rfl
theorem row_slices {b : Nat} {W : World} {v : Value} {p : List (Fi × Value)} (h : Row b W v p) : ∀ x ∈ p, ∃ a n c, x.2 = .slice a n c := fun x hx => by
  obtain ⟨a, c, e, _⟩ := h.ints x hx
  exact ⟨a, _, c, e⟩
theorem row_own {b : Nat} {W : World} {v : Value} {p : List (Fi × Value)} (h : Row b W v p) : W.ownsRow b 153 3 v (dOf p).length (fcells (dOf p)) := by
  have h1 := h.own
  rw [dOf_cells p (row_slices h)] at h1
  unfold dOf at *
  rw [List.length_map]
  exact h1
theorem row_each {P : Nat → Prop} {b : Nat} {W : World} {v : Value} {p : List (Fi × Value)} (h : Row b W v p) (hP : ∀ k, b ≤ k → k < W.heap.size → ¬ P k) : Each P W (dOf p) (p.map (fun x => x.1)) := by
  refine ⟨by simp [dOf], fun j f x hj hx => ?_⟩
  unfold dOf at hx
  rw [List.getElem?_map] at hj hx
  cases e : p[j]? with
  | none => rw [e] at hj; cases hj
  | some y =>
    rw [e] at hj hx
    simp only [Option.map_some, Option.some.injEq] at hj hx
    subst hj hx
    have hm : y ∈ p := List.mem_of_getElem? e
    obtain ⟨a, n, c, es⟩ := row_slices h y hm
    have hi := h.ints y hm
    refine ⟨rfl, rfl, ?_, fun k o ek => ?_⟩
    · rw [es] at hi ⊢
      exact hi
    · rw [es] at ek
      have ek' : a = some ⟨k, o, none⟩ := ek
      subst ek'
      obtain ⟨h1, cur, fz, h2⟩ := h.far y hm k o n c es
      have h3 := (Array.getElem?_eq_some_iff.1 h2).1
      exact ⟨h3, hP k (by omega) h3⟩
theorem OpenTo.ok' {kb kt : ByteArray} {D : Dv} {c r : Int} {S : Vs} (h : OpenTo kb kt (fresh D c) r S) (hw : D.ws.length ≤ 1) (hc : 0 ≤ c) (hr : r = 0) : S.ok (c + 1) := by
  rcases h with ⟨h1, _, rfl⟩ | ⟨h1, h2, _, rfl⟩ | ⟨h1, h2, h3, _, rfl⟩ | h
  · exact opened_ok kb kt D (c + 1) hw (by omega) h1
  · have h2' : c = 0 := h2
    subst h2'
    exact (fresh_ok D hw).le (by omega)
  · exact (opened_ok kb kt D c hw hc h3).le (by omega)
  · exact absurd hr (by obtain ⟨_, _, _, h, _⟩ := h; omega)
def FOpened (w0 w w' : World) (db cb : Nat) (s : ByteArray) (D : Dv) (c : Int) (v : Value) (e : Ending) : Prop :=
  ∃ vb r S' v', OpenTo (kbOf s) (ktOf s) (fresh D c) r S' ∧ w.heap.size ≤ vb ∧ Vol w0 w' vb db cb (kbOf s) (ktOf s) S' v' ∧ Fs (fun k => k = db ∨ k = cb ∨ v.ownBlock = some k) w w' ∧ Nx w v.ownBlock v'.ownBlock ∧
    ((r ≠ 0 ∧ e = .returned (.tuple #[.pointer none, ev r])) ∨ (r = 0 ∧ En.parse (catL S'.X [0, 1, 2]) = none ∧ e = .returned (.tuple #[.pointer none, En.errV 15])) ∨
      (r = 0 ∧ ∃ l fb lv d, En.parse (catL S'.X [0, 1, 2]) = some l ∧ e = .returned (.tuple #[.pointer (some ⟨fb, 0, none⟩), .nilIface]) ∧ w.heap.size ≤ fb ∧ Fm w0 w' fb vb db cb (kbOf s) (ktOf s) S' v' lv d l))
set_option maxHeartbeats 8000000 in
theorem fopen_any {w0 w : World} {db cb : Nat} {D : Dv} {c : Int} {v : Value} (s : ByteArray) (hs : s.size = 16) (hT : Sm.Tab w0) (LB : En.Lb w0) (hc : 0 ≤ c ∧ c < 1000000000) (hw : D.ws.length ≤ 1) (h : DC w0 w db cb D c v) :
    Calls Tryz.prog 12 #[.pointer (some ⟨db, 0, none⟩), .pointer (some ⟨cb, 0, none⟩), .string s] w fun e w' => FOpened w0 w w' db cb s D c v e := by
  have HOP : Hid (Calls Tryz.prog 56 #[.pointer (some ⟨db, 0, none⟩), .pointer (some ⟨cb, 0, none⟩), .string s] w fun e w' => Opened w0 w w' db cb s D c v e) := open_any s hs hT hc h
  have HL : Hid (En.Lb w0 ∧ D.ws.length ≤ 1 ∧ 0 ≤ c ∧ Since w0 w) := ⟨LB, hw, hc.1, h.since⟩
  unfold FOpened
  unfold Opened at HOP
  clear h hw LB hc hT hs
  generalize kbOf s = kb at *
  generalize ktOf s = kt at *
  go_enter Tryz.func12, Tryz.ntmps12
  go_wp2_with fail
  refine HOP.out.mono ?_
  rintro e w1 ⟨vb, r, S1, v1, hto, he, hvb, hvol, hf, hn⟩
  have H1 : Hid (OpenTo kb kt (fresh D c) r S1 ∧ w.heap.size ≤ vb ∧ Vol w0 w1 vb db cb kb kt S1 v1 ∧ Fs (fun k => k = db ∨ k = cb ∨ v.ownBlock = some k) w w1 ∧ Nx w v.ownBlock v1.ownBlock) := ⟨hto, hvb, hvol, hf, hn⟩
  clear hto hvb hvol hf hn
  rcases he with ⟨hr, rfl⟩ | ⟨hr, rfl⟩
  · have HR : Hid (r = 0) := hr
    clear hr
    have hok := OpenTo.ok' H1.out.1 HL.out.2.1 HL.out.2.2.1 HR.out
    have hx : ∀ i, (S1.X i).size ≤ 80 := hok.txt
    go_wp2_with fail
    refine (directory_any w1).mono ?_
    rintro e w2 ⟨rfl, ho2, hs2⟩
    have hints : Ints w2 (.slice (some ⟨w1.heap.size, 0, none⟩) 3 3) [0, 1, 2] := by
      refine ⟨_, 3, rfl, by simp, fun _ => ⟨w1.heap.size, 0, rfl, (ho2.lt _ rfl).2, fun j x hj => ?_⟩⟩
      have hjl := (List.getElem?_eq_some_iff.1 hj).1
      rw [Nat.zero_add, ho2.cellAt j (by simpa using hjl)]
      have : j = 0 ∨ j = 1 ∨ j = 2 := by simp at hjl; omega
      rcases this with rfl | rfl | rfl <;> simp at hj ⊢ <;> exact hj
    have hj := joined_any (H1.out.2.2.1.go hs2) hx [0, 1, 2] _ hints (by simp) (by simp)
    have HJ : Hid (Calls Tryz.prog 57 #[.pointer (some ⟨vb, 0, none⟩), .slice (some ⟨w1.heap.size, 0, none⟩) 3 3] w2 fun e w' => e = .returned (.tuple #[.string ⟨(catL S1.X [0, 1, 2]).toArray⟩, .nilIface]) ∧ Since w2 w') := hj
    have hcl := catL_len S1.X hx [0, 1, 2]
    have hz : (⟨(catL S1.X [0, 1, 2]).toArray⟩ : ByteArray).size ≤ 1000 := by
      show (catL S1.X [0, 1, 2]).toArray.size ≤ 1000
      simp at hcl ⊢
      omega
    have hpa : ∀ W, Since w2 W → _ := fun W hW => En.parse_row ⟨(catL S1.X [0, 1, 2]).toArray⟩ hz W (HL.out.1.since ((H1.out.2.2.1.go hs2).since.trans hW))
    have HPA : Hid (∀ W, Since w2 W → Calls Tryz.prog 59 #[.string ⟨(catL S1.X [0, 1, 2]).toArray⟩] W fun e w' => ((∃ l v, En.parse (catL S1.X [0, 1, 2]) = some l ∧ e = .returned (.tuple #[v, .nilIface]) ∧ Fls w' v l ∧ ∃ p, p.map (fun x => x.1) = l ∧ Row W.heap.size w' v p) ∨ (En.parse (catL S1.X [0, 1, 2]) = none ∧ e = .returned (.tuple #[.slice none 0 0, En.errV 3]))) ∧ Since W w') := hpa
    have HS2 : Hid (Since w1 w2) := hs2
    clear hpa hj hz hcl hints ho2 hs2 hx hok
    go_wp2_with fail
    refine HJ.out.mono ?_
    rintro e w3 ⟨rfl, hs3⟩
    have HS3 : Hid (Since w1 w3) := HS2.out.trans hs3
    have HS23 : Hid (Since w2 w3) := hs3
    clear hs3
    generalize (⟨(catL S1.X [0, 1, 2]).toArray⟩ : ByteArray) = tx at *
    go_wp2_with fail
    refine (HPA.out w3 HS23.out).mono ?_
    clear HPA
    rintro e w4 ⟨hp, hs4⟩
    have HS4 : Hid (Since w1 w4 ∧ Since w3 w4) := ⟨HS3.out.trans hs4, hs4⟩
    clear hs4
    rcases hp with ⟨l, lv, hpl, rfl, hfls, p, hpe, hrow⟩ | ⟨hpn, rfl⟩
    · have HP : Hid (En.parse (catL S1.X [0, 1, 2]) = some l ∧ p.map (fun x => x.1) = l ∧ Row w3.heap.size w4 lv p) := ⟨hpl, hpe, hrow⟩
      obtain ⟨la, lc, rfl, _⟩ := hfls
      clear hpl hpe hrow
      go_wp2_with fail
      go_ret2
      have hv4 := H1.out.2.2.1.go HS4.out.1
      have hS5 : Since w4 (w4.alloc (.cells #[.pointer (some ⟨vb, 0, none⟩), .slice la l.length lc] 142)) := (Since.refl _).alloc _
      have hrow := HP.out.2.2
      have hown := row_own hrow
      refine ⟨vb, r, S1, v1, H1.out.1, H1.out.2.1, hv4.go hS5, H1.out.2.2.2.1.trans (Fs.of_since (HS4.out.1.trans hS5)), H1.out.2.2.2.2, Or.inr (Or.inr ⟨HR.out, l, w4.heap.size, .slice la l.length lc, dOf p, HP.out.1, rfl, Nat.le_trans H1.out.2.2.2.1.size HS4.out.1.size, ⟨hv4.go hS5, by simp, by simp, by simp, Nat.le_trans hv4.since.size (Nat.le_refl _), hv4.notNew, (own_sr hown).fs (Fs.of_since (S := fun _ => False) hS5) (fun k o n c e => ?_), fun k o n c e => ?_, ?_⟩⟩)⟩
      · have := hown.lt k (by rw [e]; rfl)
        exact ⟨this.2, fun h => h⟩
      · have h1 := hown.lt k (by rw [e]; rfl)
        refine ⟨Nat.lt_of_lt_of_le h1.2 hS5.size, fun hp => ?_⟩
        rcases hp with rfl | hp
        · omega
        · exact (H1.out.2.2.1.go HS3.out).notGe h1.1 hp
      · have he := row_each (P := fun k => k = w4.heap.size ∨ VP vb db cb v1 k) hrow (fun k hk hlt hp => by
          rcases hp with rfl | hp
          · omega
          · exact (H1.out.2.2.1.go HS3.out).notGe hk hp)
        rw [HP.out.2.1] at he
        exact he.since hS5
    · have HP : Hid (En.parse (catL S1.X [0, 1, 2]) = none) := hpn
      clear hpn
      have her : En.errV 3 = .iface 32 (.int .i64 3) := rfl
      rw [her]
      go_wp2_with fail
      go_ret2
      exact ⟨vb, r, S1, v1, H1.out.1, H1.out.2.1, H1.out.2.2.1.go HS4.out.1, H1.out.2.2.2.1.trans (Fs.of_since HS4.out.1), H1.out.2.2.2.2, Or.inr (Or.inl ⟨HR.out, HP.out, rfl⟩)⟩
  · have HR : Hid (r ≠ 0) := hr
    rw [ev_ne hr]
    clear hr
    go_wp2_with fail
    go_ret2
    exact ⟨vb, r, S1, v1, H1.out.1, H1.out.2.1, H1.out.2.2.1, H1.out.2.2.2.1, H1.out.2.2.2.2, Or.inl ⟨HR.out, by rw [ev_ne HR.out]; rfl⟩⟩
end Fl
end Go.Proofs.YtlgocfgnfdnloaaGreatDoor
end
section
namespace Go.Proofs.YtlgocfgnfdnloaaGreatDoor
set_option maxRecDepth 100000
namespace Fl
open Go.RowKit Go.Sort Go.Shelf
open En (Fi Fls Ints fval Row freeL allC need nameB filled)
open Vl
open Tw (Tb)
section
variable {w0 w w' : World} {fb vb db cb : Nat} {kb kt : ByteArray} {S : Vs} {v lv : Value} {d d0 : List Fv} {l l0 : List Fi} {n : Int} {k : Nat}
theorem fflush_any (B : Base w0 kb kt) (hr : Tw.Rt S.next) (hc : S.c < S.T.count + 1) (h : Fm w0 w fb vb db cb kb kt S v lv d l) :
    Calls Tryz.prog 19 #[.pointer (some ⟨fb, 0, none⟩)] w fun e w' => e = .returned (ev (S.flush kt).1) ∧ Vto w0 w w' vb db cb kb kt (S.flush kt).2 v := by
  have HOR : Hid (Calls Tryz.prog 61 #[.pointer (some ⟨fb, 0, none⟩)] w fun e w' => e = .returned (.pointer (some ⟨fb, 0, none⟩)) ∧ w' = w) := orZero_any fb vb w h.c0
  have p0 := h.c0
  have HFL : Hid (Calls Tryz.prog 78 #[.pointer (some ⟨vb, 0, none⟩)] w fun e w' => e = .returned (ev (S.flush kt).1) ∧ Vto w0 w w' vb db cb kb kt (S.flush kt).2 v) := flush_any B hr hc h.vol
  obtain ⟨x, hx⟩ : ∃ x, ev (S.flush kt).1 = x := ⟨_, rfl⟩
  rw [hx] at HFL ⊢
  clear h hr hc B hx
  go_enter Tryz.func19, Tryz.ntmps19
  go_wp2_with fail
  refine HOR.out.mono ?_
  rintro e w1 ⟨rfl, hw1⟩
  subst hw1
  go_wp2_with fail
  refine HFL.out.mono ?_
  rintro e w2 ⟨rfl, hv⟩
  have HV : Hid _ := hv
  clear hv p0
  go_wp2_with fail
  go_ret
  exact ⟨rfl, HV.out⟩
end
theorem Ph.tot_le {S : Vs} {k : Nat} (h : Ph S k) : tot S.D ≤ k := by
  rcases h with ⟨m, h1, h2, h3⟩ | ⟨_, h⟩ | h
  · rw [h3.tot (by omega)]; exact h1
  · omega
  · omega
theorem write_sure2 {kb kt : ByteArray} {S : Vs} {n : Int} (h : Vl.Good kb kt S n) (ht : tot S.D < 108) (hs : ∀ z, z < 8 → S.D.sure z ≤ S.D.cnt z) (i : Nat) (hi : i < 24) (t : ByteArray) (h80 : t.size ≤ 80) {c : Int} {T : Tb} {X : Nat → ByteArray} (hsu : Sure kb kt S.D c T X) (hw : S.D.ws = []) :
    Sure kb kt (S.write kb kt i t).2.D c T X ∧ (S.write kb kt i t).2.D.ws = [] ∧ (S.write kb kt i t).2.c = S.c ∧ ∀ z, z < 8 → (S.write kb kt i t).2.D.sure z ≤ (S.write kb kt i t).2.D.cnt z := by
  obtain ⟨a, b, c'⟩ := write_sure h ht hs i hi t h80 hsu hw
  refine ⟨a, b, c', ?_⟩
  clear a b c'
  have he : S.write kb kt i t = if t = S.X i then (0, S) else if t = ⟨#[]⟩ then (0, S.set i 0 0 ⟨#[]⟩ ⟨#[]⟩) else if S.free ≤ 20 then (if (S.reclaim kb kt).1.2.2 ≠ 0 then ((S.reclaim kb kt).1.2.2, (S.reclaim kb kt).2) else (S.reclaim kb kt).2.put kb i (-1) t) else S.put kb i (-1) t := by
    unfold Vs.write
    rw [if_neg (by rw [h.on.dead]; decide), if_neg (by omega), if_neg (by omega), Int.toNat_natCast]
  rw [he]
  by_cases h1 : t = S.X i
  · rw [if_pos h1]; exact hs
  · rw [if_neg h1]
    by_cases h2 : t = ⟨#[]⟩
    · rw [if_pos h2]; exact hs
    · rw [if_neg h2, free_tot h.on.c16, if_neg (by omega)]
      obtain ⟨z, _, hz8, hz16, _, hp⟩ := put_on h.on (by omega) kb i (-1) (Or.inl (by omega)) t
      rw [hp]
      intro y hy
      show S.D.sure y ≤ (S.D.app z _).cnt y
      rw [app_cnt]
      have := hs y hy
      split
      · rename_i e; subst e; omega
      · exact this
theorem wrF_sure {kb kt : ByteArray} {c : Int} {T : Tb} {X : Nat → ByteArray} : ∀ (cs : List Int) (t : ByteArray) (S : Vs) (n : Int) (k : Nat), Vl.Good kb kt S n → Ph S k → k + cs.length < 108 → n + cs.length < 1000000000 → (∀ c ∈ cs, 0 ≤ c ∧ c < 24) → (∀ z, z < 8 → S.D.sure z ≤ S.D.cnt z) → Sure kb kt S.D c T X → S.D.ws = [] →
    Sure kb kt (wrF kb kt cs t S).2.D c T X ∧ (wrF kb kt cs t S).2.D.ws = [] ∧ (wrF kb kt cs t S).2.c = S.c ∧ ∀ z, z < 8 → (wrF kb kt cs t S).2.D.sure z ≤ (wrF kb kt cs t S).2.D.cnt z
  | [], t, S, n, k, hg, hp, _, _, _, h1, h2, h3 => ⟨h2, h3, rfl, h1⟩
  | c' :: r, t, S, n, k, hg, hp, hk, hn, hc, h1, h2, h3 => by
    rw [List.length_cons] at hk hn
    have h0 := hc c' List.mem_cons_self
    obtain ⟨j, rfl⟩ : ∃ j : Nat, c' = j := ⟨c'.toNat, by omega⟩
    have htt := Ph.tot_le hp
    obtain ⟨a1, a2, a3, a4, a5⟩ := write_good hg (by omega) hp (by omega) j (by omega) (t.extract 0 (min t.size 80)) (piece_size t)
    obtain ⟨b1, b2, b3, b4⟩ := write_sure2 hg (by omega) h1 j (by omega) (t.extract 0 (min t.size 80)) (piece_size t) h2 h3
    rw [wrF_cons kb kt _ r t S a1]
    obtain ⟨i1, i2, i3, i4⟩ := wrF_sure r (t.extract (min t.size 80) t.size) _ (n + 1) (k + 1) a2 a3 (by omega) (by omega) (fun c'' hc'' => hc c'' (List.mem_cons_of_mem _ hc'')) b4 b1 b2
    exact ⟨i1, i2, i3.trans b3, i4⟩
def Stays (kb kt : ByteArray) (S S' : Vs) : Prop := ∀ c T X, Sure kb kt S.D c T X → S.D.ws = [] → Sure kb kt S'.D c T X ∧ S'.D.ws = [] ∧ S'.c = S.c
section
variable {w0 w w' : World} {fb vb db cb : Nat} {kb kt : ByteArray} {S : Vs} {v lv : Value} {d d0 : List Fv} {l l0 : List Fi} {n : Int} {k : Nat}
theorem fputG (B : Base w0 kb kt) (LB : En.Lb w0) (hF : Fok kb kt S l n k) (hk : k + 24 < 108) (hn : n + 3000 < 900000000) (h : Fm w0 w fb vb db cb kb kt S v lv d l) (s t : ByteArray) (hs : s.size ≤ 100000) (ht : t.size ≤ 100000) (hnm : nameB s.data.toList = true) (hfu : fullB l s t = false) :
    Calls Tryz.prog 15 #[.pointer (some ⟨fb, 0, none⟩), .string s, .string t] w fun e w' => e = .returned .nilIface ∧ ∃ S' l' v' lv' d', Fm w0 w' fb vb db cb kb kt S' v' lv' d' l' ∧ Fok kb kt S' l' (n + 24) (k + (cellsF l s t).length + 3) ∧ (∀ u, txtOf S'.X l' u = if u = s then some t.data.toList else txtOf S.X l u) ∧ (butL l s ++ [newF l s t]).Perm l' ∧ Stays kb kt S S' ∧ Fs (fun k => k = fb ∨ VP vb db cb v k) w w' ∧ (∀ k, k < w.heap.size → ¬ VP vb db cb v k → ¬ VP vb db cb v' k) := by
  refine (fput_any B LB n hF.good.ok (by omega) h hF.right s t hs ht).mono ?_
  rintro e w' (⟨h1, _⟩ | ⟨_, h1, _⟩ | ⟨_, _, hok, v1, _, hz, hfs, hnx⟩)
  · rw [hnm] at h1; cases h1
  · rw [hfu] at h1; cases h1
  · obtain ⟨hl1, hl2⟩ := cellsF_len hfu
    have ha := wrF_good (cellsF l s t) t S n k hF.good hF.ph (by omega) (by omega) (fun c hc => by have := (cellsF_in hc).1; omega)
    obtain ⟨l', d', lv', hp, hri, rfl, hok2, hz2, _⟩ := hz ha.1
    obtain ⟨a1, a2, a3, a4, a5⟩ := put_fok hF (by omega) (by omega) hnm hfu hp hri
    refine ⟨by rw [a2]; rfl, _, l', v1, lv', d', (hz2 a2).1, a3, a4, hp, fun c T X hsu hw => ?_, hfs, hnx⟩
    have hsc := h.vol.dev.ok.sure
    obtain ⟨b1, b2, b3, b4⟩ := wrF_sure (cellsF l s t) t S n k hF.good hF.ph (by omega) (by omega) (fun c hc => by have := (cellsF_in hc).1; omega) hsc hsu hw
    obtain ⟨c1, c2, c3, c4⟩ := wrF_sure [0, 1, 2] ⟨(En.print l').toArray⟩ _ (n + (cellsF l s t).length) (k + (cellsF l s t).length) ha.2.1 ha.2.2.1 (by simp; omega) (by simp; omega) (fun c hc => by
      simp only [List.mem_cons, List.not_mem_nil, or_false] at hc
      omega) b4 b1 b2
    exact ⟨c1, c2, c3.trans b3⟩
theorem fdelG (B : Base w0 kb kt) (LB : En.Lb w0) (hF : Fok kb kt S l n k) (hk : k + 24 < 108) (hn : n + 3000 < 900000000) (h : Fm w0 w fb vb db cb kb kt S v lv d l) (s : ByteArray) (hin : ∃ f ∈ l, f.nm = s) :
    Calls Tryz.prog 17 #[.pointer (some ⟨fb, 0, none⟩), .string s] w fun e w' => e = .returned .nilIface ∧ ∃ S' v' lv' d', Fm w0 w' fb vb db cb kb kt S' v' lv' d' (butL l s) ∧ Fok kb kt S' (butL l s) (n + 24) (k + 3) ∧ (∀ u, txtOf S'.X (butL l s) u = if u = s then none else txtOf S.X l u) ∧ Stays kb kt S S' ∧ Fs (fun k => k = fb ∨ VP vb db cb v k) w w' ∧ (∀ k, k < w.heap.size → ¬ VP vb db cb v k → ¬ VP vb db cb v' k) := by
  refine (fdel_any B LB n hF.good.ok (by omega) h hF.right s).mono ?_
  rintro e w' (⟨h1, _⟩ | ⟨_, rfl, hok, d', lv', v', hz, _, hfs, hnx⟩)
  · obtain ⟨f, hf, hfn⟩ := hin
    exact absurd hfn (h1 f hf)
  · obtain ⟨a2, a3, a4, a5⟩ := del_fok hF (by omega) (by omega) s
    refine ⟨by rw [a2]; rfl, _, v', lv', d', (hz a2).1, a3, a4, fun c T X hsu hw => ?_, hfs, hnx⟩
    obtain ⟨c1, c2, c3, c4⟩ := wrF_sure [0, 1, 2] ⟨(En.print (butL l s)).toArray⟩ S n k hF.good hF.ph (by simp; omega) (by simp; omega) (fun c hc => by
      simp only [List.mem_cons, List.not_mem_nil, or_false] at hc
      omega) h.vol.dev.ok.sure hsu hw
    exact ⟨c1, c2, c3⟩
theorem fflushG (B : Base w0 kb kt) (hF : Fok kb kt S l n k) (hn : n < 900000000) (h : Fm w0 w fb vb db cb kb kt S v lv d l) :
    Calls Tryz.prog 19 #[.pointer (some ⟨fb, 0, none⟩)] w fun e w' => e = .returned .nilIface ∧ ∃ v', Fm w0 w' fb vb db cb kb kt (S.flush kt).2 v' lv d l ∧ Fok kb kt (S.flush kt).2 l (n + 1) k ∧ (S.flush kt).2.X = S.X ∧ (S.flush kt).2.c = S.c + 1 ∧ Sure kb kt (S.flush kt).2.D (S.flush kt).2.c (S.flush kt).2.T (S.flush kt).2.X ∧ (S.flush kt).2.D.ws = [] ∧ Fs (VP vb db cb v) w w' ∧ (∀ k, k < w.heap.size → ¬ VP vb db cb v k → ¬ VP vb db cb v' k) := by
  refine (fflush_any B (hF.good.ok.next (by omega)) hF.good.ok.nc h).mono ?_
  rintro e w' ⟨rfl, hv⟩
  obtain ⟨v', hF', hfs, hnx⟩ := h.vto hv
  obtain ⟨h1, h2, h3, h4, h5, h6⟩ := flush_ph hF.good (by omega) hF.ph
  obtain ⟨s1, s2⟩ := flush_sure hF.good (by omega)
  exact ⟨by rw [h1]; rfl, v', hF', ⟨h2, h3, hF.right, by rw [h4]; exact hF.dir⟩, h4, h5, s1, s2, hfs, hnx⟩
end
end Fl
end Go.Proofs.YtlgocfgnfdnloaaGreatDoor
end
section
namespace Go.Proofs.YtlgocfgnfdnloaaGreatDoor
set_option maxRecDepth 100000
namespace Fl
open Go.RowKit Go.Sort Go.Shelf
open En (Fi Fls Ints fval Row freeL allC need nameB filled)
open Vl
open Tw (Tb)
theorem catL_in {X Y : Nat → ByteArray} (h : ∀ i, i < 24 → X i = Y i) {cs : List Int} (hc : ∀ c ∈ cs, 0 ≤ c ∧ c < 24) : catL X cs = catL Y cs := catL_congr (fun c hcc => h _ (by have := hc c hcc; omega))
theorem txtOf_in {X Y : Nat → ByteArray} (h : ∀ i, i < 24 → X i = Y i) {l : List Fi} (hr : En.right l = true) (s : ByteArray) : txtOf X l s = txtOf Y l s :=
  txtOf_congr (fun f hf => catL_in h (fun c hc => by have := cells_in hr hf hc; omega)) s
theorem dir_in {X Y : Nat → ByteArray} (h : ∀ i, i < 24 → X i = Y i) : catL X [0, 1, 2] = catL Y [0, 1, 2] := catL_in h (by simp)
theorem fopenG {w0 w : World} {db cb : Nat} {D : Dv} {c : Int} {v : Value} {T : Tb} {X : Nat → ByteArray} {l : List Fi} (s : ByteArray) (hs : s.size = 16) (hT : Sm.Tab w0) (LB : En.Lb w0) (hc : 0 ≤ c ∧ c < 1000000000) (hw : D.ws.length ≤ 1) (h : DC w0 w db cb D c v) (ht : Vl.Told (kbOf s) (ktOf s) D c T X) (hl : low D c) (hr : En.right l = true) (hp : catL X [0, 1, 2] = En.print l) :
    Calls Tryz.prog 12 #[.pointer (some ⟨db, 0, none⟩), .pointer (some ⟨cb, 0, none⟩), .string s] w fun e w' => ∃ vb S' v' fb lv d, e = .returned (.tuple #[.pointer (some ⟨fb, 0, none⟩), .nilIface]) ∧ Fm w0 w' fb vb db cb (kbOf s) (ktOf s) S' v' lv d l ∧ (S'.D = D ∧ S'.c = c ∧ S'.dead = false ∧ (c = 0 → S' = fresh D c) ∧ (∀ i, i < 24 → S'.X i = X i) ∧ S'.ok (c + 1) ∧ (c ≠ 0 → Tw.Same S'.T T ∧ whole (kbOf s) (ktOf s) D c ∧ S' = opened (kbOf s) D c c)) ∧ w.heap.size ≤ fb ∧ w.heap.size ≤ vb ∧ Fs (fun k => k = db ∨ k = cb ∨ v.ownBlock = some k) w w' ∧ Nx w v.ownBlock v'.ownBlock := by
  refine (fopen_any s hs hT LB hc hw h).mono ?_
  rintro e w' ⟨vb, r, S', v', hto, hvb, hvol, hf, hn, he⟩
  have ho : OpenIs (kbOf s) (ktOf s) D c r S' := hto
  obtain ⟨hr0, h1, h2, h3, h4, h5, h6⟩ := open_told ht hl ho
  have hpp : En.parse (catL S'.X [0, 1, 2]) = some l := by
    rw [dir_in h6]
    exact (En.parse_iff _ _).2 ⟨hr, hp.symm⟩
  rcases he with ⟨h0, _⟩ | ⟨_, h0, _⟩ | ⟨_, l', fb, lv, d, h0, rfl, hfb, hF⟩
  · exact absurd hr0 h0
  · rw [hpp] at h0; cases h0
  · rw [hpp] at h0
    injection h0 with h0
    subst h0
    exact ⟨vb, S', v', fb, lv, d, rfl, hF, ⟨h1, h2, h3, h4, h6, OpenTo.ok' hto hw hc.1 hr0, h5⟩, hfb, hvb, hf, hn⟩
def nmA : ByteArray := ⟨#[97]⟩
def nmB' : ByteArray := ⟨#[98]⟩
def x100 : ByteArray := ⟨(Lib.repeatL [120] 100).toArray⟩
theorem x100_size : x100.size = 100 := by kernel_rfl
theorem full_a : fullB [] nmA x100 = false := by kernel_rfl
theorem nameA : nameB nmA.data.toList = true := by kernel_rfl
theorem nameBb : nameB nmB'.data.toList = true := by kernel_rfl
theorem full_b : fullB [newF [] nmA x100] nmB' ⟨#[]⟩ = false := by kernel_rfl
theorem but_b : butL [newF [] nmA x100] nmB' = [newF [] nmA x100] := by kernel_rfl
theorem rise_ab (f g : Fi) (hf : f.nm = nmA) (hg : g.nm = nmB') : Rise [f, g] := by
  unfold Rise
  rw [List.pairwise_cons]
  refine ⟨fun x hx => ?_, List.pairwise_singleton _ _⟩
  rw [List.mem_singleton] at hx
  subst hx
  rw [hf, hg, bytesLess_eq, Lib.toList_data, Lib.toList_data]
  decide
theorem len_a : (cellsF [] nmA x100).length = 2 := by kernel_rfl
theorem len_b : (cellsF [newF [] nmA x100] nmB' ⟨#[]⟩).length = 0 := by kernel_rfl
theorem nm_ab {f g : Fi} {l2 : List Fi} (h : l2 = [f, g]) (hf : f.nm = nmA) (hg : g.nm = nmB') : nmV l2 = [.string nmA, .string nmB'] := by subst h; unfold nmV; simp [hf, hg]
set_option maxHeartbeats 8000000 in
theorem filed_any (w : World) (hT : Sm.Tab w) (hL : En.Lb w) : Calls Tryz.prog 36 #[] w fun e w' => e = .returned (.bool true) ∧ Since w w' := by
  have HT : Hid (Sm.Tab w ∧ En.Lb w) := ⟨hT, hL⟩
  have HB : Hid (Base w (kbOf sec) (ktOf sec)) := ⟨hT, keyOf_size _ _, keyOf_size _ _⟩
  clear hT hL
  have HOP : Hid (∀ (W : World) (db cb : Nat) (D : Dv) (c : Int) (v : Value) (T : Tb) (X : Nat → ByteArray) (l : List Fi), 0 ≤ c ∧ c < 1000000000 → D.ws.length ≤ 1 → DC w W db cb D c v → Vl.Told (kbOf sec) (ktOf sec) D c T X → low D c → En.right l = true → catL X [0, 1, 2] = En.print l → Calls Tryz.prog 12 #[.pointer (some ⟨db, 0, none⟩), .pointer (some ⟨cb, 0, none⟩), .string ⟨#[48, 49, 50, 51, 52, 53, 54, 55, 56, 57, 97, 98, 99, 100, 101, 102]⟩] W fun e w' => ∃ vb S' v' fb lv d, e = .returned (.tuple #[.pointer (some ⟨fb, 0, none⟩), .nilIface]) ∧ Fm w w' fb vb db cb (kbOf sec) (ktOf sec) S' v' lv d l ∧ (c = 0 → S' = fresh D c) ∧ (∀ i, i < 24 → S'.X i = X i) ∧ S'.ok (c + 1)) := fun W db cb D c v T X l hc hw hd ht hl hr hp => (fopenG sec rfl HT.out.1 HT.out.2 hc hw hd ht hl hr hp).mono (fun e w' hh => by
    obtain ⟨vb, S', v', fb, lv, d, rfl, hF, ⟨_, _, _, h4, h5, h6, _⟩, _⟩ := hh
    exact ⟨vb, S', v', fb, lv, d, rfl, hF, h4, h5, h6⟩)
  generalize kbOf sec = kb at *
  generalize ktOf sec = kt at *
  have hx : ∀ W, Calls Tryz.prog 104 #[.string ⟨#[120]⟩, .int .i64 ((100 : Nat) : Int)] W fun e w' => e = .returned (.string x100) ∧ Below W.heap.size W w' := fun W => repeat_any ⟨#[120]⟩ 100 W (by omega) (by decide)
  have HX : Hid (∀ W, Calls Tryz.prog 104 #[.string ⟨#[120]⟩, .int .i64 100] W fun e w' => e = .returned (.string x100) ∧ Since W w') := hx
  clear hx
  have h100 : x100.size = 100 := x100_size
  have H100 : Hid (x100.size = 100) := h100
  go_enter Tryz.func36, Tryz.ntmps36
  go_wp2_with fail
  refine (new_any _).mono ?_
  rintro e w1 ⟨rfl, rfl⟩
  go_wp2_with fail
  have hdc := dc_new w
  generalize (w.alloc (.cells Tryz.zeroCells129 129)).alloc (.cells #[.int .i64 0] 30) = w1 at *
  generalize w.heap.size + 1 = cb at *
  generalize w.heap.size = db at *
  have HDC : Hid (DC w w1 db cb dv0 0 (.slice none 0 0)) := hdc
  clear hdc
  refine (HOP.out _ _ _ _ _ _ _ _ [] (by omega) (by show 0 ≤ 1; omega) HDC.out (fresh_good kb kt).2.2 (fresh_good kb kt).1.low right_nil rfl).mono ?_
  rintro e w2 ⟨vb, S0, v0, fb, lv0, d0, rfl, hF0, hfr, _, _⟩
  obtain rfl := hfr rfl
  have HF0 : Hid (Fm w w2 fb vb db cb kb kt (fresh dv0 0) v0 lv0 d0 []) := hF0
  clear hF0 hfr
  go_wp2_with fail
  refine (HX.out _).mono ?_
  rintro e w3 ⟨rfl, hs3⟩
  have HF0' : Hid (Fm w w3 fb vb db cb kb kt (fresh dv0 0) v0 lv0 d0 []) := HF0.out.since hs3
  clear hs3
  have hp1 := fputG HB.out HT.out.2 (fresh_fok kb kt) (by omega) (by omega) HF0'.out nmA x100 (by decide) (by omega) nameA full_a
  have HP1 : Hid (Calls Tryz.prog 15 #[.pointer (some ⟨fb, 0, none⟩), .string ⟨#[97]⟩, .string x100] w3 fun e w' => e = .returned .nilIface ∧ ∃ S' l' v' lv' d', Fm w w' fb vb db cb kb kt S' v' lv' d' l' ∧ Fok kb kt S' l' (0 + 24) (0 + (cellsF [] nmA x100).length + 3) ∧ (∀ u, txtOf S'.X l' u = if u = nmA then some x100.data.toList else txtOf (fresh dv0 0).X [] u) ∧ (butL [] nmA ++ [newF [] nmA x100]).Perm l' ∧ Stays kb kt (fresh dv0 0) S' ∧ Fs (fun k => k = fb ∨ VP vb db cb v0 k) w3 w' ∧ (∀ k, k < w3.heap.size → ¬ VP vb db cb v0 k → ¬ VP vb db cb v' k)) := hp1
  clear hp1 h100
  generalize hX1 : x100 = xx at *
  have HXX : Hid (x100 = xx) := hX1
  clear hX1
  go_wp2_with fail
  refine HP1.out.mono ?_
  rintro e w4 ⟨rfl, S1, l1, v1, lv1, d1, hF1, hok1, htx1, hp1, hst1, _, _⟩
  obtain rfl : l1 = [newF [] nmA xx] := List.perm_singleton.1 hp1.symm
  have hl1 := len_a
  rw [HXX.out] at hl1
  rw [hl1] at hok1
  have H1 : Hid (Fm w w4 fb vb db cb kb kt S1 v1 lv1 d1 [newF [] nmA xx] ∧ Fok kb kt S1 [newF [] nmA xx] 24 5 ∧ (∀ u, txtOf S1.X [newF [] nmA xx] u = if u = nmA then some xx.data.toList else txtOf (fresh dv0 0).X [] u) ∧ Stays kb kt (fresh dv0 0) S1) := ⟨hF1, hok1, htx1, hst1⟩
  clear hF1 hok1 htx1 hp1 hst1 hl1
  have hfb := full_b
  rw [HXX.out] at hfb
  have hp2 := fputG HB.out HT.out.2 H1.out.2.1 (by omega) (by omega) H1.out.1 nmB' ⟨#[]⟩ (by decide) (by decide) nameBb hfb
  have HP2 : Hid (Calls Tryz.prog 15 #[.pointer (some ⟨fb, 0, none⟩), .string ⟨#[98]⟩, .string ⟨#[]⟩] w4 fun e w' => e = .returned .nilIface ∧ ∃ S' l' v' lv' d', Fm w w' fb vb db cb kb kt S' v' lv' d' l' ∧ Fok kb kt S' l' (24 + 24) (5 + (cellsF [newF [] nmA xx] nmB' ⟨#[]⟩).length + 3) ∧ (∀ u, txtOf S'.X l' u = if u = nmB' then some (⟨#[]⟩ : ByteArray).data.toList else txtOf S1.X [newF [] nmA xx] u) ∧ (butL [newF [] nmA xx] nmB' ++ [newF [newF [] nmA xx] nmB' ⟨#[]⟩]).Perm l' ∧ Stays kb kt S1 S' ∧ Fs (fun k => k = fb ∨ VP vb db cb v1 k) w4 w' ∧ (∀ k, k < w4.heap.size → ¬ VP vb db cb v1 k → ¬ VP vb db cb v' k)) := hp2
  clear hp2 hfb
  go_wp2_with fail
  refine HP2.out.mono ?_
  rintro e w5 ⟨rfl, S2, l2, v2, lv2, d2, hF2, hok2, htx2, hp2, hst2, _, _⟩
  have hl2 := len_b
  have hbb := but_b
  have hfb := full_b
  rw [HXX.out] at hl2 hbb hfb
  rw [hl2] at hok2
  rw [hbb] at hp2
  have hfit := fit_new ((right_iff _).1 H1.out.2.1.right).1 nameBb hfb
  rw [hbb] at hfit
  obtain rfl : l2 = [newF [] nmA xx] ++ [newF [newF [] nmA xx] nmB' ⟨#[]⟩] := hfit.uniq hp2 (List.Perm.refl _) (rise_right hok2.right) (rise_ab _ _ rfl rfl)
  have hnm : nmV ([newF [] nmA xx] ++ [newF [newF [] nmA xx] nmB' ⟨#[]⟩]) = [.string nmA, .string nmB'] := nm_ab rfl rfl rfl
  have hia : ∃ f ∈ ([newF [] nmA xx] ++ [newF [newF [] nmA xx] nmB' ⟨#[]⟩]), f.nm = nmA := ⟨newF [] nmA xx, by simp, rfl⟩
  have hle2 : ([newF [] nmA xx] ++ [newF [newF [] nmA xx] nmB' ⟨#[]⟩]).length = 2 := rfl
  generalize ([newF [] nmA xx] ++ [newF [newF [] nmA xx] nmB' ⟨#[]⟩]) = l2 at *
  have hta : txtOf S2.X l2 nmA = some xx.data.toList := by
    rw [htx2, if_neg (by decide), H1.out.2.2.1, if_pos rfl]
  have H2 : Hid (Fm w w5 fb vb db cb kb kt S2 v2 lv2 d2 l2 ∧ Fok kb kt S2 l2 48 8 ∧ txtOf S2.X l2 nmA = some xx.data.toList ∧ Stays kb kt S1 S2 ∧ nmV l2 = [.string nmA, .string nmB'] ∧ (∃ f ∈ l2, f.nm = nmA) ∧ l2.length = 2) := ⟨hF2, hok2, hta, hst2, hnm, hia, hle2⟩
  clear hF2 hok2 htx2 hp2 hst2 hl2 hbb hfb hfit hta hnm hia hle2
  have hf3 := fflushG HB.out H2.out.2.1 (by omega) H2.out.1
  have HF3 : Hid (Calls Tryz.prog 19 #[.pointer (some ⟨fb, 0, none⟩)] w5 fun e w' => e = .returned .nilIface ∧ ∃ v', Fm w w' fb vb db cb kb kt (S2.flush kt).2 v' lv2 d2 l2 ∧ Fok kb kt (S2.flush kt).2 l2 (48 + 1) 8 ∧ (S2.flush kt).2.X = S2.X ∧ (S2.flush kt).2.c = S2.c + 1 ∧ Sure kb kt (S2.flush kt).2.D (S2.flush kt).2.c (S2.flush kt).2.T (S2.flush kt).2.X ∧ (S2.flush kt).2.D.ws = [] ∧ Fs (VP vb db cb v2) w5 w' ∧ (∀ k, k < w5.heap.size → ¬ VP vb db cb v2 k → ¬ VP vb db cb v' k)) := hf3
  clear hf3
  go_wp2_with fail
  refine HF3.out.mono ?_
  clear HF3
  generalize (S2.flush kt).2 = S3 at *
  rintro e w6 ⟨rfl, v3, hF3, hok3, hx3, hc3, hsu3, hws3, _, _⟩
  have hc31 : S3.c = 1 := by
    obtain ⟨s1, s2, s3⟩ := H1.out.2.2.2 0 Tb.zero (fun _ => ⟨#[]⟩) (sure_zero kb kt) rfl
    obtain ⟨t1, t2, t3⟩ := H2.out.2.2.2.1 0 Tb.zero (fun _ => ⟨#[]⟩) s1 s2
    rw [hc3, t3, s3]
    rfl
  have H3 : Hid (Fm w w6 fb vb db cb kb kt S3 v3 lv2 d2 l2 ∧ Fok kb kt S3 l2 49 8 ∧ S3.X = S2.X ∧ S3.c = 1 ∧ Sure kb kt S3.D S3.c S3.T S3.X ∧ S3.D.ws = []) := ⟨hF3, hok3, hx3, hc31, hsu3, hws3⟩
  clear hF3 hok3 hx3 hc3 hsu3 hws3 hc31
  have hd4 := fdelG HB.out HT.out.2 H3.out.2.1 (by omega) (by omega) H3.out.1 nmA H2.out.2.2.2.2.2.1
  have HD4 : Hid (Calls Tryz.prog 17 #[.pointer (some ⟨fb, 0, none⟩), .string ⟨#[97]⟩] w6 fun e w' => e = .returned .nilIface ∧ ∃ S' v' lv' d', Fm w w' fb vb db cb kb kt S' v' lv' d' (butL l2 nmA) ∧ Fok kb kt S' (butL l2 nmA) (49 + 24) (8 + 3) ∧ (∀ u, txtOf S'.X (butL l2 nmA) u = if u = nmA then none else txtOf S3.X l2 u) ∧ Stays kb kt S3 S' ∧ Fs (fun k => k = fb ∨ VP vb db cb v3 k) w6 w' ∧ (∀ k, k < w6.heap.size → ¬ VP vb db cb v3 k → ¬ VP vb db cb v' k)) := hd4
  clear hd4
  go_wp2_with fail
  refine HD4.out.mono ?_
  rintro e w7 ⟨rfl, S4, v4, lv4, d4, hF4, _, _, hst4, _, _⟩
  have H4 : Hid (Fm w w7 fb vb db cb kb kt S4 v4 lv4 d4 (butL l2 nmA) ∧ Stays kb kt S3 S4) := ⟨hF4, hst4⟩
  clear hF4 hst4
  go_wp2_with fail
  refine (crash_any S4.D v4 db 0 0 _ _ (fun _ => 0) (fun _ => false) _ H4.out.1.vol.dev (sl_nil _ _ _) (sl_nil _ _ _)).mono ?_
  rintro e w8 ⟨rfl, hd6, hf6⟩
  have HS : Hid (Vl.Told kb kt (S4.D.crashed 0 (fun _ => 0) 0 (fun _ => false)) S3.c S3.T S3.X ∧ low (S4.D.crashed 0 (fun _ => 0) 0 (fun _ => false)) S3.c ∧ DC w w8 db cb (S4.D.crashed 0 (fun _ => 0) 0 (fun _ => false)) S3.c (.slice none 0 0)) := by
    obtain ⟨h1, h2, h3⟩ := H4.out.2 _ _ _ H3.out.2.2.2.2.1 H3.out.2.2.2.2.2
    obtain ⟨h4, h5⟩ := sure_crash h1 h2 0 (fun _ => 0) 0 (fun _ => false)
    have h6 := H4.out.1.vol.dc
    rw [h3] at h6
    exact ⟨h4, h5, h6.turn hd6 hf6 rfl⟩
  clear hd6 hf6
  go_wp2_with fail
  refine (HOP.out _ _ _ _ _ _ _ _ l2 (by have := H3.out.2.2.2.1; omega) (by show 0 ≤ 1; omega) HS.out.2.2 HS.out.1 HS.out.2.1 H2.out.2.1.right (by rw [H3.out.2.2.1]; exact H2.out.2.1.dir)).mono ?_
  rintro e w9 ⟨vc, S7, v7, fc, lv7, d7, rfl, hF7, _, hx7, hok7⟩
  have htx : txtOf S7.X l2 nmA = some xx.data.toList := by
    rw [txtOf_in hx7 H2.out.2.1.right, H3.out.2.2.1]
    exact H2.out.2.2.1
  have hxs : (⟨xx.data.toList.toArray⟩ : ByteArray) = xx := rfl
  have hnn := fnames_any hF7 (by rw [H2.out.2.2.2.2.2.2]; omega)
  rw [H2.out.2.2.2.2.1, H2.out.2.2.2.2.2.2] at hnn
  have HNN : Hid (Calls Tryz.prog 28 #[.pointer (some ⟨fc, 0, none⟩)] w9 fun e w' => ∃ x, e = .returned x ∧ w'.ownsRow w9.heap.size 9 1 x 2 [.string nmA, .string nmB'] ∧ Since w9 w') := hnn
  have HG : Hid (∀ W, Since w9 W → Calls Tryz.prog 34 #[.pointer (some ⟨fc, 0, none⟩), .string ⟨#[97]⟩] W fun e w' => e = .returned (.tuple #[.string xx, .nilIface]) ∧ Since W w') := fun W hW => by
    have := fget_any (hF7.since hW) H2.out.2.1.right hok7.txt nmA
    rw [htx] at this
    exact this
  have H7 : Hid (Since w w9) := hF7.vol.since
  clear hF7 hx7 hok7 htx hnn hxs
  go_wp2_with fail
  refine HNN.out.mono ?_
  rintro e w10 ⟨xv, rfl, hxo, hs10⟩
  rcases hxo.2 with ⟨_, h0⟩ | ⟨g, cap, cur, rfl, hb, hg, hnc, _⟩
  · cases h0
  have HE : Hid (∀ W b1, Since w10 W → (W.cell? ⟨b1, 0, none⟩ = some (.string nmA) ∧ W.cell? ⟨b1, 1, none⟩ = some (.string nmB')) → 0 < b1 → Calls Tryz.prog 105 #[.slice (some ⟨g, 0, none⟩) 2 cap, .slice (some ⟨b1, 0, none⟩) 2 2] W fun e w' => e = .returned (.bool true) ∧ Since W w') := fun W b1 hW hb1 h1 => by
    have h0g : 0 < g := by
      have := hb
      have : 0 < w9.heap.size := by
        obtain ⟨m, hm⟩ := (HT.out.2.since H7.out).max
        have := World.block_lt_of_cell? _ _ hm
        omega
      omega
    refine eq_any 0 2 _ _ (fun j => if j = 0 then nmA else nmB') (fun j => if j = 0 then nmA else nmB') W ⟨_, _, rfl, fun _ => ⟨g, 0, rfl, by omega, fun j hj => ?_⟩⟩ ⟨_, _, rfl, fun _ => ⟨b1, 0, rfl, by omega, fun j hj => ?_⟩⟩ (fun _ _ => rfl) (by omega)
    · have hc := hxo.cellAt j (by omega)
      rw [Nat.zero_add, hW.cell (p := ⟨g, j, none⟩) (hxo.lt g rfl).2, hc]
      have : j = 0 ∨ j = 1 := by omega
      rcases this with rfl | rfl <;> rfl
    · have : j = 0 ∨ j = 1 := by omega
      rcases this with rfl | rfl
      · exact hb1.1
      · exact hb1.2
  have HS10 : Hid (Since w9 w10 ∧ 0 < w10.heap.size) := ⟨hs10, by have := (hxo.lt g rfl).2; omega⟩
  clear hxo hs10 hb hg hnc
  go_wp2_with fail
  refine (HE.out _ w10.heap.size ((Since.refl _).alloc _) ⟨by simp [nmA], by simp [nmB']⟩ HS10.out.2).mono ?_
  rintro e w11 ⟨rfl, hs11⟩
  have HS11 : Hid (Since w9 w11) := HS10.out.1.trans (((Since.refl _).alloc _).trans hs11)
  clear hs11
  go_wp2_with fail
  refine (HG.out _ HS11.out).mono ?_
  rintro e w12 ⟨rfl, hs12⟩
  have HS12 : Hid (Since w9 w12) := HS11.out.trans hs12
  clear hs12
  go_wp2_with fail
  refine (HX.out _).mono ?_
  rintro e w13 ⟨rfl, hs13⟩
  have HS13 : Hid (Since w w13) := H7.out.trans (HS12.out.trans hs13)
  clear hs13
  go_wp2_with fail
  go_ret
  exact ⟨rfl, HS13.out⟩
end Fl
end Go.Proofs.YtlgocfgnfdnloaaGreatDoor
end
