/- Files as text: the reference's Right, what is free, how long all is. -/
import Derived.Test.YtceoamhenpohhaaGreatDoorEM
namespace Go.Proofs.YtceoamhenpohhaaGreatDoor
set_option linter.unusedSimpArgs false
set_option linter.unusedVariables false
namespace En
def put (L : List Int) (c : Int) : List Int := if c ∈ L then L else L ++ [c]
def putAll (L cs : List Int) : List Int := cs.foldl put L
def okR (b : Option ByteArray) (f : Fi) : Bool := nameB f.nm.data.toList && (match b with | none => true | some x => gtB f.nm x) && filled f
def rrF : Option ByteArray → List Int → Nat → List Fi → Option (List Int × Nat)
  | _, L, n, [] => some (L, n)
  | b, L, n, f :: r => if okR b f = true ∧ f.cs.all cellB = true then rrF (some f.nm) (putAll L f.cs) (n + f.cs.length) r else none
def rightR (l : List Fi) : Bool := match rrF none [] 0 l with
  | some (L, n) => decide (L.length = n) && decide (l.length ≤ 8)
  | none => false
theorem put_le (L : List Int) (c : Int) : (put L c).length ≤ L.length + 1 := by
  unfold put; split <;> simp
theorem putAll_le : ∀ (cs L : List Int), (putAll L cs).length ≤ L.length + cs.length
  | [], L => Nat.le_refl _
  | c :: r, L => by
    have h1 := putAll_le r (put L c)
    have h2 := put_le L c
    show (putAll (put L c) r).length ≤ L.length + (r.length + 1)
    omega
theorem putAll_free : ∀ (cs L : List Int), cs.Nodup → (∀ c, c ∈ cs → c ∉ L) → putAll L cs = L ++ cs
  | [], L, _, _ => by simp [putAll]
  | c :: r, L, h1, h2 => by
    show putAll (put L c) r = _
    rw [put, if_neg (h2 c (by simp)), putAll_free r (L ++ [c]) (List.nodup_cons.1 h1).2]
    · simp
    · intro x hx hm
      rcases List.mem_append.1 hm with hm | hm
      · exact h2 x (by simp [hx]) hm
      · rw [List.mem_singleton] at hm
        subst hm
        exact (List.nodup_cons.1 h1).1 hx
theorem putAll_full : ∀ (cs L : List Int), (putAll L cs).length = L.length + cs.length → cs.Nodup ∧ ∀ c, c ∈ cs → c ∉ L
  | [], L, _ => by simp
  | c :: r, L, h => by
    have h0 : (putAll (put L c) r).length = L.length + (r.length + 1) := h
    have h1 := putAll_le r (put L c)
    have h2 := put_le L c
    by_cases hc : c ∈ L
    · rw [put, if_pos hc] at h1 h0; omega
    · have hp : put L c = L ++ [c] := by rw [put, if_neg hc]
      rw [hp] at h0
      obtain ⟨h3, h4⟩ := putAll_full r (L ++ [c]) (by simp; omega)
      refine ⟨List.nodup_cons.2 ⟨fun hm => h4 c hm (by simp), h3⟩, ?_⟩
      intro x hx
      rcases List.mem_cons.1 hx with rfl | hx
      · exact hc
      · exact fun hm => h4 x hx (by simp [hm])
theorem rrF_low : ∀ (l : List Fi) (b : Option ByteArray) (L : List Int) (n : Nat) (L' : List Int) (n' : Nat), rrF b L n l = some (L', n') → L'.length + n ≤ n' + L.length
  | [], b, L, n, L', n', h => by simp only [rrF] at h; injection h with h; injection h with h1 h2; subst h1 h2; omega
  | f :: r, b, L, n, L', n', h => by
    simp only [rrF] at h
    split at h
    · have h1 := rrF_low r _ _ _ _ _ h
      have h2 := putAll_le f.cs L
      omega
    · cases h
theorem cellB_all (cs : List Int) : cs.all cellB = true ↔ ∀ c, c ∈ cs → 3 ≤ c ∧ c < 24 := by
  simp [List.all_eq_true, cellB]
theorem rr_same : ∀ (l : List Fi) (b : Option ByteArray) (b' : ByteArray) (L : List Int), (∀ f, okR b f = (gtB f.nm b' && nameB f.nm.data.toList && filled f)) →
    ((match rrF b L L.length l with | some (L', n') => decide (L'.length = n') | none => false) = rightFrom b' L l)
  | [], b, b', L, hb => by simp [rrF, rightFrom]
  | f :: r, b, b', L, hb => by
    have hb2 : ∀ g, okR (some f.nm) g = (gtB g.nm f.nm && nameB g.nm.data.toList && filled g) := fun g => by simp only [okR, Bool.and_comm (gtB g.nm f.nm)]
    simp only [rrF, rightFrom]
    by_cases h1 : okR b f = true
    · rw [hb f] at h1
      by_cases h2 : takeB L f.cs = true
      · have h3 := (takeB_iff f.cs L).1 h2
        rw [if_pos ⟨by rw [hb f]; exact h1, (cellB_all _).2 h3.1⟩, putAll_free f.cs L h3.2.1 h3.2.2, h1, h2]
        have := rr_same r (some f.nm) f.nm (L ++ f.cs) hb2
        rw [List.length_append] at this
        rw [this]; rfl
      · rw [Bool.not_eq_true] at h2
        rw [h2, Bool.and_false, Bool.false_and]
        by_cases h4 : f.cs.all cellB = true
        · rw [if_pos ⟨by rw [hb f]; exact h1, h4⟩]
          cases h5 : rrF (some f.nm) (putAll L f.cs) (L.length + f.cs.length) r with
          | none => rfl
          | some p =>
            obtain ⟨L', n'⟩ := p
            have h6 := rrF_low _ _ _ _ _ _ h5
            have h7 := putAll_le f.cs L
            refine decide_eq_false fun he => ?_
            have h8 : (putAll L f.cs).length = L.length + f.cs.length := by omega
            have h9 := putAll_full f.cs L h8
            rw [(takeB_iff f.cs L).2 ⟨(cellB_all _).1 h4, h9.1, h9.2⟩] at h2
            cases h2
        · rw [if_neg (fun h => h4 h.2)]
    · rw [if_neg (fun h => h1 h.1)]
      rw [hb f, Bool.not_eq_true] at h1
      rw [h1]; rfl
theorem gt_empty (f : Fi) : okR none f = (gtB f.nm ⟨#[]⟩ && nameB f.nm.data.toList && filled f) := by
  simp only [okR, Bool.and_true]
  by_cases h : nameB f.nm.data.toList = true
  · have : gtB f.nm ⟨#[]⟩ = true := by
      have hn := (name_free h).2.2.1
      have e : f.nm.toList ≠ [] := by rw [Lib.toList_data]; exact hn
      unfold gtB
      generalize f.nm.toList = x at *
      have e0 : (⟨#[]⟩ : ByteArray).toList = [] := by rw [Lib.toList_data]
      rw [e0]
      cases x with
      | nil => exact absurd rfl e
      | cons a t => rfl
    rw [this]; rfl
  · rw [Bool.not_eq_true] at h
    rw [h]; simp
theorem right_same (l : List Fi) : rightR l = right l := by
  have h := rr_same l none ⟨#[]⟩ [] gt_empty
  unfold rightR right
  rw [← h]
  simp only [List.length_nil]
  cases rrF none [] 0 l with
  | none => simp
  | some p => simp [Bool.and_comm]
/-! what is free -/
def allC (l : List Fi) : List Int := (l.map Fi.cs).flatten
def files21 : List Int := [3, 4, 5, 6, 7, 8, 9, 10, 11, 12, 13, 14, 15, 16, 17, 18, 19, 20, 21, 22, 23]
def freeL (l : List Fi) : List Int := files21.filter (fun c => !(decide (c ∈ allC l)))
theorem rightFrom_cells : ∀ (l : List Fi) (b : ByteArray) (L : List Int), rightFrom b L l = true → (∀ c, c ∈ allC l → 3 ≤ c ∧ c < 24) ∧ (allC l).Nodup ∧ ∀ c, c ∈ allC l → c ∉ L
  | [], b, L, _ => by simp [allC]
  | f :: r, b, L, h => by
    rw [rightFrom, Bool.and_eq_true, Bool.and_eq_true] at h
    obtain ⟨⟨_, h2⟩, h3⟩ := h
    obtain ⟨a1, a2, a3⟩ := (takeB_iff _ _).1 h2
    obtain ⟨b1, b2, b3⟩ := rightFrom_cells r _ _ h3
    have e : allC (f :: r) = f.cs ++ allC r := by simp [allC]
    rw [e]
    refine ⟨?_, ?_, ?_⟩
    · intro c hc
      rcases List.mem_append.1 hc with hc | hc
      · exact a1 c hc
      · exact b1 c hc
    · rw [List.nodup_append]
      refine ⟨a2, b2, fun x hx y hy e => ?_⟩
      subst e
      exact b3 x hy (by simp [hx])
    · intro c hc
      rcases List.mem_append.1 hc with hc | hc
      · exact a3 c hc
      · exact fun hm => b3 c hc (by simp [hm])
theorem filter_out : ∀ (A B : List Int), A.Nodup → B.Nodup → (∀ x, x ∈ A → x ∈ B) → (B.filter (fun c => !(decide (c ∈ A)))).length + A.length = B.length
  | [], B, _, _, _ => by simp
  | a :: r, B, h1, h2, h3 => by
    have ih := filter_out r B (List.nodup_cons.1 h1).2 h2 (fun x hx => h3 x (by simp [hx]))
    have e : B.filter (fun c => !(decide (c ∈ a :: r))) = (B.filter (fun c => !(decide (c ∈ r)))).erase a := by
      rw [List.Nodup.erase_eq_filter (List.Pairwise.filter _ h2), List.filter_filter]
      congr 1
      funext c
      by_cases hc : c = a
      · subst hc; simp
      · simp [hc]
    have hm : a ∈ B.filter (fun c => !(decide (c ∈ r))) := List.mem_filter.2 ⟨h3 a (by simp), by simp [(List.nodup_cons.1 h1).1]⟩
    rw [e, List.length_erase_of_mem hm]
    have := List.length_pos_of_mem hm
    simp only [List.length_cons]
    omega
theorem mem21 (c : Int) : c ∈ files21 ↔ 3 ≤ c ∧ c < 24 := by
  simp only [files21, List.mem_cons, List.not_mem_nil, or_false]
  omega
theorem free_count {l : List Fi} (h : right l = true) : (freeL l).length + (allC l).length = 21 := by
  rw [right, Bool.and_eq_true] at h
  obtain ⟨h1, h2, _⟩ := rightFrom_cells l _ _ h.2
  exact filter_out (allC l) files21 h2 (by decide) (fun x hx => (mem21 x).2 (h1 x hx))
theorem free_not {l : List Fi} {c : Int} (h : c ∈ allC l) : c ∉ freeL l := by
  intro hm
  have := (List.mem_filter.1 hm).2
  simp [h] at this
theorem free_sorted (l : List Fi) : (freeL l).Pairwise (· ≤ ·) := (show files21.Pairwise (· ≤ ·) by decide).filter _
theorem mem_allC {l : List Fi} {f : Fi} {c : Int} (h : f ∈ l) (hc : c ∈ f.cs) : c ∈ allC l := List.mem_flatten.2 ⟨f.cs, List.mem_map.2 ⟨f, h, rfl⟩, hc⟩
/-! how long -/
theorem dec_len {u : Nat} (h : u < 10000) : (Lib.decDigits u).length ≤ 4 := by
  rw [Lib.decDigits]; split
  · simp
  · rw [Lib.decDigits]; split
    · simp
    · rw [Lib.decDigits]; split
      · simp
      · rw [Lib.decDigits]; split
        · simp
        · omega
theorem dec_len2 {u : Nat} (h : u < 100) : (Lib.decDigits u).length ≤ 2 := by
  rw [Lib.decDigits]; split
  · simp
  · rw [Lib.decDigits]; split
    · simp
    · omega
theorem joinTail_len : ∀ (cs : List Int), (∀ c, c ∈ cs → 3 ≤ c ∧ c < 24) → (Lib.joinTail [32] (cs.map Lib.itoa)).length ≤ 3 * cs.length
  | [], _ => by simp [Lib.joinTail]
  | c :: r, h => by
    have ih := joinTail_len r (fun x hx => h x (by simp [hx]))
    have hc := h c (by simp)
    have := dec_len2 (u := c.toNat) (by omega)
    rw [← itoa_dec (by omega)] at this
    simp only [Lib.joinTail, List.map_cons, List.flatten_cons, List.length_append, List.length_cons, List.length_nil] at ih ⊢
    omega
theorem Good.line_len {f : Fi} (h : Good f) : (line f).length ≤ 16 + 3 * f.cs.length := by
  have h1 := (name_free h.name).2.2.2
  have h2 := dec_len (u := f.sz.toNat) (by have := h.sz1; have := h.sz0; omega)
  rw [← itoa_dec h.sz0] at h2
  have h3 := joinTail_len f.cs h.cell
  have e : line f = f.nm.data.toList ++ ([32] ++ Lib.itoa f.sz ++ Lib.joinTail [32] (f.cs.map Lib.itoa)) ++ [10] := by
    simp [line, words, Lib.join_cons, Lib.joinTail]
  rw [e]
  simp only [List.length_append, List.length_cons, List.length_nil]
  omega
theorem print_len : ∀ (l : List Fi), (∀ f, f ∈ l → Good f) → (print l).length ≤ 16 * l.length + 3 * (allC l).length
  | [], _ => by simp [print]
  | f :: r, h => by
    have ih := print_len r (fun g hg => h g (by simp [hg]))
    have h1 := (h f (by simp)).line_len
    have e1 : print (f :: r) = line f ++ print r := by simp [print]
    have e2 : allC (f :: r) = f.cs ++ allC r := by simp [allC]
    rw [e1, e2, List.length_append, List.length_append, List.length_cons]
    omega
theorem print_fits {l : List Fi} (h : right l = true) : (print l).length ≤ 200 := by
  have h1 := print_len l (right_good h)
  have h2 := free_count h
  rw [right, Bool.and_eq_true, decide_eq_true_eq] at h
  omega
end En
end Go.Proofs.YtceoamhenpohhaaGreatDoor
