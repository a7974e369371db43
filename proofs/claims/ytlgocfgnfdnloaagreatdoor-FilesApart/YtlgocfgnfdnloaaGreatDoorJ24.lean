import Derived.Test.YtlgocfgnfdnloaaGreatDoorJ05
import Derived.Test.YtlgocfgnfdnloaaGreatDoorJ07
import Derived.Test.YtlgocfgnfdnloaaGreatDoorJ20
import Derived.Test.YtlgocfgnfdnloaaGreatDoorJ21
import Derived.Test.YtlgocfgnfdnloaaGreatDoorJ22
import Derived.Test.YtlgocfgnfdnloaaGreatDoorJ23
set_option linter.unusedSimpArgs false
set_option linter.unusedVariables false
section
namespace Go.Proofs.YtlgocfgnfdnloaaGreatDoor
namespace Vl
open Go.RowKit
open Tw (Tb)
structure Vs where
  D : Dv
  c : Int
  T : Tb
  X : Nat → ByteArray
  dead : Bool
def Vs.atf (S : Vs) : Nat → Int := fun z => (S.D.cnt z : Int)
def Vs.free (S : Vs) : Int := Sp.freeTo S.atf 8
def room (f : Nat → Int) (but : Int) : Option Nat := (List.range 8).find? (fun i => decide ((i : Int) ≠ but) && decide (f i < 16))
def vicTo (f g : Nat → Int) : Nat → Option Nat
  | 0 => none
  | k + 1 => if 16 ≤ f k then (match vicTo f g k with | none => some k | some v => if g k < g v then some k else some v) else vicTo f g k
def updT (T : Tb) (i : Nat) (z o : Int) (t : ByteArray) : Tb :=
  { T with zone := fun j => if j = i then z else T.zone j, off := fun j => if j = i then o else T.off j, tag := fun j => if j = i then t else T.tag j }
def updX (X : Nat → ByteArray) (i : Nat) (t : ByteArray) : Nat → ByteArray := fun j => if j = i then t else X j
def Vs.set (S : Vs) (i : Nat) (z o : Int) (t x : ByteArray) : Vs := { S with T := updT S.T i z o t, X := updX S.X i x }
def Vs.put (kb : ByteArray) (S : Vs) (i : Nat) (but : Int) (t : ByteArray) : Int × Vs :=
  match room S.atf but with
  | none => (12, S)
  | some z => if S.D.may = false then (14, { S with dead := true }) else
    (0, { S with D := S.D.burnt.app z (Sl.sealOf kb i t), T := updT S.T i z (S.D.cnt z) ((Sl.sealOf kb i t).extract 0 16), X := updX S.X i t })
def Vs.next (S : Vs) : Tb := { S.T with count := S.T.count + 1 }
def Vs.tell (kt : ByteArray) (S : Vs) (U : Tb) : Int × Vs :=
  if S.D.may = false then (14, { S with dead := true }) else
    if (S.D.burnt.wrote (U.count % 2).toNat (Tw.text kt U)).may = false then (14, { S with D := S.D.burnt.wrote (U.count % 2).toNat (Tw.text kt U), dead := true }) else
      (0, { S with D := (S.D.burnt.wrote (U.count % 2).toNat (Tw.text kt U)).burnt.synced, c := U.count })
def Vs.flush (kt : ByteArray) (S : Vs) : Int × Vs :=
  if S.dead then (6, S) else if S.D.may = false then (14, { S with dead := true }) else
    if (({ S with D := S.D.burnt.synced } : Vs).tell kt S.next).1 = 0 then (0, { (({ S with D := S.D.burnt.synced } : Vs).tell kt S.next).2 with T := S.next }) else ({ S with D := S.D.burnt.synced } : Vs).tell kt S.next
def Vs.moves (kb : ByteArray) (z : Int) : List Nat → Vs → Int × Vs
  | [], S => (0, S)
  | i :: r, S => if (S.put kb i z (S.X i)).1 = 0 then Vs.moves kb z r (S.put kb i z (S.X i)).2 else S.put kb i z (S.X i)
def Vs.live (S : Vs) : Nat → Int := fun z => ((Sp.inI S.T (z : Int) 24).length : Int)
def Vs.reclaim (kb kt : ByteArray) (S : Vs) : (Int × Bool × Int) × Vs :=
  if S.dead then ((0, false, 6), S) else
    match vicTo S.atf S.live 8 with
    | none => ((0, false, 0), S)
    | some z =>
      let l := Sp.inI S.T (z : Int) 24
      let r := S.moves kb z l
      if r.1 ≠ 0 then ((0, false, r.1), r.2) else
        let f := r.2.flush kt
        if f.1 ≠ 0 then ((0, false, f.1), f.2) else
          if f.2.D.may = false then ((0, false, 14), { f.2 with dead := true }) else
            ((l.length, true, 0), { f.2 with D := f.2.D.burnt.reset z })
def Vs.write (kb kt : ByteArray) (S : Vs) (i : Int) (t : ByteArray) : Int × Vs :=
  if S.dead then (6, S) else if ¬ (0 ≤ i ∧ i < 24) then (2, S) else if 80 < t.size then (4, S) else if t = S.X i.toNat then (0, S) else
    if t = ⟨#[]⟩ then (0, S.set i.toNat 0 0 ⟨#[]⟩ ⟨#[]⟩) else
      if S.free ≤ 20 then
        (if (S.reclaim kb kt).1.2.2 ≠ 0 then ((S.reclaim kb kt).1.2.2, (S.reclaim kb kt).2) else (S.reclaim kb kt).2.put kb i.toNat (-1) t)
      else S.put kb i.toNat (-1) t
def Vs.read (S : Vs) (i : Int) : ByteArray × Int := if ¬ (0 ≤ i ∧ i < 24) then (⟨#[]⟩, 2) else (S.X i.toNat, 0)
def blkOf (D : Dv) (z o : Int) : ByteArray := txt 128 (D.blk z.toNat o.toNat)
def there (kb : ByteArray) (D : Dv) (T : Tb) (i : Nat) : Prop :=
  T.tag i = ⟨#[]⟩ ∨ ((0 ≤ T.zone i ∧ T.zone i < 8 ∧ 0 ≤ T.off i ∧ T.off i < D.cnt (T.zone i).toNat) ∧ (blkOf D (T.zone i) (T.off i)).extract 0 16 = Sl.tagOf kb i (blkOf D (T.zone i) (T.off i)) ∧ (blkOf D (T.zone i) (T.off i)).extract 0 16 = T.tag i)
def saysTo (kb : ByteArray) (D : Dv) (T : Tb) (k : Nat) : Nat → ByteArray := fun i => if i < k then (if T.tag i = ⟨#[]⟩ then ⟨#[]⟩ else Sl.textOf kb (blkOf D (T.zone i) (T.off i))) else ⟨#[]⟩
def slotTxt (D : Dv) (n : Int) : ByteArray := txt 500 (D.slotBy (n % 2).toNat (fun _ => true))
def tabOk (kt : ByteArray) (D : Dv) (n : Int) : Prop := Tw.tail0 (slotTxt D n) ∧ Tw.rtB (Tw.rd (slotTxt D n)) = true ∧ Tw.text kt (Tw.rd (slotTxt D n)) = (slotTxt D n).extract 0 456 ∧ (Tw.rd (slotTxt D n)).count = n
def whole (kb kt : ByteArray) (D : Dv) (n : Int) : Prop := tabOk kt D n ∧ ∀ i, i < 24 → there kb D (Tw.rd (slotTxt D n)) i
def tabAt (D : Dv) (n : Int) : Tb := Tw.rd (slotTxt D n)
def opened (kb : ByteArray) (D : Dv) (n c : Int) : Vs := { D := D, c := c, T := tabAt D n, X := saysTo kb D (tabAt D n) 24, dead := false }
def fresh (D : Dv) (c : Int) : Vs := { D := D, c := c, T := Tb.zero, X := fun _ => ⟨#[]⟩, dead := false }
def OpenIs (kb kt : ByteArray) (D : Dv) (c r : Int) (S : Vs) : Prop :=
  (whole kb kt D (c + 1) ∧ r = 0 ∧ S = opened kb D (c + 1) (c + 1)) ∨ (¬ whole kb kt D (c + 1) ∧ c = 0 ∧ r = 0 ∧ S = fresh D c) ∨ (¬ whole kb kt D (c + 1) ∧ c ≠ 0 ∧ whole kb kt D c ∧ r = 0 ∧ S = opened kb D c c) ∨ (¬ whole kb kt D (c + 1) ∧ c ≠ 0 ∧ ¬ whole kb kt D c ∧ r = 15 ∧ S = fresh D c)
end Vl
end Go.Proofs.YtlgocfgnfdnloaaGreatDoor
end
section
namespace Go.Proofs.YtlgocfgnfdnloaaGreatDoor
namespace Vl
open Go.RowKit
open Tw (Tb)
open Sp (IsRoom IsVic VicTo)
theorem room_some {f : Nat → Int} {but : Int} {z : Nat} (h : room f but = some z) : z < 8 ∧ (z : Int) ≠ but ∧ f z < 16 := by
  unfold room at h
  have h1 := List.find?_some h
  have h2 := List.mem_of_find?_eq_some h
  simp only [Bool.and_eq_true, decide_eq_true_eq] at h1
  exact ⟨List.mem_range.1 h2, h1.1, h1.2⟩
theorem room_none {f : Nat → Int} {but : Int} (h : room f but = none) (z : Nat) (hz : z < 8) : (z : Int) = but ∨ 16 ≤ f z := by
  unfold room at h
  have h1 := List.find?_eq_none.1 h z (List.mem_range.2 hz)
  simp only [Bool.and_eq_true, decide_eq_true_eq] at h1
  by_cases e : (z : Int) = but
  · exact Or.inl e
  · by_cases e2 : 16 ≤ f z
    · exact Or.inr e2
    · exact absurd ⟨e, by omega⟩ h1
theorem room_first {f : Nat → Int} {but : Int} {z : Nat} (h : room f but = some z) (j : Nat) (hj : j < z) : (j : Int) = but ∨ 16 ≤ f j := by
  obtain ⟨h8, _, _⟩ := room_some h
  unfold room at h
  obtain ⟨_, ls, bs, he, hn⟩ := List.find?_eq_some_iff_append.1 h
  have hlen : ls.length = z := by
    have h1 : (List.range 8)[ls.length]? = some z := by rw [he]; simp
    rw [List.getElem?_range (by
      have := congrArg List.length he
      simp at this
      omega)] at h1
    simpa using h1
  have hm : j ∈ ls := by
    have h1 : (List.range 8)[j]? = some j := by rw [List.getElem?_range (by omega)]
    rw [he, List.getElem?_append_left (by omega)] at h1
    exact List.mem_of_getElem? h1
  have := hn j hm
  simp only [Bool.not_eq_true', Bool.and_eq_false_iff, decide_eq_false_iff_not] at this
  rcases this with h1 | h1
  · exact Or.inl (Decidable.not_not.1 h1)
  · exact Or.inr (by omega)
theorem room_is (f : Nat → Int) (but : Int) : (∃ z, room f but = some z ∧ IsRoom 8 f but z true) ∨ (room f but = none ∧ IsRoom 8 f but 0 false) := by
  cases h : room f but with
  | none => exact Or.inr ⟨rfl, Or.inr ⟨rfl, rfl, fun j hj => room_none h j hj⟩⟩
  | some z =>
    obtain ⟨h1, h2, h3⟩ := room_some h
    exact Or.inl ⟨z, rfl, Or.inl ⟨rfl, z, h1, rfl, h2, h3, fun j hj => room_first h j hj⟩⟩
theorem room_of {f : Nat → Int} {but z : Int} {ok : Bool} (h : IsRoom 8 f but z ok) : (ok = true ∧ ∃ k : Nat, z = k ∧ room f but = some k) ∨ (ok = false ∧ z = 0 ∧ room f but = none) := by
  rcases room_is f but with ⟨k, h1, h2⟩ | ⟨h1, h2⟩
  · obtain ⟨rfl, rfl⟩ := h.one h2
    exact Or.inl ⟨rfl, k, rfl, h1⟩
  · obtain ⟨rfl, rfl⟩ := h.one h2
    exact Or.inr ⟨rfl, rfl, h1⟩
theorem vicTo_is (f g : Nat → Int) : ∀ k, (∃ v : Nat, vicTo f g k = some v ∧ VicTo f g k v true) ∨ (vicTo f g k = none ∧ VicTo f g k 0 false)
  | 0 => Or.inr ⟨rfl, VicTo.zero f g⟩
  | k + 1 => by
    unfold vicTo
    by_cases hk : 16 ≤ f k
    · rw [if_pos hk]
      rcases vicTo_is f g k with ⟨v, h1, h2⟩ | ⟨h1, h2⟩
      · rw [h1]
        by_cases hl : g k < g v
        · exact Or.inl ⟨k, by simp [hl], h2.take hk hl⟩
        · exact Or.inl ⟨v, by simp [hl], h2.keep hl⟩
      · rw [h1]
        exact Or.inl ⟨k, rfl, h2.first hk⟩
    · rw [if_neg hk]
      rcases vicTo_is f g k with ⟨v, h1, h2⟩ | ⟨h1, h2⟩
      · exact Or.inl ⟨v, h1, h2.skip hk⟩
      · exact Or.inr ⟨h1, h2.skip hk⟩
theorem vic_of {f g : Nat → Int} {z : Int} {ok : Bool} (h : IsVic 8 8 f g z ok) : (ok = true ∧ ∃ k : Nat, z = k ∧ k < 8 ∧ vicTo f g 8 = some k) ∨ (ok = false ∧ z = 0 ∧ vicTo f g 8 = none) := by
  rcases vicTo_is f g 8 with ⟨k, h1, h2⟩ | ⟨h1, h2⟩
  · obtain ⟨v, hv, hv8⟩ := h2.lt
    obtain ⟨rfl, rfl⟩ := h.one (h2.is (by omega) (by omega) (by omega))
    exact Or.inl ⟨rfl, k, rfl, by omega, h1⟩
  · obtain ⟨rfl, rfl⟩ := h.one (h2.is (by omega) (by omega) (by omega))
    exact Or.inr ⟨rfl, rfl, h1⟩
theorem vic_some {f g : Nat → Int} {k : Nat} (h : vicTo f g 8 = some k) : k < 8 ∧ 16 ≤ f k ∧ ∀ i, i < 8 → 16 ≤ f i → g k < g i ∨ (g k = g i ∧ k ≤ i) := by
  rcases vicTo_is f g 8 with ⟨v, h1, h2⟩ | ⟨h1, h2⟩
  · rw [h] at h1
    cases h1
    rcases h2 with ⟨_, v, hv, h3, h4, h5⟩ | ⟨h0, _⟩
    · obtain rfl : v = k := by omega
      exact ⟨h3, h4, h5⟩
    · cases h0
  · rw [h] at h1; cases h1
theorem vic_none {f g : Nat → Int} (h : vicTo f g 8 = none) (i : Nat) (hi : i < 8) : ¬ 16 ≤ f i := by
  rcases vicTo_is f g 8 with ⟨v, h1, h2⟩ | ⟨h1, h2⟩
  · rw [h] at h1; cases h1
  · rcases h2 with ⟨h0, _⟩ | ⟨_, _, h3⟩
    · cases h0
    · exact h3 i hi
end Vl
end Go.Proofs.YtlgocfgnfdnloaaGreatDoor
end
section
namespace Go.Proofs.YtlgocfgnfdnloaaGreatDoor
namespace Vl
open Go.RowKit
open Tw (Tb nul may)
structure Vs.ok (S : Vs) (n : Int) : Prop where
  cnt : S.T.count = S.c
  c0 : 0 ≤ S.c
  cn : S.c ≤ n
  may : ∀ i, i < 24 → nul S.T i ∨ may S.T i
  dis : ∀ i j, i < 24 → j < 24 → i ≠ j → ¬ nul S.T i → ¬ nul S.T j → ¬ (S.T.zone i = S.T.zone j ∧ S.T.off i = S.T.off j)
  at_ : ∀ i, i < 24 → ¬ nul S.T i → S.T.off i < S.D.cnt (S.T.zone i).toNat
  txt : ∀ i, (S.X i).size ≤ 80
  ws : S.D.ws.length ≤ 1
theorem Vs.ok.le {S : Vs} {n m : Int} (h : S.ok n) (hm : n ≤ m) : S.ok m := ⟨h.cnt, h.c0, Int.le_trans h.cn hm, h.may, h.dis, h.at_, h.txt, h.ws⟩
theorem fine_of {T : Tb} (h : ∀ i, i < 24 → nul T i ∨ may T i) (hd : ∀ i j, i < 24 → j < 24 → i ≠ j → ¬ nul T i → ¬ nul T j → ¬ (T.zone i = T.zone j ∧ T.off i = T.off j)) : Tw.fine T 24 := fun i hi => by
  by_cases hn : nul T i
  · exact Or.inl hn
  · rcases h i hi with h1 | h1
    · exact absurd h1 hn
    · refine Or.inr ⟨h1, ?_⟩
      rintro ⟨j, hj, hnj, e1, e2⟩
      exact hd i j hi (by omega) (by omega) hn hnj ⟨e1.symm, e2.symm⟩
theorem of_fine {T : Tb} (h : Tw.fine T 24) : (∀ i, i < 24 → nul T i ∨ may T i) ∧ ∀ i j, i < 24 → j < 24 → i ≠ j → ¬ nul T i → ¬ nul T j → ¬ (T.zone i = T.zone j ∧ T.off i = T.off j) := by
  refine ⟨fun i hi => ?_, fun i j hi hj hij hni hnj e => ?_⟩
  · rcases h i hi with h1 | h1
    · exact Or.inl h1
    · exact Or.inr h1.1
  · rcases Nat.lt_or_ge i j with hl | hl
    · rcases h j hj with h1 | h1
      · exact hnj h1
      · exact h1.2 ⟨i, hl, hni, e.1, e.2⟩
    · rcases h i hi with h1 | h1
      · exact hni h1
      · exact h1.2 ⟨j, by omega, hnj, e.1.symm, e.2.symm⟩
theorem Vs.ok.next {S : Vs} {n : Int} (h : S.ok n) (hn : n < 1099511627776) : Tw.Rt S.next :=
  ⟨⟨by show 1 ≤ S.T.count + 1; have := h.cnt; have := h.c0; omega, by show S.T.count + 1 ≤ _; have := h.cnt; have := h.cn; omega⟩, fine_of h.may h.dis⟩
theorem Vs.ok.nc {S : Vs} {n : Int} (h : S.ok n) : S.c < S.T.count + 1 := by have := h.cnt; omega
theorem Vs.ok.kill {S : Vs} {n : Int} (h : S.ok n) (b : Bool) : ({ S with dead := b } : Vs).ok n := ⟨h.cnt, h.c0, h.cn, h.may, h.dis, h.at_, h.txt, h.ws⟩
theorem Vs.ok.dev {S : Vs} {n : Int} (h : S.ok n) (D : Dv) (hc : D.cnt = S.D.cnt) (hw : D.ws.length ≤ 1) : ({ S with D := D } : Vs).ok n :=
  ⟨h.cnt, h.c0, h.cn, h.may, h.dis, fun i hi hn => by show S.T.off i < (D.cnt (S.T.zone i).toNat : Int); rw [hc]; exact h.at_ i hi hn, h.txt, hw⟩
theorem updT_at (T : Tb) (i : Nat) (z o : Int) (t : ByteArray) : (updT T i z o t).zone i = z ∧ (updT T i z o t).off i = o ∧ (updT T i z o t).tag i = t := by simp [updT]
theorem updT_ne (T : Tb) (i : Nat) (z o : Int) (t : ByteArray) {j : Nat} (h : j ≠ i) : (updT T i z o t).zone j = T.zone j ∧ (updT T i z o t).off j = T.off j ∧ (updT T i z o t).tag j = T.tag j := by simp [updT, h]
theorem updT_nul (T : Tb) (i : Nat) (z o : Int) (t : ByteArray) {j : Nat} (h : j ≠ i) : nul (updT T i z o t) j ↔ nul T j := by
  obtain ⟨a, b, c⟩ := updT_ne T i z o t h
  unfold Tw.nul
  rw [a, b, c]
theorem updT_may (T : Tb) (i : Nat) (z o : Int) (t : ByteArray) {j : Nat} (h : j ≠ i) : may (updT T i z o t) j ↔ may T j := by
  obtain ⟨a, b, c⟩ := updT_ne T i z o t h
  unfold Tw.may
  rw [a, b, c]
theorem updX_size {X : Nat → ByteArray} (h : ∀ i, (X i).size ≤ 80) (i : Nat) {t : ByteArray} (ht : t.size ≤ 80) (j : Nat) : (updX X i t j).size ≤ 80 := by
  unfold updX
  split
  · exact ht
  · exact h j
theorem Vs.ok.clear {S : Vs} {n : Int} (h : S.ok n) (i : Nat) : (S.set i 0 0 ⟨#[]⟩ ⟨#[]⟩).ok n where
  cnt := h.cnt
  c0 := h.c0
  cn := h.cn
  may j hj := by
    by_cases e : j = i
    · subst e
      obtain ⟨a, b, c⟩ := updT_at S.T j 0 0 ⟨#[]⟩
      exact Or.inl ⟨a, b, c⟩
    · rcases h.may j hj with h1 | h1
      · exact Or.inl ((updT_nul _ _ _ _ _ e).2 h1)
      · exact Or.inr ((updT_may _ _ _ _ _ e).2 h1)
  dis j k hj hk hjk hnj hnk := by
    have hi : ∀ m, ¬ nul (updT S.T i 0 0 ⟨#[]⟩) m → m ≠ i := fun m hm e => by
      subst e
      obtain ⟨a, b, c⟩ := updT_at S.T m 0 0 ⟨#[]⟩
      exact hm ⟨a, b, c⟩
    have ej := hi j hnj
    have ek := hi k hnk
    obtain ⟨a, b, _⟩ := updT_ne S.T i 0 0 ⟨#[]⟩ ej
    obtain ⟨a', b', _⟩ := updT_ne S.T i 0 0 ⟨#[]⟩ ek
    show ¬ ((updT S.T i 0 0 ⟨#[]⟩).zone j = (updT S.T i 0 0 ⟨#[]⟩).zone k ∧ (updT S.T i 0 0 ⟨#[]⟩).off j = (updT S.T i 0 0 ⟨#[]⟩).off k)
    rw [a, b, a', b']
    exact h.dis j k hj hk hjk (fun q => hnj ((updT_nul _ _ _ _ _ ej).2 q)) (fun q => hnk ((updT_nul _ _ _ _ _ ek).2 q))
  at_ j hj hnj := by
    have ej : j ≠ i := fun e => by
      subst e
      obtain ⟨a, b, c⟩ := updT_at S.T j 0 0 ⟨#[]⟩
      exact hnj ⟨a, b, c⟩
    obtain ⟨a, b, _⟩ := updT_ne S.T i 0 0 ⟨#[]⟩ ej
    show (updT S.T i 0 0 ⟨#[]⟩).off j < (S.D.cnt ((updT S.T i 0 0 ⟨#[]⟩).zone j).toNat : Int)
    rw [a, b]
    exact h.at_ j hj (fun q => hnj ((updT_nul _ _ _ _ _ ej).2 q))
  txt := updX_size h.txt i (by show 0 ≤ 80; omega)
  ws := h.ws
theorem Vs.ok.put {S : Vs} {n : Int} (h : S.ok n) (kb : ByteArray) (i : Nat) (hi : i < 24) (but : Int) (t : ByteArray) (ht : t.size ≤ 80) : (S.put kb i but t).2.ok n := by
  unfold Vs.put
  cases hr : room S.atf but with
  | none => exact h
  | some z =>
    obtain ⟨hz8, _, hz16⟩ := room_some hr
    dsimp only
    by_cases hm : S.D.may = false
    · rw [if_pos hm]; exact h.kill true
    · rw [if_neg hm]
      have hs : ((Sl.sealOf kb i t).extract 0 16).size = 16 := by rw [ByteArray.size_extract, Sl.seal_size]; rfl
      generalize Sl.sealOf kb i t = s at *
      have hcnt : ∀ z', (S.D.burnt.app z s).cnt z' = if z' = z then S.D.cnt z + 1 else S.D.cnt z' := fun z' => by
        show (if z' = z then S.D.burnt.cnt z + 1 else S.D.burnt.cnt z') = _
        rw [burnt_cnt]
      have hge : ∀ z', S.D.cnt z' ≤ (S.D.burnt.app z s).cnt z' := fun z' => by
        rw [hcnt]
        split
        · rename_i e; subst e; omega
        · exact Nat.le_refl _
      have h16 : S.D.cnt z < 16 := by unfold Vs.atf at hz16; omega
      obtain ⟨a, b, c⟩ := updT_at S.T i z (S.D.cnt z) (s.extract 0 16)
      -- no other cell lies there
      have hfree : ∀ j, j < 24 → j ≠ i → ¬ nul S.T j → ¬ (S.T.zone j = (z : Int) ∧ S.T.off j = (S.D.cnt z : Int)) := fun j hj hji hnj e => by
        have := h.at_ j hj hnj
        rw [e.1, Int.toNat_natCast] at this
        omega
      refine ⟨h.cnt, h.c0, h.cn, fun j hj => ?_, fun j k hj hk hjk hnj hnk => ?_, fun j hj hnj => ?_, updX_size h.txt i ht, ?_⟩
      · by_cases e : j = i
        · subst e
          refine Or.inr ⟨by rw [c]; exact hs, ?_⟩
          rw [a, b]
          omega
        · rcases h.may j hj with h1 | h1
          · exact Or.inl ((updT_nul _ _ _ _ _ e).2 h1)
          · exact Or.inr ((updT_may _ _ _ _ _ e).2 h1)
      · show ¬ ((updT S.T i z (S.D.cnt z) (s.extract 0 16)).zone j = (updT S.T i z (S.D.cnt z) (s.extract 0 16)).zone k ∧ (updT S.T i z (S.D.cnt z) (s.extract 0 16)).off j = (updT S.T i z (S.D.cnt z) (s.extract 0 16)).off k)
        by_cases ej : j = i
        · subst ej
          have ek : k ≠ j := fun e => hjk e.symm
          obtain ⟨a', b', _⟩ := updT_ne S.T j z (S.D.cnt z) (s.extract 0 16) ek
          rw [a, b, a', b']
          exact fun e => hfree k hk ek (fun q => hnk ((updT_nul _ _ _ _ _ ek).2 q)) ⟨e.1.symm, e.2.symm⟩
        · obtain ⟨aj, bj, _⟩ := updT_ne S.T i z (S.D.cnt z) (s.extract 0 16) ej
          by_cases ek : k = i
          · subst ek
            rw [a, b, aj, bj]
            exact hfree j hj ej (fun q => hnj ((updT_nul _ _ _ _ _ ej).2 q))
          · obtain ⟨a', b', _⟩ := updT_ne S.T i z (S.D.cnt z) (s.extract 0 16) ek
            rw [aj, bj, a', b']
            exact h.dis j k hj hk hjk (fun q => hnj ((updT_nul _ _ _ _ _ ej).2 q)) (fun q => hnk ((updT_nul _ _ _ _ _ ek).2 q))
      · show (updT S.T i z (S.D.cnt z) (s.extract 0 16)).off j < ((S.D.burnt.app z s).cnt ((updT S.T i z (S.D.cnt z) (s.extract 0 16)).zone j).toNat : Int)
        by_cases ej : j = i
        · subst ej
          rw [a, b, Int.toNat_natCast, hcnt, if_pos rfl]
          omega
        · obtain ⟨aj, bj, _⟩ := updT_ne S.T i z (S.D.cnt z) (s.extract 0 16) ej
          rw [aj, bj]
          have h1 := h.at_ j hj (fun q => hnj ((updT_nul _ _ _ _ _ ej).2 q))
          have h2 := hge (S.T.zone j).toNat
          omega
      · show (S.D.burnt.ws).length ≤ 1
        rw [burnt_ws]
        exact h.ws
theorem synced_cnt (D : Dv) : D.synced.cnt = D.cnt := rfl
theorem Vs.ok.flush {S : Vs} {n : Int} (h : S.ok n) (kt : ByteArray) : (S.flush kt).2.ok (n + 1) := by
  have h' := h.le (m := n + 1) (by omega)
  unfold Vs.flush Vs.tell
  by_cases hd : S.dead = true
  · rw [if_pos hd]; exact h'
  · rw [if_neg hd]
    by_cases hm : S.D.may = false
    · rw [if_pos hm]; exact h'.kill true
    · rw [if_neg hm]
      by_cases h1 : S.D.burnt.synced.may = false
      · simp only [if_pos h1]
        rw [if_neg (by decide)]
        exact ((h'.dev S.D.burnt.synced (by rw [synced_cnt, burnt_cnt]) (by show ([] : List (Nat × ByteArray)).length ≤ 1; decide))).kill true
      · simp only [if_neg h1]
        by_cases h2 : (S.D.burnt.synced.burnt.wrote (S.next.count % 2).toNat (Tw.text kt S.next)).may = false
        · simp only [if_pos h2]
          rw [if_neg (by decide)]
          refine ((h'.dev (S.D.burnt.synced.burnt.wrote (S.next.count % 2).toNat (Tw.text kt S.next)) ?_ ?_)).kill true
          · show S.D.burnt.synced.burnt.cnt = S.D.cnt
            rw [burnt_cnt, synced_cnt, burnt_cnt]
          · show (S.D.burnt.synced.burnt.ws ++ [_]).length ≤ 1
            rw [burnt_ws]
            show ([] ++ [_]).length ≤ 1
            simp
        · simp only [if_neg h2]
          rw [if_pos trivial]
          have hcnt : (S.D.burnt.synced.burnt.wrote (S.next.count % 2).toNat (Tw.text kt S.next)).burnt.synced.cnt = S.D.cnt := by
            rw [synced_cnt, burnt_cnt]
            show S.D.burnt.synced.burnt.cnt = S.D.cnt
            rw [burnt_cnt, synced_cnt, burnt_cnt]
          refine ⟨rfl, ?_, ?_, h.may, h.dis, fun i hi hn => ?_, h.txt, by show ([] : List (Nat × ByteArray)).length ≤ 1; decide⟩
          · show 0 ≤ S.T.count + 1
            have := h.cnt; have := h.c0; omega
          · show S.T.count + 1 ≤ n + 1
            have := h.cnt; have := h.cn; omega
          · have := h.at_ i hi hn
            show S.T.off i < ((S.D.burnt.synced.burnt.wrote (S.next.count % 2).toNat (Tw.text kt S.next)).burnt.synced.cnt (S.T.zone i).toNat : Int)
            rw [hcnt]
            exact this
theorem flush_T (S : Vs) (kt : ByteArray) : (S.flush kt).2.T.zone = S.T.zone ∧ (S.flush kt).2.T.off = S.T.off ∧ (S.flush kt).2.T.tag = S.T.tag ∧ (S.flush kt).2.X = S.X ∧ (S.flush kt).2.D.cnt = S.D.cnt := by
  unfold Vs.flush Vs.tell
  by_cases hd : S.dead = true
  · rw [if_pos hd]; exact ⟨rfl, rfl, rfl, rfl, rfl⟩
  · rw [if_neg hd]
    by_cases hm : S.D.may = false
    · rw [if_pos hm]; exact ⟨rfl, rfl, rfl, rfl, rfl⟩
    · rw [if_neg hm]
      by_cases h1 : S.D.burnt.synced.may = false
      · simp only [if_pos h1]
        rw [if_neg (by decide)]
        exact ⟨rfl, rfl, rfl, rfl, by show S.D.burnt.synced.cnt = S.D.cnt; rw [synced_cnt, burnt_cnt]⟩
      · simp only [if_neg h1]
        by_cases h2 : (S.D.burnt.synced.burnt.wrote (S.next.count % 2).toNat (Tw.text kt S.next)).may = false
        · simp only [if_pos h2]
          rw [if_neg (by decide)]
          exact ⟨rfl, rfl, rfl, rfl, by show S.D.burnt.synced.burnt.cnt = S.D.cnt; rw [burnt_cnt, synced_cnt, burnt_cnt]⟩
        · simp only [if_neg h2]
          rw [if_pos trivial]
          exact ⟨rfl, rfl, rfl, rfl, by
            rw [synced_cnt, burnt_cnt]
            show S.D.burnt.synced.burnt.cnt = S.D.cnt
            rw [burnt_cnt, synced_cnt, burnt_cnt]⟩
theorem moves_nil (kb : ByteArray) (z : Int) (S : Vs) : S.moves kb z [] = (0, S) := by unfold Vs.moves; rfl
theorem moves_cons (kb : ByteArray) (z : Int) (i : Nat) (r : List Nat) (S : Vs) : S.moves kb z (i :: r) = if (S.put kb i z (S.X i)).1 = 0 then (S.put kb i z (S.X i)).2.moves kb z r else S.put kb i z (S.X i) := by
  show Vs.moves kb z (i :: r) S = _
  rw [Vs.moves]
theorem Vs.ok.moves {n : Int} (kb : ByteArray) (z : Int) : ∀ (l : List Nat) (S : Vs), S.ok n → (∀ i ∈ l, i < 24) → (S.moves kb z l).2.ok n
  | [], S, h, _ => by rw [moves_nil]; exact h
  | i :: r, S, h, hl => by
    rw [moves_cons]
    have hp := h.put kb i (hl i (by simp)) z (S.X i) (h.txt i)
    split
    · exact Vs.ok.moves kb z r _ hp (fun j hj => hl j (by simp [hj]))
    · exact hp
theorem put_at {S : Vs} {kb : ByteArray} {i : Nat} {but : Int} {t : ByteArray} (h : (S.put kb i but t).1 = 0) : ∃ z : Nat, room S.atf but = some z ∧ S.D.may = true ∧ S.put kb i but t = (0, { S with D := S.D.burnt.app z (Sl.sealOf kb i t), T := updT S.T i z (S.D.cnt z) ((Sl.sealOf kb i t).extract 0 16), X := updX S.X i t }) := by
  unfold Vs.put at h ⊢
  cases hr : room S.atf but with
  | none => rw [hr] at h; exact absurd (show (12 : Int) = 0 from h) (by decide)
  | some z =>
    rw [hr] at h
    dsimp only at h ⊢
    by_cases hm : S.D.may = false
    · rw [if_pos hm] at h; exact absurd (show (14 : Int) = 0 from h) (by decide)
    · rw [if_neg hm]
      exact ⟨z, rfl, by simpa using hm, rfl⟩
theorem moves_out (kb : ByteArray) (z : Nat) : ∀ (l : List Nat) (S : Vs), (S.moves kb z l).1 = 0 → (∀ i ∈ l, i < 24) → (∀ i, i < 24 → ¬ nul S.T i → S.T.zone i = z → i ∈ l) → ∀ i, i < 24 → ¬ nul (S.moves kb z l).2.T i → (S.moves kb z l).2.T.zone i ≠ z
  | [], S, h0, _, h, i, hi, hn => by
    rw [moves_nil] at hn ⊢
    intro e
    have := h i hi hn e
    simp at this
  | i :: r, S, h0, hl, h, j, hj, hn => by
    rw [moves_cons] at h0 hn ⊢
    by_cases hp : (S.put kb i z (S.X i)).1 = 0
    · rw [if_pos hp] at h0 hn ⊢
      refine moves_out kb z r _ h0 (fun k hk => hl k (by simp [hk])) (fun k hk hnk ek => ?_) j hj hn
      obtain ⟨y, hy, _, he⟩ := put_at hp
      obtain ⟨_, hyz, _⟩ := room_some hy
      rw [he] at hnk ek
      by_cases e : k = i
      · subst e
        exact absurd ((updT_at S.T k y (S.D.cnt y) _).1.symm.trans ek) hyz
      · have h1 := h k hk (fun q => hnk ((updT_nul _ _ _ _ _ e).2 q)) ((updT_ne S.T i y (S.D.cnt y) _ e).1.symm.trans ek)
        rcases List.mem_cons.1 h1 with h2 | h2
        · exact absurd h2 e
        · exact h2
    · rw [if_neg hp] at h0
      exact absurd h0 hp
theorem inI_mem {T : Tb} {z : Int} {i : Nat} : i ∈ Sp.inI T z 24 ↔ i < 24 ∧ T.tag i ≠ ⟨#[]⟩ ∧ T.zone i = z := by
  unfold Sp.inI Sp.lies
  simp [List.mem_filter]
theorem tag_nul {T : Tb} {i : Nat} (h : nul T i ∨ may T i) : T.tag i = ⟨#[]⟩ ↔ nul T i := by
  constructor
  · intro e
    rcases h with h | h
    · exact h
    · have := h.1
      rw [e] at this
      exact absurd this (by decide)
  · exact fun h => h.2.2
theorem Vs.ok.reclaim {S : Vs} {n : Int} (h : S.ok n) (kb kt : ByteArray) : (S.reclaim kb kt).2.ok (n + 1) := by
  have h' := h.le (m := n + 1) (by omega)
  unfold Vs.reclaim
  by_cases hd : S.dead = true
  · rw [if_pos hd]; exact h'
  · rw [if_neg hd]
    cases hv : vicTo S.atf S.live 8 with
    | none => exact h'
    | some z =>
      dsimp only
      have hl : ∀ i ∈ Sp.inI S.T (z : Int) 24, i < 24 := fun i hi => (inI_mem.1 hi).1
      have hmv := Vs.ok.moves kb z (Sp.inI S.T (z : Int) 24) S h hl
      by_cases h0 : (S.moves kb z (Sp.inI S.T (z : Int) 24)).1 = 0
      · rw [if_neg (by rw [h0]; decide)]
        have hout := moves_out kb z (Sp.inI S.T (z : Int) 24) S h0 hl (fun i hi hn e => inI_mem.2 ⟨hi, fun q => hn ((tag_nul (h.may i hi)).1 q), e⟩)
        generalize (S.moves kb z (Sp.inI S.T (z : Int) 24)).2 = S1 at *
        have hf := hmv.flush kt
        obtain ⟨f1, f2, f3, f4, f5⟩ := flush_T S1 kt
        by_cases h1 : (S1.flush kt).1 = 0
        · rw [if_neg (by rw [h1]; decide)]
          generalize (S1.flush kt).2 = S2 at *
          by_cases h2 : S2.D.may = false
          · rw [if_pos h2]; exact hf.kill true
          · rw [if_neg h2]
            refine ⟨hf.cnt, hf.c0, hf.cn, hf.may, hf.dis, fun i hi hn => ?_, hf.txt, ?_⟩
            · have h3 := hf.at_ i hi hn
              have h4 : ¬ nul S1.T i := fun q => hn ⟨by rw [f1]; exact q.1, by rw [f2]; exact q.2.1, by rw [f3]; exact q.2.2⟩
              have h5 := hout i hi h4
              have h6 : 0 ≤ S2.T.zone i := by
                rcases hf.may i hi with h7 | h7
                · exact absurd h7 hn
                · exact h7.2.1
              show S2.T.off i < ((if (S2.T.zone i).toNat = z then 0 else S2.D.burnt.cnt (S2.T.zone i).toNat : Nat) : Int)
              rw [if_neg (by rw [f1] at h6 ⊢; omega), burnt_cnt]
              exact h3
            · show S2.D.burnt.ws.length ≤ 1
              rw [burnt_ws]
              exact hf.ws
        · rw [if_pos h1]; exact hf
      · rw [if_pos h0]; exact hmv.le (by omega)
theorem Vs.ok.write {S : Vs} {n : Int} (h : S.ok n) (kb kt : ByteArray) (i : Int) (t : ByteArray) : (S.write kb kt i t).2.ok (n + 1) := by
  have h' := h.le (m := n + 1) (by omega)
  unfold Vs.write
  split
  · exact h'
  · split
    · exact h'
    · rename_i hi
      split
      · exact h'
      · rename_i ht
        split
        · exact h'
        · split
          · exact h'.clear _
          · split
            · split
              · exact h.reclaim kb kt
              · exact (h.reclaim kb kt).put kb i.toNat (by omega) (-1) t (by omega)
            · exact h'.put kb i.toNat (by omega) (-1) t (by omega)
theorem fresh_ok (D : Dv) (hw : D.ws.length ≤ 1) : (fresh D 0).ok 0 where
  cnt := rfl
  c0 := by show (0 : Int) ≤ 0; omega
  cn := by show (0 : Int) ≤ 0; omega
  may i hi := Or.inl ⟨rfl, rfl, rfl⟩
  dis i j hi hj hij hn := absurd ⟨rfl, rfl, rfl⟩ hn
  at_ i hi hn := absurd ⟨rfl, rfl, rfl⟩ hn
  txt i := by show 0 ≤ 80; omega
  ws := hw
theorem textOf_size (kb s : ByteArray) : (Sl.textOf kb s).size ≤ 80 := by
  unfold Sl.textOf Sl.cutB
  rw [ByteArray.size_extract]
  omega
theorem says_size (kb : ByteArray) (D : Dv) (T : Tb) (k i : Nat) : (saysTo kb D T k i).size ≤ 80 := by
  unfold saysTo
  split
  · split
    · show 0 ≤ 80; omega
    · exact textOf_size _ _
  · show 0 ≤ 80; omega
theorem opened_ok (kb kt : ByteArray) (D : Dv) (n : Int) (hw : D.ws.length ≤ 1) (hn : 0 ≤ n) (h : whole kb kt D n) : (opened kb D n n).ok n := by
  obtain ⟨⟨_, h2, _, h4⟩, h5⟩ := h
  obtain ⟨hm, hd⟩ := of_fine ((Tw.rtB_iff _).1 h2).2
  refine ⟨h4, hn, Int.le_refl _, hm, hd, fun i hi hni => ?_, fun i => says_size _ _ _ _ _, hw⟩
  rcases h5 i hi with h6 | h6
  · exact absurd ((tag_nul (hm i hi)).1 h6) hni
  · exact h6.1.2.2.2
end Vl
end Go.Proofs.YtlgocfgnfdnloaaGreatDoor
end
