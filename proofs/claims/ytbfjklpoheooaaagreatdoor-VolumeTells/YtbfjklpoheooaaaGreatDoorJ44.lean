import Derived.Deep.AppendLies
import Derived.Test.YtbfjklpoheooaaaGreatDoorJ21
import Derived.Test.YtbfjklpoheooaaaGreatDoorJ30
import Derived.Test.YtbfjklpoheooaaaGreatDoorJ32
import Derived.Test.YtbfjklpoheooaaaGreatDoorJ39
import Derived.Test.YtbfjklpoheooaaaGreatDoorJ43
set_option linter.unusedSimpArgs false
set_option linter.unusedVariables false
section
namespace Go.Proofs.YtbfjklpoheooaaaGreatDoor
namespace Vl
open Go.RowKit
open Tw (Tb tcell tval ccell)
def rvcell (Rb rd rc : Nat) (s : ByteArray) (T : Tb) (X : Nat → ByteArray) (f : Bool) (j : Nat) : Value :=
  if j = 0 then .pointer (some ⟨Rb, 0, none⟩) else if j = 1 then .pointer (some ⟨rd, 0, none⟩) else if j = 2 then .pointer (some ⟨rc, 0, none⟩) else if j = 3 then .string s
  else if j < 77 then tcell T (j - 4) else if j < 101 then .string (X (j - 77)) else .bool f
theorem rvcell_tab (Rb rd rc : Nat) (s : ByteArray) (T : Tb) (X : Nat → ByteArray) (f : Bool) (j : Nat) (hj : j < 73) : rvcell Rb rd rc s T X f (4 + j) = tcell T j := by
  unfold rvcell
  rw [if_neg (by omega), if_neg (by omega), if_neg (by omega), if_neg (by omega), if_pos (by omega), show 4 + j - 4 = j by omega]
theorem rvcell_says (Rb rd rc : Nat) (s : ByteArray) (T : Tb) (X : Nat → ByteArray) (f : Bool) (j : Nat) (hj : j < 24) : rvcell Rb rd rc s T X f (77 + j) = .string (X j) := by
  unfold rvcell
  rw [if_neg (by omega), if_neg (by omega), if_neg (by omega), if_neg (by omega), if_neg (by omega), if_pos (by omega), show 77 + j - 77 = j by omega]
theorem rvcell_set (Rb rd rc : Nat) (s : ByteArray) (T : Tb) (X : Nat → ByteArray) (f : Bool) (i : Nat) (hi : i < 24) (z o : Int) (t : ByteArray) (j : Nat) (hj : j < 102) :
    updv (updv (updv (rvcell Rb rd rc s T X f) (5 + i * 3) (.int .i64 z)) (5 + i * 3 + 1) (.int .i64 o)) (5 + i * 3 + 2) (.string t) j = rvcell Rb rd rc s (updT T i z o t) X f j := by
  unfold updv
  by_cases hr : 5 ≤ j ∧ j < 77
  · have e : ∀ U, rvcell Rb rd rc s U X f j = Tw.tpart U ((j - 5) / 3) ((j - 5) % 3) := fun U => by
      have := rvcell_tab Rb rd rc s U X f (j - 4) (by omega)
      rw [show 4 + (j - 4) = j by omega] at this
      rw [this]
      unfold tcell
      rw [if_neg (by omega), show j - 4 - 1 = j - 5 by omega]
    rw [e, e]
    by_cases h2 : j = 5 + i * 3 + 2
    · subst h2
      rw [if_pos rfl, show (5 + i * 3 + 2 - 5) / 3 = i by omega, show (5 + i * 3 + 2 - 5) % 3 = 2 by omega]
      simp [Tw.tpart, updT]
    · rw [if_neg h2]
      by_cases h1 : j = 5 + i * 3 + 1
      · subst h1
        rw [if_pos rfl, show (5 + i * 3 + 1 - 5) / 3 = i by omega, show (5 + i * 3 + 1 - 5) % 3 = 1 by omega]
        simp [Tw.tpart, updT]
      · rw [if_neg h1]
        by_cases h0 : j = 5 + i * 3
        · subst h0
          rw [if_pos rfl, show (5 + i * 3 - 5) / 3 = i by omega, show (5 + i * 3 - 5) % 3 = 0 by omega]
          simp [Tw.tpart, updT]
        · rw [if_neg h0]
          have hne : ¬ (j - 5) / 3 = i := by omega
          unfold Tw.tpart updT
          simp only [if_neg hne]
  · rw [if_neg (by omega), if_neg (by omega), if_neg (by omega)]
    unfold rvcell
    by_cases h4 : j < 77
    · have h44 : j ≤ 4 := by omega
      by_cases h5 : j = 4
      · subst h5; rfl
      · match j, (show j < 4 by omega) with
        | 0, _ => rfl
        | 1, _ => rfl
        | 2, _ => rfl
        | 3, _ => rfl
    · simp only [if_neg h4]
theorem rvcell_setX (Rb rd rc : Nat) (s : ByteArray) (T : Tb) (X : Nat → ByteArray) (f : Bool) (i : Nat) (hi : i < 24) (t : ByteArray) (j : Nat) (hj : j < 102) :
    updv (rvcell Rb rd rc s T X f) (77 + i) (.string t) j = rvcell Rb rd rc s T (updX X i t) f j := by
  unfold updv
  by_cases e : j = 77 + i
  · subst e
    rw [if_pos rfl, rvcell_says _ _ _ _ _ _ _ i hi]
    simp [updX]
  · rw [if_neg e]
    unfold rvcell
    by_cases h4 : j < 77
    · simp only [if_pos h4]
    · by_cases h5 : j < 101
      · have hne : ¬ j - 77 = i := by omega
        simp only [if_neg h4, if_pos h5, updX, if_neg hne]
      · simp only [if_neg h4, if_neg h5]
theorem rvcell_tabs (Rb rd rc : Nat) (s : ByteArray) (T U : Tb) (X : Nat → ByteArray) (f : Bool) (j : Nat) (hj : j < 102) :
    updl (rvcell Rb rd rc s T X f) 4 73 (tcell U) j = rvcell Rb rd rc s U X f j := by
  unfold updl
  by_cases h : 4 ≤ j ∧ j < 4 + 73
  · rw [if_pos h]
    have := rvcell_tab Rb rd rc s U X f (j - 4) (by omega)
    rw [show 4 + (j - 4) = j by omega] at this
    rw [this]
  · rw [if_neg h]
    unfold rvcell
    by_cases h4 : j < 77
    · match j, (show j < 4 by omega) with
      | 0, _ => rfl
      | 1, _ => rfl
      | 2, _ => rfl
      | 3, _ => rfl
    · simp only [if_neg h4]
theorem rvcell_both (Rb rd rc : Nat) (s : ByteArray) (T U : Tb) (X Y : Nat → ByteArray) (f : Bool) (j : Nat) (hj : j < 102) :
    updl (rvcell Rb rd rc s T X f) 77 24 (xcell Y) j = rvcell Rb rd rc s T Y f j := by
  unfold updl
  by_cases h : 77 ≤ j ∧ j < 77 + 24
  · rw [if_pos h]
    have := rvcell_says Rb rd rc s T Y f (j - 77) (by omega)
    rw [show 77 + (j - 77) = j by omega] at this
    rw [this]
    rfl
  · rw [if_neg h]
    unfold rvcell
    by_cases h4 : j < 77
    · simp only [if_pos h4]
    · have h5 : ¬ j < 101 := by omega
      simp only [if_neg h4, if_neg h5]
structure RF (q : Bool) (N rv rd rc : Nat) (w w' : World) : Prop where
  os : w'.os = w.os
  tape : w'.tape = w.tape
  output : w'.output = w.output
  size : w.heap.size ≤ w'.heap.size
  block : ∀ k, k < w.heap.size → k ≠ rv → k ≠ rd → k ≠ rc → (q = true ∨ k < N ∨ ∃ t, Ty w k t ∧ t ≠ 3 ∧ t ≠ 9) → w'.heap[k]? = w.heap[k]?
theorem RF.refl (q : Bool) (N rv rd rc : Nat) (w : World) : RF q N rv rd rc w w := ⟨rfl, rfl, rfl, Nat.le_refl _, fun _ _ _ _ _ _ => rfl⟩
theorem RF.trans {q : Bool} {N rv rd rc : Nat} {w w' w'' : World} (h : RF q N rv rd rc w w') (k : RF q N rv rd rc w' w'') : RF q N rv rd rc w w'' :=
  ⟨k.os.trans h.os, k.tape.trans h.tape, k.output.trans h.output, Nat.le_trans h.size k.size, fun j hj h1 h2 h3 h4 => by
    have e := h.block j hj h1 h2 h3 h4
    refine (k.block j (Nat.lt_of_lt_of_le hj h.size) h1 h2 h3 ?_).trans e
    rcases h4 with h4 | h4 | ⟨t, ht, h5⟩
    · exact Or.inl h4
    · exact Or.inr (Or.inl h4)
    · exact Or.inr (Or.inr ⟨t, ht.blk e, h5⟩)⟩
theorem RF.of_since {q : Bool} {N rv rd rc : Nat} {w w' : World} (h : Since w w') : RF q N rv rd rc w w' := ⟨h.os, h.tape, h.output, h.size, fun k hk _ _ _ _ => h.block k hk⟩
theorem RF.of_fr {q : Bool} {N rv rd rc b : Nat} {w w' : World} (h : Fr b none w w') (hb : b = rv ∨ b = rd ∨ b = rc) : RF q N rv rd rc w w' := ⟨h.os, h.tape, h.output, h.size, fun k hk h1 h2 h3 _ => h.block k hk (by
  rcases hb with rfl | rfl | rfl <;> assumption) (by simp)⟩
theorem fs_of0 {rb : Nat} {av wv : Value} {w w' : World} (h : Fr rb none w w') : Go.Proofs.YtbfjklpoheooaaaGreatDoor.Fs (PS rb av wv) w w' := Go.Proofs.YtbfjklpoheooaaaGreatDoor.Fs.of_fr h (Or.inl rfl) (fun k e => by cases e)
structure RVol (w0 w : World) (N rv Rb rd rc : Nat) (s : ByteArray) (S : Vs) : Prop where
  cel : Cel w rv 102 (rvcell Rb rd rc s S.T S.X S.dead)
  ref : ∃ lv av wv, Ref w rd N S.D lv av wv
  ctr : Cel w rc 1 (fun _ => .int .i64 S.c)
  hh : Sm.Arr w Rb 0 8 Sm.H0.fn ∧ Sm.Arr w Rb 8 64 Sm.kn
  ty : Ty w rv 95
  ne : Rb < N ∧ rd < N ∧ rc < N ∧ N ≤ rv ∧ rd ≠ rc ∧ rd ≠ Rb ∧ rc ≠ Rb
  since : Since w0 w
  lo : w0.heap.size ≤ Rb ∧ w0.heap.size ≤ rd ∧ w0.heap.size ≤ rc
def RTo (q : Bool) (w0 w w' : World) (N rv Rb rd rc : Nat) (s : ByteArray) (S' : Vs) : Prop := RVol w0 w' N rv Rb rd rc s S' ∧ RF q N rv rd rc w w'
section
variable {q : Bool} {w0 w w' w'' : World} {N rv Rb rd rc : Nat} {s : ByteArray} {S S' : Vs}
theorem arrFs {b o n : Nat} {f : Nat → BitVec 32} (h : Sm.Arr w b o n f) (hb : w'.heap[b]? = w.heap[b]?) : Sm.Arr w' b o n f :=
  ⟨fun j hj => by rw [World.cell?_of_block (w := w) (a := ⟨b, o + j, none⟩) hb]; exact h.cell j hj, fun j hj => by rw [World.frozen?_of_block (w := w) (a := ⟨b, o + j, none⟩) hb]; exact h.frozen j hj⟩
theorem celBlk {b n : Nat} {f : Nat → Value} (h : Cel w b n f) (hb : w'.heap[b]? = w.heap[b]?) : Cel w' b n f :=
  ⟨fun j hj => by rw [World.cell?_of_block (w := w) (a := ⟨b, j, none⟩) hb]; exact h.cell j hj, fun j hj => by rw [World.frozen?_of_block (w := w) (a := ⟨b, j, none⟩) hb]; exact h.frozen j hj⟩
theorem arrLt {b o n : Nat} {f : Nat → BitVec 32} (h : Sm.Arr w b o n f) (hn : 0 < n) : b < w.heap.size := World.block_lt_of_cell? w _ (h.cell 0 hn)
theorem RVol.go (h : RVol w0 w N rv Rb rd rc s S) (hs : Since w w') : RVol w0 w' N rv Rb rd rc s S where
  cel := h.cel.since hs
  ref := by
    obtain ⟨lv, av, wv, hr⟩ := h.ref
    exact ⟨lv, av, wv, hr.since hs⟩
  ctr := h.ctr.since hs
  hh := ⟨h.hh.1.since hs, h.hh.2.since hs⟩
  ty := h.ty.since hs
  ne := h.ne
  since := h.since.trans hs
  lo := h.lo
theorem RVol.self (h : RVol w0 w N rv Rb rd rc s S) : RTo q w0 w w N rv Rb rd rc s S := ⟨h, RF.refl _ _ _ _ _ _⟩
theorem RVol.to (h : RVol w0 w N rv Rb rd rc s S) (hs : Since w w') : RTo q w0 w w' N rv Rb rd rc s S := ⟨h.go hs, RF.of_since hs⟩
theorem RTo.then (h : RTo q w0 w w' N rv Rb rd rc s S) (k : RVol w0 w' N rv Rb rd rc s S → RTo q w0 w' w'' N rv Rb rd rc s S') : RTo q w0 w w'' N rv Rb rd rc s S' := ⟨(k h.1).1, h.2.trans (k h.1).2⟩
theorem RTo.pre (hs : Since w w') (h : RTo q w0 w' w'' N rv Rb rd rc s S) : RTo q w0 w w'' N rv Rb rd rc s S := ⟨h.1, (RF.of_since hs).trans h.2⟩
theorem RTo.after (h : RTo q w0 w w' N rv Rb rd rc s S) (k : RTo q w0 w' w'' N rv Rb rd rc s S') : RTo q w0 w w'' N rv Rb rd rc s S' := ⟨k.1, h.2.trans k.2⟩
theorem RVol.refTo0 {D D' : Dv} {lv lv' : Nat → Value} {av wv av' wv' : Value} (h : RVol w0 w N rv Rb rd rc s S) (hr : Ref w rd N D lv av wv) (hr' : Ref w' rd N D' lv' av' wv') (hf0 : Fr rd none w w') : RTo q w0 w w' N rv Rb rd rc s { S with D := D' } := by
  have hf : Go.Proofs.YtbfjklpoheooaaaGreatDoor.Fs (PS rd av wv) w w' := fs_of0 hf0
  have hF : RF q N rv rd rc w w' := RF.of_fr hf0 (Or.inr (Or.inl rfl))
  have n1 : ¬ PS rd av wv rv := by
    rintro (e | e | e)
    · have := h.ne; omega
    · exact absurd (h.ty.one (Ty.own hr.at_ e)) (by decide)
    · exact absurd (h.ty.one (Ty.own hr.what e)) (by decide)
  have nlt : ∀ k, k < N → k ≠ rd → ¬ PS rd av wv k := by
    rintro k hk hd (e | e | e)
    · exact hd e
    · have := (hr.at_.lt _ e).1; omega
    · have := (hr.what.lt _ e).1; omega
  have e1 := hf.block rv h.ty.lt n1
  have e2 := hf.block rc (h.ctr.lt (by omega)) (nlt rc h.ne.2.2.1 (fun e => h.ne.2.2.2.2.1 e.symm))
  have e3 := hf.block Rb (arrLt h.hh.1 (by omega)) (nlt Rb h.ne.1 (fun e => h.ne.2.2.2.2.2.1 e.symm))
  refine ⟨⟨celBlk h.cel e1, ⟨lv', av', wv', hr'⟩, celBlk h.ctr e2, ⟨arrFs h.hh.1 e3, arrFs h.hh.2 e3⟩, h.ty.blk e1, h.ne, ?_, h.lo⟩, hF⟩
  refine Below.trans (show Below w0.heap.size w0 w from h.since) ⟨hf.os, hf.tape, hf.output, hf.size, fun k hk => hf.block k (Nat.lt_of_lt_of_le hk h.since.size) (nlt k ?_ ?_)⟩
  · have := h.lo; have := h.ne; omega
  · have := h.lo; omega
theorem Ref.fr' {D : Dv} {lv : Nat → Value} {av wv : Value} {b : Nat} (hr : Ref w rd N D lv av wv) (hf : Fr b none w w') (hrd : rd ≠ b) (hb : ∀ k, (∃ z, z < 8 ∧ (lv z).ownBlock = some k) ∨ av.ownBlock = some k ∨ wv.ownBlock = some k → k ≠ b) : Ref w' rd N D lv av wv where
  cel := hr.cel.fr hf hrd (by simp)
  row z hz := ownsRow_fr (hr.row z hz) hf (fun e => hb _ (Or.inl ⟨z, hz, e⟩) rfl) (none_or _)
  at_ := ownsRow_fr hr.at_ hf (fun e => hb _ (Or.inr (Or.inl e)) rfl) (none_or _)
  what := ownsRow_fr hr.what hf (fun e => hb _ (Or.inr (Or.inr e)) rfl) (none_or _)
  apart := hr.apart
  lt := hr.lt
  le := Nat.le_trans hr.le hf.size
theorem RVol.celTo {T' : Tb} {X' : Nat → ByteArray} {f' : Bool} (h : RVol w0 w N rv Rb rd rc s S) (hc : Cel w' rv 102 (rvcell Rb rd rc s T' X' f')) (hf : Fr rv none w w') (ht : Ty w' rv 95) : RTo q w0 w w' N rv Rb rd rc s { S with T := T', X := X', dead := f' } := by
  obtain ⟨lv, av, wv, hr⟩ := h.ref
  have hne := h.ne
  have hb : ∀ k, (∃ z, z < 8 ∧ (lv z).ownBlock = some k) ∨ av.ownBlock = some k ∨ wv.ownBlock = some k → k ≠ rv := by
    rintro k (⟨z, hz, e⟩ | e | e) rfl
    · exact absurd (h.ty.one (Ty.own (hr.row z hz) e)) (by decide)
    · exact absurd (h.ty.one (Ty.own hr.at_ e)) (by decide)
    · exact absurd (h.ty.one (Ty.own hr.what e)) (by decide)
  have e2 := hf.block rc (h.ctr.lt (by omega)) (by omega) (by simp)
  have e3 := hf.block Rb (arrLt h.hh.1 (by omega)) (by omega) (by simp)
  refine ⟨⟨hc, ⟨lv, av, wv, Ref.fr' hr hf (by omega) hb⟩, celBlk h.ctr e2, ⟨arrFs h.hh.1 e3, arrFs h.hh.2 e3⟩, ht, h.ne, ?_, h.lo⟩, RF.of_fr hf (Or.inl rfl)⟩
  exact Below.trans (show Below w0.heap.size w0 w from h.since) ⟨hf.os, hf.tape, hf.output, hf.size, fun k hk => hf.block k (Nat.lt_of_lt_of_le hk h.since.size) (by have := h.lo; omega) (by simp)⟩
theorem RVol.ctrTo {c' : Int} (h : RVol w0 w N rv Rb rd rc s S) : RTo q w0 w (w.setCell ⟨rc, 0, none⟩ (.int .i64 c')) N rv Rb rd rc s { S with c := c' } := by
  obtain ⟨lv, av, wv, hr⟩ := h.ref
  have hne := h.ne
  have hf : Fr rc none w (w.setCell ⟨rc, 0, none⟩ (.int .i64 c')) := Fr.setCell rc none 0 w _
  have hb : ∀ k, (∃ z, z < 8 ∧ (lv z).ownBlock = some k) ∨ av.ownBlock = some k ∨ wv.ownBlock = some k → k ≠ rc := by
    rintro k (⟨z, hz, e⟩ | e | e) rfl
    · have := ((hr.row z hz).lt _ e).1; omega
    · have := (hr.at_.lt _ e).1; omega
    · have := (hr.what.lt _ e).1; omega
  have e1 := hf.block rv h.ty.lt (by omega) (by simp)
  have e3 := hf.block Rb (arrLt h.hh.1 (by omega)) (by omega) (by simp)
  refine ⟨⟨celBlk h.cel e1, ⟨lv, av, wv, Ref.fr' hr hf (by omega) hb⟩, (h.ctr.set 0 (by omega) _).congr (fun j hj => by
    obtain rfl : j = 0 := by omega
    rfl), ⟨arrFs h.hh.1 e3, arrFs h.hh.2 e3⟩, h.ty.setCell _ _, h.ne, ?_, h.lo⟩, RF.of_fr hf (Or.inr (Or.inr rfl))⟩
  exact Below.trans (show Below w0.heap.size w0 w from h.since) ⟨hf.os, hf.tape, hf.output, hf.size, fun k hk => hf.block k (Nat.lt_of_lt_of_le hk h.since.size) (by have := h.lo; omega) (by simp)⟩
theorem RVol.c0 (h : RVol w0 w N rv Rb rd rc s S) : w.cell? ⟨rv, 0, none⟩ = some (.pointer (some ⟨Rb, 0, none⟩)) := h.cel.cell 0 (by omega)
theorem RVol.c1 (h : RVol w0 w N rv Rb rd rc s S) : w.cell? ⟨rv, 1, none⟩ = some (.pointer (some ⟨rd, 0, none⟩)) := h.cel.cell 1 (by omega)
theorem RVol.c2 (h : RVol w0 w N rv Rb rd rc s S) : w.cell? ⟨rv, 2, none⟩ = some (.pointer (some ⟨rc, 0, none⟩)) := h.cel.cell 2 (by omega)
theorem RVol.c3 (h : RVol w0 w N rv Rb rd rc s S) : w.cell? ⟨rv, 3, none⟩ = some (.string s) := h.cel.cell 3 (by omega)
theorem RVol.c4 (h : RVol w0 w N rv Rb rd rc s S) : w.cell? ⟨rv, 4, none⟩ = some (.int .i64 S.T.count) := h.cel.cell 4 (by omega)
theorem RVol.cf (h : RVol w0 w N rv Rb rd rc s S) : w.cell? ⟨rv, 101, none⟩ = some (.bool S.dead) := h.cel.cell 101 (by omega)
theorem RVol.cx (h : RVol w0 w N rv Rb rd rc s S) (i : Nat) (hi : i < 24) : w.cell? ⟨rv, 77 + i, none⟩ = some (.string (S.X i)) := by
  rw [h.cel.cell (77 + i) (by omega), rvcell_says _ _ _ _ _ _ _ i hi]
theorem RVol.tab (h : RVol w0 w N rv Rb rd rc s S) : w.rangeAt rv 4 (brow 73 (tcell S.T)) := by
  have := h.cel.range 4 73 (by omega)
  rw [show brow 73 (fun j => rvcell Rb rd rc s S.T S.X S.dead (4 + j)) = brow 73 (tcell S.T) from Tw.brow_congr (fun j hj => rvcell_tab _ _ _ _ _ _ _ j hj)] at this
  exact this
end
end Vl
end Go.Proofs.YtbfjklpoheooaaaGreatDoor
end
section
namespace Go.Proofs.YtbfjklpoheooaaaGreatDoor
set_option maxRecDepth 100000
namespace Vl
open Go.RowKit
open Tw (Tb tcell tval ccell)
section
variable {q : Bool} {w0 w : World} {N rv Rb rd rc : Nat} {s : ByteArray} {S : Vs}
def RKeyIs (Rb : Nat) (s k : ByteArray) (u : Int) : Prop := ∀ W, Sm.Arr W Rb 0 8 Sm.H0.fn → Sm.Arr W Rb 8 64 Sm.kn → Calls Tryz.prog 107 #[.pointer (some ⟨Rb, 0, none⟩), .string s, .int .u8 u] W fun e w' => e = .returned (.tuple #[.string k, .int .i64 0]) ∧ Since W w'
theorem rkeyB (hsum : Sm.RSum) (Rb : Nat) (s : ByteArray) (h : s.size = 16) : RKeyIs Rb s (kbOf s) 98 := fun W h1 h2 => Mt.rkey_hit hsum Rb s 98 Mt.wBlocks W h (Or.inl ⟨rfl, rfl⟩) h1 h2
theorem rkeyT (hsum : Sm.RSum) (Rb : Nat) (s : ByteArray) (h : s.size = 16) : RKeyIs Rb s (ktOf s) 116 := fun W h1 h2 => Mt.rkey_hit hsum Rb s 116 Mt.wTables W h (Or.inr ⟨rfl, rfl⟩) h1 h2
set_option maxHeartbeats 4000000 in
theorem key_any (k : ByteArray) (u : Int) (hk : RKeyIs Rb s k u) (h : RVol w0 w N rv Rb rd rc s S) :
    Calls Tryz.prog 50 #[.pointer (some ⟨rv, 0, none⟩), .int .u8 u] w fun e w' => e = .returned (.string k) ∧ Since w w' := by
  have HK : Hid (RKeyIs Rb s k u) := hk
  have H1 : Hid (RVol w0 w.drew N rv Rb rd rc s S) := h.go (Since.refl _).drew
  clear h hk
  go_enter Tryz.func50, Tryz.ntmps50
  go_wp2_with fail
  have hS1 : (fun W : World => W.cell? ⟨rv, 0, none⟩ = some (.pointer (some ⟨Rb, 0, none⟩)) ∧ W.cell? ⟨rv, 3, none⟩ = some (.string s)) w.drew := ⟨H1.out.c0, H1.out.c3⟩
  refine wp_region_held (S := fun W : World => W.cell? ⟨rv, 0, none⟩ = some (.pointer (some ⟨Rb, 0, none⟩)) ∧ W.cell? ⟨rv, 3, none⟩ = some (.string s)) (by kernel_rfl) ?_
  refine Tw.takeD (i := 0) (d := 8) (v := ?v1) rfl rfl (by kernel_rfl) (by kernel_rfl) (by kernel_rfl) (fun _ _ _ h => h) (Or.inl ⟨by rfl, ?hw1⟩) hS1 ?q1
  case hw1 => (intro w hSw; obtain ⟨s0, s1⟩ := hSw; go_simp; try with_reducible rfl)
  simp only [Act.put, List.setIfInBounds_toArray, List.set_cons_zero, List.set_cons_succ]
  refine Tw.takeD (i := 1) (d := 9) (v := ?v2) rfl rfl (by kernel_rfl) (by kernel_rfl) (by kernel_rfl) (fun _ _ _ h => h) (Or.inl ⟨by rfl, ?hw2⟩) hS1 ?q2
  case hw2 => (intro w hSw; obtain ⟨s0, s1⟩ := hSw; go_simp; try with_reducible rfl)
  simp only [Act.put, List.setIfInBounds_toArray, List.set_cons_zero, List.set_cons_succ]
  refine Tw.takeD (i := 2) (d := 10) (v := ?v3) rfl rfl (by kernel_rfl) (by kernel_rfl) (by kernel_rfl) (fun _ _ _ h => h) (Or.inl ⟨by rfl, ?hw3⟩) hS1 ?q3
  case hw3 => (intro w hSw; obtain ⟨s0, s1⟩ := hSw; go_simp; try with_reducible rfl)
  simp only [Act.put, List.setIfInBounds_toArray, List.set_cons_zero, List.set_cons_succ]
  refine Tw.takeD (i := 3) (d := 11) (v := ?v4) rfl rfl (by kernel_rfl) (by kernel_rfl) (by kernel_rfl) (fun _ _ _ h => h) (Or.inl ⟨by rfl, ?hw4⟩) hS1 ?q4
  case hw4 => (intro w hSw; obtain ⟨s0, s1⟩ := hSw; go_simp; try with_reducible rfl)
  simp only [Act.put, List.setIfInBounds_toArray, List.set_cons_zero, List.set_cons_succ]
  refine Tw.takeD (i := 4) (d := 12) (v := ?v5) rfl rfl (by kernel_rfl) (by kernel_rfl) (by kernel_rfl) (fun _ _ _ h => h) (Or.inl ⟨by rfl, ?hw5⟩) hS1 ?q5
  case hw5 => (intro w hSw; obtain ⟨s0, s1⟩ := hSw; go_simp; try with_reducible rfl)
  simp only [Act.put, List.setIfInBounds_toArray, List.set_cons_zero, List.set_cons_succ]
  refine Tw.takeD (i := 5) (d := 13) (v := ?v6) rfl rfl (by kernel_rfl) (by kernel_rfl) (by kernel_rfl) (fun _ _ _ h => h) (Or.inl ⟨by rfl, ?hw6⟩) hS1 ?q6
  case hw6 => (intro w hSw; obtain ⟨s0, s1⟩ := hSw; go_simp; try with_reducible rfl)
  simp only [Act.put, List.setIfInBounds_toArray, List.set_cons_zero, List.set_cons_succ]
  refine Tw.takeD (i := 6) (d := 14) (v := ?v7) rfl rfl (by kernel_rfl) (by kernel_rfl) (by kernel_rfl) (fun _ _ _ h => h) (Or.inl ⟨by rfl, ?hw7⟩) hS1 ?q7
  case hw7 => (intro w hSw; obtain ⟨s0, s1⟩ := hSw; go_simp; try with_reducible rfl)
  simp only [Act.put, List.setIfInBounds_toArray, List.set_cons_zero, List.set_cons_succ]
  refine Tw.takeD (i := 7) (d := 15) (v := ?v8) rfl rfl (by kernel_rfl) (by kernel_rfl) (by kernel_rfl) (fun _ _ _ h => h) (Or.inl ⟨by rfl, ?hw8⟩) hS1 ?q8
  case hw8 => (intro w hSw; obtain ⟨s0, s1⟩ := hSw; go_simp; try with_reducible rfl)
  simp only [Act.put, List.setIfInBounds_toArray, List.set_cons_zero, List.set_cons_succ]
  refine Tw.takeD (i := 8) (d := 16) (v := ?v9) rfl rfl (by kernel_rfl) (by kernel_rfl) (by kernel_rfl) (fun _ _ _ h => h) (Or.inl ⟨by rfl, ?hw9⟩) hS1 ?q9
  case hw9 => (intro w hSw; obtain ⟨s0, s1⟩ := hSw; go_simp; try with_reducible rfl)
  simp only [Act.put, List.setIfInBounds_toArray, List.set_cons_zero, List.set_cons_succ]
  refine wpAnyH_ready (rs := [9]) (by kernel_rfl) (by simp) (AllReadyH.cons rfl (fun K hK => ?_) AllReadyH.nil)
  rw [if_pos (by rfl)]
  go_simp
  refine (HK.out _ H1.out.hh.1 H1.out.hh.2).mono ?_
  rintro e w2 ⟨rfl, h2⟩
  simp only []
  have H2 : Hid (RVol w0 w2 N rv Rb rd rc s S) := H1.out.go h2
  have HS2 : Hid (Since w w2) := (Since.refl _).drew.trans h2
  have hS2 : (fun W : World => W.cell? ⟨rv, 0, none⟩ = some (.pointer (some ⟨Rb, 0, none⟩)) ∧ W.cell? ⟨rv, 3, none⟩ = some (.string s)) w2 := ⟨H2.out.c0, H2.out.c3⟩
  clear h2
  refine hK.out _ _ hS2 (fun _ => ?_)
  clear hK K
  (try simp only [Act.put, List.setIfInBounds_toArray, List.set_cons_zero, List.set_cons_succ])
  refine Tw.takeD (i := 10) (d := 7) (v := ?v12) rfl rfl (by kernel_rfl) (by kernel_rfl) (by kernel_rfl) (fun _ _ _ h => h) (Or.inl ⟨by rfl, ?hw12⟩) hS2 ?q12
  case hw12 => (intro w hSw; obtain ⟨s0, s1⟩ := hSw; go_simp; try with_reducible rfl)
  simp only [Act.put, List.setIfInBounds_toArray, List.set_cons_zero, List.set_cons_succ]
  refine Tw.takeD (i := 11) (d := 18) (v := ?v13) rfl rfl (by kernel_rfl) (by kernel_rfl) (by kernel_rfl) (fun _ _ _ h => h) (Or.inl ⟨by rfl, ?hw13⟩) hS2 ?q13
  case hw13 => (intro w hSw; obtain ⟨s0, s1⟩ := hSw; go_simp; try with_reducible rfl)
  simp only [Act.put, List.setIfInBounds_toArray, List.set_cons_zero, List.set_cons_succ]
  refine Tw.takeD (i := 12) (d := 19) (v := ?v14) rfl rfl (by kernel_rfl) (by kernel_rfl) (by kernel_rfl) (fun _ _ _ h => h) (Or.inl ⟨by rfl, ?hw14⟩) hS2 ?q14
  case hw14 => (intro w hSw; obtain ⟨s0, s1⟩ := hSw; go_simp; try with_reducible rfl)
  simp only [Act.put, List.setIfInBounds_toArray, List.set_cons_zero, List.set_cons_succ]
  refine Tw.takeD (i := 13) (d := 5) (v := ?v15) rfl rfl (by kernel_rfl) (by kernel_rfl) (by kernel_rfl) (fun _ _ _ h => h) (Or.inl ⟨by rfl, ?hw15⟩) hS2 ?q15
  case hw15 => (intro w hSw; obtain ⟨s0, s1⟩ := hSw; go_simp; try with_reducible rfl)
  simp only [Act.put, List.setIfInBounds_toArray, List.set_cons_zero, List.set_cons_succ]
  refine Tw.takeD (i := 14) (d := 6) (v := ?v16) rfl rfl (by kernel_rfl) (by kernel_rfl) (by kernel_rfl) (fun _ _ _ h => h) (Or.inl ⟨by rfl, ?hw16⟩) hS2 ?q16
  case hw16 => (intro w hSw; obtain ⟨s0, s1⟩ := hSw; go_simp; try with_reducible rfl)
  simp only [Act.put, List.setIfInBounds_toArray, List.set_cons_zero, List.set_cons_succ]
  refine wpAnyH_done (by kernel_rfl) ?_ _
  go_wp2_with fail
  go_ret
  exact ⟨rfl, HS2.out⟩
theorem rvcell_flag (T : Tb) (X : Nat → ByteArray) (f : Bool) (j : Nat) (hj : j < 102) : updv (rvcell Rb rd rc s T X f) 101 (.bool true) j = rvcell Rb rd rc s T X true j := by
  unfold updv
  by_cases e : j = 101
  · subst e; rfl
  · rw [if_neg e]
    unfold rvcell
    have e2 : j < 101 := by omega
    simp only [if_pos e2]
theorem device_any (n : Int) (h : RVol w0 w N rv Rb rd rc s S) : Calls Tryz.prog 53 #[.pointer (some ⟨rv, 0, none⟩), .int .i64 n] w fun e w' => e = .returned (.int .i64 n) ∧ RTo q w0 w w' N rv Rb rd rc s { S with dead := S.dead || decide (n = 14) } := by
  have H : Hid (RVol w0 w N rv Rb rd rc s S) := h
  have q1 := h.cf
  have q2 := h.cel.frozen 101 (by omega)
  clear h
  by_cases h14 : n = 14
  · subst h14
    go_enter Tryz.func53, Tryz.ntmps53
    go_wp2_with fail
    go_ret
    refine ⟨rfl, ?_⟩
    have := H.out.celTo (q := q) (T' := S.T) (X' := S.X) (f' := true) ((H.out.cel.set 101 (by omega) (.bool true)).congr (fun j hj => rvcell_flag S.T S.X S.dead j hj)) (Fr.setCell _ _ _ _ _) (H.out.ty.setCell _ _)
    simpa using this
  · have HN : Hid (¬ n = 14) := h14
    go_enter Tryz.func53, Tryz.ntmps53
    go_wp2_with fail
    go_ret
    refine ⟨rfl, ?_⟩
    have := H.out.self (q := q)
    simpa [HN.out] using this
theorem lsOwn {w : World} {base n : Nat} {v : Value} {xs : List Value} {f : Nat → Int} (h : w.ownsRow base 3 1 v n xs) (hx : ∀ j, j < n → xs[j]? = some (.int .i64 (f j))) : Sp.Ls w w.heap.size v n f := by
  rcases h.2 with ⟨rfl, rfl⟩ | ⟨g, cap, cur, rfl, hg, hh, h1, h2, h3, h4⟩
  · exact ⟨_, _, rfl, by omega, fun h => by omega⟩
  · refine ⟨_, _, rfl, h1, fun _ => ⟨g, 0, rfl, (Array.getElem?_eq_some_iff.1 hh).1, fun j hj => ?_⟩⟩
    have e := hx j hj
    rw [← h4, List.getElem?_take_of_lt (by omega), Array.getElem?_toList] at e
    rw [Nat.zero_add]
    simp [World.cell?, hh, e]
theorem row_len {w : World} {N e sz n : Nat} {v : Value} {xs : List Value} (h : w.ownsRow N e sz v n xs) : ∃ a c, v = .slice a n c := by
  rcases h.2 with ⟨h1, h0⟩ | ⟨g, cap, cur, h1, _⟩
  · exact ⟨none, 0, by rw [h1, h0]⟩
  · exact ⟨_, _, h1⟩
set_option maxHeartbeats 4000000 in
theorem rat_any (h : RVol w0 w N rv Rb rd rc s S) (hok : S.D.ok) : Calls Tryz.prog 90 #[.pointer (some ⟨rv, 0, none⟩)] w fun e w' => (∃ x, e = .returned x ∧ Sp.Ls w' w'.heap.size x 8 S.atf) ∧ Since w w' := by
  have H : Hid (RVol w0 w N rv Rb rd rc s S) := h
  have q1 := h.c1
  have HL : Hid (rv < w.heap.size) := h.ty.lt
  have HOK : Hid (S.D.ok) := hok
  clear h hok
  obtain ⟨i0, hi, hz0, hz1, hz2⟩ := Sp.info_parts Sp.infoI
  have HI : Hid (Tryz.prog.info? 3 = some i0 ∧ i0.zero = some (.int .i64 0) ∧ i0.size = 1 ∧ i0.bytes = 8) := ⟨hi, hz0, hz1, hz2⟩
  clear hi hz0 hz1 hz2
  go_enter Tryz.func90, Tryz.ntmps90
  go_wp2_with fail
  go_loopw [5, 3, 4] (fun i x _ wr => ∃ k : Nat, k ≤ 8 ∧ i = .int .i64 k ∧ wr.ownsRow w.heap.size 3 1 x k ((List.range k).map (fun z => Value.int .i64 (S.atf z))) ∧ Since w wr) (fun i _ _ _ => 8 - (intOf i).toNat)
  case atStart => exact ⟨0, by omega, rfl, World.ownsRow_nil _ _ _ _, Since.refl _⟩
  case round =>
    obtain ⟨k, hk, rfl, hx, hs⟩ := hrel
    have HS : Hid (Since w wr) := hs
    have HX : Hid (wr.ownsRow w.heap.size 3 1 _ k ((List.range k).map (fun z => Value.int .i64 (S.atf z)))) := hx
    clear hx hs
    by_cases hlt : k < 8
    · have hlt2 : (k : Int) < 8 := by omega
      have p1 : wr.cell? ⟨rv, 1, none⟩ = some (.pointer (some ⟨rd, 0, none⟩)) := (HS.out.cell (p := ⟨rv, 1, none⟩) HL.out).trans q1
      obtain ⟨lv, av, wv, hr⟩ := (H.out.go HS.out).ref
      have p2 := hr.cel.cell k (by omega)
      rw [rcell_l _ _ _ _ k hlt] at p2
      obtain ⟨ra, rcp, hrv⟩ := row_len (hr.row k hlt)
      rw [hrv] at p2
      have HCK : Hid (S.atf k = (S.D.cnt k : Int)) := rfl
      clear hr hrv
      generalize S.D.cnt k = cn at *
      have HE : Hid ((List.range (k + 1)).map (fun z => Value.int .i64 (S.atf z)) = (List.range k).map (fun z => Value.int .i64 (S.atf z)) ++ [.int .i64 (cn : Int)]) := by
        show (List.range (k + 1)).map (fun z => Value.int .i64 (S.atf z)) = _
        rw [List.range_succ, List.map_append, List.map_singleton, HCK.out]
      have HLN : Hid (((List.range k).map (fun z => Value.int .i64 (S.atf z))).length = k) := by
        show ((List.range k).map (fun z => Value.int .i64 (S.atf z))).length = k
        rw [List.length_map, List.length_range]
      generalize (List.range k).map (fun z => Value.int .i64 (S.atf z)) = vs at *
      go_wp2_with (at_builtin; refine wpList_append_own _ (by rfl) _ _ _ (by rfl) w.heap.size 3 i0 _ 1 8 Tryz.underlying49 HI.out.1 HI.out.2.1 HI.out.2.2.1 HI.out.2.2.2 (by rfl) (by decide) _ k vs (by rfl) (World.ownsRow.alloc HX.out _) ⟨wr.heap.size, 0, none⟩ 1 1 [.int .i64 (cn : Int)] (by rfl) (by rfl) (World.news_of_block (heap_alloc_new wr (.cells #[.int .i64 (cn : Int)] 3))) (by simp [Value.oneCell']) (by unfold maxLen; omega) (by omega) (by have := HS.out.size; simp; omega) ?_; intro x' w3 hown1 hgrow _)
      have HO1 : Hid (w3.ownsRow w.heap.size 3 1 x' (k + 1) ((List.range (k + 1)).map (fun z => Value.int .i64 (S.atf z)))) := by
        show World.ownsRow _ _ _ _ _ _ _
        rw [HE.out]
        exact hown1
      have HG1 : Hid (Since w w3) := Below.grown (Since.alloc HS.out _) hgrow (by have := HS.out.size; simp; omega) (fun j hj => (HX.out.lt j hj).1)
      clear hown1 hgrow
      go_roundw
      case rel => exact ⟨k + 1, by omega, by go_num, HO1.out, HG1.out⟩
      case measure => simp [intOf]; omega
    · have hke : k = 8 := by omega
      subst hke
      go_wp2_with fail
      go_ret
      refine ⟨⟨_, rfl, lsOwn HX.out (fun j hj => ?_)⟩, HS.out⟩
      rw [List.getElem?_map, List.getElem?_range hj]
      rfl
theorem rfree_any (h : RVol w0 w N rv Rb rd rc s S) (hok : S.D.ok) : Calls Tryz.prog 43 #[.pointer (some ⟨rv, 0, none⟩)] w fun e w' => e = .returned (.int .i64 S.free) ∧ Since w w' := by
  have H : Hid (RVol w0 w N rv Rb rd rc s S) := h
  have HOK : Hid (S.D.ok) := hok
  clear h hok
  go_enter Tryz.func43, Tryz.ntmps43
  go_wp2_with fail
  refine (rat_any H.out HOK.out).mono ?_
  rintro e w1 ⟨⟨x, rfl, hx⟩, hs⟩
  have HX : Hid (Sp.Ls w1 w1.heap.size x 8 S.atf) := hx
  have HS : Hid (Since w w1) := hs
  clear hx hs
  go_wp2_with fail
  refine (Sp.rfree_any x 8 _ _ _ HX.out (by omega)).mono ?_
  rintro e w2 ⟨rfl, rfl⟩
  go_wp2_with fail
  go_ret
  exact ⟨rfl, HS.out⟩
end
end Vl
end Go.Proofs.YtbfjklpoheooaaaGreatDoor
end
section
namespace Go.Proofs.YtbfjklpoheooaaaGreatDoor
set_option maxRecDepth 100000
namespace Vl
open Go.RowKit
open Tw (Tb tcell tval ccell)
structure RBase (Rb : Nat) (s kb kt : ByteArray) : Prop where
  sum : Sm.RSum
  keyb : RKeyIs Rb s kb 98
  keyt : RKeyIs Rb s kt 116
  kb : kb.size = 32
  kt : kt.size = 32
section
variable {q : Bool} {w0 w : World} {N rv Rb rd rc : Nat} {s kb kt : ByteArray} {S : Vs}
theorem rappD_any (k : Nat) (x : ByteArray) (hk : k < 8) (hc : S.D.cnt k < 16) (hx : x.size ≤ 128) (hok : S.D.ok) (h : RVol w0 w N rv Rb rd rc s S) :
    Calls Tryz.prog 97 #[.pointer (some ⟨rd, 0, none⟩), .int .i64 (k : Int), .string x] w fun e w' => (S.D.may = false ∧ e = .returned (.tuple #[.int .i64 0, .int .i64 14]) ∧ w' = w) ∨ (S.D.may = true ∧ e = .returned (.tuple #[.int .i64 (S.D.cnt k), .int .i64 0]) ∧ RTo q w0 w w' N rv Rb rd rc s { S with D := S.D.burnt.app k x }) := by
  obtain ⟨lv, av, wv, hr⟩ := h.ref
  cases hm : S.D.may with
  | false =>
    refine (rappend_spent S.D lv av wv rd N k x w hr hok.left hk hx hc hm).mono ?_
    rintro e w' ⟨rfl, rfl⟩
    exact Or.inl ⟨rfl, rfl, rfl⟩
  | true =>
    refine (rappend_any S.D lv av wv rd N k x w hr hok.left hk hx hc hm).mono ?_
    rintro e w' ⟨rfl, ⟨lv', hr'⟩, hf⟩
    exact Or.inr ⟨rfl, rfl, h.refTo0 hr hr' hf⟩
set_option maxHeartbeats 8000000 in
theorem rput_any (B : RBase Rb s kb kt) (i : Nat) (t : ByteArray) (but : Int) (hi : i < 24) (ht : t.size ≤ 80) (hok : S.D.ok) (h : RVol w0 w N rv Rb rd rc s S) :
    Calls Tryz.prog 45 #[.pointer (some ⟨rv, 0, none⟩), .int .i64 (i : Int), .int .i64 but, .string t] w fun e w' => e = .returned (.int .i64 (S.put kb i but t).1) ∧ RTo q w0 w w' N rv Rb rd rc s (S.put kb i but t).2 := by
  have H : Hid (RVol w0 w N rv Rb rd rc s S) := h
  have HB : Hid (RBase Rb s kb kt) := B
  have HOK : Hid (S.D.ok) := hok
  clear h B hok
  go_enter Tryz.func45, Tryz.ntmps45
  go_wp2_with fail
  refine (rat_any H.out HOK.out).mono ?_
  rintro e w1 ⟨⟨x, rfl, hx⟩, hs⟩
  have HX : Hid (Sp.Ls w1 w1.heap.size x 8 S.atf) := hx
  have HS : Hid (Since w w1) := hs
  clear hx hs
  go_wp2_with fail
  refine (Sp.rroom_any x 8 _ _ but _ HX.out (by omega)).mono ?_
  rintro e w2 ⟨⟨z, ok, rfl, hr⟩, rfl⟩
  have HR : Hid _ := room_of hr
  clear hr
  rcases HR.out with ⟨rfl, k, rfl, hk⟩ | ⟨rfl, rfl, hk⟩
  · have hk3 := room_some hk
    have HK : Hid (room S.atf but = some k) := hk
    have HK3 : Hid (k < 8 ∧ (k : Int) ≠ but ∧ S.atf k < 16) := hk3
    clear hk hk3 HR
    have H1 : Hid (RVol w0 w2.drew N rv Rb rd rc s S) := (H.out.go HS.out).go (Since.refl _).drew
    have HS1 : Hid (Since w w2.drew) := HS.out.drew
    go_wp2_with fail
    have hS1 : (fun W : World => W.cell? ⟨rv, 0, none⟩ = some (.pointer (some ⟨Rb, 0, none⟩))) w2.drew := H1.out.c0
    refine wp_region_held (S := fun W : World => W.cell? ⟨rv, 0, none⟩ = some (.pointer (some ⟨Rb, 0, none⟩))) (by kernel_rfl) ?_
    refine Tw.takeD (i := 0) (d := 25) (v := ?v1) rfl rfl (by kernel_rfl) (by kernel_rfl) (by kernel_rfl) (fun _ _ _ h => h) (Or.inl ⟨by rfl, ?hw1⟩) hS1 ?q1
    case hw1 => (intro w hSw; have s0 := hSw; go_simp; try with_reducible rfl)
    simp only [Act.put, List.setIfInBounds_toArray, List.set_cons_zero, List.set_cons_succ]
    refine Tw.takeD (i := 1) (d := 26) (v := ?v2) rfl rfl (by kernel_rfl) (by kernel_rfl) (by kernel_rfl) (fun _ _ _ h => h) (Or.inl ⟨by rfl, ?hw2⟩) hS1 ?q2
    case hw2 => (intro w hSw; have s0 := hSw; go_simp; try with_reducible rfl)
    simp only [Act.put, List.setIfInBounds_toArray, List.set_cons_zero, List.set_cons_succ]
    refine Tw.takeD (i := 2) (d := 27) (v := ?v3) rfl rfl (by kernel_rfl) (by kernel_rfl) (by kernel_rfl) (fun _ _ _ h => h) (Or.inl ⟨by rfl, ?hw3⟩) hS1 ?q3
    case hw3 => (intro w hSw; have s0 := hSw; go_simp; try with_reducible rfl)
    simp only [Act.put, List.setIfInBounds_toArray, List.set_cons_zero, List.set_cons_succ]
    refine Tw.takeD (i := 3) (d := 28) (v := ?v4) rfl rfl (by kernel_rfl) (by kernel_rfl) (by kernel_rfl) (fun _ _ _ h => h) (Or.inl ⟨by rfl, ?hw4⟩) hS1 ?q4
    case hw4 => (intro w hSw; have s0 := hSw; go_simp; try with_reducible rfl)
    simp only [Act.put, List.setIfInBounds_toArray, List.set_cons_zero, List.set_cons_succ]
    refine Tw.takeD (i := 4) (d := 29) (v := ?v5) rfl rfl (by kernel_rfl) (by kernel_rfl) (by kernel_rfl) (fun _ _ _ h => h) (Or.inl ⟨by rfl, ?hw5⟩) hS1 ?q5
    case hw5 => (intro w hSw; have s0 := hSw; go_simp; try with_reducible rfl)
    simp only [Act.put, List.setIfInBounds_toArray, List.set_cons_zero, List.set_cons_succ]
    refine Tw.takeD (i := 6) (d := 31) (v := ?v6) rfl rfl (by kernel_rfl) (by kernel_rfl) (by kernel_rfl) (fun _ _ _ h => h) (Or.inl ⟨by rfl, ?hw6⟩) hS1 ?q6
    case hw6 => (intro w hSw; have s0 := hSw; go_simp; try with_reducible rfl)
    simp only [Act.put, List.setIfInBounds_toArray, List.set_cons_zero, List.set_cons_succ]
    refine Tw.takeD (i := 7) (d := 32) (v := ?v7) rfl rfl (by kernel_rfl) (by kernel_rfl) (by kernel_rfl) (fun _ _ _ h => h) (Or.inl ⟨by rfl, ?hw7⟩) hS1 ?q7
    case hw7 => (intro w hSw; have s0 := hSw; go_simp; try with_reducible rfl)
    simp only [Act.put, List.setIfInBounds_toArray, List.set_cons_zero, List.set_cons_succ]
    refine wpAnyH_ready (rs := [5]) (by kernel_rfl) (by simp) (AllReadyH.cons rfl (fun K hK => ?_) AllReadyH.nil)
    rw [if_pos (by rfl)]
    go_simp
    refine (key_any kb 98 HB.out.keyb H1.out).mono ?_
    rintro e w3 ⟨rfl, h3⟩
    simp only []
    have H3 : Hid (RVol w0 w3 N rv Rb rd rc s S) := H1.out.go h3
    have HS3 : Hid (Since w w3) := HS1.out.trans h3
    have hS3 : (fun W : World => W.cell? ⟨rv, 0, none⟩ = some (.pointer (some ⟨Rb, 0, none⟩))) w3 := H3.out.c0
    clear h3
    refine hK.out _ _ hS3 (fun _ => ?_)
    clear hK K
    (try simp only [Act.put, List.setIfInBounds_toArray, List.set_cons_zero, List.set_cons_succ])
    refine wpAnyH_ready (rs := [8]) (by kernel_rfl) (by simp) (AllReadyH.cons rfl (fun K hK => ?_) AllReadyH.nil)
    rw [if_pos (by rfl)]
    go_simp
    refine (Sl.rseal_ok HB.out.sum Rb kb i t _ HB.out.kb (by omega) (by omega) ht H3.out.hh.1 H3.out.hh.2).mono ?_
    rintro e w4 ⟨rfl, h4⟩
    simp only []
    have H4 : Hid (RVol w0 w4 N rv Rb rd rc s S) := H3.out.go h4
    have HS4 : Hid (Since w w4) := HS3.out.trans h4
    have hS4 : (fun W : World => W.cell? ⟨rv, 0, none⟩ = some (.pointer (some ⟨Rb, 0, none⟩))) w4 := H4.out.c0
    clear h4
    refine hK.out _ _ hS4 (fun _ => ?_)
    clear hK K
    (try simp only [Act.put, List.setIfInBounds_toArray, List.set_cons_zero, List.set_cons_succ])
    have HZ : Hid ((Sl.sealOf kb i t).size = 109) := Sl.seal_size kb i t
    have HP : Hid (S.put kb i but t = if S.D.may = false then (14, { S with dead := true }) else (0, { S with D := S.D.burnt.app k (Sl.sealOf kb i t), T := updT S.T i k (S.D.cnt k) ((Sl.sealOf kb i t).extract 0 16), X := updX S.X i t })) := by
      show S.put kb i but t = _
      unfold Vs.put
      rw [HK.out]
    generalize Sl.sealOf kb i t = se at *
    refine Tw.takeD (i := 9) (d := 24) (v := ?v12) rfl rfl (by kernel_rfl) (by kernel_rfl) (by kernel_rfl) (fun _ _ _ h => h) (Or.inl ⟨by rfl, ?hw12⟩) hS4 ?q12
    case hw12 => (intro w hSw; have s0 := hSw; go_simp; try with_reducible rfl)
    simp only [Act.put, List.setIfInBounds_toArray, List.set_cons_zero, List.set_cons_succ]
    refine Tw.takeD (i := 10) (d := 34) (v := ?v13) rfl rfl (by kernel_rfl) (by kernel_rfl) (by kernel_rfl) (fun _ _ _ h => h) (Or.inl ⟨by rfl, ?hw13⟩) hS4 ?q13
    case hw13 => (intro w hSw; have s0 := hSw; go_simp; try with_reducible rfl)
    simp only [Act.put, List.setIfInBounds_toArray, List.set_cons_zero, List.set_cons_succ]
    refine Tw.takeD (i := 11) (d := 35) (v := ?v14) rfl rfl (by kernel_rfl) (by kernel_rfl) (by kernel_rfl) (fun _ _ _ h => h) (Or.inl ⟨by rfl, ?hw14⟩) hS4 ?q14
    case hw14 => (intro w hSw; have s0 := hSw; go_simp; try with_reducible rfl)
    simp only [Act.put, List.setIfInBounds_toArray, List.set_cons_zero, List.set_cons_succ]
    refine Tw.takeD (i := 12) (d := 11) (v := ?v15) rfl rfl (by kernel_rfl) (by kernel_rfl) (by kernel_rfl) (fun _ _ _ h => h) (Or.inl ⟨by rfl, ?hw15⟩) hS4 ?q15
    case hw15 => (intro w hSw; have s0 := hSw; go_simp; try with_reducible rfl)
    simp only [Act.put, List.setIfInBounds_toArray, List.set_cons_zero, List.set_cons_succ]
    refine Tw.takeD (i := 13) (d := 12) (v := ?v16) rfl rfl (by kernel_rfl) (by kernel_rfl) (by kernel_rfl) (fun _ _ _ h => h) (Or.inl ⟨by rfl, ?hw16⟩) hS4 ?q16
    case hw16 => (intro w hSw; have s0 := hSw; go_simp; try with_reducible rfl)
    simp only [Act.put, List.setIfInBounds_toArray, List.set_cons_zero, List.set_cons_succ]
    refine wpAnyH_done (by kernel_rfl) ?_ _
    have HC16 : Hid (S.D.cnt k < 16) := by
      have := HK3.out.2.2
      unfold Vs.atf at this
      show S.D.cnt k < 16
      omega
    have q1 := H4.out.c1
    clear hS1 hS3 hS4 H1 H3 HS1 HS3
    go_wp2_with fail
    refine (rappD_any (q := q) k se HK3.out.1 HC16.out (by have := HZ.out; omega) HOK.out H4.out).mono ?_
    rintro e w5 (⟨hm, rfl, hw⟩ | ⟨hm, rfl, h5⟩)
    · rw [hw]
      clear hw w5
      have HE : Hid (S.put kb i but t = (14, { S with dead := true })) := by
        show S.put kb i but t = _
        rw [HP.out, if_pos hm]
      clear hm HP
      go_wp2_with fail
      refine (device_any (q := q) 14 H4.out).mono ?_
      rintro e w6 ⟨rfl, h6⟩
      have HT6 : Hid (RTo q w0 w w6 N rv Rb rd rc s { S with dead := S.dead || decide ((14 : Int) = 14) }) := RTo.pre HS4.out h6
      clear h6
      go_wp2_with fail
      go_ret
      rw [HE.out]
      refine ⟨rfl, ?_⟩
      have := HT6.out
      simpa using this
    · have HE : Hid (S.put kb i but t = (0, { S with D := S.D.burnt.app k se, T := updT S.T i k (S.D.cnt k) (se.extract 0 16), X := updX S.X i t })) := by
        show S.put kb i but t = _
        rw [HP.out, if_neg (by rw [hm]; decide)]
      have H5 : Hid (RVol w0 w5 N rv Rb rd rc s { S with D := S.D.burnt.app k se }) := h5.1
      have HT5 : Hid (RTo q w0 w w5 N rv Rb rd rc s { S with D := S.D.burnt.app k se }) := RTo.pre HS4.out h5
      clear hm HP h5 q1
      have hs16 : (16 : Int) ≤ se.size := by have := HZ.out; omega
      have hi2 : (i : Int) < 24 := by omega
      have HCD : Hid (Cel w5.drew rv 102 (rvcell Rb rd rc s S.T S.X S.dead)) := H5.out.cel.since (Since.refl _).drew
      have HC5 : Hid (Cel w5 rv 102 (rvcell Rb rd rc s S.T S.X S.dead)) := H5.out.cel
      have c0 := HC5.out.cell (5 + i * 3) (by omega)
      have c1 := HC5.out.cell (5 + i * 3 + 1) (by omega)
      have c2 := HC5.out.cell (5 + i * 3 + 2) (by omega)
      have c3 := HC5.out.cell (77 + i) (by omega)
      have d0 := HCD.out.cell (5 + i * 3) (by omega)
      have d1 := HCD.out.cell (5 + i * 3 + 1) (by omega)
      have d2 := HCD.out.cell (5 + i * 3 + 2) (by omega)
      have d3 := HCD.out.cell (77 + i) (by omega)
      have f0 := HC5.out.frozen (5 + i * 3) (by omega)
      have f1 := HC5.out.frozen (5 + i * 3 + 1) (by omega)
      have f2 := HC5.out.frozen (5 + i * 3 + 2) (by omega)
      have f3 := HC5.out.frozen (77 + i) (by omega)
      have g0 := HCD.out.frozen (5 + i * 3) (by omega)
      have g1 := HCD.out.frozen (5 + i * 3 + 1) (by omega)
      have g2 := HCD.out.frozen (5 + i * 3 + 2) (by omega)
      have g3 := HCD.out.frozen (77 + i) (by omega)
      go_wp2_with fail
      go_region
      have HT6 : Hid (RTo q w0 w ((((w5.setCell ⟨rv, 5 + i * 3, none⟩ (.int .i64 (k : Int))).setCell ⟨rv, 5 + i * 3 + 1, none⟩ (.int .i64 (S.D.cnt k : Int))).setCell ⟨rv, 5 + i * 3 + 2, none⟩ (.string (se.extract 0 16))).setCell ⟨rv, 77 + i, none⟩ (.string t)).drew N rv Rb rd rc s { S with D := S.D.burnt.app k se, T := updT S.T i k (S.D.cnt k) (se.extract 0 16), X := updX S.X i t }) := by
        refine HT5.out.after (RTo.after (H5.out.celTo (T' := updT S.T i k (S.D.cnt k) (se.extract 0 16)) (X' := updX S.X i t) (f' := S.dead) ?_ ((((Fr.setCell _ _ _ _ _).trans' (Fr.setCell _ _ _ _ _)).trans' (Fr.setCell _ _ _ _ _)).trans' (Fr.setCell _ _ _ _ _)) ((((H5.out.ty.setCell _ _).setCell _ _).setCell _ _).setCell _ _)) (RVol.to ?_ (Since.refl _).drew))
        · exact ((((HC5.out.set (5 + i * 3) (by omega) _).set (5 + i * 3 + 1) (by omega) _).set (5 + i * 3 + 2) (by omega) _).congr (fun j hj => rvcell_set _ _ _ _ _ _ _ i hi k (S.D.cnt k) (se.extract 0 16) j hj)).set (77 + i) (by omega) _ |>.congr (fun j hj => rvcell_setX _ _ _ _ _ _ _ i hi t j hj)
        · exact (H5.out.celTo (q := q) (T' := updT S.T i k (S.D.cnt k) (se.extract 0 16)) (X' := updX S.X i t) (f' := S.dead) (((((HC5.out.set (5 + i * 3) (by omega) _).set (5 + i * 3 + 1) (by omega) _).set (5 + i * 3 + 2) (by omega) _).congr (fun j hj => rvcell_set _ _ _ _ _ _ _ i hi k (S.D.cnt k) (se.extract 0 16) j hj)).set (77 + i) (by omega) _ |>.congr (fun j hj => rvcell_setX _ _ _ _ _ _ _ i hi t j hj)) ((((Fr.setCell _ _ _ _ _).trans' (Fr.setCell _ _ _ _ _)).trans' (Fr.setCell _ _ _ _ _)).trans' (Fr.setCell _ _ _ _ _)) ((((H5.out.ty.setCell _ _).setCell _ _).setCell _ _).setCell _ _)).1
      clear c0 c1 c2 c3 d0 d1 d2 d3 f0 f1 f2 f3 g0 g1 g2 g3 HCD HC5 H5 HT5
      generalize ((((w5.setCell ⟨rv, 5 + i * 3, none⟩ (.int .i64 (k : Int))).setCell ⟨rv, 5 + i * 3 + 1, none⟩ (.int .i64 (S.D.cnt k : Int))).setCell ⟨rv, 5 + i * 3 + 2, none⟩ (.string (se.extract 0 16))).setCell ⟨rv, 77 + i, none⟩ (.string t)).drew = w6 at *
      go_wp2_with fail
      refine (device_any (q := q) 0 HT6.out.1).mono ?_
      rintro e w7 ⟨rfl, h7⟩
      have HT7 : Hid (RTo q w0 w w7 N rv Rb rd rc s { S with D := S.D.burnt.app k se, T := updT S.T i k (S.D.cnt k) (se.extract 0 16), X := updX S.X i t }) := by
        have := HT6.out.after h7
        have e0 : (S.dead || decide ((0 : Int) = 14)) = S.dead := by simp
        rw [e0] at this
        exact this
      clear h7
      go_wp2_with fail
      go_ret
      rw [HE.out]
      exact ⟨rfl, HT7.out⟩
  · have HK : Hid (room S.atf but = none) := hk
    clear hk HR
    go_wp2_with fail
    go_ret
    have HP : S.put kb i but t = (12, S) := by unfold Vs.put; rw [HK.out]
    rw [HP]
    exact ⟨rfl, H.out.to HS.out⟩
end
end Vl
end Go.Proofs.YtbfjklpoheooaaaGreatDoor
end
