import Derived.OwnWalk
import Derived.BigRegion
import Derived.Deep.RegionHeld3
import Derived.Test.YtlgocfgnfdnloaaGreatDoorJ04
import Derived.Test.YtlgocfgnfdnloaaGreatDoorJ25
import Derived.Test.YtlgocfgnfdnloaaGreatDoorJ26
import Derived.Test.YtlgocfgnfdnloaaGreatDoorJ33
set_option linter.unusedSimpArgs false
set_option linter.unusedVariables false
section
namespace Go.Proofs.YtlgocfgnfdnloaaGreatDoor
namespace Vl
open Go.RowKit
open Tw (Tb tcell tval ccell)
def vcell (db cb : Nat) (kb kt : ByteArray) (T : Tb) (X : Nat → ByteArray) (f : Bool) (j : Nat) : Value :=
  if j = 0 then .pointer (some ⟨db, 0, none⟩) else if j = 1 then .pointer (some ⟨cb, 0, none⟩) else if j = 2 then .string kb else if j = 3 then .string kt
  else if j < 77 then tcell T (j - 4) else if j < 101 then .string (X (j - 77)) else .bool f
theorem vcell_tab (db cb : Nat) (kb kt : ByteArray) (T : Tb) (X : Nat → ByteArray) (f : Bool) (j : Nat) (hj : j < 73) : vcell db cb kb kt T X f (4 + j) = tcell T j := by
  unfold vcell
  rw [if_neg (by omega), if_neg (by omega), if_neg (by omega), if_neg (by omega), if_pos (by omega), show 4 + j - 4 = j by omega]
theorem vcell_says (db cb : Nat) (kb kt : ByteArray) (T : Tb) (X : Nat → ByteArray) (f : Bool) (j : Nat) (hj : j < 24) : vcell db cb kb kt T X f (77 + j) = .string (X j) := by
  unfold vcell
  rw [if_neg (by omega), if_neg (by omega), if_neg (by omega), if_neg (by omega), if_neg (by omega), if_pos (by omega), show 77 + j - 77 = j by omega]
structure Fs (S : Nat → Prop) (w w' : World) : Prop where
  os : w'.os = w.os
  tape : w'.tape = w.tape
  output : w'.output = w.output
  size : w.heap.size ≤ w'.heap.size
  block : ∀ k, k < w.heap.size → ¬ S k → w'.heap[k]? = w.heap[k]?
theorem Fs.refl (S : Nat → Prop) (w : World) : Fs S w w := ⟨rfl, rfl, rfl, Nat.le_refl _, fun _ _ _ => rfl⟩
theorem Fs.trans {S : Nat → Prop} {w w' w'' : World} (h : Fs S w w') (k : Fs S w' w'') : Fs S w w'' :=
  ⟨k.os.trans h.os, k.tape.trans h.tape, k.output.trans h.output, Nat.le_trans h.size k.size, fun j hj hs => (k.block j (Nat.lt_of_lt_of_le hj h.size) hs).trans (h.block j hj hs)⟩
theorem Fs.trans' {S S' : Nat → Prop} {w w' w'' : World} (h : Fs S w w') (k : Fs S' w' w'') (hS : ∀ j, S' j → S j ∨ w.heap.size ≤ j) : Fs S w w'' :=
  ⟨k.os.trans h.os, k.tape.trans h.tape, k.output.trans h.output, Nat.le_trans h.size k.size, fun j hj hs => (k.block j (Nat.lt_of_lt_of_le hj h.size) (fun e => by
    rcases hS j e with h1 | h1
    · exact hs h1
    · omega)).trans (h.block j hj hs)⟩
theorem Fs.of_since {S : Nat → Prop} {w w' : World} (h : Since w w') : Fs S w w' := ⟨h.os, h.tape, h.output, h.size, fun k hk _ => h.block k hk⟩
theorem Fs.of_fr {S : Nat → Prop} {b : Nat} {g : Option Nat} {w w' : World} (h : Fr b g w w') (hb : S b) (hg : ∀ k, g = some k → S k) : Fs S w w' :=
  ⟨h.os, h.tape, h.output, h.size, fun k hk hs => h.block k hk (fun e => hs (e ▸ hb)) (fun e => hs (hg k e.symm))⟩
theorem Fs.since {S : Nat → Prop} {a w w' : World} (h : Fs S w w') (hs : Since a w) (hS : ∀ k, S k → a.heap.size ≤ k) : Since a w' :=
  Below.trans (show Below a.heap.size a w from hs) ⟨h.os, h.tape, h.output, h.size, fun k hk => h.block k (Nat.lt_of_lt_of_le hk hs.size) (fun e => by have := hS k e; omega)⟩
theorem Fs.cell {S : Nat → Prop} {w w' : World} (h : Fs S w w') {p : Addr} (hp : p.block < w.heap.size) (hb : ¬ S p.block) : w'.cell? p = w.cell? p :=
  World.cell?_of_block (w := w) (h.block p.block hp hb)
theorem Fs.frozen {S : Nat → Prop} {w w' : World} (h : Fs S w w') {p : Addr} (hp : p.block < w.heap.size) (hb : ¬ S p.block) : w'.frozen? p = w.frozen? p :=
  World.frozen?_of_block (w := w) (h.block p.block hp hb)
theorem celFs {S : Nat → Prop} {w w' : World} {b n : Nat} {f : Nat → Value} (h : Cel w b n f) (hs : Fs S w w') (hb : ¬ S b) : Cel w' b n f where
  cell j hj := by
    have hc := h.cell j hj
    rw [hs.cell (p := ⟨b, j, none⟩) (World.block_lt_of_cell? w _ hc) hb]; exact hc
  frozen j hj := by
    have hc := h.cell j hj
    rw [hs.frozen (p := ⟨b, j, none⟩) (World.block_lt_of_cell? w _ hc) hb]; exact h.frozen j hj
theorem ownFs {S : Nat → Prop} {w w' : World} {base e size n : Nat} {v : Value} {xs : List Value} (h : w.ownsRow base e size v n xs) (hf : Fs S w w') (hv : ∀ k, v.ownBlock = some k → ¬ S k) : w'.ownsRow base e size v n xs := by
  refine ⟨h.1, ?_⟩
  rcases h.2 with hn | ⟨k, cap, cur, rfl, hbk, hk, rest⟩
  · exact .inl hn
  · refine .inr ⟨k, cap, cur, rfl, hbk, ?_, rest⟩
    rw [hf.block k (Array.getElem?_eq_some_iff.1 hk).1 (hv k rfl)]
    exact hk
theorem devFs {S : Nat → Prop} {w w' : World} {b : Nat} {D : Dv} {v : Value} (h : Dev w b D v) (hf : Fs S w w') (hb : ¬ S b) (hv : ∀ k, v.ownBlock = some k → ¬ S k) : Dev w' b D v :=
  ⟨celFs h.cel hf hb, ownFs h.own hf hv, h.ne, h.ok⟩
def Ty (w : World) (b : Nat) (t : TypeId) : Prop := ∃ arr fz, w.heap[b]? = some (.cells arr t fz)
theorem Ty.blk {w w' : World} {b : Nat} {t : TypeId} (h : Ty w b t) (hb : w'.heap[b]? = w.heap[b]?) : Ty w' b t := by
  obtain ⟨arr, fz, ha⟩ := h
  exact ⟨arr, fz, hb.trans ha⟩
theorem Ty.lt {w : World} {b : Nat} {t : TypeId} (h : Ty w b t) : b < w.heap.size := by
  obtain ⟨arr, fz, ha⟩ := h
  exact (Array.getElem?_eq_some_iff.1 ha).1
theorem Ty.since {w w' : World} {b : Nat} {t : TypeId} (h : Ty w b t) (hs : Since w w') : Ty w' b t := h.blk (hs.block b h.lt)
theorem Ty.setCell {w : World} {b : Nat} {t : TypeId} (h : Ty w b t) (a : Addr) (v : Value) : Ty (w.setCell a v) b t := by
  by_cases e : b = a.block
  · obtain ⟨arr, fz, ha⟩ := h
    subst e
    refine ⟨if a.spot.isSome then arr else arr.setIfInBounds a.off v, fz, ?_⟩
    unfold World.setCell
    simp [Array.getElem?_modify, ha]
  · exact h.blk (Below.heap_setCell _ _ _ _ e)
theorem Ty.setCells {b : Nat} {t : TypeId} (b' : Nat) : ∀ (vs : List Value) (o : Nat) (w : World), Ty w b t → Ty (w.setCells b' o vs) b t
  | [], _, w, h => h
  | v :: r, o, w, h => Ty.setCells b' r (o + 1) _ (h.setCell _ _)
theorem Ty.one {w : World} {b : Nat} {t u : TypeId} (h : Ty w b t) (k : Ty w b u) : t = u := by
  obtain ⟨a, f, ha⟩ := h
  obtain ⟨c, g, hc⟩ := k
  rw [ha] at hc
  injection hc with hc
  injection hc with _ h2
theorem Ty.own {w : World} {base e s n : Nat} {v : Value} {xs : List Value} {k : Nat} (h : w.ownsRow base e s v n xs) (hk : v.ownBlock = some k) : Ty w k e := by
  rcases h.2 with ⟨rfl, _⟩ | ⟨g, c, u, rfl, _, hg, _⟩
  · simp [Value.ownBlock] at hk
  · simp only [Value.ownBlock, Option.some.injEq] at hk
    subst hk
    exact ⟨_, _, hg⟩
theorem Ty.new (w : World) (cs : Array Value) (t : TypeId) : Ty (w.alloc (.cells cs t)) w.heap.size t := ⟨cs, (0, 0), by show (w.heap.push _)[w.heap.size]? = _; simp⟩
structure Base (w0 : World) (kb kt : ByteArray) : Prop where
  tab : Sm.Tab w0
  kb : kb.size = 32
  kt : kt.size = 32
def VP (vb db cb : Nat) (v : Value) (k : Nat) : Prop := k = vb ∨ k = db ∨ k = cb ∨ v.ownBlock = some k
structure Vol (w0 w : World) (vb db cb : Nat) (kb kt : ByteArray) (S : Vs) (v : Value) : Prop where
  cel : Cel w vb 102 (vcell db cb kb kt S.T S.X S.dead)
  dev : Dev w db S.D v
  ctr : Cel w cb 1 (fun _ => .int .i64 S.c)
  ne : vb ≠ db ∧ vb ≠ cb ∧ db ≠ cb
  own : v.ownBlock ≠ some vb ∧ v.ownBlock ≠ some cb
  ty : Ty w vb 198
  since : Since w0 w
  lo : w0.heap.size ≤ vb ∧ w0.heap.size ≤ db ∧ w0.heap.size ≤ cb ∧ ∀ k, v.ownBlock = some k → w0.heap.size ≤ k
theorem Vol.go {w0 w w' : World} {vb db cb : Nat} {kb kt : ByteArray} {S : Vs} {v : Value} (h : Vol w0 w vb db cb kb kt S v) (hs : Since w w') : Vol w0 w' vb db cb kb kt S v :=
  ⟨h.cel.since hs, h.dev.since hs, h.ctr.since hs, h.ne, h.own, h.ty.since hs, h.since.trans hs, h.lo⟩
def Vto (w0 w w' : World) (vb db cb : Nat) (kb kt : ByteArray) (S' : Vs) (v : Value) : Prop := ∃ v', Vol w0 w' vb db cb kb kt S' v' ∧ Fs (VP vb db cb v) w w' ∧ Nx w v.ownBlock v'.ownBlock
section
variable {w0 w w' w'' : World} {vb db cb : Nat} {kb kt : ByteArray} {S S' : Vs} {v v' : Value}
theorem Vol.self (h : Vol w0 w vb db cb kb kt S v) : Vto w0 w w vb db cb kb kt S v := ⟨v, h, Fs.refl _ _, Nx.refl _ _⟩
theorem Vol.to (h : Vol w0 w vb db cb kb kt S v) (hs : Since w w') : Vto w0 w w' vb db cb kb kt S v := ⟨v, h.go hs, Fs.of_since hs, Nx.refl _ _⟩
theorem VP.nx (hn : Nx w v.ownBlock v'.ownBlock) : ∀ j, VP vb db cb v' j → VP vb db cb v j ∨ w.heap.size ≤ j := by
  rintro j (h | h | h | h)
  · exact Or.inl (Or.inl h)
  · exact Or.inl (Or.inr (Or.inl h))
  · exact Or.inl (Or.inr (Or.inr (Or.inl h)))
  · rcases hn j h with h1 | h1
    · exact Or.inl (Or.inr (Or.inr (Or.inr h1)))
    · exact Or.inr h1
theorem Vto.then {S1 : Vs} {w1 : World} (h : Vto w0 w w1 vb db cb kb kt S1 v) (k : ∀ v1, Vol w0 w1 vb db cb kb kt S1 v1 → Vto w0 w1 w' vb db cb kb kt S' v1) : Vto w0 w w' vb db cb kb kt S' v := by
  obtain ⟨v1, h1, f1, n1⟩ := h
  obtain ⟨v2, h2, f2, n2⟩ := k v1 h1
  exact ⟨v2, h2, f1.trans' f2 (VP.nx n1), n1.trans n2 f1.size⟩
theorem Vto.cont {S1 : Vs} {w1 : World} (h : Vto w0 w w1 vb db cb kb kt S1 v) : ∃ v1, Vol w0 w1 vb db cb kb kt S1 v1 ∧ ∀ w' S', Vto w0 w1 w' vb db cb kb kt S' v1 → Vto w0 w w' vb db cb kb kt S' v := by
  obtain ⟨v1, h1, f1, n1⟩ := h
  exact ⟨v1, h1, fun w' S' ⟨v2, h2, f2, n2⟩ => ⟨v2, h2, f1.trans' f2 (VP.nx n1), n1.trans n2 f1.size⟩⟩
theorem Vto.cont' {S1 : Vs} {w1 : World} {b o : Nat} {x : Value} (h : Vto w0 w w1 vb db cb kb kt S1 v) (hb : ¬ VP vb db cb v b) (hx : w.cell? ⟨b, o, none⟩ = some x) :
    ∃ v1, Vol w0 w1 vb db cb kb kt S1 v1 ∧ (∀ w' S', Vto w0 w1 w' vb db cb kb kt S' v1 → Vto w0 w w' vb db cb kb kt S' v) ∧ w1.cell? ⟨b, o, none⟩ = some x ∧ ¬ VP vb db cb v1 b := by
  obtain ⟨v1, h1, f1, n1⟩ := h
  have hlt := World.block_lt_of_cell? w _ hx
  refine ⟨v1, h1, fun w' S' ⟨v2, h2, f2, n2⟩ => ⟨v2, h2, f1.trans' f2 (VP.nx n1), n1.trans n2 f1.size⟩, (f1.cell (p := ⟨b, o, none⟩) hlt hb).trans hx, fun e => ?_⟩
  rcases VP.nx n1 b e with h2 | h2
  · exact hb h2
  · have : b < w.heap.size := hlt
    omega
theorem Vol.notNew (h : Vol w0 w vb db cb kb kt S v) : ¬ VP vb db cb v w.heap.size := by
  rintro (e | e | e | e)
  · have := h.cel.lt (by omega); omega
  · have := h.dev.lt; omega
  · have := h.ctr.lt (by omega); omega
  · have := h.dev.glt _ e; omega
theorem Vto.go (h : Vto w0 w w' vb db cb kb kt S v) (hs : Since w' w'') : Vto w0 w w'' vb db cb kb kt S v := h.then fun v1 h1 => h1.to hs
theorem Vto.pre (hs : Since w w') (h : Vto w0 w' w'' vb db cb kb kt S v) : Vto w0 w w'' vb db cb kb kt S v := by
  obtain ⟨v1, h1, f1, n1⟩ := h
  refine ⟨v1, h1, (Fs.of_since hs).trans f1, fun k hk => ?_⟩
  rcases n1 k hk with h2 | h2
  · exact Or.inl h2
  · exact Or.inr (Nat.le_trans hs.size h2)
theorem Vol.devTo {D' : Dv} (h : Vol w0 w vb db cb kb kt S v) (hd : Dev w' db D' v') (hf : Fr db v.ownBlock w w') (hn : Nx w v.ownBlock v'.ownBlock) : Vto w0 w w' vb db cb kb kt { S with D := D' } v := by
  have hF : Fs (fun k => k = db ∨ v.ownBlock = some k) w w' := Fs.of_fr hf (Or.inl rfl) (fun k hk => Or.inr hk)
  have hlt := h.cel.lt (by omega)
  have hlc := h.ctr.lt (by omega)
  have hvo : v'.ownBlock ≠ some vb ∧ v'.ownBlock ≠ some cb := by
    refine ⟨fun e => ?_, fun e => ?_⟩
    · rcases hn _ e with h1 | h1
      · exact h.own.1 h1
      · omega
    · rcases hn _ e with h1 | h1
      · exact h.own.2 h1
      · omega
  have hnv : ¬ (vb = db ∨ v.ownBlock = some vb) := by
    rintro (e | e)
    · exact h.ne.1 e
    · exact h.own.1 e
  refine ⟨v', ⟨celFs h.cel hF hnv, hd, celFs h.ctr hF ?_, h.ne, hvo, h.ty.blk (hF.block vb hlt hnv), hF.since h.since ?_, h.lo.1, h.lo.2.1, h.lo.2.2.1, fun k hk => ?_⟩, ⟨hF.os, hF.tape, hF.output, hF.size, fun k hk hs => hF.block k hk (fun e => hs ?_)⟩, hn⟩
  · rintro (e | e)
    · exact h.ne.2.2 e.symm
    · exact h.own.2 e
  · rintro k (e | e)
    · rw [e]; exact h.lo.2.1
    · exact h.lo.2.2.2 k e
  · rcases hn k hk with h1 | h1
    · exact h.lo.2.2.2 k h1
    · exact Nat.le_trans h.since.size h1
  · rcases e with e | e
    · exact Or.inr (Or.inl e)
    · exact Or.inr (Or.inr (Or.inr e))
theorem Vol.celTo {T' : Tb} {X' : Nat → ByteArray} {f' : Bool} (h : Vol w0 w vb db cb kb kt S v) (hc : Cel w' vb 102 (vcell db cb kb kt T' X' f')) (hf : Fr vb none w w') (ht : Ty w' vb 198) : Vto w0 w w' vb db cb kb kt { S with T := T', X := X', dead := f' } v := by
  have hF : Fs (fun k => k = vb) w w' := Fs.of_fr hf rfl (fun k hk => by cases hk)
  refine ⟨v, ⟨hc, devFs h.dev hF (fun e => h.ne.1 e.symm) (fun k hk e => h.own.1 (hk.trans (by rw [e]))), celFs h.ctr hF (fun e => h.ne.2.1 e.symm), h.ne, h.own, ht, hF.since h.since (fun k e => by rw [e]; exact h.lo.1), h.lo⟩, ⟨hF.os, hF.tape, hF.output, hF.size, fun k hk hs => hF.block k hk (fun e => hs (Or.inl e))⟩, Nx.refl _ _⟩
theorem Vol.ctrTo {c' : Int} (h : Vol w0 w vb db cb kb kt S v) : Vto w0 w (w.setCell ⟨cb, 0, none⟩ (.int .i64 c')) vb db cb kb kt { S with c := c' } v := by
  have hF : Fs (fun k => k = cb) w (w.setCell ⟨cb, 0, none⟩ (.int .i64 c')) := Fs.of_fr (Fr.setCell cb none 0 w _) rfl (fun k hk => by cases hk)
  refine ⟨v, ⟨celFs h.cel hF h.ne.2.1, devFs h.dev hF h.ne.2.2 (fun k hk e => h.own.2 (hk.trans (by rw [e]))), (h.ctr.set 0 (by omega) _).congr (fun j hj => by
    obtain rfl : j = 0 := by omega
    rfl), h.ne, h.own, h.ty.setCell _ _, hF.since h.since (fun k e => by rw [e]; exact h.lo.2.2.1), h.lo⟩, ⟨hF.os, hF.tape, hF.output, hF.size, fun k hk hs => hF.block k hk (fun e => hs (Or.inr (Or.inr (Or.inl e))))⟩, Nx.refl _ _⟩
end
end Vl
end Go.Proofs.YtlgocfgnfdnloaaGreatDoor
end
section
namespace Go.Proofs.YtlgocfgnfdnloaaGreatDoor
set_option maxRecDepth 100000
namespace Vl
open Go.RowKit
open Tw (Tb tcell tval ccell)
theorem orZero_any (a : Addr) (w : World) : Calls Tryz.prog 142 #[.pointer (some a)] w fun e w' => e = .returned (.pointer (some a)) ∧ w' = w := by
  go_enter Tryz.func142, Tryz.ntmps142
  go_wp2_with fail
  go_ret
  exact ⟨rfl, rfl⟩
theorem hasCell_any (z : Int) (w : World) : Calls Tryz.prog 189 #[.int .i64 z] w fun e w' => e = .returned (.bool (decide (0 ≤ z) && decide (z < 24))) ∧ w' = w := by
  by_cases h : 0 ≤ z
  · go_enter Tryz.func189, Tryz.ntmps189
    go_wp2_with fail
    go_ret
    exact ⟨by simp [h], rfl⟩
  · go_enter Tryz.func189, Tryz.ntmps189
    go_wp2_with fail
    go_ret
    exact ⟨by simp; omega, rfl⟩
theorem hc_true {z : Int} (h : 0 ≤ z ∧ z < 24) : (decide (0 ≤ z) && decide (z < 24)) = true := by simp; omega
theorem hc_false {z : Int} (h : ¬ (0 ≤ z ∧ z < 24)) : (decide (0 ≤ z) && decide (z < 24)) = false := by simp; omega
theorem tmod2 (n : Int) (h : 0 ≤ n) : n.tmod 2 = n % 2 := Int.tmod_eq_emod_of_nonneg h
theorem slotOf_any (n : Int) (w : World) (h : 0 ≤ n) : Calls Tryz.prog 222 #[.int .i64 n] w fun e w' => e = .returned (.int .i64 (n % 2)) ∧ w' = w := by
  have e := tmod2 n h
  have hr : wrap64 (n % 2) = n % 2 := by unfold wrap64; omega
  go_enter Tryz.func222, Tryz.ntmps222
  go_wp2_with fail
  go_ret
  exact ⟨rfl, rfl⟩
section
variable {w0 w : World} {vb db cb : Nat} {kb kt : ByteArray} {S : Vs} {v : Value}
theorem Vol.c0 (h : Vol w0 w vb db cb kb kt S v) : w.cell? ⟨vb, 0, none⟩ = some (.pointer (some ⟨db, 0, none⟩)) := h.cel.cell 0 (by omega)
theorem Vol.c1 (h : Vol w0 w vb db cb kb kt S v) : w.cell? ⟨vb, 1, none⟩ = some (.pointer (some ⟨cb, 0, none⟩)) := h.cel.cell 1 (by omega)
theorem Vol.c2 (h : Vol w0 w vb db cb kb kt S v) : w.cell? ⟨vb, 2, none⟩ = some (.string kb) := h.cel.cell 2 (by omega)
theorem Vol.c3 (h : Vol w0 w vb db cb kb kt S v) : w.cell? ⟨vb, 3, none⟩ = some (.string kt) := h.cel.cell 3 (by omega)
theorem Vol.c4 (h : Vol w0 w vb db cb kb kt S v) : w.cell? ⟨vb, 4, none⟩ = some (.int .i64 S.T.count) := h.cel.cell 4 (by omega)
theorem Vol.cf (h : Vol w0 w vb db cb kb kt S v) : w.cell? ⟨vb, 101, none⟩ = some (.bool S.dead) := h.cel.cell 101 (by omega)
theorem Vol.cx (h : Vol w0 w vb db cb kb kt S v) (i : Nat) (hi : i < 24) : w.cell? ⟨vb, 77 + i, none⟩ = some (.string (S.X i)) := by
  rw [h.cel.cell (77 + i) (by omega), vcell_says _ _ _ _ _ _ _ i hi]
theorem Vol.tab (h : Vol w0 w vb db cb kb kt S v) : w.rangeAt vb 4 (brow 73 (tcell S.T)) := by
  have := h.cel.range 4 73 (by omega)
  rw [show brow 73 (fun j => vcell db cb kb kt S.T S.X S.dead (4 + j)) = brow 73 (tcell S.T) from Tw.brow_congr (fun j hj => vcell_tab _ _ _ _ _ _ _ j hj)] at this
  exact this
theorem works_any (h : Vol w0 w vb db cb kb kt S v) : Calls Tryz.prog 143 #[.pointer (some ⟨vb, 0, none⟩)] w fun e w' => e = .returned (.bool (!S.dead)) ∧ w' = w := by
  have q0 := h.c0
  have q1 := h.cf
  clear h
  generalize S.dead = x at *
  cases x
  · go_enter Tryz.func143, Tryz.ntmps143
    go_wp2_with fail
    go_ret
    exact ⟨rfl, rfl⟩
  · go_enter Tryz.func143, Tryz.ntmps143
    go_wp2_with fail
    go_ret
    exact ⟨rfl, rfl⟩
theorem heed_any (n : Int) (h : Vol w0 w vb db cb kb kt S v) : Calls Tryz.prog 144 #[.pointer (some ⟨vb, 0, none⟩), ev n] w fun e w' => e = .returned (ev n) ∧ Vto w0 w w' vb db cb kb kt { S with dead := S.dead || decide (n = 14) } v := by
  by_cases h0 : n = 0
  · subst h0
    have e0 : ev 0 = .nilIface := by unfold ev; rw [if_pos rfl]
    rw [e0]
    have H : Hid (Vol w0 w vb db cb kb kt S v) := h
    clear h
    go_enter Tryz.func144, Tryz.ntmps144
    go_wp2_with fail
    refine (is_nil _ _).mono ?_
    rintro e w' ⟨rfl, rfl⟩
    go_wp2_with fail
    go_ret
    refine ⟨rfl, ?_⟩
    have := H.out.self
    simpa using this
  · have e0 : ev n = .iface 32 (.int .i64 n) := by unfold ev; rw [if_neg h0]
    rw [e0]
    have H : Hid (Vol w0 w vb db cb kb kt S v) := h
    have q1 := h.cf
    have q2 := h.cel.frozen 101 (by omega)
    clear h
    by_cases h14 : n = 14
    · subst h14
      go_enter Tryz.func144, Tryz.ntmps144
      go_wp2_with fail
      refine (is_any _ _ _).mono ?_
      rintro e w' ⟨rfl, rfl⟩
      rw [decide_eq_true rfl]
      go_wp2_with fail
      go_ret
      refine ⟨rfl, ?_⟩
      have hto := H.out.celTo (T' := S.T) (X' := S.X) (f' := true) (((H.out.cel.set 101 (by omega) (.bool true))).congr (fun j hj => by
        unfold updv
        by_cases e : j = 101
        · subst e; rfl
        · rw [if_neg e]
          unfold vcell
          by_cases e2 : j < 101
          · simp only [if_pos e2]
          · omega)) (Fr.setCell _ _ _ _ _) (H.out.ty.setCell _ _)
      simpa using hto
    · go_enter Tryz.func144, Tryz.ntmps144
      go_wp2_with fail
      refine (is_any _ _ _).mono ?_
      rintro e w' ⟨rfl, rfl⟩
      rw [decide_eq_false h14]
      go_wp2_with fail
      go_ret
      refine ⟨rfl, ?_⟩
      have := H.out.self
      simpa [h14] using this
set_option maxHeartbeats 2000000 in
theorem at_any (h : Vol w0 w vb db cb kb kt S v) : Calls Tryz.prog 159 #[.pointer (some ⟨vb, 0, none⟩)] w fun e w' => (∃ x, e = .returned x ∧ Sp.Ls w' w'.heap.size x 8 S.atf) ∧ Since w w' := by
  have q0 := h.c0
  have H : Hid (Dev w db S.D v) := h.dev
  have HL : Hid (vb < w.heap.size) := h.cel.lt (by omega)
  clear h
  have hmk := Sp.make_ints w
  have HD : Hid (Cel (w.alloc (.cells (madeCells #[Value.int .i64 0] 8) 3)) w.heap.size 8 (fun j => if j < 0 then .int .i64 (S.D.cnt j) else .int .i64 0)) := by
    refine Cel.new _ _ _ _ _ (fun j hj => ?_) _ rfl
    rw [if_neg (Nat.not_lt_zero _)]
    exact Sp.made_int 8 j hj
  have HS : Hid (Since w (w.alloc (.cells (madeCells #[Value.int .i64 0] 8) 3))) := (Since.refl w).alloc _
  go_enter Tryz.func159, Tryz.ntmps159
  go_wp2_with fail
  clear hmk
  generalize w.alloc (.cells (madeCells #[Value.int .i64 0] 8) 3) = w1 at *
  go_loopw [11, 4, 14] (fun i _ _ wr => ∃ k : Nat, k ≤ 8 ∧ i = .int .i64 k ∧ Cel wr w.heap.size 8 (fun j => if j < k then .int .i64 (S.D.cnt j) else .int .i64 0) ∧ Since w wr) (fun i _ _ _ => 8 - (intOf i).toNat)
  case atStart => exact ⟨0, by omega, rfl, HD.out, HS.out⟩
  case round =>
    clear HD HS
    obtain ⟨k, hk, rfl, hd, hs⟩ := hrel
    have HD : Hid (Cel wr w.heap.size 8 (fun j => if j < k then .int .i64 (S.D.cnt j) else .int .i64 0)) := hd
    have HS : Hid (Since w wr) := hs
    clear hd hs
    by_cases hlt : k < 8
    · have hlt2 : (k : Int) < 8 := by omega
      have p0 := q0
      rw [← HS.out.cell (p := ⟨vb, 0, none⟩) HL.out] at p0
      have q1 := HD.out.cell k hlt
      have q2 := HD.out.frozen k hlt
      go_wp2_with fail
      refine (Go.Proofs.YtlgocfgnfdnloaaGreatDoor.at_any S.D v db k _ (H.out.since HS.out) hlt).mono ?_
      rintro e w2 ⟨rfl, rfl⟩
      go_wp2_with fail
      go_roundw
      case rel =>
        refine ⟨k + 1, by omega, by go_num, (HD.out.set k hlt _).congr (fun j hj => ?_), HS.out.setCell (Nat.le_refl _) _⟩
        unfold updv
        by_cases e : j = k
        · subst e; rw [if_pos rfl, if_pos (by omega)]
        · rw [if_neg e]
          show (if j < k then Value.int .i64 (S.D.cnt j) else .int .i64 0) = _
          by_cases h1 : j < k
          · rw [if_pos h1, if_pos (by omega)]
          · rw [if_neg h1, if_neg (by omega)]
      case measure => simp [intOf]; omega
    · have hke : k = 8 := by omega
      subst hke
      go_wp2_with fail
      go_ret
      refine ⟨⟨_, rfl, ⟨_, _, rfl, by omega, fun _ => ⟨w.heap.size, 0, rfl, HD.out.lt (by omega), fun j hj => ?_⟩⟩⟩, HS.out⟩
      rw [Nat.zero_add, HD.out.cell j hj, if_pos hj]
      rfl
theorem free_any (h : Vol w0 w vb db cb kb kt S v) : Calls Tryz.prog 99 #[.pointer (some ⟨vb, 0, none⟩)] w fun e w' => e = .returned (.int .i64 S.free) ∧ Since w w' := by
  have H : Hid (Vol w0 w vb db cb kb kt S v) := h
  clear h
  go_enter Tryz.func99, Tryz.ntmps99
  go_wp2_with fail
  refine (orZero_any _ _).mono ?_
  rintro e w' ⟨rfl, rfl⟩
  go_wp2_with fail
  refine (at_any H.out).mono ?_
  rintro e w1 ⟨⟨x, rfl, hx⟩, hs⟩
  have HX : Hid (Sp.Ls w1 w1.heap.size x 8 S.atf) := hx
  have HS : Hid (Since _ w1) := hs
  clear hx hs
  go_wp2_with fail
  refine (Sp.free_any x 8 _ _ _ HX.out (by omega)).mono ?_
  rintro e w2 ⟨rfl, rfl⟩
  go_wp2_with fail
  go_ret
  exact ⟨rfl, HS.out⟩
theorem vread_any (i : Int) (h : Vol w0 w vb db cb kb kt S v) : Calls Tryz.prog 122 #[.pointer (some ⟨vb, 0, none⟩), .int .i64 i] w fun e w' => e = .returned (.tuple #[.string (S.read i).1, ev (S.read i).2]) ∧ w' = w := by
  unfold Vs.read
  by_cases hi : 0 ≤ i ∧ i < 24
  · rw [if_neg (by omega)]
    have hh := hc_true hi
    obtain ⟨k, rfl⟩ := Int.eq_ofNat_of_zero_le hi.1
    have hk : (k : Int) < 24 := hi.2
    have q := h.cx k (by omega)
    rw [Int.toNat_natCast]
    clear h hi
    go_enter Tryz.func122, Tryz.ntmps122
    go_wp2_with fail
    refine (hasCell_any _ _).mono ?_
    rintro e w' ⟨rfl, rfl⟩
    rw [hh]
    go_wp2_with fail
    refine (orZero_any _ _).mono ?_
    rintro e w' ⟨rfl, rfl⟩
    go_wp2_with fail
    go_ret2
    exact ⟨rfl, rfl⟩
  · rw [if_pos hi]
    have hh := hc_false hi
    clear h
    go_enter Tryz.func122, Tryz.ntmps122
    go_wp2_with fail
    refine (hasCell_any _ _).mono ?_
    rintro e w' ⟨rfl, rfl⟩
    rw [hh]
    go_wp2_with fail
    go_ret2
    exact ⟨rfl, rfl⟩
end
end Vl
end Go.Proofs.YtlgocfgnfdnloaaGreatDoor
end
section
namespace Go.Proofs.YtlgocfgnfdnloaaGreatDoor
set_option maxRecDepth 100000
namespace Vl
open Go.RowKit
open Tw (Tb tcell tval ccell)
theorem vcell_set (db cb : Nat) (kb kt : ByteArray) (T : Tb) (X : Nat → ByteArray) (f : Bool) (i : Nat) (hi : i < 24) (z o : Int) (t : ByteArray) (j : Nat) (hj : j < 102) :
    updv (updv (updv (vcell db cb kb kt T X f) (5 + i * 3) (.int .i64 z)) (5 + i * 3 + 1) (.int .i64 o)) (5 + i * 3 + 2) (.string t) j = vcell db cb kb kt (updT T i z o t) X f j := by
  unfold updv
  by_cases hr : 5 ≤ j ∧ j < 77
  · have e : ∀ U, vcell db cb kb kt U X f j = Tw.tpart U ((j - 5) / 3) ((j - 5) % 3) := fun U => by
      have := vcell_tab db cb kb kt U X f (j - 4) (by omega)
      rw [show 4 + (j - 4) = j by omega] at this
      rw [this]
      unfold tcell
      rw [if_neg (by omega), show j - 4 - 1 = j - 5 by omega]
    rw [e, e]
    by_cases h2 : j = 5 + i * 3 + 2
    · subst h2
      rw [if_pos rfl, show (5 + i * 3 + 2 - 5) / 3 = i by omega, show (5 + i * 3 + 2 - 5) % 3 = 2 by omega]
      simp [Tw.tpart, updT]
    · rw [if_neg h2]
      by_cases h1 : j = 5 + i * 3 + 1
      · subst h1
        rw [if_pos rfl, show (5 + i * 3 + 1 - 5) / 3 = i by omega, show (5 + i * 3 + 1 - 5) % 3 = 1 by omega]
        simp [Tw.tpart, updT]
      · rw [if_neg h1]
        by_cases h0 : j = 5 + i * 3
        · subst h0
          rw [if_pos rfl, show (5 + i * 3 - 5) / 3 = i by omega, show (5 + i * 3 - 5) % 3 = 0 by omega]
          simp [Tw.tpart, updT]
        · rw [if_neg h0]
          have hne : ¬ (j - 5) / 3 = i := by omega
          unfold Tw.tpart updT
          simp only [if_neg hne]
  · rw [if_neg (by omega), if_neg (by omega), if_neg (by omega)]
    unfold vcell
    by_cases h4 : j < 77
    · have h44 : j ≤ 4 := by omega
      by_cases h5 : j = 4
      · subst h5; rfl
      · match j, (show j < 4 by omega) with
        | 0, _ => rfl
        | 1, _ => rfl
        | 2, _ => rfl
        | 3, _ => rfl
    · simp only [if_neg h4]
theorem vcell_setX (db cb : Nat) (kb kt : ByteArray) (T : Tb) (X : Nat → ByteArray) (f : Bool) (i : Nat) (hi : i < 24) (t : ByteArray) (j : Nat) (hj : j < 102) :
    updv (vcell db cb kb kt T X f) (77 + i) (.string t) j = vcell db cb kb kt T (updX X i t) f j := by
  unfold updv
  by_cases e : j = 77 + i
  · subst e
    rw [if_pos rfl, vcell_says _ _ _ _ _ _ _ i hi]
    simp [updX]
  · rw [if_neg e]
    unfold vcell
    by_cases h4 : j < 77
    · simp only [if_pos h4]
    · by_cases h5 : j < 101
      · have hne : ¬ j - 77 = i := by omega
        simp only [if_neg h4, if_pos h5, updX, if_neg hne]
      · simp only [if_neg h4, if_neg h5]
section
variable {w0 w : World} {vb db cb : Nat} {kb kt : ByteArray} {S : Vs} {v : Value}
set_option maxHeartbeats 4000000 in
theorem set_any (i : Nat) (z o : Int) (tag t : ByteArray) (hi : i < 24) (hg : tag.size ≤ 600) (ht : t.size ≤ 600) (h : Vol w0 w vb db cb kb kt S v) :
    Calls Tryz.prog 195 #[.pointer (some ⟨vb, 0, none⟩), .int .i64 (i : Int), .agg #[.int .i64 z, .int .i64 o, .string tag], .string t] w fun e w' => e = .returned (.tuple #[]) ∧ Vto w0 w w' vb db cb kb kt (S.set i z o tag t) v := by
  have hi2 : (i : Int) < 24 := by omega
  have HCT : Hid (∀ W, Calls Tryz.prog 67 #[.string tag] W fun e w' => e = .returned (.string tag) ∧ Since W w') := fun W => Tw.clone_any tag W hg
  have HCX : Hid (∀ W, Calls Tryz.prog 67 #[.string t] W fun e w' => e = .returned (.string t) ∧ Since W w') := fun W => Tw.clone_any t W ht
  have H : Hid (Vol w0 w vb db cb kb kt S v) := h
  have HV : Hid (vb < w.heap.size) := h.cel.lt (by omega)
  clear h hg ht
  have HB : Hid (Cel (w.alloc (.cells #[.int .i64 z, .int .i64 o, .string tag] 69)) w.heap.size 3 (fun j => if j = 0 then .int .i64 z else if j = 1 then .int .i64 o else .string tag)) := Cel.new w _ _ _ _ (fun j hj => by
    match j, hj with
    | 0, _ => rfl
    | 1, _ => rfl
    | 2, _ => rfl) _ rfl
  have HS : Hid (Since w (w.alloc (.cells #[.int .i64 z, .int .i64 o, .string tag] 69))) := (Since.refl w).alloc _
  go_enter Tryz.func195, Tryz.ntmps195
  go_wp2_with fail
  refine (HCT.out _).mono ?_
  rintro e w1 ⟨rfl, h1⟩
  have HB1 : Hid (Cel w1 w.heap.size 3 (fun j => if j = 0 then .int .i64 z else if j = 1 then .int .i64 o else .string tag)) := HB.out.since h1
  have HS1 : Hid (Since w w1) := HS.out.trans h1
  clear h1 HB HS HCT
  have b0 := HB1.out.cell 2 (by omega)
  have b1 := HB1.out.frozen 2 (by omega)
  have HB2 : Hid (Cel (w1.setCell ⟨w.heap.size, 2, none⟩ (.string tag)) w.heap.size 3 (fun j => if j = 0 then .int .i64 z else if j = 1 then .int .i64 o else .string tag)) := (HB1.out.set 2 (by omega) (.string tag)).congr (fun j hj => by
    match j, hj with
    | 0, _ => rfl
    | 1, _ => rfl
    | 2, _ => rfl)
  have HS2 : Hid (Since w (w1.setCell ⟨w.heap.size, 2, none⟩ (.string tag))) := HS1.out.setCell (Nat.le_refl _) _
  go_wp2_with fail
  clear HB1 HS1 b0 b1
  generalize w1.setCell ⟨w.heap.size, 2, none⟩ (.string tag) = w2 at *
  have HD : Hid (Since w2 w2.drew) := (Since.refl w2).drew
  have HB3 : Hid (Cel w2.drew w.heap.size 3 (fun j => if j = 0 then .int .i64 z else if j = 1 then .int .i64 o else .string tag)) := HB2.out.since HD.out
  have HC3 : Hid (Cel w2.drew vb 102 (vcell db cb kb kt S.T S.X S.dead)) := H.out.cel.since (HS2.out.trans HD.out)
  have HC2 : Hid (Cel w2 vb 102 (vcell db cb kb kt S.T S.X S.dead)) := H.out.cel.since HS2.out
  have a0 : w2.cell? ⟨w.heap.size, 0, none⟩ = some (.int .i64 z) := HB2.out.cell 0 (by omega)
  have a1 : w2.cell? ⟨w.heap.size, 1, none⟩ = some (.int .i64 o) := HB2.out.cell 1 (by omega)
  have a2 : w2.cell? ⟨w.heap.size, 2, none⟩ = some (.string tag) := HB2.out.cell 2 (by omega)
  have b0 : w2.drew.cell? ⟨w.heap.size, 0, none⟩ = some (.int .i64 z) := HB3.out.cell 0 (by omega)
  have b1 : w2.drew.cell? ⟨w.heap.size, 1, none⟩ = some (.int .i64 o) := HB3.out.cell 1 (by omega)
  have b2 : w2.drew.cell? ⟨w.heap.size, 2, none⟩ = some (.string tag) := HB3.out.cell 2 (by omega)
  have c0 := HC2.out.cell (5 + i * 3) (by omega)
  have c1 := HC2.out.cell (5 + i * 3 + 1) (by omega)
  have c2 := HC2.out.cell (5 + i * 3 + 2) (by omega)
  have d0 := HC3.out.cell (5 + i * 3) (by omega)
  have d1 := HC3.out.cell (5 + i * 3 + 1) (by omega)
  have d2 := HC3.out.cell (5 + i * 3 + 2) (by omega)
  have f0 := HC2.out.frozen (5 + i * 3) (by omega)
  have f1 := HC2.out.frozen (5 + i * 3 + 1) (by omega)
  have f2 := HC2.out.frozen (5 + i * 3 + 2) (by omega)
  have g0 := HC3.out.frozen (5 + i * 3) (by omega)
  have g1 := HC3.out.frozen (5 + i * 3 + 1) (by omega)
  have g2 := HC3.out.frozen (5 + i * 3 + 2) (by omega)
  clear HB2 HB3 HC2 HC3 HD
  go_region
  have HTO : Hid (Vto w0 w (((w2.setCell ⟨vb, 5 + i * 3, none⟩ (.int .i64 z)).setCell ⟨vb, 5 + i * 3 + 1, none⟩ (.int .i64 o)).setCell ⟨vb, 5 + i * 3 + 2, none⟩ (.string tag)).drew vb db cb kb kt { S with T := updT S.T i z o tag } v) := by
    refine (H.out.to HS2.out).then fun v1 h1 => ?_
    refine Vto.go ?_ (Since.refl _).drew
    exact h1.celTo (T' := updT S.T i z o tag) (X' := S.X) (f' := S.dead) ((((h1.cel.set (5 + i * 3) (by omega) _).set (5 + i * 3 + 1) (by omega) _).set (5 + i * 3 + 2) (by omega) _).congr (fun j hj => vcell_set _ _ _ _ _ _ _ i hi z o tag j hj)) (((Fr.setCell _ _ _ _ _).trans' (Fr.setCell _ _ _ _ _)).trans' (Fr.setCell _ _ _ _ _)) (((h1.ty.setCell _ _).setCell _ _).setCell _ _)
  clear a0 a1 a2 b0 b1 b2 c0 c1 c2 d0 d1 d2 f0 f1 f2 g0 g1 g2 HS2 H
  go_wp2_with fail
  generalize (((w2.setCell ⟨vb, 5 + i * 3, none⟩ (.int .i64 z)).setCell ⟨vb, 5 + i * 3 + 1, none⟩ (.int .i64 o)).setCell ⟨vb, 5 + i * 3 + 2, none⟩ (.string tag)).drew = w3 at *
  obtain ⟨v3, h3, F3⟩ := HTO.out.cont
  have H3 : Hid (Vol w0 w3 vb db cb kb kt { S with T := updT S.T i z o tag } v3) := h3
  have HF3 : Hid (∀ w' S', Vto w0 w3 w' vb db cb kb kt S' v3 → Vto w0 w w' vb db cb kb kt S' v) := F3
  clear h3 F3 HTO
  go_region_held3 (fun _ => True) (trivial) (first
    | (go_simp; go_at_call 67; refine (HCX.out _).mono ?_; rintro e w4 ⟨rfl, h4⟩; have H4 : Hid (Since w3 w4) := (Since.refl w3).drew.trans h4; have k0 := (H3.out.cel.since H4.out).cell (77 + i) (by omega); have k1 := (H3.out.cel.since H4.out).frozen (77 + i) (by omega); clear h4; dsimp only))
  all_goals
    go_wp2_with fail
    go_end0
    refine ⟨rfl, HF3.out _ _ ((H3.out.to H4.out).then fun v5 h5 => ?_)⟩
    exact h5.celTo (T' := updT S.T i z o tag) (X' := updX S.X i t) (f' := S.dead) ((h5.cel.set (77 + i) (by omega) _).congr (fun j hj => vcell_setX _ _ _ _ _ _ _ i hi t j hj)) (Fr.setCell _ _ _ _ _) (h5.ty.setCell _ _)
end
end Vl
end Go.Proofs.YtlgocfgnfdnloaaGreatDoor
end
section
namespace Go.Proofs.YtlgocfgnfdnloaaGreatDoor
set_option maxRecDepth 100000
namespace Vl
open Go.RowKit
open Tw (Tb tcell tval ccell)
theorem ev0 : ev 0 = .nilIface := by unfold ev; rw [if_pos rfl]
theorem evn (n : Int) (h : n ≠ 0) : ev n = .iface 32 (.int .i64 n) := by unfold ev; rw [if_neg h]
section
variable {w0 w : World} {vb db cb : Nat} {kb kt : ByteArray} {S : Vs} {v : Value}
theorem Vol.tabW (B : Base w0 kb kt) (h : Vol w0 w vb db cb kb kt S v) : Sm.Tab w := B.tab.since h.since
set_option maxHeartbeats 4000000 in
theorem put_any (B : Base w0 kb kt) (i : Nat) (t : ByteArray) (but : Int) (hi : i < 24) (ht : t.size ≤ 80) (h : Vol w0 w vb db cb kb kt S v) :
    Calls Tryz.prog 162 #[.pointer (some ⟨vb, 0, none⟩), .int .i64 (i : Int), .string t, .int .i64 but] w fun e w' => e = .returned (ev (S.put kb i but t).1) ∧ Vto w0 w w' vb db cb kb kt (S.put kb i but t).2 v := by
  have H : Hid (Vol w0 w vb db cb kb kt S v) := h
  have HB : Hid (Base w0 kb kt) := B
  clear h B
  go_enter Tryz.func162, Tryz.ntmps162
  go_wp2_with fail
  refine (at_any H.out).mono ?_
  rintro e w1 ⟨⟨x, rfl, hx⟩, hs⟩
  have HX : Hid (Sp.Ls w1 w1.heap.size x 8 S.atf) := hx
  have HS : Hid (Since w w1) := hs
  clear hx hs
  go_wp2_with fail
  refine (Sp.open_any x 8 _ _ but _ HX.out (by omega)).mono ?_
  rintro e w2 ⟨⟨z, ok, rfl, hr⟩, rfl⟩
  have HR : Hid _ := room_of hr
  clear hr
  rcases HR.out with ⟨rfl, k, rfl, hk⟩ | ⟨rfl, rfl, hk⟩
  · have hk3 := room_some hk
    have HK : Hid (room S.atf but = some k) := hk
    have HK3 : Hid (k < 8 ∧ (k : Int) ≠ but ∧ S.atf k < 16) := hk3
    clear hk hk3 HR
    have H1 : Hid (Vol w0 w2 vb db cb kb kt S v) := H.out.go HS.out
    have q2 := H1.out.c2
    go_wp2_with fail
    have hi0 : (0 : Int) ≤ (i : Int) := by omega
    refine (Sl.seal_ok kb i t _ HB.out.kb (by omega) (by omega) ht (H1.out.tabW HB.out)).mono ?_
    rintro e w3 ⟨rfl, h3⟩
    have H3 : Hid (Vol w0 w3 vb db cb kb kt S v) := H1.out.go h3
    have HS3 : Hid (Since w w3) := HS.out.trans h3
    have q0 := H3.out.c0
    have HZ : Hid ((Sl.sealOf kb i t).size = 109) := Sl.seal_size kb i t
    have HP : Hid (S.put kb i but t = if S.D.may = false then (14, { S with dead := true }) else (0, { S with D := S.D.burnt.app k (Sl.sealOf kb i t), T := updT S.T i k (S.D.cnt k) ((Sl.sealOf kb i t).extract 0 16), X := updX S.X i t })) := by
      show S.put kb i but t = _
      unfold Vs.put
      rw [HK.out]
    clear h3 q2 H1
    generalize Sl.sealOf kb i t = s at *
    have HC16 : Hid (S.D.cnt k < 16) := by
      have := HK3.out.2.2
      unfold Vs.atf at this
      show S.D.cnt k < 16
      omega
    cases hm : S.D.may with
    | false =>
      have HM : Hid (S.D.may = false) := hm
      clear hm
      go_wp2_with fail
      refine (append_spent S.D v db k s _ H3.out.dev HK3.out.1 (by have := HZ.out; omega) HC16.out HM.out).mono ?_
      rintro e w4 ⟨rfl, rfl⟩
      go_wp2_with fail
      have hh := heed_any 14 H3.out
      rw [evn 14 (by decide)] at hh
      refine hh.mono ?_
      clear hh
      rintro e w5 ⟨rfl, h5⟩
      go_wp2_with fail
      go_ret
      refine ⟨?_, ?_⟩
      · rw [HP.out, if_pos HM.out, evn 14 (by decide)]; rfl
      · rw [HP.out, if_pos HM.out]
        have h6 := Vto.pre HS3.out h5
        simpa using h6
    | true =>
      have HM : Hid (S.D.may = true) := hm
      clear hm
      go_wp2_with fail
      refine (append_any S.D v db k s _ H3.out.dev HK3.out.1 (by have := HZ.out; omega) HC16.out HM.out).mono ?_
      rintro e w4 ⟨rfl, hd4, hf4⟩
      have HT4 : Hid (Vto w0 w3 w4 vb db cb kb kt { S with D := S.D.burnt.app k s } v) := H3.out.devTo hd4 (Fr.wide hf4) (Nx.refl _ _)
      clear hd4 hf4
      obtain ⟨v4, h4, F4⟩ := (Vto.pre HS3.out HT4.out).cont
      have H4 : Hid (Vol w0 w4 vb db cb kb kt { S with D := S.D.burnt.app k s } v4) := h4
      have HF4 : Hid (∀ w' S', Vto w0 w4 w' vb db cb kb kt S' v4 → Vto w0 w w' vb db cb kb kt S' v) := F4
      clear h4 F4 HT4
      go_wp2_with fail
      have hh := heed_any 0 H4.out
      rw [ev0] at hh
      refine hh.mono ?_
      clear hh
      rintro e w5 ⟨rfl, h5⟩
      obtain ⟨v5, h6, F5⟩ := h5.cont
      have h66 : Vol w0 w5 vb db cb kb kt { S with D := S.D.burnt.app k s } v5 := by simpa using h6
      have H5 : Hid (Vol w0 w5 vb db cb kb kt { S with D := S.D.burnt.app k s } v5) := h66
      have HF5 : Hid (∀ w' S', Vto w0 w5 w' vb db cb kb kt S' v5 → Vto w0 w w' vb db cb kb kt S' v) := fun w' S' h7 => HF4.out w' S' (F5 w' S' h7)
      clear h5 h6 h66 F5 HF4 H4 q0
      have hs16 : (16 : Int) ≤ s.size := by have := HZ.out; omega
      have HE : Hid ((s.extract 0 16).size ≤ 600) := by
        show (s.extract 0 16).size ≤ 600
        rw [ByteArray.size_extract]; omega
      go_wp2_with fail
      refine (set_any i k (S.D.cnt k) (s.extract 0 16) t hi HE.out (by omega) H5.out).mono ?_
      rintro e w6 ⟨rfl, h7⟩
      go_wp2_with fail
      go_ret
      refine ⟨?_, ?_⟩
      · rw [HP.out, if_neg (by rw [HM.out]; decide), ev0]; rfl
      · rw [HP.out, if_neg (by rw [HM.out]; decide)]
        exact HF5.out _ _ h7
  · have HK : Hid (room S.atf but = none) := hk
    clear hk HR
    go_wp2_with fail
    go_ret
    have HP : S.put kb i but t = (12, S) := by unfold Vs.put; rw [HK.out]
    rw [HP]
    exact ⟨by rw [evn 12 (by decide)]; rfl, H.out.to HS.out⟩
end
end Vl
end Go.Proofs.YtlgocfgnfdnloaaGreatDoor
end
