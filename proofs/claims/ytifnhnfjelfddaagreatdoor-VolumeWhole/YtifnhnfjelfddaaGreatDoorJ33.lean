import Derived.OwnWalk
import Derived.Test.YtifnhnfjelfddaaGreatDoorJ29
import Derived.Test.YtifnhnfjelfddaaGreatDoorJ30
import Derived.Test.YtifnhnfjelfddaaGreatDoorJ32
set_option linter.unusedSimpArgs false
set_option linter.unusedVariables false
section
namespace Go.Proofs.YtifnhnfjelfddaaGreatDoor
namespace Vl
open Go.RowKit
open Tw (Tb tcell tval ccell)
def vcell (db cb : Nat) (kb kt : ByteArray) (T : Tb) (X : Nat → ByteArray) (f : Bool) (j : Nat) : Value :=
  if j = 0 then .pointer (some ⟨db, 0, none⟩) else if j = 1 then .pointer (some ⟨cb, 0, none⟩) else if j = 2 then .string kb else if j = 3 then .string kt
  else if j < 77 then tcell T (j - 4) else if j < 101 then .string (X (j - 77)) else .bool f
theorem vcell_tab (db cb : Nat) (kb kt : ByteArray) (T : Tb) (X : Nat → ByteArray) (f : Bool) (j : Nat) (hj : j < 73) : vcell db cb kb kt T X f (4 + j) = tcell T j := by
  unfold vcell
  rw [if_neg (by omega), if_neg (by omega), if_neg (by omega), if_neg (by omega), if_pos (by omega), show 4 + j - 4 = j by omega]
theorem vcell_says (db cb : Nat) (kb kt : ByteArray) (T : Tb) (X : Nat → ByteArray) (f : Bool) (j : Nat) (hj : j < 24) : vcell db cb kb kt T X f (77 + j) = .string (X j) := by
  unfold vcell
  rw [if_neg (by omega), if_neg (by omega), if_neg (by omega), if_neg (by omega), if_neg (by omega), if_pos (by omega), show 77 + j - 77 = j by omega]
structure Fs (S : Nat → Prop) (w w' : World) : Prop where
  os : w'.os = w.os
  tape : w'.tape = w.tape
  output : w'.output = w.output
  size : w.heap.size ≤ w'.heap.size
  block : ∀ k, k < w.heap.size → ¬ S k → w'.heap[k]? = w.heap[k]?
theorem Fs.refl (S : Nat → Prop) (w : World) : Fs S w w := ⟨rfl, rfl, rfl, Nat.le_refl _, fun _ _ _ => rfl⟩
theorem Fs.trans {S : Nat → Prop} {w w' w'' : World} (h : Fs S w w') (k : Fs S w' w'') : Fs S w w'' :=
  ⟨k.os.trans h.os, k.tape.trans h.tape, k.output.trans h.output, Nat.le_trans h.size k.size, fun j hj hs => (k.block j (Nat.lt_of_lt_of_le hj h.size) hs).trans (h.block j hj hs)⟩
theorem Fs.trans' {S S' : Nat → Prop} {w w' w'' : World} (h : Fs S w w') (k : Fs S' w' w'') (hS : ∀ j, S' j → S j ∨ w.heap.size ≤ j) : Fs S w w'' :=
  ⟨k.os.trans h.os, k.tape.trans h.tape, k.output.trans h.output, Nat.le_trans h.size k.size, fun j hj hs => (k.block j (Nat.lt_of_lt_of_le hj h.size) (fun e => by
    rcases hS j e with h1 | h1
    · exact hs h1
    · omega)).trans (h.block j hj hs)⟩
theorem Fs.of_since {S : Nat → Prop} {w w' : World} (h : Since w w') : Fs S w w' := ⟨h.os, h.tape, h.output, h.size, fun k hk _ => h.block k hk⟩
theorem Fs.of_fr {S : Nat → Prop} {b : Nat} {g : Option Nat} {w w' : World} (h : Fr b g w w') (hb : S b) (hg : ∀ k, g = some k → S k) : Fs S w w' :=
  ⟨h.os, h.tape, h.output, h.size, fun k hk hs => h.block k hk (fun e => hs (e ▸ hb)) (fun e => hs (hg k e.symm))⟩
theorem Fs.since {S : Nat → Prop} {a w w' : World} (h : Fs S w w') (hs : Since a w) (hS : ∀ k, S k → a.heap.size ≤ k) : Since a w' :=
  Below.trans (show Below a.heap.size a w from hs) ⟨h.os, h.tape, h.output, h.size, fun k hk => h.block k (Nat.lt_of_lt_of_le hk hs.size) (fun e => by have := hS k e; omega)⟩
theorem Fs.cell {S : Nat → Prop} {w w' : World} (h : Fs S w w') {p : Addr} (hp : p.block < w.heap.size) (hb : ¬ S p.block) : w'.cell? p = w.cell? p :=
  World.cell?_of_block (w := w) (h.block p.block hp hb)
theorem Fs.frozen {S : Nat → Prop} {w w' : World} (h : Fs S w w') {p : Addr} (hp : p.block < w.heap.size) (hb : ¬ S p.block) : w'.frozen? p = w.frozen? p :=
  World.frozen?_of_block (w := w) (h.block p.block hp hb)
theorem celFs {S : Nat → Prop} {w w' : World} {b n : Nat} {f : Nat → Value} (h : Cel w b n f) (hs : Fs S w w') (hb : ¬ S b) : Cel w' b n f where
  cell j hj := by
    have hc := h.cell j hj
    rw [hs.cell (p := ⟨b, j, none⟩) (World.block_lt_of_cell? w _ hc) hb]; exact hc
  frozen j hj := by
    have hc := h.cell j hj
    rw [hs.frozen (p := ⟨b, j, none⟩) (World.block_lt_of_cell? w _ hc) hb]; exact h.frozen j hj
theorem ownFs {S : Nat → Prop} {w w' : World} {base e size n : Nat} {v : Value} {xs : List Value} (h : w.ownsRow base e size v n xs) (hf : Fs S w w') (hv : ∀ k, v.ownBlock = some k → ¬ S k) : w'.ownsRow base e size v n xs := by
  refine ⟨h.1, ?_⟩
  rcases h.2 with hn | ⟨k, cap, cur, rfl, hbk, hk, rest⟩
  · exact .inl hn
  · refine .inr ⟨k, cap, cur, rfl, hbk, ?_, rest⟩
    rw [hf.block k (Array.getElem?_eq_some_iff.1 hk).1 (hv k rfl)]
    exact hk
theorem devFs {S : Nat → Prop} {w w' : World} {b : Nat} {D : Dv} {v : Value} (h : Dev w b D v) (hf : Fs S w w') (hb : ¬ S b) (hv : ∀ k, v.ownBlock = some k → ¬ S k) : Dev w' b D v :=
  ⟨celFs h.cel hf hb, ownFs h.own hf hv, h.ne, h.ok⟩
def Ty (w : World) (b : Nat) (t : TypeId) : Prop := ∃ arr fz, w.heap[b]? = some (.cells arr t fz)
theorem Ty.blk {w w' : World} {b : Nat} {t : TypeId} (h : Ty w b t) (hb : w'.heap[b]? = w.heap[b]?) : Ty w' b t := by
  obtain ⟨arr, fz, ha⟩ := h
  exact ⟨arr, fz, hb.trans ha⟩
theorem Ty.lt {w : World} {b : Nat} {t : TypeId} (h : Ty w b t) : b < w.heap.size := by
  obtain ⟨arr, fz, ha⟩ := h
  exact (Array.getElem?_eq_some_iff.1 ha).1
theorem Ty.since {w w' : World} {b : Nat} {t : TypeId} (h : Ty w b t) (hs : Since w w') : Ty w' b t := h.blk (hs.block b h.lt)
theorem Ty.setCell {w : World} {b : Nat} {t : TypeId} (h : Ty w b t) (a : Addr) (v : Value) : Ty (w.setCell a v) b t := by
  by_cases e : b = a.block
  · obtain ⟨arr, fz, ha⟩ := h
    subst e
    refine ⟨if a.spot.isSome then arr else arr.setIfInBounds a.off v, fz, ?_⟩
    unfold World.setCell
    simp [Array.getElem?_modify, ha]
  · exact h.blk (Below.heap_setCell _ _ _ _ e)
theorem Ty.setCells {b : Nat} {t : TypeId} (b' : Nat) : ∀ (vs : List Value) (o : Nat) (w : World), Ty w b t → Ty (w.setCells b' o vs) b t
  | [], _, w, h => h
  | v :: r, o, w, h => Ty.setCells b' r (o + 1) _ (h.setCell _ _)
theorem Ty.one {w : World} {b : Nat} {t u : TypeId} (h : Ty w b t) (k : Ty w b u) : t = u := by
  obtain ⟨a, f, ha⟩ := h
  obtain ⟨c, g, hc⟩ := k
  rw [ha] at hc
  injection hc with hc
  injection hc with _ h2
theorem Ty.own {w : World} {base e s n : Nat} {v : Value} {xs : List Value} {k : Nat} (h : w.ownsRow base e s v n xs) (hk : v.ownBlock = some k) : Ty w k e := by
  rcases h.2 with ⟨rfl, _⟩ | ⟨g, c, u, rfl, _, hg, _⟩
  · simp [Value.ownBlock] at hk
  · simp only [Value.ownBlock, Option.some.injEq] at hk
    subst hk
    exact ⟨_, _, hg⟩
theorem Ty.new (w : World) (cs : Array Value) (t : TypeId) : Ty (w.alloc (.cells cs t)) w.heap.size t := ⟨cs, (0, 0), by show (w.heap.push _)[w.heap.size]? = _; simp⟩
structure Base (w0 : World) (kb kt : ByteArray) : Prop where
  tab : Sm.Tab w0
  kb : kb.size = 32
  kt : kt.size = 32
def VP (vb db cb : Nat) (v : Value) (k : Nat) : Prop := k = vb ∨ k = db ∨ k = cb ∨ v.ownBlock = some k
structure Vol (w0 w : World) (vb db cb : Nat) (kb kt : ByteArray) (S : Vs) (v : Value) : Prop where
  cel : Cel w vb 102 (vcell db cb kb kt S.T S.X S.dead)
  dev : Dev w db S.D v
  ctr : Cel w cb 1 (fun _ => .int .i64 S.c)
  ne : vb ≠ db ∧ vb ≠ cb ∧ db ≠ cb
  own : v.ownBlock ≠ some vb ∧ v.ownBlock ≠ some cb
  ty : Ty w vb 95
  since : Since w0 w
  lo : w0.heap.size ≤ vb ∧ w0.heap.size ≤ db ∧ w0.heap.size ≤ cb ∧ ∀ k, v.ownBlock = some k → w0.heap.size ≤ k
theorem Vol.go {w0 w w' : World} {vb db cb : Nat} {kb kt : ByteArray} {S : Vs} {v : Value} (h : Vol w0 w vb db cb kb kt S v) (hs : Since w w') : Vol w0 w' vb db cb kb kt S v :=
  ⟨h.cel.since hs, h.dev.since hs, h.ctr.since hs, h.ne, h.own, h.ty.since hs, h.since.trans hs, h.lo⟩
def Vto (w0 w w' : World) (vb db cb : Nat) (kb kt : ByteArray) (S' : Vs) (v : Value) : Prop := ∃ v', Vol w0 w' vb db cb kb kt S' v' ∧ Fs (VP vb db cb v) w w' ∧ Nx w v.ownBlock v'.ownBlock
section
variable {w0 w w' w'' : World} {vb db cb : Nat} {kb kt : ByteArray} {S S' : Vs} {v v' : Value}
theorem Vol.self (h : Vol w0 w vb db cb kb kt S v) : Vto w0 w w vb db cb kb kt S v := ⟨v, h, Fs.refl _ _, Nx.refl _ _⟩
theorem Vol.to (h : Vol w0 w vb db cb kb kt S v) (hs : Since w w') : Vto w0 w w' vb db cb kb kt S v := ⟨v, h.go hs, Fs.of_since hs, Nx.refl _ _⟩
theorem VP.nx (hn : Nx w v.ownBlock v'.ownBlock) : ∀ j, VP vb db cb v' j → VP vb db cb v j ∨ w.heap.size ≤ j := by
  rintro j (h | h | h | h)
  · exact Or.inl (Or.inl h)
  · exact Or.inl (Or.inr (Or.inl h))
  · exact Or.inl (Or.inr (Or.inr (Or.inl h)))
  · rcases hn j h with h1 | h1
    · exact Or.inl (Or.inr (Or.inr (Or.inr h1)))
    · exact Or.inr h1
theorem Vto.then {S1 : Vs} {w1 : World} (h : Vto w0 w w1 vb db cb kb kt S1 v) (k : ∀ v1, Vol w0 w1 vb db cb kb kt S1 v1 → Vto w0 w1 w' vb db cb kb kt S' v1) : Vto w0 w w' vb db cb kb kt S' v := by
  obtain ⟨v1, h1, f1, n1⟩ := h
  obtain ⟨v2, h2, f2, n2⟩ := k v1 h1
  exact ⟨v2, h2, f1.trans' f2 (VP.nx n1), n1.trans n2 f1.size⟩
theorem Vto.cont {S1 : Vs} {w1 : World} (h : Vto w0 w w1 vb db cb kb kt S1 v) : ∃ v1, Vol w0 w1 vb db cb kb kt S1 v1 ∧ ∀ w' S', Vto w0 w1 w' vb db cb kb kt S' v1 → Vto w0 w w' vb db cb kb kt S' v := by
  obtain ⟨v1, h1, f1, n1⟩ := h
  exact ⟨v1, h1, fun w' S' ⟨v2, h2, f2, n2⟩ => ⟨v2, h2, f1.trans' f2 (VP.nx n1), n1.trans n2 f1.size⟩⟩
theorem Vto.cont' {S1 : Vs} {w1 : World} {b o : Nat} {x : Value} (h : Vto w0 w w1 vb db cb kb kt S1 v) (hb : ¬ VP vb db cb v b) (hx : w.cell? ⟨b, o, none⟩ = some x) :
    ∃ v1, Vol w0 w1 vb db cb kb kt S1 v1 ∧ (∀ w' S', Vto w0 w1 w' vb db cb kb kt S' v1 → Vto w0 w w' vb db cb kb kt S' v) ∧ w1.cell? ⟨b, o, none⟩ = some x ∧ ¬ VP vb db cb v1 b := by
  obtain ⟨v1, h1, f1, n1⟩ := h
  have hlt := World.block_lt_of_cell? w _ hx
  refine ⟨v1, h1, fun w' S' ⟨v2, h2, f2, n2⟩ => ⟨v2, h2, f1.trans' f2 (VP.nx n1), n1.trans n2 f1.size⟩, (f1.cell (p := ⟨b, o, none⟩) hlt hb).trans hx, fun e => ?_⟩
  rcases VP.nx n1 b e with h2 | h2
  · exact hb h2
  · have : b < w.heap.size := hlt
    omega
theorem Vol.notNew (h : Vol w0 w vb db cb kb kt S v) : ¬ VP vb db cb v w.heap.size := by
  rintro (e | e | e | e)
  · have := h.cel.lt (by omega); omega
  · have := h.dev.lt; omega
  · have := h.ctr.lt (by omega); omega
  · have := h.dev.glt _ e; omega
theorem Vto.go (h : Vto w0 w w' vb db cb kb kt S v) (hs : Since w' w'') : Vto w0 w w'' vb db cb kb kt S v := h.then fun v1 h1 => h1.to hs
theorem Vto.pre (hs : Since w w') (h : Vto w0 w' w'' vb db cb kb kt S v) : Vto w0 w w'' vb db cb kb kt S v := by
  obtain ⟨v1, h1, f1, n1⟩ := h
  refine ⟨v1, h1, (Fs.of_since hs).trans f1, fun k hk => ?_⟩
  rcases n1 k hk with h2 | h2
  · exact Or.inl h2
  · exact Or.inr (Nat.le_trans hs.size h2)
theorem Vol.devTo {D' : Dv} (h : Vol w0 w vb db cb kb kt S v) (hd : Dev w' db D' v') (hf : Fr db v.ownBlock w w') (hn : Nx w v.ownBlock v'.ownBlock) : Vto w0 w w' vb db cb kb kt { S with D := D' } v := by
  have hF : Fs (fun k => k = db ∨ v.ownBlock = some k) w w' := Fs.of_fr hf (Or.inl rfl) (fun k hk => Or.inr hk)
  have hlt := h.cel.lt (by omega)
  have hlc := h.ctr.lt (by omega)
  have hvo : v'.ownBlock ≠ some vb ∧ v'.ownBlock ≠ some cb := by
    refine ⟨fun e => ?_, fun e => ?_⟩
    · rcases hn _ e with h1 | h1
      · exact h.own.1 h1
      · omega
    · rcases hn _ e with h1 | h1
      · exact h.own.2 h1
      · omega
  have hnv : ¬ (vb = db ∨ v.ownBlock = some vb) := by
    rintro (e | e)
    · exact h.ne.1 e
    · exact h.own.1 e
  refine ⟨v', ⟨celFs h.cel hF hnv, hd, celFs h.ctr hF ?_, h.ne, hvo, h.ty.blk (hF.block vb hlt hnv), hF.since h.since ?_, h.lo.1, h.lo.2.1, h.lo.2.2.1, fun k hk => ?_⟩, ⟨hF.os, hF.tape, hF.output, hF.size, fun k hk hs => hF.block k hk (fun e => hs ?_)⟩, hn⟩
  · rintro (e | e)
    · exact h.ne.2.2 e.symm
    · exact h.own.2 e
  · rintro k (e | e)
    · rw [e]; exact h.lo.2.1
    · exact h.lo.2.2.2 k e
  · rcases hn k hk with h1 | h1
    · exact h.lo.2.2.2 k h1
    · exact Nat.le_trans h.since.size h1
  · rcases e with e | e
    · exact Or.inr (Or.inl e)
    · exact Or.inr (Or.inr (Or.inr e))
theorem Vol.celTo {T' : Tb} {X' : Nat → ByteArray} {f' : Bool} (h : Vol w0 w vb db cb kb kt S v) (hc : Cel w' vb 102 (vcell db cb kb kt T' X' f')) (hf : Fr vb none w w') (ht : Ty w' vb 95) : Vto w0 w w' vb db cb kb kt { S with T := T', X := X', dead := f' } v := by
  have hF : Fs (fun k => k = vb) w w' := Fs.of_fr hf rfl (fun k hk => by cases hk)
  refine ⟨v, ⟨hc, devFs h.dev hF (fun e => h.ne.1 e.symm) (fun k hk e => h.own.1 (hk.trans (by rw [e]))), celFs h.ctr hF (fun e => h.ne.2.1 e.symm), h.ne, h.own, ht, hF.since h.since (fun k e => by rw [e]; exact h.lo.1), h.lo⟩, ⟨hF.os, hF.tape, hF.output, hF.size, fun k hk hs => hF.block k hk (fun e => hs (Or.inl e))⟩, Nx.refl _ _⟩
theorem Vol.ctrTo {c' : Int} (h : Vol w0 w vb db cb kb kt S v) : Vto w0 w (w.setCell ⟨cb, 0, none⟩ (.int .i64 c')) vb db cb kb kt { S with c := c' } v := by
  have hF : Fs (fun k => k = cb) w (w.setCell ⟨cb, 0, none⟩ (.int .i64 c')) := Fs.of_fr (Fr.setCell cb none 0 w _) rfl (fun k hk => by cases hk)
  refine ⟨v, ⟨celFs h.cel hF h.ne.2.1, devFs h.dev hF h.ne.2.2 (fun k hk e => h.own.2 (hk.trans (by rw [e]))), (h.ctr.set 0 (by omega) _).congr (fun j hj => by
    obtain rfl : j = 0 := by omega
    rfl), h.ne, h.own, h.ty.setCell _ _, hF.since h.since (fun k e => by rw [e]; exact h.lo.2.2.1), h.lo⟩, ⟨hF.os, hF.tape, hF.output, hF.size, fun k hk hs => hF.block k hk (fun e => hs (Or.inr (Or.inr (Or.inl e))))⟩, Nx.refl _ _⟩
end
end Vl
end Go.Proofs.YtifnhnfjelfddaaGreatDoor
end
section
namespace Go.Proofs.YtifnhnfjelfddaaGreatDoor
set_option maxRecDepth 100000
namespace Vl
open Go.RowKit
open Tw (Tb tcell tval ccell)
theorem orZero_any (a : Addr) (w : World) : Calls Tryz.prog 37 #[.pointer (some a)] w fun e w' => e = .returned (.pointer (some a)) ∧ w' = w := by
  go_enter Tryz.func37, Tryz.ntmps37
  go_wp2_with fail
  go_ret
  exact ⟨rfl, rfl⟩
theorem hasCell_any (z : Int) (w : World) : Calls Tryz.prog 39 #[.int .i64 z] w fun e w' => e = .returned (.bool (decide (0 ≤ z) && decide (z < 24))) ∧ w' = w := by
  by_cases h : 0 ≤ z
  · go_enter Tryz.func39, Tryz.ntmps39
    go_wp2_with fail
    go_ret
    exact ⟨by simp [h], rfl⟩
  · go_enter Tryz.func39, Tryz.ntmps39
    go_wp2_with fail
    go_ret
    exact ⟨by simp; omega, rfl⟩
theorem hc_true {z : Int} (h : 0 ≤ z ∧ z < 24) : (decide (0 ≤ z) && decide (z < 24)) = true := by simp; omega
theorem hc_false {z : Int} (h : ¬ (0 ≤ z ∧ z < 24)) : (decide (0 ≤ z) && decide (z < 24)) = false := by simp; omega
theorem tmod2 (n : Int) (h : 0 ≤ n) : n.tmod 2 = n % 2 := Int.tmod_eq_emod_of_nonneg h
theorem slotOf_any (n : Int) (w : World) (h : 0 ≤ n) : Calls Tryz.prog 74 #[.int .i64 n] w fun e w' => e = .returned (.int .i64 (n % 2)) ∧ w' = w := by
  have e := tmod2 n h
  have hr : wrap64 (n % 2) = n % 2 := by unfold wrap64; omega
  go_enter Tryz.func74, Tryz.ntmps74
  go_wp2_with fail
  go_ret
  exact ⟨rfl, rfl⟩
section
variable {w0 w : World} {vb db cb : Nat} {kb kt : ByteArray} {S : Vs} {v : Value}
theorem Vol.c0 (h : Vol w0 w vb db cb kb kt S v) : w.cell? ⟨vb, 0, none⟩ = some (.pointer (some ⟨db, 0, none⟩)) := h.cel.cell 0 (by omega)
theorem Vol.c1 (h : Vol w0 w vb db cb kb kt S v) : w.cell? ⟨vb, 1, none⟩ = some (.pointer (some ⟨cb, 0, none⟩)) := h.cel.cell 1 (by omega)
theorem Vol.c2 (h : Vol w0 w vb db cb kb kt S v) : w.cell? ⟨vb, 2, none⟩ = some (.string kb) := h.cel.cell 2 (by omega)
theorem Vol.c3 (h : Vol w0 w vb db cb kb kt S v) : w.cell? ⟨vb, 3, none⟩ = some (.string kt) := h.cel.cell 3 (by omega)
theorem Vol.c4 (h : Vol w0 w vb db cb kb kt S v) : w.cell? ⟨vb, 4, none⟩ = some (.int .i64 S.T.count) := h.cel.cell 4 (by omega)
theorem Vol.cf (h : Vol w0 w vb db cb kb kt S v) : w.cell? ⟨vb, 101, none⟩ = some (.bool S.dead) := h.cel.cell 101 (by omega)
theorem Vol.cx (h : Vol w0 w vb db cb kb kt S v) (i : Nat) (hi : i < 24) : w.cell? ⟨vb, 77 + i, none⟩ = some (.string (S.X i)) := by
  rw [h.cel.cell (77 + i) (by omega), vcell_says _ _ _ _ _ _ _ i hi]
theorem Vol.tab (h : Vol w0 w vb db cb kb kt S v) : w.rangeAt vb 4 (brow 73 (tcell S.T)) := by
  have := h.cel.range 4 73 (by omega)
  rw [show brow 73 (fun j => vcell db cb kb kt S.T S.X S.dead (4 + j)) = brow 73 (tcell S.T) from Tw.brow_congr (fun j hj => vcell_tab _ _ _ _ _ _ _ j hj)] at this
  exact this
theorem works_any (h : Vol w0 w vb db cb kb kt S v) : Calls Tryz.prog 38 #[.pointer (some ⟨vb, 0, none⟩)] w fun e w' => e = .returned (.bool (!S.dead)) ∧ w' = w := by
  have q0 := h.c0
  have q1 := h.cf
  clear h
  generalize S.dead = x at *
  cases x
  · go_enter Tryz.func38, Tryz.ntmps38
    go_wp2_with fail
    go_ret
    exact ⟨rfl, rfl⟩
  · go_enter Tryz.func38, Tryz.ntmps38
    go_wp2_with fail
    go_ret
    exact ⟨rfl, rfl⟩
theorem count_any (h : Vol w0 w vb db cb kb kt S v) : Calls Tryz.prog 20 #[.pointer (some ⟨vb, 0, none⟩)] w fun e w' => e = .returned (.int .i64 S.T.count) ∧ w' = w := by
  have q0 := h.c4
  clear h
  go_enter Tryz.func20, Tryz.ntmps20
  go_wp2_with fail
  refine (orZero_any _ _).mono ?_
  rintro e w' ⟨rfl, rfl⟩
  go_wp2_with fail
  go_ret
  exact ⟨rfl, rfl⟩
theorem heed_any (n : Int) (h : Vol w0 w vb db cb kb kt S v) : Calls Tryz.prog 42 #[.pointer (some ⟨vb, 0, none⟩), ev n] w fun e w' => e = .returned (ev n) ∧ Vto w0 w w' vb db cb kb kt { S with dead := S.dead || decide (n = 14) } v := by
  by_cases h0 : n = 0
  · subst h0
    have e0 : ev 0 = .nilIface := by unfold ev; rw [if_pos rfl]
    rw [e0]
    have H : Hid (Vol w0 w vb db cb kb kt S v) := h
    clear h
    go_enter Tryz.func42, Tryz.ntmps42
    go_wp2_with fail
    refine (is_nil _ _).mono ?_
    rintro e w' ⟨rfl, rfl⟩
    go_wp2_with fail
    go_ret
    refine ⟨rfl, ?_⟩
    have := H.out.self
    simpa using this
  · have e0 : ev n = .iface 45 (.int .i64 n) := by unfold ev; rw [if_neg h0]
    rw [e0]
    have H : Hid (Vol w0 w vb db cb kb kt S v) := h
    have q1 := h.cf
    have q2 := h.cel.frozen 101 (by omega)
    clear h
    by_cases h14 : n = 14
    · subst h14
      go_enter Tryz.func42, Tryz.ntmps42
      go_wp2_with fail
      refine (is_any _ _ _).mono ?_
      rintro e w' ⟨rfl, rfl⟩
      rw [decide_eq_true rfl]
      go_wp2_with fail
      go_ret
      refine ⟨rfl, ?_⟩
      have hto := H.out.celTo (T' := S.T) (X' := S.X) (f' := true) (((H.out.cel.set 101 (by omega) (.bool true))).congr (fun j hj => by
        unfold updv
        by_cases e : j = 101
        · subst e; rfl
        · rw [if_neg e]
          unfold vcell
          by_cases e2 : j < 101
          · simp only [if_pos e2]
          · omega)) (Fr.setCell _ _ _ _ _) (H.out.ty.setCell _ _)
      simpa using hto
    · go_enter Tryz.func42, Tryz.ntmps42
      go_wp2_with fail
      refine (is_any _ _ _).mono ?_
      rintro e w' ⟨rfl, rfl⟩
      rw [decide_eq_false h14]
      go_wp2_with fail
      go_ret
      refine ⟨rfl, ?_⟩
      have := H.out.self
      simpa [h14] using this
set_option maxHeartbeats 2000000 in
theorem at_any (h : Vol w0 w vb db cb kb kt S v) : Calls Tryz.prog 53 #[.pointer (some ⟨vb, 0, none⟩)] w fun e w' => (∃ x, e = .returned x ∧ Sp.Ls w' w'.heap.size x 8 S.atf) ∧ Since w w' := by
  have q0 := h.c0
  have H : Hid (Dev w db S.D v) := h.dev
  have HL : Hid (vb < w.heap.size) := h.cel.lt (by omega)
  clear h
  have hmk := Sp.make_ints w
  have HD : Hid (Cel (w.alloc (.cells (madeCells #[Value.int .i64 0] 8) 3)) w.heap.size 8 (fun j => if j < 0 then .int .i64 (S.D.cnt j) else .int .i64 0)) := by
    refine Cel.new _ _ _ _ _ (fun j hj => ?_) _ rfl
    rw [if_neg (Nat.not_lt_zero _)]
    exact Sp.made_int 8 j hj
  have HS : Hid (Since w (w.alloc (.cells (madeCells #[Value.int .i64 0] 8) 3))) := (Since.refl w).alloc _
  go_enter Tryz.func53, Tryz.ntmps53
  go_wp2_with fail
  clear hmk
  generalize w.alloc (.cells (madeCells #[Value.int .i64 0] 8) 3) = w1 at *
  go_loopw [11, 4, 14] (fun i _ _ wr => ∃ k : Nat, k ≤ 8 ∧ i = .int .i64 k ∧ Cel wr w.heap.size 8 (fun j => if j < k then .int .i64 (S.D.cnt j) else .int .i64 0) ∧ Since w wr) (fun i _ _ _ => 8 - (intOf i).toNat)
  case atStart => exact ⟨0, by omega, rfl, HD.out, HS.out⟩
  case round =>
    clear HD HS
    obtain ⟨k, hk, rfl, hd, hs⟩ := hrel
    have HD : Hid (Cel wr w.heap.size 8 (fun j => if j < k then .int .i64 (S.D.cnt j) else .int .i64 0)) := hd
    have HS : Hid (Since w wr) := hs
    clear hd hs
    by_cases hlt : k < 8
    · have hlt2 : (k : Int) < 8 := by omega
      have p0 := q0
      rw [← HS.out.cell (p := ⟨vb, 0, none⟩) HL.out] at p0
      have q1 := HD.out.cell k hlt
      have q2 := HD.out.frozen k hlt
      go_wp2_with fail
      refine (Go.Proofs.YtifnhnfjelfddaaGreatDoor.at_any S.D v db k _ (H.out.since HS.out) hlt).mono ?_
      rintro e w2 ⟨rfl, rfl⟩
      go_wp2_with fail
      go_roundw
      case rel =>
        refine ⟨k + 1, by omega, by go_num, (HD.out.set k hlt _).congr (fun j hj => ?_), HS.out.setCell (Nat.le_refl _) _⟩
        unfold updv
        by_cases e : j = k
        · subst e; rw [if_pos rfl, if_pos (by omega)]
        · rw [if_neg e]
          show (if j < k then Value.int .i64 (S.D.cnt j) else .int .i64 0) = _
          by_cases h1 : j < k
          · rw [if_pos h1, if_pos (by omega)]
          · rw [if_neg h1, if_neg (by omega)]
      case measure => simp [intOf]; omega
    · have hke : k = 8 := by omega
      subst hke
      go_wp2_with fail
      go_ret
      refine ⟨⟨_, rfl, ⟨_, _, rfl, by omega, fun _ => ⟨w.heap.size, 0, rfl, HD.out.lt (by omega), fun j hj => ?_⟩⟩⟩, HS.out⟩
      rw [Nat.zero_add, HD.out.cell j hj, if_pos hj]
      rfl
theorem free_any (h : Vol w0 w vb db cb kb kt S v) : Calls Tryz.prog 24 #[.pointer (some ⟨vb, 0, none⟩)] w fun e w' => e = .returned (.int .i64 S.free) ∧ Since w w' := by
  have H : Hid (Vol w0 w vb db cb kb kt S v) := h
  clear h
  go_enter Tryz.func24, Tryz.ntmps24
  go_wp2_with fail
  refine (orZero_any _ _).mono ?_
  rintro e w' ⟨rfl, rfl⟩
  go_wp2_with fail
  refine (at_any H.out).mono ?_
  rintro e w1 ⟨⟨x, rfl, hx⟩, hs⟩
  have HX : Hid (Sp.Ls w1 w1.heap.size x 8 S.atf) := hx
  have HS : Hid (Since _ w1) := hs
  clear hx hs
  go_wp2_with fail
  refine (Sp.free_any x 8 _ _ _ HX.out (by omega)).mono ?_
  rintro e w2 ⟨rfl, rfl⟩
  go_wp2_with fail
  go_ret
  exact ⟨rfl, HS.out⟩
theorem vread_any (i : Int) (h : Vol w0 w vb db cb kb kt S v) : Calls Tryz.prog 33 #[.pointer (some ⟨vb, 0, none⟩), .int .i64 i] w fun e w' => e = .returned (.tuple #[.string (S.read i).1, ev (S.read i).2]) ∧ w' = w := by
  unfold Vs.read
  by_cases hi : 0 ≤ i ∧ i < 24
  · rw [if_neg (by omega)]
    have hh := hc_true hi
    obtain ⟨k, rfl⟩ := Int.eq_ofNat_of_zero_le hi.1
    have hk : (k : Int) < 24 := hi.2
    have q := h.cx k (by omega)
    rw [Int.toNat_natCast]
    clear h hi
    go_enter Tryz.func33, Tryz.ntmps33
    go_wp2_with fail
    refine (hasCell_any _ _).mono ?_
    rintro e w' ⟨rfl, rfl⟩
    rw [hh]
    go_wp2_with fail
    refine (orZero_any _ _).mono ?_
    rintro e w' ⟨rfl, rfl⟩
    go_wp2_with fail
    go_ret2
    exact ⟨rfl, rfl⟩
  · rw [if_pos hi]
    have hh := hc_false hi
    clear h
    go_enter Tryz.func33, Tryz.ntmps33
    go_wp2_with fail
    refine (hasCell_any _ _).mono ?_
    rintro e w' ⟨rfl, rfl⟩
    rw [hh]
    go_wp2_with fail
    go_ret2
    exact ⟨rfl, rfl⟩
end
end Vl
end Go.Proofs.YtifnhnfjelfddaaGreatDoor
end
