/- Facts: images, crashes, lists. -/
import Derived.Test.YtjfhggcjdckfgaaDoorR3
namespace Go.Proofs.YtjfhggcjdckfgaaDoor
set_option linter.unusedSimpArgs false
set_option linter.unusedVariables false
open Go.RowKit

theorem SlA.fr {w w' : World} {N b : Nat} {v : Value} {n : Nat} {f : Nat → Value} (h : SlA w N v n f) (hs : Fr b none w w') (hb : N ≤ b) : SlA w' N v n f := by
  obtain ⟨a, c, hv, h⟩ := h
  refine ⟨a, c, hv, fun hn => ?_⟩
  obtain ⟨k, o, ha, hk, hc⟩ := h hn
  exact ⟨k, o, ha, hk, fun j hj => (hs.cell (p := ⟨k, o + j, none⟩) (World.block_lt_of_cell? w _ (hc j hj)) (by show k ≠ b; omega) (by simp)).trans (hc j hj)⟩
/-- an owned row is a list -/
theorem Sl.of_own {w : World} {base b n : Nat} {e : TypeId} {v : Value} {xs : List Value} {f : Nat → Value} (h : w.ownsRow base e 1 v n xs) (hb : b < base) (hx : ∀ j, j < n → xs[j]? = some (f j)) : Sl w b v n f := by
  rcases h.2 with ⟨rfl, rfl⟩ | ⟨g, cap, cur, rfl, hg, hh, h1, h2, h3, h4⟩
  · exact ⟨_, _, rfl, fun h => by omega⟩
  · refine ⟨_, _, rfl, fun _ => ⟨g, 0, rfl, by omega, fun j hj => ?_⟩⟩
    have e := hx j hj
    rw [← h4, List.getElem?_take_of_lt (by omega), Array.getElem?_toList] at e
    rw [Nat.zero_add]
    simp [World.cell?, hh, e]
theorem blks_get (blk : Nat → Nat → UInt8) (n j : Nat) (hj : j < n) : (blks blk n)[j]? = some (.string (txt 128 (blk j))) := by simp [blks, hj]

/-- a crash of what is all sure changes nothing that is told -/
theorem crashed_sure (E : Dv) (nk : Nat) (ks : Nat → Int) (ns : Nat) (sl : Nat → Bool) (z : Nat) (hz : z < 8) : (E.crashed nk ks ns sl).sure z = kept1 (E.cnt z) (E.sure z) (keepAt nk ks z) := by
  show (if z < 8 then _ else _) = _
  rw [if_pos hz]
theorem crashed_cnt (E : Dv) (nk : Nat) (ks : Nat → Int) (ns : Nat) (sl : Nat → Bool) (z : Nat) (hz : z < 8) : (E.crashed nk ks ns sl).cnt z = kept1 (E.cnt z) (E.sure z) (keepAt nk ks z) := by
  show (if z < 8 then _ else _) = _
  rw [if_pos hz]
theorem crashed_blk (E : Dv) (nk : Nat) (ks : Nat → Int) (ns : Nat) (sl : Nat → Bool) (z j : Nat) (hj : j < kept1 (E.cnt z) (E.sure z) (keepAt nk ks z)) : (E.crashed nk ks ns sl).blk z j = E.blk z j := by
  funext i
  show (if z < 8 ∧ _ then _ else _) = _
  rw [if_neg (by omega)]
theorem crashed_slot (E : Dv) (nk : Nat) (ks : Nat → Int) (ns : Nat) (sl : Nat → Bool) (hw : E.ws = []) : (E.crashed nk ks ns sl).slot 0 = E.slot 0 ∧ (E.crashed nk ks ns sl).slot 1 = E.slot 1 := by
  have h : ∀ k, (E.crashZ (keepAt nk ks) 8).slotBy k (keptBy ns sl) = E.slot k := fun k => by
    unfold Dv.slotBy lastW
    rw [show (E.crashZ (keepAt nk ks) 8).ws = [] from hw]
    rfl
  exact ⟨h 0, h 1⟩
theorem crashed_fused (E : Dv) (nk : Nat) (ks : Nat → Int) (ns : Nat) (sl : Nat → Bool) : (E.crashed nk ks ns sl).fused = false ∧ (E.crashed nk ks ns sl).ws = [] := ⟨rfl, rfl⟩
theorem synced_facts (D : Dv) : D.synced.fused = D.fused ∧ D.synced.ws = [] ∧ D.synced.cnt = D.cnt ∧ D.synced.blk = D.blk ∧ ∀ z, z < 8 → D.synced.sure z = D.cnt z :=
  ⟨rfl, rfl, rfl, rfl, fun z hz => by show (if z < 8 then _ else _) = _; rw [if_pos hz]⟩
theorem kept1_ge (c s : Nat) (x : Int) : s ≤ kept1 c s x := by unfold kept1; omega
theorem kept1_same (c : Nat) (x : Int) : kept1 c c x = c := by unfold kept1; omega
/-- an image without anything -/
def zImage : Array Value := #[.slice none 0 0, .slice none 0 0, .slice none 0 0, .slice none 0 0, .slice none 0 0, .slice none 0 0, .slice none 0 0, .slice none 0 0, .string ⟨#[]⟩, .string ⟨#[]⟩]
theorem zImage_get : ∀ j, j < 10 → zImage[j]? = some (icell (fun _ => .slice none 0 0) ⟨#[]⟩ ⟨#[]⟩ j) := by
  intro j hj
  match j, hj with
  | 0, _ => rfl
  | 1, _ => rfl
  | 2, _ => rfl
  | 3, _ => rfl
  | 4, _ => rfl
  | 5, _ => rfl
  | 6, _ => rfl
  | 7, _ => rfl
  | 8, _ => rfl
  | 9, _ => rfl
theorem icell_one {w : World} {base : Nat} {e : TypeId} {iv : Nat → Value} {n : Nat → Nat} {xs : Nat → List Value} (h : ∀ z, z < 8 → w.ownsRow base e 1 (iv z) (n z) (xs z)) (s0 s1 : ByteArray) : ∀ j, j < 10 → (icell iv s0 s1 j).oneCell' = true := fun j hj => by
  unfold icell
  by_cases h8 : j < 8
  · rw [if_pos h8]
    rcases (h j h8).2 with ⟨e, _⟩ | ⟨g, cap, cur, e, _⟩ <;> rw [e] <;> rfl
  · rw [if_neg h8]
    split <;> rfl
/-- an image that is stored in a new variable -/
theorem image_stored (w : World) (iv : Nat → Value) (s0 s1 : ByteArray) (h1 : ∀ j, j < 10 → (icell iv s0 s1 j).oneCell' = true) :
    (storeCells ⟨w.heap.size, 0, none⟩ (brow 10 (icell iv s0 s1))).run Tryd.prog (w.alloc (.cells zImage 45)) = .ok () ((w.alloc (.cells zImage 45)).setCells w.heap.size 0 (brow 10 (icell iv s0 s1))) ∧
    Cel ((w.alloc (.cells zImage 45)).setCells w.heap.size 0 (brow 10 (icell iv s0 s1))) w.heap.size 10 (icell iv s0 s1) ∧ Since w ((w.alloc (.cells zImage 45)).setCells w.heap.size 0 (brow 10 (icell iv s0 s1))) := by
  have hC : Cel (w.alloc (.cells zImage 45)) w.heap.size 10 (icell (fun _ => .slice none 0 0) ⟨#[]⟩ ⟨#[]⟩) := Cel.new w _ _ _ _ zImage_get _ rfl
  exact ⟨hC.store Tryd.prog 0 10 (by omega) _ h1, (hC.setRow 0 10 (by omega) _).congr (fun j hj => by unfold updl; rw [if_pos (by omega)]; rfl), ((Since.refl w).alloc _).setCells (Nat.le_refl _) _ _⟩
theorem setCells_size (b : Nat) : ∀ (vs : List Value) (o : Nat) (w : World), (w.setCells b o vs).heap.size = w.heap.size
  | [], _, _ => rfl
  | v :: r, o, w => by rw [World.setCells, setCells_size b r]; simp [World.setCell]
theorem own_ne {w : World} {b1 b2 e1 e2 s1 s2 n1 n2 : Nat} {v1 v2 : Value} {x1 x2 : List Value} (h1 : w.ownsRow b1 e1 s1 v1 n1 x1) (h2 : w.ownsRow b2 e2 s2 v2 n2 x2) (he : e1 ≠ e2) : v1.ownBlock = none ∨ v1.ownBlock ≠ v2.ownBlock := by
  rcases h1.2 with ⟨rfl, _⟩ | ⟨g1, c1, u1, rfl, _, hg1, _⟩
  · exact Or.inl rfl
  · right
    rcases h2.2 with ⟨rfl, _⟩ | ⟨g2, c2, u2, rfl, _, hg2, _⟩
    · simp [Value.ownBlock]
    · intro e
      simp only [Value.ownBlock, Option.some.injEq] at e
      subst e
      rw [hg1] at hg2
      injection hg2 with hg2
      injection hg2 with _ h3
      exact he h3
theorem own_slice {w : World} {b e s n : Nat} {v : Value} {x : List Value} (h : w.ownsRow b e s v n x) : ∃ a m c, v = .slice a m c ∧ m = n := by
  rcases h.2 with ⟨rfl, h0⟩ | ⟨g, c, u, rfl, _⟩
  · exact ⟨_, _, _, rfl, h0.symm⟩
  · exact ⟨_, _, _, rfl, rfl⟩
theorem own_slice2 {w : World} {b e s n : Nat} {v : Value} {x : List Value} (h : w.ownsRow b e s v n x) : ∃ a c, v = .slice a n c ∧ n ≤ c := by
  rcases h.2 with ⟨rfl, h0⟩ | ⟨g, c, u, rfl, _, _, h1, _⟩
  · exact ⟨_, _, by rw [h0], by omega⟩
  · exact ⟨_, _, rfl, h1⟩
theorem Sl.take {w : World} {b n q : Nat} {a : Option Addr} {c : Nat} {f : Nat → Value} (h : Sl w b (.slice a n c) n f) (hq : q ≤ n) : Sl w b (.slice a q c) q f := by
  obtain ⟨a', c', he, h⟩ := h
  injection he with h1 _ h3
  subst h1 h3
  refine ⟨a, c, rfl, fun h0 => ?_⟩
  obtain ⟨k, o, ha, hk, hc⟩ := h (by omega)
  exact ⟨k, o, ha, hk, fun j hj => hc j (by omega)⟩
theorem infoL : (Tryd.prog.info? 22).map (fun i => (i.zero, i.size, i.bytes)) = some (some (.slice none 0 0), 1, 24) := by kernel_rfl
theorem sync_off (D : Dv) (v : Value) (b : Nat) (w : World) (hd : Dev w b D v) (hf : D.fused = false) :
    Calls Tryd.prog 35 #[.pointer (some ⟨b, 0, none⟩)] w fun e w' => e = .returned .nilIface ∧ Dev w' b D.synced (.slice none 0 0) ∧ Fr b none w w' := by
  have := sync_any D v b w hd (may_off hf)
  rw [burnt_off hf] at this
  exact this
end Go.Proofs.YtjfhggcjdckfgaaDoor
