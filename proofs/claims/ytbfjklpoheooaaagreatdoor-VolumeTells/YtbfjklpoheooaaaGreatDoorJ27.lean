import Derived.Deep.QuietTactic
import Derived.BigQuiet
import Derived.Deep.RegionWith
import Derived.Deep.RegionHeld3
import Derived.Test.YtbfjklpoheooaaaGreatDoorJ01
import Derived.Test.YtbfjklpoheooaaaGreatDoorJ03
import Derived.Test.YtbfjklpoheooaaaGreatDoorJ26
set_option linter.unusedSimpArgs false
set_option linter.unusedVariables false
section
namespace Go.Proofs.YtbfjklpoheooaaaGreatDoor
open Go.RowKit
end Go.Proofs.YtbfjklpoheooaaaGreatDoor
end
section
namespace Go.Proofs.YtbfjklpoheooaaaGreatDoor
open Go.RowKit
def pk (a : Int) : Nat := (a % 18446744073709551616).toNat % 8
end Go.Proofs.YtbfjklpoheooaaaGreatDoor
end
section
namespace Go.Proofs.YtbfjklpoheooaaaGreatDoor
open Go.RowKit
theorem part9 (xs : Array Value) (i : Nat) (s : ByteArray) (w : World) (h : xs[i]? = some (.string s)) : (part 9 xs i).run Tryz.prog w = .ok (.string s) w := by
  simp [part, h, go_sem, Tryz.isAgg9, Tryz.sizeOf9]
theorem eq2g (d : Nat) (s0 s1 : ByteArray) (w : World) : (Op.equalIn (d + 1 + 1) 46 (.agg #[.string s0, .string s1]) (.agg #[.string s0, .string s1])).run Tryz.prog w = .ok true w := by
  have e0 := fun s => run_equalIn_string (P := Tryz.prog) w d 9 s s Tryz.underlying9
  have p0 := part9 #[.string s0, .string s1] 0 s0 w rfl
  have p1 := part9 #[.string s0, .string s1] 1 s1 w rfl
  rw [Op.equalIn]
  simp only [Sem.run_bind, run_underlying Tryz.underlying46, Result.andThen_ok, Tryz.sizeOf9, Std.Legacy.Range.forIn_eq_forIn_range', Std.Legacy.Range.size]
  simp [List.range', p0, p1, e0]
theorem eq2 (s0 s1 : ByteArray) (w : World) : (Op.equalIn 10000 46 (.agg #[.string s0, .string s1]) (.agg #[.string s0, .string s1])).run Tryz.prog w = .ok true w := eq2g 9998 s0 s1 w
end Go.Proofs.YtbfjklpoheooaaaGreatDoor
end
section
namespace Go.Proofs.YtbfjklpoheooaaaGreatDoor
open Go.RowKit
theorem SlA.sl {w w' : World} {N b : Nat} {v : Value} {n : Nat} {f : Nat → Value} (h : SlA w N v n f) (hs : Since w w') (hb : N ≤ b) : Sl w' b v n f := by
  obtain ⟨a, c, hv, h⟩ := h
  refine ⟨a, c, hv, fun hn => ?_⟩
  obtain ⟨k, o, ha, hk, hc⟩ := h hn
  exact ⟨k, o, ha, by omega, fun j hj => (hs.cell (p := ⟨k, o + j, none⟩) (World.block_lt_of_cell? w _ (hc j hj))).trans (hc j hj)⟩
end Go.Proofs.YtbfjklpoheooaaaGreatDoor
end
section
namespace Go.Proofs.YtbfjklpoheooaaaGreatDoor
open Go.RowKit
theorem SlA.fr {w w' : World} {N b : Nat} {v : Value} {n : Nat} {f : Nat → Value} (h : SlA w N v n f) (hs : Fr b none w w') (hb : N ≤ b) : SlA w' N v n f := by
  obtain ⟨a, c, hv, h⟩ := h
  refine ⟨a, c, hv, fun hn => ?_⟩
  obtain ⟨k, o, ha, hk, hc⟩ := h hn
  exact ⟨k, o, ha, hk, fun j hj => (hs.cell (p := ⟨k, o + j, none⟩) (World.block_lt_of_cell? w _ (hc j hj)) (by show k ≠ b; omega) (by simp)).trans (hc j hj)⟩
theorem Sl.of_own {w : World} {base b n : Nat} {e : TypeId} {v : Value} {xs : List Value} {f : Nat → Value} (h : w.ownsRow base e 1 v n xs) (hb : b < base) (hx : ∀ j, j < n → xs[j]? = some (f j)) : Sl w b v n f := by
  rcases h.2 with ⟨rfl, rfl⟩ | ⟨g, cap, cur, rfl, hg, hh, h1, h2, h3, h4⟩
  · exact ⟨_, _, rfl, fun h => by omega⟩
  · refine ⟨_, _, rfl, fun _ => ⟨g, 0, rfl, by omega, fun j hj => ?_⟩⟩
    have e := hx j hj
    rw [← h4, List.getElem?_take_of_lt (by omega), Array.getElem?_toList] at e
    rw [Nat.zero_add]
    simp [World.cell?, hh, e]
theorem blks_get (blk : Nat → Nat → UInt8) (n j : Nat) (hj : j < n) : (blks blk n)[j]? = some (.string (txt 128 (blk j))) := by simp [blks, hj]
def zImage : Array Value := #[.slice none 0 0, .slice none 0 0, .slice none 0 0, .slice none 0 0, .slice none 0 0, .slice none 0 0, .slice none 0 0, .slice none 0 0, .string ⟨#[]⟩, .string ⟨#[]⟩]
theorem zImage_get : ∀ j, j < 10 → zImage[j]? = some (icell (fun _ => .slice none 0 0) ⟨#[]⟩ ⟨#[]⟩ j) := by
  intro j hj
  match j, hj with
  | 0, _ => rfl
  | 1, _ => rfl
  | 2, _ => rfl
  | 3, _ => rfl
  | 4, _ => rfl
  | 5, _ => rfl
  | 6, _ => rfl
  | 7, _ => rfl
  | 8, _ => rfl
  | 9, _ => rfl
theorem icell_one {w : World} {base : Nat} {e : TypeId} {iv : Nat → Value} {n : Nat → Nat} {xs : Nat → List Value} (h : ∀ z, z < 8 → w.ownsRow base e 1 (iv z) (n z) (xs z)) (s0 s1 : ByteArray) : ∀ j, j < 10 → (icell iv s0 s1 j).oneCell' = true := fun j hj => by
  unfold icell
  by_cases h8 : j < 8
  · rw [if_pos h8]
    rcases (h j h8).2 with ⟨e, _⟩ | ⟨g, cap, cur, e, _⟩ <;> rw [e] <;> rfl
  · rw [if_neg h8]
    split <;> rfl
theorem own_slice2 {w : World} {b e s n : Nat} {v : Value} {x : List Value} (h : w.ownsRow b e s v n x) : ∃ a c, v = .slice a n c ∧ n ≤ c := by
  rcases h.2 with ⟨rfl, h0⟩ | ⟨g, c, u, rfl, _, _, h1, _⟩
  · exact ⟨_, _, by rw [h0], by omega⟩
  · exact ⟨_, _, rfl, h1⟩
theorem Sl.take {w : World} {b n q : Nat} {a : Option Addr} {c : Nat} {f : Nat → Value} (h : Sl w b (.slice a n c) n f) (hq : q ≤ n) : Sl w b (.slice a q c) q f := by
  obtain ⟨a', c', he, h⟩ := h
  injection he with h1 _ h3
  subst h1 h3
  refine ⟨a, c, rfl, fun h0 => ?_⟩
  obtain ⟨k, o, ha, hk, hc⟩ := h (by omega)
  exact ⟨k, o, ha, hk, fun j hj => hc j (by omega)⟩
end Go.Proofs.YtbfjklpoheooaaaGreatDoor
end
