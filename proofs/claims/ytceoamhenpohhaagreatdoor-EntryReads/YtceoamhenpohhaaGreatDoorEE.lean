/- The library's functions as package entry calls them; a file's line. -/
import Derived.Test.YtceoamhenpohhaaGreatDoorED
import Derived.Test.YtceoamhenpohhaaGreatDoorES
import Derived.Lib.AppendIntMem
import Derived.Deep.AppendLies
import Derived.Deep.AppendSrc
namespace Go.Proofs.YtceoamhenpohhaaGreatDoor
set_option linter.unusedSimpArgs false
set_option linter.unusedVariables false
set_option maxRecDepth 100000
namespace En
open Go.RowKit
def powN : String := (Rows.entryReadsRow.laid.map (fun p => p.1)).getD 2 (String.ofList [])
def IsErr (v : Value) : Prop := v = .nilIface ∨ ∃ te pe, v = .iface te pe
/-- what the library's variables hold -/
structure Lb (w : World) : Prop where
  tab : Lib.TabIs Tryz.prog w powN .u64 Lib.pow10Tab
  max : ∃ m, w.cell? ⟨4, 0, none⟩ = some (.int .i64 m)
  syn : ∃ v, w.cell? ⟨1, 0, none⟩ = some v ∧ IsErr v
  ran : ∃ v, w.cell? ⟨2, 0, none⟩ = some v ∧ IsErr v
theorem Lb.since {w w' : World} (h : Lb w) (hs : Since w w') : Lb w' := by
  refine ⟨Lib.tabBelow_of_tabIs h.tab w' hs, ?_, ?_, ?_⟩
  · obtain ⟨m, hm⟩ := h.max
    exact ⟨m, (hs.cell (p := ⟨4, 0, none⟩) (World.block_lt_of_cell? w _ hm)).trans hm⟩
  · obtain ⟨m, hm, h2⟩ := h.syn
    exact ⟨m, (hs.cell (p := ⟨1, 0, none⟩) (World.block_lt_of_cell? w _ hm)).trans hm, h2⟩
  · obtain ⟨m, hm, h2⟩ := h.ran
    exact ⟨m, (hs.cell (p := ⟨2, 0, none⟩) (World.block_lt_of_cell? w _ hm)).trans hm, h2⟩
theorem since_grow {w : World} (k : Nat) (os : Array Obj) : Since w (Go.Sort.grow (w.drewN k) os) := by
  have h := (Since.refl w).drewN k
  refine Below.trans (show Below w.heap.size w _ from h) ⟨rfl, rfl, rfl, by simp [Go.Sort.grow], fun j hj => ?_⟩
  show ((w.drewN k).heap ++ os)[j]? = _
  rw [Array.getElem?_append_left (Nat.lt_of_lt_of_le hj h.size)]
theorem itoa_any (n : Int) (h0 : -9223372036854775808 ≤ n) (h1 : n ≤ 9223372036854775807) (w : World) (h : Lb w) :
    Calls Tryz.prog 21 #[.int .i64 n] w fun e w' => e = .returned (.string ⟨(Lib.itoa n).toArray⟩) ∧ Since w w' := by
  refine (Tryz.strconv_Itoa n h0 h1 w h.tab).mono ?_
  rintro e w' ⟨rfl, k, os, rfl⟩
  exact ⟨rfl, since_grow k os⟩
theorem since_bytes {w : World} (t : ByteArray) (ty : TypeId) : Since w (Lib.bytesWorld w ty t) :=
  ⟨rfl, rfl, rfl, by rw [Lib.bytesWorld_size]; omega, fun k hk => Lib.bytesWorld_at_old w ty t k hk⟩
theorem atoi_any (s : ByteArray) (hs : s.size ≤ 100000) (w : World) (h : Lb w) :
    Calls Tryz.prog 35 #[.string s] w fun e w' => (∃ er, e = .returned (.tuple #[.int .i64 (numR s.data.toList), er]) ∧ ((∃ v, num? s.data.toList = some v ∧ er = .nilIface) ∨ (num? s.data.toList = none ∧ ∃ t p, er = .iface t p))) ∧ Since w w' := by
  cases hn : Lib.atoiAll s.data.toList with
  | ok v =>
    refine (Tryz.strconv_Atoi_ok s (by omega) v hn w).mono ?_
    rintro e w' ⟨rfl, h2⟩
    refine ⟨⟨.nilIface, by simp [numR, hn], Or.inl ⟨v, by simp [num?, hn], rfl⟩⟩, ?_⟩
    rcases h2 with rfl | ⟨t, rfl⟩
    · exact Since.refl _
    · exact since_bytes t _
  | «syntax» =>
    obtain ⟨ev, h1, h2⟩ := h.syn
    refine (Tryz.strconv_Atoi_syntax s (by omega) hn ev w h1 h2).mono ?_
    rintro e w' ⟨N, rfl, _, _, h3⟩
    exact ⟨⟨.iface 99 (.pointer (some ⟨N, 0, none⟩)), by simp only [numR, hn], Or.inr ⟨by simp only [num?, hn], _, _, rfl⟩⟩, h3⟩
  | range =>
    obtain ⟨ev, h1, h2⟩ := h.ran
    refine (Tryz.strconv_Atoi_range s (by omega) hn ev w h1 h2).mono ?_
    rintro e w' ⟨N, rfl, _, _, h3⟩
    exact ⟨⟨.iface 99 (.pointer (some ⟨N, 0, none⟩)), by simp only [numR, hn], Or.inr ⟨by simp only [num?, hn], _, _, rfl⟩⟩, h3⟩
theorem cut_any (s : ByteArray) (hs : s.size ≤ 100000) (w : World) (h : Lb w) :
    Calls Tryz.prog 46 #[.string s, .string ⟨#[10]⟩] w fun e w' => e = .returned (.tuple #[.string ⟨(Lib.cut s.data.toList [10]).1.toArray⟩, .string ⟨(Lib.cut s.data.toList [10]).2.1.toArray⟩, .bool (Lib.cut s.data.toList [10]).2.2]) ∧ Since w w' := by
  obtain ⟨m, hm⟩ := h.max
  refine (Tryz.strings_Cut s ⟨#[10]⟩ m w (by omega) hm).mono ?_
  rintro e w' ⟨rfl, n, rfl⟩
  exact ⟨rfl, (Since.refl w).drewN n⟩
theorem clone_any (s : ByteArray) (hs : s.size ≤ 100000) (w : World) : Calls Tryz.prog 48 #[.string s] w fun e w' => e = .returned (.string s) ∧ Since w w' := by
  go_enter Tryz.func48, Tryz.ntmps48
  go_wp2_with fail
  refine (Tryz.stringslite_Clone s w (by omega)).mono ?_
  rintro e w' ⟨rfl, h⟩
  go_wp2_with fail
  go_ret
  exact ⟨rfl, h⟩
theorem writeString_any (B b : Nat) (bs : List Value) (s : ByteArray) (w : World) (h : Lib.IsBuilderF 51 5 B b bs w) (hl : bs.length + s.size ≤ 140737488355328) (hB : B ≤ w.heap.size) :
    Calls Tryz.prog 23 #[.pointer (some ⟨b, 0, none⟩), .string s] w fun e w' => e = .returned (.tuple #[.int .i64 s.size, .nilIface]) ∧ Lib.BuilderAtF 51 5 B b (.pointer (some ⟨b, 0, none⟩)) (bs ++ Lib.strCells s) w' ∧ Below B w w' ∧ Lib.OthersKept 5 (some b) w w' :=
  Any.Builder_WriteString_k { Tryz.lays156 with } Tryz.Builder_Extra_156 B b bs s w h hl hB
theorem heap_lt {w : World} {k : Nat} {o : Obj} (h : w.heap[k]? = some o) : k < w.heap.size := (Array.getElem?_eq_some_iff.1 h).1
theorem builderAt_since {B b : Nat} {p : Value} {bs : List Value} {w w' : World} (h : Lib.BuilderAtF 51 5 B b p bs w) (hs : Since w w') : Lib.BuilderAtF 51 5 B b p bs w' := by
  obtain ⟨h1, v, hb, hown, hne⟩ := h
  refine ⟨h1, v, by rw [Below.block hs b (heap_lt hb)]; exact hb, ?_, hne⟩
  obtain ⟨o1, o2⟩ := hown
  refine ⟨o1, ?_⟩
  rcases o2 with o2 | ⟨g, cap, cur, o2⟩
  · exact Or.inl o2
  · obtain ⟨fz, hv, hg, hh, r⟩ := o2
    exact Or.inr ⟨g, cap, cur, fz, hv, hg, by rw [Below.block hs g (heap_lt hh)]; exact hh, r⟩
theorem builder_since {B b : Nat} {bs : List Value} {w w' : World} (h : Lib.IsBuilderF 51 5 B b bs w) (hs : Since w w') : Lib.IsBuilderF 51 5 B b bs w' := by
  rcases h with h | h
  · exact Or.inl (builderAt_since h hs)
  · exact Or.inr (builderAt_since h hs)
/-- a row of texts that is ours -/
def txts (l : List (List UInt8)) : List Value := l.map (fun t => .string ⟨t.toArray⟩)
theorem join_any (x : Value) (B : Nat) (l : List (List UInt8)) (w : World) (h : w.ownsRow B 9 1 x l.length (txts l)) (hne : l ≠ []) (hl : (Lib.join l [32]).length ≤ 100000) (hn : l.length ≤ 100000) :
    Calls Tryz.prog 22 #[x, .string ⟨#[32]⟩] w fun e w' => e = .returned (.string ⟨(Lib.join l [32]).toArray⟩) ∧ Since w w' := by
  have hpos := List.length_pos_iff.2 hne
  have h0 := h
  rcases h.2 with ⟨_, h1⟩ | ⟨g, cap, cur, rfl, hb, hg, hc, hm, hs, ht⟩
  · omega
  · have e1 : (l.map (fun t => (⟨t.toArray⟩ : ByteArray))).map (fun x => x.data.toList) = l := by
      rw [List.map_map]
      exact List.map_id'' (fun t => by simp) l
    have := Tryz.strings_Join g 0 cap (l.map (fun t => (⟨t.toArray⟩ : ByteArray))) ⟨#[32]⟩ w (fun j x hx => by
      have hj : j < l.length := by have := (List.getElem?_eq_some_iff.1 hx).1; simpa using this
      have h2 := h0.cellAt j (by omega)
      rw [Nat.zero_add, h2]
      rw [List.getElem?_map] at hx
      simp only [txts, List.getElem?_map]
      cases hq : l[j]? with
      | none => rw [hq] at hx; cases hx
      | some y => rw [hq] at hx; simp at hx; subst hx; rfl) (heap_lt hg) (by simp; omega) (by simp; omega) (by rw [e1]; exact Nat.le_trans hl (by decide))
    rw [List.length_map] at this
    refine this.mono ?_
    rintro e w' ⟨rfl, h3⟩
    rw [e1]
    exact ⟨rfl, h3⟩
end En
end Go.Proofs.YtceoamhenpohhaaGreatDoor
