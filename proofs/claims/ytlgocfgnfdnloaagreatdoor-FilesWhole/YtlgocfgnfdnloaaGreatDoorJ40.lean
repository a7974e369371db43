import Derived.Laws.OwnMore
import Derived.Test.YtlgocfgnfdnloaaGreatDoorJ38
import Derived.Test.YtlgocfgnfdnloaaGreatDoorJ39
set_option linter.unusedSimpArgs false
set_option linter.unusedVariables false
section
namespace Go.Proofs.YtlgocfgnfdnloaaGreatDoor
set_option maxRecDepth 100000
namespace Fl
open Go.RowKit Go.Sort Go.Shelf
open En (Fi Fls Ints fval Row)
open Vl (Fs)
def cmpB (a b : ByteArray) : Int := if Op.bytesLess a.toList b.toList then -1 else if a.toList == b.toList then 0 else 1
theorem compare_is (a b : ByteArray) (w : World) : Calls Tryz.prog 132 #[.string a, .string b] w fun e w' => e = .returned (.int .i64 (cmpB a b)) ∧ w' = w := by
  cases hl : Op.bytesLess a.toList b.toList with
  | true =>
    have hq : cmpB a b = -1 := by unfold cmpB; rw [hl]; rfl
    rw [hq]
    clear hq
    go_enter Tryz.func132, Tryz.ntmps132
    go_wp2_with fail
    refine (isNaNs_any a w).mono ?_
    rintro e w1 ⟨rfl, rfl⟩
    go_wp2_with fail
    refine (isNaNs_any b _).mono ?_
    rintro e w1 ⟨rfl, rfl⟩
    go_wp2_with fail
    go_ret
    exact ⟨rfl, rfl⟩
  | false =>
    cases he : (a.toList == b.toList) with
    | true =>
      have hq : cmpB a b = 0 := by unfold cmpB; rw [hl, he]; rfl
      rw [hq]
      clear hq
      go_enter Tryz.func132, Tryz.ntmps132
      go_wp2_with fail
      refine (isNaNs_any a w).mono ?_
      rintro e w1 ⟨rfl, rfl⟩
      go_wp2_with fail
      refine (isNaNs_any b _).mono ?_
      rintro e w1 ⟨rfl, rfl⟩
      go_wp2_with fail
      go_ret
      exact ⟨rfl, rfl⟩
    | false =>
      have hq : cmpB a b = 1 := by unfold cmpB; rw [hl, he]; rfl
      rw [hq]
      clear hq
      go_enter Tryz.func132, Tryz.ntmps132
      go_wp2_with fail
      refine (isNaNs_any a w).mono ?_
      rintro e w1 ⟨rfl, rfl⟩
      go_wp2_with fail
      refine (isNaNs_any b _).mono ?_
      rintro e w1 ⟨rfl, rfl⟩
      go_wp2_with fail
      go_ret
      exact ⟨rfl, rfl⟩
abbrev Fv : Type := ByteArray × Int × Option Addr × Nat × Nat
def encF (x : Fv) : List Value := [.string x.1, .int .i64 x.2.1, .slice x.2.2.1 x.2.2.2.1 x.2.2.2.2]
def cfF (x y : Fv) : Int := cmpB x.1 y.1
theorem becomeF_is (x y : Fv) (W : World) : Calls Tryz.prog 131 #[.agg (encF x).toArray, .agg (encF y).toArray] W fun e w' => e = .returned (.int .i64 (cfF x y)) ∧ ∃ q os', w' = grow (W.drewN q) os' := by
  obtain ⟨n1, s1, a1, l1, c1⟩ := x
  obtain ⟨n2, s2, a2, l2, c2⟩ := y
  have hcon := fun W' => compare_is n1 n2 W'
  have hq : cfF (n1, s1, a1, l1, c1) (n2, s2, a2, l2, c2) = cmpB n1 n2 := rfl
  rw [hq]
  clear hq
  generalize cmpB n1 n2 = r at hcon ⊢
  unfold encF
  go_enter Tryz.func131, Tryz.ntmps131
  go_wp2_with (go_at_call 132; refine (hcon _).mono ?_; rintro e w' ⟨rfl, rfl⟩)
  go_ret
  exact ⟨rfl, 0, _, by rw [alloc_eq_grow, alloc_eq_grow, grow_grow]; rfl⟩
theorem cmpLaysF (blk off size : Nat) (w : World) : CmpLays Tryz.prog 131 #[] encF 3 cfF blk off size w := fun _ _ _ _ x y => becomeF_is x y _
theorem ltF (x y : Fv) : ltOf cfF x y = decide (x.1.toList < y.1.toList) := by
  have e := bytesLess_eq x.1.toList y.1.toList
  unfold ltOf cfF cmpB
  rw [e]
  by_cases h : x.1.toList < y.1.toList
  · rw [decide_eq_true h]; rfl
  · rw [decide_eq_false h]
    cases (x.1.toList == y.1.toList) <;> rfl
theorem swoF : SWO (ltOf cfF) where
  irrefl x := by rw [ltF]; exact decide_eq_false (List.lt_irrefl _)
  trans x y z h1 h2 := by rw [ltF] at *; simp only [decide_eq_true_eq] at *; exact List.lt_trans h1 h2
  ntrans x y z h1 h2 := by
    rw [ltF] at *
    simp only [decide_eq_false_iff_not, List.not_lt] at *
    exact List.le_trans h2 h1
theorem fs_sort (w : World) (blk off n : Nat) (d : Array Fv) (os : Array Obj) : Fs (fun k => k = blk) w (sortWorldK encF 3 w blk off n d os) := by
  refine ⟨rfl, rfl, rfl, ?_, fun k hk hne => ?_⟩
  · simp [sortWorldK, putRowK, putRow, mapBlock, Sort.ahead, grow]
  · unfold sortWorldK putRowK
    rw [heap_grow_old _ _ (by simpa [putRow, mapBlock, Sort.ahead] using hk)]
    have : blk ≠ k := fun e => hne e.symm
    simp [putRow, mapBlock, Sort.ahead, Array.getElem?_modify, this]
theorem sortF_any (blk off cap : Nat) (d : Array Fv) (w : World) (hH : HoldsK encF 3 w blk off d) (hblk : blk < w.heap.size) (h12 : d.size ≤ 12) :
    Calls Tryz.prog 130 #[.slice (some ⟨blk, off, none⟩) d.size cap, .func (.func 131) #[] #[]] w fun e w' => e = .returned (.tuple #[]) ∧ ∃ d' : Array Fv, d'.size = d.size ∧ d'.toList.Perm d.toList ∧ SortedIn (ltOf cfF) 0 d.size d' ∧ HoldsK encF 3 w' blk off d' ∧ Fs (fun k => k = blk) w w' := by
  have hcon := AnyQ.slices_SortFunc_small_sorted Tryz.sortF 3 Tryz.isAgg153 Tryz.sizeOf153 encF (fun _ => rfl) (fun x v hv => by simp [encF] at hv; rcases hv with rfl | rfl | rfl <;> rfl) cfF 131 #[] swoF blk off cap d w becomeF_enters (cmpLaysF blk off d.size w) hH hblk h12 (fun n W h => (Tryz.bits_Len n W (by omega) (by omega)).mono fun _ _ ⟨he, hw⟩ => ⟨⟨_, he⟩, hw⟩)
  refine hcon.mono ?_
  rintro e w' ⟨he, d', n, os, hp, hs, rfl⟩
  refine ⟨he, d', hp.1, ?_, hs, ?_, fs_sort w blk off n d' os⟩
  · have := hp.2.2
    rw [← hp.1] at this
    rw [Array.extract_size, hp.1, Array.extract_size] at this
    exact this
  · exact holdsK_grow encF 3 _ os blk off d' (by simpa [putRowK, putRow, mapBlock, Sort.ahead] using hblk) (holdsK_putRowK encF 3 _ blk off d d' (holdsK_ahead encF 3 w n blk off d hH) hp.1)
end Fl
end Go.Proofs.YtlgocfgnfdnloaaGreatDoor
end
section
namespace Go.Proofs.YtlgocfgnfdnloaaGreatDoor
set_option maxRecDepth 100000
namespace Fl
open Go.RowKit Go.Sort Go.Shelf
open En (Fi Fls Ints fval Row)
open Vl (Fs)
def fcells : List Fv → List Value
  | [] => []
  | x :: r => .string x.1 :: .int .i64 x.2.1 :: .slice x.2.2.1 x.2.2.2.1 x.2.2.2.2 :: fcells r
theorem fcells_len : ∀ d : List Fv, (fcells d).length = d.length * 3
  | [] => rfl
  | x :: r => by
    have ih := fcells_len r
    simp only [fcells, List.length_cons]
    omega
theorem fcells_one : ∀ (d : List Fv), ∀ u ∈ fcells d, u.oneCell' = true
  | [], u, h => by cases h
  | x :: r, u, h => by
    simp only [fcells, List.mem_cons] at h
    rcases h with rfl | rfl | rfl | h
    · rfl
    · rfl
    · rfl
    · exact fcells_one r u h
theorem fcells_get : ∀ (d : List Fv) (j : Nat) (x : Fv), d[j]? = some x → (fcells d)[j * 3]? = some (.string x.1) ∧ (fcells d)[j * 3 + 1]? = some (.int .i64 x.2.1) ∧ (fcells d)[j * 3 + 2]? = some (.slice x.2.2.1 x.2.2.2.1 x.2.2.2.2)
  | [], j, x, h => by simp at h
  | y :: r, 0, x, h => by
    simp at h
    subst h
    exact ⟨rfl, rfl, rfl⟩
  | y :: r, j + 1, x, h => by
    have ih := fcells_get r j x (by simpa using h)
    have e : fcells (y :: r) = .string y.1 :: .int .i64 y.2.1 :: .slice y.2.2.1 y.2.2.2.1 y.2.2.2.2 :: fcells r := rfl
    rw [e, show (j + 1) * 3 = j * 3 + 1 + 1 + 1 by omega]
    exact ih
theorem addr_add (k o j : Nat) : (⟨k, o, none⟩ : Addr).add j = ⟨k, o + j, none⟩ := by
  unfold Addr.add
  split
  · next h => subst h; rfl
  · rfl
def Sr (w : World) (v : Value) (d : List Fv) : Prop := (d = [] ∧ ∃ c, v = .slice none 0 c) ∨ ∃ k o c, v = .slice (some ⟨k, o, none⟩) d.length c ∧ d.length ≤ c ∧ ∀ j u, (fcells d)[j]? = some u → w.cell? ⟨k, o + j, none⟩ = some u
set_option maxHeartbeats 2000000 in
theorem clone_any (v : Value) (d : List Fv) (w : World) (h : Sr w v d) (hn : d.length ≤ 1000) : Calls Tryz.prog 127 #[v] w fun e w' => ∃ v', e = .returned v' ∧ w'.ownsRow w.heap.size 153 3 v' d.length (fcells d) ∧ Since w w' := by
  rcases h with ⟨rfl, c, rfl⟩ | ⟨k, o, c, rfl, hc, hcell⟩
  · have hq := fun w' => Lib.run_eql_slice_nil (P := Tryz.prog) w' 52 153 none 0 c 0 0 Tryz.underlying52
    go_enter Tryz.func127, Tryz.ntmps127
    go_wp2_with fail
    go_ret
    exact ⟨_, rfl, World.ownsRow_nil _ _ _ _, Since.refl _⟩
  · obtain ⟨i0, hi, hz0, hz1, hz2⟩ := info_parts En.infoF
    have HN : Hid (d.length ≤ 1000) := hn
    have HC : Hid (d.length ≤ c) := hc
    have hown0 : (w.alloc (.cells #[] 153)).ownsRow w.heap.size 153 3 (.slice (some ⟨w.heap.size, 0, none⟩) 0 0) 0 [] := World.ownsRow_made w #[] 0 (Nat.le_refl _) (by simp [maxLen]) rfl
    have hnews : ∀ j u, (fcells d)[j]? = some u → (w.alloc (.cells #[] 153)).cell? ((⟨k, o, none⟩ : Addr).add j) = some u := fun j u hj => ((((Since.refl w).alloc (.cells #[] 153)).cell (p := (⟨k, o, none⟩ : Addr).add j) (by rw [addr_add]; exact World.block_lt_of_cell? w _ (hcell j u hj))).trans (by rw [addr_add]; exact hcell j u hj))
    have hl := fcells_len d
    have h1 := fcells_one d
    have hb63 : 0 + d.length ≤ maxLen := by unfold maxLen; omega
    have hbb : (0 + d.length) * 48 ≤ 140737488355328 := by omega
    have hbase : w.heap.size ≤ (w.alloc (.cells #[] 153)).heap.size := by simp
    have HH : Hid (_ ∧ _ ∧ _ ∧ _ ∧ _ ∧ _ ∧ _ ∧ _ ∧ _ ∧ _ ∧ _) := ⟨hi, hz0, hz1, hz2, hown0, hl, hnews, h1, hb63, hbb, hbase⟩
    have hq := fun w' => Lib.run_eql_slice_nil (P := Tryz.prog) w' 52 153 (some ⟨k, o, none⟩) d.length c 0 0 Tryz.underlying52
    clear hi hz0 hz1 hz2 hown0 hl hnews h1 hb63 hbb hbase hn hc hcell
    go_enter Tryz.func127, Tryz.ntmps127
    go_wp2_with (at_builtin; refine wpList_append_own _ (by rfl) _ _ 52 (by rfl) w.heap.size 153 i0 _ 3 48 Tryz.underlying52 HH.out.1 HH.out.2.1 HH.out.2.2.1 HH.out.2.2.2.1 (by rfl) (by decide) _ 0 [] (by rfl) HH.out.2.2.2.2.1 ⟨k, o, none⟩ d.length c (fcells d) (by rfl) HH.out.2.2.2.2.2.1 HH.out.2.2.2.2.2.2.1 HH.out.2.2.2.2.2.2.2.1 HH.out.2.2.2.2.2.2.2.2.1 HH.out.2.2.2.2.2.2.2.2.2.1 HH.out.2.2.2.2.2.2.2.2.2.2 ?_; intro v' w' hown hgrow _)
    have HO : Hid (w'.ownsRow w.heap.size 153 3 v' (0 + d.length) ([] ++ fcells d)) := hown
    have HS : Hid (Since w w') := ((Since.refl w).alloc _).grown hgrow (fun k hk => by simp [Value.ownBlock] at hk; omega)
    clear hown hgrow
    go_wp2_with fail
    go_ret
    refine ⟨_, rfl, ?_, HS.out⟩
    have := HO.out
    rw [Nat.zero_add, List.nil_append] at this
    exact this
end Fl
end Go.Proofs.YtlgocfgnfdnloaaGreatDoor
end
section
namespace Go.Proofs.YtlgocfgnfdnloaaGreatDoor
set_option maxRecDepth 100000
namespace Fl
open Go.RowKit Go.Sort Go.Shelf
open En (Fi Fls Ints fval Row)
open Vl (Fs)
theorem own_over {base e size n cap g : Nat} {xs : List Value} : ∀ (vs : List Value) (w : World) (o : Nat), xs.length ≤ o → w.ownsRow base e size (.slice (some ⟨g, 0, none⟩) n cap) n xs → (w.setCells g o vs).ownsRow base e size (.slice (some ⟨g, 0, none⟩) n cap) n xs
  | [], w, o, _, h => h
  | v :: r, w, o, ho, h => by
    have h1 := (h.stored o v).1
    rw [List.set_eq_of_length_le ho] at h1
    exact own_over r _ (o + 1) (by omega) h1
theorem own_cut {base e size n i cap g : Nat} {w : World} {xs : List Value} (h : w.ownsRow base e size (.slice (some ⟨g, 0, none⟩) n cap) n xs) (hi : i ≤ n) : w.ownsRow base e size (.slice (some ⟨g, 0, none⟩) i cap) i (xs.take (i * size)) := by
  obtain ⟨h1, h2⟩ := h
  have hle := Nat.mul_le_mul_right size hi
  refine ⟨by rw [List.length_take, h1]; omega, ?_⟩
  rcases h2 with ⟨h', _⟩ | ⟨g', cap', cur, h', hb, hg, hnc, hcm, hcs, htake⟩
  · simp at h'
  · simp only [Value.slice.injEq, Option.some.injEq, Addr.mk.injEq, and_true, true_and] at h'
    obtain ⟨rfl, rfl⟩ := h'
    refine .inr ⟨g, cap, cur, rfl, hb, hg, by omega, hcm, hcs, ?_⟩
    rw [← htake, List.take_take, Nat.min_eq_left hle]
theorem since_sets {w0 : World} {g : Nat} (hg : w0.heap.size ≤ g) : ∀ (vs : List Value) (w : World) (o : Nat), Since w0 w → Since w0 (w.setCells g o vs)
  | [], w, o, h => h
  | v :: r, w, o, h => since_sets hg r _ (o + 1) (h.setCell (p := ⟨g, o, none⟩) hg v)
theorem fcells_set : ∀ (d : List Fv) (i : Nat) (x : Fv), fcells (d.set i x) = (((fcells d).set (i * 3) (.string x.1)).set (i * 3 + 1) (.int .i64 x.2.1)).set (i * 3 + 2) (.slice x.2.2.1 x.2.2.2.1 x.2.2.2.2)
  | [], i, x => by simp [fcells]
  | y :: r, 0, x => rfl
  | y :: r, i + 1, x => by
    have ih := fcells_set r i x
    have e : fcells (y :: r) = .string y.1 :: .int .i64 y.2.1 :: .slice y.2.2.1 y.2.2.2.1 y.2.2.2.2 :: fcells r := rfl
    have e2 : fcells ((y :: r).set (i + 1) x) = .string y.1 :: .int .i64 y.2.1 :: .slice y.2.2.1 y.2.2.2.1 y.2.2.2.2 :: fcells (r.set i x) := rfl
    rw [e, e2, ih, show (i + 1) * 3 = i * 3 + 1 + 1 + 1 by omega]
    rfl
theorem fcells_take : ∀ (d : List Fv) (i : Nat), (fcells d).take (i * 3) = fcells (d.take i)
  | [], i => by simp [fcells]
  | y :: r, 0 => by simp [fcells]
  | y :: r, i + 1 => by
    have ih := fcells_take r i
    have e : fcells (y :: r) = .string y.1 :: .int .i64 y.2.1 :: .slice y.2.2.1 y.2.2.2.1 y.2.2.2.2 :: fcells r := rfl
    rw [e, show (i + 1) * 3 = i * 3 + 1 + 1 + 1 by omega, List.take_succ_cons, List.take_succ_cons, List.take_succ_cons, ih]
    rfl
theorem own_put {w : World} {base g n cap : Nat} {d : List Fv} (h : w.ownsRow base 153 3 (.slice (some ⟨g, 0, none⟩) n cap) n (fcells d)) (i : Nat) (x : Fv) :
    (((w.setCell ⟨g, i * 3, none⟩ (.string x.1)).setCell ⟨g, i * 3 + 1, none⟩ (.int .i64 x.2.1)).setCell ⟨g, i * 3 + 2, none⟩ (.slice x.2.2.1 x.2.2.2.1 x.2.2.2.2)).ownsRow base 153 3 (.slice (some ⟨g, 0, none⟩) n cap) n (fcells (d.set i x)) := by
  rw [fcells_set]
  exact ((((h.stored (i * 3) _).1.stored (i * 3 + 1) _).1).stored (i * 3 + 2) _).1
theorem zeroF : ∀ w : World, (zeroValue 153).run Tryz.prog w = .ok (.agg #[.string ByteArray.empty, .int .i64 0, .slice none 0 0]) w := by
  obtain ⟨i0, hi, hz0, hz1, hz2⟩ := info_parts En.infoF
  intro w
  simp [zeroValue, typeInfo, hi, hz0]
theorem clear_run (w : World) (ty : TypeId) (b o n c : Nat) (hc : ∀ j, j < n * 3 → (w.cell? ⟨b, o + j, none⟩).isSome = true) (hf : ∀ j, j < n * 3 → w.frozen? ⟨b, o + j, none⟩ = false) :
    ∃ Z : List Value, (Builtin.clear_ #[52] ty #[.slice (some ⟨b, o, none⟩) n c]).run Tryz.prog w = .ok (.tuple #[]) (w.setCells b o Z) := by
  rcases Nat.eq_zero_or_pos n with rfl | hn
  · exact ⟨[], by simp [Builtin.clear_, run_underlying Tryz.underlying52, World.setCells]⟩
  · refine ⟨(Builtin.zeroCells (Value.agg #[.string ByteArray.empty, .int .i64 0, .slice none 0 0]).cells n).toList, ?_⟩
    have hlen : (Builtin.zeroCells (Value.agg #[.string ByteArray.empty, .int .i64 0, .slice none 0 0]).cells n).toList.length = n * 3 := by
      rw [Array.length_toList, size_zeroCells]; rfl
    have hst := run_storeCells_cells (P := Tryz.prog) b o (Builtin.zeroCells (Value.agg #[.string ByteArray.empty, .int .i64 0, .slice none 0 0]).cells n).toList 0 w (by rw [hlen]; simpa using hc) (by rw [hlen]; simpa using hf) (by
      intro v hv
      simp only [Builtin.zeroCells, Array.toList_map, List.mem_map] at hv
      obtain ⟨t, _, rfl⟩ := hv
      have h3 : t % 3 = 0 ∨ t % 3 = 1 ∨ t % 3 = 2 := by omega
      show ((#[Value.string ByteArray.empty, .int .i64 0, .slice none 0 0] : Array Value)[t % 3]!).oneCell' = true
      rcases h3 with h | h | h <;> rw [h] <;> rfl)
    simp only [Nat.add_zero] at hst
    obtain ⟨m, rfl⟩ : ∃ m, n = m + 1 := ⟨n - 1, by omega⟩
    have hz := zeroF
    clear hlen
    generalize (Value.agg #[.string ByteArray.empty, .int .i64 0, .slice none 0 0]) = z at *
    simp [Builtin.clear_, run_underlying Tryz.underlying52, hz, hst]
end Fl
end Go.Proofs.YtlgocfgnfdnloaaGreatDoor
end
section
namespace Go.Proofs.YtlgocfgnfdnloaaGreatDoor
set_option maxRecDepth 100000
namespace Fl
open Go.RowKit Go.Sort Go.Shelf
open En (Fi Fls Ints fval Row)
open Vl (Fs)
def keepB (s : ByteArray) (x : Fv) : Bool := !decide (x.1 = s)
structure DelI (w0 wr : World) (d : List Fv) (g cap b : Nat) (s : ByteArray) (i j : Nat) (D : List Fv) : Prop where
  lt : i < j
  le : j ≤ d.length
  len : D.length = d.length
  low : D.take i = (d.take j).filter (keepB s)
  high : D.drop j = d.drop j
  own : wr.ownsRow w0.heap.size 153 3 (.slice (some ⟨g, 0, none⟩) d.length cap) d.length (fcells D)
  since : Since w0 wr
  box : wr.cell? ⟨b, 0, none⟩ = some (.string s)
theorem own_cells {w : World} {base g n cap : Nat} {D : List Fv} (h : w.ownsRow base 153 3 (.slice (some ⟨g, 0, none⟩) n cap) n (fcells D)) {j : Nat} {x : Fv} (hx : D[j]? = some x) (hj : j < n) :
    w.cell? ⟨g, j * 3, none⟩ = some (.string x.1) ∧ w.cell? ⟨g, j * 3 + 1, none⟩ = some (.int .i64 x.2.1) ∧ w.cell? ⟨g, j * 3 + 2, none⟩ = some (.slice x.2.2.1 x.2.2.2.1 x.2.2.2.2) := by
  obtain ⟨e1, e2, e3⟩ := fcells_get D j x hx
  have c := fun i hi => h.cellAt i hi
  exact ⟨(c _ (by omega)).trans e1, (c _ (by omega)).trans e2, (c _ (by omega)).trans e3⟩
theorem cell_setCell_far (w : World) (g o : Nat) (v : Value) {b : Nat} (h : b ≠ g) : (w.setCell ⟨g, o, none⟩ v).cell? ⟨b, 0, none⟩ = w.cell? ⟨b, 0, none⟩ :=
  World.cell?_of_block (heap_setCell_other w ⟨g, o, none⟩ b v (fun e => h e))
theorem take_filter_succ {d : List Fv} {j : Nat} {x : Fv} {p : Fv → Bool} (h : d[j]? = some x) : (d.take (j + 1)).filter p = (d.take j).filter p ++ (if p x then [x] else []) := by
  rw [List.take_add_one, h, List.filter_append]
  cases hp : p x <;> simp [hp]
set_option maxHeartbeats 4000000 in
theorem del_any (w0 w : World) (d : List Fv) (l : List Fi) (g cap : Nat) (s : ByteArray) (b : Nat)
    (hown : w.ownsRow w0.heap.size 153 3 (.slice (some ⟨g, 0, none⟩) d.length cap) d.length (fcells d))
    (hl : Fls w (.slice (some ⟨g, 0, none⟩) d.length cap) l) (hlen : l.length = d.length) (hnm : ∀ (j : Nat) (f : Fi) (x : Fv), l[j]? = some f → d[j]? = some x → f.nm = x.1)
    (hb : w.cell? ⟨b, 0, none⟩ = some (.string s)) (hbg : b ≠ g) (hS : Since w0 w) (hn : d.length ≤ 1000) :
    Calls Tryz.prog 126 #[.slice (some ⟨g, 0, none⟩) d.length cap, .func (.func 141) #[] #[.pointer (some ⟨b, 0, none⟩)]] w fun e w' => ∃ i, i = (d.filter (keepB s)).length ∧ e = .returned (.slice (some ⟨g, 0, none⟩) i cap) ∧ w'.ownsRow w0.heap.size 153 3 (.slice (some ⟨g, 0, none⟩) i cap) i (fcells (d.filter (keepB s))) ∧ Since w0 w' := by
  have hidx := IFn_any l _ s b w hl hb (by omega)
  have hcap : d.length ≤ cap := by
    rcases hown.2 with ⟨h', _⟩ | ⟨g', cap', cur, h', _, _, hnc, _⟩
    · simp at h'
    · simp only [Value.slice.injEq, Option.some.injEq, Addr.mk.injEq, and_true, true_and] at h'
      obtain ⟨_, rfl⟩ := h'
      exact hnc
  have hbase : w0.heap.size ≤ g := (hown.lt g rfl).1
  have HX : Hid (Calls Tryz.prog 101 #[.slice (some ⟨g, 0, none⟩) d.length cap, .func (.func 141) #[] #[.pointer (some ⟨b, 0, none⟩)]] w fun e w' => (∃ i : Int, e = .returned (.int .i64 i) ∧ ((∃ k : Nat, i = k ∧ k < l.length ∧ (∃ f, l[k]? = some f ∧ f.nm = s) ∧ ∀ j f, j < k → l[j]? = some f → ¬ f.nm = s) ∨ (i = -1 ∧ ∀ f ∈ l, ¬ f.nm = s))) ∧ Since w w') := hidx
  have HW : Hid (w.ownsRow w0.heap.size 153 3 (.slice (some ⟨g, 0, none⟩) d.length cap) d.length (fcells d) ∧ (l.length = d.length ∧ ∀ (j : Nat) (f : Fi) (x : Fv), l[j]? = some f → d[j]? = some x → f.nm = x.1) ∧ (w.cell? ⟨b, 0, none⟩ = some (.string s) ∧ b ≠ g) ∧ Since w0 w) := ⟨hown, ⟨hlen, hnm⟩, ⟨hb, hbg⟩, hS⟩
  have heg := calledF_enters
  clear hidx hown hl hnm hb hS
  go_enter Tryz.func126, Tryz.ntmps126
  go_wp2_with fail
  refine HX.out.mono ?_
  rintro e w1 ⟨⟨i, rfl, hi⟩, h1⟩
  have HO1 : Hid (w1.ownsRow w0.heap.size 153 3 (.slice (some ⟨g, 0, none⟩) d.length cap) d.length (fcells d)) := En.owns_since HW.out.1 h1
  have HS1 : Hid (Since w0 w1) := HW.out.2.2.2.trans h1
  have HB1 : Hid (w1.cell? ⟨b, 0, none⟩ = some (.string s)) := (h1.cell (p := ⟨b, 0, none⟩) (World.block_lt_of_cell? w _ HW.out.2.2.1.1)).trans HW.out.2.2.1.1
  clear h1
  rcases hi with ⟨k, rfl, hk, ⟨f, hf, hfs⟩, hno⟩ | ⟨rfl, hno⟩
  · have hne : ((k : Int) == -1) = false := beq_false_of_ne (by omega)
    have HST : Hid (DelI w0 w1 d g cap b s k (k + 1) d) := by
      refine ⟨by omega, by omega, rfl, ?_, rfl, HO1.out, HS1.out, HB1.out⟩
      have hkd : k < d.length := by omega
      have hx : d[k]? = some d[k] := List.getElem?_eq_getElem hkd
      have hkk : keepB s d[k] = false := by
        unfold keepB
        rw [← HW.out.2.1.2 k f _ hf hx, hfs]
        simp
      rw [take_filter_succ hx, hkk]
      have hall : (d.take k).filter (keepB s) = d.take k := by
        refine List.filter_eq_self.2 fun y hy => ?_
        obtain ⟨t, ht, rfl⟩ := List.getElem_of_mem hy
        have htk : t < k := by rw [List.length_take] at ht; omega
        have hlt : t < l.length := by omega
        have h1 := hno t l[t] htk (List.getElem?_eq_getElem hlt)
        have h2 := HW.out.2.1.2 t l[t] d[t] (List.getElem?_eq_getElem hlt) (List.getElem?_eq_getElem (by omega))
        unfold keepB
        rw [List.getElem_take, ← h2]
        simp [h1]
      rw [hall]
      simp
    clear hf hfs hno
    go_wp2_with fail
    go_loopw [5, 6] (fun iv jv wr => ∃ (i j : Nat) (D : List Fv), iv = .int .i64 i ∧ jv = .int .i64 j ∧ DelI w0 wr d g cap b s i j D) (fun _ jv _ => d.length - (intOf jv).toNat)
    case atStart => exact ⟨k, k + 1, d, rfl, by go_num, HST.out⟩
    case round =>
      obtain ⟨i, j, D, rfl, rfl, hD⟩ := hrel
      have HD : Hid (DelI w0 wr d g cap b s i j D) := hD
      have hij := hD.lt
      have hjn := hD.le
      clear hD hne HST
      by_cases hlt : j < d.length
      · have hlt2 : (j : Int) < d.length := by omega
        have hxe : D[j]? = some d[j] := by
          have h1 : (D.drop j)[0]? = (d.drop j)[0]? := by rw [HD.out.high]
          rw [List.getElem?_drop, List.getElem?_drop, Nat.add_zero] at h1
          rw [h1]; exact List.getElem?_eq_getElem hlt
        have hde : Hid (d[j]? = some d[j]) := List.getElem?_eq_getElem hlt
        generalize d[j] = x at *
        have HXE : Hid (D[j]? = some x) := hxe
        obtain ⟨nm, sz, a, n1, c1⟩ := x
        obtain ⟨p0, p1, p2⟩ := own_cells HD.out.own hxe hlt
        clear hxe
        simp only at p0 p1 p2
        have hcl := calledF_any ⟨nm, sz, []⟩ a n1 c1 s b (wr.alloc (.cells #[.string nm, .int .i64 sz, .slice a n1 c1] 153)) ((((Since.refl wr).alloc _).cell (p := ⟨b, 0, none⟩) (World.block_lt_of_cell? wr _ HD.out.box)).trans HD.out.box)
        have HCL : Hid (Calls Tryz.prog 141 #[.agg #[.string nm, .int .i64 sz, .slice a n1 c1], .pointer (some ⟨b, 0, none⟩)] (wr.alloc (.cells #[.string nm, .int .i64 sz, .slice a n1 c1] 153)) fun e w' => e = .returned (.bool (decide (nm = s))) ∧ Since (wr.alloc (.cells #[.string nm, .int .i64 sz, .slice a n1 c1] 153)) w') := hcl
        clear hcl
        go_wp2_with fail
        refine HCL.out.mono ?_
        rintro e w2 ⟨rfl, h2⟩
        have hs2 : Since wr w2 := ((Since.refl wr).alloc _).trans h2
        have HO2 : Hid (w2.ownsRow w0.heap.size 153 3 (.slice (some ⟨g, 0, none⟩) d.length cap) d.length (fcells D)) := En.owns_since HD.out.own hs2
        have HS2 : Hid (Since w0 w2) := HD.out.since.trans hs2
        have HB2 : Hid (w2.cell? ⟨b, 0, none⟩ = some (.string s)) := (hs2.cell (p := ⟨b, 0, none⟩) (World.block_lt_of_cell? wr _ HD.out.box)).trans HD.out.box
        have nb := heap_alloc_new wr (.cells #[.string nm, .int .i64 sz, .slice a n1 c1] 153)
        have nb2 : w2.heap[wr.heap.size]? = some (.cells #[.string nm, .int .i64 sz, .slice a n1 c1] 153) := (h2.block _ (by simp)).trans nb
        have q0 : w2.cell? ⟨wr.heap.size, 0, none⟩ = some (.string nm) := by simp [World.cell?, nb2]
        have q1 : w2.cell? ⟨wr.heap.size, 1, none⟩ = some (.int .i64 sz) := by simp [World.cell?, nb2]
        have q2 : w2.cell? ⟨wr.heap.size, 2, none⟩ = some (.slice a n1 c1) := by simp [World.cell?, nb2]
        have hgl : g < wr.heap.size := (HD.out.own.lt g rfl).2
        clear nb nb2 hs2 h2 p0 p1 p2
        by_cases e : nm = s
        · have hd : decide (nm = s) = true := decide_eq_true e
          have hke : keepB s (nm, sz, a, n1, c1) = false := by unfold keepB; simp [e]
          have HEE : Hid (keepB s (nm, sz, a, n1, c1) = false) := hke
          clear hke
          rw [hd]
          clear e hd
          go_wp2_with fail
          go_roundw
          case rel =>
            refine ⟨i, j + 1, D, rfl, by go_num, ⟨by omega, by omega, HD.out.len, ?_, ?_, HO2.out, HS2.out, HB2.out⟩⟩
            · rw [HD.out.low, take_filter_succ hde.out, HEE.out]; simp
            · rw [← List.drop_drop, HD.out.high, List.drop_drop]
          case measure => simp [intOf]; omega
        · have hd : decide (nm = s) = false := decide_eq_false e
          have hke : keepB s (nm, sz, a, n1, c1) = true := by unfold keepB; simp [e]
          have HEE : Hid (keepB s (nm, sz, a, n1, c1) = true) := hke
          clear hke
          rw [hd]
          clear e hd
          have hil : i < D.length := by rw [HD.out.len]; omega
          obtain ⟨r0, r1, r2⟩ := own_cells HO2.out (List.getElem?_eq_getElem hil) (by omega)
          have f0 := HO2.out.frozenAt (i * 3)
          have f1 := HO2.out.frozenAt (i * 3 + 1)
          have f2 := HO2.out.frozenAt (i * 3 + 2)
          have HP : Hid ((((w2.setCell ⟨g, i * 3, none⟩ (.string nm)).setCell ⟨g, i * 3 + 1, none⟩ (.int .i64 sz)).setCell ⟨g, i * 3 + 2, none⟩ (.slice a n1 c1)).ownsRow w0.heap.size 153 3 (.slice (some ⟨g, 0, none⟩) d.length cap) d.length (fcells (D.set i (nm, sz, a, n1, c1)))) := own_put HO2.out i (nm, sz, a, n1, c1)
          have HPS : Hid (Since w0 (((w2.setCell ⟨g, i * 3, none⟩ (.string nm)).setCell ⟨g, i * 3 + 1, none⟩ (.int .i64 sz)).setCell ⟨g, i * 3 + 2, none⟩ (.slice a n1 c1))) := ((HS2.out.setCell (p := ⟨g, i * 3, none⟩) hbase _).setCell (p := ⟨g, i * 3 + 1, none⟩) hbase _).setCell (p := ⟨g, i * 3 + 2, none⟩) hbase _
          have HPB : Hid ((((w2.setCell ⟨g, i * 3, none⟩ (.string nm)).setCell ⟨g, i * 3 + 1, none⟩ (.int .i64 sz)).setCell ⟨g, i * 3 + 2, none⟩ (.slice a n1 c1)).cell? ⟨b, 0, none⟩ = some (.string s)) := by
            rw [cell_setCell_far _ _ _ _ hbg, cell_setCell_far _ _ _ _ hbg, cell_setCell_far _ _ _ _ hbg]
            exact HB2.out
          go_wp2_with fail
          refine ⟨⟨i + 1, j + 1, D.set i (nm, sz, a, n1, c1), by go_num, by go_num, ⟨by omega, by omega, by rw [List.length_set]; exact HD.out.len, ?_, ?_, HP.out, HPS.out, HPB.out⟩⟩, by simp [intOf]; omega⟩
          · rw [take_filter_succ hde.out, HEE.out, ← HD.out.low, List.take_add_one, List.take_set_of_le (Nat.le_refl i), List.getElem?_set_self hil]
            simp
          · rw [List.drop_set_of_lt (by omega), ← List.drop_drop, HD.out.high, List.drop_drop]
      · have hje : j = d.length := by omega
        subst hje
        obtain ⟨Z, hZ⟩ := clear_run wr 0 g (i * 3) (d.length - i) (cap - i) (fun t ht => by
          rw [HD.out.own.cellAt (i * 3 + t) (by omega), Option.isSome_iff_exists]
          exact ⟨_, List.getElem?_eq_getElem (by rw [fcells_len, HD.out.len]; omega)⟩) (fun t ht => HD.out.own.frozenAt (i * 3 + t))
        have hDi : (D.take i).length = i := by rw [List.length_take, HD.out.len]; omega
        have hlow : D.take i = d.filter (keepB s) := by rw [HD.out.low, List.take_length]
        have hfin : (wr.setCells g (i * 3) Z).ownsRow w0.heap.size 153 3 (.slice (some ⟨g, 0, none⟩) i cap) i (fcells (d.filter (keepB s))) := by
          have h1 := own_cut HD.out.own (i := i) (by omega)
          rw [fcells_take, hlow] at h1
          exact own_over Z wr (i * 3) (by rw [fcells_len, ← hlow, hDi]; exact Nat.le_refl _) h1
        have HF : Hid ((wr.setCells g (i * 3) Z).ownsRow w0.heap.size 153 3 (.slice (some ⟨g, 0, none⟩) i cap) i (fcells (d.filter (keepB s))) ∧ Since w0 (wr.setCells g (i * 3) Z) ∧ i = (d.filter (keepB s)).length) := ⟨hfin, since_sets hbase Z wr (i * 3) HD.out.since, by rw [← hlow, hDi]⟩
        clear hfin hlow hDi
        have hic : i ≤ cap := by omega
        generalize wr.setCells g (i * 3) Z = w5 at *
        go_wp2_with fail
        go_ret
        exact ⟨i, HF.out.2.2, rfl, HF.out.1, HF.out.2.1⟩
  · have hne : ((-1 : Int) == -1) = true := rfl
    have hall : d.filter (keepB s) = d := by
      refine List.filter_eq_self.2 fun y hy => ?_
      obtain ⟨t, ht, rfl⟩ := List.getElem_of_mem hy
      have hlt : t < l.length := by omega
      have h1 := hno l[t] (List.getElem_mem hlt)
      have h2 := HW.out.2.1.2 t l[t] d[t] (List.getElem?_eq_getElem hlt) (List.getElem?_eq_getElem ht)
      unfold keepB
      rw [← h2]
      simp [h1]
    have HALL : Hid (d.filter (keepB s) = d) := hall
    clear hall hno
    go_wp2_with fail
    go_ret
    refine ⟨d.length, by rw [HALL.out], rfl, ?_, HS1.out⟩
    rw [HALL.out]
    exact HO1.out
end Fl
end Go.Proofs.YtlgocfgnfdnloaaGreatDoor
end
section
namespace Go.Proofs.YtlgocfgnfdnloaaGreatDoor
set_option maxRecDepth 100000
namespace Fl
open Go.RowKit Go.Sort Go.Shelf
open En (Fi Fls Ints fval Row)
open Vl (Fs VP Vol Vto Vs)
structure Each (P : Nat → Prop) (w : World) (d : List Fv) (l : List Fi) : Prop where
  len : l.length = d.length
  each : ∀ (j : Nat) (f : Fi) (x : Fv), l[j]? = some f → d[j]? = some x → f.nm = x.1 ∧ f.sz = x.2.1 ∧ Ints w (.slice x.2.2.1 x.2.2.2.1 x.2.2.2.2) f.cs ∧ ∀ k o, x.2.2.1 = some ⟨k, o, none⟩ → k < w.heap.size ∧ ¬ P k
theorem ints_fs {P : Nat → Prop} {w w' : World} {a : Option Addr} {n c : Nat} {cs : List Int} (h : Ints w (.slice a n c) cs) (hf : Fs P w w') (hp : ∀ k o, a = some ⟨k, o, none⟩ → k < w.heap.size ∧ ¬ P k) : Ints w' (.slice a n c) cs := by
  obtain ⟨a1, c1, hv, hc, h⟩ := h
  refine ⟨a1, c1, hv, hc, fun hn => ?_⟩
  obtain ⟨k, o, ha, hk, hcell⟩ := h hn
  injection hv with e1 e2 e3
  have hk2 := hp k o (e1.trans ha)
  exact ⟨k, o, ha, Nat.lt_of_lt_of_le hk hf.size, fun j x hj => (hf.cell (p := ⟨k, o + j, none⟩) hk hk2.2).trans (hcell j x hj)⟩
theorem Each.fs {P P' : Nat → Prop} {w w' : World} {d : List Fv} {l : List Fi} (h : Each P w d l) (hf : Fs P w w') (hp : ∀ k, k < w.heap.size → ¬ P k → ¬ P' k) : Each P' w' d l := by
  refine ⟨h.len, fun j f x hj hx => ?_⟩
  obtain ⟨h1, h2, h3, h4⟩ := h.each j f x hj hx
  exact ⟨h1, h2, ints_fs h3 hf h4, fun k o e => ⟨Nat.lt_of_lt_of_le (h4 k o e).1 hf.size, hp k (h4 k o e).1 (h4 k o e).2⟩⟩
theorem Each.since {P : Nat → Prop} {w w' : World} {d : List Fv} {l : List Fi} (h : Each P w d l) (hs : Since w w') : Each P w' d l := h.fs (Fs.of_since hs) (fun _ _ h => h)
theorem Each.fls {P : Nat → Prop} {w : World} {d : List Fv} {l : List Fi} {base g cap : Nat} (h : Each P w d l) (ho : w.ownsRow base 153 3 (.slice (some ⟨g, 0, none⟩) d.length cap) d.length (fcells d)) : Fls w (.slice (some ⟨g, 0, none⟩) d.length cap) l := by
  have hcap : d.length ≤ cap := by
    rcases ho.2 with ⟨h', _⟩ | ⟨g', cap', cur, h', _, _, hnc, _⟩
    · simp at h'
    · simp only [Value.slice.injEq, Option.some.injEq, Addr.mk.injEq, and_true, true_and] at h'
      obtain ⟨_, rfl⟩ := h'
      exact hnc
  refine ⟨some ⟨g, 0, none⟩, cap, by rw [h.len], by rw [h.len]; exact hcap, fun _ => ⟨g, 0, rfl, (ho.lt g rfl).2, fun j f hj => ?_⟩⟩
  have hjl : j < d.length := by rw [← h.len]; exact (List.getElem?_eq_some_iff.1 hj).1
  obtain ⟨h1, h2, h3, h4⟩ := h.each j f d[j] hj (List.getElem?_eq_getElem hjl)
  obtain ⟨c0, c1, c2⟩ := own_cells ho (List.getElem?_eq_getElem hjl) hjl
  refine ⟨_, h3, ?_, ?_, ?_⟩
  · rw [Nat.zero_add, c0, h1]
  · rw [Nat.zero_add, c1, h2]
  · rw [Nat.zero_add, c2]
theorem own_sr {w : World} {base : Nat} {v : Value} {d : List Fv} (ho : w.ownsRow base 153 3 v d.length (fcells d)) : Sr w v d := by
  rcases ho.2 with ⟨h', h0⟩ | ⟨g', cap', cur, h', hb, hg, hnc, _⟩
  · exact .inl ⟨List.length_eq_zero_iff.1 h0, 0, h'⟩
  · subst h'
    refine .inr ⟨g', 0, cap', rfl, hnc, fun j u hj => ?_⟩
    rw [Nat.zero_add, ho.cellAt j (by rw [← fcells_len]; exact (List.getElem?_eq_some_iff.1 hj).1)]
    exact hj
theorem Each.filter {P : Nat → Prop} {w : World} (s : ByteArray) : ∀ {d : List Fv} {l : List Fi}, Each P w d l → Each P w (d.filter (keepB s)) (l.filter (fun f => !decide (f.nm = s)))
  | [], l, h => by
    have : l = [] := List.length_eq_zero_iff.1 h.len
    subst this
    exact h
  | x :: r, [], h => by have := h.len; simp at this
  | x :: r, f :: q, h => by
    have hr : Each P w r q := ⟨by have := h.len; simpa using this, fun j g y hj hy => h.each (j + 1) g y (by simpa using hj) (by simpa using hy)⟩
    have ih := Each.filter s hr
    have h0 := h.each 0 f x rfl rfl
    have e : (!decide (f.nm = s)) = keepB s x := by unfold keepB; rw [h0.1]
    cases hk : keepB s x with
    | false =>
      rw [hk] at e
      rw [List.filter_cons_of_neg (by rw [hk]; decide), List.filter_cons_of_neg (by rw [e]; decide)]
      exact ih
    | true =>
      rw [hk] at e
      rw [List.filter_cons_of_pos (by rw [hk]), List.filter_cons_of_pos (by rw [e])]
      refine ⟨by simp [ih.len], fun j g y hj hy => ?_⟩
      cases j with
      | zero =>
        simp at hj hy
        subst hj hy
        exact h0
      | succ j => exact ih.each j g y (by simpa using hj) (by simpa using hy)
theorem del_nil (w : World) (s : ByteArray) (b : Nat) (hb : w.cell? ⟨b, 0, none⟩ = some (.string s)) : Calls Tryz.prog 126 #[.slice none 0 0, .func (.func 141) #[] #[.pointer (some ⟨b, 0, none⟩)]] w fun e w' => e = .returned (.slice none 0 0) ∧ Since w w' := by
  have hidx := IFn_any [] (.slice none 0 0) s b w ⟨none, 0, rfl, Nat.le_refl _, fun h => by simp at h⟩ hb (by simp)
  have HX : Hid (Calls Tryz.prog 101 #[.slice none 0 0, .func (.func 141) #[] #[.pointer (some ⟨b, 0, none⟩)]] w fun e w' => (∃ i : Int, e = .returned (.int .i64 i) ∧ ((∃ k : Nat, i = k ∧ k < ([] : List Fi).length ∧ (∃ f, ([] : List Fi)[k]? = some f ∧ f.nm = s) ∧ ∀ j f, j < k → ([] : List Fi)[j]? = some f → ¬ f.nm = s) ∨ (i = -1 ∧ ∀ f ∈ ([] : List Fi), ¬ f.nm = s))) ∧ Since w w') := hidx
  clear hidx hb
  go_enter Tryz.func126, Tryz.ntmps126
  go_wp2_with fail
  refine HX.out.mono ?_
  rintro e w1 ⟨⟨i, rfl, hi⟩, h1⟩
  rcases hi with ⟨k, rfl, hk, _⟩ | ⟨rfl, hno⟩
  · simp at hk
  · have HS : Hid (Since w w1) := h1
    clear h1 hno
    go_wp2_with fail
    go_ret
    exact ⟨rfl, HS.out⟩
set_option maxHeartbeats 2000000 in
theorem without_any (P : Nat → Prop) (w : World) (fb : Nat) (lv : Value) (d : List Fv) (l : List Fi) (s : ByteArray) (h1 : w.cell? ⟨fb, 1, none⟩ = some lv) (hs : Sr w lv d) (he : Each P w d l) (hn : d.length ≤ 1000) :
    Calls Tryz.prog 62 #[.pointer (some ⟨fb, 0, none⟩), .string s] w fun e w' => ∃ v', e = .returned v' ∧ w'.ownsRow w.heap.size 153 3 v' (d.filter (keepB s)).length (fcells (d.filter (keepB s))) ∧ Since w w' ∧ (v' = .slice none 0 0 → d = []) := by
  have HC : Hid (Calls Tryz.prog 127 #[lv] w fun e w' => ∃ v', e = .returned v' ∧ w'.ownsRow w.heap.size 153 3 v' d.length (fcells d) ∧ Since w w') := clone_any lv d w hs hn
  have HE : Hid (Each P w d l) := he
  have HN : Hid (d.length ≤ 1000) := hn
  obtain ⟨la, ln, lc, rfl⟩ : ∃ a n c, lv = .slice a n c := by
    rcases hs with ⟨_, c, rfl⟩ | ⟨k, o, c, rfl, _⟩
    · exact ⟨_, _, _, rfl⟩
    · exact ⟨_, _, _, rfl⟩
  clear hs he hn
  go_enter Tryz.func62, Tryz.ntmps62
  go_wp2_with fail
  refine HC.out.mono ?_
  rintro e w1 ⟨v1, rfl, ho, hs1⟩
  have hbx : (w1.alloc (.cells #[.string s] 9)).cell? ⟨w1.heap.size, 0, none⟩ = some (.string s) := by
    have hgen : ∀ W : World, W.heap[w1.heap.size]? = some (.cells #[.string s] 9) → W.cell? ⟨w1.heap.size, 0, none⟩ = some (.string s) := fun W hW => by simp [World.cell?, hW]
    exact hgen _ (heap_alloc_new w1 _)
  have hs2 : Since w1 (w1.alloc (.cells #[.string s] 9)) := (Since.refl w1).alloc _
  rcases ho.2 with ⟨h', h0⟩ | ⟨g, cap, cur, h', hb, hg, hnc, _⟩
  · subst h'
    have hd0 := List.length_eq_zero_iff.1 h0
    have HD0 : Hid (d = []) := hd0
    have HDL : Hid (Calls Tryz.prog 126 #[.slice none 0 0, .func (.func 141) #[] #[.pointer (some ⟨w1.heap.size, 0, none⟩)]] (w1.alloc (.cells #[.string s] 9)) fun e w' => e = .returned (.slice none 0 0) ∧ Since (w1.alloc (.cells #[.string s] 9)) w') := del_nil _ s w1.heap.size hbx
    have HS2 : Hid (Since w (w1.alloc (.cells #[.string s] 9))) := hs1.trans hs2
    clear ho h0 hd0 hbx hs1 hs2
    go_wp2_with fail
    refine (called_any s w1).mono ?_
    rintro e w2 ⟨rfl, rfl⟩
    go_wp2_with fail
    refine HDL.out.mono ?_
    rintro e w3 ⟨rfl, hs3⟩
    have HS3 : Hid (Since w w3) := HS2.out.trans hs3
    clear hs3
    go_wp2_with fail
    go_ret
    refine ⟨_, rfl, ?_, HS3.out, fun _ => HD0.out⟩
    rw [HD0.out]
    exact World.ownsRow_nil _ _ _ _
  · subst h'
    have hgl : g < w1.heap.size := (ho.lt g rfl).2
    have ho2 := En.owns_since ho hs2
    have he2 := (HE.out.since hs1).since hs2
    have HDL : Hid (Calls Tryz.prog 126 #[.slice (some ⟨g, 0, none⟩) d.length cap, .func (.func 141) #[] #[.pointer (some ⟨w1.heap.size, 0, none⟩)]] (w1.alloc (.cells #[.string s] 9)) fun e w' => ∃ i, i = (d.filter (keepB s)).length ∧ e = .returned (.slice (some ⟨g, 0, none⟩) i cap) ∧ w'.ownsRow w.heap.size 153 3 (.slice (some ⟨g, 0, none⟩) i cap) i (fcells (d.filter (keepB s))) ∧ Since w w') :=
      del_any w _ d l g cap s w1.heap.size ho2 (he2.fls ho2) HE.out.len (fun j f x hj hx => (HE.out.each j f x hj hx).1) hbx (by omega) (hs1.trans hs2) HN.out
    clear ho hbx hs1 hs2 he2 ho2 hb hg hnc hgl
    go_wp2_with fail
    refine (called_any s w1).mono ?_
    rintro e w2 ⟨rfl, rfl⟩
    go_wp2_with fail
    refine HDL.out.mono ?_
    rintro e w3 ⟨i, hi, rfl, ho3, hs3⟩
    have HF : Hid (i = (d.filter (keepB s)).length ∧ w3.ownsRow w.heap.size 153 3 (.slice (some ⟨g, 0, none⟩) i cap) i (fcells (d.filter (keepB s))) ∧ Since w w3) := ⟨hi, ho3, hs3⟩
    clear hi ho3 hs3
    go_wp2_with fail
    go_ret
    refine ⟨_, rfl, ?_, HF.out.2.2, fun e => by simp at e⟩
    have := HF.out.2.1
    rw [HF.out.1] at this ⊢
    exact this
end Fl
end Go.Proofs.YtlgocfgnfdnloaaGreatDoor
end
