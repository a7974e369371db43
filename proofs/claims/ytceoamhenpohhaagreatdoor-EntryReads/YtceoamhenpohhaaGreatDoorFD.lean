/- The reference's Parse. -/
import Derived.Test.YtceoamhenpohhaaGreatDoorFC
import Derived.Test.YtceoamhenpohhaaGreatDoorEJ
namespace Go.Proofs.YtceoamhenpohhaaGreatDoor
set_option linter.unusedSimpArgs false
set_option linter.unusedVariables false
set_option maxRecDepth 100000
namespace En
open Go.RowKit
theorem celGrown {w w2 : World} {b n : Nat} {g : Option Nat} {f : Nat → Value} (h : Cel w b n f) (hn : 0 < n) (hg : w.grownBy w2 g) (hne : some b ≠ g) : Cel w2 b n f :=
  ⟨fun j hj => by
      have hc := h.cell j hj
      rw [World.cell?_of_block (w := w) (a := ⟨b, j, none⟩) (hg.block b (World.block_lt_of_cell? w _ hc) hne)]
      exact hc, fun j hj => by
      have hc := h.cell j hj
      rw [World.frozen?_of_block (w := w) (a := ⟨b, j, none⟩) (hg.block b (World.block_lt_of_cell? w _ hc) hne)]
      exact h.frozen j hj⟩
theorem grownBy_set (W : World) (b o : Nat) (v : Value) : W.grownBy (W.setCell ⟨b, o, none⟩ v) (some b) :=
  ⟨rfl, rfl, rfl, by simp [World.setCell], fun k _ hk => Below.heap_setCell _ _ _ k (fun e => hk (by rw [e]))⟩
theorem ints_row {W : World} {b : Nat} {v : Value} {L : List Int} {n : Nat} (hn : L.length = n) (h : W.ownsRow b 3 1 v n (ivals L)) : Ints W v L ∧ ∀ k o n c, v = .slice (some ⟨k, o, none⟩) n c → ∃ cur fz, W.heap[k]? = some (.cells cur 3 fz) := by
  subst hn
  rcases h.2 with ⟨hv, h0⟩ | ⟨g, cap, cur, hv, hb, hg, hc, hm, hs, ht⟩
  · obtain rfl := List.length_eq_zero_iff.1 h0
    refine ⟨⟨none, 0, hv, Nat.le_refl _, fun h => by simp at h⟩, fun k o n c e => ?_⟩
    rw [hv] at e
    cases e
  · subst hv
    refine ⟨⟨some ⟨g, 0, none⟩, cap, rfl, hc, fun _ => ⟨g, 0, rfl, heap_lt hg, fun j x hj => ?_⟩⟩, fun k o n c e => ?_⟩
    · have hj2 := (List.getElem?_eq_some_iff.1 hj).1
      rw [Nat.zero_add, h.cellAt j (by omega)]
      simp [ivals, hj]
    · injection e with e
      injection e with e
      injection e with e
      subst e
      exact ⟨_, _, hg⟩
/-- what the reference has read -/
structure RowR (b : Nat) (W : World) (v : Value) (p : List (Fi × Value)) : Prop where
  own : W.ownsRow b 44 3 v p.length (pcells p)
  ints : ∀ x, x ∈ p → Ints W x.2 x.1.cs
  typ : ∀ x, x ∈ p → ∀ k o n c, x.2 = .slice (some ⟨k, o, none⟩) n c → ∃ cur fz, W.heap[k]? = some (.cells cur 3 fz)
theorem RowR.fls {b : Nat} {W : World} {v : Value} {p : List (Fi × Value)} (h : RowR b W v p) : Fls W v (p.map (fun x => x.1)) := by
  rcases h.own.2 with ⟨hv, h0⟩ | ⟨g, cap, cur, hv, hb, hg, hc, hm, hs, ht⟩
  · obtain rfl := List.length_eq_zero_iff.1 h0
    exact ⟨none, 0, hv, Nat.le_refl _, fun h => by simp at h⟩
  · subst hv
    refine ⟨some ⟨g, 0, none⟩, cap, by rw [List.length_map], by rw [List.length_map]; exact hc, fun _ => ⟨g, 0, rfl, heap_lt hg, fun j f hj => ?_⟩⟩
    rw [List.getElem?_map] at hj
    cases hx : p[j]? with
    | none => rw [hx] at hj; cases hj
    | some x =>
      rw [hx] at hj
      injection hj with hj
      subst hj
      have hjl := (List.getElem?_eq_some_iff.1 hx).1
      obtain ⟨e1, e2, e3⟩ := pcells_get p j x hx
      have c := fun i hi => h.own.cellAt i hi
      refine ⟨x.2, h.ints x (List.mem_of_getElem? hx), ?_, ?_, ?_⟩
      · rw [Nat.zero_add, c _ (by omega)]; exact e1
      · rw [Nat.zero_add, c _ (by omega)]; exact e2
      · rw [Nat.zero_add, c _ (by omega)]; exact e3
theorem RowR.since {b : Nat} {W W' : World} {v : Value} {p : List (Fi × Value)} (h : RowR b W v p) (hs : Since W W') : RowR b W' v p :=
  ⟨owns_since h.own hs, fun x hx => (h.ints x hx).since hs, fun x hx k o n c e => by
    obtain ⟨cur, fz, h2⟩ := h.typ x hx k o n c e
    exact ⟨cur, fz, (hs.block k (heap_lt h2)).trans h2⟩⟩
/-- one more file -/
theorem RowR.more {b : Nat} {W W1 W' : World} {v v' : Value} {p : List (Fi × Value)} {f : Fi} {cv : Value} (h : RowR b W v p) (hs : Since W W1) (hi : Ints W1 cv f.cs) (ht : ∀ k o n c, cv = .slice (some ⟨k, o, none⟩) n c → ∃ cur fz, W1.heap[k]? = some (.cells cur 3 fz))
    (hown : W'.ownsRow b 44 3 v' (p.length + 1) (pcells p ++ [.string f.nm, .int .i64 f.sz, cv])) (hg : W1.grownBy W' v.ownBlock) : RowR b W' v' (p ++ [(f, cv)]) := by
  have h1 := h.since hs
  have key : ∀ y, y ∈ p ++ [(f, cv)] → Ints W1 y.2 y.1.cs ∧ ∀ k o n c, y.2 = .slice (some ⟨k, o, none⟩) n c → ∃ cur fz, W1.heap[k]? = some (.cells cur 3 fz) := fun y hy => by
    rcases List.mem_append.1 hy with hy | hy
    · exact ⟨h1.ints y hy, h1.typ y hy⟩
    · rw [List.mem_singleton] at hy; subst hy; exact ⟨hi, ht⟩
  have hnr : ∀ y, y ∈ p ++ [(f, cv)] → ∀ k o n c, y.2 = .slice (some ⟨k, o, none⟩) n c → v.ownBlock ≠ some k := fun y hy k o n c e e2 => by
    obtain ⟨cur, fz, h2⟩ := (key y hy).2 k o n c e
    rcases h1.own.2 with ⟨h, _⟩ | ⟨g, cap, cur2, h, _, h3, _⟩
    · rw [h] at e2; cases e2
    · rw [h] at e2
      injection e2 with e2
      have e3 : g = k := e2
      subst e3
      rw [h3] at h2
      injection h2 with h2
      injection h2 with _ h2
      cases h2
  refine ⟨?_, fun y hy => (key y hy).1.grown hg (hnr y hy), fun y hy k o n c e => ?_⟩
  · rw [List.length_append, pcells_snoc]
    exact hown
  · obtain ⟨cur, fz, h2⟩ := (key y hy).2 k o n c e
    exact ⟨cur, fz, (hg.block k (heap_lt h2) (fun e2 => hnr y hy k o n c e e2.symm)).trans h2⟩
/-- a text's pieces -/
def pcs (s : ByteArray) (c : UInt8) : List ByteArray := Lib.splitB ⟨#[c]⟩ 0 (Lib.countB s ⟨#[c]⟩) s
theorem pcs_data (s : ByteArray) (c : UInt8) : (pcs s c).map (fun x => x.data.toList) = Lib.split s.data.toList [c] := by
  unfold pcs
  rw [Lib.splitB_data]
  rfl
theorem pcs_len (s : ByteArray) (c : UInt8) : (pcs s c).length = Lib.countB s ⟨#[c]⟩ + 1 := Lib.splitB_all ⟨#[c]⟩ (Nat.le_refl 1) 0 _ s rfl
theorem pcs_le (s : ByteArray) (c : UInt8) : (pcs s c).length ≤ s.size + 1 := by
  rw [pcs_len]
  have := Lib.countB_le ⟨#[c]⟩ (Nat.le_refl 1) s.size s (Nat.le_refl _)
  omega
theorem split_any (s : ByteArray) (c : UInt8) (hs : s.size ≤ 100000) (w : World) (h : Lb w) :
    Calls Tryz.prog 34 #[.string s, .string ⟨#[c]⟩] w fun e w' => e = .returned (.slice (some ⟨w.heap.size, 0, none⟩) (pcs s c).length (pcs s c).length) ∧ w' = w.alloc (.cells ((pcs s c).map Value.string).toArray 9) := by
  obtain ⟨m, hm⟩ := h.max
  have := Tryz.strings_Split s ⟨#[c]⟩ m w (by omega) hm (Nat.le_refl 1)
  rw [← pcs_len] at this
  exact this
theorem numR_bounds (t : List UInt8) : -9223372036854775808 ≤ numR t ∧ numR t ≤ 9223372036854775807 := by
  unfold numR
  cases h : Lib.atoiAll t with
  | ok v => exact Lib.atoiAll_bounds h
  | «syntax» => exact ⟨show -9223372036854775808 ≤ (0 : Int) by decide, show (0 : Int) ≤ 9223372036854775807 by decide⟩
  | range => exact Lib.atoiSat_bounds t
/-- the pieces of a line, read -/
def fiOf (V : List ByteArray) : Fi := ⟨V.getD 0 ⟨#[]⟩, numR (V.getD 1 ⟨#[]⟩).data.toList, ((V.drop 2).take (V.length - 3)).map (fun x => numR x.data.toList)⟩
theorem fiOf_eq (t : ByteArray) : fiOf (pcs (t ++ ⟨#[32]⟩) 32) = readR t.data.toList := by
  have e : (pcs (t ++ ⟨#[32]⟩) 32).map (fun x => x.data.toList) = Lib.split (t.data.toList ++ [32]) [32] := by
    rw [pcs_data]
    have : (t ++ ⟨#[32]⟩ : ByteArray).data.toList = t.data.toList ++ [32] := by simp [ByteArray.data_append]
    rw [this]
  unfold fiOf readR
  rw [← e]
  generalize pcs (t ++ ⟨#[32]⟩) 32 = V
  simp only [List.length_map, ← List.map_drop, ← List.map_take, List.map_map]
  have h0 : ∀ i, ((V.map (fun x => x.data.toList)).getD i []) = (V.getD i ⟨#[]⟩).data.toList := fun i => by
    simp only [List.getD, List.getElem?_map]
    cases V[i]? <;> rfl
  rw [h0, h0]
  rfl
theorem linesR_eq (s : ByteArray) : (pcs s 10).dropLast.map (fun t => readR t.data.toList) = (linesR s.data.toList).map readR := by
  unfold linesR
  rw [← pcs_data, ← List.map_dropLast, List.map_map]
  rfl
theorem pcs_small (s : ByteArray) (c : UInt8) : ∀ x, x ∈ pcs s c → x.size ≤ s.size := splitB_small _ _ s s.size (Nat.le_refl _)
theorem pcs_two (t : ByteArray) : 2 ≤ (pcs (t ++ ⟨#[32]⟩) 32).length := by
  rw [pcs_len]
  have h : Lib.countB (t ++ ⟨#[32]⟩) ⟨#[32]⟩ = Lib.count (t ++ ⟨#[32]⟩ : ByteArray).data.toList [32] := rfl
  have e : (t ++ ⟨#[32]⟩ : ByteArray).data.toList = t.data.toList ++ [32] := by simp [ByteArray.data_append]
  rw [h, Lib.count_one, e, List.count_append]
  simp
/-- the numbers of a line's pieces -/
def nOf (V : List ByteArray) (m : Nat) : List Int := ((V.drop 2).take m).map (fun x => numR x.data.toList)
theorem nOf_succ (V : List ByteArray) (m : Nat) (h : m + 2 < V.length) : nOf V (m + 1) = nOf V m ++ [numR V[m + 2].data.toList] := by
  unfold nOf
  rw [List.take_add_one, List.getElem?_drop, show 2 + m = m + 2 by omega, List.getElem?_eq_getElem h]
  simp
theorem nOf_len (V : List ByteArray) (m : Nat) (h : m + 2 ≤ V.length) : (nOf V m).length = m := by
  unfold nOf
  simp
  omega
theorem readR_small (t : ByteArray) (h : t.size ≤ 400) : (readR t.data.toList).cs.length ≤ 1000 ∧ (readR t.data.toList).nm.size ≤ 100000 := by
  rw [← fiOf_eq]
  have htz : (t ++ (⟨#[32]⟩ : ByteArray)).size ≤ 401 := by
    rw [ByteArray.size_append]
    have : (⟨#[32]⟩ : ByteArray).size = 1 := rfl
    omega
  have h1 := pcs_le (t ++ ⟨#[32]⟩) 32
  have h2 := pcs_small (t ++ ⟨#[32]⟩) 32
  have h3 := pcs_two t
  generalize pcs (t ++ ⟨#[32]⟩) 32 = V at *
  constructor
  · show (((V.drop 2).take (V.length - 3)).map (fun x => numR x.data.toList)).length ≤ 1000
    simp
    omega
  · show (V.getD 0 ⟨#[]⟩).size ≤ 100000
    rw [List.getD, List.getElem?_eq_getElem (by omega)]
    have := h2 V[0] (List.getElem_mem _)
    show V[0].size ≤ 100000
    omega
set_option maxHeartbeats 8000000 in
theorem rparse_any (s : ByteArray) (hs : s.size ≤ 400) (w : World) (hb : Lb w) :
    Calls Tryz.prog 17 #[.string s] w fun e w' => ((∃ l v, parseR s.data.toList = some l ∧ e = .returned (.tuple #[v, .int .i64 0]) ∧ Fls w' v l) ∨ (parseR s.data.toList = none ∧ e = .returned (.tuple #[.slice none 0 0, .int .i64 3]))) ∧ Since w w' := by
  have HB : Hid (Lb w) := hb
  have hsp := split_any s 10 (by omega) w hb
  have hle := pcs_le s 10
  have h1 : 1 ≤ (pcs s 10).length := by rw [pcs_len]; omega
  have HLR : Hid ((pcs s 10).dropLast.map (fun t => readR t.data.toList) = (linesR s.data.toList).map readR) := linesR_eq s
  have HSM : Hid (∀ x, x ∈ pcs s 10 → x.size ≤ 400) := fun x hx => Nat.le_trans (pcs_small s 10 x hx) hs
  have HDL : Hid ((pcs s 10).dropLast.length = (pcs s 10).length - 1) := List.length_dropLast
  have HDG : Hid (∀ k, k < (pcs s 10).length - 1 → (pcs s 10).dropLast[k]? = (pcs s 10)[k]?) := fun k hk => by
    rw [List.dropLast_eq_take, List.getElem?_take_of_lt hk]
  generalize pcs s 10 = D at *
  have HS0 : Hid (Since w (w.alloc (.cells (D.map Value.string).toArray 9))) := (Since.refl w).alloc _
  have HC0 : Hid (∀ k (hk : k < D.length), (w.alloc (.cells (D.map Value.string).toArray 9)).cell? ⟨w.heap.size, k, none⟩ = some (.string D[k])) := fun k hk => by
    rw [World.cell?_alloc_new]
    simp [hk]
  clear hb
  go_enter Tryz.func17, Tryz.ntmps17
  go_wp2_with fail
  refine hsp.mono ?_
  rintro e w0 ⟨rfl, hw0⟩
  rw [← hw0] at HS0 HC0
  clear hw0 hsp
  have hD1 : (1 : Int) ≤ D.length := by omega
  have hD2 : (0 : Int) ≤ (D.length : Int) - 1 := by omega
  have hD3 : (D.length : Int) - 1 ≤ D.length := by omega
  go_wp2_with fail
  have HB0 : Hid (Lb w0) := HB.out.since HS0.out
  obtain ⟨i0, hi, hz0, hz1, hz2⟩ := info_parts info3'
  have HI3 : Hid (Tryz.prog.info? 3 = some i0 ∧ i0.zero = some (.int .i64 0) ∧ i0.size = 1 ∧ i0.bytes = 8) := ⟨hi, hz0, hz1, hz2⟩
  clear hi hz0 hz1 hz2
  obtain ⟨iF, hi, hz0, hz1, hz2⟩ := info_parts infoF
  have HIF : Hid (Tryz.prog.info? 44 = some iF ∧ iF.zero = some (.agg #[.string ByteArray.empty, .int .i64 0, .slice none 0 0]) ∧ iF.size = 3 ∧ iF.bytes = 48) := ⟨hi, hz0, hz1, hz2⟩
  clear hi hz0 hz1 hz2
  go_loopw [23, 4, 7, 8, 9, 10, 11, 12] (fun i v _ _ _ _ _ _ wr => ∃ (k : Nat) (p : List (Fi × Value)), k ≤ D.length - 1 ∧ i = .int .i64 k ∧ p.map (fun x => x.1) = (D.take k).map (fun t => readR t.data.toList) ∧ RowR w0.heap.size wr v p ∧ Since w0 wr) (fun i _ _ _ _ _ _ _ _ => D.length - 1 - (intOf i).toNat)
  case atStart => exact ⟨0, [], by omega, rfl, rfl, ⟨World.ownsRow_nil _ _ _ _, (fun x hx => by cases hx), (fun x hx => by cases hx)⟩, Since.refl _⟩
  case round =>
    obtain ⟨k, p, hk, rfl, hpm, hrow, hs⟩ := hrel
    have HPM : Hid (p.map (fun x => x.1) = (D.take k).map (fun t => readR t.data.toList)) := hpm
    have HPL : Hid (p.length = k) := by
      show p.length = k
      have := congrArg List.length hpm
      simp at this
      omega
    have HROW : Hid (RowR w0.heap.size wr u4 p) := hrow
    have HS : Hid (Since w0 wr) := hs
    clear hpm hrow hs
    by_cases hlt : k < D.length - 1
    · have hlt2 : (k : Int) < ((D.length - 1 : Nat) : Int) := by omega
      have hkD : k < D.length := by omega
      have q := (HS.out.cell (p := ⟨w.heap.size, k, none⟩) (World.block_lt_of_cell? _ _ (HC0.out k hkD))).trans (HC0.out k hkD)
      have HTS : Hid (D[k].size ≤ 400) := HSM.out D[k] (List.getElem_mem hkD)
      have HPN : Hid ((D.take (k + 1)).map (fun t => readR t.data.toList) = (D.take k).map (fun t => readR t.data.toList) ++ [readR D[k].data.toList]) := by
        show (D.take (k + 1)).map (fun t => readR t.data.toList) = _
        rw [take_next D k hkD, List.map_append]
        rfl
      generalize D[k] = t at *
      have hts := HTS.out
      have htz : (t ++ (⟨#[32]⟩ : ByteArray)).size ≤ 401 := by
        rw [ByteArray.size_append]
        have : (⟨#[32]⟩ : ByteArray).size = 1 := rfl
        omega
      have hsp2 := split_any (t ++ ⟨#[32]⟩) 32 (by omega) wr (HB0.out.since HS.out)
      have hV2 := pcs_two t
      have hVl := pcs_le (t ++ ⟨#[32]⟩) 32
      have HFE : Hid (fiOf (pcs (t ++ ⟨#[32]⟩) 32) = readR t.data.toList) := fiOf_eq t
      have HVS : Hid (∀ x, x ∈ pcs (t ++ ⟨#[32]⟩) 32 → x.size ≤ 401) := fun x hx => Nat.le_trans (pcs_small _ 32 x hx) htz
      have HSP : Hid (Calls Tryz.prog 34 #[.string (t ++ ⟨#[32]⟩), .string ⟨#[32]⟩] wr fun e w' => e = .returned (.slice (some ⟨wr.heap.size, 0, none⟩) (pcs (t ++ ⟨#[32]⟩) 32).length (pcs (t ++ ⟨#[32]⟩) 32).length) ∧ w' = wr.alloc (.cells ((pcs (t ++ ⟨#[32]⟩) 32).map Value.string).toArray 9)) := hsp2
      clear hsp2
      generalize pcs (t ++ ⟨#[32]⟩) 32 = V at *
      have HSV : Hid (Since wr (wr.alloc (.cells (V.map Value.string).toArray 9))) := (Since.refl wr).alloc _
      have HCV : Hid (∀ k (hk : k < V.length), (wr.alloc (.cells (V.map Value.string).toArray 9)).cell? ⟨wr.heap.size, k, none⟩ = some (.string V[k])) := fun k hk => by
        rw [World.cell?_alloc_new]
        simp [hk]
      go_wp2_with fail
      refine HSP.out.mono ?_
      rintro e wv ⟨rfl, hwv⟩
      rw [← hwv] at HSV HCV
      clear hwv HSP
      have hV2I : (2 : Int) ≤ V.length := by omega
      have hV1I : (1 : Int) < V.length := by omega
      have hV0I : (0 : Int) < V.length := by omega
      have q0 := HCV.out 0 (by omega)
      have HG0 : Hid (V.getD 0 ⟨#[]⟩ = V[0]) := by show V.getD 0 ⟨#[]⟩ = V[0]; rw [List.getD, List.getElem?_eq_getElem (by omega)]; rfl
      have HG1 : Hid (V.getD 1 ⟨#[]⟩ = V[1]) := by show V.getD 1 ⟨#[]⟩ = V[1]; rw [List.getD, List.getElem?_eq_getElem (by omega)]; rfl
      have HV1S : Hid (V[1].size ≤ 401) := HVS.out V[1] (List.getElem_mem _)
      have HQ1 : Hid (wv.cell? ⟨wr.heap.size, 1, none⟩ = some (.string V[1])) := HCV.out 1 (by omega)
      have HBX : Hid (Cel (wv.alloc (.cells #[.string V[0], .int .i64 0, .slice none 0 0] 44)) wv.heap.size 3 (fun j => (#[.string V[0], .int .i64 0, .slice none 0 0] : Array Value).getD j undef)) := Cel.new wv 3 _ _ _ (fun j hj => by
        obtain rfl | rfl | rfl : j = 0 ∨ j = 1 ∨ j = 2 := by omega
        all_goals rfl) _ rfl
      have HSB : Hid (Since wv (wv.alloc (.cells #[.string V[0], .int .i64 0, .slice none 0 0] 44))) := (Since.refl _).alloc _
      generalize V[0] = n0 at *
      generalize V[1] = n1 at *
      go_upto_region 8 with fail
      generalize wv.alloc (.cells #[.string n0, .int .i64 0, .slice none 0 0] 44) = wb at *
      have q1 := (HSB.out.cell (p := ⟨wr.heap.size, 1, none⟩) (World.block_lt_of_cell? _ _ HQ1.out)).trans HQ1.out
      clear q0 q
      go_wp2_with fail
      refine (atoi_any n1 (by have := HV1S.out; omega) _ (((HB0.out.since HS.out).since HSV.out).since HSB.out)).mono ?_
      rintro e wa ⟨⟨er, rfl, _⟩, ha⟩
      have HBA : Hid (Cel wa wv.heap.size 3 (fun j => (#[.string n0, .int .i64 0, .slice none 0 0] : Array Value).getD j undef)) := HBX.out.since ha
      have HSAa : Hid (Since wv wa) := HSB.out.trans ha
      have hbl : wv.heap.size < wb.heap.size := HBX.out.lt (by omega)
      have hal := ha.size
      clear ha q1
      have b1 := HBA.out.cell 1 (by omega)
      have f1 := HBA.out.frozen 1 (by omega)
      have HBC : Hid (Cel (wa.setCell ⟨wv.heap.size, 1, none⟩ (.int .i64 (numR n1.data.toList))) wv.heap.size 3 (fun j => (#[.string n0, .int .i64 (numR n1.data.toList), .slice none 0 0] : Array Value).getD j undef)) := (HBA.out.set 1 (by omega) _).congr (fun j hj => by
        obtain rfl | rfl | rfl : j = 0 ∨ j = 1 ∨ j = 2 := by omega
        all_goals rfl)
      have HSC : Hid (Since wv (wa.setCell ⟨wv.heap.size, 1, none⟩ (.int .i64 (numR n1.data.toList)))) := HSAa.out.setCell (p := ⟨wv.heap.size, 1, none⟩) (Nat.le_refl _) _
      have hsz : (wa.setCell ⟨wv.heap.size, 1, none⟩ (.int .i64 (numR n1.data.toList))).heap.size = wa.heap.size := by simp [World.setCell]
      go_upto_region 9 with fail
      generalize wa.setCell ⟨wv.heap.size, 1, none⟩ (.int .i64 (numR n1.data.toList)) = ws at *
      clear b1 f1 HBA HBX HSAa
      obtain ⟨wo, hwo⟩ : ∃ wo, wo = wr := ⟨_, rfl⟩
      subst hwo
      go_wp2_with fail
      go_loopw [10, 11, 12] (fun i _ _ wq => ∃ (m : Nat) (cq : Value), m ≤ V.length - 3 ∧ i = .int .i64 ((m : Int) + 2) ∧ Cel wq wv.heap.size 3 (fun j => (#[.string n0, .int .i64 (numR n1.data.toList), cq] : Array Value).getD j undef) ∧ wq.ownsRow (wv.heap.size + 1) 3 1 cq m (ivals (nOf V m)) ∧ Since wv wq) (fun i _ _ _ => V.length - (intOf i).toNat)
      case atStart => exact ⟨0, .slice none 0 0, by omega, rfl, HBC.out, World.ownsRow_nil _ _ _ _, HSC.out⟩
      case round =>
        obtain ⟨m, cq, hm, rfl, hbx, hown, hsq⟩ := hrel
        have HBQ : Hid (Cel wr wv.heap.size 3 (fun j => (#[.string n0, .int .i64 (numR n1.data.toList), cq] : Array Value).getD j undef)) := hbx
        have HOQ : Hid (wr.ownsRow (wv.heap.size + 1) 3 1 cq m (ivals (nOf V m))) := hown
        have HSQ : Hid (Since wv wr) := hsq
        clear hbx hown hsq
        obtain ⟨qa, qc, rfl⟩ : ∃ qa qc, cq = .slice qa m qc := by
          rcases HOQ.out.2 with ⟨h, h0⟩ | ⟨g, cap, cur, h, _⟩
          · exact ⟨none, 0, by rw [h, h0]⟩
          · exact ⟨_, _, h⟩
        by_cases hml : m + 3 < V.length
        · have hmI : (m : Int) + 2 < (V.length : Int) - 1 := by omega
          have hmV : m + 2 < V.length := by omega
          have hmV2 : (m : Int) + 2 < (V.length : Int) := by omega
          have q0 := HCV.out (m + 2) hmV
          have q := (HSQ.out.cell (p := ⟨wo.heap.size, m + 2, none⟩) (World.block_lt_of_cell? _ _ q0)).trans q0
          have HXS : Hid (V[m + 2].size ≤ 401) := HVS.out V[m + 2] (List.getElem_mem hmV)
          have HNS : Hid (nOf V (m + 1) = nOf V m ++ [numR V[m + 2].data.toList]) := nOf_succ V m hmV
          clear q0
          generalize V[m + 2] = x at *
          go_wp2_with fail
          refine (atoi_any x (by have := HXS.out; omega) _ ((((HB0.out.since HS.out).since HSV.out).since HSQ.out))).mono ?_
          rintro e wa2 ⟨⟨er2, rfl, _⟩, ha⟩
          have HB2 : Hid (Cel wa2 wv.heap.size 3 (fun j => (#[.string n0, .int .i64 (numR n1.data.toList), .slice qa m qc] : Array Value).getD j undef)) := HBQ.out.since ha
          have HO2 : Hid (wa2.ownsRow (wv.heap.size + 1) 3 1 (.slice qa m qc) m (ivals (nOf V m))) := owns_since HOQ.out ha
          have HS2 : Hid (Since wv wa2) := HSQ.out.trans ha
          clear ha q
          generalize numR x.data.toList = nv at *
          have hlt2 : wv.heap.size < wa2.heap.size := HB2.out.lt (by omega)
          have b2 := HB2.out.cell 2 (by omega)
          have hm401 : m ≤ 1000 := by omega
          go_wp2_with (at_builtin; refine wpList_append_own _ (by rfl) _ _ _ (by rfl) (wv.heap.size + 1) 3 i0 _ 1 8 Tryz.underlying35 HI3.out.1 HI3.out.2.1 HI3.out.2.2.1 HI3.out.2.2.2 (by rfl) (by decide) _ m (ivals (nOf V m)) (by rfl) (World.ownsRow.alloc HO2.out _) ⟨wa2.heap.size, 0, none⟩ 1 1 [.int .i64 nv] (by rfl) (by rfl) (World.news_of_block (heap_alloc_new wa2 _)) (by simp [Value.oneCell']) (by unfold maxLen; omega) (by omega) (by have := HS2.out.size; simp; omega) ?_; intro x' w5 hown1 hgrow _; obtain ⟨g', cap', rfl⟩ := ownsRow_succ hown1; have hv1 := celGrown (HB2.out.since ((Since.refl wa2).alloc (.cells #[.int .i64 nv] 3))) (by omega) hgrow (fun e => by have := (HO2.out.lt _ e.symm).1; omega); have c2 := hv1.cell 2 (by omega); have f2 := hv1.frozen 2 (by omega))
          have hk1 : Since wv w5 := Below.grown (Below.mono (HS2.out.alloc (.cells #[.int .i64 nv] 3)) (Nat.le_refl _)) hgrow (by have := HS2.out.size; simp; omega) (fun j hj => by have := (HO2.out.lt j hj).1; omega)
          refine ⟨⟨m + 1, .slice (some ⟨g', 0, none⟩) (m + 1) cap', by omega, by simp; omega, ?_, ?_, ?_⟩, ?_⟩
          · exact (hv1.set 2 (by omega) _).congr (fun j hj => by
              obtain rfl | rfl | rfl : j = 0 ∨ j = 1 ∨ j = 2 := by omega
              all_goals rfl)
          · rw [HNS.out]
            have h6 := hown1.kept (grownBy_set w5 wv.heap.size 2 (.slice (some ⟨g', 0, none⟩) (m + 1) cap')) (.inr (fun e => by
              have := (hown1.lt _ e).1
              omega))
            simpa [ivals] using h6
          · exact hk1.setCell (p := ⟨wv.heap.size, 2, none⟩) (Nat.le_refl _) _
          · simp [intOf]; omega
        · have hmI : ¬ ((m : Int) + 2 < (V.length : Int) - 1) := by omega
          have hmE : m = V.length - 3 := by omega
          have HFI : Hid (readR t.data.toList = ⟨n0, numR n1.data.toList, nOf V m⟩) := by
            show readR t.data.toList = _
            rw [← HFE.out]
            unfold fiOf nOf
            rw [HG0.out, HG1.out, hmE]
          clear hmE
          obtain ⟨hin, hty⟩ := ints_row (nOf_len V m (by omega)) HOQ.out
          have HIN : Hid (Ints wr (.slice qa m qc) (nOf V m)) := hin
          have HTY : Hid (∀ k o n c, (.slice qa m qc : Value) = .slice (some ⟨k, o, none⟩) n c → ∃ cur fz, wr.heap[k]? = some (.cells cur 3 fz)) := hty
          have HR1 : Hid (RowR w0.heap.size wr u4 p) := (HROW.out.since HSV.out).since HSQ.out
          have HSA : Hid (Since w0 wr) := (HS.out.trans HSV.out).trans HSQ.out
          obtain ⟨va, vc, rfl⟩ : ∃ va vc, u4 = .slice va k vc := by
            rcases HR1.out.own.2 with ⟨h, h0⟩ | ⟨g, cap, cur, h, _⟩
            · exact ⟨none, 0, by rw [h, ← HPL.out, h0]⟩
            · exact ⟨_, _, by rw [h, HPL.out]⟩
          have HOW : Hid (wr.ownsRow w0.heap.size 44 3 (.slice va k vc) k (pcells p)) := by
            have := HR1.out.own
            rw [HPL.out] at this
            exact this
          have x0 := HBQ.out.cell 0 (by omega)
          have x1 := HBQ.out.cell 1 (by omega)
          have x2 := HBQ.out.cell 2 (by omega)
          clear hin hty
          go_wp2_with (at_builtin; refine wpList_append_own _ (by rfl) _ _ _ (by rfl) w0.heap.size 44 iF _ 3 48 Tryz.underlying22 HIF.out.1 HIF.out.2.1 HIF.out.2.2.1 HIF.out.2.2.2 (by rfl) (by decide) _ k (pcells p) (by rfl) (World.ownsRow.alloc HOW.out _) ⟨wr.heap.size, 0, none⟩ 1 1 [.string n0, .int .i64 (numR n1.data.toList), .slice qa m qc] (by rfl) (by rfl) (World.news_of_block (heap_alloc_new wr _)) (by simp [Value.oneCell']) (by unfold maxLen; omega) (by omega) (by have := HSA.out.size; simp; omega) ?_; intro x' w5 hown1 hgrow _; obtain ⟨g', cap', rfl⟩ := ownsRow_succ hown1)
          have hmore := RowR.more (f := ⟨n0, numR n1.data.toList, nOf V m⟩) HR1.out ((Since.refl wr).alloc (.cells #[.string n0, .int .i64 (numR n1.data.toList), .slice qa m qc] 44)) (HIN.out.since ((Since.refl wr).alloc _)) (fun k o n c e => by
            obtain ⟨cur, fz, h2⟩ := HTY.out k o n c e
            exact ⟨cur, fz, (((Since.refl wr).alloc _).block k (heap_lt h2)).trans h2⟩) (by rw [HPL.out]; exact hown1) hgrow
          have hk1 : Since w0 w5 := Below.grown (Below.mono (HSA.out.alloc (.cells #[.string n0, .int .i64 (numR n1.data.toList), .slice qa m qc] 44)) (Nat.le_refl _)) hgrow (by have := HSA.out.size; simp; omega) (fun j hj => by have := (HOW.out.lt j hj).1; omega)
          refine ⟨⟨k + 1, p ++ [(⟨n0, numR n1.data.toList, nOf V m⟩, .slice qa m qc)], by omega, by simp, ?_, hmore, hk1⟩, ?_⟩
          · rw [HPN.out, List.map_append, HPM.out, HFI.out]
            rfl
          · simp [intOf]; omega
    · have hlt2 : ¬ ((k : Int) < ((D.length - 1 : Nat) : Int)) := by omega
      have hkE : k = D.length - 1 := by omega
      have HL : Hid (p.map (fun x => x.1) = (linesR s.data.toList).map readR) := by
        show p.map (fun x => x.1) = _
        rw [HPM.out, ← HLR.out, hkE, List.dropLast_eq_take]
      have HCS : Hid (∀ f, f ∈ p.map (fun x => x.1) → f.cs.length ≤ 1000 ∧ f.nm.size ≤ 100000) := fun f hf => by
        rw [HPM.out] at hf
        obtain ⟨t, ht, rfl⟩ := List.mem_map.1 hf
        exact readR_small t (HSM.out t (List.mem_of_mem_take ht))
      have HFL : Hid (Fls wr u4 (p.map (fun x => x.1))) := HROW.out.fls
      have HLN : Hid ((p.map (fun x => x.1)).length ≤ 1000) := by
        show (p.map (fun x => x.1)).length ≤ 1000
        rw [List.length_map, HPL.out]
        omega
      have HSZ : Hid (Sized (p.map (fun x => x.1))) := fun f hf => by
        rw [HPM.out] at hf
        obtain ⟨t, ht, rfl⟩ := List.mem_map.1 hf
        exact numR_bounds _
      have HPR : Hid (parseR s.data.toList = if right (p.map (fun x => x.1)) = true ∧ print (p.map (fun x => x.1)) = s.data.toList then some (p.map (fun x => x.1)) else none) := by
        show parseR _ = _
        unfold parseR
        rw [HL.out]
      generalize p.map (fun x => x.1) = l at *
      have HSF : Hid (Since w wr) := HS0.out.trans HS.out
      have HBF : Hid (Lb wr) := HB0.out.since HS.out
      cases hr : right l with
      | false =>
        have HN : Hid (parseR s.data.toList = none) := by
          show parseR _ = _
          rw [HPR.out, hr]
          simp
        go_wp2_with fail
        refine (rprint_no l u4 wr HFL.out HSZ.out HLN.out HCS.out hr).mono ?_
        rintro e wz ⟨rfl, hz⟩
        go_wp2_with fail
        go_ret2
        exact ⟨Or.inr ⟨HN.out, rfl⟩, HSF.out.trans hz⟩
      | true =>
        cases hp : (print l == s.data.toList) with
        | false =>
          have HN : Hid (parseR s.data.toList = none) := by
            show parseR _ = _
            rw [HPR.out, if_neg (fun h => by rw [h.2] at hp; simp at hp)]
          have hne : (print l == s.toList) = false := by rw [Lib.toList_data]; exact hp
          go_wp2_with fail
          refine (rprint_yes l u4 wr HFL.out HBF.out hr).mono ?_
          rintro e wz ⟨rfl, hz⟩
          go_wp2_with fail
          go_ret2
          exact ⟨Or.inr ⟨HN.out, rfl⟩, HSF.out.trans hz⟩
        | true =>
          have hp2 : print l = s.data.toList := by simpa using hp
          have HN : Hid (parseR s.data.toList = some l) := by
            show parseR _ = _
            rw [HPR.out, if_pos ⟨hr, hp2⟩]
          have hE : (⟨(print l).toArray⟩ : ByteArray) = s := by rw [hp2]
          go_wp2_with fail
          refine (rprint_yes l u4 wr HFL.out HBF.out hr).mono ?_
          rintro e wz ⟨rfl, hz⟩
          rw [hE]
          have hss : (s.data.toList == s.data.toList) = true := by simp
          go_wp2_with fail
          go_ret2
          exact ⟨Or.inl ⟨l, u4, HN.out, rfl, HFL.out.since hz⟩, HSF.out.trans hz⟩
end En
end Go.Proofs.YtceoamhenpohhaaGreatDoor
