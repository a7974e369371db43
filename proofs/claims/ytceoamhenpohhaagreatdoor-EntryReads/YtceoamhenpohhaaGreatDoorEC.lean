/- Package entry: sets of numbers, take, Right. -/
import Derived.Test.YtceoamhenpohhaaGreatDoorEB
namespace Go.Proofs.YtceoamhenpohhaaGreatDoor
set_option linter.unusedSimpArgs false
set_option linter.unusedVariables false
set_option maxRecDepth 100000
namespace En
open Go.RowKit
/-- entries of a set of numbers -/
def ies (v : Value) : List Int → Nat → List MapEntry
  | [], _ => []
  | p :: r, i => { key := .int .i64 p, val := v, born := i } :: ies v r (i + 1)
theorem ies_append (v : Value) (L : List Int) (p : Int) (i : Nat) : ies v (L ++ [p]) i = ies v L i ++ [{ key := .int .i64 p, val := v, born := i + L.length }] := by
  induction L generalizing i with
  | nil => simp [ies]
  | cons q r ih => simp [ies, ih]; omega
theorem ies_find (v : Value) (p : Int) : ∀ (L : List Int) (i j : Nat), ∃ a, Instr.findNow (.int .i64) (.int .i64 p) (ies v L i) j = some a ∧ (p ∈ L → ∃ n, a = some (j + n, v) ∧ L[n]? = some p) ∧ (p ∉ L → a = none)
  | [], i, j => ⟨none, by simp [ies, Instr.findNow], by simp, by simp⟩
  | q :: r, i, j => by
    by_cases h : p = q
    · subst h
      exact ⟨some (j, v), by simp [ies, Instr.findNow, Instr.sameNow], fun _ => ⟨0, rfl, rfl⟩, by simp⟩
    · obtain ⟨a, h1, h2, h4⟩ := ies_find v p r (i + 1) (j + 1)
      have hb : (q == p) = false := by simp; exact fun e => h e.symm
      have hb2 : (p == q) = false := by simp; exact h
      exact ⟨a, by simp [ies, Instr.findNow, Instr.sameNow, hb, hb2, h1, h], fun hm => by
        obtain ⟨n, e1, e2⟩ := h2 (by simpa [h] using hm)
        exact ⟨n + 1, by rw [e1]; congr 2; omega, by simpa using e2⟩, by simpa [h] using h4⟩
/-- at r lies the set of these numbers -/
def IsSet (w : World) (r : Nat) (v : Value) (L : List Int) : Prop := w.heap[r]? = some (.map (ies v L 0).toArray L.length)
theorem set_lookup (w : World) (r : Nat) (L : List Int) (p : Int) (hb : IsSet w r (.agg #[]) L) :
    (Instr.lookup 58 (.map (some r)) (.int .i64 p) true).run Tryz.prog w = .ok (.tuple #[.agg #[], .bool (decide (p ∈ L))]) w := by
  unfold IsSet at hb
  obtain ⟨a, h1, h2, h4⟩ := ies_find (.agg #[]) p L 0 0
  have hc : ∀ em, (Instr.checkKey em 10000 3 (.int .i64 p)).run Tryz.prog w = .ok () w := fun em => MapKept.run_checkKey Tryz.underlying3 (by simp [MapKept.IsKey]) em 9999
  have hz : (zeroValue 65).run Tryz.prog w = .ok (.agg #[]) w := by kernel_rfl
  by_cases h : p ∈ L
  · obtain ⟨n, rfl, _⟩ := h2 h
    simp [Instr.lookup, run_underlying Tryz.underlying58, MapKept.run_getObj_map hb, hc, MapKept.run_findKey Tryz.underlying3 h1, h, hz, Result.andThen]
  · obtain rfl := h4 h
    simp [Instr.lookup, run_underlying Tryz.underlying58, MapKept.run_getObj_map hb, hc, MapKept.run_findKey Tryz.underlying3 h1, h, hz, Result.andThen]
/-- the set at r has turned -/
def setTo (w : World) (r : Nat) (v : Value) (L : List Int) : World := { w with heap := w.heap.setIfInBounds r (.map (ies v L 0).toArray L.length) }
theorem set_update (w : World) (r : Nat) (L : List Int) (p : Int) (hb : IsSet w r (.agg #[]) L) (h : p ∉ L) :
    (Instr.mapUpdate 58 (.map (some r)) (.int .i64 p) (.agg #[])).run Tryz.prog w = .ok () (setTo w r (.agg #[]) (L ++ [p])) := by
  unfold IsSet at hb
  obtain ⟨a, h1, h2, h4⟩ := ies_find (.agg #[]) p L 0 0
  obtain rfl := h4 h
  have hc : ∀ em, (Instr.checkKey em 10000 3 (.int .i64 p)).run Tryz.prog w = .ok () w := fun em => MapKept.run_checkKey Tryz.underlying3 (by simp [MapKept.IsKey]) em 9999
  simp [Instr.mapUpdate, run_underlying Tryz.underlying58, MapKept.run_getObj_map hb, hc, MapKept.run_findKey Tryz.underlying3 h1, MapKept.run_setObj_map _ hb, Result.andThen, ies_append, setTo]
theorem setTo_is {w : World} {r : Nat} {v v' : Value} {L L' : List Int} (h : IsSet w r v L) : IsSet (setTo w r v' L') r v' L' := by
  show (w.heap.setIfInBounds r _)[r]? = _
  have := (Array.getElem?_eq_some_iff.1 h).1
  simp [this]
theorem fr_setTo (w : World) (r : Nat) (v : Value) (L : List Int) : Fr r none w (setTo w r v L) :=
  ⟨rfl, rfl, rfl, by simp [setTo], fun k _ hb _ => by
    show (w.heap.setIfInBounds r _)[k]? = _
    rw [Array.getElem?_setIfInBounds_ne (fun h => hb h.symm)]⟩
theorem IsSet.since {w w' : World} {r : Nat} {v : Value} {L : List Int} (h : IsSet w r v L) (hs : Since w w') : IsSet w' r v L := by
  unfold IsSet at *
  rw [hs.block r (Array.getElem?_eq_some_iff.1 h).1]
  exact h
theorem IsSet.lt {w : World} {r : Nat} {v : Value} {L : List Int} (h : IsSet w r v L) : r < w.heap.size := (Array.getElem?_eq_some_iff.1 h).1
theorem IsSet.not {w : World} {r : Nat} {v : Value} {L : List Int} (h : IsSet w r v L) {a : Addr} {x : Value} (hc : w.cell? a = some x) : a.block ≠ r := by
  intro e
  unfold IsSet at h
  rw [← e] at h
  simp [World.cell?, h] at hc
theorem Ints.fr {w w' : World} {v x : Value} {cs L : List Int} {r : Nat} (h : Ints w v cs) (hr : IsSet w r x L) (hs : Fr r none w w') : Ints w' v cs := by
  obtain ⟨a, c, hv, hc, h⟩ := h
  refine ⟨a, c, hv, hc, fun hn => ?_⟩
  obtain ⟨k, o, ha, hk, hc⟩ := h hn
  have hne : k ≠ r := by
    cases cs with
    | nil => simp at hn
    | cons y t => exact hr.not (hc 0 y rfl)
  exact ⟨k, o, ha, Nat.lt_of_lt_of_le hk hs.size, fun j x hj => (hs.cell (p := ⟨k, o + j, none⟩) hk hne (by simp)).trans (hc j x hj)⟩
theorem takeB_snoc : ∀ (cs L : List Int) (k : Nat) (c : Int), cs[k]? = some c → takeB L (cs.take k) = true → takeB L (cs.take (k + 1)) = (!(decide (c ∈ L ++ cs.take k)) && cellB c)
  | [], _, _, _, h, _ => by simp at h
  | x :: r, L, 0, c, h, _ => by
    simp at h
    subst h
    simp [takeB]
  | x :: r, L, k + 1, c, h, ht => by
    simp only [List.take_succ_cons, takeB, Bool.and_eq_true] at ht ⊢
    rw [takeB_snoc r (L ++ [x]) k c (by simpa using h) ht.2, ht.1.1, ht.1.2]
    simp
theorem takeB_pre : ∀ (cs L : List Int) (k : Nat), takeB L (cs.take k) = false → takeB L cs = false
  | [], L, k, h => by simpa using h
  | x :: r, L, 0, h => by simp [takeB] at h
  | x :: r, L, k + 1, h => by
    simp only [List.take_succ_cons, takeB] at h ⊢
    by_cases h1 : (!(decide (x ∈ L)) && cellB x) = true
    · rw [h1, Bool.true_and] at h ⊢
      exact takeB_pre r _ k h
    · rw [Bool.not_eq_true] at h1
      rw [h1]; rfl
set_option maxHeartbeats 2000000 in
theorem take_any (r : Nat) (L cs : List Int) (cv : Value) (w : World) (hm : IsSet w r (.agg #[]) L) (hc : Ints w cv cs) (h64 : cs.length ≤ 1000) :
    Calls Tryz.prog 29 #[.map (some r), cv] w fun e w' => e = .returned (.bool (takeB L cs)) ∧ (takeB L cs = true → IsSet w' r (.agg #[]) (L ++ cs)) ∧ Fr r none w w' := by
  obtain ⟨a, cp, rfl, hcp, hh⟩ := hc
  have HH : Hid (Ints w (.slice a cs.length cp) cs) := ⟨a, cp, rfl, hcp, hh⟩
  have HM : Hid (IsSet w r (.agg #[]) L) := hm
  clear hh hm
  go_enter Tryz.func29, Tryz.ntmps29
  go_wp2_with fail
  go_loopw [11, 6, 7, 8] (fun i _ _ _ wr => ∃ k : Nat, k ≤ cs.length ∧ i = .int .i64 k ∧ takeB L (cs.take k) = true ∧ IsSet wr r (.agg #[]) (L ++ cs.take k) ∧ Ints wr (.slice a cs.length cp) cs ∧ Fr r none w wr) (fun i _ _ _ _ => cs.length - (intOf i).toNat)
  case atStart => exact ⟨0, by omega, rfl, by simp [takeB], by simpa using HM.out, HH.out, Fr.refl _ _ _⟩
  case round =>
    obtain ⟨k, hk, rfl, ht, hm, hi, hf⟩ := hrel
    have HT : Hid (takeB L (cs.take k) = true) := ht
    have HMK : Hid (IsSet wr r (.agg #[]) (L ++ cs.take k)) := hm
    have HI : Hid (Ints wr (.slice a cs.length cp) cs) := hi
    have HF : Hid (Fr r none w wr) := hf
    clear ht hm hi hf
    by_cases hlt : k < cs.length
    · have hlt2 : (k : Int) < cs.length := by omega
      obtain ⟨a', c', hv, _, h2⟩ := HI.out
      obtain ⟨kb, ko, ha, _, hcell⟩ := h2 (by omega)
      injection hv with e1 e2 e3
      subst e1
      subst ha
      have q := hcell k cs[k] (List.getElem?_eq_getElem hlt)
      have hE : Hid (cs[k]? = some cs[k]) := List.getElem?_eq_getElem hlt
      clear hcell h2 e2 e3
      generalize cs[k] = c at *
      have hlu := set_lookup wr r (L ++ cs.take k) c HMK.out
      have HS : Hid (takeB L (cs.take (k + 1)) = (!(decide (c ∈ L ++ cs.take k)) && cellB c)) := takeB_snoc cs L k c hE.out HT.out
      by_cases hin : c ∈ L ++ cs.take k
      · rw [decide_eq_true hin] at hlu
        have HB : Hid (takeB L cs = false) := takeB_pre cs L (k + 1) (by rw [HS.out, decide_eq_true hin]; rfl)
        clear hin
        go_wp2_with fail
        go_ret
        exact ⟨by rw [HB.out]; rfl, (fun h => absurd (HB.out.symm.trans h) (by decide)), HF.out.trans' (Fr.of_since ((Since.refl _).alloc _))⟩
      · rw [decide_eq_false hin] at hlu
        have hfc := fileCell_any c
        by_cases hcb : cellB c = true
        · rw [hcb] at hfc
          have HB : Hid (takeB L (cs.take (k + 1)) = true) := by
            show takeB L (cs.take (k + 1)) = true
            rw [HS.out, decide_eq_false hin, hcb]; rfl
          have HMA : Hid (IsSet (wr.alloc (.cells #[] 65)) r (.agg #[]) (L ++ cs.take k)) := HMK.out.since ((Since.refl _).alloc _)
          have hup := set_update _ r _ c HMA.out hin
          have HE2 : Hid (L ++ cs.take (k + 1) = L ++ cs.take k ++ [c]) := by
            show L ++ cs.take (k + 1) = _
            rw [List.take_add_one, hE.out]; simp
          have HI2 : Hid (Ints (wr.alloc (.cells #[] 65)) (.slice (some ⟨kb, ko, none⟩) cs.length cp) cs) := HI.out.since ((Since.refl _).alloc _)
          have HF2 : Hid (Fr r none w (wr.alloc (.cells #[] 65))) := HF.out.trans' (Fr.of_since ((Since.refl _).alloc _))
          clear hin
          go_wp2_with (go_at_call 33; refine (hfc _).mono ?_; rintro e w' ⟨rfl, rfl⟩)
          go_roundw
          case rel => exact ⟨k + 1, by omega, by go_num, HB.out, by rw [HE2.out]; simp only [List.append_assoc]; exact setTo_is HMA.out, HI2.out.fr HMA.out (fr_setTo _ _ _ _), HF2.out.trans' (fr_setTo _ _ _ _)⟩
          case measure => simp [intOf]; omega
        · rw [Bool.not_eq_true] at hcb
          rw [hcb] at hfc
          have HB : Hid (takeB L cs = false) := takeB_pre cs L (k + 1) (by rw [HS.out, hcb, Bool.and_false])
          clear hin
          go_wp2_with (go_at_call 33; refine (hfc _).mono ?_; rintro e w' ⟨rfl, rfl⟩)
          go_ret
          exact ⟨by rw [HB.out]; rfl, (fun h => absurd (HB.out.symm.trans h) (by decide)), HF.out.trans' (Fr.of_since ((Since.refl _).alloc _))⟩
    · have hke : k = cs.length := by omega
      subst hke
      rw [List.take_length] at HT HMK
      go_wp2_with fail
      go_ret
      exact ⟨by rw [HT.out]; rfl, fun _ => HMK.out, HF.out⟩
/-- all but blocks a and b is as it was -/
structure F2 (a b : Nat) (w w' : World) : Prop where
  os : w'.os = w.os
  tape : w'.tape = w.tape
  output : w'.output = w.output
  size : w.heap.size ≤ w'.heap.size
  block : ∀ k, k < w.heap.size → k ≠ a → k ≠ b → w'.heap[k]? = w.heap[k]?
theorem F2.refl (a b : Nat) (w : World) : F2 a b w w := ⟨rfl, rfl, rfl, Nat.le_refl _, fun _ _ _ _ => rfl⟩
theorem F2.trans {a b : Nat} {w w1 w2 : World} (h : F2 a b w w1) (k : F2 a b w1 w2) : F2 a b w w2 :=
  ⟨k.os.trans h.os, k.tape.trans h.tape, k.output.trans h.output, Nat.le_trans h.size k.size, fun j hj ha hb => (k.block j (Nat.lt_of_lt_of_le hj h.size) ha hb).trans (h.block j hj ha hb)⟩
theorem F2.of_since {a b : Nat} {w w' : World} (h : Since w w') : F2 a b w w' := ⟨h.os, h.tape, h.output, h.size, fun k hk _ _ => h.block k hk⟩
theorem F2.of_fr1 {a b : Nat} {w w' : World} (h : Fr a none w w') : F2 a b w w' := ⟨h.os, h.tape, h.output, h.size, fun k hk ha _ => h.block k hk ha (by simp)⟩
theorem F2.of_fr2 {a b : Nat} {w w' : World} (h : Fr b none w w') : F2 a b w w' := ⟨h.os, h.tape, h.output, h.size, fun k hk _ hb => h.block k hk hb (by simp)⟩
theorem F2.cell {a b : Nat} {w w' : World} (h : F2 a b w w') {p : Addr} (hp : p.block < w.heap.size) (ha : p.block ≠ a) (hb : p.block ≠ b) : w'.cell? p = w.cell? p := World.cell?_of_block (w := w) (h.block p.block hp ha hb)
theorem F2.since {a b : Nat} {w0 w w' : World} (h : F2 a b w w') (hs : Since w0 w) (ha : w0.heap.size ≤ a) (hb : w0.heap.size ≤ b) : Since w0 w' :=
  Below.trans (show Below w0.heap.size w0 w from hs) ⟨h.os, h.tape, h.output, h.size, fun k hk => h.block k (Nat.lt_of_lt_of_le hk hs.size) (by omega) (by omega)⟩
set_option maxHeartbeats 4000000 in
/-- the function that Right asks of each file: bn holds the name before, sb the set -/
theorem may_any (f : Fi) (cv : Value) (bn sb r : Nat) (b : ByteArray) (L : List Int) (w : World) (hsz : -9223372036854775808 ≤ f.sz ∧ f.sz ≤ 9223372036854775807) (hc : Ints w cv f.cs)
    (hb : Cel w bn 1 (fun _ => .string b)) (hsb : w.cell? ⟨sb, 0, none⟩ = some (.map (some r))) (hm : IsSet w r (.agg #[]) L) (hne : bn ≠ sb) (hcb : 0 < f.cs.length → ∀ k o n c, cv = .slice (some ⟨k, o, none⟩) n c → k ≠ bn) :
    Calls Tryz.prog 27 #[fval f cv, .pointer (some ⟨bn, 0, none⟩), .pointer (some ⟨sb, 0, none⟩)] w fun e w' => e = .returned (.bool (gtB f.nm b && nameB f.nm.data.toList && filled f && takeB L f.cs)) ∧
      ((gtB f.nm b && nameB f.nm.data.toList && filled f && takeB L f.cs) = true → Cel w' bn 1 (fun _ => .string f.nm) ∧ IsSet w' r (.agg #[]) (L ++ f.cs)) ∧ F2 bn r w w' := by
  have hlb := hb.lt (by omega)
  have hs1 : Since w (w.alloc (.cells #[.string f.nm, .int .i64 f.sz, cv] 44)) := (Since.refl w).alloc _
  have hx1 : Cel (w.alloc (.cells #[.string f.nm, .int .i64 f.sz, cv] 44)) w.heap.size 3 (fun j => (#[.string f.nm, .int .i64 f.sz, cv] : Array Value).getD j undef) := Cel.new w 3 _ _ _ (fun j hj => by
    obtain rfl | rfl | rfl : j = 0 ∨ j = 1 ∨ j = 2 := by omega
    all_goals rfl) _ rfl
  have hb1 := hb.since hs1
  have hc0 := hb1.cell 0 (by omega)
  have hf0 := hb1.frozen 0 (by omega)
  have x0 := hx1.cell 0 (by omega)
  have HX1 : Hid (Cel (w.alloc (.cells #[.string f.nm, .int .i64 f.sz, cv] 44)) w.heap.size 3 (fun j => (#[.string f.nm, .int .i64 f.sz, cv] : Array Value).getD j undef)) := hx1
  have HB1 : Hid (Cel (w.alloc (.cells #[.string f.nm, .int .i64 f.sz, cv] 44)) bn 1 (fun _ => .string b)) := hb1
  have HM1 : Hid (IsSet (w.alloc (.cells #[.string f.nm, .int .i64 f.sz, cv] 44)) r (.agg #[]) L) := hm.since hs1
  have HC1 : Hid (Ints (w.alloc (.cells #[.string f.nm, .int .i64 f.sz, cv] 44)) cv f.cs) := hc.since hs1
  have HS1 : Hid (Since w (w.alloc (.cells #[.string f.nm, .int .i64 f.sz, cv] 44))) := hs1
  have HSB1 : Hid ((w.alloc (.cells #[.string f.nm, .int .i64 f.sz, cv] 44)).cell? ⟨sb, 0, none⟩ = some (.map (some r))) := (hs1.cell (p := ⟨sb, 0, none⟩) (World.block_lt_of_cell? w _ hsb)).trans hsb
  clear hx1 hb1 hs1 hb hm hc hsb
  have hcv : ∃ a c, cv = .slice a f.cs.length c := by
    obtain ⟨a, c, h, _⟩ := HC1.out
    exact ⟨a, c, h⟩
  have HCV : Hid (∃ a c, cv = .slice a f.cs.length c) := hcv
  have hkeep : ∀ W, Since W W → True := fun _ _ => trivial
  clear hkeep hcv
  have HCB : Hid (0 < f.cs.length → ∀ k o n c, cv = .slice (some ⟨k, o, none⟩) n c → k ≠ bn) := hcb
  clear hcb
  unfold fval
  have HG : Hid (gtB f.nm b = !(Op.bytesLess f.nm.toList b.toList || f.nm.toList == b.toList)) := rfl
  cases hl : Op.bytesLess f.nm.toList b.toList with
  | true =>
    have HV : Hid ((gtB f.nm b && nameB f.nm.data.toList && filled f && takeB L f.cs) = false) := by show (gtB f.nm b && nameB f.nm.data.toList && filled f && takeB L f.cs) = false; rw [HG.out, hl]; rfl
    go_enter Tryz.func27, Tryz.ntmps27
    go_upto_region 1 with fail
    generalize w.alloc (.cells #[.string f.nm, .int .i64 f.sz, cv] 44) = w1 at *
    go_upto_region 3 with fail
    clear x0 hc0 hf0
    have hX2 : Cel (w1.setCell ⟨bn, 0, none⟩ (.string f.nm)) w.heap.size 3 (fun j => (#[.string f.nm, .int .i64 f.sz, cv] : Array Value).getD j undef) := HX1.out.other (a := ⟨bn, 0, none⟩) (by show bn ≠ _; omega) _
    have x0 := hX2.cell 0 (by omega)
    have x1 := hX2.cell 1 (by omega)
    have x2 := hX2.cell 2 (by omega)
    have hB2 : Cel (w1.setCell ⟨bn, 0, none⟩ (.string f.nm)) bn 1 (fun _ => .string f.nm) := (HB1.out.set 0 (by omega) _).congr (fun j hj => by rw [show j = 0 by omega]; rfl)
    have hM2 : IsSet (w1.setCell ⟨bn, 0, none⟩ (.string f.nm)) r (.agg #[]) L := by
      unfold IsSet
      rw [Below.heap_setCell _ _ _ _ (fun e => HM1.out.not (HB1.out.cell 0 (by omega)) e.symm)]
      exact HM1.out
    have s0 : (w1.setCell ⟨bn, 0, none⟩ (.string f.nm)).cell? ⟨sb, 0, none⟩ = some (.map (some r)) := by
      rw [World.cell?_setCell_other _ _ _ _ (by intro e; injection e with e1; exact hne e1)]
      exact HSB1.out
    have hC2 : Ints (w1.setCell ⟨bn, 0, none⟩ (.string f.nm)) cv f.cs := by
      obtain ⟨a, c, hv, hcc, h⟩ := HC1.out
      refine ⟨a, c, hv, hcc, fun hn => ?_⟩
      obtain ⟨k, o, ha, hk, hcell⟩ := h hn
      refine ⟨k, o, ha, by simpa using hk, fun j x hj => ?_⟩
      rw [World.cell?_setCell_other _ _ _ _ (by intro e; injection e with e1; exact HCB.out hn k o f.cs.length c (by rw [hv, ha]) e1.symm)]
      exact hcell j x hj
    have HF2 : Hid (F2 bn r w (w1.setCell ⟨bn, 0, none⟩ (.string f.nm))) := (F2.of_since HS1.out).trans (F2.of_fr1 (Fr.setCell bn none 0 w1 _))
    have HB2 : Hid (Cel (w1.setCell ⟨bn, 0, none⟩ (.string f.nm)) bn 1 (fun _ => .string f.nm)) := hB2
    have HX2 : Hid (Cel (w1.setCell ⟨bn, 0, none⟩ (.string f.nm)) w.heap.size 3 (fun j => (#[.string f.nm, .int .i64 f.sz, cv] : Array Value).getD j undef)) := hX2
    have HM2 : Hid (IsSet (w1.setCell ⟨bn, 0, none⟩ (.string f.nm)) r (.agg #[]) L) := hM2
    have HC2 : Hid (Ints (w1.setCell ⟨bn, 0, none⟩ (.string f.nm)) cv f.cs) := hC2
    have HS0 : Hid ((w1.setCell ⟨bn, 0, none⟩ (.string f.nm)).cell? ⟨sb, 0, none⟩ = some (.map (some r))) := s0
    clear hX2 hB2 hM2 hC2 HX1 HB1 HM1 HC1 HSB1 HS1
    generalize w1.setCell ⟨bn, 0, none⟩ (.string f.nm) = w2 at *
    go_wp2_with fail
    go_ret
    exact ⟨by rw [HV.out]; rfl, (fun h => absurd (HV.out.symm.trans h) (by decide)), HF2.out⟩
  | false =>
    cases he : f.nm.toList == b.toList with
    | true =>
      have HV : Hid ((gtB f.nm b && nameB f.nm.data.toList && filled f && takeB L f.cs) = false) := by show (gtB f.nm b && nameB f.nm.data.toList && filled f && takeB L f.cs) = false; rw [HG.out, hl, he]; rfl
      go_enter Tryz.func27, Tryz.ntmps27
      go_upto_region 1 with fail
      generalize w.alloc (.cells #[.string f.nm, .int .i64 f.sz, cv] 44) = w1 at *
      go_upto_region 3 with fail
      clear x0 hc0 hf0
      have hX2 : Cel (w1.setCell ⟨bn, 0, none⟩ (.string f.nm)) w.heap.size 3 (fun j => (#[.string f.nm, .int .i64 f.sz, cv] : Array Value).getD j undef) := HX1.out.other (a := ⟨bn, 0, none⟩) (by show bn ≠ _; omega) _
      have x0 := hX2.cell 0 (by omega)
      have x1 := hX2.cell 1 (by omega)
      have x2 := hX2.cell 2 (by omega)
      have hB2 : Cel (w1.setCell ⟨bn, 0, none⟩ (.string f.nm)) bn 1 (fun _ => .string f.nm) := (HB1.out.set 0 (by omega) _).congr (fun j hj => by rw [show j = 0 by omega]; rfl)
      have hM2 : IsSet (w1.setCell ⟨bn, 0, none⟩ (.string f.nm)) r (.agg #[]) L := by
        unfold IsSet
        rw [Below.heap_setCell _ _ _ _ (fun e => HM1.out.not (HB1.out.cell 0 (by omega)) e.symm)]
        exact HM1.out
      have s0 : (w1.setCell ⟨bn, 0, none⟩ (.string f.nm)).cell? ⟨sb, 0, none⟩ = some (.map (some r)) := by
        rw [World.cell?_setCell_other _ _ _ _ (by intro e; injection e with e1; exact hne e1)]
        exact HSB1.out
      have hC2 : Ints (w1.setCell ⟨bn, 0, none⟩ (.string f.nm)) cv f.cs := by
        obtain ⟨a, c, hv, hcc, h⟩ := HC1.out
        refine ⟨a, c, hv, hcc, fun hn => ?_⟩
        obtain ⟨k, o, ha, hk, hcell⟩ := h hn
        refine ⟨k, o, ha, by simpa using hk, fun j x hj => ?_⟩
        rw [World.cell?_setCell_other _ _ _ _ (by intro e; injection e with e1; exact HCB.out hn k o f.cs.length c (by rw [hv, ha]) e1.symm)]
        exact hcell j x hj
      have HF2 : Hid (F2 bn r w (w1.setCell ⟨bn, 0, none⟩ (.string f.nm))) := (F2.of_since HS1.out).trans (F2.of_fr1 (Fr.setCell bn none 0 w1 _))
      have HB2 : Hid (Cel (w1.setCell ⟨bn, 0, none⟩ (.string f.nm)) bn 1 (fun _ => .string f.nm)) := hB2
      have HX2 : Hid (Cel (w1.setCell ⟨bn, 0, none⟩ (.string f.nm)) w.heap.size 3 (fun j => (#[.string f.nm, .int .i64 f.sz, cv] : Array Value).getD j undef)) := hX2
      have HM2 : Hid (IsSet (w1.setCell ⟨bn, 0, none⟩ (.string f.nm)) r (.agg #[]) L) := hM2
      have HC2 : Hid (Ints (w1.setCell ⟨bn, 0, none⟩ (.string f.nm)) cv f.cs) := hC2
      have HS0 : Hid ((w1.setCell ⟨bn, 0, none⟩ (.string f.nm)).cell? ⟨sb, 0, none⟩ = some (.map (some r))) := s0
      clear hX2 hB2 hM2 hC2 HX1 HB1 HM1 HC1 HSB1 HS1
      generalize w1.setCell ⟨bn, 0, none⟩ (.string f.nm) = w2 at *
      go_wp2_with fail
      go_ret
      exact ⟨by rw [HV.out]; rfl, (fun h => absurd (HV.out.symm.trans h) (by decide)), HF2.out⟩
    | false =>
      have HGT : Hid (gtB f.nm b = true) := by show gtB f.nm b = true; rw [HG.out, hl, he]; rfl
      have hnm := name_any f.nm
      cases hn : nameB f.nm.data.toList with
      | false =>
        rw [hn] at hnm
        have HV : Hid ((gtB f.nm b && false && filled f && takeB L f.cs) = false) := by show (gtB f.nm b && false && filled f && takeB L f.cs) = false; rw [Bool.and_false]; rfl
        go_enter Tryz.func27, Tryz.ntmps27
        go_upto_region 1 with fail
        generalize w.alloc (.cells #[.string f.nm, .int .i64 f.sz, cv] 44) = w1 at *
        go_upto_region 3 with fail
        clear x0 hc0 hf0
        have hX2 : Cel (w1.setCell ⟨bn, 0, none⟩ (.string f.nm)) w.heap.size 3 (fun j => (#[.string f.nm, .int .i64 f.sz, cv] : Array Value).getD j undef) := HX1.out.other (a := ⟨bn, 0, none⟩) (by show bn ≠ _; omega) _
        have x0 := hX2.cell 0 (by omega)
        have x1 := hX2.cell 1 (by omega)
        have x2 := hX2.cell 2 (by omega)
        have hB2 : Cel (w1.setCell ⟨bn, 0, none⟩ (.string f.nm)) bn 1 (fun _ => .string f.nm) := (HB1.out.set 0 (by omega) _).congr (fun j hj => by rw [show j = 0 by omega]; rfl)
        have hM2 : IsSet (w1.setCell ⟨bn, 0, none⟩ (.string f.nm)) r (.agg #[]) L := by
          unfold IsSet
          rw [Below.heap_setCell _ _ _ _ (fun e => HM1.out.not (HB1.out.cell 0 (by omega)) e.symm)]
          exact HM1.out
        have s0 : (w1.setCell ⟨bn, 0, none⟩ (.string f.nm)).cell? ⟨sb, 0, none⟩ = some (.map (some r)) := by
          rw [World.cell?_setCell_other _ _ _ _ (by intro e; injection e with e1; exact hne e1)]
          exact HSB1.out
        have hC2 : Ints (w1.setCell ⟨bn, 0, none⟩ (.string f.nm)) cv f.cs := by
          obtain ⟨a, c, hv, hcc, h⟩ := HC1.out
          refine ⟨a, c, hv, hcc, fun hn => ?_⟩
          obtain ⟨k, o, ha, hk, hcell⟩ := h hn
          refine ⟨k, o, ha, by simpa using hk, fun j x hj => ?_⟩
          rw [World.cell?_setCell_other _ _ _ _ (by intro e; injection e with e1; exact HCB.out hn k o f.cs.length c (by rw [hv, ha]) e1.symm)]
          exact hcell j x hj
        have HF2 : Hid (F2 bn r w (w1.setCell ⟨bn, 0, none⟩ (.string f.nm))) := (F2.of_since HS1.out).trans (F2.of_fr1 (Fr.setCell bn none 0 w1 _))
        have HB2 : Hid (Cel (w1.setCell ⟨bn, 0, none⟩ (.string f.nm)) bn 1 (fun _ => .string f.nm)) := hB2
        have HX2 : Hid (Cel (w1.setCell ⟨bn, 0, none⟩ (.string f.nm)) w.heap.size 3 (fun j => (#[.string f.nm, .int .i64 f.sz, cv] : Array Value).getD j undef)) := hX2
        have HM2 : Hid (IsSet (w1.setCell ⟨bn, 0, none⟩ (.string f.nm)) r (.agg #[]) L) := hM2
        have HC2 : Hid (Ints (w1.setCell ⟨bn, 0, none⟩ (.string f.nm)) cv f.cs) := hC2
        have HS0 : Hid ((w1.setCell ⟨bn, 0, none⟩ (.string f.nm)).cell? ⟨sb, 0, none⟩ = some (.map (some r))) := s0
        clear hX2 hB2 hM2 hC2 HX1 HB1 HM1 HC1 HSB1 HS1
        generalize w1.setCell ⟨bn, 0, none⟩ (.string f.nm) = w2 at *
        go_wp2_with (go_at_call 10; refine (hnm _).mono ?_; rintro e w' ⟨rfl, rfl⟩)
        go_ret
        exact ⟨by rw [HV.out]; rfl, (fun h => absurd (HV.out.symm.trans h) (by decide)), HF2.out⟩
      | true =>
        rw [hn] at hnm
        have hfl := filled_any f cv hsz
        unfold fval at hfl
        cases hf : filled f with
        | false =>
          rw [hf] at hfl
          have HV : Hid ((gtB f.nm b && true && false && takeB L f.cs) = false) := by show (gtB f.nm b && true && false && takeB L f.cs) = false; rw [Bool.and_false]; rfl
          go_enter Tryz.func27, Tryz.ntmps27
          go_upto_region 1 with fail
          generalize w.alloc (.cells #[.string f.nm, .int .i64 f.sz, cv] 44) = w1 at *
          go_upto_region 3 with fail
          clear x0 hc0 hf0
          have hX2 : Cel (w1.setCell ⟨bn, 0, none⟩ (.string f.nm)) w.heap.size 3 (fun j => (#[.string f.nm, .int .i64 f.sz, cv] : Array Value).getD j undef) := HX1.out.other (a := ⟨bn, 0, none⟩) (by show bn ≠ _; omega) _
          have x0 := hX2.cell 0 (by omega)
          have x1 := hX2.cell 1 (by omega)
          have x2 := hX2.cell 2 (by omega)
          have hB2 : Cel (w1.setCell ⟨bn, 0, none⟩ (.string f.nm)) bn 1 (fun _ => .string f.nm) := (HB1.out.set 0 (by omega) _).congr (fun j hj => by rw [show j = 0 by omega]; rfl)
          have hM2 : IsSet (w1.setCell ⟨bn, 0, none⟩ (.string f.nm)) r (.agg #[]) L := by
            unfold IsSet
            rw [Below.heap_setCell _ _ _ _ (fun e => HM1.out.not (HB1.out.cell 0 (by omega)) e.symm)]
            exact HM1.out
          have s0 : (w1.setCell ⟨bn, 0, none⟩ (.string f.nm)).cell? ⟨sb, 0, none⟩ = some (.map (some r)) := by
            rw [World.cell?_setCell_other _ _ _ _ (by intro e; injection e with e1; exact hne e1)]
            exact HSB1.out
          have hC2 : Ints (w1.setCell ⟨bn, 0, none⟩ (.string f.nm)) cv f.cs := by
            obtain ⟨a, c, hv, hcc, h⟩ := HC1.out
            refine ⟨a, c, hv, hcc, fun hn => ?_⟩
            obtain ⟨k, o, ha, hk, hcell⟩ := h hn
            refine ⟨k, o, ha, by simpa using hk, fun j x hj => ?_⟩
            rw [World.cell?_setCell_other _ _ _ _ (by intro e; injection e with e1; exact HCB.out hn k o f.cs.length c (by rw [hv, ha]) e1.symm)]
            exact hcell j x hj
          have HF2 : Hid (F2 bn r w (w1.setCell ⟨bn, 0, none⟩ (.string f.nm))) := (F2.of_since HS1.out).trans (F2.of_fr1 (Fr.setCell bn none 0 w1 _))
          have HB2 : Hid (Cel (w1.setCell ⟨bn, 0, none⟩ (.string f.nm)) bn 1 (fun _ => .string f.nm)) := hB2
          have HX2 : Hid (Cel (w1.setCell ⟨bn, 0, none⟩ (.string f.nm)) w.heap.size 3 (fun j => (#[.string f.nm, .int .i64 f.sz, cv] : Array Value).getD j undef)) := hX2
          have HM2 : Hid (IsSet (w1.setCell ⟨bn, 0, none⟩ (.string f.nm)) r (.agg #[]) L) := hM2
          have HC2 : Hid (Ints (w1.setCell ⟨bn, 0, none⟩ (.string f.nm)) cv f.cs) := hC2
          have HS0 : Hid ((w1.setCell ⟨bn, 0, none⟩ (.string f.nm)).cell? ⟨sb, 0, none⟩ = some (.map (some r))) := s0
          clear hX2 hB2 hM2 hC2 HX1 HB1 HM1 HC1 HSB1 HS1
          generalize w1.setCell ⟨bn, 0, none⟩ (.string f.nm) = w2 at *
          go_wp2_with (go_at_call 10; refine (hnm _).mono ?_; rintro e w' ⟨rfl, rfl⟩)
          refine (hfl _ HCV.out).mono ?_
          rintro e w3 ⟨rfl, hs3⟩
          have HF3 : Hid (F2 bn r w w3) := HF2.out.trans (F2.of_since hs3)
          clear hs3
          go_wp2_with fail
          go_ret
          exact ⟨by rw [HV.out]; rfl, (fun h => absurd (HV.out.symm.trans h) (by decide)), HF3.out⟩
        | true =>
          rw [hf] at hfl
          have HL : Hid (f.cs.length ≤ 1000) := by
            have h1 := (filled_iff f).1 hf
            have h2 := need_le h1.2.1
            show f.cs.length ≤ 1000
            omega
          have HV : Hid ((gtB f.nm b && true && true && takeB L f.cs) = takeB L f.cs) := by show (gtB f.nm b && true && true && takeB L f.cs) = takeB L f.cs; rw [HGT.out]; rfl
          go_enter Tryz.func27, Tryz.ntmps27
          go_upto_region 1 with fail
          generalize w.alloc (.cells #[.string f.nm, .int .i64 f.sz, cv] 44) = w1 at *
          go_upto_region 3 with fail
          clear x0 hc0 hf0
          have hX2 : Cel (w1.setCell ⟨bn, 0, none⟩ (.string f.nm)) w.heap.size 3 (fun j => (#[.string f.nm, .int .i64 f.sz, cv] : Array Value).getD j undef) := HX1.out.other (a := ⟨bn, 0, none⟩) (by show bn ≠ _; omega) _
          have x0 := hX2.cell 0 (by omega)
          have x1 := hX2.cell 1 (by omega)
          have x2 := hX2.cell 2 (by omega)
          have hB2 : Cel (w1.setCell ⟨bn, 0, none⟩ (.string f.nm)) bn 1 (fun _ => .string f.nm) := (HB1.out.set 0 (by omega) _).congr (fun j hj => by rw [show j = 0 by omega]; rfl)
          have hM2 : IsSet (w1.setCell ⟨bn, 0, none⟩ (.string f.nm)) r (.agg #[]) L := by
            unfold IsSet
            rw [Below.heap_setCell _ _ _ _ (fun e => HM1.out.not (HB1.out.cell 0 (by omega)) e.symm)]
            exact HM1.out
          have s0 : (w1.setCell ⟨bn, 0, none⟩ (.string f.nm)).cell? ⟨sb, 0, none⟩ = some (.map (some r)) := by
            rw [World.cell?_setCell_other _ _ _ _ (by intro e; injection e with e1; exact hne e1)]
            exact HSB1.out
          have hC2 : Ints (w1.setCell ⟨bn, 0, none⟩ (.string f.nm)) cv f.cs := by
            obtain ⟨a, c, hv, hcc, h⟩ := HC1.out
            refine ⟨a, c, hv, hcc, fun hn => ?_⟩
            obtain ⟨k, o, ha, hk, hcell⟩ := h hn
            refine ⟨k, o, ha, by simpa using hk, fun j x hj => ?_⟩
            rw [World.cell?_setCell_other _ _ _ _ (by intro e; injection e with e1; exact HCB.out hn k o f.cs.length c (by rw [hv, ha]) e1.symm)]
            exact hcell j x hj
          have HF2 : Hid (F2 bn r w (w1.setCell ⟨bn, 0, none⟩ (.string f.nm))) := (F2.of_since HS1.out).trans (F2.of_fr1 (Fr.setCell bn none 0 w1 _))
          have HB2 : Hid (Cel (w1.setCell ⟨bn, 0, none⟩ (.string f.nm)) bn 1 (fun _ => .string f.nm)) := hB2
          have HX2 : Hid (Cel (w1.setCell ⟨bn, 0, none⟩ (.string f.nm)) w.heap.size 3 (fun j => (#[.string f.nm, .int .i64 f.sz, cv] : Array Value).getD j undef)) := hX2
          have HM2 : Hid (IsSet (w1.setCell ⟨bn, 0, none⟩ (.string f.nm)) r (.agg #[]) L) := hM2
          have HC2 : Hid (Ints (w1.setCell ⟨bn, 0, none⟩ (.string f.nm)) cv f.cs) := hC2
          have HS0 : Hid ((w1.setCell ⟨bn, 0, none⟩ (.string f.nm)).cell? ⟨sb, 0, none⟩ = some (.map (some r))) := s0
          clear hX2 hB2 hM2 hC2 HX1 HB1 HM1 HC1 HSB1 HS1
          generalize w1.setCell ⟨bn, 0, none⟩ (.string f.nm) = w2 at *
          go_wp2_with (go_at_call 10; refine (hnm _).mono ?_; rintro e w' ⟨rfl, rfl⟩)
          refine (hfl _ HCV.out).mono ?_
          rintro e w3 ⟨rfl, hs3⟩
          have HF3 : Hid (F2 bn r w w3) := HF2.out.trans (F2.of_since hs3)
          have HM3 : Hid (IsSet w3 r (.agg #[]) L) := HM2.out.since hs3
          have HB3 : Hid (Cel w3 bn 1 (fun _ => .string f.nm)) := HB2.out.since hs3
          have HC3 : Hid (Ints w3 cv f.cs) := HC2.out.since hs3
          have x2 := (HX2.out.since hs3).cell 2 (by omega)
          have s0 := (hs3.cell (p := ⟨sb, 0, none⟩) (World.block_lt_of_cell? _ _ HS0.out)).trans HS0.out
          clear hs3 x0 x1 hl he hn hf hnm hfl
          go_wp2_with fail
          refine (take_any r L f.cs cv _ HM3.out HC3.out HL.out).mono ?_
          rintro e w4 ⟨rfl, h4, hf4⟩
          have HF4 : Hid (F2 bn r w w4) := HF3.out.trans (F2.of_fr2 hf4)
          have HB4 : Hid (Cel w4 bn 1 (fun _ => .string f.nm)) := HB3.out.fr hf4 (HM3.out.not (HB3.out.cell 0 (by omega))) (by simp)
          have H4 : Hid (takeB L f.cs = true → IsSet w4 r (.agg #[]) (L ++ f.cs)) := h4
          clear hf4 h4
          go_wp2_with fail
          go_ret
          exact ⟨by rw [HV.out]; rfl, fun h => ⟨HB4.out, H4.out (HV.out.symm.trans h)⟩, HF4.out⟩
end En
end Go.Proofs.YtceoamhenpohhaaGreatDoor
