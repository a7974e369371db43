/- Package entry: Right. -/
import Derived.Test.YtceoamhenpohhaaGreatDoorEC
namespace Go.Proofs.YtceoamhenpohhaaGreatDoor
set_option linter.unusedSimpArgs false
set_option linter.unusedVariables false
set_option maxRecDepth 100000
namespace En
open Go.RowKit
def Sized (l : List Fi) : Prop := ∀ f, f ∈ l → -9223372036854775808 ≤ f.sz ∧ f.sz ≤ 9223372036854775807
theorem Fls.at_ {w : World} {a : Option Addr} {c : Nat} {l : List Fi} (h : Fls w (.slice a l.length c) l) {j : Nat} {f : Fi} (hj : l[j]? = some f) : ∃ k o cv, a = some ⟨k, o, none⟩ ∧ Ints w cv f.cs ∧ k < w.heap.size ∧ w.cell? ⟨k, o + j * 3, none⟩ = some (.string f.nm) ∧ w.cell? ⟨k, o + j * 3 + 1, none⟩ = some (.int .i64 f.sz) ∧ w.cell? ⟨k, o + j * 3 + 2, none⟩ = some cv := by
  obtain ⟨a', c', hv, hc, h⟩ := h
  injection hv with e1 e2 e3
  subst e1 e3
  have hjl := (List.getElem?_eq_some_iff.1 hj).1
  obtain ⟨k, o, ha, hk, hh⟩ := h (by omega)
  obtain ⟨cv, h1, h2, h3, h4⟩ := hh j f hj
  exact ⟨k, o, cv, ha, h1, hk, h2, h3, h4⟩
theorem rightFrom_step {b : ByteArray} {L : List Int} {l : List Fi} {k : Nat} {f : Fi} (h : l[k]? = some f) : rightFrom b L (l.drop k) = (gtB f.nm b && nameB f.nm.data.toList && filled f && takeB L f.cs && rightFrom f.nm (L ++ f.cs) (l.drop (k + 1))) := by
  have hk := (List.getElem?_eq_some_iff.1 h).1
  have e : l.drop k = f :: l.drop (k + 1) := by
    rw [List.drop_eq_getElem_cons hk]
    congr 1
    exact (List.getElem?_eq_some_iff.1 h).2
  rw [e]; rfl
set_option maxHeartbeats 4000000 in
theorem right_any (l : List Fi) (v : Value) (w : World) (hl : Fls w v l) (hz : Sized l) : Calls Tryz.prog 8 #[v] w fun e w' => e = .returned (.bool (right l)) ∧ Since w w' := by
  obtain ⟨a, c, rfl, hcap, hrest⟩ := hl
  have HL : Hid (Fls w (.slice a l.length c) l) := ⟨a, c, rfl, hcap, hrest⟩
  have HZ : Hid (Sized l) := hz
  have hmm := @run_makeMap Tryz.prog
  clear hrest hz
  by_cases h8 : 8 < l.length
  · have HB : Hid (right l = false) := by
      show right l = false
      rw [right, decide_eq_false (by omega)]; rfl
    have h8' : (8 : Int) < l.length := by omega
    go_enter Tryz.func8, Tryz.ntmps8
    go_wp2_with fail
    go_ret
    exact ⟨by rw [HB.out]; rfl, Since.refl _⟩
  · have HB : Hid (right l = rightFrom ⟨#[]⟩ [] l) := by
      show right l = _
      rw [right, decide_eq_true (by omega)]; rfl
    have h8' : (l.length : Int) ≤ 8 := by omega
    have h8d : decide ((8 : Int) < l.length) = false := decide_eq_false (by omega)
    go_enter Tryz.func8, Tryz.ntmps8
    go_upto_region 6 with fail
    have hs0 : Since w (((w.alloc (.map #[] 0)).alloc (.cells #[.map (some w.heap.size)] 58)).alloc (.cells #[.string ⟨#[]⟩] 9)) := (((Since.refl w).alloc _).alloc _).alloc _
    have hset : IsSet (((w.alloc (.map #[] 0)).alloc (.cells #[.map (some w.heap.size)] 58)).alloc (.cells #[.string ⟨#[]⟩] 9)) w.heap.size (.agg #[]) [] := by
      have h0 : IsSet (w.alloc (.map #[] 0)) w.heap.size (.agg #[]) [] := (MapKept.heap_alloc w (.map #[] 0)).1
      exact h0.since (((Since.refl _).alloc _).alloc _)
    have hsb : (((w.alloc (.map #[] 0)).alloc (.cells #[.map (some w.heap.size)] 58)).alloc (.cells #[.string ⟨#[]⟩] 9)).cell? ⟨w.heap.size + 1, 0, none⟩ = some (.map (some w.heap.size)) :=
      ((Cel.new (w.alloc (.map #[] 0)) 1 (fun _ => .map (some w.heap.size)) _ _ (fun j hj => by rw [show j = 0 by omega]; rfl) _ (by simp)).since ((Since.refl _).alloc _)).cell 0 (by omega)
    have hbn : Cel (((w.alloc (.map #[] 0)).alloc (.cells #[.map (some w.heap.size)] 58)).alloc (.cells #[.string ⟨#[]⟩] 9)) (w.heap.size + 1 + 1) 1 (fun _ => .string ⟨#[]⟩) := Cel.new _ 1 _ _ _ (fun j hj => by rw [show j = 0 by omega]; rfl) _ (by simp)
    have HR : Hid (Fls (((w.alloc (.map #[] 0)).alloc (.cells #[.map (some w.heap.size)] 58)).alloc (.cells #[.string ⟨#[]⟩] 9)) (.slice a l.length c) l ∧ Since w (((w.alloc (.map #[] 0)).alloc (.cells #[.map (some w.heap.size)] 58)).alloc (.cells #[.string ⟨#[]⟩] 9)) ∧ IsSet (((w.alloc (.map #[] 0)).alloc (.cells #[.map (some w.heap.size)] 58)).alloc (.cells #[.string ⟨#[]⟩] 9)) w.heap.size (.agg #[]) [] ∧ (((w.alloc (.map #[] 0)).alloc (.cells #[.map (some w.heap.size)] 58)).alloc (.cells #[.string ⟨#[]⟩] 9)).cell? ⟨w.heap.size + 1, 0, none⟩ = some (.map (some w.heap.size)) ∧ Cel (((w.alloc (.map #[] 0)).alloc (.cells #[.map (some w.heap.size)] 58)).alloc (.cells #[.string ⟨#[]⟩] 9)) (w.heap.size + 1 + 1) 1 (fun _ => .string ⟨#[]⟩)) := ⟨HL.out.since hs0, hs0, hset, hsb, hbn⟩
    clear hs0 hset hsb hbn hmm
    generalize ((w.alloc (.map #[] 0)).alloc (.cells #[.map (some w.heap.size)] 58)).alloc (.cells #[.string ⟨#[]⟩] 9) = w0 at *
    go_wp2_with fail
    go_loopw [15, 7] (fun i _ wr => ∃ (k : Nat) (b : ByteArray) (L : List Int), k ≤ l.length ∧ i = .int .i64 k ∧ rightFrom ⟨#[]⟩ [] l = rightFrom b L (l.drop k) ∧ Since w wr ∧ IsSet wr w.heap.size (.agg #[]) L ∧ wr.cell? ⟨w.heap.size + 1, 0, none⟩ = some (.map (some w.heap.size)) ∧ Cel wr (w.heap.size + 1 + 1) 1 (fun _ => .string b)) (fun i _ _ => l.length - (intOf i).toNat)
    case atStart => exact ⟨0, ⟨#[]⟩, [], by omega, rfl, by rw [List.drop_zero], HR.out.2.1, HR.out.2.2.1, HR.out.2.2.2.1, HR.out.2.2.2.2⟩
    case round =>
      obtain ⟨k, b, L, hk, rfl, hrf, hs, hset, hsb, hbn⟩ := hrel
      have HRF : Hid (rightFrom ⟨#[]⟩ [] l = rightFrom b L (l.drop k)) := hrf
      have HS : Hid (Since w wr) := hs
      have HSET : Hid (IsSet wr w.heap.size (.agg #[]) L) := hset
      have HSB : Hid (wr.cell? ⟨w.heap.size + 1, 0, none⟩ = some (.map (some w.heap.size))) := hsb
      have HBN : Hid (Cel wr (w.heap.size + 1 + 1) 1 (fun _ => .string b)) := hbn
      clear hrf hs hset hsb hbn
      by_cases hlt : k < l.length
      · have hlt2 : (k : Int) < l.length := by omega
        have hE : Hid (l[k]? = some l[k]) := List.getElem?_eq_getElem hlt
        have HZ2 : Hid (-9223372036854775808 ≤ l[k].sz ∧ l[k].sz ≤ 9223372036854775807) := HZ.out l[k] (List.getElem_mem hlt)
        generalize l[k] = f at *
        obtain ⟨kb, ko, cv, rfl, hi0, hkb, p0, p1, p2⟩ := HL.out.at_ hE.out
        have q0 := (HS.out.cell (p := ⟨kb, ko + k * 3, none⟩) hkb).trans p0
        have q1 := (HS.out.cell (p := ⟨kb, ko + k * 3 + 1, none⟩) hkb).trans p1
        have q2 := (HS.out.cell (p := ⟨kb, ko + k * 3 + 2, none⟩) hkb).trans p2
        have HI : Hid (Ints w cv f.cs) := hi0
        clear p0 p1 p2 hi0
        have HCB : Hid (0 < f.cs.length → ∀ k o n c, cv = .slice (some ⟨k, o, none⟩) n c → k ≠ w.heap.size + 1 + 1) := fun hn k o n c e => by
          obtain ⟨a', c', hv, _, h⟩ := HI.out
          obtain ⟨k', o', ha, hk', _⟩ := h hn
          rw [e, ha] at hv
          injection hv with e1
          injection e1 with e1
          injection e1 with e1
          omega
        have HST : Hid (rightFrom b L (l.drop k) = (gtB f.nm b && nameB f.nm.data.toList && filled f && takeB L f.cs && rightFrom f.nm (L ++ f.cs) (l.drop (k + 1)))) := rightFrom_step hE.out
        have HSA : Hid (Since wr (wr.alloc (.cells #[.string f.nm, .int .i64 f.sz, cv] 44))) := (Since.refl _).alloc _
        obtain ⟨ca, cc, rfl⟩ : ∃ ca cc, cv = .slice ca f.cs.length cc := by
          obtain ⟨ca, cc, h, _⟩ := HI.out
          exact ⟨ca, cc, h⟩
        go_wp2_with fail
        refine (may_any f _ (w.heap.size + 1 + 1) (w.heap.size + 1) w.heap.size b L _ HZ2.out (HI.out.since (HS.out.trans HSA.out)) (HBN.out.since HSA.out) ((HSA.out.cell (p := ⟨w.heap.size + 1, 0, none⟩) (World.block_lt_of_cell? _ _ HSB.out)).trans HSB.out) (HSET.out.since HSA.out) (by omega) HCB.out).mono ?_
        rintro e w2 ⟨rfl, h2, hf2⟩
        have HS2 : Hid (Since w w2) := hf2.since (HS.out.trans HSA.out) (by omega) (by omega)
        have HSB2 : Hid (w2.cell? ⟨w.heap.size + 1, 0, none⟩ = some (.map (some w.heap.size))) := by
          show w2.cell? ⟨w.heap.size + 1, 0, none⟩ = _
          have h1 := (HSA.out.cell (p := ⟨w.heap.size + 1, 0, none⟩) (World.block_lt_of_cell? _ _ HSB.out)).trans HSB.out
          rw [hf2.cell (p := ⟨w.heap.size + 1, 0, none⟩) (World.block_lt_of_cell? _ _ h1) (by show w.heap.size + 1 ≠ _; omega) (by show w.heap.size + 1 ≠ _; omega)]
          exact h1
        have H2 : Hid ((gtB f.nm b && nameB f.nm.data.toList && filled f && takeB L f.cs) = true → Cel w2 (w.heap.size + 1 + 1) 1 (fun _ => .string f.nm) ∧ IsSet w2 w.heap.size (.agg #[]) (L ++ f.cs)) := h2
        clear h2 hf2 q0 q1 q2
        generalize hgo : (gtB f.nm b && nameB f.nm.data.toList && filled f && takeB L f.cs) = g at *
        cases g with
        | true =>
          have HE : Hid (rightFrom ⟨#[]⟩ [] l = rightFrom f.nm (L ++ f.cs) (l.drop (k + 1))) := by
            show rightFrom ⟨#[]⟩ [] l = _
            rw [HRF.out, HST.out]; rfl
          clear hgo HST
          go_wp2_with fail
          go_roundw
          case rel => exact ⟨k + 1, f.nm, L ++ f.cs, by omega, by go_num, HE.out, HS2.out, (H2.out trivial).2, HSB2.out, (H2.out trivial).1⟩
          case measure => simp [intOf]; omega
        | false =>
          have HE : Hid (right l = false) := by
            show right l = false
            rw [HB.out, HRF.out, HST.out]; rfl
          clear hgo HST
          go_wp2_with fail
          go_ret
          exact ⟨by rw [HE.out]; rfl, HS2.out⟩
      · have hke : k = l.length := by omega
        have HE : Hid (right l = true) := by
          show right l = true
          rw [HB.out, HRF.out, hke, List.drop_length]; rfl
        clear HRF
        subst hke
        go_wp2_with fail
        go_ret
        exact ⟨by rw [HE.out]; rfl, HS.out⟩
end En
end Go.Proofs.YtceoamhenpohhaaGreatDoor
