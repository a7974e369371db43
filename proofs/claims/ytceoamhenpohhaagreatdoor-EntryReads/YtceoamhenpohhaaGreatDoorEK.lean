/- Package entry: Free. -/
import Derived.Test.YtceoamhenpohhaaGreatDoorEG
import Derived.Test.YtceoamhenpohhaaGreatDoorEH
namespace Go.Proofs.YtceoamhenpohhaaGreatDoor
set_option linter.unusedSimpArgs false
set_option linter.unusedVariables false
set_option maxRecDepth 100000
namespace En
open Go.RowKit
theorem owns_low {w : World} {b b' : Nat} {t : TypeId} {sz n : Nat} {v : Value} {xs : List Value} (h : w.ownsRow b t sz v n xs) (hb : b' ≤ b) : w.ownsRow b' t sz v n xs := by
  refine ⟨h.1, ?_⟩
  rcases h.2 with h2 | ⟨g, cap, cur, hv, h3, rest⟩
  · exact .inl h2
  · exact .inr ⟨g, cap, cur, hv, Nat.le_trans hb h3, rest⟩
theorem files21_eq : files21 = (List.range 21).map (fun (i : Nat) => (i : Int) + 3) := by decide
/-- the first k cells of files that are in no list -/
def freeK (A : List Int) (k : Nat) : List Int := ((List.range k).map (fun (i : Nat) => (i : Int) + 3)).filter (fun c => !(decide (c ∈ A)))
theorem freeK_all (l : List Fi) : freeK (allC l) 21 = freeL l := by
  unfold freeK freeL
  rw [files21_eq]
theorem freeK_in {A : List Int} {k : Nat} (h : (k : Int) + 3 ∈ A) : freeK A (k + 1) = freeK A k := by
  unfold freeK
  rw [List.range_succ, List.map_append, List.filter_append]
  simp [h]
theorem freeK_out {A : List Int} {k : Nat} (h : (k : Int) + 3 ∉ A) : freeK A (k + 1) = freeK A k ++ [(k : Int) + 3] := by
  unfold freeK
  rw [List.range_succ, List.map_append, List.filter_append]
  simp [h]
theorem freeK_len (A : List Int) (k : Nat) : (freeK A k).length ≤ k := by
  unfold freeK
  refine Nat.le_trans (List.length_filter_le _ _) (by simp)
theorem allC_take (l : List Fi) (k : Nat) (f : Fi) (h : l[k]? = some f) : allC (l.take (k + 1)) = allC (l.take k) ++ f.cs := by
  rw [List.take_add_one, h]
  simp [allC]
theorem allC_split (l : List Fi) (k : Nat) (f : Fi) (h : l[k]? = some f) : allC l = allC (l.take k) ++ (f.cs ++ allC (l.drop (k + 1))) := by
  have hk := (List.getElem?_eq_some_iff.1 h).1
  have e : l = l.take k ++ (f :: l.drop (k + 1)) := by
    rw [← (List.getElem?_eq_some_iff.1 h).2, List.getElem_cons_drop]
    exact (List.take_append_drop k l).symm
  have : allC (l.take k ++ (f :: l.drop (k + 1))) = allC (l.take k) ++ (f.cs ++ allC (l.drop (k + 1))) := by simp [allC]
  rw [← e] at this
  exact this
theorem fresh_cell {l : List Fi} (hn : (allC l).Nodup) {k j : Nat} {f : Fi} {c : Int} (h : l[k]? = some f) (hj : f.cs[j]? = some c) : c ∉ allC (l.take k) ++ f.cs.take j := by
  have e := allC_split l k f h
  rw [e] at hn
  have hjl := (List.getElem?_eq_some_iff.1 hj).1
  have e2 : f.cs = f.cs.take j ++ (c :: f.cs.drop (j + 1)) := by
    rw [← (List.getElem?_eq_some_iff.1 hj).2, List.getElem_cons_drop]
    exact (List.take_append_drop j _).symm
  rw [e2, ← List.append_assoc, ← List.append_assoc] at hn
  have h1 := (List.nodup_append.1 ((List.nodup_append.1 hn).1)).2.2
  intro hm
  exact h1 c hm c (by simp) rfl
set_option maxHeartbeats 8000000 in
theorem free_any (l : List Fi) (v : Value) (w : World) (hl : Fls w v l) (hr : right l = true) :
    Calls Tryz.prog 15 #[v] w fun e w' => ∃ x, e = .returned x ∧ w'.ownsRow w.heap.size 3 1 x (freeL l).length (ivals (freeL l)) ∧ Since w w' := by
  obtain ⟨a, c, rfl, hcap, hrest⟩ := hl
  have HL : Hid (Fls w (.slice a l.length c) l) := ⟨a, c, rfl, hcap, hrest⟩
  have hr2 := hr
  rw [right, Bool.and_eq_true, decide_eq_true_eq] at hr2
  have hl8 := hr2.1
  have HN : Hid ((∀ c, c ∈ allC l → 3 ≤ c ∧ c < 24) ∧ (allC l).Nodup) := by
    obtain ⟨h1, h2, _⟩ := rightFrom_cells l _ _ hr2.2
    exact ⟨h1, h2⟩
  have HG : Hid (∀ f, f ∈ l → Good f) := right_good hr
  clear hrest hr hr2
  have hmm := @run_makeMap Tryz.prog
  have HM : Hid (IsSet (w.alloc (.map #[] 0)) w.heap.size (.agg #[]) []) := (MapKept.heap_alloc w (.map #[] 0)).1
  have HS0 : Hid (Since w (w.alloc (.map #[] 0))) := (Since.refl _).alloc _
  go_enter Tryz.func15, Tryz.ntmps15
  go_upto_region 2 with fail
  clear hmm
  generalize w.alloc (.map #[] 0) = w0 at *
  go_wp2_with fail
  go_loopw [15, 5, 7] (fun i _ _ wr => ∃ k : Nat, k ≤ l.length ∧ i = .int .i64 k ∧ IsSet wr w.heap.size (.agg #[]) (allC (l.take k)) ∧ Since w wr) (fun i _ _ _ => l.length - (intOf i).toNat)
  case atStart => exact ⟨0, by omega, rfl, HM.out, HS0.out⟩
  case round =>
    obtain ⟨k, hk, rfl, hset, hs⟩ := hrel
    have HSET : Hid (IsSet wr w.heap.size (.agg #[]) (allC (l.take k))) := hset
    have HS : Hid (Since w wr) := hs
    clear hset hs
    by_cases hlt : k < l.length
    · have hlt2 : (k : Int) < l.length := by omega
      have hE : Hid (l[k]? = some l[k]) := List.getElem?_eq_getElem hlt
      have HGF : Hid (Good l[k]) := HG.out l[k] (List.getElem_mem hlt)
      have HAT : Hid (allC (l.take (k + 1)) = allC (l.take k) ++ l[k].cs) := allC_take l k l[k] hE.out
      have HFR : Hid (∀ j c, l[k].cs[j]? = some c → c ∉ allC (l.take k) ++ l[k].cs.take j) := fun j c hj => fresh_cell HN.out.2 hE.out hj
      generalize l[k] = f at *
      obtain ⟨kb, ko, cv, rfl, hi, hkb, q0, q1, q2⟩ := (HL.out.since HS.out).at_ hE.out
      have HI : Hid (Ints wr cv f.cs) := hi
      clear hi
      obtain ⟨ca, cc, rfl⟩ : ∃ ca cc, cv = .slice ca f.cs.length cc := by
        obtain ⟨ca, cc, h, _⟩ := HI.out
        exact ⟨ca, cc, h⟩
      have HSA : Hid (Since wr (wr.alloc (.cells #[.string f.nm, .int .i64 f.sz, .slice ca f.cs.length cc] 44))) := (Since.refl _).alloc _
      have hcl := HGF.out.cs_le
      go_wp2_with fail
      have HSET1 : Hid (IsSet (wr.alloc (.cells #[.string f.nm, .int .i64 f.sz, .slice ca f.cs.length cc] 44)) w.heap.size (.agg #[]) (allC (l.take k))) := HSET.out.since HSA.out
      have HI1 : Hid (Ints (wr.alloc (.cells #[.string f.nm, .int .i64 f.sz, .slice ca f.cs.length cc] 44)) (.slice ca f.cs.length cc) f.cs) := HI.out.since HSA.out
      have HS1 : Hid (Since w (wr.alloc (.cells #[.string f.nm, .int .i64 f.sz, .slice ca f.cs.length cc] 44))) := HS.out.trans HSA.out
      clear q0 q1 q2 HSA HI HSET HS
      generalize wr.alloc (.cells #[.string f.nm, .int .i64 f.sz, .slice ca f.cs.length cc] 44) = w1 at *
      go_loopw [22, 7] (fun i _ wq => ∃ j : Nat, j ≤ f.cs.length ∧ i = .int .i64 j ∧ IsSet wq w.heap.size (.agg #[]) (allC (l.take k) ++ f.cs.take j) ∧ Ints wq (.slice ca f.cs.length cc) f.cs ∧ Since w wq) (fun i _ _ => f.cs.length - (intOf i).toNat)
      case atStart => exact ⟨0, by omega, rfl, by simpa using HSET1.out, HI1.out, HS1.out⟩
      case round =>
        obtain ⟨j, hj, rfl, hset, hi, hs⟩ := hrel
        have HSET : Hid (IsSet wr w.heap.size (.agg #[]) (allC (l.take k) ++ f.cs.take j)) := hset
        have HI : Hid (Ints wr (.slice ca f.cs.length cc) f.cs) := hi
        have HS : Hid (Since w wr) := hs
        clear hset hi hs
        by_cases hjl : j < f.cs.length
        · have hjl2 : (j : Int) < f.cs.length := by omega
          obtain ⟨a', c', hv, _, h2⟩ := HI.out
          obtain ⟨ib, io, ha, _, hcell⟩ := h2 (by omega)
          injection hv with e1 e2 e3
          subst e1
          subst ha
          have q := hcell j f.cs[j] (List.getElem?_eq_getElem hjl)
          have hnin := HFR.out j f.cs[j] (List.getElem?_eq_getElem hjl)
          have hrg := HGF.out.cell f.cs[j] (List.getElem_mem hjl)
          have HE : Hid (allC (l.take k) ++ f.cs.take (j + 1) = allC (l.take k) ++ f.cs.take j ++ [f.cs[j]]) := by
            show allC (l.take k) ++ f.cs.take (j + 1) = _
            rw [take_next _ _ hjl]; simp
          clear hcell h2 e2 e3
          generalize f.cs[j] = x at *
          have hfc := fileCell_any x
          rw [show cellB x = true by unfold cellB; simp; omega] at hfc
          have hup := set_update wr w.heap.size _ x HSET.out hnin
          clear hnin
          go_wp2_with (go_at_call 33; refine (hfc _).mono ?_; rintro e w' ⟨rfl, rfl⟩)
          go_roundw
          case rel => exact ⟨j + 1, by omega, by go_num, by rw [HE.out]; simp only [List.append_assoc]; exact setTo_is HSET.out, HI.out.fr HSET.out (fr_setTo _ _ _ _), Fr.since (fr_setTo _ _ _ _) HS.out (Nat.le_refl _) (fun k e => by cases e)⟩
          case measure => simp [intOf]; omega
        · have hje : j = f.cs.length := by omega
          subst hje
          rw [List.take_length] at HSET
          have HSET2 : Hid (IsSet wr w.heap.size (.agg #[]) (allC (l.take (k + 1)))) := by
            show IsSet wr _ _ (allC (l.take (k + 1)))
            rw [HAT.out]
            exact HSET.out
          go_wp2_with fail
          go_roundw
          case rel => exact ⟨k + 1, by omega, by go_num, HSET2.out, HS.out⟩
          case measure => simp [intOf]; omega
    · have hke : k = l.length := by omega
      subst hke
      rw [List.take_length] at HSET
      obtain ⟨i0, hi, hz0, hz1, hz2⟩ := info_parts info3'
      have HI : Hid (Tryz.prog.info? 3 = some i0 ∧ i0.zero = some (.int .i64 0) ∧ i0.size = 1 ∧ i0.bytes = 8) := ⟨hi, hz0, hz1, hz2⟩
      clear hi hz0 hz1 hz2
      have HFK : Hid (freeK (allC l) 21 = freeL l) := freeK_all l
      have HSETr : Hid (IsSet wr w.heap.size (.agg #[]) (allC l)) := HSET.out
      generalize allC l = A at *
      go_wp2_with fail
      go_loopw [9, 8, 10, 11] (fun i x _ _ wq => ∃ k : Nat, k ≤ 21 ∧ i = .int .i64 ((k : Int) + 3) ∧ wq.ownsRow (w.heap.size + 1) 3 1 x (freeK A k).length (ivals (freeK A k)) ∧ IsSet wq w.heap.size (.agg #[]) A ∧ Since w wq) (fun i _ _ _ _ => 24 - (intOf i).toNat)
      case atStart => exact ⟨0, by omega, rfl, World.ownsRow_nil _ _ _ _, HSETr.out, HS.out⟩
      case round =>
        obtain ⟨k, hk, rfl, hown, hset, hs⟩ := hrel
        have HOW : Hid (wr.ownsRow (w.heap.size + 1) 3 1 u8 (freeK A k).length (ivals (freeK A k))) := hown
        have HSETk : Hid (IsSet wr w.heap.size (.agg #[]) A) := hset
        have HSk : Hid (Since w wr) := hs
        clear hown hset hs
        have hfl := freeK_len A k
        by_cases h21 : k < 21
        · have h21' : (k : Int) + 3 < 24 := by omega
          have hlu := set_lookup wr w.heap.size A ((k : Int) + 3) HSETk.out
          by_cases hin : (k : Int) + 3 ∈ A
          · rw [decide_eq_true hin] at hlu
            have HE : Hid (freeK A (k + 1) = freeK A k) := freeK_in hin
            clear hin
            go_wp2_with fail
            go_roundw
            case rel => exact ⟨k + 1, by omega, by go_num, by rw [HE.out]; exact HOW.out.alloc _, HSETk.out.since ((Since.refl _).alloc _), HSk.out.alloc _⟩
            case measure => simp [intOf]; omega
          · rw [decide_eq_false hin] at hlu
            have HE : Hid (freeK A (k + 1) = freeK A k ++ [(k : Int) + 3]) := freeK_out hin
            have HOA : Hid ((wr.alloc (.cells #[] 65)).ownsRow (w.heap.size + 1) 3 1 u8 (freeK A k).length (ivals (freeK A k))) := HOW.out.alloc _
            have HSA : Hid (Since w (wr.alloc (.cells #[] 65))) := HSk.out.alloc _
            have HSE : Hid (IsSet (wr.alloc (.cells #[] 65)) w.heap.size (.agg #[]) A) := HSETk.out.since ((Since.refl _).alloc _)
            clear hin
            go_upto_region 18 with fail
            generalize wr.alloc (.cells #[] 65) = wa at *
            clear hlu
            have hsl := HSE.out.lt
            go_wp2_with (at_builtin; refine wpList_append_own _ (by rfl) _ _ _ (by rfl) (w.heap.size + 1) 3 i0 _ 1 8 Tryz.underlying35 HI.out.1 HI.out.2.1 HI.out.2.2.1 HI.out.2.2.2 (by rfl) (by decide) _ (freeK A k).length (ivals (freeK A k)) (by rfl) (World.ownsRow.alloc HOA.out _) ⟨wa.heap.size, 0, none⟩ 1 1 [.int .i64 ((k : Int) + 3)] (by rfl) (by rfl) (World.news_of_block (heap_alloc_new wa _)) (by simp [Value.oneCell']) (by unfold maxLen; omega) (by omega) (by simp; omega) ?_; intro x' w3 hown1 hgrow _)
            have HO1 : Hid (w3.ownsRow (w.heap.size + 1) 3 1 x' (freeK A (k + 1)).length (ivals (freeK A (k + 1)))) := by
              show World.ownsRow _ _ _ _ _ _ _
              rw [HE.out, List.length_append, show ivals (freeK A k ++ [(k : Int) + 3]) = ivals (freeK A k) ++ [.int .i64 ((k : Int) + 3)] from by simp [ivals]]
              exact hown1
            have HB1 : Hid (Below (w.heap.size + 1) wa w3) := Below.grown (Below.alloc (Below.refl _ wa) (by omega) _) hgrow (by simp; omega) (fun j hj => (HOA.out.lt j hj).1)
            have HG1 : Hid (Since w w3) := Below.trans (show Below w.heap.size w wa from HSA.out) (Below.mono HB1.out (Nat.le_succ _))
            have HSE1 : Hid (IsSet w3 w.heap.size (.agg #[]) A) := (HB1.out.block w.heap.size (Nat.lt_succ_self _)).trans HSE.out
            clear hown1 hgrow
            go_roundw
            case rel => exact ⟨k + 1, by omega, by go_num, HO1.out, HSE1.out, HG1.out⟩
            case measure => simp [intOf]; omega
        · have hke : k = 21 := by omega
          subst hke
          rw [HFK.out] at HOW
          go_wp2_with fail
          go_ret
          exact ⟨_, rfl, owns_low HOW.out (Nat.le_succ _), HSk.out⟩
end En
end Go.Proofs.YtceoamhenpohhaaGreatDoor
