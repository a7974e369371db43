import Derived.Maps.Ext
import Derived.Maps.StringElems
import Derived.Laws.IdiomRangeMap
import Derived.StringKeys
import Derived.Test.YtlgocfgnfdnloaaGreatDoorJ09
import Derived.Test.YtlgocfgnfdnloaaGreatDoorJ47
set_option linter.unusedSimpArgs false
set_option linter.unusedVariables false
section
namespace Go.Proofs.YtlgocfgnfdnloaaGreatDoor
set_option maxRecDepth 100000
namespace Fl
open Go.RowKit Go.Sort Go.Shelf
open En (Fi Fls Ints fval Row freeL allC need nameB filled)
open Vl
open Tw (Tb)
structure Dd where
  what : Int
  nm : ByteArray
  tx : ByteArray
def Dd.val (x : Dd) : Value := .agg #[.int .i64 x.what, .string x.nm, .string x.tx]
def Dds (w : World) (v : Value) (l : List Dd) : Prop := ∃ a c, v = .slice a l.length c ∧ l.length ≤ c ∧ (0 < l.length → ∃ k o, a = some ⟨k, o, none⟩ ∧ k < w.heap.size ∧ ∀ j x, l[j]? = some x → w.cell? ⟨k, o + j * 3, none⟩ = some (.int .i64 x.what) ∧ w.cell? ⟨k, o + j * 3 + 1, none⟩ = some (.string x.nm) ∧ w.cell? ⟨k, o + j * 3 + 2, none⟩ = some (.string x.tx))
theorem Dds.fs {P : Nat → Prop} {w w' : World} {v : Value} {l : List Dd} (h : Dds w v l) (hf : Fs P w w') (hp : ∀ k o n c, v = .slice (some ⟨k, o, none⟩) n c → ¬ P k) : Dds w' v l := by
  obtain ⟨a, c, hv, hc, h⟩ := h
  refine ⟨a, c, hv, hc, fun hn => ?_⟩
  obtain ⟨k, o, ha, hk, hc⟩ := h hn
  have hnp := hp k o l.length c (by rw [hv, ha])
  refine ⟨k, o, ha, Nat.lt_of_lt_of_le hk hf.size, fun j x hj => ?_⟩
  obtain ⟨h1, h2, h3⟩ := hc j x hj
  exact ⟨(hf.cell (p := ⟨k, o + j * 3, none⟩) hk hnp).trans h1, (hf.cell (p := ⟨k, o + j * 3 + 1, none⟩) hk hnp).trans h2, (hf.cell (p := ⟨k, o + j * 3 + 2, none⟩) hk hnp).trans h3⟩
theorem Dds.since {w w' : World} {v : Value} {l : List Dd} (h : Dds w v l) (hs : Since w w') : Dds w' v l := h.fs (P := fun _ => False) (Fs.of_since hs) (fun _ _ _ _ _ h => h)
theorem Dds.at_ {w : World} {a : Option Addr} {c : Nat} {l : List Dd} (h : Dds w (.slice a l.length c) l) {j : Nat} {x : Dd} (hj : l[j]? = some x) : ∃ k o, a = some ⟨k, o, none⟩ ∧ k < w.heap.size ∧ w.cell? ⟨k, o + j * 3, none⟩ = some (.int .i64 x.what) ∧ w.cell? ⟨k, o + j * 3 + 1, none⟩ = some (.string x.nm) ∧ w.cell? ⟨k, o + j * 3 + 2, none⟩ = some (.string x.tx) := by
  obtain ⟨a', c', hv, hc, h⟩ := h
  injection hv with e1 e2 e3
  subst e1 e3
  have hl := (List.getElem?_eq_some_iff.1 hj).1
  obtain ⟨k, o, ha, hk, hcell⟩ := h (by omega)
  exact ⟨k, o, ha, hk, hcell j x hj⟩
def dcl : List Dd → List Value
  | [] => []
  | x :: r => .int .i64 x.what :: .string x.nm :: .string x.tx :: dcl r
theorem dcl_len : ∀ l : List Dd, (dcl l).length = l.length * 3
  | [] => rfl
  | x :: r => by rw [dcl, List.length_cons, List.length_cons, List.length_cons, List.length_cons, dcl_len r]; omega
theorem dcl_append : ∀ l m : List Dd, dcl (l ++ m) = dcl l ++ dcl m
  | [], _ => rfl
  | x :: r, m => by rw [List.cons_append, dcl, dcl_append r m, dcl]; rfl
theorem dcl_get : ∀ (l : List Dd) (j : Nat) (x : Dd), l[j]? = some x → (dcl l)[j * 3]? = some (.int .i64 x.what) ∧ (dcl l)[j * 3 + 1]? = some (.string x.nm) ∧ (dcl l)[j * 3 + 2]? = some (.string x.tx)
  | [], j, x, h => by simp at h
  | y :: r, 0, x, h => by
    simp at h
    subst h
    exact ⟨rfl, rfl, rfl⟩
  | y :: r, j + 1, x, h => by
    have ih := dcl_get r j x (by simpa using h)
    have e : (j + 1) * 3 = j * 3 + 3 := by omega
    rw [e, dcl]
    simpa using ih
theorem dcl_one : ∀ (l : List Dd), ∀ u ∈ dcl l, u.oneCell' = true
  | [], u, h => by cases h
  | x :: r, u, h => by
    rw [dcl] at h
    rcases List.mem_cons.1 h with rfl | h
    · rfl
    · rcases List.mem_cons.1 h with rfl | h
      · rfl
      · rcases List.mem_cons.1 h with rfl | h
        · rfl
        · exact dcl_one r u h
theorem own_dds {w : World} {base : Nat} {v : Value} {l : List Dd} (ho : w.ownsRow base 88 3 v l.length (dcl l)) : Dds w v l := by
  rcases ho.2 with ⟨h', h0⟩ | ⟨g, cap, cur, h', hb, hg, hnc, _⟩
  · subst h'
    have : l = [] := List.length_eq_zero_iff.1 h0
    subst this
    exact ⟨none, 0, rfl, Nat.zero_le _, fun h => by simp at h⟩
  · subst h'
    refine ⟨some ⟨g, 0, none⟩, cap, rfl, hnc, fun _ => ⟨g, 0, rfl, (ho.lt g rfl).2, fun j x hj => ?_⟩⟩
    have hjl := (List.getElem?_eq_some_iff.1 hj).1
    obtain ⟨e0, e1, e2⟩ := dcl_get l j x hj
    refine ⟨?_, ?_, ?_⟩
    · rw [Nat.zero_add, ho.cellAt (j * 3) (by omega)]; exact e0
    · rw [Nat.zero_add, ho.cellAt (j * 3 + 1) (by omega)]; exact e1
    · rw [Nat.zero_add, ho.cellAt (j * 3 + 2) (by omega)]; exact e2
theorem infoD : (Tryz.prog.info? 88).map (fun i => (i.zero, i.size, i.bytes)) = some (some (.agg #[.int .i64 0, .string ByteArray.empty, .string ByteArray.empty]), 3, 40) := by kernel_rfl
def shortD (x : Dd) : Bool := decide (x.nm.size ≤ 40) && decide (x.tx.size ≤ 1800)
def dsB (l : List Dd) : Bool := decide (l.length ≤ 30) && l.all shortD
theorem deedsF_any (x : Dd) (w : World) : Calls Tryz.prog 103 #[x.val] w fun e w' => e = .returned (.bool (!shortD x)) ∧ Since w w' := by
  unfold Dd.val
  have HS : Hid (Since w (w.alloc (.cells #[.int .i64 x.what, .string x.nm, .string x.tx] 88))) := (Since.refl w).alloc _
  by_cases h1 : x.nm.size ≤ 40
  · have h1' : ¬ (40 : Int) < (x.nm.size : Int) := by omega
    by_cases h2 : x.tx.size ≤ 1800
    · have h2' : ¬ (1800 : Int) < (x.tx.size : Int) := by omega
      have HB : Hid (shortD x = true) := by show shortD x = true; unfold shortD; rw [decide_eq_true h1, decide_eq_true h2]; rfl
      clear h1 h2
      go_enter Tryz.func103, Tryz.ntmps103
      go_wp2_with fail
      go_ret
      exact ⟨by rw [HB.out]; rfl, HS.out⟩
    · have h2' : (1800 : Int) < (x.tx.size : Int) := by omega
      have HB : Hid (shortD x = false) := by show shortD x = false; unfold shortD; rw [decide_eq_true h1, decide_eq_false h2]; rfl
      clear h1 h2
      go_enter Tryz.func103, Tryz.ntmps103
      go_wp2_with fail
      go_ret
      exact ⟨by rw [HB.out]; rfl, HS.out⟩
  · have h1' : (40 : Int) < (x.nm.size : Int) := by omega
    have HB : Hid (shortD x = false) := by show shortD x = false; unfold shortD; rw [decide_eq_false h1]; rfl
    clear h1
    go_enter Tryz.func103, Tryz.ntmps103
    go_wp2_with fail
    go_ret
    exact ⟨by rw [HB.out]; rfl, HS.out⟩
theorem deedsF_enters : ∀ args w, (callFunc 103 args).run Tryz.prog w = .ok (.enter 103 args) w := enters_of Tryz.func103 (by kernel_rfl) rfl
set_option maxHeartbeats 2000000 in
theorem IFd_any (l : List Dd) (v : Value) (w : World) (hl : Dds w v l) (hn : l.length ≤ 1000) :
    Calls Tryz.prog 166 #[v, .func (.func 103) #[] #[]] w fun e w' => (∃ i : Int, e = .returned (.int .i64 i) ∧ (decide (0 ≤ i) = !l.all shortD)) ∧ Since w w' := by
  obtain ⟨a, c, rfl, hc⟩ : ∃ a c, v = .slice a l.length c ∧ l.length ≤ c := by
    obtain ⟨a, c, h1, h2, _⟩ := hl
    exact ⟨a, c, h1, h2⟩
  have HL : Hid (Dds w (.slice a l.length c) l) := hl
  have heg := deedsF_enters
  clear hl
  go_enter Tryz.func166, Tryz.ntmps166
  go_wp2_with fail
  go_loopw [8, 5] (fun i _ wr => ∃ k : Nat, k ≤ l.length ∧ i = .int .i64 k ∧ Since w wr ∧ (l.take k).all shortD = true) (fun i _ _ => l.length - (intOf i).toNat)
  case atStart => exact ⟨0, by omega, rfl, Since.refl _, rfl⟩
  case round =>
    obtain ⟨k, hk, rfl, hs, hno⟩ := hrel
    have HS : Hid (Since w wr) := hs
    have HNO : Hid ((l.take k).all shortD = true) := hno
    clear hs hno
    by_cases hlt : k < l.length
    · have hlt2 : (k : Int) < l.length := by omega
      have hE : Hid (l[k]? = some l[k]) := List.getElem?_eq_getElem hlt
      generalize l[k] = x at *
      obtain ⟨k1, o1, rfl, hl1, p0, p1, p2⟩ := (HL.out.since HS.out).at_ hE.out
      have hcl := deedsF_any x wr
      unfold Dd.val at hcl
      have HCL : Hid (Calls Tryz.prog 103 #[.agg #[.int .i64 x.what, .string x.nm, .string x.tx]] wr fun e w' => e = .returned (.bool (!shortD x)) ∧ Since wr w') := hcl
      clear hcl
      go_wp2_with fail
      refine HCL.out.mono ?_
      rintro e w1 ⟨rfl, h1⟩
      have HS1 : Hid (Since w w1) := HS.out.trans h1
      clear h1 p0 p1 p2
      cases hd : shortD x with
      | false =>
        have HEE : Hid (shortD x = false) := hd
        clear hd
        go_wp2_with fail
        go_ret
        refine ⟨⟨_, rfl, ?_⟩, HS1.out⟩
        have : l.all shortD = false := by
          rw [List.all_eq_false]
          exact ⟨x, List.mem_of_getElem? hE.out, by rw [HEE.out]; decide⟩
        rw [this]
        simp
      | true =>
        have HEE : Hid (shortD x = true) := hd
        clear hd
        go_wp2_with fail
        go_roundw
        case rel =>
          refine ⟨k + 1, by omega, by go_num, HS1.out, ?_⟩
          rw [List.take_add_one, hE.out, List.all_append, HNO.out]
          simp [HEE.out]
        case measure => simp [intOf]; omega
    · have hke : k = l.length := by omega
      subst hke
      go_wp2_with fail
      go_ret
      refine ⟨⟨_, rfl, ?_⟩, HS.out⟩
      have := HNO.out
      rw [List.take_length] at this
      rw [this]
      rfl
theorem CFd_any (l : List Dd) (v : Value) (w : World) (hl : Dds w v l) (hn : l.length ≤ 1000) :
    Calls Tryz.prog 102 #[v, .func (.func 103) #[] #[]] w fun e w' => e = .returned (.bool (!l.all shortD)) ∧ Since w w' := by
  have hi := IFd_any l v w hl hn
  obtain ⟨a, c, rfl, _⟩ : ∃ a c, v = .slice a l.length c ∧ l.length ≤ c := by
    obtain ⟨a, c, h1, h2, _⟩ := hl
    exact ⟨a, c, h1, h2⟩
  have HI : Hid (Calls Tryz.prog 166 #[.slice a l.length c, .func (.func 103) #[] #[]] w fun e w' => (∃ i : Int, e = .returned (.int .i64 i) ∧ (decide (0 ≤ i) = !l.all shortD)) ∧ Since w w') := hi
  clear hl hi
  go_enter Tryz.func102, Tryz.ntmps102
  go_wp2_with fail
  refine HI.out.mono ?_
  rintro e w1 ⟨⟨i, rfl, hi⟩, hs⟩
  have HS : Hid (Since w w1 ∧ decide (0 ≤ i) = !l.all shortD) := ⟨hs, hi⟩
  clear hi hs
  go_wp2_with fail
  go_ret
  exact ⟨by rw [← HS.out.2]; rfl, HS.out.1⟩
theorem deeds_any (l : List Dd) (v : Value) (w : World) (hl : Dds w v l) : Calls Tryz.prog 35 #[v] w fun e w' => e = .returned (.bool (dsB l)) ∧ Since w w' := by
  obtain ⟨a, c, rfl, _⟩ : ∃ a c, v = .slice a l.length c ∧ l.length ≤ c := by
    obtain ⟨a, c, h1, h2, _⟩ := hl
    exact ⟨a, c, h1, h2⟩
  by_cases h : l.length ≤ 30
  · have HC : Hid (Calls Tryz.prog 102 #[.slice a l.length c, .func (.func 103) #[] #[]] w fun e w' => e = .returned (.bool (!l.all shortD)) ∧ Since w w') := CFd_any l _ w hl (by omega)
    have h2 : (l.length : Int) ≤ 30 := by omega
    have HB : Hid (dsB l = l.all shortD) := by show dsB l = _; unfold dsB; rw [decide_eq_true h]; rfl
    clear hl h
    generalize l.all shortD = q at *
    go_enter Tryz.func35, Tryz.ntmps35
    go_wp2_with fail
    refine HC.out.mono ?_
    rintro e w1 ⟨rfl, hs⟩
    have HS : Hid (Since w w1) := hs
    clear hs
    go_wp2_with fail
    go_ret
    refine ⟨?_, HS.out⟩
    rw [HB.out]
    cases q <;> rfl
  · have h2 : ¬ (l.length : Int) ≤ 30 := by omega
    have HB : Hid (dsB l = false) := by show dsB l = _; unfold dsB; rw [decide_eq_false h]; rfl
    clear hl h
    go_enter Tryz.func35, Tryz.ntmps35
    go_wp2_with fail
    go_ret
    exact ⟨by rw [HB.out]; rfl, Since.refl _⟩
end Fl
end Go.Proofs.YtlgocfgnfdnloaaGreatDoor
end
section
namespace Go.Proofs.YtlgocfgnfdnloaaGreatDoor
set_option maxRecDepth 100000
namespace Fl
open Go.RowKit Go.Sort Go.Shelf
open En (Fi Fls Ints fval Row freeL allC need nameB filled)
open Vl
open Tw (Tb)
def oneD (nm : ByteArray) (x : Dd) : Dd := ⟨pkN 2 x.what, nm, x.tx.extract 0 (min x.tx.size 400)⟩
set_option maxHeartbeats 4000000 in
theorem one_any (l : List Dd) (v : Value) (nm : ByteArray) (w : World) (hl : Dds w v l) (hn : l.length ≤ 30) :
    Calls Tryz.prog 47 #[v, .string nm] w fun e w' => ∃ x, e = .returned x ∧ w'.ownsRow w.heap.size 88 3 x l.length (dcl (l.map (oneD nm))) ∧ Since w w' := by
  obtain ⟨a, c, rfl, hc⟩ : ∃ a c, v = .slice a l.length c ∧ l.length ≤ c := by
    obtain ⟨a, c, h1, h2, _⟩ := hl
    exact ⟨a, c, h1, h2⟩
  obtain ⟨i0, hi, hz0, hz1, hz2⟩ := info_parts' infoD
  have HI : Hid (Tryz.prog.info? 88 = some i0 ∧ i0.zero = some (.agg #[.int .i64 0, .string ByteArray.empty, .string ByteArray.empty]) ∧ i0.size = 3 ∧ i0.bytes = 40) := ⟨hi, hz0, hz1, hz2⟩
  have HL : Hid (Dds w (.slice a l.length c) l) := hl
  clear hl hi hz0 hz1 hz2
  go_enter Tryz.func47, Tryz.ntmps47
  go_wp2_with fail
  go_loopw [6, 5] (fun i x wr => ∃ k : Nat, k ≤ l.length ∧ i = .int .i64 k ∧ wr.ownsRow w.heap.size 88 3 x k (dcl ((l.take k).map (oneD nm))) ∧ Since w wr) (fun i _ _ => l.length - (intOf i).toNat)
  case atStart => exact ⟨0, by omega, rfl, World.ownsRow_nil _ _ _ _, Since.refl _⟩
  case round =>
    obtain ⟨k, hk, rfl, hx, hS⟩ := hrel
    have HX : Hid (wr.ownsRow w.heap.size 88 3 u5 k (dcl ((l.take k).map (oneD nm)))) := hx
    have HS : Hid (Since w wr) := hS
    clear hx hS
    by_cases hlt : k < l.length
    · have hlt2 : (k : Int) < l.length := by omega
      have hE : Hid (l[k]? = some l[k]) := List.getElem?_eq_getElem hlt
      have HPT : Hid (dcl ((l.take (k + 1)).map (oneD nm)) = dcl ((l.take k).map (oneD nm)) ++ [.int .i64 (pkN 2 (l[k]).what), .string nm, .string ((l[k]).tx.extract 0 (min (l[k]).tx.size 400))]) := by
        show dcl ((l.take (k + 1)).map (oneD nm)) = _
        rw [List.take_add_one, hE.out, List.map_append, dcl_append]
        rfl
      generalize l[k] = x at *
      obtain ⟨k1, o1, rfl, hl1, p0, p1, p2⟩ := HL.out.at_ hE.out
      have HQ : Hid (∀ W, Since w W → W.cell? ⟨k1, o1 + k * 3, none⟩ = some (.int .i64 x.what) ∧ W.cell? ⟨k1, o1 + k * 3 + 2, none⟩ = some (.string x.tx)) := fun W hW => ⟨(hW.cell (p := ⟨k1, o1 + k * 3, none⟩) hl1).trans p0, (hW.cell (p := ⟨k1, o1 + k * 3 + 2, none⟩) hl1).trans p2⟩
      obtain ⟨m, hm⟩ : ∃ m : Nat, min x.tx.size 400 = m := ⟨_, rfl⟩
      rw [hm] at HPT
      have hmn : min (x.tx.size : Int) 400 = (m : Int) := by omega
      have hm1 : (m : Int) ≤ (x.tx.size : Int) := by omega
      have hm2 : m ≤ x.tx.size := by omega
      have hk30 : k ≤ 29 := by omega
      have HOA : Hid ((wr.drew.alloc (.cells #[.int .i64 (pkN 2 x.what), .string nm, .string (x.tx.extract 0 m)] 88)).ownsRow w.heap.size 88 3 u5 k (dcl ((l.take k).map (oneD nm))) ∧ w.heap.size ≤ (wr.drew.alloc (.cells #[.int .i64 (pkN 2 x.what), .string nm, .string (x.tx.extract 0 m)] 88)).heap.size) := ⟨(En.owns_since HX.out ((Since.refl wr).drew.alloc _)), Nat.le_trans HS.out.size ((Since.refl wr).drew.alloc _).size⟩
      clear p0 p1 p2 hm
      go_wp2_with fail
      go_region_held3 (fun W => W.cell? ⟨k1, o1 + k * 3, none⟩ = some (.int .i64 x.what) ∧ W.cell? ⟨k1, o1 + k * 3 + 2, none⟩ = some (.string x.tx)) (first | exact HQ.out _ HS.out | exact HQ.out _ HS.out.drew | exact HQ.out _ (HS.out.drew.alloc _) | exact HQ.out _ HS4.out) (first
        | (refine step_append_lies _ (by rfl) (.tmp 13) (.tmp 35) 81 (by rfl) w.heap.size 88 i0 _ 3 40 Tryz.underlying81 HI.out.1 HI.out.2.1 HI.out.2.2.1 HI.out.2.2.2 (by rfl) (by decide) u5 k (dcl ((l.take k).map (oneD nm))) (by rfl) HOA.out.1 ⟨wr.heap.size, 0, none⟩ 1 1 [.int .i64 (pkN 2 x.what), .string nm, .string (x.tx.extract 0 m)] (by rfl) (by rfl) (World.news_of_block (heap_alloc_new wr.drew _)) (by simp [Value.oneCell']) (by decide) (by unfold maxLen; omega) (by omega) HOA.out.2 (wr.heap.size + 1) (by simp) ?_; intro g2 cap2 w4 hown2 hgrow2 hat2 hlt4; have HO2 : Hid (w4.ownsRow w.heap.size 88 3 (.slice (some ⟨g2, 0, none⟩) (k + 1) cap2) (k + 1) (dcl ((l.take k).map (oneD nm)) ++ [.int .i64 (pkN 2 x.what), .string nm, .string (x.tx.extract 0 m)])) := hown2; have HS4 : Hid (Since w w4) := Below.grown (Since.alloc HS.out.drew _) hgrow2 HOA.out.2 (fun j hj => (HX.out.lt j hj).1); clear hown2 hgrow2 hat2 hlt4)
        | (go_simp; go_at_call 43; refine (pickN_any 2 x.what _ (by omega) (by omega)).mono ?_; rintro e w3 ⟨rfl, rfl⟩; dsimp only))
      all_goals
        go_wp2_with fail
        go_roundw
        case rel => exact ⟨k + 1, by omega, by go_num, by rw [HPT.out]; exact HO2.out, HS4.out⟩
        case measure => simp [intOf]; omega
    · have hke : k = l.length := by omega
      subst hke
      go_wp2_with fail
      go_ret
      exact ⟨_, rfl, by have := HX.out; rw [List.take_length] at this; exact this, HS.out⟩
theorem keyS : Maps.Keyed Tryz.prog 9 := Maps.string_keyed Tryz.underlying9
theorem key_s (s : ByteArray) (hs : s.size ≤ maxLen) : keyOf Tryz.prog 9 (.string s) = some (.string s.data.toList) := Go.WideMaps.keyOf_string_mk Tryz.underlying9 hs
theorem with_nil (s t : ByteArray) (b : Bool) (w : World) (hs : s.size ≤ 1000000) (ht : t.size ≤ 1000000) : Calls Tryz.prog 42 #[.map none, .string s, .string t, .bool b] w fun e w' => (∃ m, e = .returned (.map (some m))) ∧ Since w w' := by
  have hmm := @run_makeMap Tryz.prog
  have hrg := run_range_nilMap (P := Tryz.prog) (w.alloc (.map #[] 0)) 84 9 9 Tryz.underlying84
  have hnx : ∀ ty, (Instr.next (.pointer (some ⟨(w.alloc (.map #[] 0)).heap.size, 0, none⟩)) false ty).run Tryz.prog ((w.alloc (.map #[] 0)).alloc (.mapIter none 0 #[] 0)) = _ := fun ty => run_next_nilMap _ ty 0 0 #[]
  have e1 : (w.alloc (.map #[] 0)).heap.size = w.heap.size + 1 := by simp
  rw [e1] at hrg hnx
  have hown : ((w.alloc (.map #[] 0)).alloc (.mapIter none 0 #[] 0)).ownsMap (H := Unit) Tryz.prog 9 (plainElem Tryz.prog 9) w.heap.size 0 (.map []) := (World.ownsMap_made _ _ _ _).alloc _
  have HOW : Hid (((w.alloc (.map #[] 0)).alloc (.mapIter none 0 #[] 0)).ownsMap (H := Unit) Tryz.prog 9 (plainElem Tryz.prog 9) w.heap.size 0 (.map [])) := hown
  have HS : Hid (Since w ((w.alloc (.map #[] 0)).alloc (.mapIter none 0 #[] 0))) := ((Since.refl w).alloc _).alloc _
  have HK : Hid (keyOf Tryz.prog 9 (.string s) = some (.string s.data.toList) ∧ plainElem (H := Unit) Tryz.prog 9 (.string t) = some (.lit (.string t.data.toList), [])) := ⟨key_s s (by unfold maxLen; omega), plainElem_string Tryz.underlying9 (by unfold maxLen; omega)⟩
  clear hown hs ht
  cases b with
  | false =>
    go_enter Tryz.func42, Tryz.ntmps42
    go_wp2
    refine wp_loop_rounds 1 ?_
    rw [rounds_succ]
    go_wp2
    go_ret
    exact ⟨⟨_, rfl⟩, HS.out⟩
  | true =>
    go_enter Tryz.func42, Tryz.ntmps42
    go_wp2
    refine wp_loop_rounds 1 ?_
    rw [rounds_succ]
    go_wp2_with (first
      | (at_mapUpdate; refine wpList_mapUpdate_own _ rfl _ _ _ 84 rfl 9 9 keyS Tryz.underlying84 _ w.heap.size _ _ rfl HOW.out (by decide) _ _ _ rfl rfl HK.out.1 _ [] HK.out.2 ?_; intro w2 hout2 hg2; go_frame)
      | go_in)
    have HS2 : Hid (Since w w2) := Below.grown HS.out hg2 HS.out.size (fun j hj => by cases hj; exact Nat.le_refl _)
    clear hout2 hg2
    go_wp2
    go_ret
    exact ⟨⟨_, rfl⟩, HS2.out⟩
end Fl
end Go.Proofs.YtlgocfgnfdnloaaGreatDoor
end
section
namespace Go.Proofs.YtlgocfgnfdnloaaGreatDoor
set_option maxRecDepth 100000
namespace Fl
open Go.RowKit Go.Sort Go.Shelf
open En (Fi Fls Ints fval Row freeL allC need nameB filled)
open Vl
open Tw (Tb)
def stp (f : ByteArray → Option (List UInt8)) (x : Dd) : ByteArray → Option (List UInt8) := fun u => if u = x.nm then (if x.what = 0 then some x.tx.data.toList else none) else f u
def fin (l : List Dd) : ByteArray → Option (List UInt8) := l.foldl stp (fun _ => none)
theorem fin_take (l : List Dd) (k : Nat) (x : Dd) (h : l[k]? = some x) : fin (l.take (k + 1)) = stp (fin (l.take k)) x := by
  unfold fin
  rw [List.take_add_one, h, List.foldl_append]
  rfl
theorem fin_filter (u : ByteArray) : ∀ (l : List Dd) (f g : ByteArray → Option (List UInt8)), f u = g u → (l.foldl stp f) u = ((l.filter (fun x => decide (x.nm = u))).foldl stp g) u
  | [], f, g, h => h
  | x :: r, f, g, h => by
    rw [List.foldl_cons]
    by_cases e : x.nm = u
    · rw [List.filter_cons_of_pos (by simpa using e), List.foldl_cons]
      refine fin_filter u r _ _ ?_
      unfold stp
      rw [if_pos e.symm, if_pos e.symm]
    · rw [List.filter_cons_of_neg (by simpa using e)]
      refine fin_filter u r _ _ ?_
      unfold stp
      rw [if_neg (fun e' => e e'.symm)]
      exact h
theorem fin_same {l m : List Dd} (h : ∀ u, l.filter (fun x => decide (x.nm = u)) = m.filter (fun x => decide (x.nm = u))) : fin l = fin m := by
  funext u
  unfold fin
  rw [fin_filter u l _ (fun _ => none) rfl, fin_filter u m _ (fun _ => none) rfl, h u]
structure Abd (x : Dd) : Prop where
  nm : x.nm = nmA ∨ x.nm = nmB'
  what : x.what = 0 ∨ x.what = 1
  tx : x.tx.size ≤ 400
theorem Abd.name {x : Dd} (h : Abd x) : nameB x.nm.data.toList = true ∧ x.nm.size ≤ 1 := by
  rcases h.nm with e | e <;> rw [e]
  · exact ⟨nameA, by decide⟩
  · exact ⟨nameBb, by decide⟩
def Sma (l : List Fi) : Prop := ∀ f ∈ l, (f.nm = nmA ∨ f.nm = nmB') ∧ f.cs.length ≤ 5
theorem sma_len {l : List Fi} (h : Sma l) (hd : Dif l) : l.length ≤ 2 := by
  match l, h, hd with
  | [], _, _ => simp
  | [_], _, _ => simp
  | [_, _], _, _ => simp
  | f :: g :: i :: r, h, hd =>
    exfalso
    unfold Dif at hd
    rw [List.pairwise_cons, List.pairwise_cons] at hd
    have h1 := hd.1 g (by simp)
    have h2 := hd.1 i (by simp)
    have h3 := hd.2.1 i (by simp)
    rcases (h f (by simp)).1 with e1 | e1 <;> rcases (h g (by simp)).1 with e2 | e2 <;> rcases (h i (by simp)).1 with e3 | e3 <;> rw [e1] at h1 h2 <;> rw [e2] at h1 h3 <;> rw [e3] at h2 h3 <;> first | exact h1 rfl | exact h2 rfl | exact h3 rfl
theorem allC_len : ∀ (l : List Fi), (∀ f ∈ l, f.cs.length ≤ 5) → (allC l).length ≤ 5 * l.length
  | [], _ => by simp [allC]
  | f :: r, h => by
    have ih := allC_len r (fun g hg => h g (List.mem_cons_of_mem _ hg))
    have h1 := h f List.mem_cons_self
    have e : allC (f :: r) = f.cs ++ allC r := by simp [allC]
    rw [e, List.length_append, List.length_cons]
    omega
theorem but_sub {l : List Fi} {s : ByteArray} {f : Fi} (h : f ∈ butL l s) : f ∈ l := (List.mem_filter.1 h).1
theorem need5 {n : Nat} (h : n ≤ 400) : need n ≤ 5 := by
  unfold need
  split <;> omega
theorem sma_full {l : List Fi} (h : Sma l) (hr : En.right l = true) {s t : ByteArray} (ht : t.size ≤ 400) : fullB l s t = false := by
  have hb : Sma (butL l s) := fun f hf => h f (but_sub hf)
  have hrb := right_but hr s
  have h2 := sma_len hb (dif_right hrb)
  have h3 := allC_len (butL l s) (fun f hf => (hb f hf).2)
  have h4 := En.free_count hrb
  have h5 := need5 ht
  unfold fullB
  rw [decide_eq_false (by omega), decide_eq_false (by omega)]
  rfl
theorem sma_put {l l' : List Fi} (h : Sma l) (hr : En.right l = true) {s t : ByteArray} (hs : s = nmA ∨ s = nmB') (ht : t.size ≤ 400) (hp : (butL l s ++ [newF l s t]).Perm l') : Sma l' := fun f hf => by
  have hf' := hp.mem_iff.2 hf
  rcases List.mem_append.1 hf' with h1 | h1
  · exact h f (but_sub h1)
  · rw [List.mem_singleton] at h1
    subst h1
    refine ⟨hs, ?_⟩
    have h1 := (cellsF_len (sma_full h hr (s := s) ht)).1
    have h2 := need5 ht
    show (cellsF l s t).length ≤ 5
    omega
section
variable {w0 w w' : World} {fb vb db cb : Nat} {kb kt : ByteArray} {S : Vs} {v lv : Value} {d d0 : List Fv} {l l0 : List Fi} {n : Int} {k : Nat}
def Done (w0 w' : World) (fb vb db cb : Nat) (kb kt : ByteArray) (n : Int) (k : Nat) (g : ByteArray → Option (List UInt8)) : Prop := ∃ S' l' v' lv' d', Fm w0 w' fb vb db cb kb kt S' v' lv' d' l' ∧ Fok kb kt S' l' n k ∧ Sma l' ∧ ∀ u, txtOf S'.X l' u = g u
theorem Done.since {g : ByteArray → Option (List UInt8)} (h : Done w0 w fb vb db cb kb kt n k g) (hs : Since w w') : Done w0 w' fb vb db cb kb kt n k g := by
  obtain ⟨S', l', v', lv', d', h1, h2, h3, h4⟩ := h
  exact ⟨S', l', v', lv', d', h1.since hs, h2, h3, h4⟩
set_option maxHeartbeats 4000000 in
theorem doA_any (B : Base w0 kb kt) (LB : En.Lb w0) (hF : Fok kb kt S l n k) (hk : k + 24 < 108) (hn : n + 3000 < 900000000) (h : Fm w0 w fb vb db cb kb kt S v lv d l) (hsm : Sma l) (x : Dd) (hx : Abd x) :
    Calls Tryz.prog 37 #[.pointer (some ⟨fb, 0, none⟩), x.val, .map none] w fun e w' => (∃ y, e = .returned y) ∧ Done w0 w' fb vb db cb kb kt (n + 24) (k + 8) (stp (txtOf S.X l) x) := by
  obtain ⟨hnm, hn1⟩ := hx.name
  obtain ⟨xw, xn, xt⟩ := x
  have HF : Hid (Fm w0 w fb vb db cb kb kt S v lv d l ∧ Fok kb kt S l n k ∧ Sma l ∧ Abd ⟨xw, xn, xt⟩) := ⟨h, hF, hsm, hx⟩
  have HB : Hid (Base w0 kb kt ∧ En.Lb w0 ∧ k + 24 < 108 ∧ n + 3000 < 900000000) := ⟨B, LB, hk, hn⟩
  have HNM : Hid (nameB xn.data.toList = true ∧ xn.size ≤ 1) := ⟨hnm, hn1⟩
  have hnb : ¬ (w.heap.size = fb ∨ VP vb db cb v w.heap.size) := fun hh => by
    rcases hh with hh | hh
    · have := World.block_lt_of_cell? w _ h.c0
      simp at this
      omega
    · exact h.vol.notNew hh
  have HNB : Hid (¬ (w.heap.size = fb ∨ VP vb db cb v w.heap.size)) := hnb
  have hwh : xw = 0 ∨ xw = 1 := hx.what
  clear hnm hn1 B LB hF hk hn h hsm hx hnb
  unfold Dd.val
  dsimp only
  rcases hwh with e0 | e1
  · -- Put
    subst e0
    go_enter Tryz.func37, Tryz.ntmps37
    go_upto_region 2 with fail
    generalize hw1 : w.alloc (.cells #[.int .i64 0, .string xn, .string xt] 88) = w1
    have HS1 : Hid (Since w w1) := by
      show Since w w1
      rw [← hw1]
      exact (Since.refl w).alloc _
    have p0 : w1.cell? ⟨w.heap.size, 0, none⟩ = some (.int .i64 0) := by rw [← hw1]; simp
    have p1 : w1.cell? ⟨w.heap.size, 1, none⟩ = some (.string xn) := by rw [← hw1]; simp
    have p2 : w1.cell? ⟨w.heap.size, 2, none⟩ = some (.string xt) := by rw [← hw1]; simp
    clear hw1
    have hx := HF.out.2.2.2
    have hfu := sma_full HF.out.2.2.1 HF.out.2.1.right (s := xn) hx.tx
    have hp := fputG HB.out.1 HB.out.2.1 HF.out.2.1 HB.out.2.2.1 HB.out.2.2.2 (HF.out.1.since HS1.out) xn xt (by have := HNM.out.2; omega) (by have h1 : xt.size ≤ 400 := hx.tx; omega) HNM.out.1 hfu
    have HP : Hid (Calls Tryz.prog 15 #[.pointer (some ⟨fb, 0, none⟩), .string xn, .string xt] w1 fun e w' => e = .returned .nilIface ∧ (∀ o u, w1.cell? ⟨w.heap.size, o, none⟩ = some u → w'.cell? ⟨w.heap.size, o, none⟩ = some u) ∧ Done w0 w' fb vb db cb kb kt (n + 24) (k + 8) (stp (txtOf S.X l) ⟨0, xn, xt⟩)) := hp.mono (fun e w' hh => by
      obtain ⟨rfl, S', l', v', lv', d', hF', hok', htx', hp', _, hfs, _⟩ := hh
      refine ⟨rfl, fun o u hu => (hfs.cell (p := ⟨w.heap.size, o, none⟩) (World.block_lt_of_cell? _ _ hu) HNB.out).trans hu, S', l', v', lv', d', hF', hok'.le (Int.le_refl _) ?_, sma_put HF.out.2.2.1 HF.out.2.1.right hx.nm hx.tx hp', fun u => ?_⟩
      · have h1 : ((cellsF l xn xt).length : Int) = need xt.size := (cellsF_len hfu).1
        have h2 : need xt.size ≤ 5 := need5 hx.tx
        omega
      · rw [htx' u]
        unfold stp
        dsimp only
        rw [if_pos rfl])
    have HWI : Hid (∀ W, Calls Tryz.prog 42 #[.map none, .string xn, .string xt, .bool true] W fun e w' => (∃ m, e = .returned (.map (some m))) ∧ Since W w') := fun W => with_nil xn xt true W (by have := HNM.out.2; omega) (by have h1 : xt.size ≤ 400 := hx.tx; omega)
    clear hp hfu hx
    go_wp2_with fail
    refine HP.out.mono ?_
    rintro e w2 ⟨rfl, hcell, hd⟩
    have q1 := hcell 1 _ p1
    have q2 := hcell 2 _ p2
    have HD : Hid (Done w0 w2 fb vb db cb kb kt (n + 24) (k + 8) (stp (txtOf S.X l) ⟨0, xn, xt⟩)) := hd
    clear hcell hd p0 p1 p2
    go_wp2_with fail
    refine (HWI.out _).mono ?_
    rintro e w3 ⟨⟨m, rfl⟩, hs3⟩
    have HD3 : Hid (Done w0 w3 fb vb db cb kb kt (n + 24) (k + 8) (stp (txtOf S.X l) ⟨0, xn, xt⟩)) := HD.out.since hs3
    clear hs3 q1 q2
    go_wp2_with fail
    go_ret2
    exact ⟨⟨_, rfl⟩, HD3.out⟩
  · subst e1
    by_cases hin : ∃ f ∈ l, f.nm = xn
    · have HIN : Hid (∃ f ∈ l, f.nm = xn) := hin
      clear hin
      go_enter Tryz.func37, Tryz.ntmps37
      go_upto_region 2 with fail
      generalize hw1 : w.alloc (.cells #[.int .i64 1, .string xn, .string xt] 88) = w1
      have HS1 : Hid (Since w w1) := by
        show Since w w1
        rw [← hw1]
        exact (Since.refl w).alloc _
      have p0 : w1.cell? ⟨w.heap.size, 0, none⟩ = some (.int .i64 1) := by rw [← hw1]; simp
      have p1 : w1.cell? ⟨w.heap.size, 1, none⟩ = some (.string xn) := by rw [← hw1]; simp
      clear hw1
      have hp := fdelG HB.out.1 HB.out.2.1 HF.out.2.1 HB.out.2.2.1 HB.out.2.2.2 (HF.out.1.since HS1.out) xn HIN.out
      have HP : Hid (Calls Tryz.prog 17 #[.pointer (some ⟨fb, 0, none⟩), .string xn] w1 fun e w' => e = .returned .nilIface ∧ (∀ o u, w1.cell? ⟨w.heap.size, o, none⟩ = some u → w'.cell? ⟨w.heap.size, o, none⟩ = some u) ∧ Done w0 w' fb vb db cb kb kt (n + 24) (k + 8) (stp (txtOf S.X l) ⟨1, xn, xt⟩)) := hp.mono (fun e w' hh => by
        obtain ⟨rfl, S', v', lv', d', hF', hok', htx', _, hfs, _⟩ := hh
        refine ⟨rfl, fun o u hu => (hfs.cell (p := ⟨w.heap.size, o, none⟩) (World.block_lt_of_cell? _ _ hu) HNB.out).trans hu, S', _, v', lv', d', hF', hok'.le (Int.le_refl _) (by omega), fun f hf => HF.out.2.2.1 f (but_sub hf), fun u => ?_⟩
        rw [htx' u]
        unfold stp
        dsimp only
        by_cases hu : u = xn
        · rw [if_pos hu, if_pos hu, if_neg (by decide)]
        · rw [if_neg hu, if_neg hu])
      have HWI : Hid (∀ W, Calls Tryz.prog 42 #[.map none, .string xn, .string ⟨#[]⟩, .bool false] W fun e w' => (∃ m, e = .returned (.map (some m))) ∧ Since W w') := fun W => with_nil xn ⟨#[]⟩ false W (by have := HNM.out.2; omega) (by decide)
      clear hp
      go_wp2_with fail
      refine HP.out.mono ?_
      rintro e w2 ⟨rfl, hcell, hd⟩
      have q1 := hcell 1 _ p1
      have HD : Hid (Done w0 w2 fb vb db cb kb kt (n + 24) (k + 8) (stp (txtOf S.X l) ⟨1, xn, xt⟩)) := hd
      clear hcell hd p0 p1
      go_wp2_with fail
      refine (HWI.out _).mono ?_
      rintro e w3 ⟨⟨m, rfl⟩, hs3⟩
      have HD3 : Hid (Done w0 w3 fb vb db cb kb kt (n + 24) (k + 8) (stp (txtOf S.X l) ⟨1, xn, xt⟩)) := HD.out.since hs3
      clear hs3 q1
      go_wp2_with fail
      go_ret2
      exact ⟨⟨_, rfl⟩, HD3.out⟩
    · have HIN : Hid (∀ f ∈ l, ¬ f.nm = xn) := fun f hf e => hin ⟨f, hf, e⟩
      clear hin
      go_enter Tryz.func37, Tryz.ntmps37
      go_upto_region 2 with fail
      generalize hw1 : w.alloc (.cells #[.int .i64 1, .string xn, .string xt] 88) = w1
      have HS1 : Hid (Since w w1) := by
        show Since w w1
        rw [← hw1]
        exact (Since.refl w).alloc _
      have p0 : w1.cell? ⟨w.heap.size, 0, none⟩ = some (.int .i64 1) := by rw [← hw1]; simp
      have p1 : w1.cell? ⟨w.heap.size, 1, none⟩ = some (.string xn) := by rw [← hw1]; simp
      clear hw1
      have hp := fdel_any HB.out.1 HB.out.2.1 n HF.out.2.1.good.ok (by have := HB.out.2.2.2; omega) (HF.out.1.since HS1.out) HF.out.2.1.right xn
      have HP : Hid (Calls Tryz.prog 17 #[.pointer (some ⟨fb, 0, none⟩), .string xn] w1 fun e w' => e = .returned (.iface 32 (.int .i64 7)) ∧ Since w1 w') := hp.mono (fun e w' hh => by
        rcases hh with ⟨_, rfl, hs⟩ | ⟨⟨f, hf, hfn⟩, _⟩
        · exact ⟨rfl, hs⟩
        · exact absurd hfn (HIN.out f hf))
      clear hp
      go_wp2_with fail
      refine HP.out.mono ?_
      rintro e w2 ⟨rfl, hs2⟩
      have HD : Hid (Done w0 w2 fb vb db cb kb kt (n + 24) (k + 8) (stp (txtOf S.X l) ⟨1, xn, xt⟩)) := by
        refine ⟨S, l, v, lv, d, (HF.out.1.since HS1.out).since hs2, HF.out.2.1.le (by omega) (by omega), HF.out.2.2.1, fun u => ?_⟩
        unfold stp
        dsimp only
        by_cases hu : u = xn
        · rw [if_pos hu, if_neg (by decide)]
          unfold txtOf
          rw [hu, find_none HIN.out]
          rfl
        · rw [if_neg hu]
      clear hs2 p0 p1
      go_wp2_with fail
      go_ret2
      exact ⟨⟨_, rfl⟩, HD.out⟩
end
end Fl
end Go.Proofs.YtlgocfgnfdnloaaGreatDoor
end
section
namespace Go.Proofs.YtlgocfgnfdnloaaGreatDoor
set_option maxRecDepth 100000
namespace Fl
open Go.RowKit Go.Sort Go.Shelf
open En (Fi Fls Ints fval Row freeL allC need nameB filled)
open Vl
open Tw (Tb)
def sayB (t : Option (List UInt8)) : ByteArray := ⟨(t.getD []).toArray⟩
def erV : Option (List UInt8) → Value
  | none => En.errV 7
  | some _ => .nilIface
theorem getV_eq (t : Option (List UInt8)) : getV t = .tuple #[.string (sayB t), erV t] := by cases t <;> rfl
def joinB (ns : List ByteArray) : ByteArray := ⟨(Lib.join (ns.map (·.data.toList)) [32]).toArray⟩
def outX (t : Option (List UInt8)) (ns : List ByteArray) : ByteArray := sayB t ++ ⟨#[124]⟩ ++ joinB ns
theorem join_nil (sep : ByteArray) (w : World) : Calls Tryz.prog 49 #[.slice none 0 0, .string sep] w fun e w' => e = .returned (.string ⟨#[]⟩) ∧ Since w w' := by
  go_enter Tryz.func49, Tryz.ntmps49
  go_wp2
  go_ret
  exact ⟨rfl, Since.refl _⟩
theorem joinTail_len : ∀ (xs : List (List UInt8)), (∀ x ∈ xs, x.length ≤ 10) → (Lib.joinTail [32] xs).length ≤ 11 * xs.length
  | [], _ => by simp [Lib.joinTail]
  | x :: r, h => by
    have ih := joinTail_len r (fun y hy => h y (List.mem_cons_of_mem _ hy))
    have h1 := h x List.mem_cons_self
    simp only [Lib.joinTail, List.map_cons, List.flatten_cons, List.length_append, List.length_cons, List.length_nil] at ih ⊢
    omega
theorem join_names {l : List Fi} (hr : En.right l = true) : (Lib.join ((l.map Fi.nm).map (·.data.toList)) [32]).length ≤ 1000 := by
  have hl8 := ((right_iff l).1 hr).1.len
  have hn : ∀ x ∈ (l.map Fi.nm).map (·.data.toList), x.length ≤ 10 := fun x hx => by
    obtain ⟨y, hy, rfl⟩ := List.mem_map.1 hx
    obtain ⟨f, hf, rfl⟩ := List.mem_map.1 hy
    exact (En.name_free (((right_iff l).1 hr).1.good f hf).1).2.2.2
  have hlen : ((l.map Fi.nm).map (·.data.toList)).length = l.length := by simp
  generalize (l.map Fi.nm).map (·.data.toList) = xs at *
  cases xs with
  | nil => simp [Lib.join]
  | cons x r =>
    have h1 := joinTail_len r (fun y hy => hn y (List.mem_cons_of_mem _ hy))
    have h2 := hn x List.mem_cons_self
    rw [Lib.join_cons, List.length_append]
    simp at hlen
    omega
theorem txtOf_size {X : Nat → ByteArray} (hx : ∀ i, (X i).size ≤ 80) {l : List Fi} (hr : En.right l = true) (s : ByteArray) : (sayB (txtOf X l s)).size ≤ 2000 := by
  show ((txtOf X l s).getD []).toArray.size ≤ 2000
  rw [List.size_toArray]
  unfold txtOf
  cases e : l.find? (fun f => decide (f.nm = s)) with
  | none => simp
  | some f =>
    have hf := List.mem_of_find?_eq_some e
    have h0 := catL_len X hx f.cs
    have h1 := (((right_iff l).1 hr).1.good f hf).2
    have h2 := En.need_le ((En.filled_iff f).1 h1).2.1
    have h3 := ((En.filled_iff f).1 h1).2.2
    show (catL X f.cs).length ≤ 2000
    omega
theorem joinB_size {l : List Fi} (hr : En.right l = true) : (joinB (l.map Fi.nm)).size ≤ 1000 := by
  show (Lib.join ((l.map Fi.nm).map (·.data.toList)) [32]).toArray.size ≤ 1000
  rw [List.size_toArray]
  exact join_names hr
theorem joinN_any {l : List Fi} (hr : En.right l = true) {N : Nat} (v : Value) (w : World) (ho : w.ownsRow N 9 1 v l.length (nmV l)) :
    Calls Tryz.prog 49 #[v, .string ⟨#[32]⟩] w fun e w' => e = .returned (.string (joinB (l.map Fi.nm))) ∧ Since w w' := by
  rcases ho.2 with ⟨h', h0⟩ | ⟨g, cap, cur, h', hb, hg, hnc, _⟩
  · subst h'
    have : l = [] := List.length_eq_zero_iff.1 h0
    subst this
    exact join_nil _ w
  · subst h'
    have hj := Tryz.strings_Join g 0 cap (l.map Fi.nm) ⟨#[32]⟩ w (fun j x hj => by
      have hjl := (List.getElem?_eq_some_iff.1 hj).1
      rw [List.length_map] at hjl
      rw [Nat.zero_add, ho.cellAt j (by omega)]
      unfold nmV
      rw [List.getElem?_map] at hj ⊢
      cases e : l[j]? with
      | none => rw [e] at hj; cases hj
      | some f =>
        rw [e] at hj
        simp only [Option.map_some, Option.some.injEq] at hj
        subst hj
        rfl) (ho.lt g rfl).2 (by
      have := ((right_iff l).1 hr).1.len
      rw [List.length_map]
      omega) (by rw [List.length_map]; exact hnc) (by
      have := join_names hr
      have e : (⟨#[32]⟩ : ByteArray).data.toList = [32] := rfl
      rw [e]
      omega)
    rw [List.length_map] at hj
    exact hj
set_option maxHeartbeats 4000000 in
theorem run_any (all : List Dd) (v : Value) (w : World) (hT : Sm.Tab w) (hL : En.Lb w) (hl : Dds w v all) (h8 : all.length ≤ 8) (hab : ∀ x ∈ all, Abd x) :
    Calls Tryz.prog 48 #[v] w fun e w' => (∃ l X, En.right l = true ∧ (∀ u, txtOf X l u = fin all u) ∧ e = .returned (.tuple #[.string (outX (fin all nmA) (l.map Fi.nm)), .string (sayB (fin all nmB')), .bool true])) ∧ Since w w' := by
  have HT : Hid (Sm.Tab w ∧ En.Lb w) := ⟨hT, hL⟩
  have HB : Hid (Base w (kbOf sec) (ktOf sec)) := ⟨hT, keyOf_size _ _, keyOf_size _ _⟩
  have HOP : Hid (∀ (W : World) (db cb : Nat) (v : Value), DC w W db cb dv0 0 v → Calls Tryz.prog 12 #[.pointer (some ⟨db, 0, none⟩), .pointer (some ⟨cb, 0, none⟩), .string ⟨#[48, 49, 50, 51, 52, 53, 54, 55, 56, 57, 97, 98, 99, 100, 101, 102]⟩] W fun e w' => ∃ vb v' fb lv d, e = .returned (.tuple #[.pointer (some ⟨fb, 0, none⟩), .nilIface]) ∧ Fm w w' fb vb db cb (kbOf sec) (ktOf sec) (fresh dv0 0) v' lv d []) := fun W db cb v hd => (fopenG (l := []) sec rfl HT.out.1 HT.out.2 (by omega) (by show 0 ≤ 1; omega) hd (fresh_good (kbOf sec) (ktOf sec)).2.2 (fresh_good (kbOf sec) (ktOf sec)).1.low right_nil rfl).mono (fun e w' hh => by
    obtain ⟨vb, S', v', fb, lv, d, rfl, hF, ⟨_, _, _, h4, _⟩, _⟩ := hh
    obtain rfl := h4 rfl
    exact ⟨vb, v', fb, lv, d, rfl, hF⟩)
  have HAB : Hid (∀ x ∈ all, Abd x) := hab
  obtain ⟨a, c, rfl, hc⟩ : ∃ a c, v = .slice a all.length c ∧ all.length ≤ c := by
    obtain ⟨a, c, h1, h2, _⟩ := hl
    exact ⟨a, c, h1, h2⟩
  have HL : Hid (Dds w (.slice a all.length c) all) := hl
  clear hT hL hl hab
  generalize kbOf sec = kb at *
  generalize ktOf sec = kt at *
  go_enter Tryz.func48, Tryz.ntmps48
  go_wp2_with fail
  refine (new_any _).mono ?_
  rintro e w1 ⟨rfl, rfl⟩
  go_wp2_with fail
  have hdc := dc_new w
  have HSZ : Hid (Since w ((w.alloc (.cells Tryz.zeroCells129 129)).alloc (.cells #[.int .i64 0] 30))) := ((Since.refl w).alloc _).alloc _
  generalize (w.alloc (.cells Tryz.zeroCells129 129)).alloc (.cells #[.int .i64 0] 30) = w1 at *
  generalize w.heap.size + 1 = cb at *
  generalize w.heap.size = db at *
  have HDC : Hid (DC w w1 db cb dv0 0 (.slice none 0 0)) := hdc
  clear hdc
  refine (HOP.out _ _ _ _ HDC.out).mono ?_
  rintro e w2 ⟨vb, v0, fb, lv0, d0, rfl, hF0⟩
  have HF0 : Hid (Fm w w2 fb vb db cb kb kt (fresh dv0 0) v0 lv0 d0 []) := hF0
  clear hF0
  go_wp2_with fail
  go_loopw [7] (fun i wr => ∃ k : Nat, k ≤ all.length ∧ i = .int .i64 k ∧ Done w wr fb vb db cb kb kt (24 * k) (8 * k) (fin (all.take k))) (fun i _ => all.length - (intOf i).toNat)
  case atStart => exact ⟨0, by omega, rfl, fresh dv0 0, [], v0, lv0, d0, HF0.out, fresh_fok kb kt, (fun f hf => by cases hf), fun u => rfl⟩
  case round =>
    obtain ⟨k, hk, rfl, S1, l1, v1, lv1, d1, hF, hok, hsm, htx⟩ := hrel
    have HR : Hid (Fm w wr fb vb db cb kb kt S1 v1 lv1 d1 l1 ∧ Fok kb kt S1 l1 (24 * k) (8 * k) ∧ Sma l1 ∧ ∀ u, txtOf S1.X l1 u = fin (all.take k) u) := ⟨hF, hok, hsm, htx⟩
    clear hF hok hsm htx
    by_cases hlt : k < all.length
    · have hlt2 : (k : Int) < all.length := by omega
      have hE : Hid (all[k]? = some all[k]) := List.getElem?_eq_getElem hlt
      have HFT : Hid (fin (all.take (k + 1)) = stp (fin (all.take k)) all[k]) := fin_take all k _ hE.out
      have HX : Hid (Abd all[k]) := HAB.out _ (List.getElem_mem hlt)
      generalize all[k] = x at *
      obtain ⟨k1, o1, rfl, hl1, p0, p1, p2⟩ := (HL.out.since HR.out.1.vol.since).at_ hE.out
      have hdo := doA_any HB.out HT.out.2 HR.out.2.1 (by omega) (by omega) HR.out.1 HR.out.2.2.1 x HX.out
      unfold Dd.val at hdo
      have hfe : stp (txtOf S1.X l1) x = fin (all.take (k + 1)) := by
        rw [HFT.out, show txtOf S1.X l1 = fin (all.take k) from funext HR.out.2.2.2]
      rw [hfe] at hdo
      have HDO : Hid (Calls Tryz.prog 37 #[.pointer (some ⟨fb, 0, none⟩), .agg #[.int .i64 x.what, .string x.nm, .string x.tx], .map none] wr fun e w' => (∃ y, e = .returned y) ∧ Done w w' fb vb db cb kb kt (24 * k + 24) (8 * k + 8) (fin (all.take (k + 1)))) := hdo
      clear hdo hfe
      go_wp2_with fail
      refine HDO.out.mono ?_
      rintro e w3 ⟨⟨y, rfl⟩, hd3⟩
      have HD3 : Hid (Done w w3 fb vb db cb kb kt (24 * ((k + 1 : Nat) : Int)) (8 * (k + 1)) (fin (all.take (k + 1)))) := by
        obtain ⟨S', l', v', lv', d', h1, h2, h3, h4⟩ := hd3
        exact ⟨S', l', v', lv', d', h1, h2.le (by omega) (by omega), h3, h4⟩
      clear hd3 p0 p1 p2
      go_wp2_with fail
      go_roundw
      case rel => exact ⟨k + 1, by omega, by go_num, HD3.out⟩
      case measure => simp [intOf]; omega
    · have hke : k = all.length := by omega
      subst hke
      have h4 := HR.out.2.2.2
      rw [List.take_length] at h4
      have H4 : Hid (∀ u, txtOf S1.X l1 u = fin all u) := h4
      have HG : Hid (∀ s W, Since wr W → Calls Tryz.prog 34 #[.pointer (some ⟨fb, 0, none⟩), .string s] W fun e w' => e = .returned (.tuple #[.string (sayB (fin all s)), erV (fin all s)]) ∧ Since W w') := fun s W hW => by
        have := fget_any (HR.out.1.since hW) HR.out.2.1.right HR.out.2.1.good.ok.txt s
        rw [h4 s, getV_eq] at this
        exact this
      have HN : Hid (∀ W, Since wr W → Calls Tryz.prog 28 #[.pointer (some ⟨fb, 0, none⟩)] W fun e w' => ∃ x, e = .returned x ∧ w'.ownsRow W.heap.size 9 1 x l1.length (nmV l1) ∧ Since W w') := fun W hW => fnames_any (HR.out.1.since hW) (by have := ((right_iff l1).1 HR.out.2.1.right).1.len; omega)
      clear h4
      go_wp2_with fail
      refine (HG.out nmA wr (Since.refl _)).mono ?_
      rintro e w3 ⟨rfl, hs3⟩
      have HS3 : Hid (Since wr w3) := hs3
      clear hs3
      generalize erV (fin all nmA) = e1
      go_wp2_with fail
      refine (HG.out nmB' w3 HS3.out).mono ?_
      rintro e w4 ⟨rfl, hs4⟩
      have HS4 : Hid (Since wr w4) := HS3.out.trans hs4
      clear hs4
      generalize erV (fin all nmB') = e2
      have hxa : ∃ q, sayB (fin all nmA) = q := ⟨_, rfl⟩
      obtain ⟨qa, hqa⟩ := hxa
      have hxb : ∃ q, sayB (fin all nmB') = q := ⟨_, rfl⟩
      obtain ⟨qb, hqb⟩ := hxb
      have HQ : Hid (sayB (fin all nmA) = qa ∧ sayB (fin all nmB') = qb) := ⟨hqa, hqb⟩
      have hqs : qa.size ≤ 2000 := by
        rw [← hqa, ← H4.out nmA]
        exact txtOf_size HR.out.2.1.good.ok.txt HR.out.2.1.right nmA
      rw [hqa, hqb]
      clear hqa hqb
      go_wp2_with fail
      refine (HN.out w4 HS4.out).mono ?_
      rintro e w5 ⟨x, rfl, hx5, hs5⟩
      have HS5 : Hid (Since wr w5) := HS4.out.trans hs5
      have HJ : Hid (Calls Tryz.prog 49 #[x, .string ⟨#[32]⟩] w5 fun e w' => e = .returned (.string (joinB (l1.map Fi.nm))) ∧ Since w5 w') := joinN_any HR.out.2.1.right x w5 hx5
      clear hs5 hx5
      have hxj : ∃ q, joinB (l1.map Fi.nm) = q := ⟨_, rfl⟩
      obtain ⟨qj, hqj⟩ := hxj
      have HQJ : Hid (joinB (l1.map Fi.nm) = qj) := hqj
      have hjs : qj.size ≤ 1000 := by
        rw [← hqj]
        exact joinB_size HR.out.2.1.right
      rw [hqj] at HJ
      clear hqj
      go_wp2_with fail
      refine HJ.out.mono ?_
      rintro e w6 ⟨rfl, hs6⟩
      have HS6 : Hid (Since wr w6) := HS5.out.trans hs6
      clear hs6
      go_wp2_with fail
      go_ret3
      refine ⟨⟨l1, S1.X, HR.out.2.1.right, H4.out, ?_⟩, HR.out.1.vol.since.trans HS6.out⟩
      unfold outX
      rw [HQ.out.1, HQ.out.2, HQJ.out]
      rfl
end Fl
end Go.Proofs.YtlgocfgnfdnloaaGreatDoor
end
