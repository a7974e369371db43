import Derived.Deep.Upon
import Derived.Deep.AppendLies
import Derived.Test.YtlgocfgnfdnloaaGreatDoorJ09
import Derived.Test.YtlgocfgnfdnloaaGreatDoorJ48
set_option linter.unusedSimpArgs false
set_option linter.unusedVariables false
section
namespace Go.Proofs.YtlgocfgnfdnloaaGreatDoor
set_option maxRecDepth 100000
namespace Fl
open Go.RowKit Go.Sort Go.Shelf
open En (Fi Fls Ints fval Row freeL allC need nameB filled)
open Vl
open Tw (Tb)
theorem listD_run {P : Program} {ops : Array Oper} {rest : List Oper} {o : Oper} {a : Act} {w w' : World} {Q : Exit → Act → World → Prop} (hgd : o.guard = none) (s x : Operand) (t : TypeId) (vs vx r : Value)
    (ho : o.op = .call { callee := .builtin .append, args := #[s, x], argTypes := #[t, t] }) (hs : a.eval s = vs) (hx : a.eval x = vx) (hr : (Builtin.append_ #[t, t] o.type #[vs, vx]).run P w = .ok r w') (h : wpList P ops Q rest (a.put o.dst r) w') : wpList P ops Q (o :: rest) a w :=
  wpList_plain hgd fun K hK => by
    unfold Oper.wp execOp
    simp only [ho, resolve, invoke, builtin, Sem.run_bind, Sem.run_pure, Result.andThen_ok, List.map_toArray, List.map_cons, List.map_nil, hs, hx, hr]
    exact hK _ _ h
theorem appendD (w : World) (ty base : Nat) (v x : Value) (xs ys : List Dd) (hown : w.ownsRow base 88 3 v xs.length (dcl xs)) (hx : Dds w x ys) (h1 : xs.length ≤ 1000) (h2 : ys.length ≤ 1000) (hbase : base ≤ w.heap.size) :
    ∃ v' w', (Builtin.append_ #[81, 81] ty #[v, x]).run Tryz.prog w = .ok v' w' ∧ w'.ownsRow base 88 3 v' (xs ++ ys).length (dcl (xs ++ ys)) ∧ w.grownBy w' v.ownBlock := by
  obtain ⟨i0, hi, hz0, hz1, hz2⟩ := info_parts' infoD
  obtain ⟨a, c, rfl, hc, hx⟩ := hx
  by_cases h0 : ys = []
  · subst h0
    obtain ⟨av, cv, rfl, hcv⟩ : ∃ a c, v = .slice a xs.length c ∧ xs.length ≤ c := by
      rcases hown.2 with ⟨h', h0⟩ | ⟨g, cap, cur, h', hb, hg, hnc, _⟩
      · exact ⟨none, 0, by rw [h', h0], by omega⟩
      · exact ⟨_, _, h', hnc⟩
    refine ⟨.slice av xs.length cv, w, ?_, by rw [List.append_nil]; exact hown, ⟨rfl, rfl, rfl, Nat.le_refl _, fun _ _ _ => rfl⟩⟩
    refine run_append_nothing w 81 81 ty 88 i0 Tryz.underlying81 hi _ xs.length cv hcv _ ⟨Or.inl ⟨88, Tryz.underlying81⟩, fun w' => ?_, ?_, ?_, by simp, by simp⟩
    · simp [Builtin.lenOf]
    · cases a <;> simp [Builtin.firstCells, loadCells, loadCellsFrom]
    · cases a <;> simp [Builtin.firstCells, loadCells, loadCellsFrom]
  · have hpos : 0 < ys.length := List.length_pos_iff.2 h0
    obtain ⟨k, o, rfl, hk, hcell⟩ := hx hpos
    obtain ⟨g, cap, w', hr, r2, r3, r4, r5⟩ := run_append_lies (P := Tryz.prog) w 81 ty base 88 i0 _ 3 40 Tryz.underlying81 hi hz0 hz1 hz2 rfl (by decide) v xs.length (dcl xs) hown ⟨k, o, none⟩ ys.length c (dcl ys) (by rw [dcl_len]) (fun j u hu => by
      have hj : j < ys.length * 3 := by have := (List.getElem?_eq_some_iff.1 hu).1; rwa [dcl_len] at this
      have hd : j = j / 3 * 3 + j % 3 := by omega
      have hq : j / 3 < ys.length := by omega
      obtain ⟨e0, e1, e2⟩ := hcell (j / 3) _ (List.getElem?_eq_getElem hq)
      obtain ⟨f0, f1, f2⟩ := dcl_get ys (j / 3) _ (List.getElem?_eq_getElem hq)
      rw [Addr.add_mid]
      have hm : j % 3 = 0 ∨ j % 3 = 1 ∨ j % 3 = 2 := by omega
      rcases hm with hm | hm | hm
      · have ej : j = j / 3 * 3 := by omega
        rw [← ej] at e0 f0
        rw [f0] at hu
        injection hu with hu
        rw [← hu]; exact e0
      · have ej : j = j / 3 * 3 + 1 := by omega
        rw [Nat.add_assoc, ← ej] at e1
        rw [← ej] at f1
        rw [f1] at hu
        injection hu with hu
        rw [← hu]; exact e1
      · have ej : j = j / 3 * 3 + 2 := by omega
        rw [Nat.add_assoc, ← ej] at e2
        rw [← ej] at f2
        rw [f2] at hu
        injection hu with hu
        rw [← hu]; exact e2) (dcl_one ys) (by omega) (by unfold maxLen; omega) (by omega) hbase w.heap.size rfl
    refine ⟨_, w', hr, ?_, r3⟩
    rw [List.length_append, dcl_append]
    exact r2
set_option maxHeartbeats 1000000 in
theorem cloneD_any (v : Value) (l : List Dd) (w : World) (base : Nat) (ho : w.ownsRow base 88 3 v l.length (dcl l)) (hn : l.length ≤ 1000) : Calls Tryz.prog 50 #[v] w fun e w' => ∃ v', e = .returned v' ∧ w'.ownsRow w.heap.size 88 3 v' l.length (dcl l) ∧ Since w w' := by
  rcases ho.2 with ⟨h', h0⟩ | ⟨g, c, cur, h', hb, hg, hnc, _⟩
  · subst h'
    have : l = [] := List.length_eq_zero_iff.1 h0
    subst this
    have hq := fun w' => Lib.run_eql_slice_nil (P := Tryz.prog) w' 81 88 none 0 0 0 0 Tryz.underlying81
    clear ho hn h0
    go_enter Tryz.func50, Tryz.ntmps50
    go_wp2_with fail
    go_ret
    exact ⟨_, rfl, World.ownsRow_nil _ _ _ _, Since.refl _⟩
  · subst h'
    have hown0 : (w.alloc (.cells #[] 88)).ownsRow w.heap.size 88 3 (.slice (some ⟨w.heap.size, 0, none⟩) 0 0) ([] : List Dd).length (dcl []) := World.ownsRow_made w #[] 0 (Nat.le_refl _) (by simp [maxLen]) rfl
    have hsrc : Dds (w.alloc (.cells #[] 88)) (.slice (some ⟨g, 0, none⟩) l.length c) l := (own_dds ho).since ((Since.refl w).alloc _)
    have hap := fun ty => appendD (w.alloc (.cells #[] 88)) ty w.heap.size _ _ [] l hown0 hsrc (by simp) hn (by simp)
    have HAP : Hid (∀ ty, ∃ v' w', (Builtin.append_ #[81, 81] ty #[.slice (some ⟨w.heap.size, 0, none⟩) 0 0, .slice (some ⟨g, 0, none⟩) l.length c]).run Tryz.prog (w.alloc (.cells #[] 88)) = .ok v' w' ∧ w'.ownsRow w.heap.size 88 3 v' ([] ++ l).length (dcl ([] ++ l)) ∧ (w.alloc (.cells #[] 88)).grownBy w' (some w.heap.size)) := hap
    have hq := fun w' => Lib.run_eql_slice_nil (P := Tryz.prog) w' 81 88 (some ⟨g, 0, none⟩) l.length c 0 0 Tryz.underlying81
    clear hown0 hsrc hap ho hn hb hg hnc
    go_enter Tryz.func50, Tryz.ntmps50
    obtain ⟨v', w', hr, ho', hgr⟩ := HAP.out 81
    go_wp2_with (at_builtin; refine listD_run (by rfl) _ _ 81 _ _ v' (by rfl) (by rfl) (by rfl) hr ?_)
    have HO : Hid (w'.ownsRow w.heap.size 88 3 v' l.length (dcl l)) := ho'
    have HS : Hid (Since w w') := ((Since.refl w).alloc _).grown hgr (fun k hk => by cases hk; exact Nat.le_refl _)
    clear ho' hgr hr
    go_wp2_with fail
    go_ret
    exact ⟨_, rfl, HO.out, HS.out⟩
end Fl
end Go.Proofs.YtlgocfgnfdnloaaGreatDoor
end
section
namespace Go.Proofs.YtlgocfgnfdnloaaGreatDoor
set_option maxRecDepth 100000
namespace Fl
open Go.RowKit Go.Sort Go.Shelf
open En (Fi Fls Ints fval Row freeL allC need nameB filled)
open Vl
open Tw (Tb)
theorem oneD_abd {nm : ByteArray} (h : nm = nmA ∨ nm = nmB') (x : Dd) : Abd (oneD nm x) := by
  refine ⟨h, ?_, ?_⟩
  · show ((pkN 2 x.what : Nat) : Int) = 0 ∨ ((pkN 2 x.what : Nat) : Int) = 1
    have := pkN_lt 2 x.what (by omega)
    omega
  · show (x.tx.extract 0 (min x.tx.size 400)).size ≤ 400
    rw [ByteArray.size_extract]
    omega
structure Mix (A B mx : List Dd) (i k : Nat) : Prop where
  len : mx.length = i + k
  abd : ∀ x ∈ mx, Abd x
  same : ∀ u, mx.filter (fun x => decide (x.nm = u)) = (A.take i ++ B.take k).filter (fun x => decide (x.nm = u))
theorem filter_other {l : List Dd} {s u : ByteArray} (h : ∀ x ∈ l, x.nm = s) (hu : s ≠ u) : l.filter (fun x => decide (x.nm = u)) = [] := by
  rw [List.filter_eq_nil_iff]
  intro x hx
  rw [h x hx]
  simpa using hu
theorem Mix.a {A B mx : List Dd} {i k : Nat} (h : Mix A B mx i k) (hA : ∀ x ∈ A, x.nm = nmA ∧ Abd x) (hB : ∀ x ∈ B, x.nm = nmB' ∧ Abd x) {x : Dd} (hx : A[i]? = some x) : Mix A B (mx ++ [x]) (i + 1) k := by
  have hm := hA x (List.mem_of_getElem? hx)
  refine ⟨by rw [List.length_append, h.len]; simp; omega, fun y hy => ?_, fun u => ?_⟩
  · rcases List.mem_append.1 hy with hy | hy
    · exact h.abd y hy
    · rw [List.mem_singleton] at hy
      rw [hy]; exact hm.2
  · rw [List.filter_append, h.same u, List.take_add_one, hx, List.filter_append, List.filter_append, List.filter_append]
    by_cases hu : nmA = u
    · rw [filter_other (l := B.take k) (s := nmB') (fun y hy => (hB y (List.mem_of_mem_take hy)).1) (by rw [← hu]; decide)]
      simp
    · have : [x].filter (fun x => decide (x.nm = u)) = [] := filter_other (s := nmA) (fun y hy => by rw [List.mem_singleton] at hy; rw [hy]; exact hm.1) hu
      simp only [Option.toList_some]
      rw [this]
      simp
theorem Mix.b {A B mx : List Dd} {i k : Nat} (h : Mix A B mx i k) (hB : ∀ x ∈ B, x.nm = nmB' ∧ Abd x) {x : Dd} (hx : B[k]? = some x) : Mix A B (mx ++ [x]) i (k + 1) := by
  have hm := hB x (List.mem_of_getElem? hx)
  refine ⟨by rw [List.length_append, h.len]; simp; omega, fun y hy => ?_, fun u => ?_⟩
  · rcases List.mem_append.1 hy with hy | hy
    · exact h.abd y hy
    · rw [List.mem_singleton] at hy
      rw [hy]; exact hm.2
  · rw [List.filter_append, h.same u, List.take_add_one, hx, List.filter_append, List.filter_append, List.filter_append, List.append_assoc]
    rfl
theorem one_enters : ∀ args w, (callFunc 47 args).run Tryz.prog w = .ok (.enter 47 args) w := enters_of Tryz.func47 (by kernel_rfl) rfl
theorem run_enters : ∀ args w, (callFunc 48 args).run Tryz.prog w = .ok (.enter 48 args) w := enters_of Tryz.func48 (by kernel_rfl) rfl
set_option maxHeartbeats 16000000 in
theorem apart_go (l more : List Dd) (lv mv tv : Value) (n : Nat) (ts : Nat → Bool) (w : World) (hT : Sm.Tab w) (hL : En.Lb w) (hl : Dds w lv l) (hm : Dds w mv more) (ht : Go.Proofs.YtlgocfgnfdnloaaGreatDoor.SlA w w.heap.size tv n (fun j => .bool (ts j))) :
    Calls Tryz.prog 7 #[lv, mv, tv] w fun e w' => e = .returned (.bool true) ∧ Since w w' := by
  have HT : Hid (Sm.Tab w ∧ En.Lb w) := ⟨hT, hL⟩
  have HD : Hid (∀ W, Since w W → Calls Tryz.prog 35 #[lv] W fun e w' => e = .returned (.bool (dsB l)) ∧ Since W w') := fun W hW => deeds_any l lv W (hl.since hW)
  have HE : Hid (∀ W, Since w W → Calls Tryz.prog 35 #[mv] W fun e w' => e = .returned (.bool (dsB more)) ∧ Since W w') := fun W hW => deeds_any more mv W (hm.since hW)
  obtain ⟨la, lc, rfl⟩ : ∃ a c, lv = .slice a l.length c := by
    obtain ⟨a, c, h1, _⟩ := hl
    exact ⟨a, c, h1⟩
  obtain ⟨ma, mc, rfl⟩ : ∃ a c, mv = .slice a more.length c := by
    obtain ⟨a, c, h1, _⟩ := hm
    exact ⟨a, c, h1⟩
  obtain ⟨ta, tc, rfl, ht⟩ := ht
  have HL : Hid (Dds w (.slice la l.length lc) l) := hl
  have HM : Hid (Dds w (.slice ma more.length mc) more) := hm
  have HTU : Hid (0 < n → ∃ k o, ta = some ⟨k, o, none⟩ ∧ k < w.heap.size ∧ ∀ j, j < n → w.cell? ⟨k, o + j, none⟩ = some (.bool (ts j))) := ht
  have hen1 := one_enters
  have hen2 := run_enters
  clear hT hL hl hm ht
  go_enter Tryz.func7, Tryz.ntmps7
  go_wp2_with fail
  refine (HD.out w (Since.refl _)).mono ?_
  rintro e w1 ⟨rfl, hs1⟩
  have HS1 : Hid (Since w w1) := hs1
  clear hs1
  cases hB1 : dsB l with
  | false =>
    go_wp2_with fail
    go_ret
    exact ⟨rfl, HS1.out⟩
  | true =>
  clear hB1
  go_wp2_with fail
  refine (HE.out w1 HS1.out).mono ?_
  rintro e w2 ⟨rfl, hs2⟩
  have HS2 : Hid (Since w w2) := HS1.out.trans hs2
  clear hs2
  cases hB2 : dsB more with
  | false =>
    go_wp2_with fail
    go_ret
    exact ⟨rfl, HS2.out⟩
  | true =>
  clear hB2
  by_cases h4 : 4 < l.length
  · have h4i : (4 : Int) < (l.length : Int) := by omega
    go_wp2_with fail
    go_ret
    exact ⟨rfl, HS2.out⟩
  have h4i : ¬ (4 : Int) < (l.length : Int) := by omega
  by_cases h5 : 4 < more.length
  · have h5i : (4 : Int) < (more.length : Int) := by omega
    go_wp2_with fail
    go_ret
    exact ⟨rfl, HS2.out⟩
  have h5i : ¬ (4 : Int) < (more.length : Int) := by omega
  by_cases h6 : 20 < n
  · have h6i : (20 : Int) < (n : Int) := by omega
    go_wp2_with fail
    go_ret
    exact ⟨rfl, HS2.out⟩
  have h6i : ¬ (20 : Int) < (n : Int) := by omega
  have HFI : Hid (Calls Tryz.prog 36 #[] w2 fun e w' => e = .returned (.bool true) ∧ Since w2 w') := filed_any w2 (HT.out.1.since HS2.out) (HT.out.2.since HS2.out)
  go_wp2_with fail
  refine HFI.out.mono ?_
  rintro e w3 ⟨rfl, hs3⟩
  have HS3 : Hid (Since w w3) := HS2.out.trans hs3
  clear hs3 HFI
  have HO1 : Hid (Calls Tryz.prog 47 #[.slice la l.length lc, .string ⟨#[97]⟩] w3 fun e w' => ∃ x, e = .returned x ∧ w'.ownsRow w3.heap.size 88 3 x l.length (dcl (l.map (oneD nmA))) ∧ Since w3 w') := one_any l _ nmA w3 (HL.out.since HS3.out) (by omega)
  have H45 : Hid (l.length ≤ 4 ∧ more.length ≤ 4 ∧ n ≤ 20) := ⟨by omega, by omega, by omega⟩
  clear h4 h5 h6 h4i h5i h6i
  go_wp2_with fail
  refine HO1.out.mono ?_
  rintro e w4 ⟨av, rfl, hav, hs4⟩
  have HS4 : Hid (Since w w4) := HS3.out.trans hs4
  have HAV : Hid (w4.ownsRow w3.heap.size 88 3 av l.length (dcl (l.map (oneD nmA)))) := hav
  clear hav hs4 HO1
  have HO2 : Hid (Calls Tryz.prog 47 #[.slice ma more.length mc, .string ⟨#[98]⟩] w4 fun e w' => ∃ x, e = .returned x ∧ w'.ownsRow w4.heap.size 88 3 x more.length (dcl (more.map (oneD nmB'))) ∧ Since w4 w') := one_any more _ nmB' w4 (HM.out.since HS4.out) (by have := H45.out; omega)
  go_wp2_with fail
  refine HO2.out.mono ?_
  rintro e w5 ⟨bv, rfl, hbv, hs5⟩
  have hla : (l.map (oneD nmA)).length = l.length := List.length_map _
  have hlb : (more.map (oneD nmB')).length = more.length := List.length_map _
  have hA0 : ∀ x ∈ l.map (oneD nmA), x.nm = nmA ∧ Abd x := fun x hx => by
    obtain ⟨y, _, rfl⟩ := List.mem_map.1 hx
    exact ⟨rfl, oneD_abd (Or.inl rfl) y⟩
  have hB0 : ∀ x ∈ more.map (oneD nmB'), x.nm = nmB' ∧ Abd x := fun x hx => by
    obtain ⟨y, _, rfl⟩ := List.mem_map.1 hx
    exact ⟨rfl, oneD_abd (Or.inr rfl) y⟩
  have hav := En.owns_since HAV.out hs5
  rw [← hla] at hav
  rw [← hlb] at hbv
  have hAl : (l.map (oneD nmA)).length ≤ 4 := by have := H45.out; omega
  have hBl : (more.map (oneD nmB')).length ≤ 4 := by have := H45.out; omega
  generalize l.map (oneD nmA) = A at hav hA0 hAl
  generalize more.map (oneD nmB') = B at hbv hB0 hBl
  have HS5 : Hid (Since w w5) := HS4.out.trans hs5
  obtain ⟨aa, ac, rfl⟩ : ∃ a c, av = .slice a A.length c := by
    obtain ⟨a, c, h1, _⟩ := own_dds hav
    exact ⟨a, c, h1⟩
  obtain ⟨ba, bc, rfl⟩ : ∃ a c, bv = .slice a B.length c := by
    obtain ⟨a, c, h1, _⟩ := own_dds hbv
    exact ⟨a, c, h1⟩
  have HA : Hid (w5.ownsRow w3.heap.size 88 3 (.slice aa A.length ac) A.length (dcl A) ∧ Dds w5 (.slice aa A.length ac) A ∧ (∀ x ∈ A, x.nm = nmA ∧ Abd x) ∧ A.length ≤ 4) := ⟨hav, own_dds hav, hA0, hAl⟩
  have HB : Hid (Dds w5 (.slice ba B.length bc) B ∧ (∀ x ∈ B, x.nm = nmB' ∧ Abd x) ∧ B.length ≤ 4) := ⟨own_dds hbv, hB0, hBl⟩
  clear HAV hav hbv hs5 hla hlb hA0 hB0 hAl hBl HO2
  obtain ⟨i0, hi, hz0, hz1, hz2⟩ := info_parts' infoD
  have HI : Hid (Tryz.prog.info? 88 = some i0 ∧ i0.zero = some (.agg #[.int .i64 0, .string ByteArray.empty, .string ByteArray.empty]) ∧ i0.size = 3 ∧ i0.bytes = 40) := ⟨hi, hz0, hz1, hz2⟩
  clear hi hz0 hz1 hz2
  go_wp2_with fail
  go_loopw [12, 13, 11] (fun i k x wr => ∃ (ni nk : Nat) (mx : List Dd), ni ≤ A.length ∧ nk ≤ B.length ∧ i = .int .i64 ni ∧ k = .int .i64 nk ∧ Mix A B mx ni nk ∧ wr.ownsRow w5.heap.size 88 3 x (ni + nk) (dcl mx) ∧ Since w5 wr) (fun i k _ _ => A.length + B.length - (intOf i).toNat - (intOf k).toNat)
  case atStart => exact ⟨0, 0, [], by omega, by omega, rfl, rfl, ⟨rfl, (fun x hx => by cases hx), fun u => rfl⟩, World.ownsRow_nil _ _ _ _, Since.refl _⟩
  case round =>
    obtain ⟨ni, nk, mx, hni, hnk, rfl, rfl, hmix, hx, hS⟩ := hrel
    have HX : Hid (wr.ownsRow w5.heap.size 88 3 u11 (ni + nk) (dcl mx) ∧ Mix A B mx ni nk) := ⟨hx, hmix⟩
    have HS : Hid (Since w5 wr) := hS
    have h44 : A.length ≤ 4 ∧ B.length ≤ 4 := ⟨HA.out.2.2.2, HB.out.2.2⟩
    clear hx hS hmix
    by_cases hA : ni < A.length
    · have hA1 : (ni : Int) < (A.length : Int) := by omega
      by_cases hB : nk < B.length
      · have hB1 : ¬ (nk : Int) = (B.length : Int) := by omega
        have hB2 : ¬ nk = B.length := by omega
        by_cases ht : ni + nk < n
        · obtain ⟨tk, tq, rfl, htk, htc⟩ := HTU.out (by omega)
          have q0 : wr.cell? ⟨tk, tq + (ni + nk), none⟩ = some (.bool (ts (ni + nk))) := ((HS5.out.trans HS.out).cell (p := ⟨tk, tq + (ni + nk), none⟩) htk).trans (htc _ ht)
          have ht1 : (ni : Int) + (nk : Int) < (n : Int) := by omega
          clear htc
          cases hts : ts (ni + nk) with
          | true =>
            rw [hts] at q0
            clear hts
            have hE : Hid (A[ni]? = some A[ni]) := List.getElem?_eq_getElem hA
            have HMX : Hid (Mix A B (mx ++ [A[ni]]) (ni + 1) (nk)) := HX.out.2.a HA.out.2.2.1 HB.out.2.1 hE.out
            have HPT : Hid (dcl (mx ++ [A[ni]]) = dcl mx ++ [.int .i64 (A[ni]).what, .string (A[ni]).nm, .string (A[ni]).tx]) := dcl_append mx _
            generalize A[ni] = x at *
            obtain ⟨k1, o1, rfl, hl1, p0, p1, p2⟩ := (HA.out.2.1.since HS.out).at_ hE.out
            go_wp2_with (at_builtin; refine wpList_append_own _ (by rfl) _ _ _ (by rfl) w5.heap.size 88 i0 _ 3 40 Tryz.underlying81 HI.out.1 HI.out.2.1 HI.out.2.2.1 HI.out.2.2.2 (by rfl) (by decide) _ (ni + nk) (dcl mx) (by rfl) (World.ownsRow.alloc HX.out.1 _) ⟨wr.heap.size, 0, none⟩ 1 1 [.int .i64 x.what, .string x.nm, .string x.tx] (by rfl) (by rfl) (World.news_of_block (heap_alloc_new wr _)) (by simp [Value.oneCell']) (by unfold maxLen; omega) (by omega) (by have := HS.out.size; simp; omega) ?_; intro x' w7 hown1 hgrow _)
            have HO1 : Hid (w7.ownsRow w5.heap.size 88 3 x' (ni + nk + 1) (dcl mx ++ [.int .i64 x.what, .string x.nm, .string x.tx])) := hown1
            have HG1 : Hid (Since w5 w7) := Below.grown (Since.alloc HS.out _) hgrow (by have := HS.out.size; simp; omega) (fun j hj => (HX.out.1.lt j hj).1)
            clear hown1 hgrow p0 p1 p2
            go_wp2_with fail
            go_roundw
            case rel => exact ⟨ni + 1, nk, mx ++ [x], by omega, by omega, by go_num, rfl, HMX.out, by rw [HPT.out, show ni + 1 + nk = ni + nk + 1 by omega]; exact HO1.out, HG1.out⟩
            case measure => simp [intOf]; omega
          | false =>
            rw [hts] at q0
            clear hts
            have hE : Hid (B[nk]? = some B[nk]) := List.getElem?_eq_getElem hB
            have HMX : Hid (Mix A B (mx ++ [B[nk]]) (ni) (nk + 1)) := HX.out.2.b HB.out.2.1 hE.out
            have HPT : Hid (dcl (mx ++ [B[nk]]) = dcl mx ++ [.int .i64 (B[nk]).what, .string (B[nk]).nm, .string (B[nk]).tx]) := dcl_append mx _
            generalize B[nk] = x at *
            obtain ⟨k1, o1, rfl, hl1, p0, p1, p2⟩ := (HB.out.1.since HS.out).at_ hE.out
            go_wp2_with (at_builtin; refine wpList_append_own _ (by rfl) _ _ _ (by rfl) w5.heap.size 88 i0 _ 3 40 Tryz.underlying81 HI.out.1 HI.out.2.1 HI.out.2.2.1 HI.out.2.2.2 (by rfl) (by decide) _ (ni + nk) (dcl mx) (by rfl) (World.ownsRow.alloc HX.out.1 _) ⟨wr.heap.size, 0, none⟩ 1 1 [.int .i64 x.what, .string x.nm, .string x.tx] (by rfl) (by rfl) (World.news_of_block (heap_alloc_new wr _)) (by simp [Value.oneCell']) (by unfold maxLen; omega) (by omega) (by have := HS.out.size; simp; omega) ?_; intro x' w7 hown1 hgrow _)
            have HO1 : Hid (w7.ownsRow w5.heap.size 88 3 x' (ni + nk + 1) (dcl mx ++ [.int .i64 x.what, .string x.nm, .string x.tx])) := hown1
            have HG1 : Hid (Since w5 w7) := Below.grown (Since.alloc HS.out _) hgrow (by have := HS.out.size; simp; omega) (fun j hj => (HX.out.1.lt j hj).1)
            clear hown1 hgrow p0 p1 p2
            go_wp2_with fail
            go_roundw
            case rel => exact ⟨ni, nk + 1, mx ++ [x], by omega, by omega, rfl, by go_num, HMX.out, by rw [HPT.out, show ni + (nk + 1) = ni + nk + 1 by omega]; exact HO1.out, HG1.out⟩
            case measure => simp [intOf]; omega
        · have ht1 : ¬ (ni : Int) + (nk : Int) < (n : Int) := by omega
          have hE : Hid (B[nk]? = some B[nk]) := List.getElem?_eq_getElem hB
          have HMX : Hid (Mix A B (mx ++ [B[nk]]) (ni) (nk + 1)) := HX.out.2.b HB.out.2.1 hE.out
          have HPT : Hid (dcl (mx ++ [B[nk]]) = dcl mx ++ [.int .i64 (B[nk]).what, .string (B[nk]).nm, .string (B[nk]).tx]) := dcl_append mx _
          generalize B[nk] = x at *
          obtain ⟨k1, o1, rfl, hl1, p0, p1, p2⟩ := (HB.out.1.since HS.out).at_ hE.out
          go_wp2_with (at_builtin; refine wpList_append_own _ (by rfl) _ _ _ (by rfl) w5.heap.size 88 i0 _ 3 40 Tryz.underlying81 HI.out.1 HI.out.2.1 HI.out.2.2.1 HI.out.2.2.2 (by rfl) (by decide) _ (ni + nk) (dcl mx) (by rfl) (World.ownsRow.alloc HX.out.1 _) ⟨wr.heap.size, 0, none⟩ 1 1 [.int .i64 x.what, .string x.nm, .string x.tx] (by rfl) (by rfl) (World.news_of_block (heap_alloc_new wr _)) (by simp [Value.oneCell']) (by unfold maxLen; omega) (by omega) (by have := HS.out.size; simp; omega) ?_; intro x' w7 hown1 hgrow _)
          have HO1 : Hid (w7.ownsRow w5.heap.size 88 3 x' (ni + nk + 1) (dcl mx ++ [.int .i64 x.what, .string x.nm, .string x.tx])) := hown1
          have HG1 : Hid (Since w5 w7) := Below.grown (Since.alloc HS.out _) hgrow (by have := HS.out.size; simp; omega) (fun j hj => (HX.out.1.lt j hj).1)
          clear hown1 hgrow p0 p1 p2
          go_wp2_with fail
          go_roundw
          case rel => exact ⟨ni, nk + 1, mx ++ [x], by omega, by omega, rfl, by go_num, HMX.out, by rw [HPT.out, show ni + (nk + 1) = ni + nk + 1 by omega]; exact HO1.out, HG1.out⟩
          case measure => simp [intOf]; omega
      · have hBe : nk = B.length := by omega
        subst hBe
        by_cases ht : ni + B.length < n
        · obtain ⟨tk, tq, rfl, htk, htc⟩ := HTU.out (by omega)
          have q0 : wr.cell? ⟨tk, tq + (ni + B.length), none⟩ = some (.bool (ts (ni + B.length))) := ((HS5.out.trans HS.out).cell (p := ⟨tk, tq + (ni + B.length), none⟩) htk).trans (htc _ ht)
          have ht1 : (ni : Int) + ((B.length : Nat) : Int) < (n : Int) := by omega
          clear htc
          cases hts : ts (ni + B.length) with
          | true =>
            rw [hts] at q0
            clear hts
            have hE : Hid (A[ni]? = some A[ni]) := List.getElem?_eq_getElem hA
            have HMX : Hid (Mix A B (mx ++ [A[ni]]) (ni + 1) (B.length)) := HX.out.2.a HA.out.2.2.1 HB.out.2.1 hE.out
            have HPT : Hid (dcl (mx ++ [A[ni]]) = dcl mx ++ [.int .i64 (A[ni]).what, .string (A[ni]).nm, .string (A[ni]).tx]) := dcl_append mx _
            generalize A[ni] = x at *
            obtain ⟨k1, o1, rfl, hl1, p0, p1, p2⟩ := (HA.out.2.1.since HS.out).at_ hE.out
            go_wp2_with (at_builtin; refine wpList_append_own _ (by rfl) _ _ _ (by rfl) w5.heap.size 88 i0 _ 3 40 Tryz.underlying81 HI.out.1 HI.out.2.1 HI.out.2.2.1 HI.out.2.2.2 (by rfl) (by decide) _ (ni + B.length) (dcl mx) (by rfl) (World.ownsRow.alloc HX.out.1 _) ⟨wr.heap.size, 0, none⟩ 1 1 [.int .i64 x.what, .string x.nm, .string x.tx] (by rfl) (by rfl) (World.news_of_block (heap_alloc_new wr _)) (by simp [Value.oneCell']) (by unfold maxLen; omega) (by omega) (by have := HS.out.size; simp; omega) ?_; intro x' w7 hown1 hgrow _)
            have HO1 : Hid (w7.ownsRow w5.heap.size 88 3 x' (ni + B.length + 1) (dcl mx ++ [.int .i64 x.what, .string x.nm, .string x.tx])) := hown1
            have HG1 : Hid (Since w5 w7) := Below.grown (Since.alloc HS.out _) hgrow (by have := HS.out.size; simp; omega) (fun j hj => (HX.out.1.lt j hj).1)
            clear hown1 hgrow p0 p1 p2
            go_wp2_with fail
            go_roundw
            case rel => exact ⟨ni + 1, B.length, mx ++ [x], by omega, by omega, by go_num, rfl, HMX.out, by rw [HPT.out, show ni + 1 + B.length = ni + B.length + 1 by omega]; exact HO1.out, HG1.out⟩
            case measure => simp [intOf]; omega
          | false =>
            rw [hts] at q0
            clear hts
            have hE : Hid (A[ni]? = some A[ni]) := List.getElem?_eq_getElem hA
            have HMX : Hid (Mix A B (mx ++ [A[ni]]) (ni + 1) (B.length)) := HX.out.2.a HA.out.2.2.1 HB.out.2.1 hE.out
            have HPT : Hid (dcl (mx ++ [A[ni]]) = dcl mx ++ [.int .i64 (A[ni]).what, .string (A[ni]).nm, .string (A[ni]).tx]) := dcl_append mx _
            generalize A[ni] = x at *
            obtain ⟨k1, o1, rfl, hl1, p0, p1, p2⟩ := (HA.out.2.1.since HS.out).at_ hE.out
            go_wp2_with (at_builtin; refine wpList_append_own _ (by rfl) _ _ _ (by rfl) w5.heap.size 88 i0 _ 3 40 Tryz.underlying81 HI.out.1 HI.out.2.1 HI.out.2.2.1 HI.out.2.2.2 (by rfl) (by decide) _ (ni + B.length) (dcl mx) (by rfl) (World.ownsRow.alloc HX.out.1 _) ⟨wr.heap.size, 0, none⟩ 1 1 [.int .i64 x.what, .string x.nm, .string x.tx] (by rfl) (by rfl) (World.news_of_block (heap_alloc_new wr _)) (by simp [Value.oneCell']) (by unfold maxLen; omega) (by omega) (by have := HS.out.size; simp; omega) ?_; intro x' w7 hown1 hgrow _)
            have HO1 : Hid (w7.ownsRow w5.heap.size 88 3 x' (ni + B.length + 1) (dcl mx ++ [.int .i64 x.what, .string x.nm, .string x.tx])) := hown1
            have HG1 : Hid (Since w5 w7) := Below.grown (Since.alloc HS.out _) hgrow (by have := HS.out.size; simp; omega) (fun j hj => (HX.out.1.lt j hj).1)
            clear hown1 hgrow p0 p1 p2
            go_wp2_with fail
            go_roundw
            case rel => exact ⟨ni + 1, B.length, mx ++ [x], by omega, by omega, by go_num, rfl, HMX.out, by rw [HPT.out, show ni + 1 + B.length = ni + B.length + 1 by omega]; exact HO1.out, HG1.out⟩
            case measure => simp [intOf]; omega
        · have ht1 : ¬ (ni : Int) + ((B.length : Nat) : Int) < (n : Int) := by omega
          have hE : Hid (A[ni]? = some A[ni]) := List.getElem?_eq_getElem hA
          have HMX : Hid (Mix A B (mx ++ [A[ni]]) (ni + 1) (B.length)) := HX.out.2.a HA.out.2.2.1 HB.out.2.1 hE.out
          have HPT : Hid (dcl (mx ++ [A[ni]]) = dcl mx ++ [.int .i64 (A[ni]).what, .string (A[ni]).nm, .string (A[ni]).tx]) := dcl_append mx _
          generalize A[ni] = x at *
          obtain ⟨k1, o1, rfl, hl1, p0, p1, p2⟩ := (HA.out.2.1.since HS.out).at_ hE.out
          go_wp2_with (at_builtin; refine wpList_append_own _ (by rfl) _ _ _ (by rfl) w5.heap.size 88 i0 _ 3 40 Tryz.underlying81 HI.out.1 HI.out.2.1 HI.out.2.2.1 HI.out.2.2.2 (by rfl) (by decide) _ (ni + B.length) (dcl mx) (by rfl) (World.ownsRow.alloc HX.out.1 _) ⟨wr.heap.size, 0, none⟩ 1 1 [.int .i64 x.what, .string x.nm, .string x.tx] (by rfl) (by rfl) (World.news_of_block (heap_alloc_new wr _)) (by simp [Value.oneCell']) (by unfold maxLen; omega) (by omega) (by have := HS.out.size; simp; omega) ?_; intro x' w7 hown1 hgrow _)
          have HO1 : Hid (w7.ownsRow w5.heap.size 88 3 x' (ni + B.length + 1) (dcl mx ++ [.int .i64 x.what, .string x.nm, .string x.tx])) := hown1
          have HG1 : Hid (Since w5 w7) := Below.grown (Since.alloc HS.out _) hgrow (by have := HS.out.size; simp; omega) (fun j hj => (HX.out.1.lt j hj).1)
          clear hown1 hgrow p0 p1 p2
          go_wp2_with fail
          go_roundw
          case rel => exact ⟨ni + 1, B.length, mx ++ [x], by omega, by omega, by go_num, rfl, HMX.out, by rw [HPT.out, show ni + 1 + B.length = ni + B.length + 1 by omega]; exact HO1.out, HG1.out⟩
          case measure => simp [intOf]; omega
    · have hA1 : ¬ (ni : Int) < (A.length : Int) := by omega
      by_cases hB : nk < B.length
      · have hB0 : (nk : Int) < (B.length : Int) := by omega
        have hB1 : ¬ (nk : Int) = (B.length : Int) := by omega
        have hB2 : ¬ nk = B.length := by omega
        by_cases ht : ni + nk < n
        · obtain ⟨tk, tq, rfl, htk, htc⟩ := HTU.out (by omega)
          have q0 : wr.cell? ⟨tk, tq + (ni + nk), none⟩ = some (.bool (ts (ni + nk))) := ((HS5.out.trans HS.out).cell (p := ⟨tk, tq + (ni + nk), none⟩) htk).trans (htc _ ht)
          have ht1 : (ni : Int) + (nk : Int) < (n : Int) := by omega
          clear htc
          cases hts : ts (ni + nk) with
          | true =>
            rw [hts] at q0
            clear hts
            have hE : Hid (B[nk]? = some B[nk]) := List.getElem?_eq_getElem hB
            have HMX : Hid (Mix A B (mx ++ [B[nk]]) (ni) (nk + 1)) := HX.out.2.b HB.out.2.1 hE.out
            have HPT : Hid (dcl (mx ++ [B[nk]]) = dcl mx ++ [.int .i64 (B[nk]).what, .string (B[nk]).nm, .string (B[nk]).tx]) := dcl_append mx _
            generalize B[nk] = x at *
            obtain ⟨k1, o1, rfl, hl1, p0, p1, p2⟩ := (HB.out.1.since HS.out).at_ hE.out
            go_wp2_with (at_builtin; refine wpList_append_own _ (by rfl) _ _ _ (by rfl) w5.heap.size 88 i0 _ 3 40 Tryz.underlying81 HI.out.1 HI.out.2.1 HI.out.2.2.1 HI.out.2.2.2 (by rfl) (by decide) _ (ni + nk) (dcl mx) (by rfl) (World.ownsRow.alloc HX.out.1 _) ⟨wr.heap.size, 0, none⟩ 1 1 [.int .i64 x.what, .string x.nm, .string x.tx] (by rfl) (by rfl) (World.news_of_block (heap_alloc_new wr _)) (by simp [Value.oneCell']) (by unfold maxLen; omega) (by omega) (by have := HS.out.size; simp; omega) ?_; intro x' w7 hown1 hgrow _)
            have HO1 : Hid (w7.ownsRow w5.heap.size 88 3 x' (ni + nk + 1) (dcl mx ++ [.int .i64 x.what, .string x.nm, .string x.tx])) := hown1
            have HG1 : Hid (Since w5 w7) := Below.grown (Since.alloc HS.out _) hgrow (by have := HS.out.size; simp; omega) (fun j hj => (HX.out.1.lt j hj).1)
            clear hown1 hgrow p0 p1 p2
            go_wp2_with fail
            go_roundw
            case rel => exact ⟨ni, nk + 1, mx ++ [x], by omega, by omega, rfl, by go_num, HMX.out, by rw [HPT.out, show ni + (nk + 1) = ni + nk + 1 by omega]; exact HO1.out, HG1.out⟩
            case measure => simp [intOf]; omega
          | false =>
            rw [hts] at q0
            clear hts
            have hE : Hid (B[nk]? = some B[nk]) := List.getElem?_eq_getElem hB
            have HMX : Hid (Mix A B (mx ++ [B[nk]]) (ni) (nk + 1)) := HX.out.2.b HB.out.2.1 hE.out
            have HPT : Hid (dcl (mx ++ [B[nk]]) = dcl mx ++ [.int .i64 (B[nk]).what, .string (B[nk]).nm, .string (B[nk]).tx]) := dcl_append mx _
            generalize B[nk] = x at *
            obtain ⟨k1, o1, rfl, hl1, p0, p1, p2⟩ := (HB.out.1.since HS.out).at_ hE.out
            go_wp2_with (at_builtin; refine wpList_append_own _ (by rfl) _ _ _ (by rfl) w5.heap.size 88 i0 _ 3 40 Tryz.underlying81 HI.out.1 HI.out.2.1 HI.out.2.2.1 HI.out.2.2.2 (by rfl) (by decide) _ (ni + nk) (dcl mx) (by rfl) (World.ownsRow.alloc HX.out.1 _) ⟨wr.heap.size, 0, none⟩ 1 1 [.int .i64 x.what, .string x.nm, .string x.tx] (by rfl) (by rfl) (World.news_of_block (heap_alloc_new wr _)) (by simp [Value.oneCell']) (by unfold maxLen; omega) (by omega) (by have := HS.out.size; simp; omega) ?_; intro x' w7 hown1 hgrow _)
            have HO1 : Hid (w7.ownsRow w5.heap.size 88 3 x' (ni + nk + 1) (dcl mx ++ [.int .i64 x.what, .string x.nm, .string x.tx])) := hown1
            have HG1 : Hid (Since w5 w7) := Below.grown (Since.alloc HS.out _) hgrow (by have := HS.out.size; simp; omega) (fun j hj => (HX.out.1.lt j hj).1)
            clear hown1 hgrow p0 p1 p2
            go_wp2_with fail
            go_roundw
            case rel => exact ⟨ni, nk + 1, mx ++ [x], by omega, by omega, rfl, by go_num, HMX.out, by rw [HPT.out, show ni + (nk + 1) = ni + nk + 1 by omega]; exact HO1.out, HG1.out⟩
            case measure => simp [intOf]; omega
        · have ht1 : ¬ (ni : Int) + (nk : Int) < (n : Int) := by omega
          have hE : Hid (B[nk]? = some B[nk]) := List.getElem?_eq_getElem hB
          have HMX : Hid (Mix A B (mx ++ [B[nk]]) (ni) (nk + 1)) := HX.out.2.b HB.out.2.1 hE.out
          have HPT : Hid (dcl (mx ++ [B[nk]]) = dcl mx ++ [.int .i64 (B[nk]).what, .string (B[nk]).nm, .string (B[nk]).tx]) := dcl_append mx _
          generalize B[nk] = x at *
          obtain ⟨k1, o1, rfl, hl1, p0, p1, p2⟩ := (HB.out.1.since HS.out).at_ hE.out
          go_wp2_with (at_builtin; refine wpList_append_own _ (by rfl) _ _ _ (by rfl) w5.heap.size 88 i0 _ 3 40 Tryz.underlying81 HI.out.1 HI.out.2.1 HI.out.2.2.1 HI.out.2.2.2 (by rfl) (by decide) _ (ni + nk) (dcl mx) (by rfl) (World.ownsRow.alloc HX.out.1 _) ⟨wr.heap.size, 0, none⟩ 1 1 [.int .i64 x.what, .string x.nm, .string x.tx] (by rfl) (by rfl) (World.news_of_block (heap_alloc_new wr _)) (by simp [Value.oneCell']) (by unfold maxLen; omega) (by omega) (by have := HS.out.size; simp; omega) ?_; intro x' w7 hown1 hgrow _)
          have HO1 : Hid (w7.ownsRow w5.heap.size 88 3 x' (ni + nk + 1) (dcl mx ++ [.int .i64 x.what, .string x.nm, .string x.tx])) := hown1
          have HG1 : Hid (Since w5 w7) := Below.grown (Since.alloc HS.out _) hgrow (by have := HS.out.size; simp; omega) (fun j hj => (HX.out.1.lt j hj).1)
          clear hown1 hgrow p0 p1 p2
          go_wp2_with fail
          go_roundw
          case rel => exact ⟨ni, nk + 1, mx ++ [x], by omega, by omega, rfl, by go_num, HMX.out, by rw [HPT.out, show ni + (nk + 1) = ni + nk + 1 by omega]; exact HO1.out, HG1.out⟩
          case measure => simp [intOf]; omega
      · have hAe : ni = A.length := by omega
        have hBe : nk = B.length := by omega
        subst hAe hBe
        have hfin : fin mx = fin (A ++ B) := fin_same (fun u => by
          have := HX.out.2.same u
          rw [List.take_length, List.take_length] at this
          exact this)
        have hml := HX.out.2.len
        have hxo := HX.out.1
        rw [← hml] at hxo
        have HFN : Hid (fin mx = fin (A ++ B) ∧ mx.length ≤ 8 ∧ (∀ x ∈ mx, Abd x) ∧ wr.ownsRow w5.heap.size 88 3 u11 mx.length (dcl mx)) := ⟨hfin, by omega, HX.out.2.abd, hxo⟩
        have HCL : Hid (Calls Tryz.prog 50 #[.slice aa A.length ac] wr fun e w' => ∃ v', e = .returned v' ∧ w'.ownsRow wr.heap.size 88 3 v' A.length (dcl A) ∧ Since wr w') := cloneD_any _ A wr w3.heap.size (En.owns_since HA.out.1 HS.out) (by omega)
        clear hfin hml hxo hA hB hA1
        go_wp2_with fail
        refine HCL.out.mono ?_
        rintro e w7 ⟨cv, rfl, hcv, hs7⟩
        have HS7 : Hid (Since w5 w7 ∧ Since wr w7) := ⟨HS.out.trans hs7, hs7⟩
        obtain ⟨v8, w8, hr8, ho8, hg8⟩ := appendD w7 81 wr.heap.size cv _ A B hcv (HB.out.1.since HS7.out.1) (by omega) (by omega) HS7.out.2.size
        have HS8 : Hid (Since wr w8) := HS7.out.2.grown hg8 (fun j hj => (hcv.lt j hj).1)
        have HO8 : Hid (w8.ownsRow wr.heap.size 88 3 v8 (A ++ B).length (dcl (A ++ B))) := ho8
        clear hs7 ho8 hg8 hcv
        go_wp2_with (at_builtin; refine listD_run (by rfl) _ _ 81 _ _ v8 (by rfl) (by rfl) (by rfl) hr8 ?_)
        clear hr8
        have hrn := run_any (A ++ B) v8 w8 (HT.out.1.since (HS5.out.trans (HS.out.trans HS8.out))) (HT.out.2.since (HS5.out.trans (HS.out.trans HS8.out))) (own_dds HO8.out) (by rw [List.length_append]; omega) (fun x hx => by
          rcases List.mem_append.1 hx with hx | hx
          · exact (HA.out.2.2.1 x hx).2
          · exact (HB.out.2.1 x hx).2)
        have HRN : Hid (Calls Tryz.prog 48 #[v8] w8 fun e w' => (∃ l X, En.right l = true ∧ (∀ u, txtOf X l u = fin (A ++ B) u) ∧ e = .returned (.tuple #[.string (outX (fin (A ++ B) nmA) (l.map Fi.nm)), .string (sayB (fin (A ++ B) nmB')), .bool true])) ∧ Since w8 w') := hrn
        clear hrn
        go_wp2_with fail
        refine HRN.out.mono ?_
        rintro e w9 ⟨⟨l1, X1, hr1, ht1, rfl⟩, hs9⟩
        have HS9 : Hid (Since wr w9) := HS8.out.trans hs9
        have H9 : Hid (En.right l1 = true ∧ ∀ u, txtOf X1 l1 u = fin (A ++ B) u) := ⟨hr1, ht1⟩
        clear hs9 hr1 ht1
        have hrn := run_any mx u11 w9 (HT.out.1.since (HS5.out.trans (HS.out.trans HS9.out))) (HT.out.2.since (HS5.out.trans (HS.out.trans HS9.out))) ((own_dds HFN.out.2.2.2).since HS9.out) HFN.out.2.1 HFN.out.2.2.1
        rw [HFN.out.1] at hrn
        have HRM : Hid (Calls Tryz.prog 48 #[u11] w9 fun e w' => e = .returned (.tuple #[.string (outX (fin (A ++ B) nmA) (l1.map Fi.nm)), .string (sayB (fin (A ++ B) nmB')), .bool true]) ∧ Since w9 w') := hrn.mono (fun e w' hh => by
          obtain ⟨⟨l2, X2, hr2, ht2, rfl⟩, hs⟩ := hh
          have : l2.map Fi.nm = l1.map Fi.nm := names_of hr2 H9.out.1 (fun u => by rw [ht2 u, H9.out.2 u])
          rw [this]
          exact ⟨rfl, hs⟩)
        clear hrn
        generalize outX (fin (A ++ B) nmA) (l1.map Fi.nm) = x1 at *
        generalize sayB (fin (A ++ B) nmB') = y1 at *
        go_wp2_with fail
        refine HRM.out.mono ?_
        rintro e w10 ⟨rfl, hs10⟩
        have HS10 : Hid (Since w w10) := HS5.out.trans (HS.out.trans (HS9.out.trans hs10))
        clear hs10
        go_wp2_with fail
        go_ret
        exact ⟨rfl, HS10.out⟩
end Fl
end Go.Proofs.YtlgocfgnfdnloaaGreatDoor
end
