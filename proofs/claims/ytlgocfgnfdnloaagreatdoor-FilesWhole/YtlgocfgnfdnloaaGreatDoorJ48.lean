import Derived.Deep.Upon
import Derived.Deep.AppendLies
import Derived.Deep.CutBlock
import Derived.Deep.RegionHeld3
import Derived.Test.YtlgocfgnfdnloaaGreatDoorJ18
import Derived.Test.YtlgocfgnfdnloaaGreatDoorJ23
import Derived.Test.YtlgocfgnfdnloaaGreatDoorJ45
import Derived.Test.YtlgocfgnfdnloaaGreatDoorJ46
import Derived.Test.YtlgocfgnfdnloaaGreatDoorJ47
set_option linter.unusedSimpArgs false
set_option linter.unusedVariables false
section
namespace Go.Proofs.YtlgocfgnfdnloaaGreatDoor
set_option maxRecDepth 100000
namespace Fl
open Go.RowKit Go.Sort Go.Shelf
open En (Fi Fls Ints fval Row freeL allC need nameB filled)
open Vl
open Tw (Tb)
theorem listD_run {P : Program} {ops : Array Oper} {rest : List Oper} {o : Oper} {a : Act} {w w' : World} {Q : Exit → Act → World → Prop} (hgd : o.guard = none) (s x : Operand) (t : TypeId) (vs vx r : Value)
    (ho : o.op = .call { callee := .builtin .append, args := #[s, x], argTypes := #[t, t] }) (hs : a.eval s = vs) (hx : a.eval x = vx) (hr : (Builtin.append_ #[t, t] o.type #[vs, vx]).run P w = .ok r w') (h : wpList P ops Q rest (a.put o.dst r) w') : wpList P ops Q (o :: rest) a w :=
  wpList_plain hgd fun K hK => by
    unfold Oper.wp execOp
    simp only [ho, resolve, invoke, builtin, Sem.run_bind, Sem.run_pure, Result.andThen_ok, List.map_toArray, List.map_cons, List.map_nil, hs, hx, hr]
    exact hK _ _ h
end Fl
end Go.Proofs.YtlgocfgnfdnloaaGreatDoor
end
section
namespace Go.Proofs.YtlgocfgnfdnloaaGreatDoor
set_option maxRecDepth 100000
namespace Fl
open Go.RowKit Go.Sort Go.Shelf
open En (Fi Fls Ints fval Row freeL allC need nameB filled)
open Vl
open Tw (Tb)
abbrev Gm : Type := ByteArray → Option (List UInt8)
def mvs (bs : List Nat) : List Value := bs.map (fun b => .map (some b))
structure May (w : World) (N0 : Nat) (x : Value) (bs : List Nat) (gs : List Gm) (Q : Nat → Prop) (lv : Value) (d : List Fv) (fbx : Nat) : Prop where
  len : bs.length = gs.length
  own : w.ownsRow N0 84 1 x bs.length (mvs bs)
  blk : ∀ k, x.ownBlock = some k → ¬ Q k ∧ k ≠ fbx
  far : ∀ k, x.ownBlock = some k → (∀ o n c, lv ≠ .slice (some ⟨k, o, none⟩) n c) ∧ ∀ y ∈ d, ∀ o, y.2.2.1 ≠ some ⟨k, o, none⟩
  each : ∀ (j : Nat) (b : Nat) (g : Gm), bs[j]? = some b → gs[j]? = some g → (∃ D N, Ms w b g D N) ∧ ¬ Q b
section
variable {w w' : World} {N0 : Nat} {x : Value} {bs : List Nat} {gs : List Gm} {Q Q' : Nat → Prop} {lv lv' : Value} {d d' : List Fv} {fbx : Nat}
theorem May.fs (h : May w N0 x bs gs Q lv d fbx) (hf : Fs Q w w') (hq : ∀ k, k < w.heap.size → ¬ Q k → ¬ Q' k) (hn : Nl w lv d lv' d') : May w' N0 x bs gs Q' lv' d' fbx := by
  refine ⟨h.len, ownFs h.own hf (fun k hk => (h.blk k hk).1), fun k hk => ⟨hq k (h.own.lt k hk).2 (h.blk k hk).1, (h.blk k hk).2⟩, fun k hk => ⟨fun o n c e => ?_, fun y hy o e => ?_⟩, fun j b g hb hg => ?_⟩
  · rcases hn.1 k o n c e with h1 | ⟨o', n', c', h1⟩
    · have := (h.own.lt k hk).2; omega
    · exact (h.far k hk).1 o' n' c' h1
  · rcases hn.2 y hy k o e with h1 | ⟨z, hz, o', h1⟩
    · have := (h.own.lt k hk).2; omega
    · exact (h.far k hk).2 z hz o' h1
  · obtain ⟨⟨D, N, hm⟩, hnq⟩ := h.each j b g hb hg
    exact ⟨⟨D, N, hm.fs hf hnq⟩, hq b hm.lt hnq⟩
theorem May.since (h : May w N0 x bs gs Q lv d fbx) (hs : Since w w') : May w' N0 x bs gs Q lv d fbx := by
  refine ⟨h.len, En.owns_since h.own hs, h.blk, h.far, fun j b g hb hg => ?_⟩
  obtain ⟨⟨D, N, hm⟩, hnq⟩ := h.each j b g hb hg
  exact ⟨⟨D, N, hm.since hs⟩, hnq⟩
end
theorem infoM : (Tryz.prog.info? 84).map (fun i => (i.zero, i.size, i.bytes)) = some (some (.map none), 1, 8) := by kernel_rfl
theorem row_not_map {w : World} {base e s n : Nat} {x : Value} {xs : List Value} {b : Nat} {g : Gm} {D : DataW Unit} {N : Nat} (ho : w.ownsRow base e s x n xs) (hm : Ms w b g D N) : x.ownBlock ≠ some b := fun hb => by
  obtain ⟨arr, fz, h1⟩ := Ty.own ho hb
  obtain ⟨es, clock, h2, _⟩ := hm.own
  rw [h1] at h2
  cases h2
theorem May.push {w : World} {N0 : Nat} {x : Value} {bs : List Nat} {gs : List Gm} {Q : Nat → Prop} {lv : Value} {d : List Fv} {fbx : Nat} (h : May w N0 x bs gs Q lv d fbx) (ty : Nat) {b : Nat} {g : Gm} {D : DataW Unit} {N : Nat} (hm : Ms w b g D N) (hnq : ¬ Q b) (hN0 : N0 ≤ w.heap.size) (h30 : bs.length ≤ 1000)
    (hlv : ∀ k o n c, lv = .slice (some ⟨k, o, none⟩) n c → k < w.heap.size) (hd : ∀ y ∈ d, ∀ k o, y.2.2.1 = some ⟨k, o, none⟩ → k < w.heap.size) (hfb : fbx < w.heap.size) (hqn : ∀ k, w.heap.size ≤ k → ¬ Q k) :
    ∃ x' w', (Builtin.append_ #[96, 96] ty #[x, .slice (some ⟨w.heap.size, 0, none⟩) 1 1]).run Tryz.prog (w.alloc (.cells #[.map (some b)] 84)) = .ok x' w' ∧ May w' N0 x' (bs ++ [b]) (gs ++ [g]) Q lv d fbx ∧ Fs (fun k => x.ownBlock = some k) w w' := by
  obtain ⟨i0, hi, hz0, hz1, hz2⟩ := info_parts' infoM
  have hs1 : Since w (w.alloc (.cells #[.map (some b)] 84)) := (Since.refl w).alloc _
  have hown := En.owns_since h.own hs1
  obtain ⟨gg, cap, w', hr, r2, r3, r4, r5⟩ := run_append_lies (P := Tryz.prog) (w.alloc (.cells #[.map (some b)] 84)) 96 ty N0 84 i0 _ 1 8 Tryz.underlying96 hi hz0 hz1 hz2 rfl (by decide) x bs.length (mvs bs) hown ⟨w.heap.size, 0, none⟩ 1 1 [.map (some b)] rfl (World.news_of_block (heap_alloc_new w _)) (by simp [Value.oneCell']) (by omega) (by unfold maxLen; omega) (by omega) (by simp; omega) (w.heap.size + 1) (by simp)
  have hfs1 : Fs (fun k => x.ownBlock = some k) (w.alloc (.cells #[.map (some b)] 84)) w' := ⟨r3.os, r3.tape, r3.output, r3.size, fun k hk hn => r3.block k hk (fun e => hn e.symm)⟩
  have hfs : Fs (fun k => x.ownBlock = some k) w w' := (Fs.of_since hs1).trans hfs1
  have hgg : x.ownBlock = some gg ∨ w.heap.size < gg := by
    rcases r4 with h1 | h1
    · exact Or.inl h1
    · exact Or.inr (by omega)
  refine ⟨_, w', hr, ⟨by simp [h.len], ?_, fun k hk => ?_, fun k hk => ?_, fun j b' g' hb' hg' => ?_⟩, hfs⟩
  · rw [List.length_append]
    have e : mvs (bs ++ [b]) = mvs bs ++ [.map (some b)] := by unfold mvs; simp
    rw [e]
    exact r2
  · have hk' : gg = k := by simpa [Value.ownBlock] using hk
    subst hk'
    rcases hgg with h1 | h1
    · exact h.blk _ h1
    · exact ⟨hqn _ (by omega), by omega⟩
  · have hk' : gg = k := by simpa [Value.ownBlock] using hk
    subst hk'
    rcases hgg with h1 | h1
    · exact h.far _ h1
    · exact ⟨fun o n c e => by have := hlv _ o n c e; omega, fun y hy o e => by have := hd y hy _ o e; omega⟩
  · by_cases hj : j < bs.length
    · rw [List.getElem?_append_left hj] at hb'
      rw [List.getElem?_append_left (by rw [← h.len]; exact hj)] at hg'
      obtain ⟨⟨D', N', hm'⟩, hnq'⟩ := h.each j b' g' hb' hg'
      exact ⟨⟨D', N', hm'.fs hfs (row_not_map h.own hm')⟩, hnq'⟩
    · have hjl := (List.getElem?_eq_some_iff.1 hb').1
      rw [List.length_append] at hjl
      simp at hjl
      have hje : j = bs.length := by omega
      subst hje
      rw [List.getElem?_append_right (Nat.le_refl _)] at hb'
      rw [List.getElem?_append_right (by rw [h.len]; exact Nat.le_refl _)] at hg'
      simp at hb'
      rw [h.len] at hg'
      simp at hg'
      subst hb' hg'
      exact ⟨⟨D, N, hm.fs hfs (row_not_map h.own hm)⟩, hnq⟩
theorem May.nil (w : World) (N0 : Nat) (Q : Nat → Prop) (lv : Value) (d : List Fv) (fbx : Nat) : May w N0 (.slice none 0 0) [] [] Q lv d fbx :=
  ⟨rfl, World.ownsRow_nil _ _ _ _, (fun k hk => by simp [Value.ownBlock] at hk), (fun k hk => by simp [Value.ownBlock] at hk), (fun j b g hb => by simp at hb)⟩
section
variable {w0 w w' : World} {fb vb db cb : Nat} {kb kt : ByteArray} {S : Vs} {v lv : Value} {d d0 : List Fv} {l l0 : List Fi}
theorem wholeFn_any (h : Fm w0 w fb vb db cb kb kt S v lv d l) (hr : En.right l = true) (hx : ∀ i, (S.X i).size ≤ 80) (b : Nat) (g : Gm) (D : DataW Unit) (N : Nat) (hm : Ms w b g D N) (fbx : Nat) (hb : w.cell? ⟨fbx, 0, none⟩ = some (.pointer (some ⟨fb, 0, none⟩))) :
    Calls Tryz.prog 46 #[.map (some b), .pointer (some ⟨fbx, 0, none⟩)] w fun e w' => (∃ q : Bool, e = .returned (.bool q) ∧ ((∀ u, txtOf S.X l u = g u) → q = true)) ∧ Since w w' := by
  have HS : Hid (Calls Tryz.prog 38 #[.pointer (some ⟨fb, 0, none⟩), .map (some b)] w fun e w' => (∃ q : Bool, e = .returned (.bool q) ∧ ((∀ u, txtOf S.X l u = g u) → q = true)) ∧ Since w w') := says_any h hr hx b g D N hm
  clear h hr hx hm
  go_enter Tryz.func46, Tryz.ntmps46
  go_wp2_with fail
  refine HS.out.mono ?_
  rintro e w1 ⟨⟨q, rfl, hq⟩, hs⟩
  have HR : Hid (((∀ u, txtOf S.X l u = g u) → q = true) ∧ Since w w1) := ⟨hq, hs⟩
  clear hq hs hb
  go_wp2_with fail
  go_ret
  exact ⟨⟨q, rfl, HR.out.1⟩, HR.out.2⟩
theorem wholeFn_enters : ∀ args w, (callFunc 46 args).run Tryz.prog w = .ok (.enter 46 args) w := enters_of Tryz.func46 (by kernel_rfl) rfl
set_option maxHeartbeats 4000000 in
theorem IFm_any (h : Fm w0 w fb vb db cb kb kt S v lv d l) (hr : En.right l = true) (hx : ∀ i, (S.X i).size ≤ 80) (fbx : Nat) (hb : w.cell? ⟨fbx, 0, none⟩ = some (.pointer (some ⟨fb, 0, none⟩))) {N0 : Nat} (x : Value) (bs : List Nat) (gs : List Gm) (hlen : bs.length = gs.length) (ho : w.ownsRow N0 84 1 x bs.length (mvs bs)) (he : ∀ (j : Nat) (b : Nat) (g : Gm), bs[j]? = some b → gs[j]? = some g → ∃ D N, Ms w b g D N) (h30 : bs.length ≤ 1000) (hit : ∃ (j : Nat) (g : Gm), gs[j]? = some g ∧ ∀ u, txtOf S.X l u = g u) :
    Calls Tryz.prog 111 #[x, .func (.func 46) #[] #[.pointer (some ⟨fbx, 0, none⟩)]] w fun e w' => (∃ i : Int, e = .returned (.int .i64 i) ∧ 0 ≤ i) ∧ Since w w' := by
  obtain ⟨a, c, rfl⟩ : ∃ a c, x = .slice a bs.length c := by
    rcases ho.2 with ⟨h', h0⟩ | ⟨g, cap, cur, h', _⟩
    · exact ⟨none, 0, by rw [h', h0]⟩
    · exact ⟨_, _, h'⟩
  have HO : Hid (w.ownsRow N0 84 1 (.slice a bs.length c) bs.length (mvs bs)) := ho
  have HC : Hid (∀ W b g, Since w W → (∃ D N, Ms w b g D N) → Calls Tryz.prog 46 #[.map (some b), .pointer (some ⟨fbx, 0, none⟩)] W fun e w' => (∃ q : Bool, e = .returned (.bool q) ∧ ((∀ u, txtOf S.X l u = g u) → q = true)) ∧ Since W w') := fun W b g hW hm => by
    obtain ⟨D, N, hm⟩ := hm
    exact wholeFn_any (h.since hW) hr hx b g D N (hm.since hW) fbx ((hW.cell (p := ⟨fbx, 0, none⟩) (World.block_lt_of_cell? _ _ hb)).trans hb)
  have HE : Hid (bs.length = gs.length ∧ (∀ (j : Nat) (b : Nat) (g : Gm), bs[j]? = some b → gs[j]? = some g → ∃ D N, Ms w b g D N) ∧ ∃ (j : Nat) (g : Gm), gs[j]? = some g ∧ ∀ u, txtOf S.X l u = g u) := ⟨hlen, he, hit⟩
  have heg := wholeFn_enters
  clear h hr hx hb hlen ho he hit
  go_enter Tryz.func111, Tryz.ntmps111
  go_wp2_with fail
  go_loopw [8, 5] (fun i _ wr => ∃ k : Nat, k ≤ bs.length ∧ i = .int .i64 k ∧ Since w wr ∧ ∀ (j : Nat) (g : Gm), j < k → gs[j]? = some g → ¬ ∀ u, txtOf S.X l u = g u) (fun i _ _ => bs.length - (intOf i).toNat)
  case atStart => exact ⟨0, by omega, rfl, Since.refl _, fun j g hj => by omega⟩
  case round =>
    obtain ⟨k, hk, rfl, hs, hno⟩ := hrel
    have HS : Hid (Since w wr) := hs
    have HNO : Hid (∀ (j : Nat) (g : Gm), j < k → gs[j]? = some g → ¬ ∀ u, txtOf S.X l u = g u) := hno
    clear hs hno
    by_cases hlt : k < bs.length
    · have hlt2 : (k : Int) < bs.length := by omega
      have hbk : bs[k]? = some bs[k] := List.getElem?_eq_getElem hlt
      have hgl : k < gs.length := by rw [← HE.out.1]; exact hlt
      have hgk : gs[k]? = some gs[k] := List.getElem?_eq_getElem hgl
      have HGK : Hid (gs[k]? = some gs[k]) := hgk
      have hmm := HE.out.2.1 k _ _ hbk hgk
      have hcl := HC.out wr _ _ HS.out hmm
      rcases HO.out.2 with ⟨_, h0⟩ | ⟨g0, cap, cur, h', hb0, hg0, hnc, _⟩
      · omega
      simp only [Value.slice.injEq, true_and] at h'
      obtain ⟨rfl, rfl⟩ := h'
      have q0 : wr.cell? ⟨g0, k, none⟩ = some (.map (some bs[k])) := by
        rw [HS.out.cell (p := ⟨g0, k, none⟩) (HO.out.lt g0 rfl).2, HO.out.cellAt k (by omega)]
        unfold mvs
        rw [List.getElem?_map, hbk]
        rfl
      generalize bs[k] = b at *
      generalize gs[k] = g at *
      have HCL : Hid (Calls Tryz.prog 46 #[.map (some b), .pointer (some ⟨fbx, 0, none⟩)] wr fun e w' => (∃ q : Bool, e = .returned (.bool q) ∧ ((∀ u, txtOf S.X l u = g u) → q = true)) ∧ Since wr w') := hcl
      clear hcl hmm hbk hgk hgl hb0 hg0
      go_wp2_with fail
      refine HCL.out.mono ?_
      rintro e w1 ⟨⟨q, rfl, hq⟩, h1⟩
      have HS1 : Hid (Since w w1) := HS.out.trans h1
      have HQ : Hid ((∀ u, txtOf S.X l u = g u) → q = true) := hq
      clear h1 q0 hq
      cases q with
      | true =>
        go_wp2_with fail
        go_ret
        exact ⟨⟨_, rfl, by omega⟩, HS1.out⟩
      | false =>
        go_wp2_with fail
        go_roundw
        case rel =>
          refine ⟨k + 1, by omega, by go_num, HS1.out, fun j g' hj hg' => ?_⟩
          by_cases ej : j = k
          · subst ej
            rw [HGK.out] at hg'
            injection hg' with hg'
            subst hg'
            exact fun hu => by have := HQ.out hu; cases this
          · exact HNO.out j g' (by omega) hg'
        case measure => simp [intOf]; omega
    · exfalso
      obtain ⟨j, g, hj, hu⟩ := HE.out.2.2
      have := (List.getElem?_eq_some_iff.1 hj).1
      have := HE.out.1
      exact HNO.out j g (by omega) hj hu
theorem CFm_any (h : Fm w0 w fb vb db cb kb kt S v lv d l) (hr : En.right l = true) (hx : ∀ i, (S.X i).size ≤ 80) (fbx : Nat) (hb : w.cell? ⟨fbx, 0, none⟩ = some (.pointer (some ⟨fb, 0, none⟩))) {N0 : Nat} (x : Value) (bs : List Nat) (gs : List Gm) (hlen : bs.length = gs.length) (ho : w.ownsRow N0 84 1 x bs.length (mvs bs)) (he : ∀ (j : Nat) (b : Nat) (g : Gm), bs[j]? = some b → gs[j]? = some g → ∃ D N, Ms w b g D N) (h30 : bs.length ≤ 1000) (hit : ∃ (j : Nat) (g : Gm), gs[j]? = some g ∧ ∀ u, txtOf S.X l u = g u) :
    Calls Tryz.prog 45 #[x, .func (.func 46) #[] #[.pointer (some ⟨fbx, 0, none⟩)]] w fun e w' => e = .returned (.bool true) ∧ Since w w' := by
  have HI : Hid (Calls Tryz.prog 111 #[x, .func (.func 46) #[] #[.pointer (some ⟨fbx, 0, none⟩)]] w fun e w' => (∃ i : Int, e = .returned (.int .i64 i) ∧ 0 ≤ i) ∧ Since w w') := IFm_any h hr hx fbx hb x bs gs hlen ho he h30 hit
  clear h hr hx hb hlen ho he hit
  go_enter Tryz.func45, Tryz.ntmps45
  go_wp2_with fail
  refine HI.out.mono ?_
  rintro e w1 ⟨⟨i, rfl, hi⟩, hs⟩
  have HS : Hid (Since w w1) := hs
  clear hs
  go_wp2_with fail
  go_ret
  exact ⟨rfl, HS.out⟩
end
end Fl
end Go.Proofs.YtlgocfgnfdnloaaGreatDoor
end
section
namespace Go.Proofs.YtlgocfgnfdnloaaGreatDoor
set_option maxRecDepth 100000
namespace Fl
open Go.RowKit Go.Sort Go.Shelf
open En (Fi Fls Ints fval Row freeL allC need nameB filled)
open Vl
open Tw (Tb)
def SaysX (X : Nat → ByteArray) (g : Gm) : Prop := ∃ l, En.right l = true ∧ catL X [0, 1, 2] = En.print l ∧ ∀ u, txtOf X l u = g u
def PM (gs : List Gm) (X : Nat → ByteArray) : Prop := ∃ g ∈ gs, SaysX X g
theorem PM.more {gs : List Gm} {X : Nat → ByteArray} (h : PM gs X) (g : Gm) : PM (gs ++ [g]) X := by
  obtain ⟨g', h1, h2⟩ := h
  exact ⟨g', List.mem_append_left _ h1, h2⟩
theorem SaysX.congr {X Y : Nat → ByteArray} {g : Gm} (h : SaysX X g) (hxy : ∀ i, i < 24 → Y i = X i) : SaysX Y g := by
  obtain ⟨l, h1, h2, h3⟩ := h
  exact ⟨l, h1, by rw [dir_in hxy]; exact h2, fun u => by rw [txtOf_in hxy h1]; exact h3 u⟩
theorem CC.mono {kb kt : ByteArray} {D : Dv} {c : Int} {P Q : (Nat → ByteArray) → Prop} (h : CC kb kt D c P) (hpq : ∀ X, P X → Q X) : CC kb kt D c Q := by
  obtain ⟨T, Y, h1, h2, h3⟩ := h
  refine ⟨T, Y, h1, hpq _ h2, ?_⟩
  rcases h3 with h3 | ⟨U, X, a, b, c, d, e, f⟩
  · exact Or.inl h3
  · exact Or.inr ⟨U, X, a, b, c, d, hpq _ e, f⟩
theorem Dead.mono {kb kt : ByteArray} {S : Vs} {P Q : (Nat → ByteArray) → Prop} (h : Dead kb kt S P) (hpq : ∀ X, P X → Q X) : Dead kb kt S Q := ⟨CC.mono h.1 hpq, h.2⟩
abbrev Qv (fb vb db cb : Nat) (v : Value) : Nat → Prop := fun k => k = fb ∨ VP vb db cb v k
def Head (w0 wr : World) (fb vb db cb fbx : Nat) (kb kt : ByteArray) (k : Nat) (m may : Value) : Prop :=
  ∃ S l v lv d T Y b g D bs gs, m = .map (some b) ∧ Fm w0 wr fb vb db cb kb kt S v lv d l ∧ Fw kb kt S l (k : Nat) T Y ∧ Ms wr b g D (k : Nat) ∧ ¬ Qv fb vb db cb v b ∧ (∀ u, txtOf S.X l u = g u) ∧
    May wr w0.heap.size may bs gs (Qv fb vb db cb v) lv d fbx ∧ g ∈ gs ∧ PM gs Y ∧ bs.length ≤ k + 1 ∧ wr.cell? ⟨fbx, 0, none⟩ = some (.pointer (some ⟨fb, 0, none⟩)) ∧ wr.frozen? ⟨fbx, 0, none⟩ = false ∧ ¬ Qv fb vb db cb v fbx
def Tail (w0 wr : World) (fb vb db cb fbx : Nat) (kb kt : ByteArray) (may : Value) : Prop :=
  ∃ S l v lv d bs gs, Fm w0 wr fb vb db cb kb kt S v lv d l ∧ Dead kb kt S (PM gs) ∧ S.ok 3000 ∧ May wr w0.heap.size may bs gs (Qv fb vb db cb v) lv d fbx ∧ bs.length ≤ 40 ∧ wr.cell? ⟨fbx, 0, none⟩ = some (.pointer (some ⟨fb, 0, none⟩)) ∧ wr.frozen? ⟨fbx, 0, none⟩ = false ∧ ¬ Qv fb vb db cb v fbx
theorem Head.tail {w0 wr : World} {fb vb db cb fbx : Nat} {kb kt : ByteArray} {k : Nat} {m may : Value} (h : Head w0 wr fb vb db cb fbx kb kt k m may) (hk : k ≤ 30) : Tail w0 wr fb vb db cb fbx kb kt may := by
  obtain ⟨S, l, v, lv, d, T, Y, b, g, D, bs, gs, _, h1, h2, h3, h4, h5, h6, h7, h8, h9, h10, h11, h12⟩ := h
  exact ⟨S, l, v, lv, d, bs, gs, h1, h2.alive h8, h2.al.ok.le (by omega), h6, by omega, h10, h11, h12⟩
theorem tell_ev (r : Int) (w : World) (hg : Et w) : Calls Tryz.prog 39 #[ev r] w fun e w' => e = .returned (.int .i64 r) ∧ Since w w' := by
  by_cases h : r = 0
  · subst h
    exact (tell_nil w).mono (fun e w' hh => by obtain ⟨rfl, rfl⟩ := hh; exact ⟨rfl, Since.refl _⟩)
  · rw [ev_ne h]
    exact tell_hit r w hg
theorem head_push {w0 w : World} {fb vb db cb fbx : Nat} {kb kt : ByteArray} {S : Vs} {l : List Fi} {v lv : Value} {d : List Fv} (hF : Fm w0 w fb vb db cb kb kt S v lv d l) {x : Value} {bs : List Nat} {gs : List Gm} (hm : May w w0.heap.size x bs gs (Qv fb vb db cb v) lv d fbx) {b : Nat} {g : Gm} {D : DataW Unit} {N : Nat} (hb : Ms w b g D N) (hnq : ¬ Qv fb vb db cb v b) (h30 : bs.length ≤ 1000) (hc : w.cell? ⟨fbx, 0, none⟩ = some (.pointer (some ⟨fb, 0, none⟩))) (hz : w.frozen? ⟨fbx, 0, none⟩ = false) (ty : Nat) :
    ∃ x' w', (Builtin.append_ #[96, 96] ty #[x, .slice (some ⟨w.heap.size, 0, none⟩) 1 1]).run Tryz.prog (w.alloc (.cells #[.map (some b)] 84)) = .ok x' w' ∧ May w' w0.heap.size x' (bs ++ [b]) (gs ++ [g]) (Qv fb vb db cb v) lv d fbx ∧ Fm w0 w' fb vb db cb kb kt S v lv d l ∧ Ms w' b g D N ∧ w'.cell? ⟨fbx, 0, none⟩ = some (.pointer (some ⟨fb, 0, none⟩)) ∧ w'.frozen? ⟨fbx, 0, none⟩ = false := by
  have hfl : fbx < w.heap.size := World.block_lt_of_cell? w _ hc
  have hq : ∀ k, w.heap.size ≤ k → ¬ Qv fb vb db cb v k := fun k hk hh => by
    rcases hh with rfl | hh
    · have := World.block_lt_of_cell? w _ hF.c0
      simp at this
      omega
    · exact hF.vol.notGe hk hh
  obtain ⟨x', w', hr, hm', hfs⟩ := hm.push ty hb hnq hF.vol.since.size h30 (fun k o n c e => (hF.blk k o n c e).1) (fun y hy k o e => by
    obtain ⟨j, hj, rfl⟩ := List.getElem_of_mem hy
    have hjl : j < l.length := by rw [hF.each.len]; exact hj
    exact ((hF.each.each j l[j] d[j] (List.getElem?_eq_getElem hjl) (List.getElem?_eq_getElem hj)).2.2.2 k o e).1) hfl hq
  refine ⟨x', w', hr, hm', hF.fs hfs (fun k hk => (hm.own.lt k hk).1) (fun k _ hk => ⟨fun e => (hm.blk k hk).1 (Or.inl e), fun hv => (hm.blk k hk).1 (Or.inr hv)⟩) (fun k o n c e hk => (hm.far k hk).1 o n c e) (fun j y hy k o e hk => (hm.far k hk).2 y (List.mem_of_getElem? hy) o e), hb.fs hfs (row_not_map hm.own hb), ?_, ?_⟩
  · exact (hfs.cell (p := ⟨fbx, 0, none⟩) hfl (fun hk => (hm.blk _ hk).2 rfl)).trans hc
  · exact (hfs.frozen (p := ⟨fbx, 0, none⟩) hfl (fun hk => (hm.blk _ hk).2 rfl)).trans hz
end Fl
end Go.Proofs.YtlgocfgnfdnloaaGreatDoor
end
section
namespace Go.Proofs.YtlgocfgnfdnloaaGreatDoor
set_option maxRecDepth 100000
namespace Fl
open Go.RowKit Go.Sort Go.Shelf
open En (Fi Fls Ints fval Row freeL allC need nameB filled)
open Vl
open Tw (Tb)
theorem fuse_vol {w0 w : World} {vb db cb : Nat} {kb kt : ByteArray} {S : Vs} {v : Value} (m : Int) (hm : m ≤ 9223372036854775807) (h : Vol w0 w vb db cb kb kt S v) :
    Calls Tryz.prog 25 #[.pointer (some ⟨db, 0, none⟩), .int .i64 m] w fun e w' => e = .returned (.tuple #[]) ∧ Vto w0 w w' vb db cb kb kt { S with D := S.D.fuse m } v := by
  refine (fuse_any S.D v db m w h.dev hm).mono ?_
  rintro e w' ⟨rfl, hd, hf⟩
  exact ⟨rfl, h.devTo hd hf.wide (Nx.refl _ _)⟩
theorem dsB_short {l : List Dd} (h : dsB l = true) : l.length ≤ 30 ∧ ∀ x ∈ l, x.nm.size ≤ 40 ∧ x.tx.size ≤ 1800 := by
  unfold dsB at h
  rw [Bool.and_eq_true, decide_eq_true_eq, List.all_eq_true] at h
  refine ⟨h.1, fun x hx => ?_⟩
  have := h.2 x hx
  unfold shortD at this
  rw [Bool.and_eq_true, decide_eq_true_eq, decide_eq_true_eq] at this
  exact this
theorem fuse_fw (kb kt : ByteArray) (k : Nat) (hk : k ≤ 59) : Fw kb kt (fresh (dv0.fuse k) 0) [] 0 Tb.zero (fun _ => ⟨#[]⟩) := by
  have hg := (fresh_good kb kt).1
  refine ⟨⟨rfl, fun z hz => by show 0 ≤ 16; omega, fresh_ok (dv0.fuse k) (by show 0 ≤ 1; omega), fun z hz => by show 0 ≤ 0; omega, fun i hi => Or.inl ⟨⟨rfl, rfl, rfl⟩, rfl⟩, (sure_zero kb kt).dev rfl (fun z _ => Nat.le_refl _) (fun _ _ => rfl), rfl⟩, ⟨?_, ?_, ?_⟩, rfl, rfl⟩
  · show decide (0 ≤ (k : Int)) = true
    simp
  · show ((tot dv0 : Nat) : Int) + max (k : Int) 0 ≤ 59
    have : tot dv0 = 0 := rfl
    rw [this]
    omega
  · show 0 ≤ max (k : Int) 0
    omega
theorem own_one (w : World) (b N0 : Nat) (hN : N0 ≤ w.heap.size) : (w.alloc (.cells #[.map (some b)] 84)).ownsRow N0 84 1 (.slice (some ⟨w.heap.size, 0, none⟩) 1 1) 1 [.map (some b)] :=
  ⟨by simp, .inr ⟨w.heap.size, 1, _, rfl, hN, heap_alloc_new w _, Nat.le_refl _, by unfold maxLen; omega, by simp, by simp⟩⟩
theorem dw_pre {w0 w W w' : World} {fb vb db cb : Nat} {kb kt : ByteArray} {S : Vs} {lv : Value} {d : List Fv} {l : List Fi} {n : Int} {v : Value} {b : Nat} {g : Gm} {N : Nat} {what : Int} {P : (Nat → ByteArray) → Prop} {b' : Nat} {er : Value} (hs : Since w W) (h : DW w0 W w' fb vb db cb kb kt S lv d l n v b g N what P b' er) : DW w0 w w' fb vb db cb kb kt S lv d l n v b g N what P b' er := by
  obtain ⟨v', r, h1, h2, h3, h4⟩ := h
  refine ⟨v', r, h1, (Fs.of_since hs).trans h2, fun k hk => h3 k (Nat.lt_of_lt_of_le hk hs.size), ?_⟩
  rcases h4 with ⟨h5, S', l', lv', d', T', Y', g', D', a1, a2, a3, a4, a5, a6, a7⟩ | h5
  · exact Or.inl ⟨h5, S', l', lv', d', T', Y', g', D', a1, a2, a3, a4, a5, a6, a7.mono hs.size⟩
  · exact Or.inr h5
theorem Ms.ne_cell {w : World} {b k o : Nat} {g : Gm} {D : DataW Unit} {N : Nat} {u : Value} (h : Ms w b g D N) (hc : w.cell? ⟨k, o, none⟩ = some u) : b ≠ k := fun e => by
  subst e
  obtain ⟨es, clock, h2, _⟩ := h.own
  simp [World.cell?, h2] at hc
theorem dw_since {w0 w w' : World} {fb vb db cb : Nat} {kb kt : ByteArray} {S : Vs} {lv : Value} {d : List Fv} {l : List Fi} {n : Int} {v : Value} {b : Nat} {g : Gm} {N : Nat} {what : Int} {P : (Nat → ByteArray) → Prop} {b' : Nat} {er : Value} (h : DW w0 w w' fb vb db cb kb kt S lv d l n v b g N what P b' er) : Since w0 w' := by
  obtain ⟨v', r, h1, h2, h3, h4⟩ := h
  rcases h4 with ⟨h5, S', l', lv', d', T', Y', g', D', a1, _⟩ | ⟨_, _, S', D', a1, _⟩
  · exact a1.vol.since
  · exact a1.vol.since
theorem dw_cells {w0 w w' : World} {fb vb db cb fbx : Nat} {kb kt : ByteArray} {S : Vs} {lv : Value} {d : List Fv} {l : List Fi} {n : Int} {v : Value} {b : Nat} {g : Gm} {N : Nat} {what : Int} {P : (Nat → ByteArray) → Prop} {b' : Nat} {er : Value} (hF : Fm w0 w fb vb db cb kb kt S v lv d l) (hc : w.cell? ⟨fbx, 0, none⟩ = some (.pointer (some ⟨fb, 0, none⟩))) (hq : ¬ Qv fb vb db cb v fbx) (h : DW w0 w w' fb vb db cb kb kt S lv d l n v b g N what P b' er) {C : World → Prop} (hC : ∀ W, Since w0 W → C W) : w'.cell? ⟨fbx, 0, none⟩ = some (.pointer (some ⟨fb, 0, none⟩)) ∧ C w' := by
  refine ⟨?_, hC _ (dw_since h)⟩
  obtain ⟨v', r, h1, h2, h3, h4⟩ := h
  exact (h2.cell (p := ⟨fbx, 0, none⟩) (World.block_lt_of_cell? _ _ hc) hq).trans hc
set_option maxHeartbeats 16000000 in
theorem whole_go (l : List Dd) (lv kv sv : Value) (fuse : Int) (nk ns : Nat) (ks : Nat → Int) (sl : Nat → Bool) (w : World) (hT : Sm.Tab w) (hL : En.Lb w) (hE : Et w) (hl : Dds w lv l) (hk : Go.Proofs.YtlgocfgnfdnloaaGreatDoor.SlA w w.heap.size kv nk (fun j => .int .i64 (ks j))) (hs : Go.Proofs.YtlgocfgnfdnloaaGreatDoor.SlA w w.heap.size sv ns (fun j => .bool (sl j))) :
    Calls Tryz.prog 6 #[lv, .int .i64 fuse, kv, sv] w fun e w' => e = .returned (.bool true) ∧ Since w w' := by
  have HT : Hid (Sm.Tab w ∧ En.Lb w ∧ Et w) := ⟨hT, hL, hE⟩
  have HD : Hid (∀ W, Since w W → Calls Tryz.prog 35 #[lv] W fun e w' => e = .returned (.bool (dsB l)) ∧ Since W w') := fun W hW => deeds_any l lv W (hl.since hW)
  obtain ⟨la, lc, rfl⟩ : ∃ a c, lv = .slice a l.length c := by
    obtain ⟨a, c, h1, _⟩ := hl
    exact ⟨a, c, h1⟩
  obtain ⟨ka, kc, rfl, hk1⟩ := hk
  obtain ⟨sa, sc, rfl, hs1⟩ := hs
  have HL : Hid (Dds w (.slice la l.length lc) l) := hl
  have HK : Hid (Go.Proofs.YtlgocfgnfdnloaaGreatDoor.SlA w w.heap.size (.slice ka nk kc) nk (fun j => .int .i64 (ks j)) ∧ Go.Proofs.YtlgocfgnfdnloaaGreatDoor.SlA w w.heap.size (.slice sa ns sc) ns (fun j => .bool (sl j))) := ⟨⟨ka, kc, rfl, hk1⟩, ⟨sa, sc, rfl, hs1⟩⟩
  clear hT hL hE hl hk1 hs1
  go_enter Tryz.func6, Tryz.ntmps6
  go_wp2_with fail
  refine (HD.out w (Since.refl _)).mono ?_
  rintro e w1 ⟨rfl, hs1⟩
  have HS1 : Hid (Since w w1) := hs1
  clear hs1
  cases hB1 : dsB l with
  | false =>
    go_wp2_with fail
    go_ret
    exact ⟨rfl, HS1.out⟩
  | true =>
  obtain ⟨h30, hsh⟩ := dsB_short hB1
  have HSH : Hid (l.length ≤ 30 ∧ ∀ x ∈ l, x.nm.size ≤ 40 ∧ x.tx.size ≤ 1800) := ⟨h30, hsh⟩
  clear hB1 h30 hsh
  by_cases h4 : 20 < nk
  · have h4i : (20 : Int) < (nk : Int) := by omega
    go_wp2_with fail
    go_ret
    exact ⟨rfl, HS1.out⟩
  have h4i : ¬ (20 : Int) < (nk : Int) := by omega
  by_cases h5 : 20 < ns
  · have h5i : (20 : Int) < (ns : Int) := by omega
    go_wp2_with fail
    go_ret
    exact ⟨rfl, HS1.out⟩
  have h5i : ¬ (20 : Int) < (ns : Int) := by omega
  have HFI : Hid (Calls Tryz.prog 36 #[] w1 fun e w' => e = .returned (.bool true) ∧ Since w1 w') := filed_any w1 (HT.out.1.since HS1.out) (HT.out.2.1.since HS1.out)
  go_wp2_with fail
  refine HFI.out.mono ?_
  rintro e w3 ⟨rfl, hs3⟩
  have HS3 : Hid (Since w w3) := HS1.out.trans hs3
  clear hs3 HFI h4 h5 h4i h5i
  have HT3 : Hid (Sm.Tab w3 ∧ En.Lb w3 ∧ Et w3) := ⟨HT.out.1.since HS3.out, HT.out.2.1.since HS3.out, HT.out.2.2.since HS3.out⟩
  have HB : Hid (Base w3 (kbOf sec) (ktOf sec)) := ⟨HT3.out.1, keyOf_size _ _, keyOf_size _ _⟩
  have HOP : Hid (∀ (W : World) (db cb : Nat) (v : Value), DC w3 W db cb dv0 0 v → Calls Tryz.prog 12 #[.pointer (some ⟨db, 0, none⟩), .pointer (some ⟨cb, 0, none⟩), .string ⟨#[48, 49, 50, 51, 52, 53, 54, 55, 56, 57, 97, 98, 99, 100, 101, 102]⟩] W fun e w' => ∃ vb v' fb lv d, e = .returned (.tuple #[.pointer (some ⟨fb, 0, none⟩), .nilIface]) ∧ Fm w3 w' fb vb db cb (kbOf sec) (ktOf sec) (fresh dv0 0) v' lv d []) := fun W db cb v hd => (fopenG (l := []) sec rfl HT3.out.1 HT3.out.2.1 (by omega) (by show 0 ≤ 1; omega) hd (fresh_good (kbOf sec) (ktOf sec)).2.2 (fresh_good (kbOf sec) (ktOf sec)).1.low right_nil rfl).mono (fun e w' hh => by
    obtain ⟨vb, S', v', fb, lv, d, rfl, hF, ⟨_, _, _, h4, _⟩, _⟩ := hh
    obtain rfl := h4 rfl
    exact ⟨vb, v', fb, lv, d, rfl, hF⟩)
  have HOQ : Hid (∀ (W : World) (db cb : Nat) (D : Dv) (c : Int) (v : Value), 0 ≤ c ∧ c < 1000000000 → D.ws.length ≤ 1 → DC w3 W db cb D c v → Calls Tryz.prog 12 #[.pointer (some ⟨db, 0, none⟩), .pointer (some ⟨cb, 0, none⟩), .string ⟨#[48, 49, 50, 51, 52, 53, 54, 55, 56, 57, 97, 98, 99, 100, 101, 102]⟩] W fun e w' => FOpened w3 W w' db cb sec D c v e) := fun W db cb D c v hc hw hd => fopen_any sec rfl HT3.out.1 HT3.out.2.1 hc hw hd
  go_wp2_with fail
  refine (new_any _).mono ?_
  rintro e w4 ⟨rfl, rfl⟩
  go_wp2_with fail
  have hdc := dc_new w3
  generalize (w3.alloc (.cells Tryz.zeroCells129 129)).alloc (.cells #[.int .i64 0] 30) = w4 at *
  generalize w3.heap.size + 1 = cb at *
  generalize hdb : w3.heap.size = db at *
  have HDB : Hid (w3.heap.size = db) := hdb
  have HDC : Hid (DC w3 w4 db cb dv0 0 (.slice none 0 0)) := hdc
  clear hdc hdb
  refine (HOP.out _ _ _ _ HDC.out).mono ?_
  rintro e w5 ⟨vb, v0, fb, lv0, d0, rfl, hF0⟩
  have HF0 : Hid (Fm w3 w5 fb vb db cb (kbOf sec) (ktOf sec) (fresh dv0 0) v0 lv0 d0 []) := hF0
  clear hF0 HOP
  go_upto_region 8 with fail
  have hF6 := HF0.out.since ((Since.refl w5).alloc (.cells #[.pointer (some ⟨fb, 0, none⟩)] 36))
  generalize hw6 : w5.alloc (.cells #[.pointer (some ⟨fb, 0, none⟩)] 36) = w6 at *
  have p6 : w6.cell? ⟨w5.heap.size, 0, none⟩ = some (.pointer (some ⟨fb, 0, none⟩)) := by rw [← hw6]; simp
  have z6 : w6.frozen? ⟨w5.heap.size, 0, none⟩ = false := by rw [← hw6]; simp
  have hnq : ¬ Qv fb vb db cb v0 w5.heap.size := fun hh => by
    rcases hh with hh | hh
    · have := World.block_lt_of_cell? w5 _ HF0.out.c0
      simp at this
      omega
    · exact HF0.out.vol.notNew hh
  clear hw6
  have HFX : Hid (db ≤ w5.heap.size) := by have h1 := HF0.out.vol.since.size; rw [HDB.out] at h1; exact h1
  generalize w5.heap.size = fbx at *
  have H6 : Hid (Fm w3 w6 fb vb db cb (kbOf sec) (ktOf sec) (fresh dv0 0) v0 lv0 d0 [] ∧ w6.cell? ⟨fbx, 0, none⟩ = some (.pointer (some ⟨fb, 0, none⟩)) ∧ w6.frozen? ⟨fbx, 0, none⟩ = false ∧ ¬ Qv fb vb db cb v0 fbx) := ⟨hF6, p6, z6, hnq⟩
  clear hF6 z6 hnq HF0
  have hpk := pkN_lt 60 fuse (by omega)
  have HPK : Hid (pkN 60 fuse < 60) := hpk
  clear hpk
  go_wp2_with fail
  refine (pickN_any 60 fuse _ (by omega) (by omega)).mono ?_
  rintro e w' ⟨rfl, rfl⟩
  generalize pkN 60 fuse = fu at *
  have HFU : Hid (Calls Tryz.prog 25 #[.pointer (some ⟨db, 0, none⟩), .int .i64 fu] w' fun e w'' => e = .returned (.tuple #[]) ∧ Vto w3 w' w'' vb db cb (kbOf sec) (ktOf sec) { (fresh dv0 0) with D := dv0.fuse fu } v0) := fuse_vol fu (by have := HPK.out; omega) H6.out.1.vol
  generalize hkb : kbOf sec = kb at *
  generalize hkt : ktOf sec = kt at *
  have HKK : Hid (kbOf sec = kb ∧ ktOf sec = kt) := ⟨hkb, hkt⟩
  clear hkb hkt
  go_wp2_with fail
  refine HFU.out.mono ?_
  rintro e w7 ⟨rfl, hvt⟩
  obtain ⟨v7, hF7, hfs7, hnx7⟩ := H6.out.1.vto hvt
  have hfl6 : fbx < w'.heap.size := World.block_lt_of_cell? _ _ H6.out.2.1
  have H7 : Hid (Fm w3 w7 fb vb db cb kb kt (fresh (dv0.fuse fu) 0) v7 lv0 d0 [] ∧ w7.cell? ⟨fbx, 0, none⟩ = some (.pointer (some ⟨fb, 0, none⟩)) ∧ w7.frozen? ⟨fbx, 0, none⟩ = false ∧ ¬ Qv fb vb db cb v7 fbx) := by
    have hn : ¬ VP vb db cb v0 fbx := fun h => H6.out.2.2.2 (.inr h)
    exact ⟨hF7, (hfs7.cell (p := ⟨fbx, 0, none⟩) hfl6 hn).trans H6.out.2.1, (hfs7.frozen (p := ⟨fbx, 0, none⟩) hfl6 hn).trans H6.out.2.2.1, fun hh => hh.elim (fun e => H6.out.2.2.2 (.inl e)) (hnx7 fbx hfl6 hn)⟩
  clear hF7 hfs7 hnx7 hvt hfl6 p6 HFU
  have hmm := @run_makeMap Tryz.prog
  go_upto_block 0 with fail
  have hhead : Head w3 ((w7.alloc (.map #[] 0)).alloc (.cells #[.map (some w7.heap.size)] 84)) fb vb db cb fbx kb kt 0 (.map (some w7.heap.size)) (.slice (some ⟨w7.heap.size + 1, 0, none⟩) 1 1) := by
    have hs8 : Since w7 (w7.alloc (.map #[] 0)) := (Since.refl w7).alloc _
    have hs9 : Since (w7.alloc (.map #[] 0)) ((w7.alloc (.map #[] 0)).alloc (.cells #[.map (some w7.heap.size)] 84)) := (Since.refl _).alloc _
    have hfl : fbx < w7.heap.size := World.block_lt_of_cell? _ _ H7.out.2.1
    have hfb : fb < w7.heap.size := World.block_lt_of_cell? _ _ H7.out.1.c0
    have hnQ : ∀ k, w7.heap.size ≤ k → ¬ Qv fb vb db cb v7 k := fun k hk hh => by
      rcases hh with rfl | hh
      · omega
      · exact H7.out.1.vol.notGe hk hh
    have hone := own_one (w7.alloc (.map #[] 0)) w7.heap.size w3.heap.size (Nat.le_trans H7.out.1.vol.since.size hs8.size)
    have e8 : (w7.alloc (.map #[] 0)).heap.size = w7.heap.size + 1 := by simp
    rw [e8] at hone
    have hms := ((ms_new w7).since hs9)
    refine ⟨fresh (dv0.fuse fu) 0, [], v7, lv0, d0, Tb.zero, fun _ => ⟨#[]⟩, w7.heap.size, fun _ => none, .map [], [w7.heap.size], [fun _ => none], rfl, (H7.out.1.since hs8).since hs9, fuse_fw kb kt fu (by have := HPK.out; omega), hms, hnQ _ (Nat.le_refl _), fun u => rfl, ⟨rfl, hone, fun k hk => ?_, fun k hk => ?_, fun j b g hb hg => ?_⟩, by simp, ⟨_, List.mem_singleton.2 rfl, [], rfl, rfl, fun u => rfl⟩, by simp, ?_, ?_, H7.out.2.2.2⟩
    · have hk' : w7.heap.size + 1 = k := by simpa [Value.ownBlock] using hk
      exact ⟨hnQ k (by omega), by omega⟩
    · have hk' : w7.heap.size + 1 = k := by simpa [Value.ownBlock] using hk
      refine ⟨fun o n c e => by have := (H7.out.1.blk k o n c e).1; omega, fun y hy o e => ?_⟩
      have := H7.out.1.each.len
      have hd0 : d0 = [] := List.length_eq_zero_iff.1 this.symm
      rw [hd0] at hy
      cases hy
    · have hj := (List.getElem?_eq_some_iff.1 hb).1
      have hj0 : j = 0 := by simp at hj; omega
      subst hj0
      simp at hb hg
      subst hb hg
      exact ⟨⟨_, _, hms⟩, hnQ _ (Nat.le_refl _)⟩
    · exact ((hs8.trans hs9).cell (p := ⟨fbx, 0, none⟩) hfl).trans H7.out.2.1
    · exact (Fs.frozen (S := fun _ => False) (Fs.of_since (hs8.trans hs9)) (p := ⟨fbx, 0, none⟩) hfl (fun h => h)).trans H7.out.2.2.1
  have HHD : Hid (Head w3 ((w7.alloc (.map #[] 0)).alloc (.cells #[.map (some w7.heap.size)] 84)) fb vb db cb fbx kb kt 0 (.map (some w7.heap.size)) (.slice (some ⟨w7.heap.size + 1, 0, none⟩) 1 1)) := hhead
  clear hhead
  generalize (w7.alloc (.map #[] 0)).alloc (.cells #[.map (some w7.heap.size)] 84) = w9 at *
  generalize w7.heap.size + 1 = mb9 at *
  generalize w7.heap.size = mb8 at *
  go_cut [13, 14] from 54 to 107 (fun m may wr => Tail w3 wr fb vb db cb fbx kb kt may)
  case first =>
    go_wp2_with fail
    go_loopw [13, 14, 15] (fun m may i wr => ∃ k : Nat, k ≤ l.length ∧ i = .int .i64 k ∧ Head w3 wr fb vb db cb fbx kb kt k m may) (fun _ _ i _ => l.length - (intOf i).toNat)
    case atStart => exact ⟨0, by omega, rfl, HHD.out⟩
    case round =>
      obtain ⟨k, hk, rfl, hh⟩ := hrel
      have HH : Hid (Head w3 wr fb vb db cb fbx kb kt k u13 u14) := hh
      have h30 : l.length ≤ 30 := HSH.out.1
      by_cases hlt : k < l.length
      · have hlt2 : (k : Int) < l.length := by omega
        obtain ⟨S, l1, v, lv, d, T, Y, b, g, D, bs, gs, rfl, hFm, hFw, hMs, hnb, htx, hMay, hgm, hPY, hbl, hcx, hfx, hnx⟩ := hh
        have HR : Hid (Fm w3 wr fb vb db cb kb kt S v lv d l1 ∧ Fw kb kt S l1 (k : Nat) T Y ∧ Ms wr b g D (k : Nat) ∧ ¬ Qv fb vb db cb v b ∧ (∀ u, txtOf S.X l1 u = g u)) := ⟨hFm, hFw, hMs, hnb, htx⟩
        have HM : Hid (May wr w3.heap.size u14 bs gs (Qv fb vb db cb v) lv d fbx ∧ g ∈ gs ∧ PM gs Y ∧ bs.length ≤ k + 1 ∧ wr.cell? ⟨fbx, 0, none⟩ = some (.pointer (some ⟨fb, 0, none⟩)) ∧ wr.frozen? ⟨fbx, 0, none⟩ = false ∧ ¬ Qv fb vb db cb v fbx) := ⟨hMay, hgm, hPY, hbl, hcx, hfx, hnx⟩
        have hE : Hid (l[k]? = some l[k]) := List.getElem?_eq_getElem hlt
        have hxs := HSH.out.2 _ (List.getElem_mem hlt)
        generalize l[k] = x at *
        obtain ⟨xw, xn, xt⟩ := x
        obtain ⟨k1, o1, rfl, hl1, p0, p1, p2⟩ := HL.out.at_ hE.out
        have HP : Hid (∀ W, Since w3 W → W.cell? ⟨k1, o1 + k * 3, none⟩ = some (.int .i64 xw) ∧ W.cell? ⟨k1, o1 + k * 3 + 1, none⟩ = some (.string xn) ∧ W.cell? ⟨k1, o1 + k * 3 + 2, none⟩ = some (.string xt)) := fun W hW => by
          have hs := HS3.out.trans hW
          exact ⟨(hs.cell (p := ⟨k1, o1 + k * 3, none⟩) hl1).trans p0, (hs.cell (p := ⟨k1, o1 + k * 3 + 1, none⟩) hl1).trans p1, (hs.cell (p := ⟨k1, o1 + k * 3 + 2, none⟩) hl1).trans p2⟩
        have hXP : PM gs S.X := ⟨g, hgm, l1, hFw.right, hFw.dir, htx⟩
        have HDO : Hid (∀ W, Since wr W → Calls Tryz.prog 37 #[.pointer (some ⟨fb, 0, none⟩), .agg #[.int .i64 xw, .string xn, .string xt], .map (some b)] W fun e w' => ∃ b' er, e = .returned (.tuple #[.map (some b'), er]) ∧ DW w3 wr w' fb vb db cb kb kt S lv d l1 (k : Nat) v b g (k : Nat) xw (PM gs) b' er) := fun W hW => by
          obtain ⟨e1, e2⟩ := HKK.out
          subst e1 e2
          refine (doW_any HB.out HT3.out.2.1 hFw (by omega) (hFm.since hW) b g D k (hMs.since hW) (by omega) hnb htx ⟨xw, xn, xt⟩ hxs hPY hXP).mono ?_
          rintro e w' ⟨b', er, he, hd⟩
          exact ⟨b', er, he, dw_pre hW hd⟩
        have HGE : Hid (∀ W c, W.cell? ⟨cb, 0, none⟩ = some (.int .i64 c) → Calls Tryz.prog 44 #[.pointer (some ⟨cb, 0, none⟩)] W fun e w' => e = .returned (.int .i64 c) ∧ w' = W) := fun W c hc => Mt.get_any cb c W hc
        have hct := hFm.vol.ctr.cell 0 (by omega)
        obtain ⟨cc, hcc⟩ : ∃ cc, S.c = cc := ⟨_, rfl⟩
        rw [hcc] at hct
        have HCC : Hid (S.c = cc) := hcc
        clear hFm hFw hMs hnb htx hMay hgm hPY hbl hcx hfx hnx hxs p0 p1 p2 hXP hcc
        go_upto_region 17 with fail
        go_wp2_with fail
        refine (HGE.out wr cc hct).mono ?_
        clear hct
        rintro e wq ⟨rfl, hwq⟩
        subst hwq
        have q := HP.out wq HR.out.1.vol.since
        have hcx := HM.out.2.2.2.2.1
        have HQ : Hid (∀ W, Since wq W → W.cell? ⟨fbx, 0, none⟩ = some (.pointer (some ⟨fb, 0, none⟩)) ∧ W.cell? ⟨k1, o1 + k * 3, none⟩ = some (.int .i64 xw) ∧ W.cell? ⟨k1, o1 + k * 3 + 1, none⟩ = some (.string xn) ∧ W.cell? ⟨k1, o1 + k * 3 + 2, none⟩ = some (.string xt)) := fun W hW => ⟨(hW.cell (p := ⟨fbx, 0, none⟩) (World.block_lt_of_cell? _ _ hcx)).trans hcx, HP.out W (HR.out.1.vol.since.trans hW)⟩
        obtain ⟨q0, q1, q2⟩ := q
        go_wp2_with fail
        go_region_held3 (fun W => W.cell? ⟨fbx, 0, none⟩ = some (.pointer (some ⟨fb, 0, none⟩)) ∧ W.cell? ⟨k1, o1 + k * 3, none⟩ = some (.int .i64 xw) ∧ W.cell? ⟨k1, o1 + k * 3 + 1, none⟩ = some (.string xn) ∧ W.cell? ⟨k1, o1 + k * 3 + 2, none⟩ = some (.string xt)) (first | exact HQ.out _ (Since.refl _) | exact HQ.out _ (Since.refl _).drew | exact HQ8.out) (first
          | (go_simp; go_at_call 37; refine (HDO.out _ (by first | exact Since.refl _ | exact (Since.refl _).drew)).mono ?_; rintro e w8 ⟨b', er, rfl, hdw⟩; have HDW : Hid (DW w3 wq w8 fb vb db cb kb kt S lv d l1 (k : Nat) v b g (k : Nat) xw (PM gs) b' er) := hdw; have HQ8 : Hid (w8.cell? ⟨fbx, 0, none⟩ = some (.pointer (some ⟨fb, 0, none⟩)) ∧ w8.cell? ⟨k1, o1 + k * 3, none⟩ = some (.int .i64 xw) ∧ w8.cell? ⟨k1, o1 + k * 3 + 1, none⟩ = some (.string xn) ∧ w8.cell? ⟨k1, o1 + k * 3 + 2, none⟩ = some (.string xt)) := dw_cells HR.out.1 HM.out.2.2.2.2.1 HM.out.2.2.2.2.2.2 hdw HP.out; clear hdw; dsimp only))
        clear q0 q1 q2 hcx HQ
        obtain ⟨v', r, her, hfs, hnv, hcase⟩ := HDW.out
        have hqq : ∀ k, k < wq.heap.size → ¬ Qv fb vb db cb v k → ¬ Qv fb vb db cb v' k := fun k hk hn hh => hh.elim (fun e => hn (.inl e)) (hnv k hk (fun h => hn (.inr h)))
        have hfl8 : fbx < wq.heap.size := World.block_lt_of_cell? _ _ HM.out.2.2.2.2.1
        have hfz8 : w8.frozen? ⟨fbx, 0, none⟩ = false := (hfs.frozen (p := ⟨fbx, 0, none⟩) hfl8 HM.out.2.2.2.2.2.2).trans HM.out.2.2.2.2.2.1
        have hnq8 : ¬ Qv fb vb db cb v' fbx := hqq fbx hfl8 HM.out.2.2.2.2.2.2
        have HER : Hid (er = ev r) := her
        clear her HDW
        rcases hcase with ⟨hr14, S', l', lv', d', T', Y', g', D', a1, a2, a3, a4, a5, a6, a7⟩ | ⟨hr14, hbb, S', D', a1, a2, a3, a4, a5, a6⟩
        · have hMay8 : May w8 w3.heap.size u14 bs gs (Qv fb vb db cb v') lv' d' fbx := HM.out.1.fs hfs hqq a7
          have hct8 : w8.cell? ⟨cb, 0, none⟩ = some (.int .i64 S'.c) := a1.vol.ctr.cell 0 (by omega)
          have HA : Hid (Fm w3 w8 fb vb db cb kb kt S' v' lv' d' l' ∧ Fw kb kt S' l' (k + 1 : Int) T' Y' ∧ Ms w8 b' g' D' (k + 1) ∧ (∀ u, txtOf S'.X l' u = g' u) ∧ ¬ Qv fb vb db cb v' b' ∧ May w8 w3.heap.size u14 bs gs (Qv fb vb db cb v') lv' d' fbx ∧ w8.frozen? ⟨fbx, 0, none⟩ = false ∧ ¬ Qv fb vb db cb v' fbx) := ⟨a1, a2, a3, a4, a5, hMay8, hfz8, hnq8⟩
          have hrb : (r == 14) = false := by simpa using hr14
          rcases a6 with ⟨h2, hc2, hY2, hX2, hg2⟩ | ⟨h2, hc3, hPY⟩
          · subst h2
            have hce : ¬ S'.c = cc := by rw [hc2, HCC.out]; omega
            obtain ⟨c', hc'⟩ : ∃ c', S'.c = c' := ⟨_, rfl⟩
            rw [hc'] at hct8 hce
            have hceb : (c' == cc) = false := by simpa using hce
            have HT2 : Hid (Y' = S.X ∧ g' = g) := ⟨hY2, hg2⟩
            obtain ⟨x9, w9', hr9, m9, f9, s9, y9, z9⟩ := head_push HA.out.1 (May.nil w8 w3.heap.size (Qv fb vb db cb v') lv' d' fbx) HA.out.2.2.1 HA.out.2.2.2.2.1 (by simp) HQ8.out.1 HA.out.2.2.2.2.2.2.1 96
            have H9 : Hid (May w9' w3.heap.size x9 ([] ++ [b']) ([] ++ [g']) (Qv fb vb db cb v') lv' d' fbx ∧ Fm w3 w9' fb vb db cb kb kt S' v' lv' d' l' ∧ Ms w9' b' g' D' (k + 1) ∧ w9'.cell? ⟨fbx, 0, none⟩ = some (.pointer (some ⟨fb, 0, none⟩)) ∧ w9'.frozen? ⟨fbx, 0, none⟩ = false) := ⟨m9, f9, s9, y9, z9⟩
            have hct9 : w9'.cell? ⟨cb, 0, none⟩ = some (.int .i64 S'.c) := H9.out.2.1.vol.ctr.cell 0 (by omega)
            rw [hc'] at hct9
            have HTL : Hid (Calls Tryz.prog 39 #[er] w9' fun e w' => e = .returned (.int .i64 r) ∧ Since w9' w') := by
              rw [HER.out]
              exact tell_ev _ w9' (HT3.out.2.2.since H9.out.2.1.vol.since)
            have q0 := HQ8.out.2.1
            have HCT : Hid (w9'.cell? ⟨cb, 0, none⟩ = some (.int .i64 c') ∧ w8.cell? ⟨cb, 0, none⟩ = some (.int .i64 c')) := ⟨hct9, hct8⟩
            clear m9 f9 s9 y9 z9 hct9 hct8 hMay8
            (try clear a1 a2 a3 a4 a5 a7 hc2 hY2 hX2 hg2 hc')
            go_wp2_with fail
            refine (HGE.out w8 c' HCT.out.2).mono ?_
            rintro e wz ⟨rfl, hwz⟩
            subst hwz
            go_wp2_with (at_builtin; refine listD_run (by rfl) _ _ 96 _ _ x9 (by rfl) (by rfl) (by rfl) hr9 ?_)
            clear hr9 q0
            go_wp2_with fail
            refine HTL.out.mono ?_
            clear HTL
            rintro e wt ⟨rfl, hst⟩
            have HST : Hid (Since w9' wt) := hst
            clear hst
            have hct10 : wt.cell? ⟨cb, 0, none⟩ = some (.int .i64 c') := (HST.out.cell (p := ⟨cb, 0, none⟩) (World.block_lt_of_cell? _ _ HCT.out.1)).trans HCT.out.1
            have HCT10 : Hid (wt.cell? ⟨cb, 0, none⟩ = some (.int .i64 c')) := hct10
            obtain ⟨q0, _, _⟩ := HP.out wt (H9.out.2.1.vol.since.trans HST.out)
            clear hct10
            go_wp2_with fail
            refine (HGE.out wt c' HCT10.out).mono ?_
            rintro e wz ⟨rfl, hwz⟩
            subst hwz
            go_wp2_with fail
            go_roundw
            case rel =>
              refine ⟨k + 1, by omega, by go_num, S', l', v', lv', d', T', Y', b', g', D', [] ++ [b'], [] ++ [g'], rfl, H9.out.2.1.since HST.out, ?_, H9.out.2.2.1.since HST.out, HA.out.2.2.2.2.1, HA.out.2.2.2.1, H9.out.1.since HST.out, List.mem_append_right _ (List.mem_singleton.2 rfl), ?_, by simp, (HST.out.cell (p := ⟨fbx, 0, none⟩) (World.block_lt_of_cell? _ _ H9.out.2.2.2.1)).trans H9.out.2.2.2.1, (Fs.frozen (S := fun _ => False) (Fs.of_since HST.out) (p := ⟨fbx, 0, none⟩) (World.block_lt_of_cell? _ _ H9.out.2.2.2.1) (fun h => h)).trans H9.out.2.2.2.2, HA.out.2.2.2.2.2.2.2⟩
              · have := HA.out.2.1
                simpa using this
              · rw [HT2.out.1, HT2.out.2]
                exact ⟨g, by simp, l1, HR.out.2.1.right, HR.out.2.1.dir, HR.out.2.2.2.2⟩
            case measure => simp [intOf]; omega
          · by_cases hce : S'.c = cc
            · rw [hce] at hct8
              have HPY : Hid (PM gs Y') := hPY
              obtain ⟨x9, w9', hr9, m9, f9, s9, y9, z9⟩ := head_push HA.out.1 HA.out.2.2.2.2.2.1 HA.out.2.2.1 HA.out.2.2.2.2.1 (by have := HM.out.2.2.2.1; omega) HQ8.out.1 HA.out.2.2.2.2.2.2.1 96
              have H9 : Hid (May w9' w3.heap.size x9 (bs ++ [b']) (gs ++ [g']) (Qv fb vb db cb v') lv' d' fbx ∧ Fm w3 w9' fb vb db cb kb kt S' v' lv' d' l' ∧ Ms w9' b' g' D' (k + 1) ∧ w9'.cell? ⟨fbx, 0, none⟩ = some (.pointer (some ⟨fb, 0, none⟩)) ∧ w9'.frozen? ⟨fbx, 0, none⟩ = false) := ⟨m9, f9, s9, y9, z9⟩
              have hct9 : w9'.cell? ⟨cb, 0, none⟩ = some (.int .i64 S'.c) := H9.out.2.1.vol.ctr.cell 0 (by omega)
              rw [hce] at hct9
              have HTL : Hid (Calls Tryz.prog 39 #[er] w9' fun e w' => e = .returned (.int .i64 r) ∧ Since w9' w') := by
                rw [HER.out]
                exact tell_ev _ w9' (HT3.out.2.2.since H9.out.2.1.vol.since)
              have q0 := HQ8.out.2.1
              have HCT : Hid (w9'.cell? ⟨cb, 0, none⟩ = some (.int .i64 cc) ∧ w8.cell? ⟨cb, 0, none⟩ = some (.int .i64 cc)) := ⟨hct9, hct8⟩
              clear m9 f9 s9 y9 z9 hct9 hct8 hMay8
              (try clear a1 a2 a3 a4 a5 a7 h2 hc3 hPY hce)
              go_wp2_with fail
              refine (HGE.out w8 cc HCT.out.2).mono ?_
              rintro e wz ⟨rfl, hwz⟩
              subst hwz
              go_wp2_with (at_builtin; refine listD_run (by rfl) _ _ 96 _ _ x9 (by rfl) (by rfl) (by rfl) hr9 ?_)
              clear hr9 q0
              go_wp2_with fail
              refine HTL.out.mono ?_
              clear HTL
              rintro e wt ⟨rfl, hst⟩
              have HST : Hid (Since w9' wt) := hst
              clear hst
              have hct10 : wt.cell? ⟨cb, 0, none⟩ = some (.int .i64 cc) := (HST.out.cell (p := ⟨cb, 0, none⟩) (World.block_lt_of_cell? _ _ HCT.out.1)).trans HCT.out.1
              have HCT10 : Hid (wt.cell? ⟨cb, 0, none⟩ = some (.int .i64 cc)) := hct10
              obtain ⟨q0, _, _⟩ := HP.out wt (H9.out.2.1.vol.since.trans HST.out)
              clear hct10
              go_wp2_with fail
              refine (HGE.out wt cc HCT10.out).mono ?_
              rintro e wz ⟨rfl, hwz⟩
              subst hwz
              go_wp2_with fail
              go_roundw
              case rel =>
                refine ⟨k + 1, by omega, by go_num, S', l', v', lv', d', T', Y', b', g', D', bs ++ [b'], gs ++ [g'], rfl, H9.out.2.1.since HST.out, ?_, H9.out.2.2.1.since HST.out, HA.out.2.2.2.2.1, HA.out.2.2.2.1, H9.out.1.since HST.out, List.mem_append_right _ (List.mem_singleton.2 rfl), HPY.out.more g', by rw [List.length_append, List.length_singleton]; have := HM.out.2.2.2.1; omega, (HST.out.cell (p := ⟨fbx, 0, none⟩) (World.block_lt_of_cell? _ _ H9.out.2.2.2.1)).trans H9.out.2.2.2.1, (Fs.frozen (S := fun _ => False) (Fs.of_since HST.out) (p := ⟨fbx, 0, none⟩) (World.block_lt_of_cell? _ _ H9.out.2.2.2.1) (fun h => h)).trans H9.out.2.2.2.2, HA.out.2.2.2.2.2.2.2⟩
                · have := HA.out.2.1
                  simpa using this
              case measure => simp [intOf]; omega
            · have h3 : xw = 3 := by
                by_cases h3 : xw = 3
                · exact h3
                · exact absurd ((hc3 h3).trans HCC.out) hce
              subst h3
              obtain ⟨c', hc'⟩ : ∃ c', S'.c = c' := ⟨_, rfl⟩
              rw [hc'] at hct8 hce
              have hceb : (c' == cc) = false := by simpa using hce
              have HPY : Hid (PM gs Y') := hPY
              obtain ⟨x9, w9', hr9, m9, f9, s9, y9, z9⟩ := head_push HA.out.1 HA.out.2.2.2.2.2.1 HA.out.2.2.1 HA.out.2.2.2.2.1 (by have := HM.out.2.2.2.1; omega) HQ8.out.1 HA.out.2.2.2.2.2.2.1 96
              have H9 : Hid (May w9' w3.heap.size x9 (bs ++ [b']) (gs ++ [g']) (Qv fb vb db cb v') lv' d' fbx ∧ Fm w3 w9' fb vb db cb kb kt S' v' lv' d' l' ∧ Ms w9' b' g' D' (k + 1) ∧ w9'.cell? ⟨fbx, 0, none⟩ = some (.pointer (some ⟨fb, 0, none⟩)) ∧ w9'.frozen? ⟨fbx, 0, none⟩ = false) := ⟨m9, f9, s9, y9, z9⟩
              have hct9 : w9'.cell? ⟨cb, 0, none⟩ = some (.int .i64 S'.c) := H9.out.2.1.vol.ctr.cell 0 (by omega)
              rw [hc'] at hct9
              have HTL : Hid (Calls Tryz.prog 39 #[er] w9' fun e w' => e = .returned (.int .i64 r) ∧ Since w9' w') := by
                rw [HER.out]
                exact tell_ev _ w9' (HT3.out.2.2.since H9.out.2.1.vol.since)
              have q0 := HQ8.out.2.1
              have HCT : Hid (w9'.cell? ⟨cb, 0, none⟩ = some (.int .i64 c') ∧ w8.cell? ⟨cb, 0, none⟩ = some (.int .i64 c')) := ⟨hct9, hct8⟩
              clear m9 f9 s9 y9 z9 hct9 hct8 hMay8
              (try clear a1 a2 a3 a4 a5 a7 hc3 hPY hc')
              go_wp2_with fail
              refine (HGE.out w8 c' HCT.out.2).mono ?_
              rintro e wz ⟨rfl, hwz⟩
              subst hwz
              go_wp2_with (at_builtin; refine listD_run (by rfl) _ _ 96 _ _ x9 (by rfl) (by rfl) (by rfl) hr9 ?_)
              clear hr9 q0
              go_wp2_with fail
              refine HTL.out.mono ?_
              clear HTL
              rintro e wt ⟨rfl, hst⟩
              have HST : Hid (Since w9' wt) := hst
              clear hst
              have hct10 : wt.cell? ⟨cb, 0, none⟩ = some (.int .i64 c') := (HST.out.cell (p := ⟨cb, 0, none⟩) (World.block_lt_of_cell? _ _ HCT.out.1)).trans HCT.out.1
              have HCT10 : Hid (wt.cell? ⟨cb, 0, none⟩ = some (.int .i64 c')) := hct10
              obtain ⟨q0, _, _⟩ := HP.out wt (H9.out.2.1.vol.since.trans HST.out)
              clear hct10
              go_wp2_with fail
              refine (HGE.out wt c' HCT10.out).mono ?_
              rintro e wz ⟨rfl, hwz⟩
              subst hwz
              go_wp2_with fail
              go_roundw
              case rel =>
                refine ⟨k + 1, by omega, by go_num, S', l', v', lv', d', T', Y', b', g', D', bs ++ [b'], gs ++ [g'], rfl, H9.out.2.1.since HST.out, ?_, H9.out.2.2.1.since HST.out, HA.out.2.2.2.2.1, HA.out.2.2.2.1, H9.out.1.since HST.out, List.mem_append_right _ (List.mem_singleton.2 rfl), HPY.out.more g', by rw [List.length_append, List.length_singleton]; have := HM.out.2.2.2.1; omega, (HST.out.cell (p := ⟨fbx, 0, none⟩) (World.block_lt_of_cell? _ _ H9.out.2.2.2.1)).trans H9.out.2.2.2.1, (Fs.frozen (S := fun _ => False) (Fs.of_since HST.out) (p := ⟨fbx, 0, none⟩) (World.block_lt_of_cell? _ _ H9.out.2.2.2.1) (fun h => h)).trans H9.out.2.2.2.2, HA.out.2.2.2.2.2.2.2⟩
                · have := HA.out.2.1
                  simpa using this
              case measure => simp [intOf]; omega
        · subst hbb
          subst hr14
          have hMay8 : May w8 w3.heap.size u14 bs gs (Qv fb vb db cb v') lv d fbx := HM.out.1.fs hfs hqq (Nl.refl _ _ _)
          have hct8 : w8.cell? ⟨cb, 0, none⟩ = some (.int .i64 S'.c) := a1.vol.ctr.cell 0 (by omega)
          have HA : Hid (Fm w3 w8 fb vb db cb kb kt S' v' lv d l1 ∧ Dead kb kt S' (PM gs) ∧ S'.ok (k + 40) ∧ Ms w8 b' g D' k ∧ ¬ Qv fb vb db cb v' b' ∧ May w8 w3.heap.size u14 bs gs (Qv fb vb db cb v') lv d fbx ∧ w8.frozen? ⟨fbx, 0, none⟩ = false ∧ ¬ Qv fb vb db cb v' fbx) := ⟨a1, a2, a3, a4, a5, hMay8, hfz8, hnq8⟩
          by_cases hce : S'.c = cc
          · rw [hce] at hct8
            obtain ⟨x9, w9', hr9, m9, f9, s9, y9, z9⟩ := head_push HA.out.1 HA.out.2.2.2.2.2.1 HA.out.2.2.2.1 HA.out.2.2.2.2.1 (by have := HM.out.2.2.2.1; omega) HQ8.out.1 HA.out.2.2.2.2.2.2.1 96
            have H9 : Hid (May w9' w3.heap.size x9 (bs ++ [b']) (gs ++ [g]) (Qv fb vb db cb v') lv d fbx ∧ Fm w3 w9' fb vb db cb kb kt S' v' lv d l1 ∧ Ms w9' b' g D' k ∧ w9'.cell? ⟨fbx, 0, none⟩ = some (.pointer (some ⟨fb, 0, none⟩)) ∧ w9'.frozen? ⟨fbx, 0, none⟩ = false) := ⟨m9, f9, s9, y9, z9⟩
            have hct9 : w9'.cell? ⟨cb, 0, none⟩ = some (.int .i64 S'.c) := H9.out.2.1.vol.ctr.cell 0 (by omega)
            rw [hce] at hct9
            have HTL : Hid (Calls Tryz.prog 39 #[er] w9' fun e w' => e = .returned (.int .i64 14) ∧ Since w9' w') := by
              rw [HER.out]
              exact tell_ev _ w9' (HT3.out.2.2.since H9.out.2.1.vol.since)
            have q0 := HQ8.out.2.1
            have HCT : Hid (w9'.cell? ⟨cb, 0, none⟩ = some (.int .i64 cc) ∧ w8.cell? ⟨cb, 0, none⟩ = some (.int .i64 cc)) := ⟨hct9, hct8⟩
            clear m9 f9 s9 y9 z9 hct9 hct8 hMay8
            (try clear a1 a2 a3 a4 a5 a6 hce)
            go_wp2_with fail
            refine (HGE.out w8 cc HCT.out.2).mono ?_
            rintro e wz ⟨rfl, hwz⟩
            subst hwz
            go_wp2_with (at_builtin; refine listD_run (by rfl) _ _ 96 _ _ x9 (by rfl) (by rfl) (by rfl) hr9 ?_)
            clear hr9 q0
            go_wp2_with fail
            refine HTL.out.mono ?_
            clear HTL
            rintro e wt ⟨rfl, hst⟩
            have HST : Hid (Since w9' wt) := hst
            clear hst
            go_wp2_with fail
            go_meet
            case rel =>
              exact ⟨S', l1, v', lv, d, bs ++ [b'], gs ++ [g], H9.out.2.1.since HST.out, HA.out.2.1.mono (fun X hX => hX.more g), HA.out.2.2.1.le (by omega), H9.out.1.since HST.out, by rw [List.length_append, List.length_singleton]; have := HM.out.2.2.2.1; omega, (HST.out.cell (p := ⟨fbx, 0, none⟩) (World.block_lt_of_cell? _ _ H9.out.2.2.2.1)).trans H9.out.2.2.2.1, (Fs.frozen (S := fun _ => False) (Fs.of_since HST.out) (p := ⟨fbx, 0, none⟩) (World.block_lt_of_cell? _ _ H9.out.2.2.2.1) (fun h => h)).trans H9.out.2.2.2.2, HA.out.2.2.2.2.2.2.2⟩
          · have h3 : xw = 3 := by
              by_cases h3 : xw = 3
              · exact h3
              · exact absurd ((a6 h3).trans HCC.out) hce
            subst h3
            obtain ⟨c', hc'⟩ : ∃ c', S'.c = c' := ⟨_, rfl⟩
            rw [hc'] at hct8 hce
            have hceb : (c' == cc) = false := by simpa using hce
            obtain ⟨x9, w9', hr9, m9, f9, s9, y9, z9⟩ := head_push HA.out.1 HA.out.2.2.2.2.2.1 HA.out.2.2.2.1 HA.out.2.2.2.2.1 (by have := HM.out.2.2.2.1; omega) HQ8.out.1 HA.out.2.2.2.2.2.2.1 96
            have H9 : Hid (May w9' w3.heap.size x9 (bs ++ [b']) (gs ++ [g]) (Qv fb vb db cb v') lv d fbx ∧ Fm w3 w9' fb vb db cb kb kt S' v' lv d l1 ∧ Ms w9' b' g D' k ∧ w9'.cell? ⟨fbx, 0, none⟩ = some (.pointer (some ⟨fb, 0, none⟩)) ∧ w9'.frozen? ⟨fbx, 0, none⟩ = false) := ⟨m9, f9, s9, y9, z9⟩
            have hct9 : w9'.cell? ⟨cb, 0, none⟩ = some (.int .i64 S'.c) := H9.out.2.1.vol.ctr.cell 0 (by omega)
            rw [hc'] at hct9
            have HTL : Hid (Calls Tryz.prog 39 #[er] w9' fun e w' => e = .returned (.int .i64 14) ∧ Since w9' w') := by
              rw [HER.out]
              exact tell_ev _ w9' (HT3.out.2.2.since H9.out.2.1.vol.since)
            have q0 := HQ8.out.2.1
            have HCT : Hid (w9'.cell? ⟨cb, 0, none⟩ = some (.int .i64 c') ∧ w8.cell? ⟨cb, 0, none⟩ = some (.int .i64 c')) := ⟨hct9, hct8⟩
            clear m9 f9 s9 y9 z9 hct9 hct8 hMay8
            (try clear a1 a2 a3 a4 a5 a6 hc')
            go_wp2_with fail
            refine (HGE.out w8 c' HCT.out.2).mono ?_
            rintro e wz ⟨rfl, hwz⟩
            subst hwz
            go_wp2_with (at_builtin; refine listD_run (by rfl) _ _ 96 _ _ x9 (by rfl) (by rfl) (by rfl) hr9 ?_)
            clear hr9 q0
            go_wp2_with fail
            refine HTL.out.mono ?_
            clear HTL
            rintro e wt ⟨rfl, hst⟩
            have HST : Hid (Since w9' wt) := hst
            clear hst
            go_wp2_with fail
            go_meet
            case rel =>
              exact ⟨S', l1, v', lv, d, bs ++ [b'], gs ++ [g], H9.out.2.1.since HST.out, HA.out.2.1.mono (fun X hX => hX.more g), HA.out.2.2.1.le (by omega), H9.out.1.since HST.out, by rw [List.length_append, List.length_singleton]; have := HM.out.2.2.2.1; omega, (HST.out.cell (p := ⟨fbx, 0, none⟩) (World.block_lt_of_cell? _ _ H9.out.2.2.2.1)).trans H9.out.2.2.2.1, (Fs.frozen (S := fun _ => False) (Fs.of_since HST.out) (p := ⟨fbx, 0, none⟩) (World.block_lt_of_cell? _ _ H9.out.2.2.2.1) (fun h => h)).trans H9.out.2.2.2.2, HA.out.2.2.2.2.2.2.2⟩
      · have hke : k = l.length := by omega
        subst hke
        go_wp2_with fail
        go_meet
        case rel => exact HH.out.tail h30
  case rest =>
    obtain ⟨S, l1, v, lv, d, bs, gs, hFm, hDead, hok, hMay, hbl, hcx, hfx, hnx⟩ := hcut
    have hfr : S.free = 128 - (tot S.D : Int) := free_tot hDead.2.1
    have hfr2 : ¬ S.free ≤ 36 := by have := hDead.2.2; omega
    have HFR : Hid (Calls Tryz.prog 31 #[.pointer (some ⟨fb, 0, none⟩)] wc fun e w' => e = .returned (.int .i64 S.free) ∧ Since wc w') := ffree_any hFm
    have HR : Hid (Fm w3 wc fb vb db cb kb kt S v lv d l1 ∧ Dead kb kt S (PM gs) ∧ S.ok 3000 ∧ May wc w3.heap.size u14 bs gs (Qv fb vb db cb v) lv d fbx ∧ bs.length ≤ 40 ∧ wc.frozen? ⟨fbx, 0, none⟩ = false ∧ ¬ Qv fb vb db cb v fbx ∧ wc.cell? ⟨fbx, 0, none⟩ = some (.pointer (some ⟨fb, 0, none⟩))) := ⟨hFm, hDead, hok, hMay, hbl, hfx, hnx, hcx⟩
    clear hFm hDead hok hMay hbl hfx hnx hfr
    generalize S.free = fr at *
    have hfrb : decide (fr ≤ 36) = false := decide_eq_false hfr2
    go_wp2_with fail
    refine HFR.out.mono ?_
    clear HFR
    rintro e wa ⟨rfl, hsa⟩
    have HSA : Hid (Since wc wa) := hsa
    have ya : wa.cell? ⟨fbx, 0, none⟩ = some (.pointer (some ⟨fb, 0, none⟩)) := (hsa.cell (p := ⟨fbx, 0, none⟩) (World.block_lt_of_cell? _ _ hcx)).trans hcx
    have za : wa.frozen? ⟨fbx, 0, none⟩ = false := (Fs.frozen (S := fun _ => False) (Fs.of_since hsa) (p := ⟨fbx, 0, none⟩) (World.block_lt_of_cell? _ _ hcx) (fun h => h)).trans HR.out.2.2.2.2.2.1
    have HYA : Hid (wa.cell? ⟨fbx, 0, none⟩ = some (.pointer (some ⟨fb, 0, none⟩)) ∧ wa.frozen? ⟨fbx, 0, none⟩ = false ∧ Fm w3 wa fb vb db cb kb kt S v lv d l1 ∧ May wa w3.heap.size u14 bs gs (Qv fb vb db cb v) lv d fbx) := ⟨ya, za, HR.out.1.since hsa, HR.out.2.2.2.1.since hsa⟩
    have hwdb : w.heap.size ≤ db := by have := HS3.out.size; have := HDB.out; omega
    have hswa : Since w wa := HS3.out.trans HYA.out.2.2.1.vol.since
    have HCR : Hid (Calls Tryz.prog 23 #[.pointer (some ⟨db, 0, none⟩), .slice ka nk kc, .slice sa ns sc] wa fun e w' => e = .returned (.tuple #[]) ∧ Dev w' db (S.D.crashed nk ks ns sl) (.slice none 0 0) ∧ Fr db none wa w') := crash_any S.D v db nk ns _ _ ks sl wa HYA.out.2.2.1.vol.dev (HK.out.1.sl hswa hwdb) (HK.out.2.sl hswa hwdb)
    clear hsa hcx ya za hwdb hswa
    go_wp2_with fail
    refine HCR.out.mono ?_
    clear HCR
    rintro e wb ⟨rfl, hdv, hfr3⟩
    have hdc : DC w3 wb db cb (S.D.crashed nk ks ns sl) S.c (.slice none 0 0) := HYA.out.2.2.1.vol.dc.turn hdv hfr3 rfl
    have HBB : Hid (Fs (fun k => k = db) wa wb) := Fs.of_fr hfr3 rfl (fun k hk => by cases hk)
    have hop := HOQ.out wb db cb (S.D.crashed nk ks ns sl) S.c (.slice none 0 0) ⟨HR.out.2.2.1.c0, by have := HR.out.2.2.1.cn; omega⟩ (by show 0 ≤ 1; omega) hdc
    have HOP2 : Hid (Calls Tryz.prog 12 #[.pointer (some ⟨db, 0, none⟩), .pointer (some ⟨cb, 0, none⟩), .string ⟨#[48, 49, 50, 51, 52, 53, 54, 55, 56, 57, 97, 98, 99, 100, 101, 102]⟩] wb fun e w' => ∃ vb2 S2 v2 l2 fb2 lv2 d2, e = .returned (.tuple #[.pointer (some ⟨fb2, 0, none⟩), .nilIface]) ∧ Fm w3 w' fb2 vb2 db cb kb kt S2 v2 lv2 d2 l2 ∧ En.right l2 = true ∧ (∀ i, (S2.X i).size ≤ 80) ∧ (∃ g ∈ gs, ∀ u, txtOf S2.X l2 u = g u) ∧ wb.heap.size ≤ fb2 ∧ wb.heap.size ≤ vb2 ∧ Fs (fun k => k = db ∨ k = cb) wb w' ∧ (∀ k, v2.ownBlock = some k → wb.heap.size ≤ k) ∧ Nl wb (.slice none 0 0) [] lv2 d2) := hop.mono (fun e w' hh => by
      obtain ⟨e1, e2⟩ := HKK.out
      subst e1 e2
      obtain ⟨vb2, r, S2, v2, hto, hvb2, hvol2, hfs2, hnx2, he⟩ := hh
      obtain ⟨hr0, _, hc1, hc2, hgood, Y, ⟨g, hg, hsx⟩, hxy⟩ := cc_open HR.out.2.1.1 HR.out.2.2.1.c0 HR.out.2.1.2.1 HR.out.1.vol.dev.ok.sure nk ks ns sl hto
      obtain ⟨l2, r1, r2, r3⟩ := hsx.congr hxy
      have hpp : En.parse (catL S2.X [0, 1, 2]) = some l2 := (En.parse_iff _ _).2 ⟨r1, r2.symm⟩
      rcases he with ⟨h0, _⟩ | ⟨_, h0, _⟩ | ⟨_, l', fb2, lv2, d2, h0, rfl, hfb, hF, hnl⟩
      · exact absurd hr0 h0
      · rw [hpp] at h0; cases h0
      · rw [hpp] at h0
        injection h0 with h0
        subst h0
        refine ⟨vb2, S2, v2, l2, fb2, lv2, d2, rfl, hF, r1, hgood.ok.txt, ⟨g, hg, r3⟩, hfb, hvb2, ⟨hfs2.os, hfs2.tape, hfs2.output, hfs2.size, fun k hk hn => hfs2.block k hk (fun h => ?_)⟩, fun k hk => ?_, hnl⟩
        · rcases h with h | h | h
          · exact hn (.inl h)
          · exact hn (.inr h)
          · simp [Value.ownBlock] at h
        · rcases hnx2 k hk with h | h
          · simp [Value.ownBlock] at h
          · exact h)
    clear hop hdc hdv hfr3 HOQ
    go_wp2_with fail
    refine HOP2.out.mono ?_
    clear HOP2
    rintro e wd ⟨vb2, S2, v2, l2, fb2, lv2, d2, rfl, hF2, hr2, hx2, hit, hfb2, hvb2, hfs2, hown2, hnl2⟩
    have hfxa : fbx < wa.heap.size := World.block_lt_of_cell? _ _ HYA.out.1
    have hdb : fbx ≠ db ∧ fbx ≠ cb := ⟨fun e => HR.out.2.2.2.2.2.2.1 (.inr (.inr (.inl e))), fun e => HR.out.2.2.2.2.2.2.1 (.inr (.inr (.inr (.inl e))))⟩
    have hfxb : fbx < wb.heap.size := Nat.lt_of_lt_of_le hfxa HBB.out.size
    have yd : wd.cell? ⟨fbx, 0, none⟩ = some (.pointer (some ⟨fb, 0, none⟩)) := (hfs2.cell (p := ⟨fbx, 0, none⟩) hfxb (fun h => h.elim hdb.1 hdb.2)).trans ((HBB.out.cell (p := ⟨fbx, 0, none⟩) hfxa hdb.1).trans HYA.out.1)
    have zd : wd.frozen? ⟨fbx, 0, none⟩ = false := (hfs2.frozen (p := ⟨fbx, 0, none⟩) hfxb (fun h => h.elim hdb.1 hdb.2)).trans ((HBB.out.frozen (p := ⟨fbx, 0, none⟩) hfxa hdb.1).trans HYA.out.2.1)
    have hse : Fs (fun k => k = fbx) wd (wd.setCell ⟨fbx, 0, none⟩ (.pointer (some ⟨fb2, 0, none⟩))) := Fs.of_fr (Fr.setCell fbx none 0 wd _) rfl (fun k hk => by cases hk)
    have hFe : Fm w3 (wd.setCell ⟨fbx, 0, none⟩ (.pointer (some ⟨fb2, 0, none⟩))) fb2 vb2 db cb kb kt S2 v2 lv2 d2 l2 := hF2.fs hse (fun k hk => by subst hk; have := HFX.out; have := HDB.out; omega) (fun k _ hk => by
      subst hk
      refine ⟨by omega, fun hv => ?_⟩
      rcases hv with h | h | h | h
      · omega
      · exact hdb.1 h
      · exact hdb.2 h
      · have := hown2 _ h; omega) (fun k o n c e hk => by
      subst hk
      rcases hnl2.1 _ o n c e with h | ⟨_, _, _, h⟩
      · omega
      · cases h) (fun j y hy k o e hk => by
      subst hk
      rcases hnl2.2 y (List.mem_of_getElem? hy) _ o e with h | ⟨_, h, _⟩
      · omega
      · cases h)
    have hZ : Fs (fun k => k = db ∨ k = cb ∨ k = fbx) wa (wd.setCell ⟨fbx, 0, none⟩ (.pointer (some ⟨fb2, 0, none⟩))) := ((fs_wider HBB.out (fun k e => .inl e)).trans (fs_wider hfs2 (fun k e => e.elim .inl (fun h => .inr (.inl h))))).trans (fs_wider hse (fun k e => .inr (.inr e)))
    have hye : (wd.setCell ⟨fbx, 0, none⟩ (.pointer (some ⟨fb2, 0, none⟩))).cell? ⟨fbx, 0, none⟩ = some (.pointer (some ⟨fb2, 0, none⟩)) := by
      have := World.cell?_setCell_same (w := wd) (a := ⟨fbx, 0, none⟩) (v := .pointer (some ⟨fb2, 0, none⟩)) yd
      exact this
    have hMy := HYA.out.2.2.2
    have hQz : ∀ k, ¬ Qv fb vb db cb v k → k ≠ fbx → ¬ (k = db ∨ k = cb ∨ k = fbx) := fun k hq hk h => by
      rcases h with h | h | h
      · exact hq (.inr (.inr (.inl h)))
      · exact hq (.inr (.inr (.inr (.inl h))))
      · exact hk h
    have hrow : (wd.setCell ⟨fbx, 0, none⟩ (.pointer (some ⟨fb2, 0, none⟩))).ownsRow w3.heap.size 84 1 u14 bs.length (mvs bs) := ownFs hMy.own hZ (fun k hk => hQz k (hMy.blk k hk).1 (hMy.blk k hk).2)
    have heach : ∀ (j : Nat) (b : Nat) (g : Gm), bs[j]? = some b → gs[j]? = some g → ∃ D N, Ms (wd.setCell ⟨fbx, 0, none⟩ (.pointer (some ⟨fb2, 0, none⟩))) b g D N := fun j b g hb hg => by
      obtain ⟨⟨D, N, hm⟩, hnq⟩ := hMy.each j b g hb hg
      exact ⟨D, N, hm.fs hZ (hQz b hnq (hm.ne_cell HYA.out.1))⟩
    have hitj : ∃ (j : Nat) (g : Gm), gs[j]? = some g ∧ ∀ u, txtOf S2.X l2 u = g u := by
      obtain ⟨g, hg, hu⟩ := hit
      obtain ⟨j, hj, rfl⟩ := List.getElem_of_mem hg
      exact ⟨j, _, List.getElem?_eq_getElem hj, hu⟩
    have HCF : Hid (∀ W, Since (wd.setCell ⟨fbx, 0, none⟩ (.pointer (some ⟨fb2, 0, none⟩))) W → Calls Tryz.prog 45 #[u14, .func (.func 46) #[] #[.pointer (some ⟨fbx, 0, none⟩)]] W fun e w' => e = .returned (.bool true) ∧ Since W w') := fun W hW => CFm_any (hFe.since hW) hr2 hx2 fbx ((hW.cell (p := ⟨fbx, 0, none⟩) (World.block_lt_of_cell? _ _ hye)).trans hye) u14 bs gs hMy.len (En.owns_since hrow hW) (fun j b g hb hg => by
      obtain ⟨D, N, hm⟩ := heach j b g hb hg
      exact ⟨D, N, hm.since hW⟩) (by have := HR.out.2.2.2.2.1; omega) hitj
    have HSE : Hid (Since w (wd.setCell ⟨fbx, 0, none⟩ (.pointer (some ⟨fb2, 0, none⟩)))) := HS3.out.trans hFe.vol.since
    have HYE : Hid ((wd.setCell ⟨fbx, 0, none⟩ (.pointer (some ⟨fb2, 0, none⟩))).cell? ⟨fbx, 0, none⟩ = some (.pointer (some ⟨fb2, 0, none⟩))) := hye
    clear hF2 hr2 hx2 hit hfb2 hvb2 hfs2 hown2 hnl2 hfxa hdb hfxb hse hFe hZ hye hMy hQz hrow heach hitj
    go_upto_region 29 with fail
    clear yd zd
    generalize wd.setCell ⟨fbx, 0, none⟩ (.pointer (some ⟨fb2, 0, none⟩)) = we at *
    have ye := HYE.out
    go_wp2_with fail
    refine (HCF.out _ (by first | exact Since.refl _ | exact (Since.refl _).drew)).mono ?_
    rintro e wf ⟨rfl, hsf⟩
    have HSF : Hid (Since w wf) := HSE.out.trans hsf
    clear hsf ye
    go_wp2_with fail
    go_ret
    exact ⟨rfl, HSF.out⟩
end Fl
end Go.Proofs.YtlgocfgnfdnloaaGreatDoor
end
