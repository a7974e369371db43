import Derived.Test.YtlgocfgnfdnloaaGreatDoorJ44
import Derived.Test.YtlgocfgnfdnloaaGreatDoorJ45
set_option linter.unusedSimpArgs false
set_option linter.unusedVariables false
namespace Go.Proofs.YtlgocfgnfdnloaaGreatDoor
set_option maxRecDepth 100000
namespace Fl
open Go.RowKit Go.Sort Go.Shelf
open En (Fi Fls Ints fval Row freeL allC need nameB filled)
open Vl
open Tw (Tb)
section
variable {w0 w w' : World} {fb vb db cb : Nat} {kb kt : ByteArray} {S : Vs} {v lv : Value} {d d0 : List Fv} {l l0 : List Fi} {n : Int}
theorem Nl.refl (w : World) (lv : Value) (d : List Fv) : Nl w lv d lv d := ⟨fun k o n c e => Or.inr ⟨o, n, c, e⟩, fun x hx k o e => Or.inr ⟨x, hx, o, e⟩⟩
theorem Nl.mono {w w' : World} {lv lv' : Value} {d d' : List Fv} (h : Nl w' lv d lv' d') (hs : w.heap.size ≤ w'.heap.size) : Nl w lv d lv' d' :=
  ⟨fun k o n c e => (h.1 k o n c e).imp (fun h => Nat.le_trans hs h) id, fun x hx k o e => (h.2 x hx k o e).imp (fun h => Nat.le_trans hs h) id⟩
def LiveW (w0 w w' : World) (fb vb db cb : Nat) (kb kt : ByteArray) (S : Vs) (lv : Value) (d : List Fv) (n : Int) (g : ByteArray → Option (List UInt8)) (N : Nat) (what : Int) (P : (Nat → ByteArray) → Prop) (v' : Value) (b' : Nat) : Prop :=
  ∃ S' l' lv' d' T' Y' g' D', Fm w0 w' fb vb db cb kb kt S' v' lv' d' l' ∧ Fw kb kt S' l' (n + 1) T' Y' ∧ Ms w' b' g' D' (N + 1) ∧ (∀ u, txtOf S'.X l' u = g' u) ∧ ¬ (b' = fb ∨ VP vb db cb v' b') ∧
    ((what = 2 ∧ S'.c = S.c + 1 ∧ Y' = S.X ∧ S'.X = S.X ∧ g' = g) ∨ (what ≠ 2 ∧ (what ≠ 3 → S'.c = S.c) ∧ P Y')) ∧ Nl w lv d lv' d'
def DeadW (w0 w' : World) (fb vb db cb : Nat) (kb kt : ByteArray) (S : Vs) (lv : Value) (d : List Fv) (l : List Fi) (n : Int) (g : ByteArray → Option (List UInt8)) (N : Nat) (what : Int) (P : (Nat → ByteArray) → Prop) (v' : Value) (b : Nat) : Prop :=
  ∃ S' D, Fm w0 w' fb vb db cb kb kt S' v' lv d l ∧ Dead kb kt S' P ∧ S'.ok (n + 40) ∧ Ms w' b g D N ∧ ¬ (b = fb ∨ VP vb db cb v' b) ∧ (what ≠ 3 → S'.c = S.c)
def DW (w0 w w' : World) (fb vb db cb : Nat) (kb kt : ByteArray) (S : Vs) (lv : Value) (d : List Fv) (l : List Fi) (n : Int) (v : Value) (b : Nat) (g : ByteArray → Option (List UInt8)) (N : Nat) (what : Int) (P : (Nat → ByteArray) → Prop) (b' : Nat) (er : Value) : Prop :=
  ∃ v' r, er = ev r ∧ Fs (fun k => k = fb ∨ VP vb db cb v k) w w' ∧ (∀ k, k < w.heap.size → ¬ VP vb db cb v k → ¬ VP vb db cb v' k) ∧
    ((r ≠ 14 ∧ LiveW w0 w w' fb vb db cb kb kt S lv d n g N what P v' b') ∨ (r = 14 ∧ b' = b ∧ DeadW w0 w' fb vb db cb kb kt S lv d l n g N what P v' b))
def DoneW (w0 w w' : World) (fb vb db cb : Nat) (kb kt : ByteArray) (S : Vs) (lv : Value) (d : List Fv) (l : List Fi) (n : Int) (v : Value) (b : Nat) (g : ByteArray → Option (List UInt8)) (N : Nat) (what : Int) (P : (Nat → ByteArray) → Prop) (e : Ending) : Prop :=
  ∃ b' er, e = .returned (.tuple #[.map (some b'), er]) ∧ DW w0 w w' fb vb db cb kb kt S lv d l n v b g N what P b' er
theorem fputW (B : Base w0 kb kt) (LB : En.Lb w0) {T : Tb} {Y : Nat → ByteArray} (hF : Fw kb kt S l n T Y) (hn : n + 3000 < 900000000) (h : Fm w0 w fb vb db cb kb kt S v lv d l) (s t : ByteArray) (hs : s.size ≤ 100000) (ht : t.size ≤ 100000) {P : (Nat → ByteArray) → Prop} (hY : P Y) :
    Calls Tryz.prog 15 #[.pointer (some ⟨fb, 0, none⟩), .string s, .string t] w fun e w' => ∃ v', Fs (fun k => k = fb ∨ VP vb db cb v k) w w' ∧ (∀ k, k < w.heap.size → ¬ VP vb db cb v k → ¬ VP vb db cb v' k) ∧
      ((∃ r, e = .returned (ev r) ∧ r ≠ 0 ∧ r ≠ 14 ∧ Fm w0 w' fb vb db cb kb kt S v' lv d l) ∨
      (e = .returned .nilIface ∧ ∃ S' l' lv' d', Fm w0 w' fb vb db cb kb kt S' v' lv' d' l' ∧ Fw kb kt S' l' n T Y ∧ (∀ u, txtOf S'.X l' u = if u = s then some t.data.toList else txtOf S.X l u) ∧ S'.c = S.c ∧ Nl w lv d lv' d') ∨
      (e = .returned (ev 14) ∧ ∃ S', Fm w0 w' fb vb db cb kb kt S' v' lv d l ∧ Dead kb kt S' P ∧ S'.ok (n + 40) ∧ S'.c = S.c)) := by
  refine (fput_any B LB n hF.al.ok (by omega) h hF.right s t hs ht).mono ?_
  rintro e w' (⟨_, rfl, hs'⟩ | ⟨_, _, rfl, hs'⟩ | ⟨hnm, hfu, hok, v1, hnz, hz, hfs, hnx⟩)
  · exact ⟨v, Fs.of_since hs', fun _ _ h => h, Or.inl ⟨5, rfl, by decide, by decide, h.since hs'⟩⟩
  · exact ⟨v, Fs.of_since hs', fun _ _ h => h, Or.inl ⟨12, rfl, by decide, by decide, h.since hs'⟩⟩
  · refine ⟨v1, hfs, hnx, Or.inr ?_⟩
    have hl21 := (cellsF_len hfu).2
    by_cases h0 : (wrF kb kt (cellsF l s t) t S).1 = 0
    · obtain ⟨l', d', lv', hp, hri, rfl, hok2, hz2, hnz2⟩ := hz h0
      rcases put_fw hF hnm hfu hp hri with ⟨h14, _⟩ | ⟨_, ⟨h14, hfell⟩ | ⟨hd0, hfw, htx, hc⟩⟩
      · rw [h0] at h14; cases h14
      · refine Or.inr ⟨by rw [h14], _, hnz2 (by rw [h14]; decide), hfell.dead hY, hok2.le (by omega), ?_⟩
        obtain ⟨_, _, _, _, h4, _⟩ := hfell
        exact h4
      · exact Or.inl ⟨by rw [hd0]; rfl, _, l', lv', d', (hz2 hd0).1, hfw, htx, hc, (hz2 hd0).2⟩
    · obtain ⟨rfl, hFm⟩ := hnz h0
      rcases wrF_bud (cellsF l s t) t S hF.al hF.bud (fun c hc => by have := (cellsF_in hc).1; omega) with ⟨a1, _⟩ | ⟨a1, hfell⟩
      · exact absurd a1 h0
      · refine Or.inr ⟨by rw [a1], _, hFm, hfell.dead hY, hok.le (by omega), ?_⟩
        obtain ⟨_, _, _, _, h4, _⟩ := hfell
        exact h4
theorem fdelW (B : Base w0 kb kt) (LB : En.Lb w0) {T : Tb} {Y : Nat → ByteArray} (hF : Fw kb kt S l n T Y) (hn : n + 3000 < 900000000) (h : Fm w0 w fb vb db cb kb kt S v lv d l) (s : ByteArray) {P : (Nat → ByteArray) → Prop} (hY : P Y) :
    Calls Tryz.prog 17 #[.pointer (some ⟨fb, 0, none⟩), .string s] w fun e w' => ∃ v', Fs (fun k => k = fb ∨ VP vb db cb v k) w w' ∧ (∀ k, k < w.heap.size → ¬ VP vb db cb v k → ¬ VP vb db cb v' k) ∧
      ((∃ r, e = .returned (ev r) ∧ r ≠ 0 ∧ r ≠ 14 ∧ Fm w0 w' fb vb db cb kb kt S v' lv d l) ∨
      (e = .returned .nilIface ∧ ∃ S' l' lv' d', Fm w0 w' fb vb db cb kb kt S' v' lv' d' l' ∧ Fw kb kt S' l' n T Y ∧ (∀ u, txtOf S'.X l' u = if u = s then none else txtOf S.X l u) ∧ S'.c = S.c ∧ Nl w lv d lv' d') ∨
      (e = .returned (ev 14) ∧ ∃ S', Fm w0 w' fb vb db cb kb kt S' v' lv d l ∧ Dead kb kt S' P ∧ S'.ok (n + 40) ∧ S'.c = S.c)) := by
  refine (fdel_any B LB n hF.al.ok (by omega) h hF.right s).mono ?_
  rintro e w' (⟨_, rfl, hs'⟩ | ⟨_, rfl, hok, d', lv', v', hz, hnz, hfs, hnx⟩)
  · exact ⟨v, Fs.of_since hs', fun _ _ h => h, Or.inl ⟨7, rfl, by decide, by decide, h.since hs'⟩⟩
  · refine ⟨v', hfs, hnx, Or.inr ?_⟩
    rcases del_fw hF s with ⟨h14, hfell⟩ | ⟨hd0, hfw, htx, hc⟩
    · refine Or.inr ⟨by rw [h14], _, hnz (by rw [h14]; decide), hfell.dead hY, hok.le (by omega), ?_⟩
      obtain ⟨_, _, _, _, h4, _⟩ := hfell
      exact h4
    · exact Or.inl ⟨by rw [hd0]; rfl, _, _, lv', d', (hz hd0).1, hfw, htx, hc, (hz hd0).2⟩
theorem fflushW (B : Base w0 kb kt) {T : Tb} {Y : Nat → ByteArray} (hF : Fw kb kt S l n T Y) (hn : n + 3000 < 900000000) (h : Fm w0 w fb vb db cb kb kt S v lv d l) {P : (Nat → ByteArray) → Prop} (hY : P Y) (hX : P S.X) :
    Calls Tryz.prog 19 #[.pointer (some ⟨fb, 0, none⟩)] w fun e w' => ∃ v', Fs (VP vb db cb v) w w' ∧ (∀ k, k < w.heap.size → ¬ VP vb db cb v k → ¬ VP vb db cb v' k) ∧
      ((e = .returned .nilIface ∧ ∃ S' T', Fm w0 w' fb vb db cb kb kt S' v' lv d l ∧ Fw kb kt S' l (n + 1) T' S.X ∧ S'.X = S.X ∧ S'.c = S.c + 1) ∨
      (e = .returned (ev 14) ∧ ∃ S', Fm w0 w' fb vb db cb kb kt S' v' lv d l ∧ Dead kb kt S' P ∧ S'.ok (n + 40) ∧ S'.c = S.c)) := by
  refine (fflush_any B (hF.al.ok.next (by omega)) hF.al.ok.nc h).mono ?_
  rintro e w' ⟨rfl, hv⟩
  obtain ⟨v', hF', hfs, hnx⟩ := h.vto hv
  refine ⟨v', hfs, hnx, ?_⟩
  rcases flush_fw hF (by omega) P hY hX with ⟨h1, h2, h3, h4⟩ | ⟨h1, h2, h3⟩
  · exact Or.inl ⟨by rw [h1]; rfl, _, _, hF', h2, h3, h4⟩
  · exact Or.inr ⟨by rw [h1], _, hF', h2, (hF.al.ok.flush kt).le (by omega), h3⟩
theorem freclaimW (B : Base w0 kb kt) {T : Tb} {Y : Nat → ByteArray} (hF : Fw kb kt S l n T Y) (hn : n + 3000 < 900000000) (h : Fm w0 w fb vb db cb kb kt S v lv d l) {P : (Nat → ByteArray) → Prop} (hY : P Y) (hX : P S.X) :
    Calls Tryz.prog 22 #[.pointer (some ⟨fb, 0, none⟩)] w fun e w' => ∃ v' q1 q2, Fs (VP vb db cb v) w w' ∧ (∀ k, k < w.heap.size → ¬ VP vb db cb v k → ¬ VP vb db cb v' k) ∧
      ((e = .returned (.tuple #[.int .i64 q1, .bool q2, .nilIface]) ∧ ∃ S' T' Y', Fm w0 w' fb vb db cb kb kt S' v' lv d l ∧ Fw kb kt S' l (n + 1) T' Y' ∧ S'.X = S.X ∧ P Y') ∨
      (e = .returned (.tuple #[.int .i64 q1, .bool q2, ev 14]) ∧ ∃ S', Fm w0 w' fb vb db cb kb kt S' v' lv d l ∧ Dead kb kt S' P ∧ S'.ok (n + 40))) := by
  refine (freclaim_any B hF.al.ok (by omega) h).mono ?_
  rintro e w' ⟨rfl, hv⟩
  obtain ⟨v', hF', hfs, hnx⟩ := h.vto hv
  refine ⟨v', (S.reclaim kb kt).1.1, (S.reclaim kb kt).1.2.1, hfs, hnx, ?_⟩
  rcases reclaim_fw hF (by omega) P hY hX with ⟨h1, ⟨T', Y', h2, h3⟩, h4⟩ | ⟨h1, h2⟩
  · exact Or.inl ⟨by rw [h1]; rfl, _, T', Y', hF', h2, h4, h3⟩
  · exact Or.inr ⟨by rw [h1], _, hF', h2, (hF.al.ok.reclaim kb kt).le (by omega)⟩
theorem wth_put {g : ByteArray → Option (List UInt8)} {X X' : Nat → ByteArray} {l l' : List Fi} {s t : ByteArray} (hg : ∀ u, txtOf X l u = g u) (h : ∀ u, txtOf X' l' u = if u = s then some t.data.toList else txtOf X l u) : ∀ u, txtOf X' l' u = wth g s t true u := fun u => by
  rw [h u, hg u]
  unfold wth
  rfl
theorem wth_del {g : ByteArray → Option (List UInt8)} {X X' : Nat → ByteArray} {l l' : List Fi} {s : ByteArray} (hg : ∀ u, txtOf X l u = g u) (h : ∀ u, txtOf X' l' u = if u = s then none else txtOf X l u) : ∀ u, txtOf X' l' u = wth g s ⟨#[]⟩ false u := fun u => by
  rw [h u, hg u]
  unfold wth
  rfl
set_option maxHeartbeats 8000000 in
theorem doW_any (B : Base w0 kb kt) (LB : En.Lb w0) {T : Tb} {Y : Nat → ByteArray} (hF : Fw kb kt S l n T Y) (hn : n + 3000 < 900000000) (h : Fm w0 w fb vb db cb kb kt S v lv d l) (b : Nat) (g : ByteArray → Option (List UInt8)) (D : DataW Unit) (N : Nat) (hm : Ms w b g D N) (hN : N ≤ 1000) (hnb : ¬ (b = fb ∨ VP vb db cb v b)) (hg : ∀ u, txtOf S.X l u = g u) (x : Dd) (hx : x.nm.size ≤ 40 ∧ x.tx.size ≤ 1800) {P : (Nat → ByteArray) → Prop} (hY : P Y) (hX : P S.X) :
    Calls Tryz.prog 37 #[.pointer (some ⟨fb, 0, none⟩), x.val, .map (some b)] w fun e w' => DoneW w0 w w' fb vb db cb kb kt S lv d l n v b g N x.what P e := by
  obtain ⟨xw, xn, xt⟩ := x
  have hx1 : xn.size ≤ 40 := hx.1
  have hx2 : xt.size ≤ 1800 := hx.2
  have HX : Hid (xn.size ≤ 40 ∧ xt.size ≤ 1800) := ⟨hx1, hx2⟩
  have HF : Hid (Fm w0 w fb vb db cb kb kt S v lv d l ∧ Fw kb kt S l n T Y ∧ Ms w b g D N ∧ (∀ u, txtOf S.X l u = g u) ∧ N ≤ 1000 ∧ ¬ (b = fb ∨ VP vb db cb v b) ∧ P Y ∧ P S.X) := ⟨h, hF, hm, hg, hN, hnb, hY, hX⟩
  have HB : Hid (Base w0 kb kt ∧ En.Lb w0 ∧ n + 3000 < 900000000) := ⟨B, LB, hn⟩
  have hnw : ¬ (w.heap.size = fb ∨ VP vb db cb v w.heap.size) := fun hh => by
    rcases hh with hh | hh
    · have := World.block_lt_of_cell? w _ h.c0
      simp at this
      omega
    · exact h.vol.notNew hh
  have HNW : Hid (¬ (w.heap.size = fb ∨ VP vb db cb v w.heap.size)) := hnw
  have HFB : Hid (fb < w.heap.size) := (World.block_lt_of_cell? w _ h.c0 : fb < w.heap.size)
  clear hnw hx hx1 hx2 B LB hn hF h hm hN hnb hg hY hX
  unfold Dd.val
  dsimp only
  -- a map that is made behind it is no block of the volume's
  have HNEW : Hid (∀ (W : World) (v' : Value) (S' : Vs) (lv' : Value) (d' : List Fv) (l' : List Fi), Fm w0 W fb vb db cb kb kt S' v' lv' d' l' → w.heap.size ≤ W.heap.size → ¬ (W.heap.size = fb ∨ VP vb db cb v' W.heap.size)) := fun W v' S' lv' d' l' hW hsz hh => by
    rcases hh with hh | hh
    · have := HFB.out; omega
    · exact hW.vol.notNew hh
  by_cases e0 : xw = 0
  · subst e0
    go_enter Tryz.func37, Tryz.ntmps37
    go_upto_region 2 with fail
    generalize hw1 : w.alloc (.cells #[.int .i64 0, .string xn, .string xt] 88) = w1
    have HS1 : Hid (Since w w1) := by
      show Since w w1
      rw [← hw1]
      exact (Since.refl w).alloc _
    have p0 : w1.cell? ⟨w.heap.size, 0, none⟩ = some (.int .i64 0) := by rw [← hw1]; simp
    have p1 : w1.cell? ⟨w.heap.size, 1, none⟩ = some (.string xn) := by rw [← hw1]; simp
    have p2 : w1.cell? ⟨w.heap.size, 2, none⟩ = some (.string xt) := by rw [← hw1]; simp
    have HW1 : Hid (w1.heap.size = w.heap.size + 1) := by
      show w1.heap.size = w.heap.size + 1
      rw [← hw1]; simp
    clear hw1
    have hp := fputW HB.out.1 HB.out.2.1 HF.out.2.1 HB.out.2.2 (HF.out.1.since HS1.out) xn xt (by have := HX.out.1; omega) (by have := HX.out.2; omega) HF.out.2.2.2.2.2.2.1
    have HP : Hid (Calls Tryz.prog 15 #[.pointer (some ⟨fb, 0, none⟩), .string xn, .string xt] w1 fun e w' => ∃ v', Fs (fun k => k = fb ∨ VP vb db cb v k) w1 w' ∧ (∀ k, k < w1.heap.size → ¬ VP vb db cb v k → ¬ VP vb db cb v' k) ∧
      ((∃ r, e = .returned (ev r) ∧ r ≠ 0 ∧ r ≠ 14 ∧ Fm w0 w' fb vb db cb kb kt S v' lv d l) ∨
      (e = .returned .nilIface ∧ ∃ S' l' lv' d', Fm w0 w' fb vb db cb kb kt S' v' lv' d' l' ∧ Fw kb kt S' l' n T Y ∧ (∀ u, txtOf S'.X l' u = if u = xn then some xt.data.toList else txtOf S.X l u) ∧ S'.c = S.c ∧ Nl w1 lv d lv' d') ∨
      (e = .returned (ev 14) ∧ ∃ S', Fm w0 w' fb vb db cb kb kt S' v' lv d l ∧ Dead kb kt S' P ∧ S'.ok (n + 40) ∧ S'.c = S.c))) := hp
    clear hp
    go_wp2_with fail
    refine HP.out.mono ?_
    clear HP
    rintro e w2 ⟨v', hfs, hnx, hc⟩
    have H2 : Hid (Fs (fun k => k = fb ∨ VP vb db cb v k) w w2 ∧ (∀ k, k < w.heap.size → ¬ VP vb db cb v k → ¬ VP vb db cb v' k) ∧ Ms w2 b g D N ∧ ¬ (b = fb ∨ VP vb db cb v' b)) := by
      have hb := HF.out.2.2.1.lt
      have hnb := HF.out.2.2.2.2.2.1
      exact ⟨(Fs.of_since HS1.out).trans hfs, fun k hk => hnx k (by have := HS1.out.size; omega), (HF.out.2.2.1.since HS1.out).fs hfs hnb, fun hh => hh.elim (fun e => hnb (.inl e)) (hnx b (by have := HS1.out.size; omega) (fun hp => hnb (.inr hp)))⟩
    have q1 := (hfs.cell (p := ⟨w.heap.size, 1, none⟩) (World.block_lt_of_cell? _ _ p1) HNW.out).trans p1
    have q2 := (hfs.cell (p := ⟨w.heap.size, 2, none⟩) (World.block_lt_of_cell? _ _ p2) HNW.out).trans p2
    have HSZ : Hid (w.heap.size ≤ w2.heap.size) := Nat.le_trans HS1.out.size hfs.size
    clear p0 p1 p2 hfs hnx
    rcases hc with ⟨r, rfl, hr0, hr14, hFm⟩ | ⟨rfl, S', l', lv', d', hFm, hFw, htx, hcc, hnl⟩ | ⟨rfl, S', hFm, hdead, hok, hcc⟩
    · have HR : Hid (r ≠ 0 ∧ r ≠ 14 ∧ Fm w0 w2 fb vb db cb kb kt S v' lv d l) := ⟨hr0, hr14, hFm⟩
      rw [ev_ne hr0]
      clear hr0 hr14 hFm
      go_wp2_with fail
      go_ret2
      exact ⟨b, ev r, by rw [ev_ne HR.out.1]; rfl, v', r, rfl, H2.out.1, H2.out.2.1, Or.inl ⟨HR.out.2.1, S, l, lv, d, T, Y, g, D, HR.out.2.2, HF.out.2.1.le (by omega), ⟨H2.out.2.2.1.own.mono (by omega), H2.out.2.2.1.key, H2.out.2.2.1.has, H2.out.2.2.1.at_⟩, HF.out.2.2.2.1, H2.out.2.2.2, Or.inr ⟨by decide, fun _ => rfl, HF.out.2.2.2.2.2.2.1⟩, Nl.refl _ _ _⟩⟩
    · have HR : Hid (Fm w0 w2 fb vb db cb kb kt S' v' lv' d' l' ∧ Fw kb kt S' l' n T Y ∧ (∀ u, txtOf S'.X l' u = if u = xn then some xt.data.toList else txtOf S.X l u) ∧ S'.c = S.c ∧ Nl w lv d lv' d') := ⟨hFm, hFw, htx, hcc, hnl.mono HS1.out.size⟩
      clear hFm hFw htx hcc hnl
      have HWI : Hid (Calls Tryz.prog 42 #[.map (some b), .string xn, .string xt, .bool true] w2 fun e w' => ∃ D', e = .returned (.map (some w2.heap.size)) ∧ Ms w' w2.heap.size (wth g xn xt true) D' (N + 1) ∧ Since w2 w') := with_any xn xt true w2 b g D N H2.out.2.2.1 HF.out.2.2.2.2.1 (by have := HX.out.1; omega) (by have := HX.out.2; omega)
      go_wp2_with fail
      refine HWI.out.mono ?_
      clear HWI
      rintro e w3 ⟨D', rfl, hm3, hs3⟩
      have HR3 : Hid (Ms w3 w2.heap.size (wth g xn xt true) D' (N + 1) ∧ Since w2 w3) := ⟨hm3, hs3⟩
      clear hm3 hs3 q1 q2
      go_wp2_with fail
      go_ret2
      exact ⟨_, ev 0, rfl, v', 0, rfl, H2.out.1.trans (Fs.of_since HR3.out.2), H2.out.2.1, Or.inl ⟨by decide, S', l', lv', d', T, Y, _, D', HR.out.1.since HR3.out.2, HR.out.2.1.le (by omega), HR3.out.1, wth_put HF.out.2.2.2.1 HR.out.2.2.1, HNEW.out _ _ _ _ _ _ HR.out.1 HSZ.out, Or.inr ⟨by decide, fun _ => HR.out.2.2.2.1, HF.out.2.2.2.2.2.2.1⟩, HR.out.2.2.2.2⟩⟩
    · have HR : Hid (Fm w0 w2 fb vb db cb kb kt S' v' lv d l ∧ Dead kb kt S' P ∧ S'.ok (n + 40) ∧ S'.c = S.c) := ⟨hFm, hdead, hok, hcc⟩
      have hev : ev 14 = .iface 32 (.int .i64 14) := ev_ne (by decide)
      rw [hev]
      clear hFm hdead hok hcc hev
      go_wp2_with fail
      go_ret2
      exact ⟨b, ev 14, rfl, v', 14, rfl, H2.out.1, H2.out.2.1, Or.inr ⟨rfl, rfl, S', D, HR.out.1, HR.out.2.1, HR.out.2.2.1, H2.out.2.2.1, H2.out.2.2.2, fun _ => HR.out.2.2.2⟩⟩
  by_cases e1 : xw = 1
  · subst e1
    clear e0
    go_enter Tryz.func37, Tryz.ntmps37
    go_upto_region 2 with fail
    generalize hw1 : w.alloc (.cells #[.int .i64 1, .string xn, .string xt] 88) = w1
    have HS1 : Hid (Since w w1) := by
      show Since w w1
      rw [← hw1]
      exact (Since.refl w).alloc _
    have p0 : w1.cell? ⟨w.heap.size, 0, none⟩ = some (.int .i64 1) := by rw [← hw1]; simp
    have p1 : w1.cell? ⟨w.heap.size, 1, none⟩ = some (.string xn) := by rw [← hw1]; simp
    have p2 : w1.cell? ⟨w.heap.size, 2, none⟩ = some (.string xt) := by rw [← hw1]; simp
    have HW1 : Hid (w1.heap.size = w.heap.size + 1) := by
      show w1.heap.size = w.heap.size + 1
      rw [← hw1]; simp
    clear hw1
    have hp := fdelW HB.out.1 HB.out.2.1 HF.out.2.1 HB.out.2.2 (HF.out.1.since HS1.out) xn HF.out.2.2.2.2.2.2.1
    have HP : Hid (Calls Tryz.prog 17 #[.pointer (some ⟨fb, 0, none⟩), .string xn] w1 fun e w' => ∃ v', Fs (fun k => k = fb ∨ VP vb db cb v k) w1 w' ∧ (∀ k, k < w1.heap.size → ¬ VP vb db cb v k → ¬ VP vb db cb v' k) ∧
      ((∃ r, e = .returned (ev r) ∧ r ≠ 0 ∧ r ≠ 14 ∧ Fm w0 w' fb vb db cb kb kt S v' lv d l) ∨
      (e = .returned .nilIface ∧ ∃ S' l' lv' d', Fm w0 w' fb vb db cb kb kt S' v' lv' d' l' ∧ Fw kb kt S' l' n T Y ∧ (∀ u, txtOf S'.X l' u = if u = xn then none else txtOf S.X l u) ∧ S'.c = S.c ∧ Nl w1 lv d lv' d') ∨
      (e = .returned (ev 14) ∧ ∃ S', Fm w0 w' fb vb db cb kb kt S' v' lv d l ∧ Dead kb kt S' P ∧ S'.ok (n + 40) ∧ S'.c = S.c))) := hp
    clear hp
    go_wp2_with fail
    refine HP.out.mono ?_
    clear HP
    rintro e w2 ⟨v', hfs, hnx, hc⟩
    have H2 : Hid (Fs (fun k => k = fb ∨ VP vb db cb v k) w w2 ∧ (∀ k, k < w.heap.size → ¬ VP vb db cb v k → ¬ VP vb db cb v' k) ∧ Ms w2 b g D N ∧ ¬ (b = fb ∨ VP vb db cb v' b)) := by
      have hb := HF.out.2.2.1.lt
      have hnb := HF.out.2.2.2.2.2.1
      exact ⟨(Fs.of_since HS1.out).trans hfs, fun k hk => hnx k (by have := HS1.out.size; omega), (HF.out.2.2.1.since HS1.out).fs hfs hnb, fun hh => hh.elim (fun e => hnb (.inl e)) (hnx b (by have := HS1.out.size; omega) (fun hp => hnb (.inr hp)))⟩
    have q1 := (hfs.cell (p := ⟨w.heap.size, 1, none⟩) (World.block_lt_of_cell? _ _ p1) HNW.out).trans p1
    have HSZ : Hid (w.heap.size ≤ w2.heap.size) := Nat.le_trans HS1.out.size hfs.size
    clear p0 p1 p2 hfs hnx
    rcases hc with ⟨r, rfl, hr0, hr14, hFm⟩ | ⟨rfl, S', l', lv', d', hFm, hFw, htx, hcc, hnl⟩ | ⟨rfl, S', hFm, hdead, hok, hcc⟩
    · have HR : Hid (r ≠ 0 ∧ r ≠ 14 ∧ Fm w0 w2 fb vb db cb kb kt S v' lv d l) := ⟨hr0, hr14, hFm⟩
      rw [ev_ne hr0]
      clear hr0 hr14 hFm
      go_wp2_with fail
      go_ret2
      exact ⟨b, ev r, by rw [ev_ne HR.out.1]; rfl, v', r, rfl, H2.out.1, H2.out.2.1, Or.inl ⟨HR.out.2.1, S, l, lv, d, T, Y, g, D, HR.out.2.2, HF.out.2.1.le (by omega), ⟨H2.out.2.2.1.own.mono (by omega), H2.out.2.2.1.key, H2.out.2.2.1.has, H2.out.2.2.1.at_⟩, HF.out.2.2.2.1, H2.out.2.2.2, Or.inr ⟨by decide, fun _ => rfl, HF.out.2.2.2.2.2.2.1⟩, Nl.refl _ _ _⟩⟩
    · have HR : Hid (Fm w0 w2 fb vb db cb kb kt S' v' lv' d' l' ∧ Fw kb kt S' l' n T Y ∧ (∀ u, txtOf S'.X l' u = if u = xn then none else txtOf S.X l u) ∧ S'.c = S.c ∧ Nl w lv d lv' d') := ⟨hFm, hFw, htx, hcc, hnl.mono HS1.out.size⟩
      clear hFm hFw htx hcc hnl
      have HWI : Hid (Calls Tryz.prog 42 #[.map (some b), .string xn, .string ⟨#[]⟩, .bool false] w2 fun e w' => ∃ D', e = .returned (.map (some w2.heap.size)) ∧ Ms w' w2.heap.size (wth g xn ⟨#[]⟩ false) D' (N + 1) ∧ Since w2 w') := with_any xn ⟨#[]⟩ false w2 b g D N H2.out.2.2.1 HF.out.2.2.2.2.1 (by have := HX.out.1; omega) (by decide)
      go_wp2_with fail
      refine HWI.out.mono ?_
      clear HWI
      rintro e w3 ⟨D', rfl, hm3, hs3⟩
      have HR3 : Hid (Ms w3 w2.heap.size (wth g xn ⟨#[]⟩ false) D' (N + 1) ∧ Since w2 w3) := ⟨hm3, hs3⟩
      clear hm3 hs3 q1
      go_wp2_with fail
      go_ret2
      exact ⟨_, ev 0, rfl, v', 0, rfl, H2.out.1.trans (Fs.of_since HR3.out.2), H2.out.2.1, Or.inl ⟨by decide, S', l', lv', d', T, Y, _, D', HR.out.1.since HR3.out.2, HR.out.2.1.le (by omega), HR3.out.1, wth_del HF.out.2.2.2.1 HR.out.2.2.1, HNEW.out _ _ _ _ _ _ HR.out.1 HSZ.out, Or.inr ⟨by decide, fun _ => HR.out.2.2.2.1, HF.out.2.2.2.2.2.2.1⟩, HR.out.2.2.2.2⟩⟩
    · have HR : Hid (Fm w0 w2 fb vb db cb kb kt S' v' lv d l ∧ Dead kb kt S' P ∧ S'.ok (n + 40) ∧ S'.c = S.c) := ⟨hFm, hdead, hok, hcc⟩
      have hev : ev 14 = .iface 32 (.int .i64 14) := ev_ne (by decide)
      rw [hev]
      clear hFm hdead hok hcc hev
      go_wp2_with fail
      go_ret2
      exact ⟨b, ev 14, rfl, v', 14, rfl, H2.out.1, H2.out.2.1, Or.inr ⟨rfl, rfl, S', D, HR.out.1, HR.out.2.1, HR.out.2.2.1, H2.out.2.2.1, H2.out.2.2.2, fun _ => HR.out.2.2.2⟩⟩
  by_cases e2 : xw = 2
  · subst e2
    clear e0 e1
    go_enter Tryz.func37, Tryz.ntmps37
    go_upto_region 2 with fail
    generalize hw1 : w.alloc (.cells #[.int .i64 2, .string xn, .string xt] 88) = w1
    have HS1 : Hid (Since w w1) := by
      show Since w w1
      rw [← hw1]
      exact (Since.refl w).alloc _
    have p0 : w1.cell? ⟨w.heap.size, 0, none⟩ = some (.int .i64 2) := by rw [← hw1]; simp
    have p1 : w1.cell? ⟨w.heap.size, 1, none⟩ = some (.string xn) := by rw [← hw1]; simp
    have p2 : w1.cell? ⟨w.heap.size, 2, none⟩ = some (.string xt) := by rw [← hw1]; simp
    have HW1 : Hid (w1.heap.size = w.heap.size + 1) := by
      show w1.heap.size = w.heap.size + 1
      rw [← hw1]; simp
    clear hw1
    have hp := fflushW HB.out.1 HF.out.2.1 HB.out.2.2 (HF.out.1.since HS1.out) HF.out.2.2.2.2.2.2.1 HF.out.2.2.2.2.2.2.2
    have HP : Hid (Calls Tryz.prog 19 #[.pointer (some ⟨fb, 0, none⟩)] w1 fun e w' => ∃ v', Fs (VP vb db cb v) w1 w' ∧ (∀ k, k < w1.heap.size → ¬ VP vb db cb v k → ¬ VP vb db cb v' k) ∧
      ((e = .returned .nilIface ∧ ∃ S' T', Fm w0 w' fb vb db cb kb kt S' v' lv d l ∧ Fw kb kt S' l (n + 1) T' S.X ∧ S'.X = S.X ∧ S'.c = S.c + 1) ∨
      (e = .returned (ev 14) ∧ ∃ S', Fm w0 w' fb vb db cb kb kt S' v' lv d l ∧ Dead kb kt S' P ∧ S'.ok (n + 40) ∧ S'.c = S.c))) := hp
    clear hp p1 p2
    go_wp2_with fail
    refine HP.out.mono ?_
    clear HP
    rintro e w2 ⟨v', hfs', hnx, hc⟩
    have hfs : Fs (fun k => k = fb ∨ VP vb db cb v k) w1 w2 := fs_wider hfs' (fun k e => .inr e)
    have H2 : Hid (Fs (fun k => k = fb ∨ VP vb db cb v k) w w2 ∧ (∀ k, k < w.heap.size → ¬ VP vb db cb v k → ¬ VP vb db cb v' k) ∧ Ms w2 b g D N ∧ ¬ (b = fb ∨ VP vb db cb v' b)) := by
      have hb := HF.out.2.2.1.lt
      have hnb := HF.out.2.2.2.2.2.1
      exact ⟨(Fs.of_since HS1.out).trans hfs, fun k hk => hnx k (by have := HS1.out.size; omega), (HF.out.2.2.1.since HS1.out).fs hfs hnb, fun hh => hh.elim (fun e => hnb (.inl e)) (hnx b (by have := HS1.out.size; omega) (fun hp => hnb (.inr hp)))⟩
    clear p0 hfs hfs' hnx
    rcases hc with ⟨rfl, S', T', hFm, hFw, hxx, hcc⟩ | ⟨rfl, S', hFm, hdead, hok, hcc⟩
    · have HR : Hid (Fm w0 w2 fb vb db cb kb kt S' v' lv d l ∧ Fw kb kt S' l (n + 1) T' S.X ∧ S'.X = S.X ∧ S'.c = S.c + 1) := ⟨hFm, hFw, hxx, hcc⟩
      clear hFm hFw hxx hcc
      go_wp2_with fail
      go_ret2
      exact ⟨b, ev 0, rfl, v', 0, rfl, H2.out.1, H2.out.2.1, Or.inl ⟨by decide, S', l, lv, d, T', S.X, g, D, HR.out.1, HR.out.2.1, ⟨H2.out.2.2.1.own.mono (by omega), H2.out.2.2.1.key, H2.out.2.2.1.has, H2.out.2.2.1.at_⟩, by rw [HR.out.2.2.1]; exact HF.out.2.2.2.1, H2.out.2.2.2, Or.inl ⟨rfl, HR.out.2.2.2, rfl, HR.out.2.2.1, rfl⟩, Nl.refl _ _ _⟩⟩
    · have HR : Hid (Fm w0 w2 fb vb db cb kb kt S' v' lv d l ∧ Dead kb kt S' P ∧ S'.ok (n + 40) ∧ S'.c = S.c) := ⟨hFm, hdead, hok, hcc⟩
      have hev : ev 14 = .iface 32 (.int .i64 14) := ev_ne (by decide)
      rw [hev]
      clear hFm hdead hok hcc hev
      go_wp2_with fail
      go_ret2
      exact ⟨b, ev 14, rfl, v', 14, rfl, H2.out.1, H2.out.2.1, Or.inr ⟨rfl, rfl, S', D, HR.out.1, HR.out.2.1, HR.out.2.2.1, H2.out.2.2.1, H2.out.2.2.2, fun _ => HR.out.2.2.2⟩⟩
  by_cases e3 : xw = 3
  · subst e3
    clear e0 e1 e2
    go_enter Tryz.func37, Tryz.ntmps37
    go_upto_region 2 with fail
    generalize hw1 : w.alloc (.cells #[.int .i64 3, .string xn, .string xt] 88) = w1
    have HS1 : Hid (Since w w1) := by
      show Since w w1
      rw [← hw1]
      exact (Since.refl w).alloc _
    have p0 : w1.cell? ⟨w.heap.size, 0, none⟩ = some (.int .i64 3) := by rw [← hw1]; simp
    have p1 : w1.cell? ⟨w.heap.size, 1, none⟩ = some (.string xn) := by rw [← hw1]; simp
    have p2 : w1.cell? ⟨w.heap.size, 2, none⟩ = some (.string xt) := by rw [← hw1]; simp
    have HW1 : Hid (w1.heap.size = w.heap.size + 1) := by
      show w1.heap.size = w.heap.size + 1
      rw [← hw1]; simp
    clear hw1
    have hp := freclaimW HB.out.1 HF.out.2.1 HB.out.2.2 (HF.out.1.since HS1.out) HF.out.2.2.2.2.2.2.1 HF.out.2.2.2.2.2.2.2
    have HP : Hid (Calls Tryz.prog 22 #[.pointer (some ⟨fb, 0, none⟩)] w1 fun e w' => ∃ v' q1 q2, Fs (VP vb db cb v) w1 w' ∧ (∀ k, k < w1.heap.size → ¬ VP vb db cb v k → ¬ VP vb db cb v' k) ∧
      ((e = .returned (.tuple #[.int .i64 q1, .bool q2, .nilIface]) ∧ ∃ S' T' Y', Fm w0 w' fb vb db cb kb kt S' v' lv d l ∧ Fw kb kt S' l (n + 1) T' Y' ∧ S'.X = S.X ∧ P Y') ∨
      (e = .returned (.tuple #[.int .i64 q1, .bool q2, ev 14]) ∧ ∃ S', Fm w0 w' fb vb db cb kb kt S' v' lv d l ∧ Dead kb kt S' P ∧ S'.ok (n + 40)))) := hp
    clear hp p1 p2
    go_wp2_with fail
    refine HP.out.mono ?_
    clear HP
    rintro e w2 ⟨v', q1, q2, hfs', hnx, hc⟩
    have hfs : Fs (fun k => k = fb ∨ VP vb db cb v k) w1 w2 := fs_wider hfs' (fun k e => .inr e)
    have H2 : Hid (Fs (fun k => k = fb ∨ VP vb db cb v k) w w2 ∧ (∀ k, k < w.heap.size → ¬ VP vb db cb v k → ¬ VP vb db cb v' k) ∧ Ms w2 b g D N ∧ ¬ (b = fb ∨ VP vb db cb v' b)) := by
      have hb := HF.out.2.2.1.lt
      have hnb := HF.out.2.2.2.2.2.1
      exact ⟨(Fs.of_since HS1.out).trans hfs, fun k hk => hnx k (by have := HS1.out.size; omega), (HF.out.2.2.1.since HS1.out).fs hfs hnb, fun hh => hh.elim (fun e => hnb (.inl e)) (hnx b (by have := HS1.out.size; omega) (fun hp => hnb (.inr hp)))⟩
    clear p0 hfs hfs' hnx
    rcases hc with ⟨rfl, S', T', Y', hFm, hFw, hxx, hPY⟩ | ⟨rfl, S', hFm, hdead, hok⟩
    · have HR : Hid (Fm w0 w2 fb vb db cb kb kt S' v' lv d l ∧ Fw kb kt S' l (n + 1) T' Y' ∧ S'.X = S.X ∧ P Y') := ⟨hFm, hFw, hxx, hPY⟩
      clear hFm hFw hxx hPY
      go_wp2_with fail
      go_ret2
      exact ⟨b, ev 0, rfl, v', 0, rfl, H2.out.1, H2.out.2.1, Or.inl ⟨by decide, S', l, lv, d, T', Y', g, D, HR.out.1, HR.out.2.1, ⟨H2.out.2.2.1.own.mono (by omega), H2.out.2.2.1.key, H2.out.2.2.1.has, H2.out.2.2.1.at_⟩, by rw [HR.out.2.2.1]; exact HF.out.2.2.2.1, H2.out.2.2.2, Or.inr ⟨by decide, fun h => absurd rfl h, HR.out.2.2.2⟩, Nl.refl _ _ _⟩⟩
    · have HR : Hid (Fm w0 w2 fb vb db cb kb kt S' v' lv d l ∧ Dead kb kt S' P ∧ S'.ok (n + 40)) := ⟨hFm, hdead, hok⟩
      have hev : ev 14 = .iface 32 (.int .i64 14) := ev_ne (by decide)
      rw [hev]
      clear hFm hdead hok hev
      go_wp2_with fail
      go_ret2
      exact ⟨b, ev 14, rfl, v', 14, rfl, H2.out.1, H2.out.2.1, Or.inr ⟨rfl, rfl, S', D, HR.out.1, HR.out.2.1, HR.out.2.2, H2.out.2.2.1, H2.out.2.2.2, fun h => absurd rfl h⟩⟩
  · go_enter Tryz.func37, Tryz.ntmps37
    go_upto_region 2 with fail
    generalize hw1 : w.alloc (.cells #[.int .i64 xw, .string xn, .string xt] 88) = w1
    have HS1 : Hid (Since w w1) := by
      show Since w w1
      rw [← hw1]
      exact (Since.refl w).alloc _
    have p0 : w1.cell? ⟨w.heap.size, 0, none⟩ = some (.int .i64 xw) := by rw [← hw1]; simp
    have HE : Hid (xw ≠ 2 ∧ xw ≠ 3) := ⟨e2, e3⟩
    clear hw1
    go_wp2_with fail
    go_ret2
    refine ⟨b, ev 0, rfl, v, 0, rfl, Fs.of_since HS1.out, fun _ _ h => h, Or.inl ⟨by decide, S, l, lv, d, T, Y, g, D, HF.out.1.since HS1.out, HF.out.2.1.le (by omega), ⟨(HF.out.2.2.1.since HS1.out).own.mono (by omega), HF.out.2.2.1.key, HF.out.2.2.1.has, HF.out.2.2.1.at_⟩, HF.out.2.2.2.1, HF.out.2.2.2.2.2.1, Or.inr ⟨HE.out.1, fun _ => rfl, HF.out.2.2.2.2.2.2.1⟩, Nl.refl _ _ _⟩⟩
end
end Fl
end Go.Proofs.YtlgocfgnfdnloaaGreatDoor
