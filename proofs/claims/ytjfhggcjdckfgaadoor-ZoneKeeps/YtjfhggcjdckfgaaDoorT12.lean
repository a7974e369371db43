/- Both devices at once. -/
import Derived.Test.YtjfhggcjdckfgaaDoorT11
import Derived.Test.YtjfhggcjdckfgaaDoorR4
namespace Go.Proofs.YtjfhggcjdckfgaaDoor
set_option linter.unusedSimpArgs false
set_option linter.unusedVariables false
open Go.RowKit

theorem own_nx {w : World} {base e s n xb t : Nat} {v : Value} {xs : List Value} {arr : Array Value} (h : w.ownsRow base e s v n xs) (hx : w.heap[xb]? = some (.cells arr t)) (he : e ≠ t) : v.ownBlock ≠ some xb := by
  rcases h.2 with ⟨rfl, _⟩ | ⟨g, c, u, rfl, _, hg, _⟩
  · simp [Value.ownBlock]
  · intro e1
    simp only [Value.ownBlock, Option.some.injEq] at e1
    subst e1
    rw [hg] at hx
    injection hx with hx
    injection hx with _ h3
    exact he h3
theorem Fr.any {b : Nat} {g : Option Nat} {w w' : World} (h : Fr b none w w') : Fr b g w w' := ⟨h.os, h.tape, h.output, h.size, fun k hk hb _ => h.block k hk hb (by simp)⟩
/-- the program's device D in block b, the reference's E in block rb, the step in block xb -/
structure Bo (w0 w : World) (b rb xb : Nat) (xc : Nat → Value) (D E : Dv) : Prop where
  st : ∃ v lv av wv, Dev w b D v ∧ Ref w rb (b + 1) E lv av wv ∧ (∀ k, v.ownBlock = some k → b < k)
  xt : ∃ arr, w.heap[xb]? = some (.cells arr 54)
  xc : Cel w xb 5 xc
  xne : xb ≠ b ∧ xb ≠ rb
  since : Since w0 w
  lo : w0.heap.size ≤ rb ∧ rb < b
theorem Cel.blk {w w' : World} {b n : Nat} {f : Nat → Value} (h : Cel w b n f) (hb : w'.heap[b]? = w.heap[b]?) : Cel w' b n f :=
  ⟨fun j hj => by rw [World.cell?_of_block (w := w) (a := ⟨b, j, none⟩) hb]; exact h.cell j hj, fun j hj => by rw [World.frozen?_of_block (w := w) (a := ⟨b, j, none⟩) hb]; exact h.frozen j hj⟩
theorem Bo.xlt {w0 w : World} {b rb xb : Nat} {xc : Nat → Value} {D E : Dv} (h : Bo w0 w b rb xb xc D E) : xb < w.heap.size := h.xc.lt (by omega)
theorem Bo.go {w0 w w' : World} {b rb xb : Nat} {xc : Nat → Value} {D E : Dv} (h : Bo w0 w b rb xb xc D E) (hs : Since w w') : Bo w0 w' b rb xb xc D E where
  st := by
    obtain ⟨v, lv, av, wv, hd, hr, hv⟩ := h.st
    exact ⟨v, lv, av, wv, hd.since hs, hr.since hs, hv⟩
  xt := by
    obtain ⟨arr, ha⟩ := h.xt
    exact ⟨arr, (hs.block xb h.xlt).trans ha⟩
  xc := h.xc.since hs
  xne := h.xne
  since := h.since.trans hs
  lo := h.lo
theorem Bo.devTo {w0 w w' : World} {b rb xb : Nat} {xc : Nat → Value} {D D' E : Dv} {v v' : Value} {lv : Nat → Value} {av wv : Value} (h : Bo w0 w b rb xb xc D E) (hd : Dev w b D v) (hr : Ref w rb (b + 1) E lv av wv) (hv : ∀ k, v.ownBlock = some k → b < k)
    (hd' : Dev w' b D' v') (hf : Fr b v.ownBlock w w') (hn : Nx w v.ownBlock v'.ownBlock) : Bo w0 w' b rb xb xc D' E where
  st := by
    refine ⟨v', lv, av, wv, hd', hr.fr hf (by omega) (by have := h.lo; omega) (fun e => by have := hv _ e.symm; have := h.lo; omega) (fun z hz => own_apart (hr.row z hz) hd.own (by decide)) (own_apart hr.at_ hd.own (by decide)) (own_apart hr.what hd.own (by decide)), fun k hk => ?_⟩
    rcases hn k hk with h1 | h1
    · exact hv k h1
    · have := hd.lt; omega
  xt := by
    obtain ⟨arr, ha⟩ := h.xt
    exact ⟨arr, (hf.block xb h.xlt h.xne.1 (fun e => own_nx hd.own ha (by decide) e.symm)).trans ha⟩
  xc := by
    obtain ⟨arr, ha⟩ := h.xt
    exact h.xc.blk (hf.block xb h.xlt h.xne.1 (fun e => own_nx hd.own ha (by decide) e.symm))
  xne := h.xne
  since := hf.since h.since (by have := h.lo; omega) (fun k e => by have := hv k e; have := h.lo; omega)
  lo := h.lo
theorem Bo.refTo {w0 w w' : World} {b rb xb : Nat} {xc : Nat → Value} {D E E' : Dv} {v : Value} {lv lv' : Nat → Value} {av wv av' wv' : Value} (h : Bo w0 w b rb xb xc D E) (hd : Dev w b D v) (hr : Ref w rb (b + 1) E lv av wv) (hv : ∀ k, v.ownBlock = some k → b < k)
    (hr' : Ref w' rb (b + 1) E' lv' av' wv') (hf : Fs (PS rb av wv) w w') : Bo w0 w' b rb xb xc D E' where
  st := by
    refine ⟨v, lv', av', wv', hd.fs hf ?_ (fun k hk => ?_), hr', hv⟩
    · rintro (e | e | e)
      · have := h.lo; omega
      · have := (hr.at_.lt _ e).1; omega
      · have := (hr.what.lt _ e).1; omega
    · rintro (e | e | e)
      · have := hv k hk; have := h.lo; omega
      · rcases own_apart hr.at_ hd.own (by decide) with h1 | h1
        · rw [h1] at e; cases e
        · exact h1 (e.trans hk.symm)
      · rcases own_apart hr.what hd.own (by decide) with h1 | h1
        · rw [h1] at e; cases e
        · exact h1 (e.trans hk.symm)
  xt := by
    obtain ⟨arr, ha⟩ := h.xt
    refine ⟨arr, (hf.block xb h.xlt ?_).trans ha⟩
    rintro (e | e | e)
    · exact h.xne.2 e
    · exact own_nx hr.at_ ha (by decide) e
    · exact own_nx hr.what ha (by decide) e
  xc := by
    obtain ⟨arr, ha⟩ := h.xt
    refine h.xc.blk (hf.block xb h.xlt ?_)
    rintro (e | e | e)
    · exact h.xne.2 e
    · exact own_nx hr.at_ ha (by decide) e
    · exact own_nx hr.what ha (by decide) e
  xne := h.xne
  since := by
    refine hf.since h.since ?_
    rintro k (e | e | e)
    · have := h.lo; omega
    · have := (hr.at_.lt _ e).1; have := h.lo; omega
    · have := (hr.what.lt _ e).1; have := h.lo; omega
  lo := h.lo
theorem Fs.of0 {rb : Nat} {av wv : Value} {w w' : World} (h : Fr rb none w w') : Fs (PS rb av wv) w w' := Fs.of_fr h (Or.inl rfl) (fun k e => by cases e)

/-- what a step answers, and the device behind it -/
def Dv.apR (D : Dv) (z : Int) (s : ByteArray) : Int × Int × Dv :=
  if ¬ (0 ≤ z ∧ z < 8) then (0, 2, D) else if 128 < s.size then (0, 4, D) else if D.cnt z.toNat = 16 then (0, 12, D) else if D.may = false then (0, 14, D) else (D.cnt z.toNat, 0, D.burnt.app z.toNat s)
def Dv.rsR (D : Dv) (z : Int) : Int × Dv := if ¬ (0 ≤ z ∧ z < 8) then (2, D) else if D.may = false then (14, D) else (0, D.burnt.reset z.toNat)
def Dv.ptR (D : Dv) (z : Int) (s : ByteArray) : Int × Dv :=
  if ¬ (0 ≤ z ∧ z < 2) then (2, D) else if 500 < s.size then (4, D) else if D.may = false then (14, D) else (0, D.burnt.wrote z.toNat s)
def Dv.syR (D : Dv) : Int × Dv := if D.may = false then (14, D) else (0, D.burnt.synced)
theorem ev0 : ev 0 = .nilIface := by unfold ev; rw [if_pos rfl]
theorem evn (n : Int) (h : n ≠ 0) : ev n = .iface 30 (.int .i64 n) := by unfold ev; rw [if_neg h]
theorem bare_ev (n : Int) (w : World) (hg : Et w) : Calls Tryd.prog 23 #[ev n, .int .i64 n] w fun e w' => e = .returned (.bool true) ∧ Since w w' := by
  by_cases h : n = 0
  · subst h
    rw [ev0]
    refine (bare_nil w).mono ?_
    rintro e w' ⟨rfl, rfl⟩
    exact ⟨rfl, Since.refl _⟩
  · rw [evn n h]
    exact bare_hit n w hg

theorem append_all {w0 w : World} {b rb xb : Nat} {xc : Nat → Value} {D E : Dv} (z : Int) (s : ByteArray) (h : Bo w0 w b rb xb xc D E) :
    Calls Tryd.prog 30 #[.pointer (some ⟨b, 0, none⟩), .int .i64 z, .string s] w fun e w' => e = .returned (.tuple #[.int .i64 (D.apR z s).1, ev (D.apR z s).2.1]) ∧ Bo w0 w' b rb xb xc (D.apR z s).2.2 E := by
  obtain ⟨v, lv, av, wv, hd, hr, hv⟩ := h.st
  unfold Dv.apR
  by_cases hz : 0 ≤ z ∧ z < 8
  · rw [if_neg (by omega)]
    obtain ⟨k, rfl⟩ := Int.eq_ofNat_of_zero_le hz.1
    have hk : k < 8 := by omega
    rw [Int.toNat_natCast]
    by_cases hs : 128 < s.size
    · rw [if_pos hs]
      refine (append_long b k s w hk hs).mono ?_
      rintro e w' ⟨rfl, rfl⟩
      exact ⟨rfl, h⟩
    · rw [if_neg hs]
      by_cases hc : D.cnt k = 16
      · rw [if_pos hc]
        refine (append_full D v b k s w hd hk (by omega) hc).mono ?_
        rintro e w' ⟨rfl, rfl⟩
        exact ⟨rfl, h⟩
      · rw [if_neg hc]
        by_cases hm : D.may = false
        · rw [if_pos hm]
          refine (append_spent D v b k s w hd hk (by omega) (by have := hd.ok.cnt k hk; omega) hm).mono ?_
          rintro e w' ⟨rfl, rfl⟩
          exact ⟨rfl, h⟩
        · rw [if_neg hm]
          refine (append_any D v b k s w hd hk (by omega) (by have := hd.ok.cnt k hk; omega) (by simpa using hm)).mono ?_
          rintro e w' ⟨rfl, hd', hf⟩
          exact ⟨rfl, h.devTo hd hr hv hd' hf.any (Nx.refl _ _)⟩
  · rw [if_pos hz]
    refine (append_bad b z s w hz).mono ?_
    rintro e w' ⟨rfl, rfl⟩
    exact ⟨rfl, h⟩
theorem rappend_all {w0 w : World} {b rb xb : Nat} {xc : Nat → Value} {D E : Dv} (z : Int) (s : ByteArray) (h : Bo w0 w b rb xb xc D E) (hok : E.ok) :
    Calls Tryd.prog 29 #[.pointer (some ⟨rb, 0, none⟩), .int .i64 z, .string s] w fun e w' => e = .returned (.tuple #[.int .i64 (E.apR z s).1, .int .i64 (E.apR z s).2.1]) ∧ Bo w0 w' b rb xb xc D (E.apR z s).2.2 := by
  obtain ⟨v, lv, av, wv, hd, hr, hv⟩ := h.st
  unfold Dv.apR
  by_cases hz : 0 ≤ z ∧ z < 8
  · rw [if_neg (by omega)]
    obtain ⟨k, rfl⟩ := Int.eq_ofNat_of_zero_le hz.1
    have hk : k < 8 := by omega
    rw [Int.toNat_natCast]
    by_cases hs : 128 < s.size
    · rw [if_pos hs]
      refine (rappend_long rb k s w hk hs).mono ?_
      rintro e w' ⟨rfl, rfl⟩
      exact ⟨rfl, h⟩
    · rw [if_neg hs]
      by_cases hc : E.cnt k = 16
      · rw [if_pos hc]
        refine (rappend_full E lv av wv rb (b + 1) k s w hr hk (by omega) hc).mono ?_
        rintro e w' ⟨rfl, rfl⟩
        exact ⟨rfl, h⟩
      · rw [if_neg hc]
        by_cases hm : E.may = false
        · rw [if_pos hm]
          refine (rappend_spent E lv av wv rb (b + 1) k s w hr hok.left hk (by omega) (by have := hok.cnt k hk; omega) hm).mono ?_
          rintro e w' ⟨rfl, rfl⟩
          exact ⟨rfl, h⟩
        · rw [if_neg hm]
          refine (rappend_any E lv av wv rb (b + 1) k s w hr hok.left hk (by omega) (by have := hok.cnt k hk; omega) (by simpa using hm)).mono ?_
          rintro e w' ⟨rfl, ⟨lv', hr'⟩, hf⟩
          exact ⟨rfl, h.refTo hd hr hv hr' (Fs.of0 hf)⟩
  · rw [if_pos hz]
    refine (rappend_bad rb z s w hz).mono ?_
    rintro e w' ⟨rfl, rfl⟩
    exact ⟨rfl, h⟩
theorem reset_all {w0 w : World} {b rb xb : Nat} {xc : Nat → Value} {D E : Dv} (z : Int) (h : Bo w0 w b rb xb xc D E) :
    Calls Tryd.prog 31 #[.pointer (some ⟨b, 0, none⟩), .int .i64 z] w fun e w' => e = .returned (ev (D.rsR z).1) ∧ Bo w0 w' b rb xb xc (D.rsR z).2 E := by
  obtain ⟨v, lv, av, wv, hd, hr, hv⟩ := h.st
  unfold Dv.rsR
  by_cases hz : 0 ≤ z ∧ z < 8
  · rw [if_neg (by omega)]
    obtain ⟨k, rfl⟩ := Int.eq_ofNat_of_zero_le hz.1
    have hk : k < 8 := by omega
    rw [Int.toNat_natCast]
    by_cases hm : D.may = false
    · rw [if_pos hm]
      refine (reset_spent D v b k w hd hk hm).mono ?_
      rintro e w' ⟨rfl, rfl⟩
      exact ⟨rfl, h⟩
    · rw [if_neg hm]
      refine (reset_any D v b k w hd hk (by simpa using hm)).mono ?_
      rintro e w' ⟨rfl, hd', hf⟩
      exact ⟨rfl, h.devTo hd hr hv hd' hf.any (Nx.refl _ _)⟩
  · rw [if_pos hz]
    refine (reset_bad b z w hz).mono ?_
    rintro e w' ⟨rfl, rfl⟩
    exact ⟨rfl, h⟩
theorem rreset_all {w0 w : World} {b rb xb : Nat} {xc : Nat → Value} {D E : Dv} (z : Int) (h : Bo w0 w b rb xb xc D E) (hok : E.ok) :
    Calls Tryd.prog 32 #[.pointer (some ⟨rb, 0, none⟩), .int .i64 z] w fun e w' => e = .returned (.int .i64 (E.rsR z).1) ∧ Bo w0 w' b rb xb xc D (E.rsR z).2 := by
  obtain ⟨v, lv, av, wv, hd, hr, hv⟩ := h.st
  unfold Dv.rsR
  by_cases hz : 0 ≤ z ∧ z < 8
  · rw [if_neg (by omega)]
    obtain ⟨k, rfl⟩ := Int.eq_ofNat_of_zero_le hz.1
    have hk : k < 8 := by omega
    rw [Int.toNat_natCast]
    by_cases hm : E.may = false
    · rw [if_pos hm]
      refine (rreset_spent E lv av wv rb (b + 1) k w hr hok.left hk hm).mono ?_
      rintro e w' ⟨rfl, rfl⟩
      exact ⟨rfl, h⟩
    · rw [if_neg hm]
      refine (rreset_any E lv av wv rb (b + 1) k w hr hok.left hk (by simpa using hm)).mono ?_
      rintro e w' ⟨rfl, ⟨lv', hr'⟩, hf⟩
      exact ⟨rfl, h.refTo hd hr hv hr' (Fs.of0 hf)⟩
  · rw [if_pos hz]
    refine (rreset_bad rb z w hz).mono ?_
    rintro e w' ⟨rfl, rfl⟩
    exact ⟨rfl, h⟩
theorem put_all {w0 w : World} {b rb xb : Nat} {xc : Nat → Value} {D E : Dv} (z : Int) (s : ByteArray) (h : Bo w0 w b rb xb xc D E) (hn : D.ws.length < 1000) :
    Calls Tryd.prog 33 #[.pointer (some ⟨b, 0, none⟩), .int .i64 z, .string s] w fun e w' => e = .returned (ev (D.ptR z s).1) ∧ Bo w0 w' b rb xb xc (D.ptR z s).2 E := by
  obtain ⟨v, lv, av, wv, hd, hr, hv⟩ := h.st
  unfold Dv.ptR
  by_cases hz : 0 ≤ z ∧ z < 2
  · rw [if_neg (by omega)]
    obtain ⟨k, rfl⟩ := Int.eq_ofNat_of_zero_le hz.1
    have hk : k < 2 := by omega
    rw [Int.toNat_natCast]
    by_cases hs : 500 < s.size
    · rw [if_pos hs]
      refine (put_long b k s w hk hs).mono ?_
      rintro e w' ⟨rfl, rfl⟩
      exact ⟨rfl, h⟩
    · rw [if_neg hs]
      by_cases hm : D.may = false
      · rw [if_pos hm]
        refine (put_spent D v b k s w hd hk (by omega) hm).mono ?_
        rintro e w' ⟨rfl, rfl⟩
        exact ⟨rfl, h⟩
      · rw [if_neg hm]
        refine (put_any D v b k s w hd hk (by omega) (by simpa using hm) hn).mono ?_
        rintro e w' ⟨rfl, v', hd', hf, hx⟩
        exact ⟨rfl, h.devTo hd hr hv hd' hf hx⟩
  · rw [if_pos hz]
    refine (put_bad b z s w hz).mono ?_
    rintro e w' ⟨rfl, rfl⟩
    exact ⟨rfl, h⟩
theorem rput_all {w0 w : World} {b rb xb : Nat} {xc : Nat → Value} {D E : Dv} (z : Int) (s : ByteArray) (h : Bo w0 w b rb xb xc D E) (hok : E.ok) (hn : E.ws.length < 1000) :
    Calls Tryd.prog 34 #[.pointer (some ⟨rb, 0, none⟩), .int .i64 z, .string s] w fun e w' => e = .returned (.int .i64 (E.ptR z s).1) ∧ Bo w0 w' b rb xb xc D (E.ptR z s).2 := by
  obtain ⟨v, lv, av, wv, hd, hr, hv⟩ := h.st
  unfold Dv.ptR
  by_cases hz : 0 ≤ z ∧ z < 2
  · rw [if_neg (by omega)]
    obtain ⟨k, rfl⟩ := Int.eq_ofNat_of_zero_le hz.1
    have hk : k < 2 := by omega
    rw [Int.toNat_natCast]
    by_cases hs : 500 < s.size
    · rw [if_pos hs]
      refine (rput_long rb k s w hk hs).mono ?_
      rintro e w' ⟨rfl, rfl⟩
      exact ⟨rfl, h⟩
    · rw [if_neg hs]
      by_cases hm : E.may = false
      · rw [if_pos hm]
        refine (rput_spent E lv av wv rb (b + 1) k s w hr hok.left hk (by omega) hm).mono ?_
        rintro e w' ⟨rfl, rfl⟩
        exact ⟨rfl, h⟩
      · rw [if_neg hm]
        refine (rput_any E lv av wv rb (b + 1) k s w hr hok.left hk (by omega) (by simpa using hm) hn).mono ?_
        rintro e w' ⟨rfl, av', wv', hr', hf⟩
        exact ⟨rfl, h.refTo hd hr hv hr' hf⟩
  · rw [if_pos hz]
    refine (rput_bad rb z s w hz).mono ?_
    rintro e w' ⟨rfl, rfl⟩
    exact ⟨rfl, h⟩
theorem sync_all {w0 w : World} {b rb xb : Nat} {xc : Nat → Value} {D E : Dv} (h : Bo w0 w b rb xb xc D E) :
    Calls Tryd.prog 35 #[.pointer (some ⟨b, 0, none⟩)] w fun e w' => e = .returned (ev D.syR.1) ∧ Bo w0 w' b rb xb xc D.syR.2 E := by
  obtain ⟨v, lv, av, wv, hd, hr, hv⟩ := h.st
  unfold Dv.syR
  by_cases hm : D.may = false
  · rw [if_pos hm]
    refine (sync_spent D v b w hd hm).mono ?_
    rintro e w' ⟨rfl, rfl⟩
    exact ⟨rfl, h⟩
  · rw [if_neg hm]
    refine (sync_any D v b w hd (by simpa using hm)).mono ?_
    rintro e w' ⟨rfl, hd', hf⟩
    exact ⟨rfl, h.devTo hd hr hv hd' hf.any (Nx.none _ _)⟩
theorem rsync_all {w0 w : World} {b rb xb : Nat} {xc : Nat → Value} {D E : Dv} (h : Bo w0 w b rb xb xc D E) (hok : E.ok) :
    Calls Tryd.prog 36 #[.pointer (some ⟨rb, 0, none⟩)] w fun e w' => e = .returned (.int .i64 E.syR.1) ∧ Bo w0 w' b rb xb xc D E.syR.2 := by
  obtain ⟨v, lv, av, wv, hd, hr, hv⟩ := h.st
  unfold Dv.syR
  by_cases hm : E.may = false
  · rw [if_pos hm]
    refine (rsync_spent E lv av wv rb (b + 1) w hr hok.left hm).mono ?_
    rintro e w' ⟨rfl, rfl⟩
    exact ⟨rfl, h⟩
  · rw [if_neg hm]
    refine (rsync_any E lv av wv rb (b + 1) w hr hok (by simpa using hm)).mono ?_
    rintro e w' ⟨rfl, ⟨lv', hr'⟩, hf⟩
    exact ⟨rfl, h.refTo hd hr hv hr' (Fs.of0 hf)⟩
theorem fuse_all {w0 w : World} {b rb xb : Nat} {xc : Nat → Value} {D E : Dv} (n : Int) (h : Bo w0 w b rb xb xc D E) (hn : n ≤ 9223372036854775807) :
    Calls Tryd.prog 37 #[.pointer (some ⟨b, 0, none⟩), .int .i64 n] w fun e w' => e = .returned (.tuple #[]) ∧ Bo w0 w' b rb xb xc (D.fuse n) E := by
  obtain ⟨v, lv, av, wv, hd, hr, hv⟩ := h.st
  refine (fuse_any D v b n w hd hn).mono ?_
  rintro e w' ⟨rfl, hd', hf⟩
  exact ⟨rfl, h.devTo hd hr hv hd' hf.any (Nx.refl _ _)⟩
theorem rfuse_all {w0 w : World} {b rb xb : Nat} {xc : Nat → Value} {D E : Dv} (n : Int) (h : Bo w0 w b rb xb xc D E) :
    Calls Tryd.prog 38 #[.pointer (some ⟨rb, 0, none⟩), .int .i64 n] w fun e w' => e = .returned (.tuple #[]) ∧ Bo w0 w' b rb xb xc D (E.fuse n) := by
  obtain ⟨v, lv, av, wv, hd, hr, hv⟩ := h.st
  refine (rfuse_any E lv av wv rb (b + 1) n w hr).mono ?_
  rintro e w' ⟨rfl, hr', hf⟩
  exact ⟨rfl, h.refTo hd hr hv hr' (Fs.of0 hf)⟩
theorem crash_all {w0 w : World} {b rb xb nk ns : Nat} {xc : Nat → Value} {D E : Dv} {kv sv : Value} (ks : Nat → Int) (sl : Nat → Bool) (h : Bo w0 w b rb xb xc D E) (hk : SlA w0 w0.heap.size kv nk (fun j => .int .i64 (ks j))) (hs : SlA w0 w0.heap.size sv ns (fun j => .bool (sl j))) :
    Calls Tryd.prog 39 #[.pointer (some ⟨b, 0, none⟩), kv, sv] w fun e w' => e = .returned (.tuple #[]) ∧ Bo w0 w' b rb xb xc (D.crashed nk ks ns sl) E := by
  obtain ⟨v, lv, av, wv, hd, hr, hv⟩ := h.st
  refine (crash_any D v b nk ns kv sv ks sl w hd (hk.sl h.since (by have := h.lo; omega)) (hs.sl h.since (by have := h.lo; omega))).mono ?_
  rintro e w' ⟨rfl, hd', hf⟩
  exact ⟨rfl, h.devTo hd hr hv hd' hf.any (Nx.none _ _)⟩
theorem rcrash_all {w0 w : World} {b rb xb nk ns : Nat} {xc : Nat → Value} {D E : Dv} {kv sv : Value} (ks : Nat → Int) (sl : Nat → Bool) (h : Bo w0 w b rb xb xc D E) (hok : E.ok) (hk : SlA w0 w0.heap.size kv nk (fun j => .int .i64 (ks j))) (hs : SlA w0 w0.heap.size sv ns (fun j => .bool (sl j))) :
    Calls Tryd.prog 40 #[.pointer (some ⟨rb, 0, none⟩), kv, sv] w fun e w' => e = .returned (.tuple #[]) ∧ Bo w0 w' b rb xb xc D (E.crashed nk ks ns sl) := by
  obtain ⟨v, lv, av, wv, hd, hr, hv⟩ := h.st
  refine (rcrash_any E lv av wv rb (b + 1) nk ns kv sv ks sl w hr hok (hk.sl h.since h.lo.1) (hs.sl h.since h.lo.1)).mono ?_
  rintro e w' ⟨rfl, ⟨lv', hr'⟩, hf⟩
  exact ⟨rfl, h.refTo hd hr hv hr' (Fs.of0 hf)⟩
/-- an image that came in -/
structure ImA (w : World) (N : Nat) (iv : Nat → Value) (n : Nat → Nat) (l : Nat → Nat → ByteArray) : Prop where
  row : ∀ z, z < 8 → ∃ a c, iv z = .slice a (n z) c ∧ n z ≤ c ∧ (0 < n z → ∃ k o, a = some ⟨k, o, none⟩ ∧ k < N ∧ ∀ j, j < n z → w.cell? ⟨k, o + j, none⟩ = some (.string (l z j)))
theorem ImA.img {w w' : World} {N b : Nat} {iv : Nat → Value} {n : Nat → Nat} {l : Nat → Nat → ByteArray} (h : ImA w N iv n l) (hs : Since w w') (hb : N ≤ b) : Img w' b iv n l where
  row z hz := by
    obtain ⟨a, c, hv, hc, h⟩ := h.row z hz
    refine ⟨a, c, hv, hc, fun hn => ?_⟩
    obtain ⟨k, o, ha, hk, hc⟩ := h hn
    exact ⟨k, o, ha, by omega, fun j hj => (hs.cell (p := ⟨k, o + j, none⟩) (World.block_lt_of_cell? w _ (hc j hj))).trans (hc j hj)⟩
theorem lay_all {w0 w : World} {b rb xb : Nat} {xc : Nat → Value} {D E : Dv} {iv : Nat → Value} {n : Nat → Nat} {l : Nat → Nat → ByteArray} (s0 s1 : ByteArray) (h : Bo w0 w b rb xb xc D E) (hi : ImA w0 w0.heap.size iv n l) :
    Calls Tryd.prog 41 #[.pointer (some ⟨b, 0, none⟩), .agg (brow 10 (icell iv s0 s1)).toArray] w fun e w' => e = .returned (.tuple #[]) ∧ Bo w0 w' b rb xb xc (D.laidBy n l s0 s1) E := by
  obtain ⟨v, lv, av, wv, hd, hr, hv⟩ := h.st
  refine (lay_any D v b iv s0 s1 n l w hd (hi.img h.since (by have := h.lo; omega))).mono ?_
  rintro e w' ⟨rfl, hd', hf⟩
  exact ⟨rfl, h.devTo hd hr hv hd' hf.any (Nx.none _ _)⟩
theorem rlay_all {w0 w : World} {b rb xb : Nat} {xc : Nat → Value} {D E : Dv} {iv : Nat → Value} {n : Nat → Nat} {l : Nat → Nat → ByteArray} (s0 s1 : ByteArray) (h : Bo w0 w b rb xb xc D E) (hi : ImA w0 w0.heap.size iv n l) (hn : ∀ z, z < 8 → n z ≤ 1000) :
    Calls Tryd.prog 42 #[.pointer (some ⟨rb, 0, none⟩), .agg (brow 10 (icell iv s0 s1)).toArray] w fun e w' => e = .returned (.tuple #[]) ∧ Bo w0 w' b rb xb xc D (E.laidBy n l s0 s1) := by
  obtain ⟨v, lv, av, wv, hd, hr, hv⟩ := h.st
  refine (rlay_any E lv av wv rb (b + 1) iv s0 s1 n l w hr (hi.img h.since h.lo.1) hn).mono ?_
  rintro e w' ⟨rfl, ⟨lv', hr'⟩, hf⟩
  exact ⟨rfl, h.refTo hd hr hv hr' (Fs.of0 hf)⟩
theorem Bo.ok {w0 w : World} {b rb xb : Nat} {xc : Nat → Value} {D E : Dv} (h : Bo w0 w b rb xb xc D E) : D.ok := by
  obtain ⟨v, lv, av, wv, hd, hr, hv⟩ := h.st
  exact hd.ok

/-- what a look answers -/
def Dv.atR (D : Dv) (z : Int) : Int × Int := if ¬ (0 ≤ z ∧ z < 8) then (0, 2) else (D.cnt z.toNat, 0)
def Dv.rdR (D : Dv) (z k : Int) : ByteArray × Int := if ¬ (0 ≤ z ∧ z < 8) then (⟨#[]⟩, 2) else if ¬ (0 ≤ k ∧ k < D.cnt z.toNat) then (⟨#[]⟩, 7) else (txt 128 (D.blk z.toNat k.toNat), 0)
def Dv.gtR (D : Dv) (z : Int) : ByteArray × Int := if ¬ (0 ≤ z ∧ z < 2) then (⟨#[]⟩, 2) else (txt 500 (D.slotBy z.toNat (fun _ => true)), 0)
theorem at_all {w0 w : World} {b rb xb : Nat} {xc : Nat → Value} {D E : Dv} (z : Int) (h : Bo w0 w b rb xb xc D E) :
    Calls Tryd.prog 47 #[.pointer (some ⟨b, 0, none⟩), .int .i64 z] w fun e w' => e = .returned (.tuple #[.int .i64 (D.atR z).1, ev (D.atR z).2]) ∧ w' = w := by
  obtain ⟨v, lv, av, wv, hd, hr, hv⟩ := h.st
  unfold Dv.atR
  by_cases hz : 0 ≤ z ∧ z < 8
  · rw [if_neg (by omega)]
    obtain ⟨k, rfl⟩ := Int.eq_ofNat_of_zero_le hz.1
    rw [Int.toNat_natCast]
    exact at_any D v b k w hd (by omega)
  · rw [if_pos hz]
    exact at_bad b z w hz
theorem have_all {w0 w : World} {b rb xb : Nat} {xc : Nat → Value} {D E : Dv} (z : Int) (h : Bo w0 w b rb xb xc D E) :
    Calls Tryd.prog 46 #[.pointer (some ⟨rb, 0, none⟩), .int .i64 z] w fun e w' => e = .returned (.tuple #[.int .i64 (E.atR z).1, .int .i64 (E.atR z).2]) ∧ w' = w := by
  obtain ⟨v, lv, av, wv, hd, hr, hv⟩ := h.st
  unfold Dv.atR
  by_cases hz : 0 ≤ z ∧ z < 8
  · rw [if_neg (by omega)]
    obtain ⟨k, rfl⟩ := Int.eq_ofNat_of_zero_le hz.1
    rw [Int.toNat_natCast]
    exact have_any E lv av wv rb (b + 1) k w hr (by omega)
  · rw [if_pos hz]
    exact have_bad rb z w hz
theorem read_all {w0 w : World} {b rb xb : Nat} {xc : Nat → Value} {D E : Dv} (z k : Int) (h : Bo w0 w b rb xb xc D E) :
    Calls Tryd.prog 49 #[.pointer (some ⟨b, 0, none⟩), .int .i64 z, .int .i64 k] w fun e w' => e = .returned (.tuple #[.string (D.rdR z k).1, ev (D.rdR z k).2]) ∧ w' = w := by
  obtain ⟨v, lv, av, wv, hd, hr, hv⟩ := h.st
  unfold Dv.rdR
  by_cases hz : 0 ≤ z ∧ z < 8
  · rw [if_neg (by omega)]
    obtain ⟨y, rfl⟩ := Int.eq_ofNat_of_zero_le hz.1
    rw [Int.toNat_natCast]
    by_cases hk : 0 ≤ k ∧ k < D.cnt y
    · rw [if_neg (by omega)]
      obtain ⟨j, rfl⟩ := Int.eq_ofNat_of_zero_le hk.1
      rw [Int.toNat_natCast]
      exact read_any D v b y j w hd (by omega) (by omega)
    · rw [if_pos hk]
      exact read_miss D v b y k w hd (by omega) hk
  · rw [if_pos hz]
    exact read_bad b z k w hz
theorem rread_all {w0 w : World} {b rb xb : Nat} {xc : Nat → Value} {D E : Dv} (z k : Int) (h : Bo w0 w b rb xb xc D E) (hok : E.ok) :
    Calls Tryd.prog 48 #[.pointer (some ⟨rb, 0, none⟩), .int .i64 z, .int .i64 k] w fun e w' => e = .returned (.tuple #[.string (E.rdR z k).1, .int .i64 (E.rdR z k).2]) ∧ w' = w := by
  obtain ⟨v, lv, av, wv, hd, hr, hv⟩ := h.st
  unfold Dv.rdR
  by_cases hz : 0 ≤ z ∧ z < 8
  · rw [if_neg (by omega)]
    obtain ⟨y, rfl⟩ := Int.eq_ofNat_of_zero_le hz.1
    rw [Int.toNat_natCast]
    have h16 := hok.cnt y (by omega)
    by_cases hk : 0 ≤ k ∧ k < E.cnt y
    · rw [if_neg (by omega)]
      obtain ⟨j, rfl⟩ := Int.eq_ofNat_of_zero_le hk.1
      rw [Int.toNat_natCast]
      exact rread_any E lv av wv rb (b + 1) y j w hr (by omega) (by omega) h16
    · rw [if_pos hk]
      exact rread_miss E lv av wv rb (b + 1) y k w hr (by omega) hk h16
  · rw [if_pos hz]
    exact rread_bad rb z k w hz
theorem get_all {w0 w : World} {b rb xb : Nat} {xc : Nat → Value} {D E : Dv} (z : Int) (h : Bo w0 w b rb xb xc D E) :
    Calls Tryd.prog 51 #[.pointer (some ⟨b, 0, none⟩), .int .i64 z] w fun e w' => e = .returned (.tuple #[.string (D.gtR z).1, ev (D.gtR z).2]) ∧ Bo w0 w' b rb xb xc D E := by
  obtain ⟨v, lv, av, wv, hd, hr, hv⟩ := h.st
  unfold Dv.gtR
  by_cases hz : 0 ≤ z ∧ z < 2
  · rw [if_neg (by omega)]
    obtain ⟨k, rfl⟩ := Int.eq_ofNat_of_zero_le hz.1
    rw [Int.toNat_natCast]
    refine (get_any D v b k w hd (by omega)).mono ?_
    rintro e w' ⟨rfl, hS⟩
    exact ⟨rfl, h.go hS⟩
  · rw [if_pos hz]
    refine (get_bad b z w hz).mono ?_
    rintro e w' ⟨rfl, rfl⟩
    exact ⟨rfl, h⟩
theorem rget_all {w0 w : World} {b rb xb : Nat} {xc : Nat → Value} {D E : Dv} (z : Int) (h : Bo w0 w b rb xb xc D E) (hn : E.ws.length ≤ 1000) :
    Calls Tryd.prog 50 #[.pointer (some ⟨rb, 0, none⟩), .int .i64 z] w fun e w' => e = .returned (.tuple #[.string (E.gtR z).1, .int .i64 (E.gtR z).2]) ∧ w' = w := by
  obtain ⟨v, lv, av, wv, hd, hr, hv⟩ := h.st
  unfold Dv.gtR
  by_cases hz : 0 ≤ z ∧ z < 2
  · rw [if_neg (by omega)]
    obtain ⟨k, rfl⟩ := Int.eq_ofNat_of_zero_le hz.1
    rw [Int.toNat_natCast]
    exact rget_any E lv av wv rb (b + 1) k w hr (by omega) hn
  · rw [if_pos hz]
    exact rget_bad rb z w hz
end Go.Proofs.YtjfhggcjdckfgaaDoor
