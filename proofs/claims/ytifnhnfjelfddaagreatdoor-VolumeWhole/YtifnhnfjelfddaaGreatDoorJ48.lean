import Derived.Test.YtifnhnfjelfddaaGreatDoorJ47
set_option linter.unusedSimpArgs false
set_option linter.unusedVariables false
namespace Go.Proofs.YtifnhnfjelfddaaGreatDoor
set_option maxRecDepth 100000
namespace Vl
open Go.RowKit
open Tw (Tb nul may Same Rt)
section
variable {w0 w w' : World} {vb db cb N : Nat} {kb kt : ByteArray} {S S' : Vs} {v v' : Value} {D D' : Dv} {c n : Int} {k : Nat}
theorem own_vto {e s n : Nat} {x : Value} {xs : List Value} (hN : vb < N ∧ db < N ∧ cb < N) (hr : w.ownsRow N e s x n xs) (he : e ≠ 161) (h : Vol w0 w vb db cb kb kt S v) (hf : Fs (VP vb db cb v) w w') : w'.ownsRow N e s x n xs :=
  ownFs hr hf (fun k hk hv => by
    have h1 := (hr.lt k hk).1
    rcases hv with e1 | e1 | e1 | e1
    · omega
    · omega
    · omega
    · exact he ((Ty.own hr hk).one (Ty.own h.dev.own e1)))
def imgC (iv : Nat → Value) (E : Dv) : List Value := brow 10 (icell iv (txt 500 (E.slot 0)) (txt 500 (E.slot 1)))
def imgs (ivs : Nat → Nat → Value) (E : Nat → Dv) : Nat → List Value
  | 0 => []
  | m + 1 => imgs ivs E m ++ imgC (ivs m) (E m)
structure Hist (w : World) (N m : Nat) (hv iv : Value) (xs : Nat → Value) (X : Nat → Nat → ByteArray) (ivs : Nat → Nat → Value) (E : Nat → Dv) : Prop where
  had : w.ownsRow N 23 1 hv m ((List.range m).map xs)
  row : ∀ k, k < m → w.ownsRow N 9 1 (xs k) 24 (texts (X k) 24)
  ims : w.ownsRow N 61 10 iv m (imgs ivs E m)
  img : ∀ k z, k < m → z < 8 → w.ownsRow N 9 1 (ivs k z) ((E k).sure z) (blks ((E k).blk z) ((E k).sure z))
theorem Hist.since {m : Nat} {hv iv : Value} {xs : Nat → Value} {X : Nat → Nat → ByteArray} {ivs : Nat → Nat → Value} {E : Nat → Dv} (h : Hist w N m hv iv xs X ivs E) (hs : Since w w') : Hist w' N m hv iv xs X ivs E :=
  ⟨ownsRow_since h.had hs, fun k hk => ownsRow_since (h.row k hk) hs, ownsRow_since h.ims hs, fun k z hk hz => ownsRow_since (h.img k z hk hz) hs⟩
theorem Hist.vto {m : Nat} {hv iv : Value} {xs : Nat → Value} {X : Nat → Nat → ByteArray} {ivs : Nat → Nat → Value} {E : Nat → Dv} (h : Hist w N m hv iv xs X ivs E) (hN : vb < N ∧ db < N ∧ cb < N) (hV : Vol w0 w vb db cb kb kt S v) (hf : Fs (VP vb db cb v) w w') : Hist w' N m hv iv xs X ivs E :=
  ⟨own_vto hN h.had (by decide) hV hf, fun k hk => own_vto hN (h.row k hk) (by decide) hV hf, own_vto hN h.ims (by decide) hV hf, fun k z hk hz => own_vto hN (h.img k z hk hz) (by decide) hV hf⟩
structure Past (kb kt : ByteArray) (m : Nat) (E : Nat → Dv) (cs : Nat → Int) (Ts : Nat → Tb) (X : Nat → Nat → ByteArray) : Prop where
  sure : ∀ k, k < m → Sure kb kt (E k) (cs k) (Ts k) (X k)
  rise : ∀ k j, k < j → j < m → cs k < cs j
  ws : ∀ k, k < m → (E k).ws = []
  all : ∀ k z, k < m → z < 8 → (E k).sure z = (E k).cnt z
  ok : ∀ k, k < m → (E k).ok
theorem grown_fs {row : Option Nat} (h : w.grownBy w' row) : Fs (fun k => row = some k) w w' := ⟨h.os, h.tape, h.output, h.size, fun k hk hs => h.block k hk (fun e => hs e.symm)⟩
theorem Vol.fs {P : Nat → Prop} (h : Vol w0 w vb db cb kb kt S v) (hf : Fs P w w') (hP : ∀ k, P k → w0.heap.size ≤ k) (h1 : ¬ P vb) (h2 : ¬ P db) (h3 : ¬ P cb) (h4 : ∀ k, v.ownBlock = some k → ¬ P k) : Vol w0 w' vb db cb kb kt S v :=
  ⟨celFs h.cel hf h1, devFs h.dev hf h2 h4, celFs h.ctr hf h3, h.ne, h.own, h.ty.blk (hf.block vb (h.cel.lt (by omega)) h1), hf.since h.since hP, h.lo⟩
theorem Vol.grown {e s n : Nat} {x : Value} {xs : List Value} (h : Vol w0 w vb db cb kb kt S v) (hN : vb < N ∧ db < N ∧ cb < N) (h0 : w0.heap.size ≤ N) (hr : w.ownsRow N e s x n xs) (he : e ≠ 161) (hg : w.grownBy w' x.ownBlock) : Vol w0 w' vb db cb kb kt S v := by
  have hlt : ∀ k, x.ownBlock = some k → N ≤ k := fun k hk => (hr.lt k hk).1
  refine h.fs (grown_fs hg) (fun k hk => Nat.le_trans h0 (hlt k hk)) (fun q => by have := hlt _ q; omega) (fun q => by have := hlt _ q; omega) (fun q => by have := hlt _ q; omega) (fun k hk q => ?_)
  exact he ((Ty.own hr q).one (Ty.own h.dev.own hk))
theorem own_grown {e s n e' s' n' N' : Nat} {x x' : Value} {xs xs' : List Value} (h : w.ownsRow N' e' s' x' n' xs') (hr : w.ownsRow N e s x n xs) (he : e' ≠ e) (hg : w.grownBy w' x.ownBlock) : w'.ownsRow N' e' s' x' n' xs' :=
  ownFs h (grown_fs hg) (fun k hk q => he ((Ty.own h hk).one (Ty.own hr q)))
theorem own_new (w : World) (cs : Array Value) (e size : Nat) (hs : cs.size = size) (hN : N ≤ w.heap.size) : (w.alloc (.cells cs e)).ownsRow N e size (.slice (some ⟨w.heap.size, 0, none⟩) 1 1) 1 cs.toList :=
  ⟨by simp [hs], .inr ⟨w.heap.size, 1, cs, rfl, hN, heap_alloc_new w _, Nat.le_refl _, by unfold maxLen; omega, by omega, by rw [Nat.one_mul, ← hs]; exact List.take_of_length_le (by simp)⟩⟩
theorem img10 (iv : Nat → Value) (s0 s1 : ByteArray) : (brow 10 (icell iv s0 s1)).toArray = #[iv 0, iv 1, iv 2, iv 3, iv 4, iv 5, iv 6, iv 7, .string s0, .string s1] := rfl
theorem imgC_eq (iv : Nat → Value) (E : Dv) : imgC iv E = [iv 0, iv 1, iv 2, iv 3, iv 4, iv 5, iv 6, iv 7, .string (txt 500 (E.slot 0)), .string (txt 500 (E.slot 1))] := rfl
theorem imgs_congr {ivs ivs' : Nat → Nat → Value} {E E' : Nat → Dv} : ∀ m, (∀ k, k < m → ivs k = ivs' k ∧ E k = E' k) → imgs ivs E m = imgs ivs' E' m
  | 0, _ => rfl
  | m + 1, h => by rw [imgs, imgs, imgs_congr m (fun k hk => h k (by omega)), (h m (by omega)).1, (h m (by omega)).2]
def upd {α : Type} (f : Nat → α) (m : Nat) (x : α) : Nat → α := fun k => if k = m then x else f k
theorem upd_at {α : Type} (f : Nat → α) (m : Nat) (x : α) : upd f m x m = x := by unfold upd; rw [if_pos rfl]
theorem upd_ne {α : Type} (f : Nat → α) (m : Nat) (x : α) {k : Nat} (h : k ≠ m) : upd f m x k = f k := by unfold upd; rw [if_neg h]
theorem map_upd (xs : Nat → Value) (m : Nat) (x : Value) : (List.range (m + 1)).map (upd xs m x) = (List.range m).map xs ++ [x] := by
  rw [List.range_succ, List.map_append]
  congr 1
  · exact List.map_congr_left (fun y hy => upd_ne _ _ _ (by have := List.mem_range.1 hy; omega))
  · simp [upd_at]
theorem Past.push {m : Nat} {E : Nat → Dv} {cs : Nat → Int} {Ts : Nat → Tb} {X : Nat → Nat → ByteArray} (h : Past kb kt m E cs Ts X) {E1 : Dv} {c1 : Int} {T1 : Tb} {X1 : Nat → ByteArray} (hs : Sure kb kt E1 c1 T1 X1) (hw : E1.ws = []) (ha : ∀ z, z < 8 → E1.sure z = E1.cnt z) (ho : E1.ok) (hc : ∀ k, k < m → cs k < c1) : Past kb kt (m + 1) (upd E m E1) (upd cs m c1) (upd Ts m T1) (upd X m X1) := by
  have hcase : ∀ k, k < m + 1 → k = m ∨ (k ≠ m ∧ k < m) := fun k hk => by omega
  refine ⟨fun k hk => ?_, fun k j hkj hj => ?_, fun k hk => ?_, fun k z hk hz => ?_, fun k hk => ?_⟩
  · rcases hcase k hk with rfl | ⟨e, hk'⟩
    · rw [upd_at, upd_at, upd_at, upd_at]; exact hs
    · rw [upd_ne _ _ _ e, upd_ne _ _ _ e, upd_ne _ _ _ e, upd_ne _ _ _ e]; exact h.sure k hk'
  · rw [upd_ne cs m c1 (show k ≠ m by omega)]
    rcases hcase j hj with rfl | ⟨e, hj'⟩
    · rw [upd_at]; exact hc k hkj
    · rw [upd_ne _ _ _ e]; exact h.rise k j hkj hj'
  · rcases hcase k hk with rfl | ⟨e, hk'⟩
    · rw [upd_at]; exact hw
    · rw [upd_ne _ _ _ e]; exact h.ws k hk'
  · rcases hcase k hk with rfl | ⟨e, hk'⟩
    · rw [upd_at]; exact ha z hz
    · rw [upd_ne _ _ _ e]; exact h.all k z hk' hz
  · rcases hcase k hk with rfl | ⟨e, hk'⟩
    · rw [upd_at]; exact ho
    · rw [upd_ne _ _ _ e]; exact h.ok k hk'
theorem results_tmp5 {fn : Func} {t u v x y : Tmp} (h : fn.results = #[.tmp t, .tmp u, .tmp v, .tmp x, .tmp y]) (tmps : Array Value) (P : Program) (w : World) :
    (results fn tmps).run P w = .ok (.tuple #[tmps.getD t undef, tmps.getD u undef, tmps.getD v undef, tmps.getD x undef, tmps.getD y undef]) w := by
  simp [results, h]
theorem infoIm : ∃ i z, Tryz.prog.info? 61 = some i ∧ i.zero = some z ∧ i.size = 10 ∧ i.bytes = 224 ∧ z.cells.size = 10 := by
  refine ⟨_, _, rfl, rfl, ?_, ?_, ?_⟩ <;> kernel_rfl
end
set_option maxHeartbeats 4000000 in
theorem laid_any (l : List Stp) (lv : Value) (w : World) (hl : Sts w lv l) (hf : few12 l) (hT : Sm.Tab w) :
    Calls Tryz.prog 10 #[lv] w fun e w' => ∃ (vb db cb N : Nat) (S : Vs) (v hv iv : Value) (xs : Nat → Value) (X : Nat → Nat → ByteArray) (ivs : Nat → Nat → Value) (E : Nat → Dv) (cs : Nat → Int) (Ts : Nat → Tb),
      e = .returned (.tuple #[.pointer (some ⟨db, 0, none⟩), .pointer (some ⟨cb, 0, none⟩), .pointer (some ⟨vb, 0, none⟩), hv, iv]) ∧ Vol w w' vb db cb (kbOf sec) (ktOf sec) S v ∧ Good (kbOf sec) (ktOf sec) S 1000 ∧ Ph S 120 ∧ (vb < N ∧ db < N ∧ cb < N) ∧
      Hist w' N (l.length + 1) hv iv xs X ivs E ∧ Past (kbOf sec) (ktOf sec) (l.length + 1) E cs Ts X ∧ E l.length = S.D ∧ X l.length = S.X ∧ cs l.length = S.c ∧ Ts l.length = S.T := by
  obtain ⟨la, lc, rfl⟩ := hl.form
  have HL : Hid (Sts w (.slice la l.length lc) l) := hl
  have HF : Hid (few12 l) := hf
  have HT : Hid (Sm.Tab w) := hT
  have HB : Hid (Base w (kbOf sec) (ktOf sec)) := ⟨hT, keyOf_size _ _, keyOf_size _ _⟩
  have h12 : l.length ≤ 12 := hf.1
  clear hT hl hf
  generalize hkb : kbOf sec = kb at *
  generalize hkt : ktOf sec = kt at *
  have HK : Hid (kbOf sec = kb ∧ ktOf sec = kt) := ⟨hkb, hkt⟩
  clear hkb hkt
  obtain ⟨g0, p0, t0⟩ := fresh_good kb kt
  have HG0 : Hid (Good kb kt (fresh dv0 0) 0 ∧ Ph (fresh dv0 0) 0 ∧ Told kb kt dv0 0 Tb.zero (fun _ => ⟨#[]⟩)) := ⟨g0, p0, t0⟩
  clear g0 p0 t0
  go_enter Tryz.func10, Tryz.ntmps10
  go_wp2_with fail
  refine (new_any _).mono ?_
  rintro e w1 ⟨rfl, rfl⟩
  go_wp2_with fail
  have hdc := dc_new w
  generalize (w.alloc (.cells Tryz.zeroCells84 84)).alloc (.cells #[.int .i64 0] 65) = w1 at *
  have HN1 : Hid (w.heap.size + 1 < w1.heap.size) := hdc.ctr.lt (by omega)
  generalize w.heap.size + 1 = cb at *
  have HLT : Hid (w.heap.size < w1.heap.size) := hdc.dev.lt
  generalize w.heap.size = db at *
  have HDC : Hid (DC w w1 db cb dv0 0 (.slice none 0 0)) := hdc
  clear hdc
  have hop : Calls Tryz.prog 19 #[.pointer (some ⟨db, 0, none⟩), .pointer (some ⟨cb, 0, none⟩), .string ⟨#[48, 49, 50, 51, 52, 53, 54, 55, 56, 57, 97, 98, 99, 100, 101, 102]⟩] w1 fun e w' => ∃ vb v', e = .returned (.tuple #[.pointer (some ⟨vb, 0, none⟩), .nilIface]) ∧ Vol w w' vb db cb kb kt (fresh dv0 0) v' := by
    obtain ⟨e1, e2⟩ := HK.out
    subst e1 e2
    refine (open_ok (s := sec) rfl HT.out (by omega) HDC.out HG0.out.2.2 HG0.out.1.low).mono ?_
    rintro e w' ⟨vb, S', v', rfl, _, h1, ⟨_, h2, _, h3, h4, h5, _⟩, _, _⟩
    rw [h4 rfl] at h1
    exact ⟨vb, v', rfl, h1⟩
  refine hop.mono ?_
  clear hop
  rintro e w2 ⟨vb, v0, rfl, hv0⟩
  have HV0 : Hid (Vol w w2 vb db cb kb kt (fresh dv0 0) v0) := hv0
  clear hv0
  go_wp2_with fail
  refine (all_any HV0.out).mono ?_
  rintro e w3 ⟨x0, rfl, hx0, hs3⟩
  obtain ⟨xa, xn, xc, rfl, rfl⟩ := own_slice hx0
  have HX0 : Hid (w3.ownsRow w2.heap.size 9 1 (.slice xa 24 xc) 24 (texts (fresh dv0 0).X 24)) := hx0
  have HS3 : Hid (Since w2 w3) := hs3
  clear hx0 hs3
  go_wp2_with fail
  refine (image_any dv0 v0 db _ (HV0.out.dev.since (HS3.out.alloc _))).mono ?_
  rintro e w4 ⟨iv0, he, hi0, hs4⟩
  rw [img10] at he
  subst he
  have HI0 : Hid (∀ z, z < 8 → w4.ownsRow (w3.alloc (.cells #[.slice xa 24 xc] 23)).heap.size 9 1 (iv0 z) (dv0.sure z) (blks (dv0.blk z) (dv0.sure z))) := hi0
  have HS4 : Hid (Since (w3.alloc (.cells #[.slice xa 24 xc] 23)) w4) := hs4
  clear hi0 hs4
  have HNN : Hid (vb < w2.heap.size ∧ db < w2.heap.size ∧ cb < w2.heap.size) := ⟨HV0.out.cel.lt (by omega), HV0.out.dev.lt, HV0.out.ctr.lt (by omega)⟩
  have HN0 : Hid (w.heap.size ≤ w2.heap.size) := HV0.out.since.size
  have hN34 : w2.heap.size ≤ w4.heap.size := by
    have h1 := HS3.out.size
    have h2 := HS4.out.size
    simp at h2
    omega
  have HH : Hid (Hist (w4.alloc (.cells #[iv0 0, iv0 1, iv0 2, iv0 3, iv0 4, iv0 5, iv0 6, iv0 7, .string (txt 500 (dv0.slot 0)), .string (txt 500 (dv0.slot 1))] 61)) w2.heap.size 1 (.slice (some ⟨w3.heap.size, 0, none⟩) 1 1) (.slice (some ⟨w4.heap.size, 0, none⟩) 1 1) (fun _ => .slice xa 24 xc) (fun _ => (fresh dv0 0).X) (fun _ => iv0) (fun _ => dv0)) := by
    have h1 := own_new (N := w2.heap.size) w3 #[.slice xa 24 xc] 23 1 rfl HS3.out.size
    have hs5 := (Since.refl w4).alloc (.cells #[iv0 0, iv0 1, iv0 2, iv0 3, iv0 4, iv0 5, iv0 6, iv0 7, .string (txt 500 (dv0.slot 0)), .string (txt 500 (dv0.slot 1))] 61)
    refine ⟨ownsRow_since (ownsRow_since h1 HS4.out) hs5, fun k hk => ownsRow_since (ownsRow_since HX0.out ((Since.refl w3).alloc _)) (HS4.out.trans hs5), ?_, fun k z hk hz => ownsRow_since (ownsRow_base (HI0.out z hz) (by have := HS3.out.size; simp; omega)) hs5⟩
    exact own_new (N := w2.heap.size) w4 _ 61 10 rfl hN34
  have HV5 : Hid (Vol w (w4.alloc (.cells #[iv0 0, iv0 1, iv0 2, iv0 3, iv0 4, iv0 5, iv0 6, iv0 7, .string (txt 500 (dv0.slot 0)), .string (txt 500 (dv0.slot 1))] 61)) vb db cb kb kt (fresh dv0 0) v0) := HV0.out.go (((HS3.out.alloc _).trans HS4.out).alloc _)
  have HP : Hid (Past kb kt 1 (fun _ => dv0) (fun _ => 0) (fun _ => Tb.zero) (fun _ => (fresh dv0 0).X)) := ⟨fun k hk => sure_zero kb kt, fun k j hkj hj => by omega, fun k hk => rfl, fun k z hk hz => rfl, fun k hk => dv0_ok⟩
  go_wp2_with fail
  generalize w4.alloc (.cells #[iv0 0, iv0 1, iv0 2, iv0 3, iv0 4, iv0 5, iv0 6, iv0 7, .string (txt 500 (dv0.slot 0)), .string (txt 500 (dv0.slot 1))] 61) = w5 at *
  generalize w2.heap.size = N at *
  generalize (Value.slice (some ⟨w3.heap.size, 0, none⟩) 1 1) = hv0 at *
  generalize (Value.slice (some ⟨w4.heap.size, 0, none⟩) 1 1) = im0 at *
  clear HX0 HI0 HS3 HS4 HV0 HDC HLT HN1 hN34
  obtain ⟨iJ, hJ1, hJ2, hJ3, hJ4⟩ := info_parts' infoL
  have HJ : Hid (Tryz.prog.info? 23 = some iJ ∧ iJ.zero = some (.slice none 0 0) ∧ iJ.size = 1 ∧ iJ.bytes = 24) := ⟨hJ1, hJ2, hJ3, hJ4⟩
  obtain ⟨iI, zI, hI1, hI2, hI3, hI4, hI5⟩ := infoIm
  have HI : Hid (Tryz.prog.info? 61 = some iI ∧ iI.zero = some zI ∧ iI.size = 10 ∧ iI.bytes = 224 ∧ zI.cells.size = 10) := ⟨hI1, hI2, hI3, hI4, hI5⟩
  clear hJ1 hJ2 hJ3 hJ4 hI1 hI2 hI3 hI4 hI5
  go_loopw [13, 11, 12] (fun i hv iv wr => ∃ (m : Nat) (S : Vs) (v : Value) (xs : Nat → Value) (X : Nat → Nat → ByteArray) (ivs : Nat → Nat → Value) (E : Nat → Dv) (cs : Nat → Int) (Ts : Nat → Tb), m ≤ l.length ∧ i = .int .i64 m ∧ Vol w wr vb db cb kb kt S v ∧ Good kb kt S (11 * m) ∧ Ph S (10 * m) ∧ Hist wr N (m + 1) hv iv xs X ivs E ∧ Past kb kt (m + 1) E cs Ts X ∧ (E m = S.D ∧ X m = S.X ∧ cs m = S.c ∧ Ts m = S.T)) (fun i _ _ _ => l.length - (intOf i).toNat)
  case atStart => exact ⟨0, fresh dv0 0, v0, _, _, _, _, _, _, by omega, rfl, HV5.out, by simpa using HG0.out.1, by simpa using HG0.out.2.1, HH.out, HP.out, rfl, rfl, rfl, rfl⟩
  case round =>
    obtain ⟨m, S, v, xs, X, ivs, E, cs, Ts, hm, rfl, hV, hG, hPh, hH, hPa, hE4⟩ := hrel
    have HV : Hid (Vol w wr vb db cb kb kt S v) := hV
    have HG : Hid (Good kb kt S (11 * m) ∧ Ph S (10 * m)) := ⟨hG, hPh⟩
    have HHi : Hid (Hist wr N (m + 1) u11 u12 xs X ivs E) := hH
    have HPa : Hid (Past kb kt (m + 1) E cs Ts X ∧ E m = S.D ∧ X m = S.X ∧ cs m = S.c ∧ Ts m = S.T) := ⟨hPa, hE4⟩
    clear hV hG hPh hH hPa hE4
    by_cases hlt : m < l.length
    · have hlt2 : (m : Int) < l.length := by omega
      have hE : Hid (l[m]? = some l[m]) := List.getElem?_eq_getElem hlt
      have HSH : Hid (l[m].short) := HF.out.2 _ (List.getElem_mem hlt)
      generalize l[m] = s at *
      obtain ⟨k1, o1, tv, rfl, hsl, p0, p1⟩ := HL.out.at_ hE.out
      have HSL : Hid (SlA w w.heap.size tv s.tx.length (tlf s.tx)) := hsl
      obtain ⟨ta, tc, rfl, _⟩ := hsl
      have q0 := (HV.out.since.cell (p := ⟨k1, o1 + m * 2, none⟩) (World.block_lt_of_cell? w _ p0)).trans p0
      have q1 := (HV.out.since.cell (p := ⟨k1, o1 + m * 2 + 1, none⟩) (World.block_lt_of_cell? w _ p1)).trans p1
      clear p0 p1
      go_wp2_with fail
      refine (kwrite_any HB.out s _ HSL.out HSH.out HG.out.1 (by omega) HG.out.2 (by omega) HV.out).mono ?_
      rintro e wA ⟨rfl, S1, ⟨v1, hv1, hf1, hn1⟩, hg1, hp1, hc1⟩
      have HV1 : Hid (Vol w wA vb db cb kb kt S1 v1) := hv1
      have HG1 : Hid (Good kb kt S1 (11 * m + 10) ∧ Ph S1 (10 * m + 10) ∧ S.c ≤ S1.c) := ⟨hg1, hp1, hc1⟩
      have HH1 : Hid (Hist wA N (m + 1) u11 u12 xs X ivs E) := HHi.out.vto HNN.out HV.out hf1
      clear hv1 hf1 hn1 hg1 hp1 hc1 q0 q1
      go_wp2_with fail
      refine (flushG HB.out HG1.out.1 (by omega) HV1.out).mono ?_
      rintro e wB ⟨rfl, v2, hv2, hf2, hn2⟩
      have HH2 : Hid (Hist wB N (m + 1) u11 u12 xs X ivs E) := HH1.out.vto HNN.out HV1.out hf2
      obtain ⟨_, hg2, hp2, _, hc2, _⟩ := flush_ph HG1.out.1 (by omega) HG1.out.2.1
      obtain ⟨hs2, hw2⟩ := flush_sure HG1.out.1 (by omega)
      have hD2 : ∀ z, z < 8 → (S1.flush kt).2.D.sure z = (S1.flush kt).2.D.cnt z := fun z hz => by
        rw [flush_on HG1.out.1.on kt]
        exact (synced_facts _).2.2.2.2 z hz
      generalize (S1.flush kt).2 = S2 at *
      have HV2 : Hid (Vol w wB vb db cb kb kt S2 v2) := hv2
      have HG2 : Hid (Good kb kt S2 (11 * m + 10 + 1) ∧ Ph S2 (10 * m + 10) ∧ S2.c = S1.c + 1 ∧ Sure kb kt S2.D S2.c S2.T S2.X ∧ S2.D.ws = [] ∧ ∀ z, z < 8 → S2.D.sure z = S2.D.cnt z) := ⟨hg2, hp2, hc2, hs2, hw2, hD2⟩
      clear hv2 hf2 hn2 hg2 hp2 hc2 hs2 hw2 hD2 HH1 HV1
      go_wp2_with fail
      refine (all_any HV2.out).mono ?_
      rintro e wC ⟨x1, rfl, hx1, hsC⟩
      obtain ⟨ya, yn, yc, rfl, rfl⟩ := own_slice hx1
      have HNB : Hid (N ≤ wB.heap.size) := by
        show N ≤ wB.heap.size
        rcases HH2.out.had.2 with ⟨_, h0⟩ | ⟨g, c, u, _, h1, h2, _⟩
        · omega
        · have := (Array.getElem?_eq_some_iff.1 h2).1; omega
      have HX1 : Hid (wC.ownsRow N 9 1 (.slice ya 24 yc) 24 (texts S2.X 24)) := ownsRow_base hx1 HNB.out
      have HSC : Hid (Since wB wC) := hsC
      have HHC : Hid (Hist (wC.alloc (.cells #[.slice ya 24 yc] 23)) N (m + 1) u11 u12 xs X ivs E) := HH2.out.since (hsC.alloc _)
      have HVC : Hid (Vol w (wC.alloc (.cells #[.slice ya 24 yc] 23)) vb db cb kb kt S2 v2) := HV2.out.go (hsC.alloc _)
      have HXC : Hid ((wC.alloc (.cells #[.slice ya 24 yc] 23)).ownsRow N 9 1 (.slice ya 24 yc) 24 (texts S2.X 24)) := ownsRow_since HX1.out ((Since.refl wC).alloc _)
      have hNC : N ≤ (wC.alloc (.cells #[.slice ya 24 yc] 23)).heap.size := by have h1 := HNB.out; have h2 := hsC.size; simp; omega
      clear hx1 hsC HH2 HX1 HV2
      go_wp2_with (at_builtin; refine wpList_append_own _ (by rfl) _ _ _ (by rfl) N 23 iJ _ 1 24 Tryz.underlying33 HJ.out.1 HJ.out.2.1 HJ.out.2.2.1 HJ.out.2.2.2 (by rfl) (by decide) _ (m + 1) ((List.range (m + 1)).map xs) (by rfl) HHC.out.had ⟨wC.heap.size, 0, none⟩ 1 1 [.slice ya 24 yc] (by rfl) (by rfl) (World.news_of_block (heap_alloc_new wC _)) (by simp [Value.oneCell']) (by unfold maxLen; omega) (by omega) hNC ?_; intro x' w3 hown1 hgrow _)
      have HVD : Hid (Vol w w3 vb db cb kb kt S2 v2) := HVC.out.grown HNN.out HN0.out HHC.out.had (by decide) hgrow
      have HND : Hid (N ≤ w3.heap.size) := Nat.le_trans hNC hgrow.size
      have HXD : Hid (w3.ownsRow N 9 1 (.slice ya 24 yc) 24 (texts S2.X 24)) := own_grown HXC.out HHC.out.had (by decide) hgrow
      have HRD : Hid (∀ k, k < m + 1 → w3.ownsRow N 9 1 (xs k) 24 (texts (X k) 24)) := fun k hk => own_grown (HHC.out.row k hk) HHC.out.had (by decide) hgrow
      have HMD : Hid (w3.ownsRow N 61 10 u12 (m + 1) (imgs ivs E (m + 1))) := own_grown HHC.out.ims HHC.out.had (by decide) hgrow
      have HGD : Hid (∀ k z, k < m + 1 → z < 8 → w3.ownsRow N 9 1 (ivs k z) ((E k).sure z) (blks ((E k).blk z) ((E k).sure z))) := fun k z hk hz => own_grown (HHC.out.img k z hk hz) HHC.out.had (by decide) hgrow
      have HOD : Hid (w3.ownsRow N 23 1 x' (m + 1 + 1) ((List.range (m + 1 + 1)).map (upd xs (m + 1) (.slice ya 24 yc)))) := by
        show w3.ownsRow _ _ _ _ _ _
        rw [map_upd]
        exact hown1
      clear hown1 hgrow hNC HHC HXC HVC HSC
      refine (image_any S2.D v2 db _ HVD.out.dev).mono ?_
      rintro e w6 ⟨iv1, he, hi1, hs6⟩
      rw [img10] at he
      subst he
      have HI1 : Hid (∀ z, z < 8 → w6.ownsRow N 9 1 (iv1 z) (S2.D.sure z) (blks (S2.D.blk z) (S2.D.sure z))) := fun z hz => ownsRow_base (hi1 z hz) HND.out
      have hone : ∀ u ∈ [iv1 0, iv1 1, iv1 2, iv1 3, iv1 4, iv1 5, iv1 6, iv1 7, .string (txt 500 (S2.D.slot 0)), .string (txt 500 (S2.D.slot 1))], u.oneCell' = true := fun u hu => brow_one 10 _ (icell_one HI1.out (txt 500 (S2.D.slot 0)) (txt 500 (S2.D.slot 1))) u hu
      have HS7 : Hid (Since w3 (w6.alloc (.cells #[iv1 0, iv1 1, iv1 2, iv1 3, iv1 4, iv1 5, iv1 6, iv1 7, .string (txt 500 (S2.D.slot 0)), .string (txt 500 (S2.D.slot 1))] 61))) := hs6.alloc _
      have HS67 : Hid (Since w6 (w6.alloc (.cells #[iv1 0, iv1 1, iv1 2, iv1 3, iv1 4, iv1 5, iv1 6, iv1 7, .string (txt 500 (S2.D.slot 0)), .string (txt 500 (S2.D.slot 1))] 61))) := (Since.refl w6).alloc _
      have HM7 : Hid ((w6.alloc (.cells #[iv1 0, iv1 1, iv1 2, iv1 3, iv1 4, iv1 5, iv1 6, iv1 7, .string (txt 500 (S2.D.slot 0)), .string (txt 500 (S2.D.slot 1))] 61)).ownsRow N 61 10 u12 (m + 1) (imgs ivs E (m + 1))) := ownsRow_since HMD.out HS7.out
      have hN7 : N ≤ (w6.alloc (.cells #[iv1 0, iv1 1, iv1 2, iv1 3, iv1 4, iv1 5, iv1 6, iv1 7, .string (txt 500 (S2.D.slot 0)), .string (txt 500 (S2.D.slot 1))] 61)).heap.size := Nat.le_trans HND.out HS7.out.size
      clear hi1 hs6
      go_wp2_with (at_builtin; refine wpList_append_own _ (by rfl) _ _ _ (by rfl) N 61 iI _ 10 224 Tryz.underlying34 HI.out.1 HI.out.2.1 HI.out.2.2.1 HI.out.2.2.2.1 HI.out.2.2.2.2 (by decide) _ (m + 1) (imgs ivs E (m + 1)) (by rfl) HM7.out ⟨w6.heap.size, 0, none⟩ 1 1 [iv1 0, iv1 1, iv1 2, iv1 3, iv1 4, iv1 5, iv1 6, iv1 7, .string (txt 500 (S2.D.slot 0)), .string (txt 500 (S2.D.slot 1))] (by rfl) (by rfl) (World.news_of_block (heap_alloc_new w6 _)) hone (by unfold maxLen; omega) (by omega) hN7 ?_; intro x'' w8 hown2 hgrow2 _)
      have HV8 : Hid (Vol w w8 vb db cb kb kt S2 v2) := (HVD.out.go HS7.out).grown HNN.out HN0.out HM7.out (by decide) hgrow2
      have HH8 : Hid (Hist w8 N (m + 1 + 1) x' x'' (upd xs (m + 1) (.slice ya 24 yc)) (upd X (m + 1) S2.X) (upd ivs (m + 1) iv1) (upd E (m + 1) S2.D)) := by
        refine ⟨own_grown (ownsRow_since HOD.out HS7.out) HM7.out (by decide) hgrow2, fun k hk => ?_, ?_, fun k z hk hz => ?_⟩
        · by_cases e : k = m + 1
          · subst e
            rw [upd_at, upd_at]
            exact own_grown (ownsRow_since HXD.out HS7.out) HM7.out (by decide) hgrow2
          · rw [upd_ne _ _ _ e, upd_ne _ _ _ e]
            exact own_grown (ownsRow_since (HRD.out k (by omega)) HS7.out) HM7.out (by decide) hgrow2
        · rw [imgs, upd_at, upd_at, imgs_congr (m + 1) (fun k hk => ⟨upd_ne ivs (m + 1) iv1 (show k ≠ m + 1 by omega), upd_ne E (m + 1) S2.D (show k ≠ m + 1 by omega)⟩), imgC_eq]
          exact hown2
        · by_cases e : k = m + 1
          · subst e
            rw [upd_at, upd_at]
            exact own_grown (ownsRow_since (HI1.out z hz) HS67.out) HM7.out (by decide) hgrow2
          · rw [upd_ne _ _ _ e, upd_ne _ _ _ e]
            exact own_grown (ownsRow_since (HGD.out k z (by omega) hz) HS7.out) HM7.out (by decide) hgrow2
      clear hown2 hgrow2 hone hN7
      go_wp2_with fail
      go_roundw
      case rel =>
        obtain ⟨g1, g2, g3, g4, g5, g6⟩ := HG2.out
        obtain ⟨pa, e1, e2, e3, e4⟩ := HPa.out
        have hcc := HG1.out.2.2
        refine ⟨m + 1, S2, v2, _, _, _, _, upd cs (m + 1) S2.c, upd Ts (m + 1) S2.T, by omega, by go_num, HV8.out, g1.le (by omega), g2.le (by omega), HH8.out, pa.push g4 g5 g6 HV8.out.dev.ok (fun k hk => ?_), upd_at _ _ _, upd_at _ _ _, upd_at _ _ _, upd_at _ _ _⟩
        by_cases e : k = m
        · subst e; rw [e3]; omega
        · have := pa.rise k m (by omega) (by omega); rw [e3] at this; omega
      case measure => simp [intOf]; omega
    · have hme : m = l.length := by omega
      subst hme
      go_wp2_with fail
      (try simp only [Exit.inBlock, Exit.then])
      refine bodyPost_ret (results_tmp5 rfl _ _ _) rfl ?_
      obtain ⟨pa, e1, e2, e3, e4⟩ := HPa.out
      exact ⟨vb, db, cb, N, S, v, _, _, xs, X, ivs, E, cs, Ts, rfl, HV.out, HG.out.1.le (by omega), HG.out.2.le (by omega), HNN.out, HHi.out, pa, e1, e2, e3, e4⟩
end Vl
end Go.Proofs.YtifnhnfjelfddaaGreatDoor
