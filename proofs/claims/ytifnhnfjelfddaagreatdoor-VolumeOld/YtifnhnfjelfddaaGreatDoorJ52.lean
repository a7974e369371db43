import Derived.Test.YtifnhnfjelfddaaGreatDoorJ49
import Derived.Test.YtifnhnfjelfddaaGreatDoorJ50
import Derived.Test.YtifnhnfjelfddaaGreatDoorJ51
set_option linter.unusedSimpArgs false
set_option linter.unusedVariables false
section
namespace Go.Proofs.YtifnhnfjelfddaaGreatDoor
set_option maxRecDepth 100000
namespace Vl
open Go.RowKit
open Tw (Tb nul may Same Rt)
theorem eq24_any (x y : Value) (X Y : Nat → ByteArray) (w : World) {N M : Nat} (hN : 0 < N) (hM : 0 < M) (hx : w.ownsRow N 9 1 x 24 (texts X 24)) (hy : w.ownsRow M 9 1 y 24 (texts Y 24)) (he : ∀ i, i < 24 → X i = Y i) :
    Calls Tryz.prog 23 #[x, y] w fun e w' => e = .returned (.bool true) ∧ Since w w' :=
  eq_any 0 24 x y X Y w (Sl.of_own hx hN (fun j hj => brow_get 24 _ j hj)) (Sl.of_own hy hM (fun j hj => brow_get 24 _ j hj)) he (by omega)
end Vl
end Go.Proofs.YtifnhnfjelfddaaGreatDoor
end
section
namespace Go.Proofs.YtifnhnfjelfddaaGreatDoor
set_option maxRecDepth 100000
namespace Vl
open Go.RowKit
open Tw (Tb nul may Same Rt)
end Vl
end Go.Proofs.YtifnhnfjelfddaaGreatDoor
end
section
namespace Go.Proofs.YtifnhnfjelfddaaGreatDoor
set_option maxRecDepth 100000
namespace Vl
open Go.RowKit
open Tw (Tb nul may Same Rt)
def layE (D E : Dv) : Dv := D.laidBy E.sure (fun z j => txt 128 (E.blk z j)) (txt 500 (E.slot 0)) (txt 500 (E.slot 1))
theorem txt_txt (n : Nat) (f : Nat → UInt8) : txt n (sb (txt n f)) = txt n f := txt_congr (fun i hi => sb_txt n f i hi)
theorem layE_slot (D E : Dv) (k : Nat) (hk : k < 2) : (layE D E).slotBy k (fun _ => true) = sb (txt 500 (E.slot k)) := by
  rw [slotBy_nil _ rfl]
  have : k = 0 ∨ k = 1 := by omega
  rcases this with rfl | rfl <;> rfl
theorem layE_low {kb kt : ByteArray} {D E : Dv} {c : Int} {T : Tb} {X : Nat → ByteArray} (h : Sure kb kt E c T X) : low (layE D E) c := fun k hk => by
  rw [layE_slot D E k hk, txt_txt]
  exact h.2 k hk
theorem layE_cnt (D E : Dv) (he : E.ok) (z : Nat) (hz : z < 8) : (layE D E).cnt z = E.sure z := by
  show (if z < 8 then min (E.sure z) 16 else D.cnt z) = _
  rw [if_pos hz]
  have h1 := he.sure z hz
  have h2 := he.cnt z hz
  omega
theorem layE_blk (D E : Dv) (he : E.ok) (z j i : Nat) (hz : z < 8) (hj : j < E.sure z) (hi : i < 128) : (layE D E).blk z j i = E.blk z j i := by
  have h1 := he.sure z hz
  have h2 := he.cnt z hz
  have e : (layE D E).blk z = laidBlk (fun j => txt 128 (E.blk z j)) (min (E.sure z) 16) := by
    show (if z < 8 then laidBlk (fun j => txt 128 (E.blk z j)) (min (E.sure z) 16) else D.blk z) = _
    rw [if_pos hz]
  rw [e]
  unfold laidBlk
  rw [if_pos (by omega), sb_txt _ _ _ hi]
theorem layE_told {kb kt : ByteArray} {D E : Dv} {c : Int} {T : Tb} {X : Nat → ByteArray} (h : Sure kb kt E c T X) (he : E.ok) : Told kb kt (layE D E) c T X := by
  rcases h.1 with h1 | ⟨h0, hr, hc, hsl, hl, hx⟩
  · exact Or.inl h1
  · refine Or.inr ⟨h0, hr, hc, fun j hj => ?_, fun i hi => ?_, hx⟩
    · rw [layE_slot D E _ (by omega), sb_txt _ _ _ hj]
      exact hsl j hj
    · rcases hl i hi with h2 | ⟨h2, h3, h4, h5⟩
      · exact Or.inl h2
      · have hz8 : (T.zone i).toNat < 8 := by have := h2.2.1; have := h2.2.2.1; omega
        have ho := h2.2.2.2.1
        refine Or.inr ⟨h2, by rw [layE_cnt D E he _ hz8]; exact h3, h4, fun j hj => ?_⟩
        rw [layE_blk D E he _ _ _ hz8 (by omega) hj]
        exact h5 j hj
theorem imgs_get (ivs : Nat → Nat → Value) (E : Nat → Dv) (j : Nat) (hj : j < 10) (k : Nat) : ∀ m, k < m → (imgs ivs E m)[k * 10 + j]? = (imgC (ivs k) (E k))[j]?
  | 0, h => by omega
  | m + 1, h => by
    rw [imgs]
    by_cases e : k = m
    · subst e
      rw [List.getElem?_append_right (by rw [imgs_len]; omega), imgs_len, show k * 10 + j - k * 10 = j by omega]
    · rw [List.getElem?_append_left (by rw [imgs_len]; omega)]
      exact imgs_get ivs E j hj k m (by omega)
theorem ims_range {w : World} {N m : Nat} {a : Option Addr} {n c : Nat} {ivs : Nat → Nat → Value} {E : Nat → Dv} (h : w.ownsRow N 61 10 (.slice a n c) m (imgs ivs E m)) (k : Nat) (hk : k < m) : ∃ g o, a = some ⟨g, o, none⟩ ∧ N ≤ g ∧ w.rangeAt g (o + k * 10) (imgC (ivs k) (E k)) := by
  rcases h.2 with ⟨_, h0⟩ | ⟨g, cap, cur, he, hg, hh, h1, h2, h3, h4⟩
  · omega
  · injection he with e1 e2 e3
    subst e1
    refine ⟨g, 0, rfl, hg, fun j v hv => ?_⟩
    have hj : j < 10 := by have := (List.getElem?_eq_some_iff.1 hv).1; rw [imgC_eq] at this; simpa using this
    have e := imgs_get ivs E j hj k m hk
    rw [hv, ← h4, List.getElem?_take_of_lt (by omega), Array.getElem?_toList] at e
    rw [Nat.zero_add]
    simp [World.cell?, hh, e]
theorem img_of {w : World} {N b : Nat} {iv : Nat → Value} {E : Dv} (h : ∀ z, z < 8 → w.ownsRow N 9 1 (iv z) (E.sure z) (blks (E.blk z) (E.sure z))) (hb : b < N) : Img w b iv E.sure (fun z j => txt 128 (E.blk z j)) where
  row z hz := by
    obtain ⟨a, c, h1, h2⟩ := own_slice2 (h z hz)
    obtain ⟨a', c', h3, h4⟩ := Sl.of_own (b := b) (f := fun j => .string (txt 128 (E.blk z j))) (h z hz) hb (fun j hj => blks_get _ _ j hj)
    rw [h1] at h3
    injection h3 with e1 _ e3
    subst e1 e3
    exact ⟨a, c, h1, h2, h4⟩
set_option maxHeartbeats 4000000 in
theorem old_go (w : World) (l : List Stp) (lv : Value) (kk : Int) (hl : Sts w lv l) (hT : Sm.Tab w) (hE : Et w) :
    Calls Tryz.prog 6 #[lv, .int .i64 kk] w fun e w' => e = .returned (.bool true) ∧ Since w w' := by
  obtain ⟨la, lc, rfl⟩ := hl.form
  have HL : Hid (Sts w (.slice la l.length lc) l) := hl
  have HT : Hid (Sm.Tab w) := hT
  have HE : Hid (Et w) := hE
  clear hT hl hE
  go_enter Tryz.func6, Tryz.ntmps6
  go_wp2_with fail
  refine (steps_any l _ _ HL.out).mono ?_
  rintro e w1 ⟨hx, hs1⟩
  have HS1 : Hid (Since w w1) := hs1
  clear hs1
  rcases hx with ⟨rfl, hf⟩ | rfl
  case inr =>
    go_wp2_with fail
    go_ret
    exact ⟨rfl, HS1.out⟩
  have HF : Hid (few12 l) := hf
  clear hf
  go_wp2_with fail
  refine (kept_any _ (HT.out.since HS1.out)).mono ?_
  rintro e w2 ⟨rfl, hs2⟩
  have HS2 : Hid (Since w w2) := HS1.out.trans hs2
  clear hs2
  go_wp2_with fail
  refine (laid_any l _ _ (HL.out.since HS2.out) HF.out (HT.out.since HS2.out)).mono ?_
  rintro e w3 ⟨vb, db, cb, N, S, v, hv, iv, xs, X, ivs, E, cs, Ts, rfl, hV, hG, hPh, hN, hH, hPa, hE4⟩
  have HV : Hid (Vol w2 w3 vb db cb (kbOf sec) (ktOf sec) S v) := hV
  have HG : Hid (Good (kbOf sec) (ktOf sec) S 1000 ∧ Ph S 120) := ⟨hG, hPh⟩
  have HB : Hid (Base w2 (kbOf sec) (ktOf sec)) := ⟨HT.out.since HS2.out, keyOf_size _ _, keyOf_size _ _⟩
  have HN : Hid (vb < N ∧ db < N ∧ cb < N) := hN
  have HH : Hid (Hist w3 N (l.length + 1) hv iv xs X ivs E) := hH
  have HPa : Hid (Past (kbOf sec) (ktOf sec) (l.length + 1) E cs Ts X ∧ E l.length = S.D ∧ X l.length = S.X ∧ cs l.length = S.c ∧ Ts l.length = S.T) := ⟨hPa, hE4⟩
  clear hV hG hPh hN hH hPa hE4
  obtain ⟨ia, ic, rfl, hic⟩ := own_slice2 HH.out.ims
  obtain ⟨ha, hc, rfl, hhc⟩ := own_slice2 HH.out.had
  have hm0 := HF.out.1
  generalize hM : l.length + 1 = M at *
  have HM : Hid (l.length + 1 = M ∧ M ≤ 13) := ⟨hM, by omega⟩
  clear hM hic hhc hm0
  generalize hkb : kbOf sec = kb at *
  generalize hkt : ktOf sec = kt at *
  have HK : Hid (kbOf sec = kb ∧ ktOf sec = kt) := ⟨hkb, hkt⟩
  clear hkb hkt
  go_wp2_with fail
  refine (pickN_any M kk w3 (by have := HM.out.1; omega) (by have := HM.out.2; omega)).mono ?_
  rintro e w' ⟨rfl, rfl⟩
  have hpk : pkN M kk < M := pkN_lt M kk (by have := HM.out.1; omega)
  generalize pkN M kk = i at *
  have hpk2 : (i : Int) < M := by omega
  obtain ⟨g, o, rfl, hgN, hrange⟩ := ims_range HH.out.ims i hpk
  have hL : (imgC (ivs i) (E i)).length = 10 := by rw [imgC_eq]; rfl
  have HIC : Hid (imgC (ivs i) (E i) = brow 10 (icell (ivs i) (txt 500 ((E i).slot 0)) (txt 500 ((E i).slot 1)))) := rfl
  generalize imgC (ivs i) (E i) = ic10 at *
  go_wp2_with (refine wpList_load_mid (by rfl) 61 _ (by rfl) g (o + i * 10) (by rfl) _ _ hrange Tryz.underlying61 (by rfl) (by rw [hL]; kernel_rfl) ?_)
  rw [HIC.out]
  have HIM : Hid (Img w' db (ivs i) (E i).sure (fun z j => txt 128 ((E i).blk z j))) := img_of (fun z hz => HH.out.img i z hpk hz) HN.out.2.1
  clear hrange hL
  refine (lay_any S.D v db (ivs i) (txt 500 ((E i).slot 0)) (txt 500 ((E i).slot 1)) (E i).sure (fun z j => txt 128 ((E i).blk z j)) w' HV.out.dev HIM.out).mono ?_
  rintro e w4 ⟨rfl, hd4, hf4⟩
  have HDC : Hid (DC w2 w4 db cb (layE S.D (E i)) S.c (.slice none 0 0)) := HV.out.dc.turn hd4 hf4 rfl
  have hF4 : Fs (fun k => k = db) w' w4 := Fs.of_fr hf4 rfl (fun k h => by cases h)
  have HXR : Hid (∀ k, k < M → w4.ownsRow N 9 1 (xs k) 24 (texts (X k) 24)) := fun k hk => ownFs (HH.out.row k hk) hF4 (fun j hj q => by have := ((HH.out.row k hk).lt j hj).1; have := HN.out.2.1; omega)
  have HHD : Hid (w4.ownsRow N 23 1 (.slice ha M hc) M ((List.range M).map xs)) := ownFs HH.out.had hF4 (fun j hj q => by have := (HH.out.had.lt j hj).1; have := HN.out.2.1; omega)
  have HSU : Hid (Sure kb kt (E i) (cs i) (Ts i) (X i) ∧ (E i).ok ∧ (i < M - 1 → cs i < S.c) ∧ (¬ i < M - 1 → cs i = S.c ∧ X i = S.X)) := by
    obtain ⟨pa, e1, e2, e3, e4⟩ := HPa.out
    have hm := HM.out.1
    refine ⟨pa.sure i hpk, pa.ok i hpk, fun q => ?_, fun q => ?_⟩
    · rw [← e3]; exact pa.rise i l.length (by omega) (by omega)
    · obtain rfl : i = l.length := by omega
      exact ⟨e3, e2⟩
  have HC : Hid (0 ≤ S.c ∧ S.c < 1000000000) := ⟨HG.out.1.ok.c0, by have := HG.out.1.ok.cn; omega⟩
  clear hd4 hf4 hF4
  by_cases hlast : i < M - 1
  · have HL1 : Hid (cs i < S.c) := HSU.out.2.2.1 hlast
    have HOP : Hid (Calls Tryz.prog 19 #[.pointer (some ⟨db, 0, none⟩), .pointer (some ⟨cb, 0, none⟩), .string ⟨#[48, 49, 50, 51, 52, 53, 54, 55, 56, 57, 97, 98, 99, 100, 101, 102]⟩] w4 fun e w' => e = .returned (.tuple #[.pointer none, .iface 45 (.int .i64 15)]) ∧ Since w2 w') := by
      obtain ⟨e1, e2⟩ := HK.out
      subst e1 e2
      refine (open_any sec rfl HB.out.tab HC.out HDC.out).mono ?_
      rintro e w' ⟨vc, r, S', v', hto, he, _, hv, _, _⟩
      have ho : OpenIs (kbOf sec) (ktOf sec) (layE S.D (E i)) S.c r S' := hto
      have hlow := layE_low (D := S.D) HSU.out.1
      have hL1 := HL1.out
      have hcs : 0 ≤ cs i := by
        rcases HSU.out.1.1 with h | h
        · omega
        · have := h.2.1.1.1; have := h.2.2.1; omega
      have hr : r = 15 := by
        rcases ho with h | h | h | h
        · exact absurd h.1 (hlow.not (by omega))
        · have := h.2.1; omega
        · exact absurd h.2.2.1 (hlow.not (by omega))
        · exact h.2.2.2.1
      subst hr
      rcases he with ⟨h0, _⟩ | ⟨_, rfl⟩
      · exact absurd h0 (by decide)
      · exact ⟨rfl, hv.since⟩
    have hl2 : (i : Int) < (M : Int) - 1 := by omega
    have hl3 : decide ((i : Int) < (M : Int) - 1) = true := decide_eq_true hl2
    have hw1 : wrap64 ((M : Int) - 1) = (M : Int) - 1 := by have := HM.out; unfold wrap64; omega
    clear hlast
    go_wp2_with fail
    refine HOP.out.mono ?_
    rintro e w5 ⟨rfl, hs5⟩
    go_wp2_with fail
    refine (tell_hit 15 _ (HE.out.since (HS2.out.trans hs5))).mono ?_
    rintro e w6 ⟨rfl, hs6⟩
    go_wp2_with fail
    go_ret
    exact ⟨rfl, (HS2.out.trans hs5).trans hs6⟩
  · obtain ⟨hci, hXi⟩ := HSU.out.2.2.2 hlast
    have HOP : Hid (Calls Tryz.prog 19 #[.pointer (some ⟨db, 0, none⟩), .pointer (some ⟨cb, 0, none⟩), .string ⟨#[48, 49, 50, 51, 52, 53, 54, 55, 56, 57, 97, 98, 99, 100, 101, 102]⟩] w4 fun e w' => ∃ vc S' v', e = .returned (.tuple #[.pointer (some ⟨vc, 0, none⟩), .nilIface]) ∧ Vol w2 w' vc db cb kb kt S' v' ∧ (∀ i', i' < 24 → S'.X i' = X i i') ∧ Fs (fun k => k = db ∨ k = cb) w4 w') := by
      obtain ⟨e1, e2⟩ := HK.out
      subst e1 e2
      have h1 := layE_told (D := S.D) HSU.out.1 HSU.out.2.1
      have h2 := layE_low (D := S.D) HSU.out.1
      rw [hci] at h1 h2
      refine (open_ok (s := sec) rfl HB.out.tab HC.out HDC.out h1 h2).mono ?_
      rintro e w' ⟨vc, S', v', rfl, _, h1, ⟨_, h2, _, h3, h4, h5, _⟩, h6, _⟩
      exact ⟨vc, S', v', rfl, h1, h5, ⟨h6.os, h6.tape, h6.output, h6.size, fun k hk hs => h6.block k hk (fun q => by
        rcases q with q | q | q
        · exact hs (Or.inl q)
        · exact hs (Or.inr q)
        · simp [Value.ownBlock] at q)⟩⟩
    have hl2 : ¬ (i : Int) < (M : Int) - 1 := by omega
    have hl3 : decide ((i : Int) < (M : Int) - 1) = false := decide_eq_false hl2
    have hw1 : wrap64 ((M : Int) - 1) = (M : Int) - 1 := by have := HM.out; unfold wrap64; omega
    clear hlast hci hXi
    go_wp2_with fail
    refine HOP.out.mono ?_
    rintro e w5 ⟨vc, S', v', rfl, hv5, hx5, hf5⟩
    have HV5 : Hid (Vol w2 w5 vc db cb kb kt S' v') := hv5
    have HX5 : Hid (∀ i', i' < 24 → S'.X i' = X i i') := hx5
    have HR5 : Hid (w5.ownsRow N 9 1 (xs i) 24 (texts (X i) 24)) := ownFs (HXR.out i hpk) hf5 (fun j hj q => by have := ((HXR.out i hpk).lt j hj).1; have := HN.out; omega)
    have hhd := ownFs HHD.out hf5 (fun j hj q => by have := (HHD.out.lt j hj).1; have := HN.out; omega)
    obtain ⟨a', c', he', hcc⟩ := Sl.of_own (b := db) (f := xs) hhd HN.out.2.1 (fun j hj => by simp [hj])
    injection he' with e1 _ e3
    subst e1 e3
    obtain ⟨hk, ho, rfl, _, hcell⟩ := hcc (by omega)
    have q0 := hcell i hpk
    obtain ⟨ea, ec, hxe, _⟩ := own_slice2 HR5.out
    rw [hxe] at q0
    have HR6 : Hid (w5.ownsRow N 9 1 (.slice ea 24 ec) 24 (texts (X i) 24)) := by rw [← hxe]; exact HR5.out
    have HSS : Hid (∀ W : World, Since w5 W → W.cell? ⟨hk, ho + i, none⟩ = some (.slice ea 24 ec)) := fun W hW => (hW.cell (p := ⟨hk, ho + i, none⟩) (World.block_lt_of_cell? _ _ q0)).trans q0
    clear hv5 hx5 hf5 hhd hcc hcell hxe HR5 HXR HHD HOP
    go_wp2_with fail
    go_region_held3 (fun W => W.cell? ⟨hk, ho + i, none⟩ = some (.slice ea 24 ec)) (first | exact HSS.out _ (Since.refl _) | exact HSS.out _ (Since.refl _).drew | exact HSS.out _ H7.out | exact HSS.out _ H6.out) (first
      | (go_simp; go_at_call 14; refine (all_any (HV5.out.go (Since.refl _).drew)).mono ?_; rintro e w6 ⟨x6, rfl, hx6, hs6⟩; obtain ⟨ya, yn, yc, rfl, rfl⟩ := own_slice hx6; have H6 : Hid (Since w5 w6) := (Since.refl w5).drew.trans hs6; have HEQ : Hid (Calls Tryz.prog 23 #[.slice ya 24 yc, .slice ea 24 ec] w6 fun e w' => e = .returned (.bool true) ∧ Since w6 w') := eq24_any _ _ S'.X (X i) w6 (by have := HV5.out.dev.lt; simp; omega) (by have := HN.out; omega) hx6 (ownsRow_since HR6.out H6.out) HX5.out; clear hx6 hs6; dsimp only)
      | (go_simp; go_at_call 23; refine HEQ.out.mono ?_; rintro e w7 ⟨rfl, hs7⟩; have H7 : Hid (Since w5 w7) := H6.out.trans hs7; clear hs7; dsimp only))
    go_wp2_with fail
    go_ret
    exact ⟨rfl, HS2.out.trans (HV5.out.go H7.out).since⟩
end Vl
end Go.Proofs.YtifnhnfjelfddaaGreatDoor
end
