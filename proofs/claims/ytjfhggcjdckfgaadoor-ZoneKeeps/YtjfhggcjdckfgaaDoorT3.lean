/- The reference's device: Put, Append. -/
import Derived.Test.YtjfhggcjdckfgaaDoorT2
import Derived.Test.YtjfhggcjdckfgaaDoorZ6
import Derived.Deep.Upon
namespace Go.Proofs.YtjfhggcjdckfgaaDoor
set_option linter.unusedSimpArgs false
set_option linter.unusedVariables false
open Go.RowKit

/-- all but the blocks that S names is as it was -/
structure Fs (S : Nat → Prop) (w w' : World) : Prop where
  os : w'.os = w.os
  tape : w'.tape = w.tape
  output : w'.output = w.output
  size : w.heap.size ≤ w'.heap.size
  block : ∀ k, k < w.heap.size → ¬ S k → w'.heap[k]? = w.heap[k]?
theorem Fs.trans {S : Nat → Prop} {w w' w'' : World} (h : Fs S w w') (k : Fs S w' w'') : Fs S w w'' :=
  ⟨k.os.trans h.os, k.tape.trans h.tape, k.output.trans h.output, Nat.le_trans h.size k.size, fun j hj hs => (k.block j (Nat.lt_of_lt_of_le hj h.size) hs).trans (h.block j hj hs)⟩
theorem Fs.of_since {S : Nat → Prop} {w w' : World} (h : Since w w') : Fs S w w' := ⟨h.os, h.tape, h.output, h.size, fun k hk _ => h.block k hk⟩
theorem Fs.of_fr {S : Nat → Prop} {b : Nat} {g : Option Nat} {w w' : World} (h : Fr b g w w') (hb : S b) (hg : ∀ k, g = some k → S k) : Fs S w w' :=
  ⟨h.os, h.tape, h.output, h.size, fun k hk hs => h.block k hk (fun e => hs (e ▸ hb)) (fun e => hs (hg k e.symm))⟩
theorem Fs.of_grown {S : Nat → Prop} {g : Option Nat} {w w' : World} (h : w.grownBy w' g) (hg : ∀ k, g = some k → S k) : Fs S w w' :=
  ⟨h.os, h.tape, h.output, h.size, fun k hk hs => h.block k hk (fun e => hs (hg k e.symm))⟩
theorem Fs.since {S : Nat → Prop} {a w w' : World} (h : Fs S w w') (hs : Since a w) (hS : ∀ k, S k → a.heap.size ≤ k) : Since a w' :=
  Below.trans (show Below a.heap.size a w from hs) ⟨h.os, h.tape, h.output, h.size, fun k hk => h.block k (Nat.lt_of_lt_of_le hk hs.size) (fun e => by have := hS k e; omega)⟩
theorem Dev.fs {S : Nat → Prop} {w w' : World} {b : Nat} {D : Dv} {v : Value} (h : Dev w b D v) (hf : Fs S w w') (hb : ¬ S b) (hv : ∀ k, v.ownBlock = some k → ¬ S k) : Dev w' b D v where
  cel := ⟨fun j hj => by
      have hc := h.cel.cell j hj
      rw [World.cell?_of_block (w := w) (a := ⟨b, j, none⟩) (hf.block b (World.block_lt_of_cell? w _ hc) hb)]
      exact hc, fun j hj => by
      have hc := h.cel.cell j hj
      rw [World.frozen?_of_block (w := w) (a := ⟨b, j, none⟩) (hf.block b (World.block_lt_of_cell? w _ hc) hb)]
      exact h.cel.frozen j hj⟩
  own := by
    refine ⟨h.own.1, ?_⟩
    rcases h.own.2 with hn | ⟨k, cap, cur, rfl, hbk, hk, rest⟩
    · exact .inl hn
    · refine .inr ⟨k, cap, cur, rfl, hbk, ?_, rest⟩
      rw [hf.block k (Array.getElem?_eq_some_iff.1 hk).1 (hv k rfl)]
      exact hk
  ne := h.ne
  ok := h.ok
theorem own_apart {w : World} {b1 b2 e1 e2 s1 s2 n1 n2 : Nat} {v1 v2 : Value} {x1 x2 : List Value} (h1 : w.ownsRow b1 e1 s1 v1 n1 x1) (h2 : w.ownsRow b2 e2 s2 v2 n2 x2) (he : e1 ≠ e2) : v1.ownBlock = none ∨ v1.ownBlock ≠ v2.ownBlock := by
  rcases h1.2 with ⟨rfl, _⟩ | ⟨g1, c1, u1, rfl, _, hg1, _⟩
  · exact Or.inl rfl
  · right
    rcases h2.2 with ⟨rfl, _⟩ | ⟨g2, c2, u2, rfl, _, hg2, _⟩
    · simp [Value.ownBlock]
    · intro e
      simp only [Value.ownBlock, Option.some.injEq] at e
      subst e
      rw [hg1] at hg2
      injection hg2 with hg2
      injection hg2 with _ h3
      exact he h3
theorem infoI : (Tryd.prog.info? 3).map (fun i => (i.zero, i.size, i.bytes)) = some (some (.int .i64 0), 1, 8) := by kernel_rfl

theorem Cel.grown {w w2 : World} {b n : Nat} {g : Option Nat} {f : Nat → Value} (h : Cel w b n f) (hg : w.grownBy w2 g) (hne : some b ≠ g) : Cel w2 b n f :=
  ⟨fun j hj => by
      have hc := h.cell j hj
      rw [World.cell?_of_block (w := w) (a := ⟨b, j, none⟩) (hg.block b (World.block_lt_of_cell? w _ hc) hne)]
      exact hc, fun j hj => by
      have hc := h.cell j hj
      rw [World.frozen?_of_block (w := w) (a := ⟨b, j, none⟩) (hg.block b (World.block_lt_of_cell? w _ hc) hne)]
      exact h.frozen j hj⟩
theorem Ref.ne_at {w : World} {rb N : Nat} {D : Dv} {lv : Nat → Value} {av wv : Value} (h : Ref w rb N D lv av wv) : some rb ≠ av.ownBlock := fun e => by have := (h.at_.lt rb e.symm).1; have := h.lt; omega
theorem Ref.ne_what {w : World} {rb N : Nat} {D : Dv} {lv : Nat → Value} {av wv : Value} (h : Ref w rb N D lv av wv) : some rb ≠ wv.ownBlock := fun e => by have := (h.what.lt rb e.symm).1; have := h.lt; omega
/-- a write more -/
theorem rput_ref {w7 w2 w8 w4 : World} {rb N k n g2 c2 : Nat} {s : ByteArray} {D : Dv} {lv : Nat → Value} {av wv av' : Value} (h : Ref w7 rb N D lv av wv) (hg1 : w7.grownBy w2 av.ownBlock) (ho1 : w2.ownsRow N 3 1 av' (n + 1) (atL D.ws ++ [.int .i64 k]))
    (hS : Since w2 w8) (hg2 : w8.grownBy w4 wv.ownBlock) (ho2 : w4.ownsRow N 9 1 (.slice (some ⟨g2, 0, none⟩) (n + 1) c2) (n + 1) (whatL D.ws ++ [.string (txt 500 (sb s))])) (hat : wv.ownBlock = some g2 ∨ g2 = w8.heap.size) (hn : n = D.ws.length) :
    Ref ((w4.setCell ⟨rb, 18, none⟩ av').setCell ⟨rb, 19, none⟩ (.slice (some ⟨g2, 0, none⟩) (n + 1) c2)) rb N (D.wrote k s) lv av' (.slice (some ⟨g2, 0, none⟩) (n + 1) c2) := by
  subst hn
  have hne : ∀ g : Option Nat, (∀ j, g = some j → N ≤ j) → some rb ≠ g := fun g hg e => by have := hg rb e.symm; have := h.lt; omega
  have hc4 : Cel w4 rb 21 (rcell D lv av wv) := by
    have a1 : Cel w2 rb 21 (rcell D lv av wv) := ⟨fun j hj => by
      have hc := h.cel.cell j hj
      rw [World.cell?_of_block (w := w7) (a := ⟨rb, j, none⟩) (hg1.block rb (World.block_lt_of_cell? w7 _ hc) (hne _ (fun j e => (h.at_.lt j e).1)))]
      exact hc, fun j hj => by
      have hc := h.cel.cell j hj
      rw [World.frozen?_of_block (w := w7) (a := ⟨rb, j, none⟩) (hg1.block rb (World.block_lt_of_cell? w7 _ hc) (hne _ (fun j e => (h.at_.lt j e).1)))]
      exact h.cel.frozen j hj⟩
    have a2 := a1.since hS
    exact ⟨fun j hj => by
      have hc := a2.cell j hj
      rw [World.cell?_of_block (w := w8) (a := ⟨rb, j, none⟩) (hg2.block rb (World.block_lt_of_cell? w8 _ hc) (hne _ (fun j e => (h.what.lt j e).1)))]
      exact hc, fun j hj => by
      have hc := a2.cell j hj
      rw [World.frozen?_of_block (w := w8) (a := ⟨rb, j, none⟩) (hg2.block rb (World.block_lt_of_cell? w8 _ hc) (hne _ (fun j e => (h.what.lt j e).1)))]
      exact a2.frozen j hj⟩
  have hrow : ∀ z, z < 8 → w4.ownsRow N 9 1 (lv z) (D.cnt z) (blks (D.blk z) (D.cnt z)) := fun z hz =>
    (ownsRow_since ((h.row z hz).kept hg1 (own_apart (h.row z hz) h.at_ (by decide))) hS).kept hg2 (h.apart z hz)
  have hw8 : w8.ownsRow N 9 1 wv D.ws.length (whatL D.ws) := ownsRow_since (h.what.kept hg1 (own_apart h.what h.at_ (by decide))) hS
  have hat4 : w4.ownsRow N 3 1 av' (D.ws.length + 1) (atL D.ws ++ [.int .i64 k]) := (ownsRow_since ho1 hS).kept hg2 (own_apart (ownsRow_since ho1 hS) hw8 (by decide))
  have hlen : (D.wrote k s).ws.length = D.ws.length + 1 := by show (D.ws ++ [(k, s)]).length = _; simp
  refine ⟨?_, fun z hz => ?_, ?_, ?_, fun z hz => ?_, h.lt, ?_⟩
  · refine ((hc4.set 18 (by omega) _).set 19 (by omega) _).congr (fun j hj => ?_)
    unfold updv rcell
    by_cases e1 : j = 19
    · subst e1; rfl
    · rw [if_neg e1]
      by_cases e2 : j = 18
      · subst e2; rfl
      · rw [if_neg e2, if_neg e2, if_neg e2]
        split
        · rfl
        · split
          · rfl
          · split
            · rfl
            · split
              · rfl
              · first | (rw [if_neg e1, if_neg e1]; rfl) | (rw [if_neg e1]; rfl) | rfl
  · exact ownsRow_setCell_below (ownsRow_setCell_below (hrow z hz) h.lt _) h.lt _
  · rw [hlen, show atL (D.wrote k s).ws = atL D.ws ++ [.int .i64 k] by show atL (D.ws ++ [(k, s)]) = _; simp [atL]]
    exact ownsRow_setCell_below (ownsRow_setCell_below hat4 h.lt _) h.lt _
  · rw [hlen, show whatL (D.wrote k s).ws = whatL D.ws ++ [.string (txt 500 (sb s))] by show whatL (D.ws ++ [(k, s)]) = _; simp [whatL]]
    exact ownsRow_setCell_below (ownsRow_setCell_below ho2 h.lt _) h.lt _
  · rcases hat with e | e
    · rw [show (Value.slice (some ⟨g2, 0, none⟩) (D.ws.length + 1) c2).ownBlock = some g2 from rfl, ← e]
      exact h.apart z hz
    · cases hl : (lv z).ownBlock with
      | none => exact Or.inl rfl
      | some q =>
        right
        intro e2
        have e3 : q = g2 := by simpa [Value.ownBlock] using e2
        have h1 := ((h.row z hz).lt q hl).2
        have h2 := hg1.size
        have h3 := hS.size
        omega
  · have h1 := h.le
    have h2 := hg1.size
    have h3 := hS.size
    have h4 := hg2.size
    have : (((w4.setCell ⟨rb, 18, none⟩ av').setCell ⟨rb, 19, none⟩ (.slice (some ⟨g2, 0, none⟩) (D.ws.length + 1) c2))).heap.size = w4.heap.size := by simp [World.setCell]
    omega
/-- the blocks that a write of a slot may turn -/
def PS (rb : Nat) (av wv : Value) (k : Nat) : Prop := k = rb ∨ av.ownBlock = some k ∨ wv.ownBlock = some k
set_option maxRecDepth 100000 in
set_option maxHeartbeats 4000000 in
theorem rput_any (D : Dv) (lv : Nat → Value) (av wv : Value) (rb N k : Nat) (s : ByteArray) (w : World) (hd : Ref w rb N D lv av wv) (hl : 0 ≤ D.left ∧ D.left ≤ 9223372036854775807) (hk : k < 2) (hs : s.size ≤ 500) (hm : D.may = true) (hn : D.ws.length < 1000) :
    Calls Tryd.prog 34 #[.pointer (some ⟨rb, 0, none⟩), .int .i64 k, .string s] w fun e w' => e = .returned (.int .i64 0) ∧ ∃ av' wv', Ref w' rb N (D.burnt.wrote k s) lv av' wv' ∧ Fs (PS rb av wv) w w' := by
  have hh := is_true hk
  have hs2 : (s.size : Int) ≤ 500 := by omega
  have HD : Hid (Ref w rb N D lv av wv) := hd
  clear hd
  go_enter Tryd.func34, Tryd.ntmps34
  go_wp2_with fail
  refine (in_any _ _ _ _).mono ?_
  rintro e w' ⟨rfl, rfl⟩
  rw [hh]
  go_wp2_with fail
  refine (spent_any D lv av wv rb N _ HD.out hl).mono ?_
  rintro e w1 ⟨rfl, _, h1⟩
  obtain ⟨hd1, hf1⟩ := h1 hm
  rw [hm]
  have hwl : D.burnt.ws.length + 1 ≤ 1000 := by rw [burnt_ws]; omega
  have HWL : Hid (D.burnt.ws.length + 1 ≤ 1000) := hwl
  have HF1 : Hid (Fs (PS rb av wv) w' w1) := Fs.of_fr hf1 (Or.inl rfl) (fun k e => by cases e)
  have HD1 : Hid (Ref w1 rb N D.burnt lv av wv) := hd1
  generalize hDb : D.burnt = E at *
  have HDB : Hid (D.burnt = E) := hDb
  clear h1 hd1 hf1 hwl hDb
  go_wp2_with fail
  have c18 := HD1.out.cel.cell 18 (by omega)
  have c19 := HD1.out.cel.cell 19 (by omega)
  rw [rcell_at] at c18
  rw [rcell_what] at c19
  obtain ⟨i0, hi, hz0, hz1, hz2⟩ := info_parts' infoI
  have HI : Hid (Tryd.prog.info? 3 = some i0 ∧ i0.zero = some (.int .i64 0) ∧ i0.size = 1 ∧ i0.bytes = 8) := ⟨hi, hz0, hz1, hz2⟩
  clear hi hz0 hz1 hz2
  obtain ⟨i1, hi, hz0, hz1, hz2⟩ := info_parts' infoS
  have HJ : Hid (Tryd.prog.info? 9 = some i1 ∧ i1.zero = some (.string ⟨#[]⟩) ∧ i1.size = 1 ∧ i1.bytes = 16) := ⟨hi, hz0, hz1, hz2⟩
  clear hi hz0 hz1 hz2
  have HD7 : Hid (Ref (w1.drew.alloc (.cells #[.int .i64 (k : Int)] 3)) rb N E lv av wv) := HD1.out.since ((Since.refl _).drew.alloc _)
  have d18 : (w1.alloc (.cells #[.int .i64 (k : Int)] 3)).cell? ⟨rb, 18, none⟩ = some av := HD7.out.cel.cell 18 (by omega)
  have d19 : (w1.alloc (.cells #[.int .i64 (k : Int)] 3)).cell? ⟨rb, 19, none⟩ = some wv := HD7.out.cel.cell 19 (by omega)
  go_region_law (first
    | (refine step_append_lies _ (by rfl) (.tmp 20) (.tmp 22) 51 (by rfl) N 3 i0 _ 1 8 Tryd.underlying51 HI.out.1 HI.out.2.1 HI.out.2.2.1 HI.out.2.2.2 (by rfl) (by decide) av E.ws.length (atL E.ws) (by rfl) HD7.out.at_ ⟨w1.heap.size, 0, none⟩ 1 1 [.int .i64 k] (by rfl) (by rfl) (World.news_of_block (heap_alloc_new w1.drew _)) (by simp [Value.oneCell']) (by decide) (by have := HWL.out; unfold maxLen; omega) (by have := HWL.out; omega) HD7.out.le (w1.heap.size + 1) (by simp) ?_; intro g1 cap1 w2 hown1 hgrow1 hat1 hlt1; have HO1 : Hid (w2.ownsRow N 3 1 (.slice (some ⟨g1, 0, none⟩) (E.ws.length + 1) cap1) (E.ws.length + 1) (atL E.ws ++ [.int .i64 k])) := hown1; have HG1 : Hid (World.grownBy (w1.drew.alloc (.cells #[.int .i64 (k : Int)] 3)) w2 av.ownBlock) := hgrow1; have HC2 : Hid (Cel w2 rb 21 (rcell E lv av wv)) := HD7.out.cel.grown hgrow1 HD7.out.ne_at; have e19 : w2.cell? ⟨rb, 19, none⟩ = some wv := HC2.out.cell 19 (by omega); clear hown1 hgrow1 hat1 hlt1)
    | (refine step_append_lies _ (by rfl) (.tmp 27) (.tmp 30) 22 (by rfl) N 9 i1 _ 1 16 Tryd.underlying22 HJ.out.1 HJ.out.2.1 HJ.out.2.2.1 HJ.out.2.2.2 (by rfl) (by decide) wv E.ws.length (whatL E.ws) (by rfl) HW8.out ⟨w3.heap.size, 0, none⟩ 1 1 [.string (txt 500 (sb s))] (by rfl) (by rfl) (World.news_of_block (heap_alloc_new w3 _)) (by simp [Value.oneCell']) (by decide) (by have := HWL.out; unfold maxLen; omega) (by have := HWL.out; omega) HLE8.out (w3.heap.size + 1) (by simp) ?_; intro g2 cap2 w4 hown2 hgrow2 hat2 hlt2; have HO2 : Hid (w4.ownsRow N 9 1 (.slice (some ⟨g2, 0, none⟩) (E.ws.length + 1) cap2) (E.ws.length + 1) (whatL E.ws ++ [.string (txt 500 (sb s))])) := hown2; have HG2 : Hid (World.grownBy (w3.alloc (.cells #[.string (txt 500 (sb s))] 9)) w4 wv.ownBlock) := hgrow2; have HAT2 : Hid (wv.ownBlock = some g2 ∨ g2 = w3.heap.size + 1) := hat2; have hc4 := (HC2.out.since HS28.out).grown hgrow2 HD7.out.ne_what; have k18 : w4.cell? ⟨rb, 18, none⟩ = some av := hc4.cell 18 (by omega); have k19 : w4.cell? ⟨rb, 19, none⟩ = some wv := hc4.cell 19 (by omega); have l18 := hc4.frozen 18 (by omega); have l19 := hc4.frozen 19 (by omega); clear hown2 hgrow2 hat2 hlt2 hc4)
    | (go_simp; go_at_call 97; refine (rlong_any s 500 _ (by omega)).mono ?_; rintro e w3 ⟨rfl, hS3⟩; have HS28 : Hid (Since w2 (w3.alloc (.cells #[.string (txt 500 (sb s))] 9))) := Since.alloc hS3 _; have HW8 : Hid ((w3.alloc (.cells #[.string (txt 500 (sb s))] 9)).ownsRow N 9 1 wv E.ws.length (whatL E.ws)) := ownsRow_since (HD7.out.what.kept HG1.out (own_apart HD7.out.what HD7.out.at_ (by decide))) HS28.out; have HLE8 : Hid (N ≤ (w3.alloc (.cells #[.string (txt 500 (sb s))] 9)).heap.size) := Nat.le_trans HD7.out.le (Nat.le_trans HG1.out.size HS28.out.size); have m19 : w3.cell? ⟨rb, 19, none⟩ = some wv := (HC2.out.since hS3).cell 19 (by omega); have n19 : (w3.alloc (.cells #[.string (txt 500 (sb s))] 9)).cell? ⟨rb, 19, none⟩ = some wv := (HC2.out.since HS28.out).cell 19 (by omega); dsimp only))
  all_goals
    go_wp2_with fail
    go_ret
    refine ⟨rfl, .slice (some ⟨g1, 0, none⟩) (E.ws.length + 1) cap1, .slice (some ⟨g2, 0, none⟩) (E.ws.length + 1) cap2, ?_, ?_⟩
    · rw [HDB.out]
      exact rput_ref HD7.out HG1.out HO1.out HS28.out HG2.out HO2.out (by rcases HAT2.out with h | h; exact Or.inl h; exact Or.inr (by rw [h]; simp)) rfl
    · exact (((((HF1.out.trans (Fs.of_since ((Since.refl _).drew.alloc _))).trans (Fs.of_grown HG1.out (fun j e => Or.inr (Or.inl e)))).trans (Fs.of_since HS28.out)).trans (Fs.of_grown HG2.out (fun j e => Or.inr (Or.inr e)))).trans (Fs.of_fr (Fr.setCell rb none 18 _ _) (Or.inl rfl) (fun k e => by cases e))).trans (Fs.of_fr (Fr.setCell rb none 19 _ _) (Or.inl rfl) (fun k e => by cases e))
end Go.Proofs.YtjfhggcjdckfgaaDoor
