import Derived.Deep.Upon
import Derived.Test.YtbfjklpoheooaaaGreatDoorJ24
import Derived.Test.YtbfjklpoheooaaaGreatDoorJ25
import Derived.Test.YtbfjklpoheooaaaGreatDoorJ28
set_option linter.unusedSimpArgs false
set_option linter.unusedVariables false
section
namespace Go.Proofs.YtbfjklpoheooaaaGreatDoor
open Go.RowKit
structure Fs (S : Nat → Prop) (w w' : World) : Prop where
  os : w'.os = w.os
  tape : w'.tape = w.tape
  output : w'.output = w.output
  size : w.heap.size ≤ w'.heap.size
  block : ∀ k, k < w.heap.size → ¬ S k → w'.heap[k]? = w.heap[k]?
theorem Fs.trans {S : Nat → Prop} {w w' w'' : World} (h : Fs S w w') (k : Fs S w' w'') : Fs S w w'' :=
  ⟨k.os.trans h.os, k.tape.trans h.tape, k.output.trans h.output, Nat.le_trans h.size k.size, fun j hj hs => (k.block j (Nat.lt_of_lt_of_le hj h.size) hs).trans (h.block j hj hs)⟩
theorem Fs.of_since {S : Nat → Prop} {w w' : World} (h : Since w w') : Fs S w w' := ⟨h.os, h.tape, h.output, h.size, fun k hk _ => h.block k hk⟩
theorem Fs.of_fr {S : Nat → Prop} {b : Nat} {g : Option Nat} {w w' : World} (h : Fr b g w w') (hb : S b) (hg : ∀ k, g = some k → S k) : Fs S w w' :=
  ⟨h.os, h.tape, h.output, h.size, fun k hk hs => h.block k hk (fun e => hs (e ▸ hb)) (fun e => hs (hg k e.symm))⟩
theorem Fs.of_grown {S : Nat → Prop} {g : Option Nat} {w w' : World} (h : w.grownBy w' g) (hg : ∀ k, g = some k → S k) : Fs S w w' :=
  ⟨h.os, h.tape, h.output, h.size, fun k hk hs => h.block k hk (fun e => hs (hg k e.symm))⟩
theorem Fs.since {S : Nat → Prop} {a w w' : World} (h : Fs S w w') (hs : Since a w) (hS : ∀ k, S k → a.heap.size ≤ k) : Since a w' :=
  Below.trans (show Below a.heap.size a w from hs) ⟨h.os, h.tape, h.output, h.size, fun k hk => h.block k (Nat.lt_of_lt_of_le hk hs.size) (fun e => by have := hS k e; omega)⟩
theorem Dev.fs {S : Nat → Prop} {w w' : World} {b : Nat} {D : Dv} {v : Value} (h : Dev w b D v) (hf : Fs S w w') (hb : ¬ S b) (hv : ∀ k, v.ownBlock = some k → ¬ S k) : Dev w' b D v where
  cel := ⟨fun j hj => by
      have hc := h.cel.cell j hj
      rw [World.cell?_of_block (w := w) (a := ⟨b, j, none⟩) (hf.block b (World.block_lt_of_cell? w _ hc) hb)]
      exact hc, fun j hj => by
      have hc := h.cel.cell j hj
      rw [World.frozen?_of_block (w := w) (a := ⟨b, j, none⟩) (hf.block b (World.block_lt_of_cell? w _ hc) hb)]
      exact h.cel.frozen j hj⟩
  own := by
    refine ⟨h.own.1, ?_⟩
    rcases h.own.2 with hn | ⟨k, cap, cur, rfl, hbk, hk, rest⟩
    · exact .inl hn
    · refine .inr ⟨k, cap, cur, rfl, hbk, ?_, rest⟩
      rw [hf.block k (Array.getElem?_eq_some_iff.1 hk).1 (hv k rfl)]
      exact hk
  ne := h.ne
  ok := h.ok
theorem own_apart {w : World} {b1 b2 e1 e2 s1 s2 n1 n2 : Nat} {v1 v2 : Value} {x1 x2 : List Value} (h1 : w.ownsRow b1 e1 s1 v1 n1 x1) (h2 : w.ownsRow b2 e2 s2 v2 n2 x2) (he : e1 ≠ e2) : v1.ownBlock = none ∨ v1.ownBlock ≠ v2.ownBlock := by
  rcases h1.2 with ⟨rfl, _⟩ | ⟨g1, c1, u1, rfl, _, hg1, _⟩
  · exact Or.inl rfl
  · right
    rcases h2.2 with ⟨rfl, _⟩ | ⟨g2, c2, u2, rfl, _, hg2, _⟩
    · simp [Value.ownBlock]
    · intro e
      simp only [Value.ownBlock, Option.some.injEq] at e
      subst e
      rw [hg1] at hg2
      injection hg2 with hg2
      injection hg2 with _ h3
      exact he h3
theorem infoI : (Tryz.prog.info? 3).map (fun i => (i.zero, i.size, i.bytes)) = some (some (.int .i64 0), 1, 8) := by kernel_rfl
theorem Cel.grown {w w2 : World} {b n : Nat} {g : Option Nat} {f : Nat → Value} (h : Cel w b n f) (hg : w.grownBy w2 g) (hne : some b ≠ g) : Cel w2 b n f :=
  ⟨fun j hj => by
      have hc := h.cell j hj
      rw [World.cell?_of_block (w := w) (a := ⟨b, j, none⟩) (hg.block b (World.block_lt_of_cell? w _ hc) hne)]
      exact hc, fun j hj => by
      have hc := h.cell j hj
      rw [World.frozen?_of_block (w := w) (a := ⟨b, j, none⟩) (hg.block b (World.block_lt_of_cell? w _ hc) hne)]
      exact h.frozen j hj⟩
theorem Ref.ne_at {w : World} {rb N : Nat} {D : Dv} {lv : Nat → Value} {av wv : Value} (h : Ref w rb N D lv av wv) : some rb ≠ av.ownBlock := fun e => by have := (h.at_.lt rb e.symm).1; have := h.lt; omega
theorem Ref.ne_what {w : World} {rb N : Nat} {D : Dv} {lv : Nat → Value} {av wv : Value} (h : Ref w rb N D lv av wv) : some rb ≠ wv.ownBlock := fun e => by have := (h.what.lt rb e.symm).1; have := h.lt; omega
theorem rput_ref {w7 w2 w8 w4 : World} {rb N k n g2 c2 : Nat} {s : ByteArray} {D : Dv} {lv : Nat → Value} {av wv av' : Value} (h : Ref w7 rb N D lv av wv) (hg1 : w7.grownBy w2 av.ownBlock) (ho1 : w2.ownsRow N 3 1 av' (n + 1) (atL D.ws ++ [.int .i64 k]))
    (hS : Since w2 w8) (hg2 : w8.grownBy w4 wv.ownBlock) (ho2 : w4.ownsRow N 9 1 (.slice (some ⟨g2, 0, none⟩) (n + 1) c2) (n + 1) (whatL D.ws ++ [.string (txt 500 (sb s))])) (hat : wv.ownBlock = some g2 ∨ g2 = w8.heap.size) (hn : n = D.ws.length) :
    Ref ((w4.setCell ⟨rb, 18, none⟩ av').setCell ⟨rb, 19, none⟩ (.slice (some ⟨g2, 0, none⟩) (n + 1) c2)) rb N (D.wrote k s) lv av' (.slice (some ⟨g2, 0, none⟩) (n + 1) c2) := by
  subst hn
  have hne : ∀ g : Option Nat, (∀ j, g = some j → N ≤ j) → some rb ≠ g := fun g hg e => by have := hg rb e.symm; have := h.lt; omega
  have hc4 : Cel w4 rb 21 (rcell D lv av wv) := by
    have a1 : Cel w2 rb 21 (rcell D lv av wv) := ⟨fun j hj => by
      have hc := h.cel.cell j hj
      rw [World.cell?_of_block (w := w7) (a := ⟨rb, j, none⟩) (hg1.block rb (World.block_lt_of_cell? w7 _ hc) (hne _ (fun j e => (h.at_.lt j e).1)))]
      exact hc, fun j hj => by
      have hc := h.cel.cell j hj
      rw [World.frozen?_of_block (w := w7) (a := ⟨rb, j, none⟩) (hg1.block rb (World.block_lt_of_cell? w7 _ hc) (hne _ (fun j e => (h.at_.lt j e).1)))]
      exact h.cel.frozen j hj⟩
    have a2 := a1.since hS
    exact ⟨fun j hj => by
      have hc := a2.cell j hj
      rw [World.cell?_of_block (w := w8) (a := ⟨rb, j, none⟩) (hg2.block rb (World.block_lt_of_cell? w8 _ hc) (hne _ (fun j e => (h.what.lt j e).1)))]
      exact hc, fun j hj => by
      have hc := a2.cell j hj
      rw [World.frozen?_of_block (w := w8) (a := ⟨rb, j, none⟩) (hg2.block rb (World.block_lt_of_cell? w8 _ hc) (hne _ (fun j e => (h.what.lt j e).1)))]
      exact a2.frozen j hj⟩
  have hrow : ∀ z, z < 8 → w4.ownsRow N 9 1 (lv z) (D.cnt z) (blks (D.blk z) (D.cnt z)) := fun z hz =>
    (ownsRow_since ((h.row z hz).kept hg1 (own_apart (h.row z hz) h.at_ (by decide))) hS).kept hg2 (h.apart z hz)
  have hw8 : w8.ownsRow N 9 1 wv D.ws.length (whatL D.ws) := ownsRow_since (h.what.kept hg1 (own_apart h.what h.at_ (by decide))) hS
  have hat4 : w4.ownsRow N 3 1 av' (D.ws.length + 1) (atL D.ws ++ [.int .i64 k]) := (ownsRow_since ho1 hS).kept hg2 (own_apart (ownsRow_since ho1 hS) hw8 (by decide))
  have hlen : (D.wrote k s).ws.length = D.ws.length + 1 := by show (D.ws ++ [(k, s)]).length = _; simp
  refine ⟨?_, fun z hz => ?_, ?_, ?_, fun z hz => ?_, h.lt, ?_⟩
  · refine ((hc4.set 18 (by omega) _).set 19 (by omega) _).congr (fun j hj => ?_)
    unfold updv rcell
    by_cases e1 : j = 19
    · subst e1; rfl
    · rw [if_neg e1]
      by_cases e2 : j = 18
      · subst e2; rfl
      · rw [if_neg e2, if_neg e2, if_neg e2]
        split
        · rfl
        · split
          · rfl
          · split
            · rfl
            · split
              · rfl
              · first | (rw [if_neg e1, if_neg e1]; rfl) | (rw [if_neg e1]; rfl) | rfl
  · exact ownsRow_setCell_below (ownsRow_setCell_below (hrow z hz) h.lt _) h.lt _
  · rw [hlen, show atL (D.wrote k s).ws = atL D.ws ++ [.int .i64 k] by show atL (D.ws ++ [(k, s)]) = _; simp [atL]]
    exact ownsRow_setCell_below (ownsRow_setCell_below hat4 h.lt _) h.lt _
  · rw [hlen, show whatL (D.wrote k s).ws = whatL D.ws ++ [.string (txt 500 (sb s))] by show whatL (D.ws ++ [(k, s)]) = _; simp [whatL]]
    exact ownsRow_setCell_below (ownsRow_setCell_below ho2 h.lt _) h.lt _
  · rcases hat with e | e
    · rw [show (Value.slice (some ⟨g2, 0, none⟩) (D.ws.length + 1) c2).ownBlock = some g2 from rfl, ← e]
      exact h.apart z hz
    · cases hl : (lv z).ownBlock with
      | none => exact Or.inl rfl
      | some q =>
        right
        intro e2
        have e3 : q = g2 := by simpa [Value.ownBlock] using e2
        have h1 := ((h.row z hz).lt q hl).2
        have h2 := hg1.size
        have h3 := hS.size
        omega
  · have h1 := h.le
    have h2 := hg1.size
    have h3 := hS.size
    have h4 := hg2.size
    have : (((w4.setCell ⟨rb, 18, none⟩ av').setCell ⟨rb, 19, none⟩ (.slice (some ⟨g2, 0, none⟩) (D.ws.length + 1) c2))).heap.size = w4.heap.size := by simp [World.setCell]
    omega
def PS (rb : Nat) (av wv : Value) (k : Nat) : Prop := k = rb ∨ av.ownBlock = some k ∨ wv.ownBlock = some k
set_option maxRecDepth 100000 in
set_option maxHeartbeats 4000000 in
theorem rput_any (D : Dv) (lv : Nat → Value) (av wv : Value) (rb N k : Nat) (s : ByteArray) (w : World) (hd : Ref w rb N D lv av wv) (hl : 0 ≤ D.left ∧ D.left ≤ 9223372036854775807) (hk : k < 2) (hs : s.size ≤ 500) (hm : D.may = true) (hn : D.ws.length < 1000) :
    Calls Tryz.prog 52 #[.pointer (some ⟨rb, 0, none⟩), .int .i64 k, .string s] w fun e w' => e = .returned (.int .i64 0) ∧ ∃ av' wv', Ref w' rb N (D.burnt.wrote k s) lv av' wv' ∧ Fs (PS rb av wv) w w' := by
  have hh := is_true hk
  have hs2 : (s.size : Int) ≤ 500 := by omega
  have HD : Hid (Ref w rb N D lv av wv) := hd
  clear hd
  go_enter Tryz.func52, Tryz.ntmps52
  go_wp2_with fail
  refine (in_any _ _ _ _).mono ?_
  rintro e w' ⟨rfl, rfl⟩
  rw [hh]
  go_wp2_with fail
  refine (spent_any D lv av wv rb N _ HD.out hl).mono ?_
  rintro e w1 ⟨rfl, _, h1⟩
  obtain ⟨hd1, hf1⟩ := h1 hm
  rw [hm]
  have hwl : D.burnt.ws.length + 1 ≤ 1000 := by rw [burnt_ws]; omega
  have HWL : Hid (D.burnt.ws.length + 1 ≤ 1000) := hwl
  have HF1 : Hid (Fs (PS rb av wv) w' w1) := Fs.of_fr hf1 (Or.inl rfl) (fun k e => by cases e)
  have HD1 : Hid (Ref w1 rb N D.burnt lv av wv) := hd1
  generalize hDb : D.burnt = E at *
  have HDB : Hid (D.burnt = E) := hDb
  clear h1 hd1 hf1 hwl hDb
  go_wp2_with fail
  have c18 := HD1.out.cel.cell 18 (by omega)
  have c19 := HD1.out.cel.cell 19 (by omega)
  rw [rcell_at] at c18
  rw [rcell_what] at c19
  obtain ⟨i0, hi, hz0, hz1, hz2⟩ := info_parts' infoI
  have HI : Hid (Tryz.prog.info? 3 = some i0 ∧ i0.zero = some (.int .i64 0) ∧ i0.size = 1 ∧ i0.bytes = 8) := ⟨hi, hz0, hz1, hz2⟩
  clear hi hz0 hz1 hz2
  obtain ⟨i1, hi, hz0, hz1, hz2⟩ := info_parts' infoS
  have HJ : Hid (Tryz.prog.info? 9 = some i1 ∧ i1.zero = some (.string ⟨#[]⟩) ∧ i1.size = 1 ∧ i1.bytes = 16) := ⟨hi, hz0, hz1, hz2⟩
  clear hi hz0 hz1 hz2
  have HD7 : Hid (Ref (w1.drew.alloc (.cells #[.int .i64 (k : Int)] 3)) rb N E lv av wv) := HD1.out.since ((Since.refl _).drew.alloc _)
  have d18 : (w1.alloc (.cells #[.int .i64 (k : Int)] 3)).cell? ⟨rb, 18, none⟩ = some av := HD7.out.cel.cell 18 (by omega)
  have d19 : (w1.alloc (.cells #[.int .i64 (k : Int)] 3)).cell? ⟨rb, 19, none⟩ = some wv := HD7.out.cel.cell 19 (by omega)
  go_region_law (first
    | (refine step_append_lies _ (by rfl) (.tmp 20) (.tmp 22) 49 (by rfl) N 3 i0 _ 1 8 Tryz.underlying49 HI.out.1 HI.out.2.1 HI.out.2.2.1 HI.out.2.2.2 (by rfl) (by decide) av E.ws.length (atL E.ws) (by rfl) HD7.out.at_ ⟨w1.heap.size, 0, none⟩ 1 1 [.int .i64 k] (by rfl) (by rfl) (World.news_of_block (heap_alloc_new w1.drew _)) (by simp [Value.oneCell']) (by decide) (by have := HWL.out; unfold maxLen; omega) (by have := HWL.out; omega) HD7.out.le (w1.heap.size + 1) (by simp) ?_; intro g1 cap1 w2 hown1 hgrow1 hat1 hlt1; have HO1 : Hid (w2.ownsRow N 3 1 (.slice (some ⟨g1, 0, none⟩) (E.ws.length + 1) cap1) (E.ws.length + 1) (atL E.ws ++ [.int .i64 k])) := hown1; have HG1 : Hid (World.grownBy (w1.drew.alloc (.cells #[.int .i64 (k : Int)] 3)) w2 av.ownBlock) := hgrow1; have HC2 : Hid (Cel w2 rb 21 (rcell E lv av wv)) := HD7.out.cel.grown hgrow1 HD7.out.ne_at; have e19 : w2.cell? ⟨rb, 19, none⟩ = some wv := HC2.out.cell 19 (by omega); clear hown1 hgrow1 hat1 hlt1)
    | (refine step_append_lies _ (by rfl) (.tmp 27) (.tmp 30) 44 (by rfl) N 9 i1 _ 1 16 Tryz.underlying44 HJ.out.1 HJ.out.2.1 HJ.out.2.2.1 HJ.out.2.2.2 (by rfl) (by decide) wv E.ws.length (whatL E.ws) (by rfl) HW8.out ⟨w3.heap.size, 0, none⟩ 1 1 [.string (txt 500 (sb s))] (by rfl) (by rfl) (World.news_of_block (heap_alloc_new w3 _)) (by simp [Value.oneCell']) (by decide) (by have := HWL.out; unfold maxLen; omega) (by have := HWL.out; omega) HLE8.out (w3.heap.size + 1) (by simp) ?_; intro g2 cap2 w4 hown2 hgrow2 hat2 hlt2; have HO2 : Hid (w4.ownsRow N 9 1 (.slice (some ⟨g2, 0, none⟩) (E.ws.length + 1) cap2) (E.ws.length + 1) (whatL E.ws ++ [.string (txt 500 (sb s))])) := hown2; have HG2 : Hid (World.grownBy (w3.alloc (.cells #[.string (txt 500 (sb s))] 9)) w4 wv.ownBlock) := hgrow2; have HAT2 : Hid (wv.ownBlock = some g2 ∨ g2 = w3.heap.size + 1) := hat2; have hc4 := (HC2.out.since HS28.out).grown hgrow2 HD7.out.ne_what; have k18 : w4.cell? ⟨rb, 18, none⟩ = some av := hc4.cell 18 (by omega); have k19 : w4.cell? ⟨rb, 19, none⟩ = some wv := hc4.cell 19 (by omega); have l18 := hc4.frozen 18 (by omega); have l19 := hc4.frozen 19 (by omega); clear hown2 hgrow2 hat2 hlt2 hc4)
    | (go_simp; go_at_call 64; refine (rlong_any s 500 _ (by omega)).mono ?_; rintro e w3 ⟨rfl, hS3⟩; have HS28 : Hid (Since w2 (w3.alloc (.cells #[.string (txt 500 (sb s))] 9))) := Since.alloc hS3 _; have HW8 : Hid ((w3.alloc (.cells #[.string (txt 500 (sb s))] 9)).ownsRow N 9 1 wv E.ws.length (whatL E.ws)) := ownsRow_since (HD7.out.what.kept HG1.out (own_apart HD7.out.what HD7.out.at_ (by decide))) HS28.out; have HLE8 : Hid (N ≤ (w3.alloc (.cells #[.string (txt 500 (sb s))] 9)).heap.size) := Nat.le_trans HD7.out.le (Nat.le_trans HG1.out.size HS28.out.size); have m19 : w3.cell? ⟨rb, 19, none⟩ = some wv := (HC2.out.since hS3).cell 19 (by omega); have n19 : (w3.alloc (.cells #[.string (txt 500 (sb s))] 9)).cell? ⟨rb, 19, none⟩ = some wv := (HC2.out.since HS28.out).cell 19 (by omega); dsimp only))
  all_goals
    go_wp2_with fail
    go_ret
    refine ⟨rfl, .slice (some ⟨g1, 0, none⟩) (E.ws.length + 1) cap1, .slice (some ⟨g2, 0, none⟩) (E.ws.length + 1) cap2, ?_, ?_⟩
    · rw [HDB.out]
      exact rput_ref HD7.out HG1.out HO1.out HS28.out HG2.out HO2.out (by rcases HAT2.out with h | h; exact Or.inl h; exact Or.inr (by rw [h]; simp)) rfl
    · exact (((((HF1.out.trans (Fs.of_since ((Since.refl _).drew.alloc _))).trans (Fs.of_grown HG1.out (fun j e => Or.inr (Or.inl e)))).trans (Fs.of_since HS28.out)).trans (Fs.of_grown HG2.out (fun j e => Or.inr (Or.inr e)))).trans (Fs.of_fr (Fr.setCell rb none 18 _ _) (Or.inl rfl) (fun k e => by cases e))).trans (Fs.of_fr (Fr.setCell rb none 19 _ _) (Or.inl rfl) (fun k e => by cases e))
end Go.Proofs.YtbfjklpoheooaaaGreatDoor
end
section
namespace Go.Proofs.YtbfjklpoheooaaaGreatDoor
open Go.RowKit
def strL (l : Nat → ByteArray) (n : Nat) : List Value := (List.range n).map fun j => .string (l j)
theorem strL_get (l : Nat → ByteArray) (n j : Nat) (hj : j < n) : (strL l n)[j]? = some (.string (l j)) := by simp [strL, hj]
theorem strL_length (l : Nat → ByteArray) (n : Nat) : (strL l n).length = n := by simp [strL]
theorem strL_one (l : Nat → ByteArray) (n : Nat) : ∀ u ∈ strL l n, u.oneCell' = true := by
  intro u hu
  simp only [strL, List.mem_map] at hu
  obtain ⟨j, _, rfl⟩ := hu
  rfl
def Tx (w : World) (a : Option Addr) (n : Nat) (l : Nat → ByteArray) : Prop := 0 < n → ∃ k o, a = some ⟨k, o, none⟩ ∧ ∀ j, j < n → w.cell? ⟨k, o + j, none⟩ = some (.string (l j))
theorem Tx.since {w w' : World} {a : Option Addr} {n : Nat} {l : Nat → ByteArray} (h : Tx w a n l) (hs : Since w w') : Tx w' a n l := fun hn => by
  obtain ⟨k, o, ha, hc⟩ := h hn
  exact ⟨k, o, ha, fun j hj => (hs.cell (p := ⟨k, o + j, none⟩) (World.block_lt_of_cell? w _ (hc j hj))).trans (hc j hj)⟩
theorem Tx.take {w : World} {a : Option Addr} {n m : Nat} {l : Nat → ByteArray} (h : Tx w a n l) (hm : m ≤ n) : Tx w a m l := fun hn => by
  obtain ⟨k, o, ha, hc⟩ := h (by omega)
  exact ⟨k, o, ha, fun j hj => hc j (by omega)⟩
theorem Tx.of_own {w : World} {base n : Nat} {v : Value} {l : Nat → ByteArray} (h : w.ownsRow base 9 1 v n (strL l n)) : ∃ a c, v = .slice a n c ∧ n ≤ c ∧ Tx w a n l := by
  rcases h.2 with ⟨rfl, h0⟩ | ⟨g, cap, cur, rfl, hg, hh, h1, h2, h3, h4⟩
  · exact ⟨none, 0, by rw [h0], by omega, fun hn => by omega⟩
  · refine ⟨_, _, rfl, h1, fun _ => ⟨g, 0, rfl, fun j hj => ?_⟩⟩
    have e := strL_get l n j hj
    rw [← h4, List.getElem?_take_of_lt (by omega), Array.getElem?_toList] at e
    rw [Nat.zero_add]
    simp [World.cell?, hh, e]
set_option maxRecDepth 100000 in
theorem run_spread (w : World) (ty base g0 : Nat) (a : Option Addr) (n c : Nat) (l : Nat → ByteArray) (hown : w.ownsRow base 9 1 (.slice (some ⟨g0, 0, none⟩) 0 0) 0 []) (hx : Tx w a n l) (hn : n ≤ 1000) (hbase : base ≤ w.heap.size) :
    ∃ g cap w', (Builtin.append_ #[44, 44] ty #[.slice (some ⟨g0, 0, none⟩) 0 0, .slice a n c]).run Tryz.prog w = .ok (.slice (some ⟨g, 0, none⟩) n cap) w' ∧ w'.ownsRow base 9 1 (.slice (some ⟨g, 0, none⟩) n cap) n (strL l n) ∧ w.grownBy w' (some g0) ∧ (g0 = g ∨ g = w.heap.size) := by
  obtain ⟨i0, hi, hz0, hz1, hz2⟩ := info_parts' infoS
  by_cases h0 : n = 0
  · subst h0
    refine ⟨g0, 0, w, ?_, hown, ⟨rfl, rfl, rfl, Nat.le_refl _, fun _ _ _ => rfl⟩, Or.inl rfl⟩
    refine run_append_nothing w 44 44 ty 9 i0 Tryz.underlying44 hi _ 0 0 (Nat.le_refl _) _ ⟨Or.inl ⟨9, Tryz.underlying44⟩, fun w' => ?_, ?_, ?_, by simp, by simp⟩
    · simp [Builtin.lenOf]
    · cases a <;> simp [Builtin.firstCells, loadCells, loadCellsFrom]
    · cases a <;> simp [Builtin.firstCells, loadCells, loadCellsFrom]
  · obtain ⟨k, o, rfl, hc⟩ := hx (by omega)
    obtain ⟨g, cap, w', hr, h2, h3, h4, h5⟩ := run_append_lies (P := Tryz.prog) w 44 ty base 9 i0 (.string ⟨#[]⟩) 1 16 Tryz.underlying44 hi hz0 hz1 hz2 rfl (by decide) (.slice (some ⟨g0, 0, none⟩) 0 0) 0 [] hown ⟨k, o, none⟩ n c (strL l n) (by rw [strL_length]; omega) (fun j u hu => by
      have hj : j < n := by have := (List.getElem?_eq_some_iff.1 hu).1; rwa [strL_length] at this
      rw [strL_get l n j hj] at hu
      injection hu with hu
      subst hu
      rw [Addr.add_mid]; exact hc j hj) (strL_one l n) (by omega) (by unfold maxLen; omega) (by omega) hbase w.heap.size rfl
    rw [Nat.zero_add, List.nil_append] at h2
    rw [Nat.zero_add] at hr
    refine ⟨g, cap, w', hr, h2, h3, ?_⟩
    rcases h4 with h4 | h4
    · exact Or.inl (by simpa [Value.ownBlock] using h4)
    · exact Or.inr h4
theorem step_run {P : Program} {ops : Array Oper} {o : Oper} {a : Act} {w w' : World} {K : Act → World → Prop} {Q : Exit → Act → World → Prop} {E : Prop} (hgd : o.guard = none) (s x : Operand) (t : TypeId) (vs vx r : Value)
    (ho : o.op = .call { callee := .builtin .append, args := #[s, x], argTypes := #[t, t] }) (hs : a.eval s = vs) (hx : a.eval x = vx) (hr : (Builtin.append_ #[t, t] o.type #[vs, vx]).run P w = .ok r w') (h : K (a.put o.dst r) w') :
    if Region.wanted o (yielded ops a.tmps) = true then Oper.wp P o a w K Q else E := by
  have hw : Region.wanted o (yielded ops a.tmps) = true := by simp [Region.wanted, hgd]
  rw [if_pos hw]
  unfold Oper.wp execOp
  simp only [ho, resolve, invoke, builtin, Sem.run_bind, Sem.run_pure, Result.andThen_ok, List.map_toArray, List.map_cons, List.map_nil, hs, hx, hr]
  exact h
theorem rappend_spent (D : Dv) (lv : Nat → Value) (av wv : Value) (rb N z : Nat) (s : ByteArray) (w : World) (hd : Ref w rb N D lv av wv) (hl : 0 ≤ D.left ∧ D.left ≤ 9223372036854775807) (hz : z < 8) (hs : s.size ≤ 128) (hc : D.cnt z < 16) (hm : D.may = false) :
    Calls Tryz.prog 97 #[.pointer (some ⟨rb, 0, none⟩), .int .i64 z, .string s] w fun e w' => e = .returned (.tuple #[.int .i64 0, .int .i64 14]) ∧ w' = w := by
  have hh := iz_true hz
  have hz2 : (z : Int) < 8 := by omega
  have hs2 : ¬ (128 : Int) < s.size := by omega
  have c1 := hd.cel.cell z (by omega)
  rw [rcell_l _ _ _ _ z hz] at c1
  obtain ⟨a, c, e, _, _⟩ := Tx.of_own (hd.row z hz)
  rw [e] at c1
  have HD : Hid (Ref w rb N D lv av wv) := hd
  have hc2 : ¬ (16 : Int) ≤ D.cnt z := by omega
  clear e hd
  go_enter Tryz.func97, Tryz.ntmps97
  go_wp2_with fail
  refine (in_any _ _ _ _).mono ?_
  rintro e w' ⟨rfl, rfl⟩
  rw [hh]
  go_wp2_with fail
  refine (spent_any D lv av wv rb N _ HD.out hl).mono ?_
  rintro e w1 ⟨rfl, h1, _⟩
  obtain rfl := h1 hm
  rw [hm]
  go_wp2_with fail
  go_ret2
  exact ⟨rfl, rfl⟩
theorem rapp_ref {w w5 : World} {rb N z : Nat} {s : ByteArray} {D : Dv} {lv : Nat → Value} {av wv x : Value} (h : Ref w rb N D lv av wv) (hS : Since w w5) (hz : z < 8) (hx : w5.ownsRow N 9 1 x (D.cnt z + 1) (blks (D.blk z) (D.cnt z) ++ [.string (txt 128 (sb s))])) (hnew : ∀ k, x.ownBlock = some k → w.heap.size ≤ k) :
    Ref (w5.setCell ⟨rb, z, none⟩ x) rb N (D.app z s) (updv lv z x) av wv where
  cel := by
    refine ((h.cel.since hS).set z (by omega) _).congr (fun j hj => ?_)
    unfold updv rcell
    by_cases h2 : j = z
    · rw [if_pos h2, if_pos (by omega)]
      dsimp only
      rw [if_pos h2]
    · rw [if_neg h2]
      by_cases h3 : j < 8
      · rw [if_pos h3, if_pos h3]
        dsimp only
        rw [if_neg h2]
      · rw [if_neg h3, if_neg h3]
        rfl
  row y hy := by
    by_cases e : y = z
    · subst e
      have e1 : (D.app y s).cnt y = D.cnt y + 1 := by simp [Dv.app]
      have e2 : blks ((D.app y s).blk y) (D.cnt y + 1) = blks (D.blk y) (D.cnt y) ++ [.string (txt 128 (sb s))] := by
        rw [blks_succ]
        congr 1
        · unfold blks
          exact List.map_congr_left (fun j hj => by
            have hj2 := List.mem_range.1 hj
            have : (D.app y s).blk y j = D.blk y j := by funext i; simp [Dv.app, show ¬ j = D.cnt y by omega]
            rw [this])
        · have : (D.app y s).blk y (D.cnt y) = sb s := by funext i; simp [Dv.app]
          rw [this]
      rw [e1, e2, show updv lv y x y = x by unfold updv; rw [if_pos rfl]]
      exact ownsRow_setCell_below hx h.lt _
    · have e1 : (D.app z s).cnt y = D.cnt y := by simp [Dv.app, e]
      have e2 : (D.app z s).blk y = D.blk y := by funext k i; simp [Dv.app, e]
      rw [e1, e2, show updv lv z x y = lv y by unfold updv; rw [if_neg e]]
      exact ownsRow_setCell_below (ownsRow_since (h.row y hy) hS) h.lt _
  at_ := ownsRow_setCell_below (ownsRow_since h.at_ hS) h.lt _
  what := ownsRow_setCell_below (ownsRow_since h.what hS) h.lt _
  apart y hy := by
    by_cases e : y = z
    · subst e
      rw [show updv lv y x y = x by unfold updv; rw [if_pos rfl]]
      cases hb : x.ownBlock with
      | none => exact Or.inl rfl
      | some q =>
        right
        intro e2
        have h1 := hnew q hb
        have h2 := (h.what.lt q e2.symm).2
        omega
    · rw [show updv lv z x y = lv y by unfold updv; rw [if_neg e]]
      exact h.apart y hy
  lt := h.lt
  le := by have h1 := h.le; have h2 := hS.size; have : (w5.setCell ⟨rb, z, none⟩ x).heap.size = w5.heap.size := by simp [World.setCell]
           omega
end Go.Proofs.YtbfjklpoheooaaaGreatDoor
end
section
namespace Go.Proofs.YtbfjklpoheooaaaGreatDoor
open Go.RowKit
set_option maxRecDepth 100000 in
set_option maxHeartbeats 4000000 in
theorem rappend_any (D : Dv) (lv : Nat → Value) (av wv : Value) (rb N z : Nat) (s : ByteArray) (w : World) (hd : Ref w rb N D lv av wv) (hl : 0 ≤ D.left ∧ D.left ≤ 9223372036854775807) (hz : z < 8) (hs : s.size ≤ 128) (hc : D.cnt z < 16) (hm : D.may = true) :
    Calls Tryz.prog 97 #[.pointer (some ⟨rb, 0, none⟩), .int .i64 z, .string s] w fun e w' => e = .returned (.tuple #[.int .i64 (D.cnt z), .int .i64 0]) ∧ (∃ lv', Ref w' rb N (D.burnt.app z s) lv' av wv) ∧ Fr rb none w w' := by
  have hh := iz_true hz
  have hz2 : (z : Int) < 8 := by omega
  have hs2 : ¬ (128 : Int) < s.size := by omega
  have c1 := hd.cel.cell z (by omega)
  rw [rcell_l _ _ _ _ z hz] at c1
  obtain ⟨a, c, ea, _, _⟩ := Tx.of_own (hd.row z hz)
  rw [ea] at c1
  have HD : Hid (Ref w rb N D lv av wv) := hd
  have hc2 : ¬ (16 : Int) ≤ D.cnt z := by omega
  clear hd ea
  go_enter Tryz.func97, Tryz.ntmps97
  go_wp2_with fail
  refine (in_any _ _ _ _).mono ?_
  rintro e w' ⟨rfl, rfl⟩
  rw [hh]
  go_wp2_with fail
  refine (spent_any D lv av wv rb N _ HD.out hl).mono ?_
  rintro e w1 ⟨rfl, _, h1⟩
  obtain ⟨hd1, hf1⟩ := h1 hm
  rw [hm]
  have HF1 : Hid (Fr rb none w' w1) := hf1
  have HD1 : Hid (Ref w1 rb N D.burnt lv av wv) := hd1
  rw [show D.cnt z = D.burnt.cnt z by rw [burnt_cnt]] at hc hc2 c1 ⊢
  clear h1 hd1 hf1 c1
  have HDE : Hid (D.cnt z = D.burnt.cnt z) := show D.cnt z = D.burnt.cnt z by rw [burnt_cnt]
  generalize hDb : D.burnt = E at *
  have HDB : Hid (D.burnt = E) := hDb
  clear hDb
  obtain ⟨a, c, ea, _, hTx⟩ := Tx.of_own (l := fun j => txt 128 (E.blk z j)) (HD1.out.row z hz)
  have c1 := HD1.out.cel.cell z (by omega)
  rw [rcell_l _ _ _ _ z hz, ea] at c1
  have HTX : Hid (Tx w1 a (E.cnt z) (fun j => txt 128 (E.blk z j))) := hTx
  have hS7 : Since w1 (w1.drew.alloc (.cells #[] 9)) := (Since.refl w1).drew.alloc _
  have HS7 : Hid (Since w1 (w1.drew.alloc (.cells #[] 9))) := hS7
  have HLT : Hid ((w1.drew.alloc (.cells #[] 9)).ownsRow w1.heap.size 9 1 (.slice (some ⟨w1.heap.size, 0, none⟩) 0 0) 0 []) := World.ownsRow_lit (base := w1.heap.size) w1.drew #[] 0 (Nat.le_refl _) (by unfold maxLen; omega) rfl
  obtain ⟨i1, hi, hz0, hz1, hz3⟩ := info_parts' infoS
  have HJ : Hid (Tryz.prog.info? 9 = some i1 ∧ i1.zero = some (.string ⟨#[]⟩) ∧ i1.size = 1 ∧ i1.bytes = 16) := ⟨hi, hz0, hz1, hz3⟩
  have HC : Hid (E.cnt z < 16) := hc
  have d1 : (w1.alloc (.cells #[] 9)).cell? ⟨rb, z, none⟩ = some (.slice a (E.cnt z) c) := by
    have := (HD1.out.since HS7.out).cel.cell z (by omega)
    rw [rcell_l _ _ _ _ z hz, ea] at this
    exact this
  have HEA : Hid (lv z = .slice a (E.cnt z) c) := ea
  clear hi hz0 hz1 hz3 hTx hS7 ea
  go_wp2_with fail
  go_region_law (first
    | (obtain ⟨g3, cap3, w2, hr, ho, hg, hgg⟩ := run_spread (w1.drew.alloc (.cells #[] 9)) 44 w1.heap.size w1.heap.size a (E.cnt z) c _ HLT.out (HTX.out.since HS7.out) (by have := HC.out; omega) HS7.out.size; refine step_run (by rfl) (.tmp 26) (.tmp 32) 44 _ _ _ (by rfl) (by rfl) (by rfl) hr ?_; have HO3 : Hid (w2.ownsRow w1.heap.size 9 1 (.slice (some ⟨g3, 0, none⟩) (E.cnt z) cap3) (E.cnt z) (blks (E.blk z) (E.cnt z))) := ho; have HS2 : Hid (Since w1 w2) := Below.grown HS7.out hg HS7.out.size (fun j hj => by cases hj; exact Nat.le_refl _); clear hr ho hg hgg)
    | (refine step_append_lies _ (by rfl) (.tmp 33) (.tmp 36) 44 (by rfl) w1.heap.size 9 i1 _ 1 16 Tryz.underlying44 HJ.out.1 HJ.out.2.1 HJ.out.2.2.1 HJ.out.2.2.2 (by rfl) (by decide) _ (E.cnt z) (blks (E.blk z) (E.cnt z)) (by rfl) (ownsRow_since HO3.out HS28.out) ⟨w3.heap.size, 0, none⟩ 1 1 [.string (txt 128 (sb s))] (by rfl) (by rfl) (World.news_of_block (heap_alloc_new w3 _)) (by simp [Value.oneCell']) (by decide) (by have := HC.out; unfold maxLen; omega) (by have := HC.out; omega) (Nat.le_trans HS2.out.size HS28.out.size) (w3.heap.size + 1) (by simp) ?_; intro g2 cap2 w4 hown2 hgrow2 hat2 hlt2; have HO2 : Hid (w4.ownsRow w1.heap.size 9 1 (.slice (some ⟨g2, 0, none⟩) (E.cnt z + 1) cap2) (E.cnt z + 1) (blks (E.blk z) (E.cnt z) ++ [.string (txt 128 (sb s))])) := hown2; have HS4 : Hid (Since w1 w4) := Below.grown (HS2.out.trans HS28.out) hgrow2 (Nat.le_trans HS2.out.size HS28.out.size) (fun j hj => (HO3.out.lt j hj).1); have hc4 := (HD1.out.since HS4.out).cel; have k1 := hc4.cell z (by omega); have l1 := hc4.frozen z (by omega); rw [rcell_l _ _ _ _ z hz, HEA.out] at k1; clear hown2 hgrow2 hat2 hlt2 hc4)
    | (go_simp; go_at_call 64; refine (rlong_any s 128 _ (by omega)).mono ?_; rintro e w3 ⟨rfl, hS3⟩; have HS28 : Hid (Since w2 (w3.alloc (.cells #[.string (txt 128 (sb s))] 9))) := Since.alloc hS3 _; dsimp only))
  all_goals
    go_wp2_with fail
    go_ret2
    rw [HDB.out, HDE.out]
    refine ⟨by first | rfl | (congr 3; omega), ⟨_, rapp_ref HD1.out HS4.out hz (ownsRow_base HO2.out HD1.out.le) (fun k hk => (HO2.out.lt k hk).1)⟩, (HF1.out.trans' (Fr.of_since HS4.out)).trans' (Fr.setCell _ _ _ _ _)⟩
end Go.Proofs.YtbfjklpoheooaaaGreatDoor
end
section
namespace Go.Proofs.YtbfjklpoheooaaaGreatDoor
open Go.RowKit
theorem own_cells {w : World} {base n : Nat} {e : TypeId} {v : Value} {xs : List Value} (h : w.ownsRow base e 1 v n xs) : ∃ a c, v = .slice a n c ∧ n ≤ c ∧ (0 < n → ∃ g, a = some ⟨g, 0, none⟩ ∧ base ≤ g ∧ ∀ j x, j < n → xs[j]? = some x → w.cell? ⟨g, j, none⟩ = some x) := by
  rcases h.2 with ⟨rfl, h0⟩ | ⟨g, cap, cur, rfl, hg, hh, h1, h2, h3, h4⟩
  · exact ⟨none, 0, by rw [h0], by omega, fun hn => by omega⟩
  · refine ⟨_, _, rfl, h1, fun _ => ⟨g, rfl, hg, fun j x hj e => ?_⟩⟩
    rw [← h4, List.getElem?_take_of_lt (by omega), Array.getElem?_toList] at e
    simp [World.cell?, hh, e]
def Dv.getTo (D : Dv) (k : Nat) (kept : Nat → Bool) : Nat → ByteArray
  | 0 => txt 500 (D.slot k)
  | n + 1 => if (D.ws.getD n (0, ⟨#[]⟩)).1 = k ∧ kept n = true then txt 500 (sb (D.ws.getD n (0, ⟨#[]⟩)).2) else D.getTo k kept n
theorem getTo_find (D : Dv) (k : Nat) (kept : Nat → Bool) : ∀ n, D.getTo k kept n = match ((List.range n).map fun j => item D.ws (n - 1 - j)).find? (hit k kept) with | some x => txt 500 (sb x.2.2) | none => txt 500 (D.slot k)
  | 0 => rfl
  | n + 1 => by
    have e : (List.range (n + 1)).map (fun j => item D.ws (n + 1 - 1 - j)) = item D.ws n :: (List.range n).map (fun j => item D.ws (n - 1 - j)) := by
      rw [List.range_succ_eq_map, List.map_cons, List.map_map]
      congr 1
      exact List.map_congr_left (fun j hj => by
        show item D.ws (n + 1 - 1 - (j + 1)) = _
        rw [show n + 1 - 1 - (j + 1) = n - 1 - j by omega])
    rw [e, List.find?_cons]
    unfold Dv.getTo
    by_cases hh : (D.ws.getD n (0, ⟨#[]⟩)).1 = k ∧ kept n = true
    · have : hit k kept (item D.ws n) = true := by unfold hit item; simp only [Bool.and_eq_true, beq_iff_eq]; exact hh
      rw [if_pos hh, this]
      rfl
    · have : hit k kept (item D.ws n) = false := by
        cases hc : hit k kept (item D.ws n) with
        | false => rfl
        | true =>
          unfold hit item at hc
          simp only [Bool.and_eq_true, beq_iff_eq] at hc
          exact absurd hc hh
      rw [if_neg hh, this]
      exact getTo_find D k kept n
theorem getTo_slot (D : Dv) (k : Nat) (kept : Nat → Bool) : D.getTo k kept D.ws.length = txt 500 (D.slotBy k kept) := by
  rw [getTo_find]
  unfold Dv.slotBy lastW dn
  split <;> (rename_i h; rw [h])
theorem atL_get (ws : List (Nat × ByteArray)) (j : Nat) (hj : j < ws.length) : (atL ws)[j]? = some (.int .i64 ((ws.getD j (0, ⟨#[]⟩)).1 : Int)) := by
  simp [atL, List.getD_eq_getElem?_getD, List.getElem?_eq_getElem hj]
theorem whatL_get (ws : List (Nat × ByteArray)) (j : Nat) (hj : j < ws.length) : (whatL ws)[j]? = some (.string (txt 500 (sb (ws.getD j (0, ⟨#[]⟩)).2))) := by
  simp [whatL, List.getD_eq_getElem?_getD, List.getElem?_eq_getElem hj]
set_option maxRecDepth 100000 in
set_option maxHeartbeats 1000000 in
theorem rget_any (D : Dv) (lv : Nat → Value) (av wv : Value) (rb N k : Nat) (w : World) (hd : Ref w rb N D lv av wv) (hk : k < 2) (hn : D.ws.length ≤ 1000) :
    Calls Tryz.prog 71 #[.pointer (some ⟨rb, 0, none⟩), .int .i64 k] w fun e w' => e = .returned (.tuple #[.string (txt 500 (D.slotBy k (fun _ => true))), .int .i64 0]) ∧ w' = w := by
  have hh := is_true hk
  have hk2 : (k : Int) < 2 := by omega
  obtain ⟨aa, ac, ea, _, ha⟩ := own_cells hd.at_
  obtain ⟨wa, wc, ew, _, hw⟩ := own_cells hd.what
  have c1 := hd.cel.cell (16 + k) (by omega)
  rw [rcell_slot _ _ _ _ k hk] at c1
  have c2 := hd.cel.cell 18 (by omega)
  rw [rcell_at, ea] at c2
  have c3 := hd.cel.cell 19 (by omega)
  rw [rcell_what, ew] at c3
  have HA : Hid (0 < D.ws.length → ∃ g, aa = some ⟨g, 0, none⟩ ∧ N ≤ g ∧ ∀ j x, j < D.ws.length → (atL D.ws)[j]? = some x → w.cell? ⟨g, j, none⟩ = some x) := ha
  have HW : Hid (0 < D.ws.length → ∃ g, wa = some ⟨g, 0, none⟩ ∧ N ≤ g ∧ ∀ j x, j < D.ws.length → (whatL D.ws)[j]? = some x → w.cell? ⟨g, j, none⟩ = some x) := hw
  have HG : Hid (D.getTo k (fun _ => true) D.ws.length = txt 500 (D.slotBy k (fun _ => true))) := getTo_slot D k _
  clear hd ea ew ha hw
  go_enter Tryz.func71, Tryz.ntmps71
  go_wp2_with fail
  refine (in_any _ _ _ _).mono ?_
  rintro e w' ⟨rfl, rfl⟩
  rw [hh]
  go_wp2_with fail
  go_loopw [23, 6] (fun i s wr => ∃ n : Nat, n ≤ D.ws.length ∧ i = .int .i64 n ∧ s = .string (D.getTo k (fun _ => true) n) ∧ wr = w') (fun i _ _ => D.ws.length - (intOf i).toNat)
  case atStart => exact ⟨0, by omega, rfl, rfl, rfl⟩
  case round =>
    obtain ⟨n, hnl, rfl, rfl, rfl⟩ := hrel
    by_cases hlt : n < D.ws.length
    · have hlt2 : (n : Int) < D.ws.length := by omega
      obtain ⟨ga, rfl, _, ha⟩ := HA.out (by omega)
      obtain ⟨gw, rfl, _, hw⟩ := HW.out (by omega)
      have q1 := ha n _ hlt (atL_get _ n hlt)
      have q2 := hw n _ hlt (whatL_get _ n hlt)
      clear ha hw
      by_cases he : (D.ws.getD n (0, ⟨#[]⟩)).1 = k
      · rw [he] at q1
        have HN : Hid (D.getTo k (fun _ => true) (n + 1) = txt 500 (sb (D.ws.getD n (0, ⟨#[]⟩)).2)) := by
          show D.getTo k (fun _ => true) (n + 1) = _
          rw [Dv.getTo, if_pos ⟨he, rfl⟩]
        generalize D.ws.getD n (0, ⟨#[]⟩) = p at *
        clear he
        go_wp2_with fail
        go_roundw
        case rel => exact ⟨n + 1, by omega, by go_num, by rw [HN.out], by first | rfl | trivial⟩
        case measure => simp [intOf]; omega
      · have HN : Hid (D.getTo k (fun _ => true) (n + 1) = D.getTo k (fun _ => true) n) := by
          show D.getTo k (fun _ => true) (n + 1) = _
          rw [Dv.getTo, if_neg (fun h => he h.1)]
        have he2 : ¬ (((D.ws.getD n (0, ⟨#[]⟩)).1 : Nat) : Int) = (k : Int) := by omega
        generalize D.ws.getD n (0, ⟨#[]⟩) = p at *
        clear he
        go_wp2_with fail
        go_roundw
        case rel => exact ⟨n + 1, by omega, by go_num, by rw [HN.out], by first | rfl | trivial⟩
        case measure => simp [intOf]; omega
    · have hne : n = D.ws.length := by omega
      subst hne
      rw [HG.out]
      go_wp2_with fail
      go_ret2
      exact ⟨rfl, rfl⟩
end Go.Proofs.YtbfjklpoheooaaaGreatDoor
end
