/- Put, Reset, Fuse. -/
import Derived.Test.YtjfhggcjdckfgaaDoorZ5
import Derived.Deep.RegionWith
import Derived.Deep.RegionHeld3
import Derived.Deep.RegionLaw
import Derived.Deep.AppendLies
namespace Go.Proofs.YtjfhggcjdckfgaaDoor
set_option linter.unusedSimpArgs false
set_option linter.unusedVariables false
open Go.RowKit

theorem put_bad (b : Nat) (k : Int) (s : ByteArray) (w : World) (hk : ¬ (0 ≤ k ∧ k < 2)) :
    Calls Tryd.prog 33 #[.pointer (some ⟨b, 0, none⟩), .int .i64 k, .string s] w fun e w' => e = .returned (.iface 30 (.int .i64 2)) ∧ w' = w := by
  have hh := hs_false hk
  go_enter Tryd.func33, Tryd.ntmps33
  go_wp2_with fail
  refine (orNew_any _ _).mono ?_
  rintro e w' ⟨rfl, rfl⟩
  go_wp2_with fail
  refine (hasSlot_any _ _).mono ?_
  rintro e w' ⟨rfl, rfl⟩
  rw [hh]
  go_wp2_with fail
  go_ret
  exact ⟨rfl, rfl⟩
theorem put_long (b k : Nat) (s : ByteArray) (w : World) (hk : k < 2) (hs : 500 < s.size) :
    Calls Tryd.prog 33 #[.pointer (some ⟨b, 0, none⟩), .int .i64 k, .string s] w fun e w' => e = .returned (.iface 30 (.int .i64 4)) ∧ w' = w := by
  have hh := hs_true hk
  have hs2 : (500 : Int) < s.size := by omega
  go_enter Tryd.func33, Tryd.ntmps33
  go_wp2_with fail
  refine (orNew_any _ _).mono ?_
  rintro e w' ⟨rfl, rfl⟩
  go_wp2_with fail
  refine (hasSlot_any _ _).mono ?_
  rintro e w' ⟨rfl, rfl⟩
  rw [hh]
  go_wp2_with fail
  go_ret
  exact ⟨rfl, rfl⟩
theorem put_spent (D : Dv) (v : Value) (b k : Nat) (s : ByteArray) (w : World) (hd : Dev w b D v) (hk : k < 2) (hs : s.size ≤ 500) (hm : D.may = false) :
    Calls Tryd.prog 33 #[.pointer (some ⟨b, 0, none⟩), .int .i64 k, .string s] w fun e w' => e = .returned (.iface 30 (.int .i64 14)) ∧ w' = w := by
  have hh := hs_true hk
  have hs2 : (s.size : Int) ≤ 500 := by omega
  go_enter Tryd.func33, Tryd.ntmps33
  go_wp2_with fail
  refine (orNew_any _ _).mono ?_
  rintro e w' ⟨rfl, rfl⟩
  go_wp2_with fail
  refine (hasSlot_any _ _).mono ?_
  rintro e w' ⟨rfl, rfl⟩
  rw [hh]
  go_wp2_with fail
  refine (burn_any D v b _ hd).mono ?_
  rintro e w1 ⟨rfl, h1, _⟩
  obtain rfl := h1 hm
  rw [hm]
  go_wp2_with fail
  go_ret
  exact ⟨rfl, rfl⟩
/-- a write of a slot -/
def Dv.wrote (D : Dv) (k : Nat) (s : ByteArray) : Dv := { D with ws := D.ws ++ [(k, s)] }
theorem infoW : (Tryd.prog.info? 159).map (fun i => (i.zero, i.size, i.bytes)) = some (some (.agg #[.int .i64 0, .string ⟨#[]⟩]), 2, 24) := by kernel_rfl
theorem burnt_ws (D : Dv) : D.burnt.ws = D.ws := by unfold Dv.burnt; split <;> rfl
theorem put_keep {w w3 : World} {b : Nat} {D : Dv} {v : Value} (hd : Dev w b D v) (hg : w.grownBy w3 v.ownBlock) : Cel w3 b 17403 (dcell D v) where
  cell j hj := hg.cell (hd.cel.cell j hj) hd.ne
  frozen j hj := (World.frozen?_of_block (w := w) (hg.block b hd.lt hd.ne)).trans (hd.cel.frozen j hj)
theorem wcells_snoc (ws : List (Nat × ByteArray)) (k : Nat) (s : ByteArray) : wcells (ws ++ [(k, s)]) = wcells ws ++ [.int .i64 k, .string s] := by simp [wcells]
theorem put_dev {w w3 : World} {b g cap k : Nat} {D : Dv} {v : Value} {s : ByteArray} (hd : Dev w b D v) (hk : k < 2) (hs : s.size ≤ 500) (hn : D.ws.length < 1000)
    (hown : w3.ownsRow 0 159 2 (.slice (some ⟨g, 0, none⟩) (D.ws.length + 1) cap) (D.ws.length + 1) (wcells D.ws ++ [.int .i64 k, .string s])) (hg : w.grownBy w3 v.ownBlock) (hat : v.ownBlock = some g ∨ g = w.heap.size) :
    Dev (w3.setCell ⟨b, 17400, none⟩ (.slice (some ⟨g, 0, none⟩) (D.ws.length + 1) cap)) b (D.wrote k s) (.slice (some ⟨g, 0, none⟩) (D.ws.length + 1) cap) where
  cel := by
    refine ((put_keep hd hg).set 17400 (by omega) _).congr (fun j hj => ?_)
    unfold updv
    by_cases e : j = 17400
    · subst e; rw [if_pos rfl, dcell_ws]
    · rw [if_neg e]
      unfold dcell
      have h3 : j < 16400 ∨ (¬ j < 16400 ∧ j < 17400) ∨ (¬ j < 16400 ∧ ¬ j < 17400) := by omega
      rcases h3 with h | ⟨h, h'⟩ | ⟨h, h'⟩
      · rw [if_pos h, if_pos h]; rfl
      · rw [if_neg h, if_neg h, if_pos h', if_pos h']; rfl
      · rw [if_neg h, if_neg h, if_neg h', if_neg h', if_neg e, if_neg e]; rfl
  own := by
    have hne : b ≠ g := by
      rcases hat with h | h
      · intro e; subst e; exact hd.ne h.symm
      · have := hd.lt; omega
    have h2 := ownsRow_fr hown (Fr.setCell b none 17400 w3 (.slice (some ⟨g, 0, none⟩) (D.ws.length + 1) cap)) (by simp [Value.ownBlock]; exact fun e => hne e.symm) (Or.inr (by simp [Value.ownBlock]))
    have e1 : (D.wrote k s).ws = D.ws ++ [(k, s)] := rfl
    rw [e1, wcells_snoc, List.length_append]
    exact h2
  ne := by
    rcases hat with h | h
    · intro e; simp [Value.ownBlock] at e; subst e; exact hd.ne h.symm
    · intro e; simp [Value.ownBlock] at e; have := hd.lt; omega
  ok := ⟨hd.ok.cnt, hd.ok.sure, hd.ok.zero, hd.ok.left, fun p hp => by
      rcases List.mem_append.1 hp with h | h
      · exact hd.ok.ws p h
      · rw [List.mem_singleton.1 h]; exact ⟨hk, hs⟩, by show (D.ws ++ [(k, s)]).length ≤ 1000; simp; omega⟩
theorem put_fr {w w3 : World} {b : Nat} {v x : Value} (hg : w.grownBy w3 v.ownBlock) : Fr b v.ownBlock w (w3.setCell ⟨b, 17400, none⟩ x) :=
  (Fr.trans' ⟨hg.os, hg.tape, hg.output, hg.size, fun k hk _ h => hg.block k hk h⟩ (Fr.setCell b v.ownBlock 17400 w3 x))
theorem Fr.wide {b : Nat} {g : Option Nat} {w w' : World} (h : Fr b none w w') : Fr b g w w' := ⟨h.os, h.tape, h.output, h.size, fun k hk hb _ => h.block k hk hb (by simp)⟩
set_option maxRecDepth 100000 in
theorem put_any (D : Dv) (v : Value) (b k : Nat) (s : ByteArray) (w : World) (hd : Dev w b D v) (hk : k < 2) (hs : s.size ≤ 500) (hm : D.may = true) (hn : D.ws.length < 1000) :
    Calls Tryd.prog 33 #[.pointer (some ⟨b, 0, none⟩), .int .i64 k, .string s] w fun e w' => e = .returned .nilIface ∧ ∃ v', Dev w' b (D.burnt.wrote k s) v' ∧ Fr b v.ownBlock w w' ∧ Nx w v.ownBlock v'.ownBlock := by
  have hh := hs_true hk
  have hs2 : (s.size : Int) ≤ 500 := by omega
  have HD := (show Hid (Dev w b D v) from hd)
  clear hd
  go_enter Tryd.func33, Tryd.ntmps33
  go_wp2_with fail
  refine (orNew_any _ _).mono ?_
  rintro e w' ⟨rfl, rfl⟩
  go_wp2_with fail
  refine (hasSlot_any _ _).mono ?_
  rintro e w' ⟨rfl, rfl⟩
  rw [hh]
  go_wp2_with fail
  refine (burn_any D v b _ HD.out).mono ?_
  rintro e w1 ⟨rfl, _, h1⟩
  obtain ⟨hd1, hf1⟩ := h1 hm
  rw [hm]
  have HD1 := (show Hid _ from hd1)
  clear h1 hd1
  go_wp2_with fail
  have c1 : w1.drew.cell? ⟨b, 17400, none⟩ = some v := by rw [(HD1.out.since (Since.refl _).drew).cel.cell 17400 (by omega)]; rfl
  have hlen : D.burnt.ws.length + 1 ≤ 1000 := by rw [burnt_ws]; omega
  obtain ⟨i0, hi, hz0, hz1, hz2⟩ := info_parts' infoW
  have HI := (show Hid (Tryd.prog.info? 159 = some i0 ∧ i0.zero = some (.agg #[.int .i64 0, .string ⟨#[]⟩]) ∧ i0.size = 2 ∧ i0.bytes = 24) from ⟨hi, hz0, hz1, hz2⟩)
  clear hi hz0 hz1 hz2
  have HL := (show Hid _ from hlen)
  clear hlen
  go_region_law (first
    | (refine step_append_lies _ (by rfl) (.tmp 28) (.tmp 33) 153 (by rfl) 0 159 i0 _ 2 24 Tryd.underlying153 HI.out.1 HI.out.2.1 HI.out.2.2.1 HI.out.2.2.2 (by rfl) (by decide) v D.burnt.ws.length (wcells D.burnt.ws) (by rfl) (((HD1.out.since (Since.refl _).drew).since hS2).own.alloc _) ⟨w2.heap.size, 0, none⟩ 1 1 [.int .i64 k, .string s] (by rfl) (by rfl) (World.news_of_block (heap_alloc_new w2 _)) (by simp [Value.oneCell']) (by decide) (by have := HL.out; unfold maxLen; omega) (by have := HL.out; omega) (Nat.zero_le _) (w2.heap.size + 1) (by simp) ?_; intro g cap w3 hown hgrow hat hlt; have hC3 := put_keep ((HD1.out.since (Since.refl _).drew).since (hS2.alloc _)) hgrow; have c3 := hC3.cell 17400 (by omega); rw [dcell_ws] at c3; have f3 := hC3.frozen 17400 (by omega))
    | (go_simp; go_at_call 103; refine (clone_any s _ (by omega)).mono ?_; rintro e w2 ⟨rfl, hS2⟩; have c2 := ((HD1.out.since (Since.refl _).drew).since hS2).cel.cell 17400 (by omega); rw [dcell_ws] at c2; have c4 := ((HD1.out.since (Since.refl _).drew).since (hS2.alloc (.cells #[.int .i64 k, .string s] 159))).cel.cell 17400 (by omega); rw [dcell_ws] at c4; dsimp only))
  all_goals
    go_wp2_with fail
    go_ret
    refine ⟨rfl, _, put_dev ((HD1.out.since (Since.refl _).drew).since (hS2.alloc _)) hk hs (by have := HL.out; omega) hown hgrow (by simpa using hat), (hf1.wide.trans' (Fr.of_since ((Since.refl _).drew.trans (hS2.alloc _)))).trans' (put_fr hgrow), ?_⟩
    intro j hj
    simp only [Value.ownBlock, Option.some.injEq] at hj
    subst hj
    rcases hat with h | h
    · exact Or.inl h
    · right
      have h1 := hf1.size
      have h2 := hS2.size
      have h3 : w1.drew.heap.size = w1.heap.size := rfl
      omega
end Go.Proofs.YtjfhggcjdckfgaaDoor
