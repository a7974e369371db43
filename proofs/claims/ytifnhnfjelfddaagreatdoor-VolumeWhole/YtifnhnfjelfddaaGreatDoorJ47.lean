import Derived.Test.YtifnhnfjelfddaaGreatDoorJ40
import Derived.Test.YtifnhnfjelfddaaGreatDoorJ42
import Derived.Test.YtifnhnfjelfddaaGreatDoorJ46
set_option linter.unusedSimpArgs false
set_option linter.unusedVariables false
section
namespace Go.Proofs.YtifnhnfjelfddaaGreatDoor
set_option maxRecDepth 100000
namespace Vl
open Go.RowKit
open Tw (Tb tcell tval ccell)
section
variable {w0 w : World} {vb db cb : Nat} {kb kt : ByteArray} {S : Vs} {v : Value}
def OpenTo (kb kt : ByteArray) (S : Vs) (r : Int) (S' : Vs) : Prop :=
  (whole kb kt S.D (S.c + 1) ∧ r = 0 ∧ S' = { S with T := tabAt S.D (S.c + 1), X := saysTo kb S.D (tabAt S.D (S.c + 1)) 24, c := S.c + 1 }) ∨ (¬ whole kb kt S.D (S.c + 1) ∧ S.c = 0 ∧ r = 0 ∧ S' = S) ∨ (¬ whole kb kt S.D (S.c + 1) ∧ S.c ≠ 0 ∧ whole kb kt S.D S.c ∧ r = 0 ∧ S' = { S with T := tabAt S.D S.c, X := saysTo kb S.D (tabAt S.D S.c) 24 }) ∨ (¬ whole kb kt S.D (S.c + 1) ∧ S.c ≠ 0 ∧ ¬ whole kb kt S.D S.c ∧ r = 15 ∧ S' = S)
set_option maxHeartbeats 4000000 in
theorem resume_any (B : Base w0 kb kt) (hc : 0 ≤ S.c ∧ S.c < 1000000000) (h : Vol w0 w vb db cb kb kt S v) :
    Calls Tryz.prog 50 #[.pointer (some ⟨vb, 0, none⟩)] w fun e w' => ∃ r S', e = .returned (ev r) ∧ OpenTo kb kt S r S' ∧ Vto w0 w w' vb db cb kb kt S' v := by
  have HB : Hid (Base w0 kb kt) := B
  have H : Hid (Vol w0 w vb db cb kb kt S v) := h
  obtain ⟨hc0, hc1⟩ := hc
  have q1 := h.c1
  have HT1 : Hid (∀ W V SS, Vol w0 W vb db cb kb kt SS V → Calls Tryz.prog 82 #[.pointer (some ⟨vb, 0, none⟩), .int .i64 (S.c + 1)] W fun e w' => (whole kb kt SS.D (S.c + 1) ∧ e = .returned (.bool true) ∧ Vto w0 W w' vb db cb kb kt { SS with T := tabAt SS.D (S.c + 1), X := saysTo kb SS.D (tabAt SS.D (S.c + 1)) 24 } V) ∨ (¬ whole kb kt SS.D (S.c + 1) ∧ e = .returned (.bool false) ∧ Since W w')) := fun W V SS hV => take_any B (S.c + 1) (by omega) hV
  have HT0 : Hid (∀ W V SS, Vol w0 W vb db cb kb kt SS V → Calls Tryz.prog 82 #[.pointer (some ⟨vb, 0, none⟩), .int .i64 S.c] W fun e w' => (whole kb kt SS.D S.c ∧ e = .returned (.bool true) ∧ Vto w0 W w' vb db cb kb kt { SS with T := tabAt SS.D S.c, X := saysTo kb SS.D (tabAt SS.D S.c) 24 } V) ∨ (¬ whole kb kt SS.D S.c ∧ e = .returned (.bool false) ∧ Since W w')) := fun W V SS hV => take_any B S.c hc0 hV
  clear h B
  go_enter Tryz.func50, Tryz.ntmps50
  go_wp2_with fail
  refine (Mt.get_any cb S.c _ (H.out.ctr.cell 0 (by omega))).mono ?_
  rintro e wx ⟨rfl, hw⟩
  rw [hw]
  clear hw wx
  go_wp2_with fail
  refine (HT1.out _ _ _ H.out).mono ?_
  rintro e w1 (⟨hw1, rfl, h1⟩ | ⟨hw1, rfl, h1⟩)
  · have HW : Hid (whole kb kt S.D (S.c + 1)) := hw1
    obtain ⟨v1, h1v, F1⟩ := h1.cont
    have H1 : Hid (Vol w0 w1 vb db cb kb kt { S with T := tabAt S.D (S.c + 1), X := saysTo kb S.D (tabAt S.D (S.c + 1)) 24 } v1) := h1v
    have HF1 : Hid (∀ w' S', Vto w0 w1 w' vb db cb kb kt S' v1 → Vto w0 w w' vb db cb kb kt S' v) := F1
    clear hw1 h1 h1v F1 q1
    have q2 := H1.out.c1
    go_wp2_with fail
    refine (Mt.raise_up cb S.c (S.c + 1) _ (H1.out.ctr.cell 0 (by omega)) (H1.out.ctr.frozen 0 (by omega)) (by omega)).mono ?_
    rintro e w2 ⟨rfl, h2⟩
    have HT2 : Hid (Vto w0 w w2 vb db cb kb kt { S with T := tabAt S.D (S.c + 1), X := saysTo kb S.D (tabAt S.D (S.c + 1)) 24, c := S.c + 1 } v) := by
      rw [h2]
      exact HF1.out _ _ (H1.out.ctrTo (c' := S.c + 1))
    clear h2
    go_wp2_with fail
    go_ret
    exact ⟨0, _, by rw [ev0]; rfl, Or.inl ⟨HW.out, rfl, rfl⟩, HT2.out⟩
  · have HW : Hid (¬ whole kb kt S.D (S.c + 1)) := hw1
    have H1 : Hid (Vol w0 w1 vb db cb kb kt S v) := H.out.go h1
    have HS1 : Hid (Since w w1) := h1
    clear hw1 h1 q1
    by_cases h0 : S.c = 0
    · have HC : Hid (S.c = 0) := h0
      go_wp2_with fail
      go_ret
      exact ⟨0, S, by rw [ev0]; rfl, Or.inr (Or.inl ⟨HW.out, HC.out, rfl, rfl⟩), H1.out.self |> Vto.pre HS1.out⟩
    · have HC : Hid (S.c ≠ 0) := h0
      go_wp2_with fail
      refine (HT0.out _ _ _ H1.out).mono ?_
      rintro e w2 (⟨hw2, rfl, h2⟩ | ⟨hw2, rfl, h2⟩)
      · have HW2 : Hid (whole kb kt S.D S.c) := hw2
        have HT2 : Hid (Vto w0 w w2 vb db cb kb kt { S with T := tabAt S.D S.c, X := saysTo kb S.D (tabAt S.D S.c) 24 } v) := Vto.pre HS1.out h2
        clear hw2 h2
        go_wp2_with fail
        go_ret
        exact ⟨0, _, by rw [ev0]; rfl, Or.inr (Or.inr (Or.inl ⟨HW.out, HC.out, HW2.out, rfl, rfl⟩)), HT2.out⟩
      · have HW2 : Hid (¬ whole kb kt S.D S.c) := hw2
        have HS2 : Hid (Since w w2) := HS1.out.trans h2
        clear hw2 h2
        go_wp2_with fail
        go_ret
        exact ⟨15, S, by rw [evn 15 (by decide)]; rfl, Or.inr (Or.inr (Or.inr ⟨HW.out, HC.out, HW2.out, rfl, rfl⟩)), H.out.to HS2.out⟩
end
def kbOf (secret : ByteArray) : ByteArray := Mt.keyOf secret Mt.wBlocks
def ktOf (secret : ByteArray) : ByteArray := Mt.keyOf secret Mt.wTables
theorem keyOf_size (s u : ByteArray) : (Mt.keyOf s u).size = 32 := by
  unfold Mt.keyOf
  rw [strOfNums_size]
  rfl
end Vl
end Go.Proofs.YtifnhnfjelfddaaGreatDoor
end
section
namespace Go.Proofs.YtifnhnfjelfddaaGreatDoor
set_option maxRecDepth 100000
namespace Vl
open Go.RowKit
open Tw (Tb tcell tval ccell)
def KeyB (s k : ByteArray) (u : Int) : Prop := ∀ W, Sm.Tab W → Calls Tryz.prog 81 #[.string s, .int .u8 u] W fun e w' => e = .returned (.tuple #[.string k, .nilIface]) ∧ Since W w'
theorem keyB (s : ByteArray) (h : s.size = 16) : KeyB s (kbOf s) 98 := fun W hW => Mt.key_hit s 98 Mt.wBlocks W h (Or.inl ⟨rfl, rfl⟩) hW
theorem keyT (s : ByteArray) (h : s.size = 16) : KeyB s (ktOf s) 116 := fun W hW => Mt.key_hit s 116 Mt.wTables W h (Or.inr ⟨rfl, rfl⟩) hW
set_option maxHeartbeats 4000000 in
theorem keyed_any (s : ByteArray) (w : World) (h : s.size = 16) (hT : Sm.Tab w) :
    Calls Tryz.prog 49 #[.string s] w fun e w' => ∃ w1, e = .returned (.tuple #[.pointer (some ⟨w1.heap.size, 0, none⟩), .nilIface]) ∧ Since w w1 ∧ w' = w1.alloc (.cells ((Tryz.zeroCells95.setIfInBounds 2 (.string (kbOf s))).setIfInBounds 3 (.string (ktOf s))) 95) := by
  have HKB : Hid (KeyB s (kbOf s) 98) := keyB s h
  have HKT : Hid (KeyB s (ktOf s) 116) := keyT s h
  have HT : Hid (Sm.Tab w) := hT
  clear h hT
  generalize kbOf s = kb at *
  generalize ktOf s = kt at *
  go_enter Tryz.func49, Tryz.ntmps49
  go_wp2_with fail
  refine (HKB.out _ HT.out).mono ?_
  rintro e w1 ⟨rfl, h1⟩
  have HS1 : Hid (Since w w1) := h1
  clear h1
  go_wp2_with fail
  refine (HKT.out _ (HT.out.since HS1.out)).mono ?_
  rintro e w2 ⟨rfl, h2⟩
  have HS2 : Hid (Since w w2) := HS1.out.trans h2
  clear h2
  go_wp2_with fail
  go_ret2
  exact ⟨w2, rfl, HS2.out, rfl⟩
structure DC (w0 w : World) (db cb : Nat) (D : Dv) (c : Int) (v : Value) : Prop where
  dev : Dev w db D v
  ctr : Cel w cb 1 (fun _ => .int .i64 c)
  ne : db ≠ cb
  own : v.ownBlock ≠ some cb
  since : Since w0 w
  lo : w0.heap.size ≤ db ∧ w0.heap.size ≤ cb ∧ ∀ k, v.ownBlock = some k → w0.heap.size ≤ k
theorem DC.go {w0 w w' : World} {db cb : Nat} {D : Dv} {c : Int} {v : Value} (h : DC w0 w db cb D c v) (hs : Since w w') : DC w0 w' db cb D c v := ⟨h.dev.since hs, h.ctr.since hs, h.ne, h.own, h.since.trans hs, h.lo⟩
theorem Vol.dc {w0 w : World} {vb db cb : Nat} {kb kt : ByteArray} {S : Vs} {v : Value} (h : Vol w0 w vb db cb kb kt S v) : DC w0 w db cb S.D S.c v := ⟨h.dev, h.ctr, h.ne.2.2, h.own.2, h.since, h.lo.2⟩
theorem zeroVol_get (j : Nat) (hj : j < 102) : Tryz.zeroCells95[j]? = some (if j = 0 ∨ j = 1 then .pointer none else vcell 0 0 ⟨#[]⟩ ⟨#[]⟩ Tb.zero (fun _ => ⟨#[]⟩) false j) := by
  have hr : Tryz.zeroCells95.toList = brow 102 (fun j => if j = 0 ∨ j = 1 then .pointer none else vcell 0 0 ⟨#[]⟩ ⟨#[]⟩ Tb.zero (fun _ => ⟨#[]⟩) false j) := by kernel_rfl
  rw [← Array.getElem?_toList, hr]
  exact brow_get _ _ _ hj
theorem newVol (w : World) (kb kt : ByteArray) (db cb : Nat) (b : Nat) (hb : b = w.heap.size) :
    Cel (((w.alloc (.cells ((Tryz.zeroCells95.setIfInBounds 2 (.string kb)).setIfInBounds 3 (.string kt)) 95)).setCell ⟨b, 0, none⟩ (.pointer (some ⟨db, 0, none⟩))).setCell ⟨b, 1, none⟩ (.pointer (some ⟨cb, 0, none⟩))) b 102 (vcell db cb kb kt Tb.zero (fun _ => ⟨#[]⟩) false) := by
  have h0 : Cel (w.alloc (.cells ((Tryz.zeroCells95.setIfInBounds 2 (.string kb)).setIfInBounds 3 (.string kt)) 95)) b 102 (fun j => if j = 3 then .string kt else if j = 2 then .string kb else if j = 0 ∨ j = 1 then .pointer none else vcell 0 0 ⟨#[]⟩ ⟨#[]⟩ Tb.zero (fun _ => ⟨#[]⟩) false j) := by
    refine Cel.new w _ _ _ _ (fun j hj => ?_) _ hb
    have hz := Tryz.zeroCells95_size
    by_cases h3 : j = 3
    · subst h3
      rw [if_pos rfl, Array.getElem?_setIfInBounds_self_of_lt (by rw [Array.size_setIfInBounds, hz]; omega)]
    · rw [if_neg h3, Array.getElem?_setIfInBounds_ne (fun e => h3 e.symm)]
      by_cases h2 : j = 2
      · subst h2
        rw [if_pos rfl, Array.getElem?_setIfInBounds_self_of_lt (by rw [hz]; omega)]
      · rw [if_neg h2, Array.getElem?_setIfInBounds_ne (fun e => h2 e.symm)]
        exact zeroVol_get j hj
  refine ((h0.set 0 (by omega) _).set 1 (by omega) _).congr (fun j hj => ?_)
  unfold updv
  by_cases h1 : j = 1
  · subst h1; rfl
  · rw [if_neg h1]
    by_cases h00 : j = 0
    · subst h00; rfl
    · rw [if_neg h00]
      by_cases h3 : j = 3
      · subst h3; rfl
      · by_cases h2 : j = 2
        · subst h2; rfl
        · simp only [if_neg h3, if_neg h2, h00, h1, or_self, if_false]
          unfold vcell
          simp only [if_neg h00, if_neg h1, if_neg h2, if_neg h3]
def Opened (w0 w w' : World) (db cb : Nat) (s : ByteArray) (D : Dv) (c : Int) (v : Value) (e : Ending) : Prop :=
  ∃ vb r S' v', OpenTo (kbOf s) (ktOf s) (fresh D c) r S' ∧ ((r = 0 ∧ e = .returned (.tuple #[.pointer (some ⟨vb, 0, none⟩), .nilIface])) ∨ (r ≠ 0 ∧ e = .returned (.tuple #[.pointer none, ev r]))) ∧ w.heap.size ≤ vb ∧ Vol w0 w' vb db cb (kbOf s) (ktOf s) S' v' ∧
    Fs (fun k => k = db ∨ k = cb ∨ v.ownBlock = some k) w w' ∧ Nx w v.ownBlock v'.ownBlock
set_option maxHeartbeats 4000000 in
theorem open_any {w0 w : World} {db cb : Nat} {D : Dv} {c : Int} {v : Value} (s : ByteArray) (hs : s.size = 16) (hT : Sm.Tab w0) (hc : 0 ≤ c ∧ c < 1000000000) (h : DC w0 w db cb D c v) :
    Calls Tryz.prog 19 #[.pointer (some ⟨db, 0, none⟩), .pointer (some ⟨cb, 0, none⟩), .string s] w fun e w' => Opened w0 w w' db cb s D c v e := by
  have HB : Hid (Base w0 (kbOf s) (ktOf s)) := ⟨hT, keyOf_size _ _, keyOf_size _ _⟩
  have H : Hid (DC w0 w db cb D c v) := h
  have HC : Hid (0 ≤ c ∧ c < 1000000000) := hc
  have HK : Hid (∀ W, Sm.Tab W → Calls Tryz.prog 49 #[.string s] W fun e w' => ∃ w1, e = .returned (.tuple #[.pointer (some ⟨w1.heap.size, 0, none⟩), .nilIface]) ∧ Since W w1 ∧ w' = w1.alloc (.cells ((Tryz.zeroCells95.setIfInBounds 2 (.string (kbOf s))).setIfInBounds 3 (.string (ktOf s))) 95)) := fun W hW => keyed_any s W hs hW
  unfold Opened
  generalize kbOf s = kb at *
  generalize ktOf s = kt at *
  clear h hc hs hT
  go_enter Tryz.func19, Tryz.ntmps19
  go_wp2_with fail
  refine (HK.out _ (HB.out.tab.since H.out.since)).mono ?_
  rintro e w2 ⟨w1, rfl, h1, h2⟩
  have H1 : Hid (DC w0 w1 db cb D c v) := H.out.go h1
  have HS1 : Hid (Since w w1) := h1
  have HN := newVol w1 kb kt db cb w1.heap.size rfl
  rw [← h2] at HN
  have hA : Cel w2 w1.heap.size 102 (fun j => ((Tryz.zeroCells95.setIfInBounds 2 (.string kb)).setIfInBounds 3 (.string kt))[j]?.getD undef) := by
    rw [h2]
    refine Cel.new w1 _ _ _ _ (fun j hj => ?_) _ rfl
    rw [Array.getElem?_eq_getElem (by rw [Array.size_setIfInBounds, Array.size_setIfInBounds, Tryz.zeroCells95_size]; exact hj)]
    rfl
  have a0 := hA.cell 0 (by omega)
  have a1 := hA.cell 1 (by omega)
  have f0 := hA.frozen 0 (by omega)
  have f1 := hA.frozen 1 (by omega)
  have HTY2 : Hid (Ty w2 w1.heap.size 95) := by
    show Ty w2 w1.heap.size 95
    rw [h2]
    exact Ty.new _ _ _
  have HS2 : Hid (Since w1 w2) := by
    show Since w1 w2
    rw [h2]
    exact (Since.refl w1).alloc _
  clear hA h1 h2 HK
  have HNV : Hid (Cel ((w2.setCell ⟨w1.heap.size, 0, none⟩ (.pointer (some ⟨db, 0, none⟩))).setCell ⟨w1.heap.size, 1, none⟩ (.pointer (some ⟨cb, 0, none⟩))) w1.heap.size 102 (vcell db cb kb kt Tb.zero (fun _ => ⟨#[]⟩) false)) := HN
  clear HN
  generalize (((Tryz.zeroCells95.setIfInBounds 2 (.string kb)).setIfInBounds 3 (.string kt))[0]?.getD undef) = x0 at *
  generalize (((Tryz.zeroCells95.setIfInBounds 2 (.string kb)).setIfInBounds 3 (.string kt))[1]?.getD undef) = x1 at *
  have b1 : (w2.setCell ⟨w1.heap.size, 0, none⟩ (.pointer (some ⟨db, 0, none⟩))).cell? ⟨w1.heap.size, 1, none⟩ = some x1 := by
    rw [World.cell?_setCell_other _ _ _ _ (by intro hc; injection hc with _ h2; omega)]
    exact a1
  have HVL : Hid (Vol w0 ((w2.setCell ⟨w1.heap.size, 0, none⟩ (.pointer (some ⟨db, 0, none⟩))).setCell ⟨w1.heap.size, 1, none⟩ (.pointer (some ⟨cb, 0, none⟩))) w1.heap.size db cb kb kt (fresh D c) v ∧ Since w1 ((w2.setCell ⟨w1.heap.size, 0, none⟩ (.pointer (some ⟨db, 0, none⟩))).setCell ⟨w1.heap.size, 1, none⟩ (.pointer (some ⟨cb, 0, none⟩)))) := by
    have hS : Since w1 ((w2.setCell ⟨w1.heap.size, 0, none⟩ (.pointer (some ⟨db, 0, none⟩))).setCell ⟨w1.heap.size, 1, none⟩ (.pointer (some ⟨cb, 0, none⟩))) := (HS2.out.setCell (Nat.le_refl _) _).setCell (Nat.le_refl _) _
    have hd := H1.out.go hS
    have l1 := H1.out.dev.lt
    have l2 := H1.out.ctr.lt (by omega)
    refine ⟨⟨HNV.out, hd.dev, hd.ctr, ⟨by omega, by omega, hd.ne⟩, ⟨fun e => ?_, hd.own⟩, (HTY2.out.setCell _ _).setCell _ _, hd.since, Nat.le_trans H1.out.since.size (Nat.le_refl _), hd.lo⟩, hS⟩
    have := H1.out.dev.glt _ e
    omega
  clear HNV a1
  go_wp2_with fail
  generalize ((w2.setCell ⟨w1.heap.size, 0, none⟩ (.pointer (some ⟨db, 0, none⟩))).setCell ⟨w1.heap.size, 1, none⟩ (.pointer (some ⟨cb, 0, none⟩))) = w3 at *
  refine (resume_any HB.out (S := fresh D c) HC.out HVL.out.1).mono ?_
  rintro e w4 ⟨r, S', rfl, hop, h4⟩
  have HOP : Hid (OpenTo kb kt (fresh D c) r S') := hop
  have HF : Hid (∃ v', Vol w0 w4 w1.heap.size db cb kb kt S' v' ∧ Fs (fun k => k = db ∨ k = cb ∨ v.ownBlock = some k) w w4 ∧ Nx w v.ownBlock v'.ownBlock) := by
    obtain ⟨v', hv, F, n⟩ := h4
    have hS3 : Since w w3 := HS1.out.trans HVL.out.2
    refine ⟨v', hv, ⟨F.os.trans hS3.os, F.tape.trans hS3.tape, F.output.trans hS3.output, Nat.le_trans hS3.size F.size, fun k hk hs => ?_⟩, fun k hk => ?_⟩
    · rw [F.block k (Nat.lt_of_lt_of_le hk hS3.size) ?_]
      · exact hS3.block k hk
      · rintro (e | e | e | e)
        · have := HS1.out.size; omega
        · exact hs (Or.inl e)
        · exact hs (Or.inr (Or.inl e))
        · exact hs (Or.inr (Or.inr e))
    · rcases n k hk with h5 | h5
      · exact Or.inl h5
      · exact Or.inr (Nat.le_trans hS3.size h5)
  have HLE : Hid (w.heap.size ≤ w1.heap.size) := HS1.out.size
  clear hop h4
  by_cases h0 : r = 0
  · subst h0
    rw [ev0]
    go_wp2_with fail
    go_ret2
    obtain ⟨v', hv, F, n⟩ := HF.out
    exact ⟨_, 0, S', v', HOP.out, Or.inl ⟨rfl, rfl⟩, HLE.out, hv, F, n⟩
  · rw [evn _ h0]
    have HE : Hid (ev r = .iface 45 (.int .i64 r) ∧ r ≠ 0) := ⟨evn _ h0, h0⟩
    clear h0
    go_wp2_with fail
    go_ret2
    obtain ⟨v', hv, F, n⟩ := HF.out
    exact ⟨_, r, S', v', HOP.out, Or.inr ⟨HE.out.2, by rw [HE.out.1]; rfl⟩, HLE.out, hv, F, n⟩
end Vl
end Go.Proofs.YtifnhnfjelfddaaGreatDoor
end
section
namespace Go.Proofs.YtifnhnfjelfddaaGreatDoor
set_option maxRecDepth 100000
namespace Vl
open Go.RowKit
open Tw (Tb nul may Same Rt)
def Sure (kb kt : ByteArray) (D : Dv) (c : Int) (T : Tb) (X : Nat → ByteArray) : Prop :=
  ((c = 0 ∧ (∀ i, i < 24 → X i = ⟨#[]⟩)) ∨ (c ≠ 0 ∧ Rt T ∧ T.count = c ∧ Slot kt (D.slot (c % 2).toNat) T ∧ Lie kb D D.sure T X ∧ ∀ i, (X i).size ≤ 80)) ∧ (∀ k, k < 2 → (Tw.rd (txt 500 (D.slot k))).count ≤ c)
theorem flush_sure {kb kt : ByteArray} {S : Vs} {n : Int} (h : Good kb kt S n) (hn : n < 1000000000) : Sure kb kt (S.flush kt).2.D (S.flush kt).2.c (S.flush kt).2.T (S.flush kt).2.X ∧ (S.flush kt).2.D.ws = [] := by
  obtain ⟨hg, hs, hr⟩ := flush_good h (by omega)
  obtain ⟨_, _, hcnt, hc, _, _⟩ := flush_more h.on kt
  have hD : (S.flush kt).2.D = ((S.D.synced).wrote (S.next.count % 2).toNat (Tw.text kt S.next)).synced := by rw [flush_on h.on kt]
  have hws : (S.flush kt).2.D.ws = [] := by rw [hD]; rfl
  have hsu : ∀ z, z < 8 → (S.flush kt).2.D.sure z = (S.flush kt).2.D.cnt z := fun z hz => by
    rw [hD]
    exact (synced_facts _).2.2.2.2 z hz
  have h0 := h.ok.c0
  have h1 := h.ok.cnt
  generalize S.flush kt = F at *
  have hlow := hg.low
  have hsl : ∀ k, F.2.D.slotBy k (fun _ => true) = F.2.D.slot k := fun k => slotBy_nil _ hws k _
  rw [hsl] at hs
  refine ⟨⟨Or.inr ⟨by omega, hr, hg.ok.cnt, hs, fun i hi => ?_, hg.ok.txt⟩, fun k hk => ?_⟩, hws⟩
  · rcases hg.lie i hi with h2 | ⟨h2, h3, h4⟩
    · exact Or.inl h2
    · refine Or.inr ⟨h2, ?_, h4⟩
      rw [hsu _ (by have := h2.2.1; have := h2.2.2.1; omega)]
      exact h3
  · have := hlow k hk
    rwa [hsl] at this
theorem sure_app {kb kt : ByteArray} {D : Dv} {c : Int} {T : Tb} {X : Nat → ByteArray} (h : Sure kb kt D c T X) (hs : ∀ z, z < 8 → D.sure z ≤ D.cnt z) (z : Nat) (hz : z < 8) (s : ByteArray) : Sure kb kt (D.app z s) c T X := by
  refine ⟨?_, h.2⟩
  rcases h.1 with h1 | ⟨h0, hr, hc, hsl, hl, hx⟩
  · exact Or.inl h1
  · refine Or.inr ⟨h0, hr, hc, hsl, fun i hi => ?_, hx⟩
    rcases hl i hi with h2 | ⟨h2, h3, h4, h5⟩
    · exact Or.inl h2
    · refine Or.inr ⟨h2, h3, h4, fun j hj => ?_⟩
      show (if (T.zone i).toNat = z ∧ (T.off i).toNat = D.cnt z then _ else D.blk _ _ _) = _
      rw [if_neg (fun q => by
        have := h2.2.2.2.1
        have := hs z hz
        rw [q.1] at h3
        omega)]
      exact h5 j hj
theorem sure_crash {kb kt : ByteArray} {D : Dv} {c : Int} {T : Tb} {X : Nat → ByteArray} (h : Sure kb kt D c T X) (hw : D.ws = []) (nk : Nat) (ks : Nat → Int) (ns : Nat) (sl : Nat → Bool) : Told kb kt (D.crashed nk ks ns sl) c T X ∧ low (D.crashed nk ks ns sl) c := by
  have hslot := crashed_slot D nk ks ns sl hw
  have hsk : ∀ k, k < 2 → (D.crashed nk ks ns sl).slotBy k (fun _ => true) = D.slot k := fun k hk => by
    rw [slotBy_nil _ (crashed_fused D nk ks ns sl).2]
    have : k = 0 ∨ k = 1 := by omega
    rcases this with rfl | rfl
    · exact hslot.1
    · exact hslot.2
  refine ⟨?_, fun k hk => by rw [hsk k hk]; exact h.2 k hk⟩
  rcases h.1 with h1 | ⟨h0, hr, hc, hsl, hl, hx⟩
  · exact Or.inl h1
  · refine Or.inr ⟨h0, hr, hc, by rw [hsk _ (by omega)]; exact hsl, fun i hi => ?_, hx⟩
    rcases hl i hi with h2 | ⟨h2, h3, h4, h5⟩
    · exact Or.inl h2
    · have hz8 : (T.zone i).toNat < 8 := by have := h2.2.1; have := h2.2.2.1; omega
      have hge := kept1_ge (D.cnt (T.zone i).toNat) (D.sure (T.zone i).toNat) (keepAt nk ks (T.zone i).toNat)
      have ho := h2.2.2.2.1
      refine Or.inr ⟨h2, ?_, h4, fun j hj => ?_⟩
      · rw [crashed_cnt _ _ _ _ _ _ hz8]; omega
      · rw [crashed_blk _ _ _ _ _ _ _ (by omega)]
        exact h5 j hj
theorem write_sure {kb kt : ByteArray} {S : Vs} {n : Int} (h : Good kb kt S n) (ht : tot S.D < 108) (hs : ∀ z, z < 8 → S.D.sure z ≤ S.D.cnt z) (i : Nat) (hi : i < 24) (t : ByteArray) (h80 : t.size ≤ 80) {c : Int} {T : Tb} {X : Nat → ByteArray} (hsu : Sure kb kt S.D c T X) (hw : S.D.ws = []) :
    Sure kb kt (S.write kb kt i t).2.D c T X ∧ (S.write kb kt i t).2.D.ws = [] ∧ (S.write kb kt i t).2.c = S.c := by
  have he : S.write kb kt i t = if t = S.X i then (0, S) else if t = ⟨#[]⟩ then (0, S.set i 0 0 ⟨#[]⟩ ⟨#[]⟩) else if S.free ≤ 20 then (if (S.reclaim kb kt).1.2.2 ≠ 0 then ((S.reclaim kb kt).1.2.2, (S.reclaim kb kt).2) else (S.reclaim kb kt).2.put kb i (-1) t) else S.put kb i (-1) t := by
    unfold Vs.write
    rw [if_neg (by rw [h.on.dead]; decide), if_neg (by omega), if_neg (by omega), Int.toNat_natCast]
  rw [he]
  by_cases h1 : t = S.X i
  · rw [if_pos h1]; exact ⟨hsu, hw, rfl⟩
  · rw [if_neg h1]
    by_cases h2 : t = ⟨#[]⟩
    · rw [if_pos h2]; exact ⟨hsu, hw, rfl⟩
    · rw [if_neg h2, free_tot h.on.c16, if_neg (by omega)]
      obtain ⟨z, _, hz8, hz16, _, hp⟩ := put_on h.on (by omega) kb i (-1) (Or.inl (by omega)) t
      rw [hp]
      exact ⟨sure_app hsu hs z hz8 _, hw, rfl⟩
section
variable {w0 w w' : World} {vb db cb : Nat} {S S' : Vs} {v v' : Value} {D D' : Dv} {c : Int}
theorem DC.turn (h : DC w0 w db cb D c v) (hd : Dev w' db D' v') (hf : Fr db none w w') (hv : v'.ownBlock = none) : DC w0 w' db cb D' c v' :=
  ⟨hd, h.ctr.fr hf (fun e => h.ne e.symm) (by simp), h.ne, by rw [hv]; simp, hf.since h.since h.lo.1 (fun k e => by cases e), h.lo.1, h.lo.2.1, fun k hk => by rw [hv] at hk; cases hk⟩
theorem open_ok {s : ByteArray} {T : Tb} {X : Nat → ByteArray} (hs : s.size = 16) (hT : Sm.Tab w0) (hc : 0 ≤ c ∧ c < 1000000000) (h : DC w0 w db cb D c v) (ht : Told (kbOf s) (ktOf s) D c T X) (hl : low D c) :
    Calls Tryz.prog 19 #[.pointer (some ⟨db, 0, none⟩), .pointer (some ⟨cb, 0, none⟩), .string s] w fun e w' => ∃ vb S' v', e = .returned (.tuple #[.pointer (some ⟨vb, 0, none⟩), .nilIface]) ∧ w.heap.size ≤ vb ∧ Vol w0 w' vb db cb (kbOf s) (ktOf s) S' v' ∧ (S'.D = D ∧ S'.c = c ∧ S'.dead = false ∧ S'.T.count = c ∧ (c = 0 → S' = fresh D c) ∧ (∀ i, i < 24 → S'.X i = X i) ∧ (c ≠ 0 → Same S'.T T ∧ whole (kbOf s) (ktOf s) D c ∧ S' = opened (kbOf s) D c c)) ∧ Fs (fun k => k = db ∨ k = cb ∨ v.ownBlock = some k) w w' ∧ Nx w v.ownBlock v'.ownBlock := by
  refine (open_any s hs hT hc h).mono ?_
  rintro e w' ⟨vb, r, S', v', hto, he, hvb, hvol, hf, hn⟩
  have ho : OpenIs (kbOf s) (ktOf s) D c r S' := hto
  obtain ⟨hr, h1, h2, h3, h4, h5, h6⟩ := open_told ht hl ho
  subst hr
  rcases he with ⟨_, rfl⟩ | ⟨h0, _⟩
  · refine ⟨vb, S', v', rfl, hvb, hvol, ⟨h1, h2, h3, ?_, h4, h6, h5⟩, hf, hn⟩
    by_cases hc0 : c = 0
    · rw [h4 hc0, hc0]; rfl
    · rw [(h5 hc0).1.1]
      rcases ht with ⟨h7, _⟩ | ⟨_, _, h8, _⟩
      · exact absurd h7 hc0
      · exact h8
  · exact absurd rfl h0
end
end Vl
end Go.Proofs.YtifnhnfjelfddaaGreatDoor
end
section
namespace Go.Proofs.YtifnhnfjelfddaaGreatDoor
set_option maxRecDepth 100000
namespace Vl
open Go.RowKit
open Tw (Tb nul may Same Rt)
def sec : ByteArray := ⟨#[48, 49, 50, 51, 52, 53, 54, 55, 56, 57, 97, 98, 99, 100, 101, 102]⟩
section
variable {w0 w w' : World} {vb db cb : Nat} {kb kt : ByteArray} {S S' : Vs} {v v' : Value} {D D' : Dv} {c n : Int} {k : Nat}
theorem writeG (B : Base w0 kb kt) (hg : Good kb kt S n) (hn : n < 900000000) (hp : Ph S k) (hk : k < 120) (i : Nat) (hi : i < 24) (t : ByteArray) (ht : t.size ≤ 80) (h : Vol w0 w vb db cb kb kt S v) :
    Calls Tryz.prog 15 #[.pointer (some ⟨vb, 0, none⟩), .int .i64 i, .string t] w fun e w' => e = .returned .nilIface ∧ Vto w0 w w' vb db cb kb kt (S.write kb kt i t).2 v := by
  refine (write_any B n hg.ok (by omega) i t h).mono ?_
  rintro e w' ⟨rfl, hv⟩
  rw [(write_good hg (by omega) hp hk i hi t ht).1]
  exact ⟨rfl, hv⟩
theorem flushG (B : Base w0 kb kt) (hg : Good kb kt S n) (hn : n < 900000000) (h : Vol w0 w vb db cb kb kt S v) :
    Calls Tryz.prog 16 #[.pointer (some ⟨vb, 0, none⟩)] w fun e w' => e = .returned .nilIface ∧ Vto w0 w w' vb db cb kb kt (S.flush kt).2 v := by
  refine (flush_any B (hg.ok.next (by omega)) hg.ok.nc h).mono ?_
  rintro e w' ⟨rfl, hv⟩
  rw [(flush_more hg.on kt).1]
  exact ⟨rfl, hv⟩
theorem dc_new (w : World) : DC w ((w.alloc (.cells Tryz.zeroCells84 84)).alloc (.cells #[.int .i64 0] 65)) w.heap.size (w.heap.size + 1) dv0 0 (.slice none 0 0) := by
  have hz : (w.alloc (.cells Tryz.zeroCells84 84)).heap.size = w.heap.size + 1 := by simp
  refine ⟨(dev_new w).since ((Since.refl _).alloc _), ?_, by omega, by simp [Value.ownBlock], ((Since.refl w).alloc _).alloc _, Nat.le_refl _, by omega, fun k hk => by simp [Value.ownBlock] at hk⟩
  exact Cel.new _ 1 _ _ _ (fun j hj => by
    obtain rfl : j = 0 := by omega
    rfl) _ hz.symm
end
theorem sl_nil (w : World) (b : Nat) (f : Nat → Value) : Go.Proofs.YtifnhnfjelfddaaGreatDoor.Sl w b (.slice none 0 0) 0 f := ⟨none, 0, rfl, fun h => by omega⟩
theorem Ph.tot1 {S : Vs} {k : Nat} (h : Ph S k) (hk : k < 12) : tot S.D ≤ k := by
  rcases h with ⟨m, h1, h2, h3⟩ | ⟨h1, h2⟩ | h1
  · rw [h3.tot (by omega)]; exact h1
  · omega
  · omega
theorem sure_zero (kb kt : ByteArray) : Sure kb kt dv0 0 Tb.zero (fun _ => ⟨#[]⟩) :=
  ⟨Or.inl ⟨rfl, fun _ _ => rfl⟩, fun k hk => by
    have e : dv0.slot k = fun _ => 0 := rfl
    rw [e, rd_zero]; omega⟩
set_option maxHeartbeats 4000000 in
theorem kept_any (w : World) (hT : Sm.Tab w) : Calls Tryz.prog 9 #[] w fun e w' => e = .returned (.bool true) ∧ Since w w' := by
  have HT : Hid (Sm.Tab w) := hT
  have HB : Hid (Base w (kbOf sec) (ktOf sec)) := ⟨hT, keyOf_size _ _, keyOf_size _ _⟩
  clear hT
  have hsz : sec.size = 16 := rfl
  generalize hkb : kbOf sec = kb at *
  generalize hkt : ktOf sec = kt at *
  have HK : Hid (kbOf sec = kb ∧ ktOf sec = kt) := ⟨hkb, hkt⟩
  clear hkb hkt
  obtain ⟨g0, p0, t0⟩ := fresh_good kb kt
  obtain ⟨a1, g1, p1, x1, c1⟩ := write_good g0 (by omega) p0 (by omega) 3 (by omega) ⟨#[120]⟩ (by decide)
  obtain ⟨_, _, c1'⟩ := write_sure g0 (by have := p0.tot1 (by omega); omega) (fun z _ => by show 0 ≤ 0; omega) 3 (by omega) ⟨#[120]⟩ (by decide) (sure_zero kb kt) rfl
  have HW1 : Hid (∀ W v vb db cb, Vol w W vb db cb kb kt (fresh dv0 0) v → Calls Tryz.prog 15 #[.pointer (some ⟨vb, 0, none⟩), .int .i64 3, .string ⟨#[120]⟩] W fun e w' => e = .returned .nilIface ∧ Vto w W w' vb db cb kb kt ((fresh dv0 0).write kb kt ((3 : Nat) : Int) ⟨#[120]⟩).2 v) := fun W v vb db cb h => writeG HB.out g0 (by omega) p0 (by omega) 3 (by omega) ⟨#[120]⟩ (by decide) h
  have HL0 : Hid (Told kb kt dv0 0 Tb.zero (fun _ => ⟨#[]⟩) ∧ low dv0 0) := ⟨t0, g0.low⟩
  clear a1 c1 t0 g0 p0
  generalize ((fresh dv0 0).write kb kt ((3 : Nat) : Int) ⟨#[120]⟩).2 = S1 at *
  have hx1 : S1.X 3 = ⟨#[120]⟩ := by rw [x1]; rfl
  have hc1 : S1.c = 0 := c1'
  clear x1 c1'
  obtain ⟨b1, g2, p2, x2, c2, t2⟩ := flush_ph g1 (by omega) p1
  obtain ⟨s2, ws2⟩ := flush_sure g1 (by omega)
  have HF1 : Hid (∀ W v vb db cb, Vol w W vb db cb kb kt S1 v → Calls Tryz.prog 16 #[.pointer (some ⟨vb, 0, none⟩)] W fun e w' => e = .returned .nilIface ∧ Vto w W w' vb db cb kb kt (S1.flush kt).2 v) := fun W v vb db cb h => flushG HB.out g1 (by omega) h
  clear b1 t2 g1 p1
  generalize (S1.flush kt).2 = S2 at *
  have hx2 : S2.X 3 = ⟨#[120]⟩ := by rw [x2, hx1]
  have hc2 : S2.c = 1 := by rw [c2, hc1]; rfl
  clear x2 c2 hx1 hc1
  have HW2 : Hid (∀ W v vb db cb, Vol w W vb db cb kb kt S2 v → Calls Tryz.prog 15 #[.pointer (some ⟨vb, 0, none⟩), .int .i64 3, .string ⟨#[121]⟩] W fun e w' => e = .returned .nilIface ∧ Vto w W w' vb db cb kb kt (S2.write kb kt ((3 : Nat) : Int) ⟨#[121]⟩).2 v) := fun W v vb db cb h => writeG HB.out g2 (by omega) p2 (by omega) 3 (by omega) ⟨#[121]⟩ (by decide) h
  have HS3 : Hid ((∀ z, z < 8 → S2.D.sure z ≤ S2.D.cnt z) → Sure kb kt (S2.write kb kt ((3 : Nat) : Int) ⟨#[121]⟩).2.D S2.c S2.T S2.X ∧ (S2.write kb kt ((3 : Nat) : Int) ⟨#[121]⟩).2.D.ws = [] ∧ (S2.write kb kt ((3 : Nat) : Int) ⟨#[121]⟩).2.c = S2.c) := fun hsu => write_sure g2 (by have := p2.tot1 (by omega); omega) hsu 3 (by omega) ⟨#[121]⟩ (by decide) s2 ws2
  clear g2 p2 s2 ws2
  generalize (S2.write kb kt ((3 : Nat) : Int) ⟨#[121]⟩).2 = S3 at *
  have HX : Hid (S2.X 3 = ⟨#[120]⟩ ∧ S2.c = 1) := ⟨hx2, hc2⟩
  have hev : ev 0 = .nilIface := rfl
  clear hx2 hc2
  go_enter Tryz.func9, Tryz.ntmps9
  go_wp2_with fail
  refine (new_any _).mono ?_
  rintro e w1 ⟨rfl, rfl⟩
  go_wp2_with fail
  have hdc := dc_new w
  generalize (w.alloc (.cells Tryz.zeroCells84 84)).alloc (.cells #[.int .i64 0] 65) = w1 at *
  generalize w.heap.size + 1 = cb at *
  generalize w.heap.size = db at *
  have HDC : Hid (DC w w1 db cb dv0 0 (.slice none 0 0)) := hdc
  clear hdc
  have HOP : Hid (∀ W D c v T X, 0 ≤ c ∧ c < 1000000000 → DC w W db cb D c v → Told kb kt D c T X → low D c → Calls Tryz.prog 19 #[.pointer (some ⟨db, 0, none⟩), .pointer (some ⟨cb, 0, none⟩), .string ⟨#[48, 49, 50, 51, 52, 53, 54, 55, 56, 57, 97, 98, 99, 100, 101, 102]⟩] W fun e w' => ∃ vb S' v', e = .returned (.tuple #[.pointer (some ⟨vb, 0, none⟩), .nilIface]) ∧ Vol w w' vb db cb kb kt S' v' ∧ S'.T.count = c ∧ S'.c = c ∧ (c = 0 → S' = fresh D c) ∧ (∀ i, i < 24 → S'.X i = X i)) := fun W D c v T X hc hd ht hl => by
    obtain ⟨e1, e2⟩ := HK.out
    subst e1 e2
    refine (open_ok (s := sec) rfl HT.out hc hd ht hl).mono ?_
    rintro e w' ⟨vb, S', v', rfl, _, h1, ⟨_, h2, _, h3, h4, h5, _⟩, _, _⟩
    exact ⟨vb, S', v', rfl, h1, h3, h2, h4, h5⟩
  refine (HOP.out _ _ _ _ _ _ (by omega) HDC.out HL0.out.1 HL0.out.2).mono ?_
  rintro e w2 ⟨vb, S0, v0, rfl, hv0, _, _, hfr, _⟩
  obtain rfl := hfr rfl
  have HV0 : Hid (Vol w w2 vb db cb kb kt (fresh dv0 0) v0) := hv0
  clear hv0 hfr
  have hcnt := count_any HV0.out
  go_wp2_with fail
  refine hcnt.mono ?_
  clear hcnt
  rintro e w' ⟨rfl, rfl⟩
  go_wp2_with fail
  refine (HW1.out _ _ _ _ _ HV0.out).mono ?_
  rintro e w3 ⟨rfl, hto⟩
  obtain ⟨v1, hv1, _⟩ := hto.cont
  have HV1 : Hid (Vol w w3 vb db cb kb kt S1 v1) := hv1
  clear hv1 hto
  go_wp2_with fail
  refine (HF1.out _ _ _ _ _ HV1.out).mono ?_
  rintro e w4 ⟨rfl, hto⟩
  obtain ⟨v2, hv2, _⟩ := hto.cont
  have HV2 : Hid (Vol w w4 vb db cb kb kt S2 v2) := hv2
  clear hv2 hto
  go_wp2_with fail
  refine (HW2.out _ _ _ _ _ HV2.out).mono ?_
  rintro e w5 ⟨rfl, hto⟩
  obtain ⟨v3, hv3, _⟩ := hto.cont
  have HV3 : Hid (Vol w w5 vb db cb kb kt S3 v3) := hv3
  clear hv3 hto
  go_wp2_with fail
  refine (crash_any S3.D v3 db 0 0 _ _ (fun _ => 0) (fun _ => false) _ HV3.out.dev (sl_nil _ _ _) (sl_nil _ _ _)).mono ?_
  rintro e w6 ⟨rfl, hd6, hf6⟩
  have HS : Hid (Told kb kt (S3.D.crashed 0 (fun _ => 0) 0 (fun _ => false)) S2.c S2.T S2.X ∧ low (S3.D.crashed 0 (fun _ => 0) 0 (fun _ => false)) S2.c ∧ DC w w6 db cb (S3.D.crashed 0 (fun _ => 0) 0 (fun _ => false)) S2.c (.slice none 0 0)) := by
    obtain ⟨h1, h2, h3⟩ := HS3.out HV2.out.dev.ok.sure
    obtain ⟨h4, h5⟩ := sure_crash h1 h2 0 (fun _ => 0) 0 (fun _ => false)
    have h6 := HV3.out.dc
    rw [h3] at h6
    exact ⟨h4, h5, h6.turn hd6 hf6 rfl⟩
  clear hd6 hf6
  go_wp2_with fail
  refine (HOP.out _ _ _ _ _ _ (by have := HX.out.2; omega) HS.out.2.2 HS.out.1 HS.out.2.1).mono ?_
  rintro e w7 ⟨vc, S7, v7, rfl, hv7, hct, hcc, _, hx7⟩
  have HV7 : Hid (Vol w w7 vc db cb kb kt S7 v7) := hv7
  have hct1 : S7.T.count = 1 := by rw [hct, HX.out.2]
  have hcc1 : S7.c = 1 := by rw [hcc, HX.out.2]
  have hrd : S7.read 3 = (⟨#[120]⟩, 0) := by
    unfold Vs.read
    rw [if_neg (by omega)]
    show (S7.X 3, (0 : Int)) = _
    rw [hx7 3 (by omega), HX.out.1]
  have hcnt := count_any HV7.out
  rw [hct1] at hcnt
  have hrd2 := vread_any 3 HV7.out
  rw [hrd] at hrd2
  have hmg := Mt.get_any cb 1 w7 (by have := HV7.out.ctr.cell 0 (by omega); rwa [hcc1] at this)
  have HC : Hid (Calls Tryz.prog 20 #[.pointer (some ⟨vc, 0, none⟩)] w7 fun e w' => e = .returned (.int .i64 1) ∧ w' = w7) := hcnt
  have HR : Hid (Calls Tryz.prog 33 #[.pointer (some ⟨vc, 0, none⟩), .int .i64 3] w7 fun e w' => e = .returned (.tuple #[.string ⟨#[120]⟩, .nilIface]) ∧ w' = w7) := hrd2
  have HM : Hid (Calls Tryz.prog 11 #[.pointer (some ⟨cb, 0, none⟩)] w7 fun e w' => e = .returned (.int .i64 1) ∧ w' = w7) := hmg
  clear hcnt hrd2 hmg hrd hv7 hct hcc hx7 hct1 hcc1
  go_wp2_with fail
  refine HC.out.mono ?_
  rintro e w' ⟨rfl, rfl⟩
  go_wp2_with fail
  refine HR.out.mono ?_
  rintro e w' ⟨rfl, rfl⟩
  go_wp2_with fail
  refine HM.out.mono ?_
  rintro e w' ⟨rfl, rfl⟩
  go_wp2_with fail
  go_ret
  exact ⟨rfl, HV7.out.since⟩
end Vl
end Go.Proofs.YtifnhnfjelfddaaGreatDoor
end
