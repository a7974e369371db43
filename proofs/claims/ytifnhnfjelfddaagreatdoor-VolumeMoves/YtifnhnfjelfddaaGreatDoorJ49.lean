import Derived.Test.YtifnhnfjelfddaaGreatDoorJ46
import Derived.Test.YtifnhnfjelfddaaGreatDoorJ48
set_option linter.unusedSimpArgs false
set_option linter.unusedVariables false
section
namespace Go.Proofs.YtifnhnfjelfddaaGreatDoor
set_option maxRecDepth 100000
namespace Vl
open Go.RowKit
open Tw (Tb tcell tval ccell)
section
variable {w0 w : World} {vb db cb : Nat} {kb kt : ByteArray} {S : Vs} {v : Value}
def OpenTo (kb kt : ByteArray) (S : Vs) (r : Int) (S' : Vs) : Prop :=
  (whole kb kt S.D (S.c + 1) ∧ r = 0 ∧ S' = { S with T := tabAt S.D (S.c + 1), X := saysTo kb S.D (tabAt S.D (S.c + 1)) 24, c := S.c + 1 }) ∨ (¬ whole kb kt S.D (S.c + 1) ∧ S.c = 0 ∧ r = 0 ∧ S' = S) ∨ (¬ whole kb kt S.D (S.c + 1) ∧ S.c ≠ 0 ∧ whole kb kt S.D S.c ∧ r = 0 ∧ S' = { S with T := tabAt S.D S.c, X := saysTo kb S.D (tabAt S.D S.c) 24 }) ∨ (¬ whole kb kt S.D (S.c + 1) ∧ S.c ≠ 0 ∧ ¬ whole kb kt S.D S.c ∧ r = 15 ∧ S' = S)
set_option maxHeartbeats 4000000 in
theorem resume_any (B : Base w0 kb kt) (hc : 0 ≤ S.c ∧ S.c < 1000000000) (h : Vol w0 w vb db cb kb kt S v) :
    Calls Tryz.prog 50 #[.pointer (some ⟨vb, 0, none⟩)] w fun e w' => ∃ r S', e = .returned (ev r) ∧ OpenTo kb kt S r S' ∧ Vto w0 w w' vb db cb kb kt S' v := by
  have HB : Hid (Base w0 kb kt) := B
  have H : Hid (Vol w0 w vb db cb kb kt S v) := h
  obtain ⟨hc0, hc1⟩ := hc
  have q1 := h.c1
  have HT1 : Hid (∀ W V SS, Vol w0 W vb db cb kb kt SS V → Calls Tryz.prog 82 #[.pointer (some ⟨vb, 0, none⟩), .int .i64 (S.c + 1)] W fun e w' => (whole kb kt SS.D (S.c + 1) ∧ e = .returned (.bool true) ∧ Vto w0 W w' vb db cb kb kt { SS with T := tabAt SS.D (S.c + 1), X := saysTo kb SS.D (tabAt SS.D (S.c + 1)) 24 } V) ∨ (¬ whole kb kt SS.D (S.c + 1) ∧ e = .returned (.bool false) ∧ Since W w')) := fun W V SS hV => take_any B (S.c + 1) (by omega) hV
  have HT0 : Hid (∀ W V SS, Vol w0 W vb db cb kb kt SS V → Calls Tryz.prog 82 #[.pointer (some ⟨vb, 0, none⟩), .int .i64 S.c] W fun e w' => (whole kb kt SS.D S.c ∧ e = .returned (.bool true) ∧ Vto w0 W w' vb db cb kb kt { SS with T := tabAt SS.D S.c, X := saysTo kb SS.D (tabAt SS.D S.c) 24 } V) ∨ (¬ whole kb kt SS.D S.c ∧ e = .returned (.bool false) ∧ Since W w')) := fun W V SS hV => take_any B S.c hc0 hV
  clear h B
  go_enter Tryz.func50, Tryz.ntmps50
  go_wp2_with fail
  refine (Mt.get_any cb S.c _ (H.out.ctr.cell 0 (by omega))).mono ?_
  rintro e wx ⟨rfl, hw⟩
  rw [hw]
  clear hw wx
  go_wp2_with fail
  refine (HT1.out _ _ _ H.out).mono ?_
  rintro e w1 (⟨hw1, rfl, h1⟩ | ⟨hw1, rfl, h1⟩)
  · have HW : Hid (whole kb kt S.D (S.c + 1)) := hw1
    obtain ⟨v1, h1v, F1⟩ := h1.cont
    have H1 : Hid (Vol w0 w1 vb db cb kb kt { S with T := tabAt S.D (S.c + 1), X := saysTo kb S.D (tabAt S.D (S.c + 1)) 24 } v1) := h1v
    have HF1 : Hid (∀ w' S', Vto w0 w1 w' vb db cb kb kt S' v1 → Vto w0 w w' vb db cb kb kt S' v) := F1
    clear hw1 h1 h1v F1 q1
    have q2 := H1.out.c1
    go_wp2_with fail
    refine (Mt.raise_up cb S.c (S.c + 1) _ (H1.out.ctr.cell 0 (by omega)) (H1.out.ctr.frozen 0 (by omega)) (by omega)).mono ?_
    rintro e w2 ⟨rfl, h2⟩
    have HT2 : Hid (Vto w0 w w2 vb db cb kb kt { S with T := tabAt S.D (S.c + 1), X := saysTo kb S.D (tabAt S.D (S.c + 1)) 24, c := S.c + 1 } v) := by
      rw [h2]
      exact HF1.out _ _ (H1.out.ctrTo (c' := S.c + 1))
    clear h2
    go_wp2_with fail
    go_ret
    exact ⟨0, _, by rw [ev0]; rfl, Or.inl ⟨HW.out, rfl, rfl⟩, HT2.out⟩
  · have HW : Hid (¬ whole kb kt S.D (S.c + 1)) := hw1
    have H1 : Hid (Vol w0 w1 vb db cb kb kt S v) := H.out.go h1
    have HS1 : Hid (Since w w1) := h1
    clear hw1 h1 q1
    by_cases h0 : S.c = 0
    · have HC : Hid (S.c = 0) := h0
      go_wp2_with fail
      go_ret
      exact ⟨0, S, by rw [ev0]; rfl, Or.inr (Or.inl ⟨HW.out, HC.out, rfl, rfl⟩), H1.out.self |> Vto.pre HS1.out⟩
    · have HC : Hid (S.c ≠ 0) := h0
      go_wp2_with fail
      refine (HT0.out _ _ _ H1.out).mono ?_
      rintro e w2 (⟨hw2, rfl, h2⟩ | ⟨hw2, rfl, h2⟩)
      · have HW2 : Hid (whole kb kt S.D S.c) := hw2
        have HT2 : Hid (Vto w0 w w2 vb db cb kb kt { S with T := tabAt S.D S.c, X := saysTo kb S.D (tabAt S.D S.c) 24 } v) := Vto.pre HS1.out h2
        clear hw2 h2
        go_wp2_with fail
        go_ret
        exact ⟨0, _, by rw [ev0]; rfl, Or.inr (Or.inr (Or.inl ⟨HW.out, HC.out, HW2.out, rfl, rfl⟩)), HT2.out⟩
      · have HW2 : Hid (¬ whole kb kt S.D S.c) := hw2
        have HS2 : Hid (Since w w2) := HS1.out.trans h2
        clear hw2 h2
        go_wp2_with fail
        go_ret
        exact ⟨15, S, by rw [evn 15 (by decide)]; rfl, Or.inr (Or.inr (Or.inr ⟨HW.out, HC.out, HW2.out, rfl, rfl⟩)), H.out.to HS2.out⟩
end
def kbOf (secret : ByteArray) : ByteArray := Mt.keyOf secret Mt.wBlocks
def ktOf (secret : ByteArray) : ByteArray := Mt.keyOf secret Mt.wTables
theorem keyOf_size (s u : ByteArray) : (Mt.keyOf s u).size = 32 := by
  unfold Mt.keyOf
  rw [strOfNums_size]
  rfl
end Vl
end Go.Proofs.YtifnhnfjelfddaaGreatDoor
end
section
namespace Go.Proofs.YtifnhnfjelfddaaGreatDoor
set_option maxRecDepth 100000
namespace Vl
open Go.RowKit
open Tw (Tb tcell tval ccell)
def KeyB (s k : ByteArray) (u : Int) : Prop := ∀ W, Sm.Tab W → Calls Tryz.prog 81 #[.string s, .int .u8 u] W fun e w' => e = .returned (.tuple #[.string k, .nilIface]) ∧ Since W w'
theorem keyB (s : ByteArray) (h : s.size = 16) : KeyB s (kbOf s) 98 := fun W hW => Mt.key_hit s 98 Mt.wBlocks W h (Or.inl ⟨rfl, rfl⟩) hW
theorem keyT (s : ByteArray) (h : s.size = 16) : KeyB s (ktOf s) 116 := fun W hW => Mt.key_hit s 116 Mt.wTables W h (Or.inr ⟨rfl, rfl⟩) hW
set_option maxHeartbeats 4000000 in
theorem keyed_any (s : ByteArray) (w : World) (h : s.size = 16) (hT : Sm.Tab w) :
    Calls Tryz.prog 49 #[.string s] w fun e w' => ∃ w1, e = .returned (.tuple #[.pointer (some ⟨w1.heap.size, 0, none⟩), .nilIface]) ∧ Since w w1 ∧ w' = w1.alloc (.cells ((Tryz.zeroCells95.setIfInBounds 2 (.string (kbOf s))).setIfInBounds 3 (.string (ktOf s))) 95) := by
  have HKB : Hid (KeyB s (kbOf s) 98) := keyB s h
  have HKT : Hid (KeyB s (ktOf s) 116) := keyT s h
  have HT : Hid (Sm.Tab w) := hT
  clear h hT
  generalize kbOf s = kb at *
  generalize ktOf s = kt at *
  go_enter Tryz.func49, Tryz.ntmps49
  go_wp2_with fail
  refine (HKB.out _ HT.out).mono ?_
  rintro e w1 ⟨rfl, h1⟩
  have HS1 : Hid (Since w w1) := h1
  clear h1
  go_wp2_with fail
  refine (HKT.out _ (HT.out.since HS1.out)).mono ?_
  rintro e w2 ⟨rfl, h2⟩
  have HS2 : Hid (Since w w2) := HS1.out.trans h2
  clear h2
  go_wp2_with fail
  go_ret2
  exact ⟨w2, rfl, HS2.out, rfl⟩
structure DC (w0 w : World) (db cb : Nat) (D : Dv) (c : Int) (v : Value) : Prop where
  dev : Dev w db D v
  ctr : Cel w cb 1 (fun _ => .int .i64 c)
  ne : db ≠ cb
  own : v.ownBlock ≠ some cb
  since : Since w0 w
  lo : w0.heap.size ≤ db ∧ w0.heap.size ≤ cb ∧ ∀ k, v.ownBlock = some k → w0.heap.size ≤ k
theorem DC.go {w0 w w' : World} {db cb : Nat} {D : Dv} {c : Int} {v : Value} (h : DC w0 w db cb D c v) (hs : Since w w') : DC w0 w' db cb D c v := ⟨h.dev.since hs, h.ctr.since hs, h.ne, h.own, h.since.trans hs, h.lo⟩
theorem Vol.dc {w0 w : World} {vb db cb : Nat} {kb kt : ByteArray} {S : Vs} {v : Value} (h : Vol w0 w vb db cb kb kt S v) : DC w0 w db cb S.D S.c v := ⟨h.dev, h.ctr, h.ne.2.2, h.own.2, h.since, h.lo.2⟩
theorem zeroVol_get (j : Nat) (hj : j < 102) : Tryz.zeroCells95[j]? = some (if j = 0 ∨ j = 1 then .pointer none else vcell 0 0 ⟨#[]⟩ ⟨#[]⟩ Tb.zero (fun _ => ⟨#[]⟩) false j) := by
  have hr : Tryz.zeroCells95.toList = brow 102 (fun j => if j = 0 ∨ j = 1 then .pointer none else vcell 0 0 ⟨#[]⟩ ⟨#[]⟩ Tb.zero (fun _ => ⟨#[]⟩) false j) := by kernel_rfl
  rw [← Array.getElem?_toList, hr]
  exact brow_get _ _ _ hj
theorem newVol (w : World) (kb kt : ByteArray) (db cb : Nat) (b : Nat) (hb : b = w.heap.size) :
    Cel (((w.alloc (.cells ((Tryz.zeroCells95.setIfInBounds 2 (.string kb)).setIfInBounds 3 (.string kt)) 95)).setCell ⟨b, 0, none⟩ (.pointer (some ⟨db, 0, none⟩))).setCell ⟨b, 1, none⟩ (.pointer (some ⟨cb, 0, none⟩))) b 102 (vcell db cb kb kt Tb.zero (fun _ => ⟨#[]⟩) false) := by
  have h0 : Cel (w.alloc (.cells ((Tryz.zeroCells95.setIfInBounds 2 (.string kb)).setIfInBounds 3 (.string kt)) 95)) b 102 (fun j => if j = 3 then .string kt else if j = 2 then .string kb else if j = 0 ∨ j = 1 then .pointer none else vcell 0 0 ⟨#[]⟩ ⟨#[]⟩ Tb.zero (fun _ => ⟨#[]⟩) false j) := by
    refine Cel.new w _ _ _ _ (fun j hj => ?_) _ hb
    have hz := Tryz.zeroCells95_size
    by_cases h3 : j = 3
    · subst h3
      rw [if_pos rfl, Array.getElem?_setIfInBounds_self_of_lt (by rw [Array.size_setIfInBounds, hz]; omega)]
    · rw [if_neg h3, Array.getElem?_setIfInBounds_ne (fun e => h3 e.symm)]
      by_cases h2 : j = 2
      · subst h2
        rw [if_pos rfl, Array.getElem?_setIfInBounds_self_of_lt (by rw [hz]; omega)]
      · rw [if_neg h2, Array.getElem?_setIfInBounds_ne (fun e => h2 e.symm)]
        exact zeroVol_get j hj
  refine ((h0.set 0 (by omega) _).set 1 (by omega) _).congr (fun j hj => ?_)
  unfold updv
  by_cases h1 : j = 1
  · subst h1; rfl
  · rw [if_neg h1]
    by_cases h00 : j = 0
    · subst h00; rfl
    · rw [if_neg h00]
      by_cases h3 : j = 3
      · subst h3; rfl
      · by_cases h2 : j = 2
        · subst h2; rfl
        · simp only [if_neg h3, if_neg h2, h00, h1, or_self, if_false]
          unfold vcell
          simp only [if_neg h00, if_neg h1, if_neg h2, if_neg h3]
def Opened (w0 w w' : World) (db cb : Nat) (s : ByteArray) (D : Dv) (c : Int) (v : Value) (e : Ending) : Prop :=
  ∃ vb r S' v', OpenTo (kbOf s) (ktOf s) (fresh D c) r S' ∧ ((r = 0 ∧ e = .returned (.tuple #[.pointer (some ⟨vb, 0, none⟩), .nilIface])) ∨ (r ≠ 0 ∧ e = .returned (.tuple #[.pointer none, ev r]))) ∧ w.heap.size ≤ vb ∧ Vol w0 w' vb db cb (kbOf s) (ktOf s) S' v' ∧
    Fs (fun k => k = db ∨ k = cb ∨ v.ownBlock = some k) w w' ∧ Nx w v.ownBlock v'.ownBlock
set_option maxHeartbeats 4000000 in
theorem open_any {w0 w : World} {db cb : Nat} {D : Dv} {c : Int} {v : Value} (s : ByteArray) (hs : s.size = 16) (hT : Sm.Tab w0) (hc : 0 ≤ c ∧ c < 1000000000) (h : DC w0 w db cb D c v) :
    Calls Tryz.prog 19 #[.pointer (some ⟨db, 0, none⟩), .pointer (some ⟨cb, 0, none⟩), .string s] w fun e w' => Opened w0 w w' db cb s D c v e := by
  have HB : Hid (Base w0 (kbOf s) (ktOf s)) := ⟨hT, keyOf_size _ _, keyOf_size _ _⟩
  have H : Hid (DC w0 w db cb D c v) := h
  have HC : Hid (0 ≤ c ∧ c < 1000000000) := hc
  have HK : Hid (∀ W, Sm.Tab W → Calls Tryz.prog 49 #[.string s] W fun e w' => ∃ w1, e = .returned (.tuple #[.pointer (some ⟨w1.heap.size, 0, none⟩), .nilIface]) ∧ Since W w1 ∧ w' = w1.alloc (.cells ((Tryz.zeroCells95.setIfInBounds 2 (.string (kbOf s))).setIfInBounds 3 (.string (ktOf s))) 95)) := fun W hW => keyed_any s W hs hW
  unfold Opened
  generalize kbOf s = kb at *
  generalize ktOf s = kt at *
  clear h hc hs hT
  go_enter Tryz.func19, Tryz.ntmps19
  go_wp2_with fail
  refine (HK.out _ (HB.out.tab.since H.out.since)).mono ?_
  rintro e w2 ⟨w1, rfl, h1, h2⟩
  have H1 : Hid (DC w0 w1 db cb D c v) := H.out.go h1
  have HS1 : Hid (Since w w1) := h1
  have HN := newVol w1 kb kt db cb w1.heap.size rfl
  rw [← h2] at HN
  have hA : Cel w2 w1.heap.size 102 (fun j => ((Tryz.zeroCells95.setIfInBounds 2 (.string kb)).setIfInBounds 3 (.string kt))[j]?.getD undef) := by
    rw [h2]
    refine Cel.new w1 _ _ _ _ (fun j hj => ?_) _ rfl
    rw [Array.getElem?_eq_getElem (by rw [Array.size_setIfInBounds, Array.size_setIfInBounds, Tryz.zeroCells95_size]; exact hj)]
    rfl
  have a0 := hA.cell 0 (by omega)
  have a1 := hA.cell 1 (by omega)
  have f0 := hA.frozen 0 (by omega)
  have f1 := hA.frozen 1 (by omega)
  have HTY2 : Hid (Ty w2 w1.heap.size 95) := by
    show Ty w2 w1.heap.size 95
    rw [h2]
    exact Ty.new _ _ _
  have HS2 : Hid (Since w1 w2) := by
    show Since w1 w2
    rw [h2]
    exact (Since.refl w1).alloc _
  clear hA h1 h2 HK
  have HNV : Hid (Cel ((w2.setCell ⟨w1.heap.size, 0, none⟩ (.pointer (some ⟨db, 0, none⟩))).setCell ⟨w1.heap.size, 1, none⟩ (.pointer (some ⟨cb, 0, none⟩))) w1.heap.size 102 (vcell db cb kb kt Tb.zero (fun _ => ⟨#[]⟩) false)) := HN
  clear HN
  generalize (((Tryz.zeroCells95.setIfInBounds 2 (.string kb)).setIfInBounds 3 (.string kt))[0]?.getD undef) = x0 at *
  generalize (((Tryz.zeroCells95.setIfInBounds 2 (.string kb)).setIfInBounds 3 (.string kt))[1]?.getD undef) = x1 at *
  have b1 : (w2.setCell ⟨w1.heap.size, 0, none⟩ (.pointer (some ⟨db, 0, none⟩))).cell? ⟨w1.heap.size, 1, none⟩ = some x1 := by
    rw [World.cell?_setCell_other _ _ _ _ (by intro hc; injection hc with _ h2; omega)]
    exact a1
  have HVL : Hid (Vol w0 ((w2.setCell ⟨w1.heap.size, 0, none⟩ (.pointer (some ⟨db, 0, none⟩))).setCell ⟨w1.heap.size, 1, none⟩ (.pointer (some ⟨cb, 0, none⟩))) w1.heap.size db cb kb kt (fresh D c) v ∧ Since w1 ((w2.setCell ⟨w1.heap.size, 0, none⟩ (.pointer (some ⟨db, 0, none⟩))).setCell ⟨w1.heap.size, 1, none⟩ (.pointer (some ⟨cb, 0, none⟩)))) := by
    have hS : Since w1 ((w2.setCell ⟨w1.heap.size, 0, none⟩ (.pointer (some ⟨db, 0, none⟩))).setCell ⟨w1.heap.size, 1, none⟩ (.pointer (some ⟨cb, 0, none⟩))) := (HS2.out.setCell (Nat.le_refl _) _).setCell (Nat.le_refl _) _
    have hd := H1.out.go hS
    have l1 := H1.out.dev.lt
    have l2 := H1.out.ctr.lt (by omega)
    refine ⟨⟨HNV.out, hd.dev, hd.ctr, ⟨by omega, by omega, hd.ne⟩, ⟨fun e => ?_, hd.own⟩, (HTY2.out.setCell _ _).setCell _ _, hd.since, Nat.le_trans H1.out.since.size (Nat.le_refl _), hd.lo⟩, hS⟩
    have := H1.out.dev.glt _ e
    omega
  clear HNV a1
  go_wp2_with fail
  generalize ((w2.setCell ⟨w1.heap.size, 0, none⟩ (.pointer (some ⟨db, 0, none⟩))).setCell ⟨w1.heap.size, 1, none⟩ (.pointer (some ⟨cb, 0, none⟩))) = w3 at *
  refine (resume_any HB.out (S := fresh D c) HC.out HVL.out.1).mono ?_
  rintro e w4 ⟨r, S', rfl, hop, h4⟩
  have HOP : Hid (OpenTo kb kt (fresh D c) r S') := hop
  have HF : Hid (∃ v', Vol w0 w4 w1.heap.size db cb kb kt S' v' ∧ Fs (fun k => k = db ∨ k = cb ∨ v.ownBlock = some k) w w4 ∧ Nx w v.ownBlock v'.ownBlock) := by
    obtain ⟨v', hv, F, n⟩ := h4
    have hS3 : Since w w3 := HS1.out.trans HVL.out.2
    refine ⟨v', hv, ⟨F.os.trans hS3.os, F.tape.trans hS3.tape, F.output.trans hS3.output, Nat.le_trans hS3.size F.size, fun k hk hs => ?_⟩, fun k hk => ?_⟩
    · rw [F.block k (Nat.lt_of_lt_of_le hk hS3.size) ?_]
      · exact hS3.block k hk
      · rintro (e | e | e | e)
        · have := HS1.out.size; omega
        · exact hs (Or.inl e)
        · exact hs (Or.inr (Or.inl e))
        · exact hs (Or.inr (Or.inr e))
    · rcases n k hk with h5 | h5
      · exact Or.inl h5
      · exact Or.inr (Nat.le_trans hS3.size h5)
  have HLE : Hid (w.heap.size ≤ w1.heap.size) := HS1.out.size
  clear hop h4
  by_cases h0 : r = 0
  · subst h0
    rw [ev0]
    go_wp2_with fail
    go_ret2
    obtain ⟨v', hv, F, n⟩ := HF.out
    exact ⟨_, 0, S', v', HOP.out, Or.inl ⟨rfl, rfl⟩, HLE.out, hv, F, n⟩
  · rw [evn _ h0]
    have HE : Hid (ev r = .iface 45 (.int .i64 r) ∧ r ≠ 0) := ⟨evn _ h0, h0⟩
    clear h0
    go_wp2_with fail
    go_ret2
    obtain ⟨v', hv, F, n⟩ := HF.out
    exact ⟨_, r, S', v', HOP.out, Or.inr ⟨HE.out.2, by rw [HE.out.1]; rfl⟩, HLE.out, hv, F, n⟩
end Vl
end Go.Proofs.YtifnhnfjelfddaaGreatDoor
end
