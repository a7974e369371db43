import Derived.RangeFuncNested
import Derived.RangeFuncBound
import Derived.RangeFuncCalls
import Derived.RangeFuncLeaves
import Derived.Shelf.Abstract
import Derived.Shelf.RegionOpen
import Derived.OwnWalkIn
import Derived.TacticsInMore
import Derived.LoopNIn
import Derived.LoopIn
import Derived.BigRegionIn
import Derived.Test.YtlgocfgnfdnloaaGreatDoorJ05
set_option linter.unusedSimpArgs false
set_option linter.unusedVariables false
section
namespace Go.Proofs.YtlgocfgnfdnloaaGreatDoor
open Go.RowKit Go.Shelf
attribute [local go_sem] Oper.semAt_some
def item (ws : List (Nat × ByteArray)) (i : Nat) : Nat × Nat × ByteArray := (i, ws.getD i (0, ⟨#[]⟩))
def dn (ws : List (Nat × ByteArray)) (k : Nat) : List (Nat × Nat × ByteArray) := (List.range k).map fun j => item ws (ws.length - 1 - j)
theorem dn_succ (ws : List (Nat × ByteArray)) (k : Nat) : dn ws (k + 1) = dn ws k ++ [item ws (ws.length - 1 - k)] := by
  unfold dn
  rw [List.range_succ, List.map_append]
  rfl
theorem dn_prefix (ws : List (Nat × ByteArray)) (k : Nat) (hk : k ≤ ws.length) : dn ws k <+: dn ws ws.length := by
  have h : dn ws k = (dn ws ws.length).take k := by
    unfold dn
    rw [← List.map_take, List.take_range, Nat.min_eq_left hk]
  rw [h]
  exact List.take_prefix _ _
def WRow (n₀ : Nat) (W : World) (v : Value) (ws : List (Nat × ByteArray)) : Prop :=
  (v = .slice none 0 0 ∧ ws = []) ∨ ∃ g cap, v = .slice (some ⟨g, 0, none⟩) ws.length cap ∧ g < n₀ ∧ ∀ i, i < ws.length → W.cell? ⟨g, i * 2, none⟩ = some (.int .i64 ((ws.getD i (0, ⟨#[]⟩)).1 : Int)) ∧ W.cell? ⟨g, i * 2 + 1, none⟩ = some (.string (ws.getD i (0, ⟨#[]⟩)).2)
theorem WRow.below {n₀ : Nat} {A B : World} {v : Value} {ws : List (Nat × ByteArray)} (h : WRow n₀ A v ws) (hb : Below n₀ A B) : WRow n₀ B v ws := by
  rcases h with h | ⟨g, cap, hv, hg, hc⟩
  · exact Or.inl h
  · exact Or.inr ⟨g, cap, hv, hg, fun i hi => ⟨(hb.cell (p := ⟨g, i * 2, none⟩) hg).trans (hc i hi).1, (hb.cell (p := ⟨g, i * 2 + 1, none⟩) hg).trans (hc i hi).2⟩⟩
def encw (x : Nat × Nat × ByteArray) : Array Value := #[.int .i64 (x.1 : Int), .agg #[.int .i64 (x.2.1 : Int), .string x.2.2]]
set_option maxRecDepth 100000 in
set_option maxHeartbeats 1000000 in
theorem backF_in (F : Fence) (n : Nat) (h6 : F.fn 284) (hro : F.round = none) (hn : 1 ≤ n) (l Bn n₀ : Nat) (v : Value) (ws : List (Nat × ByteArray)) (J Jx : List (Nat × Nat × ByteArray) → World → Prop)
    (hY : ∀ pre x W, J pre W → pre.length < ws.length → YieldAt F (n - 1) Tryz.prog l (encw x) W fun e W' =>
      (e = .returned (.bool true) ∧ J (pre ++ [x]) W' ∧ Below n₀ W W') ∨ (e = .returned (.bool false) ∧ Jx (pre ++ [x]) W'))
    (W : World) (hBn : W.cell? ⟨Bn, 0, none⟩ = some v) (hBl : Bn < n₀) (hL : WRow n₀ W v ws) (hlen : ws.length ≤ 1000) (h0 : J [] W) :
    CallsIn F n Tryz.prog 284 #[.func (.yield l) #[] #[], .pointer (some ⟨Bn, 0, none⟩)] W fun e W' => (∃ v, e = .returned v) ∧
      ((∃ ys, ys = dn ws ws.length ∧ J ys W') ∨ (∃ pre, pre <+: dn ws ws.length ∧ Jx pre W')) := by
  rcases hL with ⟨rfl, rfl⟩ | ⟨g, cap, rfl, hg, hc⟩
  · refine callsIn_of_wp Tryz.func284 rfl h6 ?_ hro
    simp only [Tryz.ntmps284, List.size_toArray, List.length_cons, List.length_nil, Nat.reduceAdd, Nat.reduceSub, Array.replicate_succ, Array.replicate_zero, List.push_toArray, List.append_toArray, List.nil_append, List.cons_append]
    gi_wp2
    gi_loopw [3] (fun p wr => p = .int .i64 (-1) ∧ J [] wr) (fun p wr => 0)
    case atStart => exact ⟨rfl, h0⟩
    case round =>
      obtain ⟨rfl, hJ⟩ := hrel
      gi_wp2
      go_end0
      exact ⟨⟨_, rfl⟩, .inl ⟨_, rfl, hJ⟩⟩
  · refine callsIn_of_wp Tryz.func284 rfl h6 ?_ hro
    simp only [Tryz.ntmps284, List.size_toArray, List.length_cons, List.length_nil, Nat.reduceAdd, Nat.reduceSub, Array.replicate_succ, Array.replicate_zero, List.push_toArray, List.append_toArray, List.nil_append, List.cons_append]
    gi_wp2
    gi_loopw [3] (fun p wr => ∃ k : Nat, k ≤ ws.length ∧ p = .int .i64 ((ws.length - k : Nat) - 1 : Int) ∧ WRow n₀ wr (.slice (some ⟨g, 0, none⟩) ws.length cap) ws ∧ wr.cell? ⟨Bn, 0, none⟩ = some (.slice (some ⟨g, 0, none⟩) ws.length cap) ∧ J (dn ws k) wr)
      (fun p wr => (intOf p + 1).toNat)
    case atStart =>
      exact ⟨0, Nat.zero_le _, by simp, Or.inr ⟨g, cap, rfl, hg, hc⟩, hBn, h0⟩
    case round =>
      obtain ⟨k, hk, rfl, hr, hb, hJ⟩ := hrel
      by_cases hlt : k < ws.length
      · obtain ⟨m, hm⟩ : ∃ m, ws.length - k = m + 1 := ⟨ws.length - k - 1, by omega⟩
        have hmi : ws.length - 1 - k = m := by omega
        have hml : m < ws.length := by omega
        have hr' := hr
        rcases hr with ⟨e, _⟩ | ⟨g', cap', he, hg', hc'⟩
        · cases e
        injection he with he1 he2 he3
        injection he1 with he1
        injection he1 with he1
        subst he1
        subst he3
        obtain ⟨c1, c2⟩ := hc' m hml
        have hJd := dn_succ ws k
        rw [hmi] at hJd
        obtain ⟨fn, tmps, assign, body, hy, hR⟩ := hY (dn ws k) (item ws m) wr hJ (by simp [dn]; omega)
        have hy' : (Instr.yield l #[.int .i64 (m : Int), .agg #[.int .i64 ((ws.getD m (0, ⟨#[]⟩)).1 : Int), .string (ws.getD m (0, ⟨#[]⟩)).2]]).run Tryz.prog wr = .ok (.round l fn tmps assign body) wr := hy
        have e1 : (((ws.length - k : Nat) : Int) - 1) = (m : Int) := by omega
        rw [e1]
        have hml2 : (m : Int) < ws.length := by omega
        have HR := (show Hid _ from hr')
        clear hy hc hc' hr' hY
        generalize (ws.getD m (0, ⟨#[]⟩)).1 = x1 at *
        generalize (ws.getD m (0, ⟨#[]⟩)).2 = x2 at *
        gi_wp2
        refine hR.mono ?_
        rintro e W3 (⟨rfl, hJ3, hk3⟩ | ⟨rfl, hJx3⟩)
        · have hr3 := WRow.below (show WRow n₀ wr _ ws from HR.out) hk3
          have hb3 : W3.cell? ⟨Bn, 0, none⟩ = some (.slice (some ⟨g, 0, none⟩) ws.length cap) := (hk3.cell (p := ⟨Bn, 0, none⟩) hBl).trans hb
          have HR3 := (show Hid _ from hr3)
          clear hr3
          gi_wp2
          go_roundw
          case rel =>
            refine ⟨k + 1, by omega, ?_, HR3.out, hb3, by rw [hJd]; exact hJ3⟩
            congr 1
            omega
          case measure => simp [intOf]
        · gi_wp2
          refine bodyPost_ret (results_none rfl _ _ _) rfl ?_
          refine ⟨⟨_, rfl⟩, .inr ⟨dn ws k ++ [item ws m], ?_, hJx3⟩⟩
          rw [← hJd]
          exact dn_prefix ws (k + 1) (by omega)
      · have hke : k = ws.length := by omega
        subst hke
        rw [Nat.sub_self]
        gi_wp2
        go_end0
        exact ⟨⟨_, rfl⟩, .inl ⟨_, rfl, hJ⟩⟩
theorem back_in (F : Fence) (n : Nat) (h5 : F.fn 231) (hro : F.round = none) (a : Option Addr) (m c : Nat) (w : World) :
    CallsIn F n Tryz.prog 231 #[.slice a m c] w fun e w' => e = .returned (.func (.func 284) #[] #[.pointer (some ⟨w.heap.size, 0, none⟩)]) ∧ w' = w.alloc (.cells #[.slice a m c] 127) := by
  refine callsIn_of_wp Tryz.func231 rfl h5 ?_ hro
  simp only [Tryz.ntmps231, List.size_toArray, List.length_cons, List.length_nil, Nat.reduceAdd, Nat.reduceSub, Array.replicate_succ, Array.replicate_zero, List.push_toArray, List.append_toArray, List.nil_append, List.cons_append]
  gi_wp2
  go_ret
  exact ⟨rfl, rfl⟩
theorem back_stops (F : Fence) (n : Nat) (h6 : F.fn 284) (hro : F.round = none) (hn : 1 ≤ n) (Bn n₀ : Nat) (v : Value) (ws : List (Nat × ByteArray)) (w : World) (hBn : Bn < n₀) (hn₀ : n₀ ≤ w.heap.size)
    (hc : w.cell? ⟨Bn, 0, none⟩ = some v) (hL : WRow n₀ w v ws) (hlen : ws.length ≤ 1000) :
    SeqStopsK F n Tryz.prog 284 #[.pointer (some ⟨Bn, 0, none⟩)] encw (Below n₀) (fun ys => ys = dn ws ws.length) (fun pre => pre <+: dn ws ws.length) ws.length w := fun l J Jx W hW _ _ hY h0 =>
  backF_in F n h6 hro hn l Bn n₀ v ws J Jx hY W ((hW.cell (p := ⟨Bn, 0, none⟩) (by show Bn < _; omega)).trans hc) hBn (hL.below (hW.mono hn₀)) hlen h0
end Go.Proofs.YtlgocfgnfdnloaaGreatDoor
end
section
namespace Go.Proofs.YtlgocfgnfdnloaaGreatDoor
open Go.RowKit Go.Shelf
attribute [local go_sem] Oper.semAt_some
def hit (k : Nat) (kept : Nat → Bool) (x : Nat × Nat × ByteArray) : Bool := x.2.1 == k && kept x.1
def lastW (ws : List (Nat × ByteArray)) (k : Nat) (kept : Nat → Bool) : Option (Nat × Nat × ByteArray) := (dn ws ws.length).find? (hit k kept)
def Dv.slotBy (D : Dv) (k : Nat) (kept : Nat → Bool) : Nat → UInt8 := match lastW D.ws k kept with | some x => sb x.2.2 | none => D.slot k
theorem cel_own {β : Type} (b n : Nat) (f : β → Nat → Value) : Own (fun s W => Cel W b n (f s)) := fun s X Y row hs hg hrow =>
  ⟨fun j hj => cell_kept (hs.cell j hj) hg hrow, fun j hj => (frozen_kept (hs.cell j hj) hg hrow).trans (hs.frozen j hj)⟩
theorem WRow.of_own {W : World} {v : Value} {ws : List (Nat × ByteArray)} (h : W.ownsRow 0 303 2 v ws.length (wcells ws)) (n₀ : Nat) (hn : W.heap.size ≤ n₀) : WRow n₀ W v ws := by
  rcases h.2 with ⟨hv, h0⟩ | ⟨g, cap, cur, hv, _, hg, h1, h2, h3, h4⟩
  · exact Or.inl ⟨hv, List.length_eq_zero_iff.1 h0⟩
  · refine Or.inr ⟨g, cap, hv, by have := (Array.getElem?_eq_some_iff.1 hg).1; omega, fun i hi => ?_⟩
    have hw : ∀ (ws : List (Nat × ByteArray)) (i : Nat), i < ws.length → (wcells ws)[i * 2]? = some (.int .i64 ((ws.getD i (0, ⟨#[]⟩)).1 : Int)) ∧ (wcells ws)[i * 2 + 1]? = some (.string (ws.getD i (0, ⟨#[]⟩)).2) := by
      intro ws
      induction ws with
      | nil => intro i hi; simp at hi
      | cons p r ih =>
        intro i hi
        cases i with
        | zero => exact ⟨rfl, rfl⟩
        | succ i =>
          have := ih i (by simpa using hi)
          rw [show (i + 1) * 2 = i * 2 + 1 + 1 by omega]
          exact this
    obtain ⟨e1, e2⟩ := hw ws i hi
    have hcell : ∀ (o : Nat) (x : Value), o < ws.length * 2 → (wcells ws)[o]? = some x → W.cell? ⟨g, o, none⟩ = some x := fun o x ho hx => by
      rw [← h4, List.getElem?_take_of_lt ho, Array.getElem?_toList] at hx
      simp [World.cell?, hg, hx]
    exact ⟨hcell _ _ (by omega) e1, hcell _ _ (by omega) e2⟩
theorem keeps_of_fr {b : Nat} {W W' : World} {x : Value} (h : Fr b none W W') (hc : W.cell? ⟨b, 0, none⟩ = some x) : KeepsOthers W W' := by
  refine ⟨h.size, fun k o hk ho => ?_⟩
  obtain ⟨o', h1, h2⟩ := cells_of_cell hc
  rw [h.block k (Array.getElem?_eq_some_iff.1 hk).1 (fun e => by
    subst e
    rw [h1] at hk
    cases hk
    rw [h2] at ho
    cases ho) (by simp)]
  exact hk
theorem find_prefix {α : Type} {p : α → Bool} {pre l : List α} {x : α} (h : pre <+: l) (hf : pre.find? p = some x) : l.find? p = some x := by
  obtain ⟨t, rfl⟩ := h
  rw [List.find?_append, hf]
  rfl
set_option maxRecDepth 100000 in
set_option maxHeartbeats 2000000 in
theorem last_any (D : Dv) (v : Value) (b k fid : Nat) (caps : Array Value) (kept : Nat → Bool) (w : World) (hd : Dev w b D v) (hk : k < 2)
    (heg : ∀ args w, (callFunc fid args).run Tryz.prog w = .ok (.enter fid args) w)
    (hkc : ∀ (i : Nat) (W : World), Below w.heap.size w W → Calls Tryz.prog fid (#[.int .i64 i] ++ caps) W fun e W' => e = .returned (.bool (kept i)) ∧ W' = W) :
    Calls Tryz.prog 164 #[.pointer (some ⟨b, 0, none⟩), .int .i64 k, .func (.func fid) #[] caps] w fun e w' => e = .returned (.agg (brow 500 (fun i => bv (D.slotBy k kept i))).toArray) ∧ Since w w' := by
  have c1 := hd.cel.cell 17400 (by omega)
  rw [dcell_ws] at c1
  obtain ⟨a0, m0, cap0, rfl⟩ : ∃ a m c, v = .slice a m c := by
    rcases hd.own.2 with ⟨hv, _⟩ | ⟨g, cap, cur, hv, _⟩
    · exact ⟨_, _, _, hv⟩
    · exact ⟨_, _, _, hv⟩
  have hbl := hd.lt
  have hwr := WRow.of_own hd.own w.heap.size (Nat.le_refl _)
  have hlen := hd.ok.few
  have HD := (show Hid _ from hd)
  clear hd
  have hS0 := (((Since.refl w).alloc (.cells #[.int .i64 k] 3)).alloc (.cells #[.func (.func fid) #[] caps] 172)).alloc (.cells Tryz.zeroCells125 125)
  have c3 := (HD.out.since hS0).cel.cell 17400 (by omega)
  rw [dcell_ws] at c3
  have HS0 := (show Hid _ from hS0)
  clear hS0
  refine (callsIn_wide (n := 6)).1 ?_
  refine callsIn_of_wp_marks Tryz.func164 rfl trivial ?_ rfl
  simp only [Tryz.ntmps164, List.size_toArray, List.length_cons, List.length_nil, Nat.reduceAdd, Nat.reduceSub, Array.replicate_succ, Array.replicate_zero, List.push_toArray, List.append_toArray, List.nil_append, List.cons_append]
  gi_wp2_with (refine ⟨trivial, ?_⟩; gi_at_call 231; refine (back_in Fence.wide _ trivial rfl _ _ _ _).mono ?_; rintro e w' ⟨rfl, rfl⟩)
  have b0 := (((Boxed.new w 3 (.int .i64 k)).alloc (.cells #[.func (.func fid) #[] caps] 172)).alloc (.cells Tryz.zeroCells125 125)).alloc (.cells #[.slice a0 m0 cap0] 127)
  have b1 := ((Boxed.new (w.alloc (.cells #[.int .i64 k] 3)) 172 (.func (.func fid) #[] caps)).alloc (.cells Tryz.zeroCells125 125)).alloc (.cells #[.slice a0 m0 cap0] 127)
  have b2 : Cel ((((w.alloc (.cells #[.int .i64 k] 3)).alloc (.cells #[.func (.func fid) #[] caps] 172)).alloc (.cells Tryz.zeroCells125 125)).alloc (.cells #[.slice a0 m0 cap0] 127)) (w.heap.size + 1 + 1) 500 (fun _ => bv 0) := (Cel.new _ _ _ _ _ (fun j hj => zeroSlot_get j hj) _ (by simp)).since ((Since.refl _).alloc _)
  have b3 := Boxed.new (((w.alloc (.cells #[.int .i64 k] 3)).alloc (.cells #[.func (.func fid) #[] caps] 172)).alloc (.cells Tryz.zeroCells125 125)) 127 (.slice a0 m0 cap0)
  have hB0 : Below w.heap.size w ((((w.alloc (.cells #[.int .i64 k] 3)).alloc (.cells #[.func (.func fid) #[] caps] 172)).alloc (.cells Tryz.zeroCells125 125)).alloc (.cells #[.slice a0 m0 cap0] 127)) := Since.alloc HS0.out _
  simp only [World.size_alloc] at b1 b3
  have hsz : ((((w.alloc (.cells #[.int .i64 k] 3)).alloc (.cells #[.func (.func fid) #[] caps] 172)).alloc (.cells Tryz.zeroCells125 125)).alloc (.cells #[.slice a0 m0 cap0] 127)).heap.size = w.heap.size + 4 := by simp
  obtain ⟨W0, hW0⟩ : ∃ W0, ((((w.alloc (.cells #[.int .i64 k] 3)).alloc (.cells #[.func (.func fid) #[] caps] 172)).alloc (.cells Tryz.zeroCells125 125)).alloc (.cells #[.slice a0 m0 cap0] 127)) = W0 := ⟨_, rfl⟩
  rw [hW0] at b0 b1 b2 b3 hB0 hsz ⊢
  clear hW0 c3
  have hwr0 : WRow W0.heap.size W0 (.slice a0 m0 cap0) D.ws := by
    have h1 := hwr.below hB0
    rcases h1 with h1 | ⟨g, cp, hv, hg, hc⟩
    · exact Or.inl h1
    · exact Or.inr ⟨g, cp, hv, by omega, hc⟩
  have h1n : 1 ≤ 6 := by omega
  refine wpIn_rangeFunc_ownH (F := Fence.wide) (n := 6) rfl h1n (gf := 284) (lb := #[.pointer (some ⟨w.heap.size + 1 + 1 + 1, 0, none⟩)]) rfl trivial (enters_of Tryz.func284 (by kernel_rfl) rfl)
    (back_stops Fence.wide 5 trivial rfl (by omega) (w.heap.size + 1 + 1 + 1) W0.heap.size (.slice a0 m0 cap0) D.ws W0 (by omega) (Nat.le_refl _) b3.cell hwr0 hlen) belowK_t (belowK_b (Nat.le_refl _)) (Below.refl _ _) (fun _ => rfl)
    (fun pre W => (((pre.find? (hit k kept) = none ∧ Boxed W w.heap.size 3 (.int .i64 k)) ∧ Boxed W (w.heap.size + 1) 172 (.func (.func fid) #[] caps)) ∧ Cel W (w.heap.size + 1 + 1) 500 (fun _ => bv 0)) ∧ Below W0.heap.size W0 W)
    (fun c pre W => ((c = .ret ∧ ∃ x, pre.find? (hit k kept) = some x ∧ True) ∧ ∃ x, pre.find? (hit k kept) = some x ∧ Cel W (w.heap.size + 1 + 1) 500 (fun i => bv (sb x.2.2 i))) ∧ Below w.heap.size w W)
    (OwnFrom.and (OwnFrom.and (OwnFrom.and (OwnFrom.and (ownFrom_pure _ _) (Own.from (boxed_own _ _ _) _)) (Own.from (boxed_own _ _ _) _)) (Own.from (cel_own _ _ (fun _ _ => bv 0)) _)) (ownFrom_below (Nat.le_refl _) (Nat.le_refl _)))
    (fun c => OwnFrom.and (OwnFrom.and (ownFrom_pure _ _) (fun pre X Y row hs hg hr => by obtain ⟨x, hx, hc⟩ := hs; exact ⟨x, hx, cel_own (w.heap.size + 1 + 1) 500 (fun (_ : Unit) i => bv (sb x.2.2 i)) () X Y row hc hg (fun r e => (hr r e).2)⟩)) (ownFrom_below (Nat.le_refl _) (by omega)))
    ⟨⟨⟨⟨rfl, b0⟩, b1⟩, b2⟩, Below.refl _ _⟩
    (fun x a' W => ∃ Bx, Cel W Bx 2 (fun j => if j = 0 then .int .i64 (x.2.1 : Int) else .string x.2.2) ∧ a' = { tmps := #[.pointer (some ⟨b, 0, none⟩), .int .i64 k, .func (.func fid) #[] caps, undef, .pointer (some ⟨w.heap.size, 0, none⟩), .pointer (some ⟨w.heap.size + 1, 0, none⟩), .pointer (some ⟨w.heap.size + 1 + 1, 0, none⟩), .int .i64 (x.1 : Int), .pointer (some ⟨Bx, 0, none⟩), .pointer (some ⟨b, 0, none⟩), .pointer (some ⟨b, 0, none⟩), .pointer (some ⟨b, 17400, none⟩), .slice a0 m0 cap0, .func (.func 284) #[] #[.pointer (some ⟨w.heap.size + 1 + 1 + 1, 0, none⟩)], .int .i64 (x.1 : Int), .agg #[.int .i64 (x.2.1 : Int), .string x.2.2], undef, undef, undef, undef, undef, undef, undef, undef, undef, undef, undef, undef, undef, undef, undef, undef, undef, undef], defers := [] })
    (fun x a' _ X Y row hs hg hr => by obtain ⟨Bx, e2, e3⟩ := hs; exact ⟨Bx, cel_own Bx 2 (fun (_ : Unit) j => if j = 0 then .int .i64 (x.2.1 : Int) else .string x.2.2) () X Y row e2 hg (fun r e => (hr r e).2), e3⟩)
    ?assign ?body ?done ?stop
  case assign =>
    rintro l pre ⟨x0, x1, x2⟩ W K ⟨⟨⟨⟨hp, q0⟩, q1⟩, q2⟩, hB1⟩ hK
    simp only [encw]
    gi_wp2
    refine hK _ _ ((KeepsOthers.alloc _ _).from _) ((Below.refl _ W).alloc hB1.size _) ⟨⟨⟨⟨hp, q0.alloc _⟩, q1.alloc _⟩, q2.since ((Since.refl _).alloc _)⟩, hB1.alloc hB1.size _⟩ ⟨W.heap.size, Cel.new W 2 _ _ _ (fun j hj => ?_) _ rfl, rfl⟩
    match j, hj with
    | 0, _ => rfl
    | 1, _ => rfl
  case body =>
    rintro l pre ⟨x0, x1, x2⟩ a' W hl hr ⟨⟨⟨⟨hp, q0⟩, q1⟩, q2⟩, hB1⟩ ⟨Bx, bX, rfl⟩ hlt
    have d0 := q0.cell
    have d1 := q1.cell
    have d2 := bX.cell 0 (by omega)
    have d3 := bX.cell 1 (by omega)
    simp only [if_pos, if_neg, Nat.one_ne_zero, if_false, if_true] at d2 d3
    have hBw : Below w.heap.size w W := hB0.trans (hB1.mono (by omega))
    have Q0 := (show Hid _ from q0)
    have Q1 := (show Hid _ from q1)
    have Q2 := (show Hid _ from q2)
    have BX := (show Hid _ from bX)
    clear q0 q1 q2 bX hr
    by_cases hx : x1 = k
    · subst hx
      cases hkp : kept x0 with
      | false =>
        gi_wp2
        refine ⟨?_, ?_⟩
        · first
          | trivial
          | (intro f _; trivial)
        refine (CallsIn.inRound l (callsIn_wide.2 (hkc x0 W hBw))).mono ?_
        rintro e W' ⟨rfl, rfl⟩
        rw [hkp]
        gi_wp2
        refine ⟨KeepsFrom.refl _ _, Below.refl _ _, ⟨⟨⟨?_, Q0.out⟩, Q1.out⟩, Q2.out⟩, hB1⟩
        rw [List.find?_append, hp]
        simp [hit, hkp]
      | true =>
        gi_wp2
        refine ⟨?_, ?_⟩
        · first
          | trivial
          | (intro f _; trivial)
        refine (CallsIn.inRound l (callsIn_wide.2 (hkc x0 W hBw))).mono ?_
        rintro e W' ⟨rfl, rfl⟩
        rw [hkp]
        gi_wp2
        refine ⟨?_, ?_⟩
        · first
          | trivial
          | (intro f _; trivial)
        refine (CallsIn.inRound l (callsIn_wide.2 (slotOf_any x2 _))).mono ?_
        rintro e W2 ⟨rfl, hS2⟩
        have hC2 := Q2.out.since hS2
        have hst := hC2.store Tryz.prog 0 500 (by omega) (fun i => bv (sb x2 i)) (fun _ _ => rfl)
        have hL : (brow 500 (fun i => bv (sb x2 i))).length = 500 := brow_length _ _
        have hC3 := (hC2.setRow 0 500 (by omega) (fun i => bv (sb x2 i))).congr (g := fun i => bv (sb x2 i)) (fun j hj => by unfold updl; rw [if_pos (by omega)]; rfl)
        have HC3 := (show Hid _ from hC3)
        have hS3 : Below w.heap.size w (W2.setCells (w.heap.size + 1 + 1) 0 (brow 500 (fun i => bv (sb x2 i)))) := Since.setCells (Since.trans (show Since w W' from hBw) hS2) (by omega) _ _
        have HS3 := (show Hid _ from hS3)
        clear hC2 hC3 hS3
        gi_wp2
        have hfi : (pre ++ [(x0, x1, x2)]).find? (hit x1 kept) = some (x0, x1, x2) := by
          rw [List.find?_append, hp]
          simp [hit, hkp]
        exact ⟨(keeps_of_fr ((Fr.of_since hS2).trans' (Fr.setCells _ _ _ _ _)) (Q2.out.cell 0 (by omega))).from _, ⟨⟨rfl, _, hfi, trivial⟩, _, hfi, HC3.out⟩, HS3.out⟩
    · have hx2 : ¬ (x1 : Int) = (k : Int) := by omega
      gi_wp2
      refine ⟨(fun _ h => by cases h), ?_⟩
      gi_wp2
      refine ⟨KeepsFrom.refl _ _, Below.refl _ _, ⟨⟨⟨?_, Q0.out⟩, Q1.out⟩, Q2.out⟩, hB1⟩
      rw [List.find?_append, hp]
      simp [hit, hx]
  case done =>
    rintro Dd zs W hDd rfl ⟨⟨⟨⟨hp, q0⟩, q1⟩, q2⟩, hB1⟩ hK
    have hBw : Below w.heap.size w W := hB0.trans (hB1.mono (by omega))
    have hdW := HD.out.since (show Since w W from hBw)
    have d0 : W.drew.cell? ⟨w.heap.size, 0, none⟩ = some (.int .i64 k) := q0.cell
    have hk2 : (k : Int) < 2 := by omega
    have hR : W.drew.rangeAt b (16400 + k * 500) (brow 500 (fun i => bv (D.slot k i))) := fun j x hx => by
      have hj : j < 500 := by have := (List.getElem?_eq_some_iff.1 hx).1; rwa [brow_length] at this
      rw [brow_get _ _ j hj] at hx
      have := hdW.cel.cell (16400 + k * 500 + j) (by omega)
      rw [dcell_slot D _ k j hk hj] at this
      rw [← hx]
      exact this
    have hth := q2.there 0 500 (by omega)
    have hu := Tryz.underlying125
    have hL : (brow 500 (fun i => bv (D.slot k i))).length = 500 := brow_length _ _
    have hi : (Tryz.prog.info? 125).map (·.size) = some (brow 500 (fun i => bv (D.slot k i))).length := by rw [brow_length]; kernel_rfl
    have h1c : ∀ v ∈ brow 500 (fun i => bv (D.slot k i)), v.oneCell' = true := brow_one _ _ (fun _ _ => rfl)
    have hne : b ≠ w.heap.size + 1 + 1 := by omega
    have Q2 := (show Hid _ from q2)
    have hRW : W.rangeAt b (16400 + k * 500) (brow 500 (fun i => bv (D.slot k i))) := hR
    have d0W : W.cell? ⟨w.heap.size, 0, none⟩ = some (.int .i64 k) := q0.cell
    clear q2 hdW hR d0
    generalize hcs : brow 500 (fun i => bv (D.slot k i)) = cs at *
    have d0X : (W.drew.setCells (w.heap.size + 1 + 1) 0 cs).cell? ⟨w.heap.size, 0, none⟩ = some (.int .i64 k) := by
      rw [World.cell?_setCells_out _ _ _ _ _ (fun e _ => absurd e (by show ¬ w.heap.size = w.heap.size + 1 + 1; omega))]
      exact d0W
    gi_wp2
    refine wpIn_wide.2 ?_
    go_region_held3 (fun w' => w'.rangeAt b (16400 + k * 500) cs ∧ w'.there (w.heap.size + 1 + 1) 0 500 ∧ w'.cell? ⟨w.heap.size, 0, none⟩ = some (.int .i64 k)) (first | go_keep_ranges | (refine ⟨?_, ?_, ?_⟩ <;> first | go_keep_ranges | assumption) | assumption) (fail)
    gi_wp2
    have hDlt : Dd < W.heap.size := (Array.getElem?_eq_some_iff.1 hK).1
    have hK' : (W.drew.setCells (w.heap.size + 1 + 1) 0 cs).heap[Dd]? = some (.deferred (some [])) := by
      exact ((Fr.setCells (w.heap.size + 1 + 1) none cs 0 W.drew).block Dd hDlt (by omega) (by simp)).trans hK
    refine ⟨by simp, .inl ⟨_, _, rfl, run_takeDeferred hK', ?_⟩⟩
    have hC4 : Cel (W.drew.setCells (w.heap.size + 1 + 1) 0 cs) (w.heap.size + 1 + 1) 500 (fun i => bv (D.slot k i)) := by
      rw [← hcs]
      exact ((Q2.out.since (Since.refl W).drew).setRow 0 500 (by omega) (fun i => bv (D.slot k i))).congr (fun j hj => by unfold updl; rw [if_pos (by omega)]; rfl)
    have hC5 := (cel_own (w.heap.size + 1 + 1) 500 (fun (_ : Unit) i => bv (D.slot k i))) () _ _ _ hC4 (grownBy_putObj' _ Dd (.deferred none)) (fun r e => by cases e; exact ⟨_, hK', rfl⟩)
    have hR5 := hC5.range 0 500 (by omega)
    simp only [Nat.zero_add] at hR5
    refine ⟨_, results_row Tryz.results164 _ _ _ (w.heap.size + 1 + 1) _ _ (by rfl) hR5 Tryz.underlying125 (by rfl) (by rw [brow_length]; kernel_rfl), ?_, ?_⟩
    · have e : D.slotBy k kept = D.slot k := by unfold Dv.slotBy lastW; rw [hp]
      rw [e]
    · have h3 : Below w.heap.size w (W.drew.setCells (w.heap.size + 1 + 1) 0 cs) := Since.setCells (Since.drew (show Since w W from hBw)) (by omega) _ _
      exact h3.trans (belowK_b (w := w) (Nat.le_refl _) _ Dd _ _ (by omega) hK' rfl rfl)
  case stop =>
    rintro Dd c pre W hDd hpre ⟨⟨⟨rfl, _⟩, x, hx, hC⟩, hB1⟩ hK
    gi_wp2
    refine ⟨by simp, .inl ⟨_, _, rfl, run_takeDeferred hK, ?_⟩⟩
    have hC5 := (cel_own (w.heap.size + 1 + 1) 500 (fun (_ : Unit) i => bv (sb x.2.2 i))) () _ _ _ hC (grownBy_putObj' _ Dd (.deferred none)) (fun r e => by cases e; exact ⟨_, hK, rfl⟩)
    have hR5 := hC5.range 0 500 (by omega)
    simp only [Nat.zero_add] at hR5
    refine ⟨_, results_row Tryz.results164 _ _ _ (w.heap.size + 1 + 1) _ _ (by rfl) hR5 Tryz.underlying125 (by rfl) (by rw [brow_length]; kernel_rfl), ?_, ?_⟩
    · have e : D.slotBy k kept = sb x.2.2 := by unfold Dv.slotBy lastW; rw [find_prefix hpre hx]
      rw [e]
    · exact hB1.trans (belowK_b (w := w) (Nat.le_refl _) _ Dd _ _ (by omega) hK rfl rfl)
end Go.Proofs.YtlgocfgnfdnloaaGreatDoor
end
