import Derived.BigRegion
import Derived.Test.YtifnhnfjelfddaaGreatDoorJ06
set_option linter.unusedSimpArgs false
set_option linter.unusedVariables false
section
namespace Go.Proofs.YtifnhnfjelfddaaGreatDoor
open Go.RowKit
def Dv.slotTo (D : Dv) (k : Nat) (f : Nat → UInt8) : Dv := { D with slot := fun k' => if k' = k then f else D.slot k' }
set_option maxRecDepth 100000 in
theorem slotTo_dev (D : Dv) (v : Value) (b k : Nat) (f : Nat → UInt8) (w : World) (hd : Dev w b D v) (hk : k < 2) : Dev (w.setCells b (16400 + k * 500) (brow 500 (fun i => bv (f i)))) b (D.slotTo k f) v := by
  refine hd.turn ((hd.cel.setRow (16400 + k * 500) 500 (by omega) _).congr (fun j hj => ?_)) (Fr.setCells _ _ _ _ _) rfl ⟨hd.ok.cnt, hd.ok.sure, hd.ok.zero, hd.ok.left, hd.ok.ws, hd.ok.few⟩
  unfold updl
  by_cases h : 16400 + k * 500 ≤ j ∧ j < 16400 + k * 500 + 500
  · rw [if_pos h]
    have e := dcell_slot (D.slotTo k f) v k (j - (16400 + k * 500)) hk (by omega)
    rw [show 16400 + k * 500 + (j - (16400 + k * 500)) = j by omega] at e
    rw [e]
    simp [Dv.slotTo]
  · rw [if_neg h]
    unfold dcell
    by_cases h1 : j < 16400
    · rw [if_pos h1, if_pos h1]; rfl
    · rw [if_neg h1, if_neg h1]
      by_cases h2 : j < 17400
      · rw [if_pos h2, if_pos h2]
        have hne : (j - 16400) / 500 ≠ k := by omega
        simp [Dv.slotTo, hne]
      · rw [if_neg h2, if_neg h2]; rfl
def Dv.none (D : Dv) : Dv := { D with ws := [] }
theorem none_dev (D : Dv) (v : Value) (b : Nat) (w : World) (hd : Dev w b D v) : Dev (w.setCell ⟨b, 17400, none⟩ (.slice none 0 0)) b D.none (.slice none 0 0) where
  cel := by
    refine (hd.cel.set 17400 (by omega) _).congr (fun j hj => ?_)
    unfold updv
    by_cases e : j = 17400
    · subst e; rw [if_pos rfl, dcell_ws]
    · rw [if_neg e]
      unfold dcell
      have h3 : j < 16400 ∨ (¬ j < 16400 ∧ j < 17400) ∨ (¬ j < 16400 ∧ ¬ j < 17400) := by omega
      rcases h3 with h | ⟨h, h'⟩ | ⟨h, h'⟩
      · rw [if_pos h, if_pos h]; rfl
      · rw [if_neg h, if_neg h, if_pos h', if_pos h']; rfl
      · rw [if_neg h, if_neg h, if_neg h', if_neg h', if_neg e, if_neg e]; rfl
  own := World.ownsRow_nil _ _ _ _
  ne := by simp [Value.ownBlock]
  ok := ⟨hd.ok.cnt, hd.ok.sure, hd.ok.zero, hd.ok.left, fun p hp => by simp [Dv.none] at hp, by simp [Dv.none]⟩
def Dv.settled (D : Dv) (kept : Nat → Bool) : Dv := ((D.slotTo 0 (D.slotBy 0 kept)).slotTo 1 (D.slotBy 1 kept)).none
set_option maxRecDepth 100000 in
set_option maxHeartbeats 2000000 in
theorem settle_any (D : Dv) (v : Value) (b fid : Nat) (caps : Array Value) (kept : Nat → Bool) (w : World) (hd : Dev w b D v)
    (heg : ∀ args w, (callFunc fid args).run Tryz.prog w = .ok (.enter fid args) w)
    (hkc : ∀ (i : Nat) (W : World), Fr b none w W → Calls Tryz.prog fid (#[.int .i64 i] ++ caps) W fun e W' => e = .returned (.bool (kept i)) ∧ W' = W) :
    Calls Tryz.prog 47 #[.pointer (some ⟨b, 0, none⟩), .func (.func fid) #[] caps] w fun e w' => e = .returned (.tuple #[]) ∧ Dev w' b (D.settled kept) (.slice none 0 0) ∧ Fr b none w w' := by
  have HD := (show Hid _ from hd)
  have HK := (show Hid _ from hkc)
  have HE := (show Hid _ from heg)
  clear hd hkc heg
  go_enter Tryz.func47, Tryz.ntmps47
  go_wp2_with fail
  refine wp_loop_rounds 3 ?_
  rw [rounds_succ]
  go_wp2_with fail
  go_region_with (go_at_call 80; refine (last_any D v b 0 fid caps kept _ (HD.out.since (Since.refl _).drew) (by omega) HE.out (fun i W h => HK.out i W (Fr.of_since (Since.trans (Since.refl _).drew h)))).mono ?_; rintro e w1 ⟨rfl, hS1⟩; have hd1 := (HD.out.since (Since.refl _).drew).since hS1; have hst := hd1.cel.store Tryz.prog 16400 500 (by omega) (fun i => bv (D.slotBy 0 kept i)) (fun _ _ => rfl); have HD1 := (show Hid _ from hd1); clear hd1; have hL : (brow 500 (fun i => bv (D.slotBy 0 kept i))).length = 500 := brow_length _ _)
  have hd2 := slotTo_dev D v b 0 (D.slotBy 0 kept) w1 HD1.out (by omega)
  have hf2 : Fr b none w (w1.setCells b (16400 + 0 * 500) (brow 500 (fun i => bv (D.slotBy 0 kept i)))) := (Fr.of_since (Since.trans (Since.refl w).drew hS1)).trans' (Fr.setCells _ _ _ _ _)
  rw [show 16400 + 0 * 500 = 16400 from rfl] at hd2 hf2
  generalize w1.setCells b 16400 (brow 500 (fun i => bv (D.slotBy 0 kept i))) = w2 at *
  have HD2 := (show Hid _ from hd2)
  have HF2 := (show Hid _ from hf2)
  clear hd2 hf2 hst HD1 hS1
  go_wp2_with fail
  rw [rounds_succ]
  go_wp2_with fail
  have hby : (D.slotTo 0 (D.slotBy 0 kept)).slotBy 1 kept = D.slotBy 1 kept := rfl
  have HBY := (show Hid _ from hby)
  clear hby
  go_region_with (go_at_call 80; refine (last_any (D.slotTo 0 (D.slotBy 0 kept)) v b 1 fid caps kept _ (HD2.out.since (Since.refl _).drew) (by omega) HE.out (fun i W h => HK.out i W (HF2.out.trans' (Fr.of_since (Since.trans (Since.refl _).drew h))))).mono ?_; rintro e w3 ⟨rfl, hS3⟩; rw [HBY.out]; have hd3 := (HD2.out.since (Since.refl _).drew).since hS3; have hst := hd3.cel.store Tryz.prog 16900 500 (by omega) (fun i => bv (D.slotBy 1 kept i)) (fun _ _ => rfl); have HD3 := (show Hid _ from hd3); clear hd3; have hL : (brow 500 (fun i => bv (D.slotBy 1 kept i))).length = 500 := brow_length _ _)
  have hd4 := slotTo_dev _ v b 1 (D.slotBy 1 kept) w3 HD3.out (by omega)
  have hf4 : Fr b none w (w3.setCells b (16400 + 1 * 500) (brow 500 (fun i => bv (D.slotBy 1 kept i)))) := (HF2.out.trans' (Fr.of_since (Since.trans (Since.refl _).drew hS3))).trans' (Fr.setCells _ _ _ _ _)
  rw [show 16400 + 1 * 500 = 16900 from rfl] at hd4 hf4
  generalize w3.setCells b 16900 (brow 500 (fun i => bv (D.slotBy 1 kept i))) = w4 at *
  have c4 := hd4.cel.cell 17400 (by omega)
  have f4 := hd4.cel.frozen 17400 (by omega)
  rw [dcell_ws] at c4
  have HD4 := (show Hid _ from hd4)
  have HF4 := (show Hid _ from hf4)
  clear hd4 hf4 hst HD3 hS3
  go_wp2_with fail
  rw [rounds_succ]
  go_wp2_with fail
  go_end0
  exact ⟨rfl, none_dev _ v b w4 HD4.out, HF4.out.trans' (Fr.setCell _ _ _ _ _)⟩
theorem every_enters : ∀ args w, (callFunc 71 args).run Tryz.prog w = .ok (.enter 71 args) w := enters_of Tryz.func71 (by kernel_rfl) rfl
set_option maxRecDepth 100000 in
theorem get_any (D : Dv) (v : Value) (b k : Nat) (w : World) (hd : Dev w b D v) (hk : k < 2) :
    Calls Tryz.prog 107 #[.pointer (some ⟨b, 0, none⟩), .int .i64 k] w fun e w' => e = .returned (.tuple #[.string (txt 500 (D.slotBy k (fun _ => true))), .nilIface]) ∧ Since w w' := by
  have hh := hs_true hk
  have HD := (show Hid _ from hd)
  clear hd
  go_enter Tryz.func107, Tryz.ntmps107
  go_wp2_with fail
  refine (orNew_any _ _).mono ?_
  rintro e w' ⟨rfl, rfl⟩
  go_wp2_with fail
  refine (hasSlot_any _ _).mono ?_
  rintro e w' ⟨rfl, rfl⟩
  rw [hh]
  go_wp2_with fail
  refine (last_any D v b k 71 #[] (fun _ => true) _ HD.out hk every_enters (fun i W _ => every_any i W)).mono ?_
  rintro e w1 ⟨rfl, hS1⟩
  have hL : (brow 500 (fun i => bv (D.slotBy k (fun _ => true) i))).length = 500 := brow_length _ _
  have hC : Cel (w1.alloc (.cells Tryz.zeroCells80 80)) w1.heap.size 500 (fun _ => bv 0) := Cel.new w1 _ _ _ _ (fun j hj => zeroSlot_get j hj) _ rfl
  have hst := hC.store Tryz.prog 0 500 (by omega) (fun i => bv (D.slotBy k (fun _ => true) i)) (fun _ _ => rfl)
  have hC2 := (hC.setRow 0 500 (by omega) (fun i => bv (D.slotBy k (fun _ => true) i))).congr (g := fun i => bv (D.slotBy k (fun _ => true) i)) (fun j hj => by unfold updl; rw [if_pos (by omega)]; rfl)
  have hS2 : Since w' ((w1.alloc (.cells Tryz.zeroCells80 80)).setCells w1.heap.size 0 (brow 500 (fun i => bv (D.slotBy k (fun _ => true) i)))) := (hS1.alloc _).setCells hS1.size _ _
  have hcv := conv_txt _ w1.heap.size 0 500 500 (D.slotBy k (fun _ => true)) (fun i hi => by rw [Nat.zero_add]; exact hC2.cell i hi)
  have HS2 := (show Hid _ from hS2)
  clear hC hC2 hS2
  go_wp2_with fail
  go_ret2
  exact ⟨rfl, HS2.out⟩
end Go.Proofs.YtifnhnfjelfddaaGreatDoor
end
section
namespace Go.Proofs.YtifnhnfjelfddaaGreatDoor
open Go.RowKit
def Dv.sureTo (D : Dv) (k : Nat) : Dv := { D with sure := fun z => if z < k then D.cnt z else D.sure z }
theorem sureTo_dev (D : Dv) (v : Value) (b k : Nat) (w : World) (hd : Dev w b (D.sureTo k) v) (hk : k < 8) : Dev (w.setCell ⟨b, k * 2050 + 2049, none⟩ (.int .i64 (D.cnt k))) b (D.sureTo (k + 1)) v := by
  have hok : (D.sureTo (k + 1)).ok := by
    have h := hd.ok
    refine ⟨h.cnt, fun z hz => ?_, h.zero, h.left, h.ws, h.few⟩
    show (if z < k + 1 then D.cnt z else D.sure z) ≤ D.cnt z
    split
    · exact Nat.le_refl _
    · have := h.sure z hz
      have e : (D.sureTo k).sure z = D.sure z := by show (if z < k then _ else _) = _; rw [if_neg (by omega)]
      rw [e] at this
      exact this
  refine hd.turn ((hd.cel.set (k * 2050 + 2049) (by omega) _).congr (fun j hj => ?_)) (Fr.setCell _ _ _ _ _) rfl hok
  refine dcell_turn (D.sureTo k) (D.sureTo (k + 1)) v k hk _ (fun j hj => ?_) (fun j hj => ?_) (fun z' h => rfl) (fun z' h => rfl) (fun z' h => ?_) rfl rfl rfl j
  · unfold updv
    by_cases h0 : j = 2049
    · rw [if_pos (by omega)]
      unfold scell
      rw [if_neg (by omega), if_neg (by omega)]
      show Value.int .i64 (D.cnt k) = .int .i64 ((if k < k + 1 then D.cnt k else D.sure k : Nat) : Int)
      rw [if_pos (by omega)]
    · rw [if_neg (by omega), dcell_zone _ v k j hk hj]
      unfold scell
      by_cases h1 : j < 2048
      · rw [if_pos h1, if_pos h1]; rfl
      · rw [if_neg h1, if_neg h1, if_pos (by omega), if_pos (by omega)]; rfl
  · unfold updv
    rw [if_neg (by omega)]
  · show (if z' < k + 1 then _ else _) = (if z' < k then _ else _)
    by_cases h1 : z' < k
    · rw [if_pos h1, if_pos (by omega)]
    · rw [if_neg h1, if_neg (by omega)]
theorem sync_spent (D : Dv) (v : Value) (b : Nat) (w : World) (hd : Dev w b D v) (hm : D.may = false) :
    Calls Tryz.prog 43 #[.pointer (some ⟨b, 0, none⟩)] w fun e w' => e = .returned (.iface 45 (.int .i64 14)) ∧ w' = w := by
  go_enter Tryz.func43, Tryz.ntmps43
  go_wp2_with fail
  refine (orNew_any _ _).mono ?_
  rintro e w' ⟨rfl, rfl⟩
  go_wp2_with fail
  refine (burn_any D v b _ hd).mono ?_
  rintro e w1 ⟨rfl, h1, _⟩
  obtain rfl := h1 hm
  rw [hm]
  go_wp2_with fail
  go_ret
  exact ⟨rfl, rfl⟩
def Dv.synced (D : Dv) : Dv := (D.sureTo 8).settled (fun _ => true)
set_option maxRecDepth 100000 in
set_option maxHeartbeats 2000000 in
theorem sync_any (D : Dv) (v : Value) (b : Nat) (w : World) (hd : Dev w b D v) (hm : D.may = true) :
    Calls Tryz.prog 43 #[.pointer (some ⟨b, 0, none⟩)] w fun e w' => e = .returned .nilIface ∧ Dev w' b D.burnt.synced (.slice none 0 0) ∧ Fr b none w w' := by
  have HD := (show Hid _ from hd)
  clear hd
  go_enter Tryz.func43, Tryz.ntmps43
  go_wp2_with fail
  refine (orNew_any _ _).mono ?_
  rintro e w' ⟨rfl, rfl⟩
  go_wp2_with fail
  refine (burn_any D v b _ HD.out).mono ?_
  rintro e w1 ⟨rfl, _, h1⟩
  obtain ⟨hd1, hf1⟩ := h1 hm
  rw [hm]
  have HD1 := (show Hid _ from hd1)
  have HF1 := (show Hid _ from hf1)
  clear h1 hd1 hf1
  go_wp2_with fail
  generalize hE : D.burnt = E at *
  have HE := (show Hid (D.burnt = E) from hE)
  clear hE
  go_loopw [10] (fun i wr => ∃ k : Nat, k ≤ 8 ∧ i = .int .i64 k ∧ Dev wr b (E.sureTo k) v ∧ Fr b none w' wr) (fun i _ => 8 - (intOf i).toNat)
  case atStart =>
    refine ⟨0, by omega, rfl, ?_, HF1.out⟩
    have e : E.sureTo 0 = E := by
      unfold Dv.sureTo
      cases E
      simp
    rw [e]
    exact HD1.out
  case round =>
    obtain ⟨k, hk, rfl, hdk, hfk⟩ := hrel
    have HDK := (show Hid _ from hdk)
    have HFK := (show Hid _ from hfk)
    clear hfk
    by_cases hlt : k < 8
    · have hlt2 : (k : Int) < 8 := by omega
      have hdd := hdk.since (Since.refl wr).drew
      have c1 := hdd.cel.cell (k * 2050 + 2048) (by omega)
      rw [dcell_cnt _ v k hlt] at c1
      have c2 := hdd.cel.cell (k * 2050 + 2049) (by omega)
      have f2 := hdd.cel.frozen (k * 2050 + 2049) (by omega)
      rw [dcell_sure _ v k hlt] at c2
      have e1 : (E.sureTo k).cnt k = E.cnt k := rfl
      rw [e1] at c1
      clear e1 hdk hdd
      go_wp2_with fail
      go_region
      go_wp2_with fail
      go_roundw
      case rel => exact ⟨k + 1, by omega, by go_num, sureTo_dev E v b k _ (HDK.out.since (Since.refl wr).drew) hlt, (HFK.out.trans' (Fr.of_since (Since.refl wr).drew)).trans' (Fr.setCell _ _ _ _ _)⟩
      case measure => simp [intOf]; omega
    · have hke : k = 8 := by omega
      subst hke
      clear hdk
      go_wp2_with fail
      refine (settle_any (E.sureTo 8) v b 71 #[] (fun _ => true) _ HDK.out every_enters (fun i W _ => every_any i W)).mono ?_
      rintro e w2 ⟨rfl, hd2, hf2⟩
      go_wp2_with fail
      go_ret
      exact ⟨rfl, by rw [HE.out]; exact hd2, HFK.out.trans' hf2⟩
end Go.Proofs.YtifnhnfjelfddaaGreatDoor
end
section
namespace Go.Proofs.YtifnhnfjelfddaaGreatDoor
open Go.RowKit
def kept1 (c s : Nat) (keep : Int) : Nat := s + min keep.toNat (c - s)
theorem zcells_get (n j : Nat) (hj : j < n * 128) : (Builtin.zeroCells Tryz.zeroCells75 n)[j]? = some (bv 0) := by
  unfold Builtin.zeroCells
  have hsz := Tryz.zeroCells75_size
  rw [Array.getElem?_map, hsz, Array.getElem?_eq_getElem (by simpa using hj)]
  have h := zeroBlock_get (j % 128) (by omega)
  simp only [Array.getElem_range, Option.map_some]
  rw [getElem!_def, h]
theorem zcells_list (n : Nat) : (Builtin.zeroCells Tryz.zeroCells75 n).toList = brow (n * 128) (fun _ => bv 0) := by
  refine brow_of ?_ (fun j hj => by rw [Array.getElem?_toList]; exact zcells_get n j hj)
  unfold Builtin.zeroCells
  simp [Tryz.zeroCells75_size]
theorem clear_any (w : World) (ty b o m cap n : Nat) (f : Nat → Value) (hc : Cel w b n f) (hm : o + m * 128 ≤ n) :
    (Builtin.clear_ #[140] ty #[.slice (some ⟨b, o, none⟩) m cap]).run Tryz.prog w = .ok (.tuple #[]) (w.setCells b o (brow (m * 128) (fun _ => bv 0))) := by
  cases m with
  | zero =>
    simp [Builtin.clear_, run_underlying Tryz.underlying140, brow, World.setCells]
  | succ m =>
    have hst := hc.store Tryz.prog o ((m + 1) * 128) hm (fun _ => bv 0) (fun _ _ => rfl)
    have hz := Tryz.zeroValue75 w
    have hl := zcells_list (m + 1)
    simp [Builtin.clear_, run_underlying Tryz.underlying140, hz, Value.cells, hl, hst]
def crashed (f : Nat → Value) (o k : Nat) : Nat → Value := updl (updv (updv f (o + 2048) (.int .i64 k)) (o + 2049) (.int .i64 k)) (o + k * 128) ((16 - k) * 128) (fun _ => bv 0)
end Go.Proofs.YtifnhnfjelfddaaGreatDoor
end
