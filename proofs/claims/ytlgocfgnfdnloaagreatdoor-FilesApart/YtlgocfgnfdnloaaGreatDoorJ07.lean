import Derived.BigRegion
import Derived.Test.YtlgocfgnfdnloaaGreatDoorJ06
set_option linter.unusedSimpArgs false
set_option linter.unusedVariables false
section
namespace Go.Proofs.YtlgocfgnfdnloaaGreatDoor
open Go.RowKit
def Dv.slotTo (D : Dv) (k : Nat) (f : Nat → UInt8) : Dv := { D with slot := fun k' => if k' = k then f else D.slot k' }
set_option maxRecDepth 100000 in
theorem slotTo_dev (D : Dv) (v : Value) (b k : Nat) (f : Nat → UInt8) (w : World) (hd : Dev w b D v) (hk : k < 2) : Dev (w.setCells b (16400 + k * 500) (brow 500 (fun i => bv (f i)))) b (D.slotTo k f) v := by
  refine hd.turn ((hd.cel.setRow (16400 + k * 500) 500 (by omega) _).congr (fun j hj => ?_)) (Fr.setCells _ _ _ _ _) rfl ⟨hd.ok.cnt, hd.ok.sure, hd.ok.zero, hd.ok.left, hd.ok.ws, hd.ok.few⟩
  unfold updl
  by_cases h : 16400 + k * 500 ≤ j ∧ j < 16400 + k * 500 + 500
  · rw [if_pos h]
    have e := dcell_slot (D.slotTo k f) v k (j - (16400 + k * 500)) hk (by omega)
    rw [show 16400 + k * 500 + (j - (16400 + k * 500)) = j by omega] at e
    rw [e]
    simp [Dv.slotTo]
  · rw [if_neg h]
    unfold dcell
    by_cases h1 : j < 16400
    · rw [if_pos h1, if_pos h1]; rfl
    · rw [if_neg h1, if_neg h1]
      by_cases h2 : j < 17400
      · rw [if_pos h2, if_pos h2]
        have hne : (j - 16400) / 500 ≠ k := by omega
        simp [Dv.slotTo, hne]
      · rw [if_neg h2, if_neg h2]; rfl
def Dv.none (D : Dv) : Dv := { D with ws := [] }
theorem none_dev (D : Dv) (v : Value) (b : Nat) (w : World) (hd : Dev w b D v) : Dev (w.setCell ⟨b, 17400, none⟩ (.slice none 0 0)) b D.none (.slice none 0 0) where
  cel := by
    refine (hd.cel.set 17400 (by omega) _).congr (fun j hj => ?_)
    unfold updv
    by_cases e : j = 17400
    · subst e; rw [if_pos rfl, dcell_ws]
    · rw [if_neg e]
      unfold dcell
      have h3 : j < 16400 ∨ (¬ j < 16400 ∧ j < 17400) ∨ (¬ j < 16400 ∧ ¬ j < 17400) := by omega
      rcases h3 with h | ⟨h, h'⟩ | ⟨h, h'⟩
      · rw [if_pos h, if_pos h]; rfl
      · rw [if_neg h, if_neg h, if_pos h', if_pos h']; rfl
      · rw [if_neg h, if_neg h, if_neg h', if_neg h', if_neg e, if_neg e]; rfl
  own := World.ownsRow_nil _ _ _ _
  ne := by simp [Value.ownBlock]
  ok := ⟨hd.ok.cnt, hd.ok.sure, hd.ok.zero, hd.ok.left, fun p hp => by simp [Dv.none] at hp, by simp [Dv.none]⟩
def Dv.settled (D : Dv) (kept : Nat → Bool) : Dv := ((D.slotTo 0 (D.slotBy 0 kept)).slotTo 1 (D.slotBy 1 kept)).none
set_option maxRecDepth 100000 in
set_option maxHeartbeats 2000000 in
theorem settle_any (D : Dv) (v : Value) (b fid : Nat) (caps : Array Value) (kept : Nat → Bool) (w : World) (hd : Dev w b D v)
    (heg : ∀ args w, (callFunc fid args).run Tryz.prog w = .ok (.enter fid args) w)
    (hkc : ∀ (i : Nat) (W : World), Fr b none w W → Calls Tryz.prog fid (#[.int .i64 i] ++ caps) W fun e W' => e = .returned (.bool (kept i)) ∧ W' = W) :
    Calls Tryz.prog 93 #[.pointer (some ⟨b, 0, none⟩), .func (.func fid) #[] caps] w fun e w' => e = .returned (.tuple #[]) ∧ Dev w' b (D.settled kept) (.slice none 0 0) ∧ Fr b none w w' := by
  have HD := (show Hid _ from hd)
  have HK := (show Hid _ from hkc)
  have HE := (show Hid _ from heg)
  clear hd hkc heg
  go_enter Tryz.func93, Tryz.ntmps93
  go_wp2_with fail
  refine wp_loop_rounds 3 ?_
  rw [rounds_succ]
  go_wp2_with fail
  go_region_with (go_at_call 164; refine (last_any D v b 0 fid caps kept _ (HD.out.since (Since.refl _).drew) (by omega) HE.out (fun i W h => HK.out i W (Fr.of_since (Since.trans (Since.refl _).drew h)))).mono ?_; rintro e w1 ⟨rfl, hS1⟩; have hd1 := (HD.out.since (Since.refl _).drew).since hS1; have hst := hd1.cel.store Tryz.prog 16400 500 (by omega) (fun i => bv (D.slotBy 0 kept i)) (fun _ _ => rfl); have HD1 := (show Hid _ from hd1); clear hd1; have hL : (brow 500 (fun i => bv (D.slotBy 0 kept i))).length = 500 := brow_length _ _)
  have hd2 := slotTo_dev D v b 0 (D.slotBy 0 kept) w1 HD1.out (by omega)
  have hf2 : Fr b none w (w1.setCells b (16400 + 0 * 500) (brow 500 (fun i => bv (D.slotBy 0 kept i)))) := (Fr.of_since (Since.trans (Since.refl w).drew hS1)).trans' (Fr.setCells _ _ _ _ _)
  rw [show 16400 + 0 * 500 = 16400 from rfl] at hd2 hf2
  generalize w1.setCells b 16400 (brow 500 (fun i => bv (D.slotBy 0 kept i))) = w2 at *
  have HD2 := (show Hid _ from hd2)
  have HF2 := (show Hid _ from hf2)
  clear hd2 hf2 hst HD1 hS1
  go_wp2_with fail
  rw [rounds_succ]
  go_wp2_with fail
  have hby : (D.slotTo 0 (D.slotBy 0 kept)).slotBy 1 kept = D.slotBy 1 kept := rfl
  have HBY := (show Hid _ from hby)
  clear hby
  go_region_with (go_at_call 164; refine (last_any (D.slotTo 0 (D.slotBy 0 kept)) v b 1 fid caps kept _ (HD2.out.since (Since.refl _).drew) (by omega) HE.out (fun i W h => HK.out i W (HF2.out.trans' (Fr.of_since (Since.trans (Since.refl _).drew h))))).mono ?_; rintro e w3 ⟨rfl, hS3⟩; rw [HBY.out]; have hd3 := (HD2.out.since (Since.refl _).drew).since hS3; have hst := hd3.cel.store Tryz.prog 16900 500 (by omega) (fun i => bv (D.slotBy 1 kept i)) (fun _ _ => rfl); have HD3 := (show Hid _ from hd3); clear hd3; have hL : (brow 500 (fun i => bv (D.slotBy 1 kept i))).length = 500 := brow_length _ _)
  have hd4 := slotTo_dev _ v b 1 (D.slotBy 1 kept) w3 HD3.out (by omega)
  have hf4 : Fr b none w (w3.setCells b (16400 + 1 * 500) (brow 500 (fun i => bv (D.slotBy 1 kept i)))) := (HF2.out.trans' (Fr.of_since (Since.trans (Since.refl _).drew hS3))).trans' (Fr.setCells _ _ _ _ _)
  rw [show 16400 + 1 * 500 = 16900 from rfl] at hd4 hf4
  generalize w3.setCells b 16900 (brow 500 (fun i => bv (D.slotBy 1 kept i))) = w4 at *
  have c4 := hd4.cel.cell 17400 (by omega)
  have f4 := hd4.cel.frozen 17400 (by omega)
  rw [dcell_ws] at c4
  have HD4 := (show Hid _ from hd4)
  have HF4 := (show Hid _ from hf4)
  clear hd4 hf4 hst HD3 hS3
  go_wp2_with fail
  rw [rounds_succ]
  go_wp2_with fail
  go_end0
  exact ⟨rfl, none_dev _ v b w4 HD4.out, HF4.out.trans' (Fr.setCell _ _ _ _ _)⟩
theorem every_enters : ∀ args w, (callFunc 219 args).run Tryz.prog w = .ok (.enter 219 args) w := enters_of Tryz.func219 (by kernel_rfl) rfl
set_option maxRecDepth 100000 in
theorem get_any (D : Dv) (v : Value) (b k : Nat) (w : World) (hd : Dev w b D v) (hk : k < 2) :
    Calls Tryz.prog 253 #[.pointer (some ⟨b, 0, none⟩), .int .i64 k] w fun e w' => e = .returned (.tuple #[.string (txt 500 (D.slotBy k (fun _ => true))), .nilIface]) ∧ Since w w' := by
  have hh := hs_true hk
  have HD := (show Hid _ from hd)
  clear hd
  go_enter Tryz.func253, Tryz.ntmps253
  go_wp2_with fail
  refine (orNew_any _ _).mono ?_
  rintro e w' ⟨rfl, rfl⟩
  go_wp2_with fail
  refine (hasSlot_any _ _).mono ?_
  rintro e w' ⟨rfl, rfl⟩
  rw [hh]
  go_wp2_with fail
  refine (last_any D v b k 219 #[] (fun _ => true) _ HD.out hk every_enters (fun i W _ => every_any i W)).mono ?_
  rintro e w1 ⟨rfl, hS1⟩
  have hL : (brow 500 (fun i => bv (D.slotBy k (fun _ => true) i))).length = 500 := brow_length _ _
  have hC : Cel (w1.alloc (.cells Tryz.zeroCells125 125)) w1.heap.size 500 (fun _ => bv 0) := Cel.new w1 _ _ _ _ (fun j hj => zeroSlot_get j hj) _ rfl
  have hst := hC.store Tryz.prog 0 500 (by omega) (fun i => bv (D.slotBy k (fun _ => true) i)) (fun _ _ => rfl)
  have hC2 := (hC.setRow 0 500 (by omega) (fun i => bv (D.slotBy k (fun _ => true) i))).congr (g := fun i => bv (D.slotBy k (fun _ => true) i)) (fun j hj => by unfold updl; rw [if_pos (by omega)]; rfl)
  have hS2 : Since w' ((w1.alloc (.cells Tryz.zeroCells125 125)).setCells w1.heap.size 0 (brow 500 (fun i => bv (D.slotBy k (fun _ => true) i)))) := (hS1.alloc _).setCells hS1.size _ _
  have hcv := conv_txt _ w1.heap.size 0 500 500 (D.slotBy k (fun _ => true)) (fun i hi => by rw [Nat.zero_add]; exact hC2.cell i hi)
  have HS2 := (show Hid _ from hS2)
  clear hC hC2 hS2
  go_wp2_with fail
  go_ret2
  exact ⟨rfl, HS2.out⟩
end Go.Proofs.YtlgocfgnfdnloaaGreatDoor
end
section
namespace Go.Proofs.YtlgocfgnfdnloaaGreatDoor
open Go.RowKit
def Dv.sureTo (D : Dv) (k : Nat) : Dv := { D with sure := fun z => if z < k then D.cnt z else D.sure z }
theorem sureTo_dev (D : Dv) (v : Value) (b k : Nat) (w : World) (hd : Dev w b (D.sureTo k) v) (hk : k < 8) : Dev (w.setCell ⟨b, k * 2050 + 2049, none⟩ (.int .i64 (D.cnt k))) b (D.sureTo (k + 1)) v := by
  have hok : (D.sureTo (k + 1)).ok := by
    have h := hd.ok
    refine ⟨h.cnt, fun z hz => ?_, h.zero, h.left, h.ws, h.few⟩
    show (if z < k + 1 then D.cnt z else D.sure z) ≤ D.cnt z
    split
    · exact Nat.le_refl _
    · have := h.sure z hz
      have e : (D.sureTo k).sure z = D.sure z := by show (if z < k then _ else _) = _; rw [if_neg (by omega)]
      rw [e] at this
      exact this
  refine hd.turn ((hd.cel.set (k * 2050 + 2049) (by omega) _).congr (fun j hj => ?_)) (Fr.setCell _ _ _ _ _) rfl hok
  refine dcell_turn (D.sureTo k) (D.sureTo (k + 1)) v k hk _ (fun j hj => ?_) (fun j hj => ?_) (fun z' h => rfl) (fun z' h => rfl) (fun z' h => ?_) rfl rfl rfl j
  · unfold updv
    by_cases h0 : j = 2049
    · rw [if_pos (by omega)]
      unfold scell
      rw [if_neg (by omega), if_neg (by omega)]
      show Value.int .i64 (D.cnt k) = .int .i64 ((if k < k + 1 then D.cnt k else D.sure k : Nat) : Int)
      rw [if_pos (by omega)]
    · rw [if_neg (by omega), dcell_zone _ v k j hk hj]
      unfold scell
      by_cases h1 : j < 2048
      · rw [if_pos h1, if_pos h1]; rfl
      · rw [if_neg h1, if_neg h1, if_pos (by omega), if_pos (by omega)]; rfl
  · unfold updv
    rw [if_neg (by omega)]
  · show (if z' < k + 1 then _ else _) = (if z' < k then _ else _)
    by_cases h1 : z' < k
    · rw [if_pos h1, if_pos (by omega)]
    · rw [if_neg h1, if_neg (by omega)]
theorem sync_spent (D : Dv) (v : Value) (b : Nat) (w : World) (hd : Dev w b D v) (hm : D.may = false) :
    Calls Tryz.prog 145 #[.pointer (some ⟨b, 0, none⟩)] w fun e w' => e = .returned (.iface 32 (.int .i64 14)) ∧ w' = w := by
  go_enter Tryz.func145, Tryz.ntmps145
  go_wp2_with fail
  refine (orNew_any _ _).mono ?_
  rintro e w' ⟨rfl, rfl⟩
  go_wp2_with fail
  refine (burn_any D v b _ hd).mono ?_
  rintro e w1 ⟨rfl, h1, _⟩
  obtain rfl := h1 hm
  rw [hm]
  go_wp2_with fail
  go_ret
  exact ⟨rfl, rfl⟩
def Dv.synced (D : Dv) : Dv := (D.sureTo 8).settled (fun _ => true)
set_option maxRecDepth 100000 in
set_option maxHeartbeats 2000000 in
theorem sync_any (D : Dv) (v : Value) (b : Nat) (w : World) (hd : Dev w b D v) (hm : D.may = true) :
    Calls Tryz.prog 145 #[.pointer (some ⟨b, 0, none⟩)] w fun e w' => e = .returned .nilIface ∧ Dev w' b D.burnt.synced (.slice none 0 0) ∧ Fr b none w w' := by
  have HD := (show Hid _ from hd)
  clear hd
  go_enter Tryz.func145, Tryz.ntmps145
  go_wp2_with fail
  refine (orNew_any _ _).mono ?_
  rintro e w' ⟨rfl, rfl⟩
  go_wp2_with fail
  refine (burn_any D v b _ HD.out).mono ?_
  rintro e w1 ⟨rfl, _, h1⟩
  obtain ⟨hd1, hf1⟩ := h1 hm
  rw [hm]
  have HD1 := (show Hid _ from hd1)
  have HF1 := (show Hid _ from hf1)
  clear h1 hd1 hf1
  go_wp2_with fail
  generalize hE : D.burnt = E at *
  have HE := (show Hid (D.burnt = E) from hE)
  clear hE
  go_loopw [10] (fun i wr => ∃ k : Nat, k ≤ 8 ∧ i = .int .i64 k ∧ Dev wr b (E.sureTo k) v ∧ Fr b none w' wr) (fun i _ => 8 - (intOf i).toNat)
  case atStart =>
    refine ⟨0, by omega, rfl, ?_, HF1.out⟩
    have e : E.sureTo 0 = E := by
      unfold Dv.sureTo
      cases E
      simp
    rw [e]
    exact HD1.out
  case round =>
    obtain ⟨k, hk, rfl, hdk, hfk⟩ := hrel
    have HDK := (show Hid _ from hdk)
    have HFK := (show Hid _ from hfk)
    clear hfk
    by_cases hlt : k < 8
    · have hlt2 : (k : Int) < 8 := by omega
      have hdd := hdk.since (Since.refl wr).drew
      have c1 := hdd.cel.cell (k * 2050 + 2048) (by omega)
      rw [dcell_cnt _ v k hlt] at c1
      have c2 := hdd.cel.cell (k * 2050 + 2049) (by omega)
      have f2 := hdd.cel.frozen (k * 2050 + 2049) (by omega)
      rw [dcell_sure _ v k hlt] at c2
      have e1 : (E.sureTo k).cnt k = E.cnt k := rfl
      rw [e1] at c1
      clear e1 hdk hdd
      go_wp2_with fail
      go_region
      go_wp2_with fail
      go_roundw
      case rel => exact ⟨k + 1, by omega, by go_num, sureTo_dev E v b k _ (HDK.out.since (Since.refl wr).drew) hlt, (HFK.out.trans' (Fr.of_since (Since.refl wr).drew)).trans' (Fr.setCell _ _ _ _ _)⟩
      case measure => simp [intOf]; omega
    · have hke : k = 8 := by omega
      subst hke
      clear hdk
      go_wp2_with fail
      refine (settle_any (E.sureTo 8) v b 219 #[] (fun _ => true) _ HDK.out every_enters (fun i W _ => every_any i W)).mono ?_
      rintro e w2 ⟨rfl, hd2, hf2⟩
      go_wp2_with fail
      go_ret
      exact ⟨rfl, by rw [HE.out]; exact hd2, HFK.out.trans' hf2⟩
end Go.Proofs.YtlgocfgnfdnloaaGreatDoor
end
section
namespace Go.Proofs.YtlgocfgnfdnloaaGreatDoor
open Go.RowKit
def kept1 (c s : Nat) (keep : Int) : Nat := s + min keep.toNat (c - s)
theorem zcells_get (n j : Nat) (hj : j < n * 128) : (Builtin.zeroCells Tryz.zeroCells120 n)[j]? = some (bv 0) := by
  unfold Builtin.zeroCells
  have hsz := Tryz.zeroCells120_size
  rw [Array.getElem?_map, hsz, Array.getElem?_eq_getElem (by simpa using hj)]
  have h := zeroBlock_get (j % 128) (by omega)
  simp only [Array.getElem_range, Option.map_some]
  rw [getElem!_def, h]
theorem zcells_list (n : Nat) : (Builtin.zeroCells Tryz.zeroCells120 n).toList = brow (n * 128) (fun _ => bv 0) := by
  refine brow_of ?_ (fun j hj => by rw [Array.getElem?_toList]; exact zcells_get n j hj)
  unfold Builtin.zeroCells
  simp [Tryz.zeroCells120_size]
theorem clear_any (w : World) (ty b o m cap n : Nat) (f : Nat → Value) (hc : Cel w b n f) (hm : o + m * 128 ≤ n) :
    (Builtin.clear_ #[247] ty #[.slice (some ⟨b, o, none⟩) m cap]).run Tryz.prog w = .ok (.tuple #[]) (w.setCells b o (brow (m * 128) (fun _ => bv 0))) := by
  cases m with
  | zero =>
    simp [Builtin.clear_, run_underlying Tryz.underlying247, brow, World.setCells]
  | succ m =>
    have hst := hc.store Tryz.prog o ((m + 1) * 128) hm (fun _ => bv 0) (fun _ _ => rfl)
    have hz := Tryz.zeroValue120 w
    have hl := zcells_list (m + 1)
    simp [Builtin.clear_, run_underlying Tryz.underlying247, hz, Value.cells, hl, hst]
def crashed (f : Nat → Value) (o k : Nat) : Nat → Value := updl (updv (updv f (o + 2048) (.int .i64 k)) (o + 2049) (.int .i64 k)) (o + k * 128) ((16 - k) * 128) (fun _ => bv 0)
end Go.Proofs.YtlgocfgnfdnloaaGreatDoor
end
section
namespace Go.Proofs.YtlgocfgnfdnloaaGreatDoor
open Go.RowKit
set_option maxRecDepth 100000 in
set_option maxHeartbeats 1000000 in
theorem crash1_neg (b o c s n : Nat) (keep : Int) (f : Nat → Value) (w : World) (hc : Cel w b n f) (hn : o + 2050 ≤ n) (hcnt : f (o + 2048) = .int .i64 c) (hsr : f (o + 2049) = .int .i64 s) (hc16 : c ≤ 16) (hs : s ≤ c) (h0 : keep < 0) :
    Calls Tryz.prog 92 #[.pointer (some ⟨b, o, none⟩), .int .i64 keep] w fun e w' => e = .returned (.tuple #[]) ∧ Cel w' b n (crashed f o (kept1 c s keep)) ∧ Fr b none w w' := by
  have hcd := hc.since (Since.refl w).drew
  have c1 := hcd.cell (o + 2048) (by omega)
  have f1 := hcd.frozen (o + 2048) (by omega)
  rw [hcnt] at c1
  have c2 := hcd.cell (o + 2049) (by omega)
  rw [hsr] at c2
  have g0 : (0 : Int) ≤ c - s := by omega
  have g1 : ¬ (c : Int) - s < 0 := by omega
  have ek : kept1 c s keep = s := by unfold kept1; omega
  rw [ek]
  clear hcd
  go_enter Tryz.func92, Tryz.ntmps92
  go_wp2_with fail
  go_region
  have hC1 : Cel (w.setCell ⟨b, o + 2048, none⟩ (.int .i64 (s : Nat))).drew b n (updv f (o + 2048) (.int .i64 (s : Nat))) := (hc.set (o + 2048) (by omega) _).since (Since.refl _).drew
  have hF1 : Fr b none w (w.setCell ⟨b, o + 2048, none⟩ (.int .i64 (s : Nat))).drew := (Fr.setCell _ _ _ _ _).trans' (Fr.of_since (Since.refl _).drew)
  have HC := (show Hid _ from hc)
  clear hc c1 f1 c2
  generalize (w.setCell ⟨b, o + 2048, none⟩ (.int .i64 ((s : Nat) : Int))).drew = w1 at *
  have q1 := hC1.cell (o + 2048) (by omega)
  have q2 := hC1.cell (o + 2049) (by omega)
  have p2 := hC1.frozen (o + 2049) (by omega)
  rw [show updv f (o + 2048) (.int .i64 ((s : Nat) : Int)) (o + 2048) = .int .i64 ((s : Nat) : Int) by unfold updv; rw [if_pos rfl]] at q1
  have hC2 := hC1.set (o + 2049) (by omega) (.int .i64 ((s : Nat) : Int))
  have hF2 := hF1.trans' (Fr.setCell b none (o + 2049) w1 (.int .i64 ((s : Nat) : Int)))
  have HC1 := (show Hid _ from hC1)
  clear hC1 hF1
  generalize hq : s = q at *
  have hq16 : q ≤ 16 := by omega
  have HQ := (show Hid _ from hq)
  clear hq
  go_wp2_with fail
  generalize w1.setCell ⟨b, o + 2049, none⟩ (.int .i64 (q : Int)) = w2 at *
  clear q1 q2 p2
  have hC3 := hC2.since (Since.refl _).drew
  have q3 := hC3.cell (o + 2048) (by omega)
  rw [show updv (updv f (o + 2048) (.int .i64 (q : Int))) (o + 2049) (.int .i64 (q : Int)) (o + 2048) = .int .i64 (q : Int) by unfold updv; rw [if_neg (by omega), if_pos rfl]] at q3
  have q4 : (q : Int) ≤ 16 := by omega
  have HC3 := (show Hid _ from hC3)
  have HF2 := (show Hid _ from hF2)
  by_cases h16 : q = 16
  · have hcl := clear_any w2.drew 0 b o 0 0 n _ hC3 (by omega)
    clear hC3 hC2 hF2 HC HC1 hcnt hsr ek g0 g1 hs h0 hc16
    (try clear h1)
    (try clear g2)
    have HQ2 := (show Hid _ from HQ.out.trans h16)
    clear HQ
    subst h16
    go_region
    go_wp2_with fail
    go_end0
    exact ⟨rfl, by rw [HQ2.out]; exact (HC3.out.setRow _ _ (by omega) _).congr (fun j hj => by unfold crashed updl; rw [if_neg (by omega), if_neg (by omega)]), (HF2.out.trans' (Fr.of_since (Since.refl _).drew)).trans' (Fr.setCells _ _ _ _ _)⟩
  · have h17 : ¬ 16 = q := by omega
    have hcl := clear_any w2.drew 0 b (o + q * 128) (16 - q) (16 - q) n _ hC3 (by omega)
    clear hC3 hC2 hF2 HC HC1 hcnt hsr ek g0 g1 hs h0 hc16
    (try clear h1)
    (try clear g2)
    have HH := (show Hid _ from h16)
    go_region
    go_wp2_with fail
    go_end0
    exact ⟨rfl, by rw [HQ.out]; exact HC3.out.setRow _ _ (by omega) _, (HF2.out.trans' (Fr.of_since (Since.refl _).drew)).trans' (Fr.setCells _ _ _ _ _)⟩
set_option maxRecDepth 100000 in
set_option maxHeartbeats 1000000 in
theorem crash1_few (b o c s n : Nat) (keep : Int) (f : Nat → Value) (w : World) (hc : Cel w b n f) (hn : o + 2050 ≤ n) (hcnt : f (o + 2048) = .int .i64 c) (hsr : f (o + 2049) = .int .i64 s) (hc16 : c ≤ 16) (hs : s ≤ c) (h0 : 0 ≤ keep) (h1 : keep ≤ c - s) :
    Calls Tryz.prog 92 #[.pointer (some ⟨b, o, none⟩), .int .i64 keep] w fun e w' => e = .returned (.tuple #[]) ∧ Cel w' b n (crashed f o (kept1 c s keep)) ∧ Fr b none w w' := by
  have hcd := hc.since (Since.refl w).drew
  have c1 := hcd.cell (o + 2048) (by omega)
  have f1 := hcd.frozen (o + 2048) (by omega)
  rw [hcnt] at c1
  have c2 := hcd.cell (o + 2049) (by omega)
  rw [hsr] at c2
  obtain ⟨m, rfl⟩ := Int.eq_ofNat_of_zero_le h0
  have g0 : ¬ (m : Int) < 0 := by omega
  have g1 : (m : Int) ≤ (c : Int) - s := by omega
  have ek : kept1 c s m = s + m := by unfold kept1; omega
  rw [ek]
  clear hcd
  go_enter Tryz.func92, Tryz.ntmps92
  go_wp2_with fail
  go_region
  rw [show ((s : Int) + (m : Int)) = ((s + m : Nat) : Int) by omega]
  have hC1 : Cel (w.setCell ⟨b, o + 2048, none⟩ (.int .i64 ((s + m) : Nat))).drew b n (updv f (o + 2048) (.int .i64 ((s + m) : Nat))) := (hc.set (o + 2048) (by omega) _).since (Since.refl _).drew
  have hF1 : Fr b none w (w.setCell ⟨b, o + 2048, none⟩ (.int .i64 ((s + m) : Nat))).drew := (Fr.setCell _ _ _ _ _).trans' (Fr.of_since (Since.refl _).drew)
  have HC := (show Hid _ from hc)
  clear hc c1 f1 c2
  generalize (w.setCell ⟨b, o + 2048, none⟩ (.int .i64 (((s + m) : Nat) : Int))).drew = w1 at *
  have q1 := hC1.cell (o + 2048) (by omega)
  have q2 := hC1.cell (o + 2049) (by omega)
  have p2 := hC1.frozen (o + 2049) (by omega)
  rw [show updv f (o + 2048) (.int .i64 (((s + m) : Nat) : Int)) (o + 2048) = .int .i64 (((s + m) : Nat) : Int) by unfold updv; rw [if_pos rfl]] at q1
  have hC2 := hC1.set (o + 2049) (by omega) (.int .i64 (((s + m) : Nat) : Int))
  have hF2 := hF1.trans' (Fr.setCell b none (o + 2049) w1 (.int .i64 (((s + m) : Nat) : Int)))
  have HC1 := (show Hid _ from hC1)
  clear hC1 hF1
  generalize hq : (s + m) = q at *
  have hq16 : q ≤ 16 := by omega
  have HQ := (show Hid _ from hq)
  clear hq
  go_wp2_with fail
  generalize w1.setCell ⟨b, o + 2049, none⟩ (.int .i64 (q : Int)) = w2 at *
  clear q1 q2 p2
  have hC3 := hC2.since (Since.refl _).drew
  have q3 := hC3.cell (o + 2048) (by omega)
  rw [show updv (updv f (o + 2048) (.int .i64 (q : Int))) (o + 2049) (.int .i64 (q : Int)) (o + 2048) = .int .i64 (q : Int) by unfold updv; rw [if_neg (by omega), if_pos rfl]] at q3
  have q4 : (q : Int) ≤ 16 := by omega
  have HC3 := (show Hid _ from hC3)
  have HF2 := (show Hid _ from hF2)
  by_cases h16 : q = 16
  · have hcl := clear_any w2.drew 0 b o 0 0 n _ hC3 (by omega)
    clear hC3 hC2 hF2 HC HC1 hcnt hsr ek g0 g1 hs h0 hc16
    (try clear h1)
    (try clear g2)
    have HQ2 := (show Hid _ from HQ.out.trans h16)
    clear HQ
    subst h16
    go_region
    go_wp2_with fail
    go_end0
    exact ⟨rfl, by rw [HQ2.out]; exact (HC3.out.setRow _ _ (by omega) _).congr (fun j hj => by unfold crashed updl; rw [if_neg (by omega), if_neg (by omega)]), (HF2.out.trans' (Fr.of_since (Since.refl _).drew)).trans' (Fr.setCells _ _ _ _ _)⟩
  · have h17 : ¬ 16 = q := by omega
    have hcl := clear_any w2.drew 0 b (o + q * 128) (16 - q) (16 - q) n _ hC3 (by omega)
    clear hC3 hC2 hF2 HC HC1 hcnt hsr ek g0 g1 hs h0 hc16
    (try clear h1)
    (try clear g2)
    have HH := (show Hid _ from h16)
    go_region
    go_wp2_with fail
    go_end0
    exact ⟨rfl, by rw [HQ.out]; exact HC3.out.setRow _ _ (by omega) _, (HF2.out.trans' (Fr.of_since (Since.refl _).drew)).trans' (Fr.setCells _ _ _ _ _)⟩
set_option maxRecDepth 100000 in
set_option maxHeartbeats 1000000 in
theorem crash1_all (b o c s n : Nat) (keep : Int) (f : Nat → Value) (w : World) (hc : Cel w b n f) (hn : o + 2050 ≤ n) (hcnt : f (o + 2048) = .int .i64 c) (hsr : f (o + 2049) = .int .i64 s) (hc16 : c ≤ 16) (hs : s ≤ c) (h0 : 0 ≤ keep) (h1 : (c : Int) - s < keep) :
    Calls Tryz.prog 92 #[.pointer (some ⟨b, o, none⟩), .int .i64 keep] w fun e w' => e = .returned (.tuple #[]) ∧ Cel w' b n (crashed f o (kept1 c s keep)) ∧ Fr b none w w' := by
  have hcd := hc.since (Since.refl w).drew
  have c1 := hcd.cell (o + 2048) (by omega)
  have f1 := hcd.frozen (o + 2048) (by omega)
  rw [hcnt] at c1
  have c2 := hcd.cell (o + 2049) (by omega)
  rw [hsr] at c2
  have g0 : ¬ keep < 0 := by omega
  have g1 : (c : Int) - s < keep := by omega
  have g2 : (s : Int) + (c - s) = c := by omega
  have ek : kept1 c s keep = c := by unfold kept1; omega
  rw [ek]
  clear hcd
  go_enter Tryz.func92, Tryz.ntmps92
  go_wp2_with fail
  go_region
  have hC1 : Cel (w.setCell ⟨b, o + 2048, none⟩ (.int .i64 (c : Nat))).drew b n (updv f (o + 2048) (.int .i64 (c : Nat))) := (hc.set (o + 2048) (by omega) _).since (Since.refl _).drew
  have hF1 : Fr b none w (w.setCell ⟨b, o + 2048, none⟩ (.int .i64 (c : Nat))).drew := (Fr.setCell _ _ _ _ _).trans' (Fr.of_since (Since.refl _).drew)
  have HC := (show Hid _ from hc)
  clear hc c1 f1 c2
  generalize (w.setCell ⟨b, o + 2048, none⟩ (.int .i64 ((c : Nat) : Int))).drew = w1 at *
  have q1 := hC1.cell (o + 2048) (by omega)
  have q2 := hC1.cell (o + 2049) (by omega)
  have p2 := hC1.frozen (o + 2049) (by omega)
  rw [show updv f (o + 2048) (.int .i64 ((c : Nat) : Int)) (o + 2048) = .int .i64 ((c : Nat) : Int) by unfold updv; rw [if_pos rfl]] at q1
  have hC2 := hC1.set (o + 2049) (by omega) (.int .i64 ((c : Nat) : Int))
  have hF2 := hF1.trans' (Fr.setCell b none (o + 2049) w1 (.int .i64 ((c : Nat) : Int)))
  have HC1 := (show Hid _ from hC1)
  clear hC1 hF1
  generalize hq : c = q at *
  have hq16 : q ≤ 16 := by omega
  have HQ := (show Hid _ from hq)
  clear hq
  go_wp2_with fail
  generalize w1.setCell ⟨b, o + 2049, none⟩ (.int .i64 (q : Int)) = w2 at *
  clear q1 q2 p2
  have hC3 := hC2.since (Since.refl _).drew
  have q3 := hC3.cell (o + 2048) (by omega)
  rw [show updv (updv f (o + 2048) (.int .i64 (q : Int))) (o + 2049) (.int .i64 (q : Int)) (o + 2048) = .int .i64 (q : Int) by unfold updv; rw [if_neg (by omega), if_pos rfl]] at q3
  have q4 : (q : Int) ≤ 16 := by omega
  have HC3 := (show Hid _ from hC3)
  have HF2 := (show Hid _ from hF2)
  by_cases h16 : q = 16
  · have hcl := clear_any w2.drew 0 b o 0 0 n _ hC3 (by omega)
    clear hC3 hC2 hF2 HC HC1 hcnt hsr ek g0 g1 hs h0 hc16
    (try clear h1)
    (try clear g2)
    have HQ2 := (show Hid _ from HQ.out.trans h16)
    clear HQ
    subst h16
    go_region
    go_wp2_with fail
    go_end0
    exact ⟨rfl, by rw [HQ2.out]; exact (HC3.out.setRow _ _ (by omega) _).congr (fun j hj => by unfold crashed updl; rw [if_neg (by omega), if_neg (by omega)]), (HF2.out.trans' (Fr.of_since (Since.refl _).drew)).trans' (Fr.setCells _ _ _ _ _)⟩
  · have h17 : ¬ 16 = q := by omega
    have hcl := clear_any w2.drew 0 b (o + q * 128) (16 - q) (16 - q) n _ hC3 (by omega)
    clear hC3 hC2 hF2 HC HC1 hcnt hsr ek g0 g1 hs h0 hc16
    (try clear h1)
    (try clear g2)
    have HH := (show Hid _ from h16)
    go_region
    go_wp2_with fail
    go_end0
    exact ⟨rfl, by rw [HQ.out]; exact HC3.out.setRow _ _ (by omega) _, (HF2.out.trans' (Fr.of_since (Since.refl _).drew)).trans' (Fr.setCells _ _ _ _ _)⟩
end Go.Proofs.YtlgocfgnfdnloaaGreatDoor
end
section
namespace Go.Proofs.YtlgocfgnfdnloaaGreatDoor
open Go.RowKit
def Sl (w : World) (b : Nat) (v : Value) (n : Nat) (f : Nat → Value) : Prop :=
  ∃ a c, v = .slice a n c ∧ (0 < n → ∃ k o, a = some ⟨k, o, none⟩ ∧ k ≠ b ∧ ∀ j, j < n → w.cell? ⟨k, o + j, none⟩ = some (f j))
theorem Sl.fr {w w' : World} {b : Nat} {v : Value} {n : Nat} {f : Nat → Value} (h : Sl w b v n f) (hf : Fr b none w w') : Sl w' b v n f := by
  obtain ⟨a, c, hv, h⟩ := h
  refine ⟨a, c, hv, fun hn => ?_⟩
  obtain ⟨k, o, ha, hk, hc⟩ := h hn
  exact ⟨k, o, ha, hk, fun j hj => (hf.cell (p := ⟨k, o + j, none⟩) (World.block_lt_of_cell? w _ (hc j hj)) hk (by simp)).trans (hc j hj)⟩
def keptBy (n : Nat) (sl : Nat → Bool) : Nat → Bool := fun i => decide (i < n) && sl i
theorem crashF_any (b B n i : Nat) (v : Value) (sl : Nat → Bool) (w : World) (hB : w.cell? ⟨B, 0, none⟩ = some v) (hs : Sl w b v n (fun j => .bool (sl j))) :
    Calls Tryz.prog 94 #[.int .i64 i, .pointer (some ⟨B, 0, none⟩)] w fun e w' => e = .returned (.bool (keptBy n sl i)) ∧ w' = w := by
  obtain ⟨a, c, rfl, hs⟩ := hs
  unfold keptBy
  by_cases h : i < n
  · obtain ⟨k, o, rfl, _, hc⟩ := hs (by omega)
    have c1 := hc i h
    have h2 : (i : Int) < n := by omega
    rw [decide_eq_true h, Bool.true_and]
    clear hc hs
    go_enter Tryz.func94, Tryz.ntmps94
    go_wp2_with fail
    go_ret
    exact ⟨rfl, rfl⟩
  · have h2 : ¬ (i : Int) < n := by omega
    rw [decide_eq_false h, Bool.false_and]
    clear hs
    go_enter Tryz.func94, Tryz.ntmps94
    go_wp2_with fail
    go_ret
    exact ⟨rfl, rfl⟩
theorem crashF_enters : ∀ args w, (callFunc 94 args).run Tryz.prog w = .ok (.enter 94 args) w := enters_of Tryz.func94 (by kernel_rfl) rfl
def Dv.crashZ (D : Dv) (ks : Nat → Int) (k : Nat) : Dv :=
  { D with blk := fun z j i => if z < k ∧ kept1 (D.cnt z) (D.sure z) (ks z) ≤ j then 0 else D.blk z j i,
           cnt := fun z => if z < k then kept1 (D.cnt z) (D.sure z) (ks z) else D.cnt z,
           sure := fun z => if z < k then kept1 (D.cnt z) (D.sure z) (ks z) else D.sure z }
theorem kept1_le (c s : Nat) (x : Int) (h : s ≤ c) : kept1 c s x ≤ c := by unfold kept1; omega
theorem crashZ_ok (D : Dv) (ks : Nat → Int) (k : Nat) (h : D.ok) : (D.crashZ ks k).ok where
  cnt z hz := by
    show (if z < k then _ else _) ≤ 16
    have := h.cnt z hz
    split
    · have := kept1_le (D.cnt z) (D.sure z) (ks z) (h.sure z hz); omega
    · exact this
  sure z hz := by
    show (if z < k then _ else _) ≤ (if z < k then _ else _)
    split
    · exact Nat.le_refl _
    · exact h.sure z hz
  zero z j i hz hj hj2 hi := by
    show (if z < k ∧ _ then _ else _) = _
    have hj' : (if z < k then kept1 (D.cnt z) (D.sure z) (ks z) else D.cnt z) ≤ j := hj
    by_cases e : z < k
    · rw [if_pos e] at hj'
      rw [if_pos ⟨e, hj'⟩]
    · rw [if_neg e] at hj'
      rw [if_neg (fun h => e h.1)]
      exact h.zero z j i hz hj' hj2 hi
  left := h.left
  ws := h.ws
  few := h.few
set_option maxRecDepth 100000 in
theorem crashZ_cells (D : Dv) (ks : Nat → Int) (v : Value) (k : Nat) (hk : k < 8) (j : Nat) (hk16 : kept1 (D.cnt k) (D.sure k) (ks k) ≤ 16) :
    crashed (dcell (D.crashZ ks k) v) (k * 2050) (kept1 (D.cnt k) (D.sure k) (ks k)) j = dcell (D.crashZ ks (k + 1)) v j := by
  refine dcell_turn (D.crashZ ks k) (D.crashZ ks (k + 1)) v k hk _ (fun j hj => ?_) (fun j hj => ?_) (fun z' h => ?_) (fun z' h => ?_) (fun z' h => ?_) rfl rfl rfl j
  · have e1 : (D.crashZ ks (k + 1)).cnt k = kept1 (D.cnt k) (D.sure k) (ks k) := by show (if _ then _ else _) = _; rw [if_pos (by omega)]
    have e2 : (D.crashZ ks (k + 1)).sure k = kept1 (D.cnt k) (D.sure k) (ks k) := by show (if _ then _ else _) = _; rw [if_pos (by omega)]
    have e3 : (D.crashZ ks (k + 1)).blk k = fun j i => if kept1 (D.cnt k) (D.sure k) (ks k) ≤ j then 0 else D.blk k j i := by
      funext j i
      show (if k < k + 1 ∧ _ then _ else _) = _
      by_cases h : kept1 (D.cnt k) (D.sure k) (ks k) ≤ j
      · rw [if_pos ⟨by omega, h⟩, if_pos h]
      · rw [if_neg (fun h' => h h'.2), if_neg h]
    rw [e1, e2, e3]
    generalize kept1 (D.cnt k) (D.sure k) (ks k) = q at *
    unfold crashed updl updv
    by_cases h0 : q * 128 ≤ j ∧ j < 2048
    · rw [if_pos (by omega)]
      unfold scell
      dsimp only
      rw [if_pos (by omega), if_pos (by omega)]
    · rw [if_neg (by omega)]
      by_cases h1 : j = 2049
      · rw [if_pos (by omega)]
        unfold scell
        rw [if_neg (by omega), if_neg (by omega)]
      · rw [if_neg (by omega)]
        by_cases h2 : j = 2048
        · rw [if_pos (by omega)]
          unfold scell
          rw [if_neg (by omega), if_pos h2]
        · rw [if_neg (by omega), dcell_zone _ v k j hk hj]
          unfold scell
          dsimp only
          rw [if_pos (by omega), if_pos (by omega), if_neg (by omega)]
          congr 1
          show (if k < k ∧ _ then _ else _) = _
          rw [if_neg (by omega)]
  · unfold crashed updl updv
    rw [if_neg (by omega), if_neg (by omega), if_neg (by omega)]
  · funext j i
    show (if z' < k + 1 ∧ _ then _ else _) = (if z' < k ∧ _ then _ else _)
    have : (z' < k + 1) = (z' < k) := by apply propext; omega
    simp only [this]
  · show (if z' < k + 1 then _ else _) = (if z' < k then _ else _)
    have : (z' < k + 1) = (z' < k) := by apply propext; omega
    simp only [this]
  · show (if z' < k + 1 then _ else _) = (if z' < k then _ else _)
    have : (z' < k + 1) = (z' < k) := by apply propext; omega
    simp only [this]
theorem crash1_any (D : Dv) (ks : Nat → Int) (v : Value) (b k : Nat) (w : World) (hd : Dev w b (D.crashZ ks k) v) (hD : D.ok) (hk : k < 8) :
    Calls Tryz.prog 92 #[.pointer (some ⟨b, k * 2050, none⟩), .int .i64 (ks k)] w fun e w' => e = .returned (.tuple #[]) ∧ Dev w' b (D.crashZ ks (k + 1)) v ∧ Fr b none w w' := by
  have e1 : (D.crashZ ks k).cnt k = D.cnt k := by show (if _ then _ else _) = _; rw [if_neg (by omega)]
  have e2 : (D.crashZ ks k).sure k = D.sure k := by show (if _ then _ else _) = _; rw [if_neg (by omega)]
  have hc := hD.cnt k hk
  have hs := hD.sure k hk
  have hcnt := dcell_cnt (D.crashZ ks k) v k hk
  have hsr := dcell_sure (D.crashZ ks k) v k hk
  rw [e1] at hcnt
  rw [e2] at hsr
  have hk16 : kept1 (D.cnt k) (D.sure k) (ks k) ≤ 16 := by have := kept1_le (D.cnt k) (D.sure k) (ks k) hs; omega
  have fin : ∀ w', Cel w' b 17403 (crashed (dcell (D.crashZ ks k) v) (k * 2050) (kept1 (D.cnt k) (D.sure k) (ks k))) → Fr b none w w' → Dev w' b (D.crashZ ks (k + 1)) v := fun w' h1 h2 =>
    hd.turn (h1.congr (fun j _ => crashZ_cells D ks v k hk j hk16)) h2 rfl (crashZ_ok D ks (k + 1) hD)
  by_cases h0 : ks k < 0
  · refine (crash1_neg b (k * 2050) (D.cnt k) (D.sure k) 17403 (ks k) _ w hd.cel (by omega) hcnt hsr hc hs h0).mono ?_
    rintro e w' ⟨rfl, h1, h2⟩
    exact ⟨rfl, fin w' h1 h2, h2⟩
  · by_cases h1 : ks k ≤ (D.cnt k : Int) - D.sure k
    · refine (crash1_few b (k * 2050) (D.cnt k) (D.sure k) 17403 (ks k) _ w hd.cel (by omega) hcnt hsr hc hs (by omega) h1).mono ?_
      rintro e w' ⟨rfl, h1, h2⟩
      exact ⟨rfl, fin w' h1 h2, h2⟩
    · refine (crash1_all b (k * 2050) (D.cnt k) (D.sure k) 17403 (ks k) _ w hd.cel (by omega) hcnt hsr hc hs (by omega) (by omega)).mono ?_
      rintro e w' ⟨rfl, h1, h2⟩
      exact ⟨rfl, fin w' h1 h2, h2⟩
def keepAt (n : Nat) (ks : Nat → Int) : Nat → Int := fun z => if z < n then ks z else 0
def Dv.crashed (D : Dv) (nk : Nat) (ks : Nat → Int) (ns : Nat) (sl : Nat → Bool) : Dv := ((D.crashZ (keepAt nk ks) 8).settled (keptBy ns sl)).fuse (-1)
set_option maxRecDepth 100000 in
set_option maxHeartbeats 2000000 in
theorem crash_any (D : Dv) (v : Value) (b nk ns : Nat) (kv sv : Value) (ks : Nat → Int) (sl : Nat → Bool) (w : World) (hd : Dev w b D v)
    (hk : Sl w b kv nk (fun j => .int .i64 (ks j))) (hs : Sl w b sv ns (fun j => .bool (sl j))) :
    Calls Tryz.prog 23 #[.pointer (some ⟨b, 0, none⟩), kv, sv] w fun e w' => e = .returned (.tuple #[]) ∧ Dev w' b (D.crashed nk ks ns sl) (.slice none 0 0) ∧ Fr b none w w' := by
  obtain ⟨a1, c1, rfl, hk1⟩ := hk
  obtain ⟨a2, c2, rfl, hs1⟩ := hs
  have hbl := hd.lt
  have HD := (show Hid _ from hd)
  have HK := (show Hid (Sl w b (.slice a1 nk c1) nk (fun j => .int .i64 (ks j))) from ⟨a1, c1, rfl, hk1⟩)
  have HS := (show Hid (Sl w b (.slice a2 ns c2) ns (fun j => .bool (sl j))) from ⟨a2, c2, rfl, hs1⟩)
  clear hd hk1 hs1
  go_enter Tryz.func23, Tryz.ntmps23
  go_wp2_with fail
  refine (orNew_any _ _).mono ?_
  rintro e w' ⟨rfl, rfl⟩
  have hd0 := HD.out.since ((Since.refl w).alloc (.cells #[.slice a2 ns c2] 62))
  have hb0 : (w.alloc (.cells #[.slice a2 ns c2] 62)).cell? ⟨w.heap.size, 0, none⟩ = some (.slice a2 ns c2) := by simp
  have hf0 : Fr b none w (w.alloc (.cells #[.slice a2 ns c2] 62)) := Fr.of_since ((Since.refl w).alloc _)
  have hz0 : (w.alloc (.cells #[.slice a2 ns c2] 62)).heap.size = w.heap.size + 1 := by simp
  generalize w.alloc (.cells #[.slice a2 ns c2] 62) = w0 at *
  have HD0 := (show Hid _ from hd0)
  have HB0 := (show Hid _ from hb0)
  have HF0 := (show Hid _ from hf0)
  clear hd0 hb0 hf0
  go_wp2_with fail
  go_loopw [10] (fun i wr => ∃ k : Nat, k ≤ 8 ∧ i = .int .i64 k ∧ Dev wr b (D.crashZ (keepAt nk ks) k) v ∧ Fr b none w0 wr) (fun i _ => 8 - (intOf i).toNat)
  case atStart =>
    refine ⟨0, by omega, rfl, ?_, Fr.refl _ _ _⟩
    have e : D.crashZ (keepAt nk ks) 0 = D := by
      unfold Dv.crashZ
      cases D
      simp
    rw [e]
    exact HD0.out
  case round =>
    obtain ⟨k, hk, rfl, hdk, hfk⟩ := hrel
    have HDK := (show Hid _ from hdk)
    have HFK := (show Hid _ from hfk)
    clear hfk hdk
    by_cases hlt : k < 8
    · have hlt2 : (k : Int) < 8 := by omega
      by_cases hkn : k < nk
      · have hkn2 : (k : Int) < nk := by omega
        obtain ⟨a3, c3, he, hk3⟩ := (HK.out.fr HF0.out).fr HFK.out
        injection he with he1 he2 he3
        subst he1
        obtain ⟨kb, ko, rfl, _, hkc⟩ := hk3 (by omega)
        have q1 := hkc k hkn
        have hka : keepAt nk ks k = ks k := by unfold keepAt; rw [if_pos hkn]
        have HKA := (show Hid _ from hka)
        clear hkc hk3 hka he3
        go_wp2_with fail
        rw [← HKA.out]
        refine (crash1_any D (keepAt nk ks) v b k _ HDK.out HD.out.ok hlt).mono ?_
        rintro e w2 ⟨rfl, hd2, hf2⟩
        have HD2 := (show Hid _ from hd2)
        clear hd2
        go_wp2_with fail
        go_roundw
        case rel => exact ⟨k + 1, by omega, by go_num, HD2.out, HFK.out.trans' hf2⟩
        case measure => simp [intOf]; omega
      · have hkn2 : ¬ (k : Int) < nk := by omega
        have hka : keepAt nk ks k = 0 := by unfold keepAt; rw [if_neg hkn]
        have HKA := (show Hid _ from hka)
        clear hka
        go_wp2_with fail
        have hcr := crash1_any D (keepAt nk ks) v b k wr HDK.out HD.out.ok hlt
        rw [HKA.out] at hcr
        refine hcr.mono ?_
        clear hcr
        rintro e w2 ⟨rfl, hd2, hf2⟩
        have HD2 := (show Hid _ from hd2)
        clear hd2
        go_wp2_with fail
        go_roundw
        case rel => exact ⟨k + 1, by omega, by go_num, HD2.out, HFK.out.trans' hf2⟩
        case measure => simp [intOf]; omega
    · have hke : k = 8 := by omega
      subst hke
      go_wp2_with fail
      refine (settle_any (D.crashZ (keepAt nk ks) 8) v b 94 #[.pointer (some ⟨w.heap.size, 0, none⟩)] (keptBy ns sl) _ HDK.out crashF_enters (fun i W hW => crashF_any b w.heap.size ns i (.slice a2 ns c2) sl W ?_ (((HS.out.fr HF0.out).fr HFK.out).fr hW))).mono ?_
      · have hf := HFK.out.trans' hW
        rw [hf.cell (p := ⟨w.heap.size, 0, none⟩) (by show w.heap.size < _; omega) (by show w.heap.size ≠ b; omega) (by simp)]
        exact HB0.out
      rintro e w2 ⟨rfl, hd2, hf2⟩
      have HD2 := (show Hid _ from hd2)
      clear hd2
      go_wp2_with fail
      refine (fuse_any _ _ b (-1) _ HD2.out (by omega)).mono ?_
      rintro e w3 ⟨rfl, hd3, hf3⟩
      have HD3 := (show Hid _ from hd3)
      clear hd3
      go_wp2_with fail
      go_end0
      exact ⟨rfl, HD3.out, ((HF0.out.trans' HFK.out).trans' hf2).trans' hf3⟩
end Go.Proofs.YtlgocfgnfdnloaaGreatDoor
end
section
namespace Go.Proofs.YtlgocfgnfdnloaaGreatDoor
open Go.RowKit
theorem infoS : (Tryz.prog.info? 9).map (fun i => (i.zero, i.size, i.bytes)) = some (some (.string ⟨#[]⟩), 1, 16) := by kernel_rfl
theorem ownsRow_since {w w' : World} {base e size n : Nat} {v : Value} {xs : List Value} (h : w.ownsRow base e size v n xs) (hs : Since w w') : w'.ownsRow base e size v n xs :=
  ownsRow_fr h (b := w.heap.size) (g := none) (Fr.of_since hs) (fun e => by have := (h.lt _ e).2; omega) (by
    cases hv : v.ownBlock with
    | none => exact Or.inl rfl
    | some k => exact Or.inr (by simp))
end Go.Proofs.YtlgocfgnfdnloaaGreatDoor
end
