/- settle, Get, Sync. -/
import Derived.Test.YtjfhggcjdckfgaaDoorZ9
namespace Go.Proofs.YtjfhggcjdckfgaaDoor
set_option linter.unusedSimpArgs false
set_option linter.unusedVariables false
open Go.RowKit

/-- slot k alone is what f tells -/
def Dv.slotTo (D : Dv) (k : Nat) (f : Nat → UInt8) : Dv := { D with slot := fun k' => if k' = k then f else D.slot k' }
set_option maxRecDepth 100000 in
theorem slotTo_dev (D : Dv) (v : Value) (b k : Nat) (f : Nat → UInt8) (w : World) (hd : Dev w b D v) (hk : k < 2) : Dev (w.setCells b (16400 + k * 500) (brow 500 (fun i => bv (f i)))) b (D.slotTo k f) v := by
  refine hd.turn ((hd.cel.setRow (16400 + k * 500) 500 (by omega) _).congr (fun j hj => ?_)) (Fr.setCells _ _ _ _ _) rfl ⟨hd.ok.cnt, hd.ok.sure, hd.ok.zero, hd.ok.left, hd.ok.ws, hd.ok.few⟩
  unfold updl
  by_cases h : 16400 + k * 500 ≤ j ∧ j < 16400 + k * 500 + 500
  · rw [if_pos h]
    have e := dcell_slot (D.slotTo k f) v k (j - (16400 + k * 500)) hk (by omega)
    rw [show 16400 + k * 500 + (j - (16400 + k * 500)) = j by omega] at e
    rw [e]
    simp [Dv.slotTo]
  · rw [if_neg h]
    unfold dcell
    by_cases h1 : j < 16400
    · rw [if_pos h1, if_pos h1]; rfl
    · rw [if_neg h1, if_neg h1]
      by_cases h2 : j < 17400
      · rw [if_pos h2, if_pos h2]
        have hne : (j - 16400) / 500 ≠ k := by omega
        simp [Dv.slotTo, hne]
      · rw [if_neg h2, if_neg h2]; rfl
/-- writes are forgotten -/
def Dv.none (D : Dv) : Dv := { D with ws := [] }
theorem none_dev (D : Dv) (v : Value) (b : Nat) (w : World) (hd : Dev w b D v) : Dev (w.setCell ⟨b, 17400, none⟩ (.slice none 0 0)) b D.none (.slice none 0 0) where
  cel := by
    refine (hd.cel.set 17400 (by omega) _).congr (fun j hj => ?_)
    unfold updv
    by_cases e : j = 17400
    · subst e; rw [if_pos rfl, dcell_ws]
    · rw [if_neg e]
      unfold dcell
      have h3 : j < 16400 ∨ (¬ j < 16400 ∧ j < 17400) ∨ (¬ j < 16400 ∧ ¬ j < 17400) := by omega
      rcases h3 with h | ⟨h, h'⟩ | ⟨h, h'⟩
      · rw [if_pos h, if_pos h]; rfl
      · rw [if_neg h, if_neg h, if_pos h', if_pos h']; rfl
      · rw [if_neg h, if_neg h, if_neg h', if_neg h', if_neg e, if_neg e]; rfl
  own := World.ownsRow_nil _ _ _ _
  ne := by simp [Value.ownBlock]
  ok := ⟨hd.ok.cnt, hd.ok.sure, hd.ok.zero, hd.ok.left, fun p hp => by simp [Dv.none] at hp, by simp [Dv.none]⟩
/-- those writes that are kept are sure -/
def Dv.settled (D : Dv) (kept : Nat → Bool) : Dv := ((D.slotTo 0 (D.slotBy 0 kept)).slotTo 1 (D.slotBy 1 kept)).none

set_option maxRecDepth 100000 in
set_option maxHeartbeats 2000000 in
theorem settle_any (D : Dv) (v : Value) (b fid : Nat) (caps : Array Value) (kept : Nat → Bool) (w : World) (hd : Dev w b D v)
    (heg : ∀ args w, (callFunc fid args).run Tryd.prog w = .ok (.enter fid args) w)
    (hkc : ∀ (i : Nat) (W : World), Fr b none w W → Calls Tryd.prog fid (#[.int .i64 i] ++ caps) W fun e W' => e = .returned (.bool (kept i)) ∧ W' = W) :
    Calls Tryd.prog 104 #[.pointer (some ⟨b, 0, none⟩), .func (.func fid) #[] caps] w fun e w' => e = .returned (.tuple #[]) ∧ Dev w' b (D.settled kept) (.slice none 0 0) ∧ Fr b none w w' := by
  have HD := (show Hid _ from hd)
  have HK := (show Hid _ from hkc)
  have HE := (show Hid _ from heg)
  clear hd hkc heg
  go_enter Tryd.func104, Tryd.ntmps104
  go_wp2_with fail
  refine wp_loop_rounds 3 ?_
  rw [rounds_succ]
  go_wp2_with fail
  go_region_with (go_at_call 117; refine (last_any D v b 0 fid caps kept _ (HD.out.since (Since.refl _).drew) (by omega) HE.out (fun i W h => HK.out i W (Fr.of_since (Since.trans (Since.refl _).drew h)))).mono ?_; rintro e w1 ⟨rfl, hS1⟩; have hd1 := (HD.out.since (Since.refl _).drew).since hS1; have hst := hd1.cel.store Tryd.prog 16400 500 (by omega) (fun i => bv (D.slotBy 0 kept i)) (fun _ _ => rfl); have HD1 := (show Hid _ from hd1); clear hd1; have hL : (brow 500 (fun i => bv (D.slotBy 0 kept i))).length = 500 := brow_length _ _)
  have hd2 := slotTo_dev D v b 0 (D.slotBy 0 kept) w1 HD1.out (by omega)
  have hf2 : Fr b none w (w1.setCells b (16400 + 0 * 500) (brow 500 (fun i => bv (D.slotBy 0 kept i)))) := (Fr.of_since (Since.trans (Since.refl w).drew hS1)).trans' (Fr.setCells _ _ _ _ _)
  rw [show 16400 + 0 * 500 = 16400 from rfl] at hd2 hf2
  generalize w1.setCells b 16400 (brow 500 (fun i => bv (D.slotBy 0 kept i))) = w2 at *
  have HD2 := (show Hid _ from hd2)
  have HF2 := (show Hid _ from hf2)
  clear hd2 hf2 hst HD1 hS1
  go_wp2_with fail
  rw [rounds_succ]
  go_wp2_with fail
  have hby : (D.slotTo 0 (D.slotBy 0 kept)).slotBy 1 kept = D.slotBy 1 kept := rfl
  have HBY := (show Hid _ from hby)
  clear hby
  go_region_with (go_at_call 117; refine (last_any (D.slotTo 0 (D.slotBy 0 kept)) v b 1 fid caps kept _ (HD2.out.since (Since.refl _).drew) (by omega) HE.out (fun i W h => HK.out i W (HF2.out.trans' (Fr.of_since (Since.trans (Since.refl _).drew h))))).mono ?_; rintro e w3 ⟨rfl, hS3⟩; rw [HBY.out]; have hd3 := (HD2.out.since (Since.refl _).drew).since hS3; have hst := hd3.cel.store Tryd.prog 16900 500 (by omega) (fun i => bv (D.slotBy 1 kept i)) (fun _ _ => rfl); have HD3 := (show Hid _ from hd3); clear hd3; have hL : (brow 500 (fun i => bv (D.slotBy 1 kept i))).length = 500 := brow_length _ _)
  have hd4 := slotTo_dev _ v b 1 (D.slotBy 1 kept) w3 HD3.out (by omega)
  have hf4 : Fr b none w (w3.setCells b (16400 + 1 * 500) (brow 500 (fun i => bv (D.slotBy 1 kept i)))) := (HF2.out.trans' (Fr.of_since (Since.trans (Since.refl _).drew hS3))).trans' (Fr.setCells _ _ _ _ _)
  rw [show 16400 + 1 * 500 = 16900 from rfl] at hd4 hf4
  generalize w3.setCells b 16900 (brow 500 (fun i => bv (D.slotBy 1 kept i))) = w4 at *
  have c4 := hd4.cel.cell 17400 (by omega)
  have f4 := hd4.cel.frozen 17400 (by omega)
  rw [dcell_ws] at c4
  have HD4 := (show Hid _ from hd4)
  have HF4 := (show Hid _ from hf4)
  clear hd4 hf4 hst HD3 hS3
  go_wp2_with fail
  rw [rounds_succ]
  go_wp2_with fail
  go_end0
  exact ⟨rfl, none_dev _ v b w4 HD4.out, HF4.out.trans' (Fr.setCell _ _ _ _ _)⟩
theorem every_enters : ∀ args w, (callFunc 105 args).run Tryd.prog w = .ok (.enter 105 args) w := enters_of Tryd.func105 (by kernel_rfl) rfl

theorem get_bad (b : Nat) (k : Int) (w : World) (hk : ¬ (0 ≤ k ∧ k < 2)) :
    Calls Tryd.prog 51 #[.pointer (some ⟨b, 0, none⟩), .int .i64 k] w fun e w' => e = .returned (.tuple #[.string ⟨#[]⟩, .iface 30 (.int .i64 2)]) ∧ w' = w := by
  have hh := hs_false hk
  go_enter Tryd.func51, Tryd.ntmps51
  go_wp2_with fail
  refine (orNew_any _ _).mono ?_
  rintro e w' ⟨rfl, rfl⟩
  go_wp2_with fail
  refine (hasSlot_any _ _).mono ?_
  rintro e w' ⟨rfl, rfl⟩
  rw [hh]
  go_wp2_with fail
  go_ret2
  exact ⟨rfl, rfl⟩
set_option maxRecDepth 100000 in
theorem get_any (D : Dv) (v : Value) (b k : Nat) (w : World) (hd : Dev w b D v) (hk : k < 2) :
    Calls Tryd.prog 51 #[.pointer (some ⟨b, 0, none⟩), .int .i64 k] w fun e w' => e = .returned (.tuple #[.string (txt 500 (D.slotBy k (fun _ => true))), .nilIface]) ∧ Since w w' := by
  have hh := hs_true hk
  have HD := (show Hid _ from hd)
  clear hd
  go_enter Tryd.func51, Tryd.ntmps51
  go_wp2_with fail
  refine (orNew_any _ _).mono ?_
  rintro e w' ⟨rfl, rfl⟩
  go_wp2_with fail
  refine (hasSlot_any _ _).mono ?_
  rintro e w' ⟨rfl, rfl⟩
  rw [hh]
  go_wp2_with fail
  refine (last_any D v b k 105 #[] (fun _ => true) _ HD.out hk every_enters (fun i W _ => every_any i W)).mono ?_
  rintro e w1 ⟨rfl, hS1⟩
  have hL : (brow 500 (fun i => bv (D.slotBy k (fun _ => true) i))).length = 500 := brow_length _ _
  have hC : Cel (w1.alloc (.cells Tryd.zeroCells151 151)) w1.heap.size 500 (fun _ => bv 0) := Cel.new w1 _ _ _ _ (fun j hj => zeroSlot_get j hj) _ rfl
  have hst := hC.store Tryd.prog 0 500 (by omega) (fun i => bv (D.slotBy k (fun _ => true) i)) (fun _ _ => rfl)
  have hC2 := (hC.setRow 0 500 (by omega) (fun i => bv (D.slotBy k (fun _ => true) i))).congr (g := fun i => bv (D.slotBy k (fun _ => true) i)) (fun j hj => by unfold updl; rw [if_pos (by omega)]; rfl)
  have hS2 : Since w' ((w1.alloc (.cells Tryd.zeroCells151 151)).setCells w1.heap.size 0 (brow 500 (fun i => bv (D.slotBy k (fun _ => true) i)))) := (hS1.alloc _).setCells hS1.size _ _
  have hcv := conv_txt _ w1.heap.size 0 500 500 (D.slotBy k (fun _ => true)) (fun i hi => by rw [Nat.zero_add]; exact hC2.cell i hi)
  have HS2 := (show Hid _ from hS2)
  clear hC hC2 hS2
  go_wp2_with fail
  go_ret2
  exact ⟨rfl, HS2.out⟩
end Go.Proofs.YtjfhggcjdckfgaaDoor
