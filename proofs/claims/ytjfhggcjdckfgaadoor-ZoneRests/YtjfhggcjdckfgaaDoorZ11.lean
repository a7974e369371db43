/- Sync. -/
import Derived.Test.YtjfhggcjdckfgaaDoorZ10
namespace Go.Proofs.YtjfhggcjdckfgaaDoor
set_option linter.unusedSimpArgs false
set_option linter.unusedVariables false
open Go.RowKit

/-- the first k zones are sure -/
def Dv.sureTo (D : Dv) (k : Nat) : Dv := { D with sure := fun z => if z < k then D.cnt z else D.sure z }
theorem sureTo_ok (D : Dv) (k : Nat) (h : D.ok) : (D.sureTo k).ok := ⟨h.cnt, fun z hz => by
  show (if z < k then D.cnt z else D.sure z) ≤ D.cnt z
  split
  · exact Nat.le_refl _
  · exact h.sure z hz, h.zero, h.left, h.ws, h.few⟩
theorem sureTo_dev (D : Dv) (v : Value) (b k : Nat) (w : World) (hd : Dev w b (D.sureTo k) v) (hk : k < 8) : Dev (w.setCell ⟨b, k * 2050 + 2049, none⟩ (.int .i64 (D.cnt k))) b (D.sureTo (k + 1)) v := by
  have hok : (D.sureTo (k + 1)).ok := by
    have h := hd.ok
    refine ⟨h.cnt, fun z hz => ?_, h.zero, h.left, h.ws, h.few⟩
    show (if z < k + 1 then D.cnt z else D.sure z) ≤ D.cnt z
    split
    · exact Nat.le_refl _
    · have := h.sure z hz
      have e : (D.sureTo k).sure z = D.sure z := by show (if z < k then _ else _) = _; rw [if_neg (by omega)]
      rw [e] at this
      exact this
  refine hd.turn ((hd.cel.set (k * 2050 + 2049) (by omega) _).congr (fun j hj => ?_)) (Fr.setCell _ _ _ _ _) rfl hok
  refine dcell_turn (D.sureTo k) (D.sureTo (k + 1)) v k hk _ (fun j hj => ?_) (fun j hj => ?_) (fun z' h => rfl) (fun z' h => rfl) (fun z' h => ?_) rfl rfl rfl j
  · unfold updv
    by_cases h0 : j = 2049
    · rw [if_pos (by omega)]
      unfold scell
      rw [if_neg (by omega), if_neg (by omega)]
      show Value.int .i64 (D.cnt k) = .int .i64 ((if k < k + 1 then D.cnt k else D.sure k : Nat) : Int)
      rw [if_pos (by omega)]
    · rw [if_neg (by omega), dcell_zone _ v k j hk hj]
      unfold scell
      by_cases h1 : j < 2048
      · rw [if_pos h1, if_pos h1]; rfl
      · rw [if_neg h1, if_neg h1, if_pos (by omega), if_pos (by omega)]; rfl
  · unfold updv
    rw [if_neg (by omega)]
  · show (if z' < k + 1 then _ else _) = (if z' < k then _ else _)
    by_cases h1 : z' < k
    · rw [if_pos h1, if_pos (by omega)]
    · rw [if_neg h1, if_neg (by omega)]
theorem sync_spent (D : Dv) (v : Value) (b : Nat) (w : World) (hd : Dev w b D v) (hm : D.may = false) :
    Calls Tryd.prog 35 #[.pointer (some ⟨b, 0, none⟩)] w fun e w' => e = .returned (.iface 30 (.int .i64 14)) ∧ w' = w := by
  go_enter Tryd.func35, Tryd.ntmps35
  go_wp2_with fail
  refine (orNew_any _ _).mono ?_
  rintro e w' ⟨rfl, rfl⟩
  go_wp2_with fail
  refine (burn_any D v b _ hd).mono ?_
  rintro e w1 ⟨rfl, h1, _⟩
  obtain rfl := h1 hm
  rw [hm]
  go_wp2_with fail
  go_ret
  exact ⟨rfl, rfl⟩
/-- all is sure -/
def Dv.synced (D : Dv) : Dv := (D.sureTo 8).settled (fun _ => true)
set_option maxRecDepth 100000 in
set_option maxHeartbeats 2000000 in
theorem sync_any (D : Dv) (v : Value) (b : Nat) (w : World) (hd : Dev w b D v) (hm : D.may = true) :
    Calls Tryd.prog 35 #[.pointer (some ⟨b, 0, none⟩)] w fun e w' => e = .returned .nilIface ∧ Dev w' b D.burnt.synced (.slice none 0 0) ∧ Fr b none w w' := by
  have HD := (show Hid _ from hd)
  clear hd
  go_enter Tryd.func35, Tryd.ntmps35
  go_wp2_with fail
  refine (orNew_any _ _).mono ?_
  rintro e w' ⟨rfl, rfl⟩
  go_wp2_with fail
  refine (burn_any D v b _ HD.out).mono ?_
  rintro e w1 ⟨rfl, _, h1⟩
  obtain ⟨hd1, hf1⟩ := h1 hm
  rw [hm]
  have HD1 := (show Hid _ from hd1)
  have HF1 := (show Hid _ from hf1)
  clear h1 hd1 hf1
  go_wp2_with fail
  generalize hE : D.burnt = E at *
  have HE := (show Hid (D.burnt = E) from hE)
  clear hE
  go_loopw [10] (fun i wr => ∃ k : Nat, k ≤ 8 ∧ i = .int .i64 k ∧ Dev wr b (E.sureTo k) v ∧ Fr b none w' wr) (fun i _ => 8 - (intOf i).toNat)
  case atStart =>
    refine ⟨0, by omega, rfl, ?_, HF1.out⟩
    have e : E.sureTo 0 = E := by
      unfold Dv.sureTo
      cases E
      simp
    rw [e]
    exact HD1.out
  case round =>
    obtain ⟨k, hk, rfl, hdk, hfk⟩ := hrel
    have HDK := (show Hid _ from hdk)
    have HFK := (show Hid _ from hfk)
    clear hfk
    by_cases hlt : k < 8
    · have hlt2 : (k : Int) < 8 := by omega
      have hdd := hdk.since (Since.refl wr).drew
      have c1 := hdd.cel.cell (k * 2050 + 2048) (by omega)
      rw [dcell_cnt _ v k hlt] at c1
      have c2 := hdd.cel.cell (k * 2050 + 2049) (by omega)
      have f2 := hdd.cel.frozen (k * 2050 + 2049) (by omega)
      rw [dcell_sure _ v k hlt] at c2
      have e1 : (E.sureTo k).cnt k = E.cnt k := rfl
      rw [e1] at c1
      clear e1 hdk hdd
      go_wp2_with fail
      go_region
      go_wp2_with fail
      go_roundw
      case rel => exact ⟨k + 1, by omega, by go_num, sureTo_dev E v b k _ (HDK.out.since (Since.refl wr).drew) hlt, (HFK.out.trans' (Fr.of_since (Since.refl wr).drew)).trans' (Fr.setCell _ _ _ _ _)⟩
      case measure => simp [intOf]; omega
    · have hke : k = 8 := by omega
      subst hke
      clear hdk
      go_wp2_with fail
      refine (settle_any (E.sureTo 8) v b 105 #[] (fun _ => true) _ HDK.out every_enters (fun i W _ => every_any i W)).mono ?_
      rintro e w2 ⟨rfl, hd2, hf2⟩
      go_wp2_with fail
      go_ret
      exact ⟨rfl, by rw [HE.out]; exact hd2, HFK.out.trans' hf2⟩
end Go.Proofs.YtjfhggcjdckfgaaDoor
