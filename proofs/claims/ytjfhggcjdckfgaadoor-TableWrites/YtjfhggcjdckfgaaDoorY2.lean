/- Package table: a cell as bytes. -/
import Derived.Test.YtjfhggcjdckfgaaDoorY1
namespace Go.Proofs.YtjfhggcjdckfgaaDoor
set_option linter.unusedSimpArgs false
set_option linter.unusedVariables false
set_option maxRecDepth 100000
namespace Tw
open Go.RowKit
open Sl (copy_str conv_txt)
attribute [local go_sem ↓] cell_eql

def wby (z o : Int) (t : ByteArray) (j : Nat) : UInt8 := if j = 0 then UInt8.ofNat z.toNat else if j = 1 then UInt8.ofNat o.toNat else sb t (j - 2)
theorem cel18 (w : World) (cs : Array Value) (f : Nat → UInt8) (h : cs = (brow 18 (fun j => bv (f j))).toArray) (b : Nat) (hb : b = w.heap.size) : Cel (w.alloc (.cells cs 222)) b 18 (fun j => bv (f j)) := Cel.new w 18 _ _ _ (fun j hj => by rw [h, List.getElem?_toArray, brow_get _ _ _ hj]) _ hb
set_option maxHeartbeats 1000000 in
theorem written_nul (w : World) : Calls Tryd.prog 131 #[.agg #[.int .i64 0, .int .i64 0, .string ⟨#[]⟩]] w fun e w' => e = .returned (.string (txt 18 (fun j => if j = 0 then 255 else 0))) ∧ Since w w' := by
  have hn : nulB 0 0 ⟨#[]⟩ = true := rfl
  have hC := cel18 (w.alloc (.cells #[.int .i64 0, .int .i64 0, .string ⟨#[]⟩] 97)) #[.int .u8 255, .int .u8 0, .int .u8 0, .int .u8 0, .int .u8 0, .int .u8 0, .int .u8 0, .int .u8 0, .int .u8 0, .int .u8 0, .int .u8 0, .int .u8 0, .int .u8 0, .int .u8 0, .int .u8 0, .int .u8 0, .int .u8 0, .int .u8 0] (fun j => if j = 0 then 255 else 0) (by rfl) (w.heap.size + 1) (by simp)
  have hcv := conv_txt _ (w.heap.size + 1) 0 18 18 (fun j => if j = 0 then 255 else 0) (fun i hi => by rw [Nat.zero_add]; exact hC.cell i hi)
  have HS : Hid (Since w ((w.alloc (.cells #[.int .i64 0, .int .i64 0, .string ⟨#[]⟩] 97)).alloc (.cells #[.int .u8 255, .int .u8 0, .int .u8 0, .int .u8 0, .int .u8 0, .int .u8 0, .int .u8 0, .int .u8 0, .int .u8 0, .int .u8 0, .int .u8 0, .int .u8 0, .int .u8 0, .int .u8 0, .int .u8 0, .int .u8 0, .int .u8 0, .int .u8 0] 222))) := ((Since.refl w).alloc _).alloc _
  clear hC
  generalize hq : txt 18 (fun j => if j = 0 then 255 else 0) = q at *
  have HQ : Hid (txt 18 (fun j => if j = 0 then 255 else 0) = q) := hq
  clear hq
  go_enter Tryd.func131, Tryd.ntmps131
  go_wp2_with fail
  go_ret
  exact ⟨rfl, HS.out⟩
set_option maxHeartbeats 1000000 in
theorem written_may (z o : Nat) (t : ByteArray) (w : World) (hn : nulB z o t = false) (hz : z < 8) (ho : o < 16) (ht : t.size = 16) : Calls Tryd.prog 131 #[.agg #[.int .i64 (z : Int), .int .i64 (o : Int), .string t]] w fun e w' => e = .returned (.string (txt 18 (wby z o t))) ∧ Since w w' := by
  have hwz : IntKind.u8.wrap (z : Int) = z := by simp [IntKind.wrap, IntKind.bits, IntKind.signed]; omega
  have hwo : IntKind.u8.wrap (o : Int) = o := by simp [IntKind.wrap, IntKind.bits, IntKind.signed]; omega
  go_enter Tryd.func131, Tryd.ntmps131
  go_wp2_with fail
  go_region
  have hC := Cel.new (w.alloc (.cells #[.int .i64 (z : Int), .int .i64 (o : Int), .string t] 97)) 18 (fun j => if j = 0 then .int .u8 (z : Int) else if j = 1 then .int .u8 (o : Int) else bv 0) 222 (brow 18 (fun j => if j = 0 then .int .u8 (z : Int) else if j = 1 then .int .u8 (o : Int) else bv 0)).toArray (fun j hj => by rw [List.getElem?_toArray, brow_get _ _ _ hj]) (w.heap.size + 1) (by simp)
  have hC2 := (hC.since (Since.refl _).drew).since (Since.refl _).drew
  have hT := (((cel3 w (.int .i64 (z : Int)) (.int .i64 (o : Int)) (.string t) 97).since ((Since.refl _).alloc (.cells (brow 18 (fun j => if j = 0 then .int .u8 (z : Int) else if j = 1 then .int .u8 (o : Int) else bv 0)).toArray 222))).since (Since.refl _).drew).since (Since.refl _).drew
  have q2 := hT.cell 2 (by omega)
  rw [show three3 (.int .i64 (z : Int)) (.int .i64 (o : Int)) (.string t) 2 = .string t from rfl] at q2
  have hS : Since w ((w.alloc (.cells #[.int .i64 (z : Int), .int .i64 (o : Int), .string t] 97)).alloc (.cells (brow 18 (fun j => if j = 0 then .int .u8 (z : Int) else if j = 1 then .int .u8 (o : Int) else bv 0)).toArray 222)).drew := (((Since.refl w).alloc _).alloc _).drew
  generalize hw2 : ((w.alloc (.cells #[.int .i64 (z : Int), .int .i64 (o : Int), .string t] 97)).alloc (.cells (brow 18 (fun j => if j = 0 then .int .u8 (z : Int) else if j = 1 then .int .u8 (o : Int) else bv 0)).toArray 222)).drew = w2 at *
  refine (congrArg (fun W => Exit.then _ _ Exit.normal _ W) hw2).mpr ?_
  clear hC hT hw2
  have hcp := copy_str _ 3 (w.heap.size + 1) 2 16 16 18 _ t hC2 (by omega)
  rw [show min t.size 16 = 16 by omega] at hcp
  have hC3 := hC2.setRow 2 16 (by omega) (fun i => bv (sb t i))
  have hC4 : Cel (w2.drew.setCells (w.heap.size + 1) 2 (brow 16 (fun i => bv (sb t i)))) (w.heap.size + 1) 18 (fun j => bv (wby z o t j)) := by
    refine hC3.congr (fun j hj => ?_)
    unfold updl wby
    by_cases e : j = 0
    · subst e
      rw [if_neg (by omega)]
      simp only [if_true, bv, UInt8.toNat_ofNat', Int.toNat_natCast]
      congr 1
      omega
    · by_cases e1 : j = 1
      · subst e1
        rw [if_neg (by omega)]
        simp only [if_true, if_false, Nat.one_ne_zero, bv, UInt8.toNat_ofNat', Int.toNat_natCast]
        congr 1
        omega
      · rw [if_pos (by omega), if_neg e, if_neg e1]
  have hS4 : Since w (w2.drew.setCells (w.heap.size + 1) 2 (brow 16 (fun i => bv (sb t i)))) := hS.drew.setCells (by omega) _ _
  have HC4 : Hid (Cel (w2.drew.setCells (w.heap.size + 1) 2 (brow 16 (fun i => bv (sb t i)))) (w.heap.size + 1) 18 (fun j => bv (wby z o t j))) := hC4
  have HS4 : Hid (Since w (w2.drew.setCells (w.heap.size + 1) 2 (brow 16 (fun i => bv (sb t i))))) := hS4
  clear hC2 hC3 hC4 hS hS4 hwz hwo hn
  go_wp2_with fail
  go_region
  clear hcp q2
  generalize w2.drew.setCells (w.heap.size + 1) 2 (brow 16 (fun i => bv (sb t i))) = w3 at *
  have hcv := conv_txt w3 (w.heap.size + 1) 0 18 18 (wby z o t) (fun i hi => by rw [Nat.zero_add]; exact HC4.out.cell i hi)
  generalize hq : txt 18 (wby z o t) = q at *
  have HQ : Hid (txt 18 (wby z o t) = q) := hq
  clear hq
  go_wp2_with fail
  go_ret
  exact ⟨by rw [HQ.out]; rfl, HS4.out⟩
theorem wby_list (z o : Nat) (t : ByteArray) (ht : t.size = 16) : txt 18 (wby z o t) = ⟨(UInt8.ofNat z :: UInt8.ofNat o :: t.data.toList).toArray⟩ := by
  have hsz : t.data.size = 16 := ht
  apply ByteArray.ext
  apply Array.ext_getElem?
  intro i
  have e1 : (txt 18 (wby z o t)).data[i]? = ((List.range 18).map (wby z o t))[i]? := by unfold txt; exact List.getElem?_toArray ..
  rw [e1, List.getElem?_map, List.getElem?_toArray]
  match i with
  | 0 => simp [wby]
  | 1 => simp [wby]
  | i + 2 =>
    rw [List.getElem?_cons_succ, List.getElem?_cons_succ, show t.data.toList[i]? = t.data[i]? from Array.getElem?_toList]
    by_cases h : i < 16
    · rw [List.getElem?_range (by omega), Array.getElem?_eq_getElem (by omega)]
      simp only [Option.map_some, wby]
      rw [if_neg (by omega), if_neg (by omega), show i + 2 - 2 = i by omega]
      unfold sb
      rw [Array.getElem?_eq_getElem (by omega)]
      rfl
    · rw [List.getElem?_eq_none (by simp; omega), Array.getElem?_eq_none (by omega)]
      rfl
theorem written_any (T : Tb) (i : Nat) (w : World) (h : nul T i ∨ may T i) : Calls Tryd.prog 131 #[.agg #[.int .i64 (T.zone i), .int .i64 (T.off i), .string (T.tag i)]] w fun e w' => e = .returned (.string ⟨(cellL T i).toArray⟩) ∧ Since w w' := by
  by_cases hn : nul T i
  · have hl : cellL T i = 255 :: List.replicate 17 0 := by unfold cellL; rw [if_pos hn]
    rw [hl]
    obtain ⟨h1, h2, h3⟩ := hn
    rw [h1, h2, h3]
    exact written_nul w
  · have hm : may T i := h.resolve_left hn
    have hl : cellL T i = UInt8.ofNat (T.zone i).toNat :: UInt8.ofNat (T.off i).toNat :: (T.tag i).data.toList := by unfold cellL; rw [if_neg hn]
    rw [hl]
    have hnb := nulB_false hn
    obtain ⟨m1, m2, m3, m4, m5⟩ := hm
    obtain ⟨z, hz⟩ : ∃ z : Nat, T.zone i = z := ⟨(T.zone i).toNat, by omega⟩
    obtain ⟨o, ho⟩ : ∃ o : Nat, T.off i = o := ⟨(T.off i).toNat, by omega⟩
    rw [hz, ho] at hnb ⊢
    have := written_may z o (T.tag i) w hnb (by omega) (by omega) m1
    rw [wby_list z o (T.tag i) m1] at this
    exact this
end Tw
end Go.Proofs.YtjfhggcjdckfgaaDoor
