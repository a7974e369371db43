import Derived.Deep.RegionHeld3
import Derived.Deep.QuietTactic
import Derived.BigQuiet
import Derived.BigRegion
import Derived.Deep.RegionWith
import Derived.Laws.Bits64b
import Derived.Test.YtlgocfgnfdnloaaGreatDoorJ02
import Derived.Test.YtlgocfgnfdnloaaGreatDoorJ04
import Derived.Test.YtlgocfgnfdnloaaGreatDoorJ12
set_option linter.unusedSimpArgs false
set_option linter.unusedVariables false
section
namespace Go.Proofs.YtlgocfgnfdnloaaGreatDoor
set_option maxRecDepth 100000
namespace Tw
open Go.RowKit
open Sl (copy_str conv_txt)
def nulB (z o : Int) (t : ByteArray) : Bool := decide (z = 0 ∧ o = 0 ∧ t = ⟨#[]⟩)
def mayB (z o : Int) (t : ByteArray) : Bool := decide (t.size = 16 ∧ 0 ≤ z ∧ z < 8 ∧ 0 ≤ o ∧ o < 16)
def cellB (z o : Int) (t : ByteArray) : List UInt8 := if z = 0 ∧ o = 0 ∧ t = ⟨#[]⟩ then 255 :: List.replicate 17 0 else UInt8.ofNat z.toNat :: UInt8.ofNat o.toNat :: t.data.toList
theorem cell_eql (w : World) (z o : Int) (t : ByteArray) : (binOp .eql 69 (.agg #[.int .i64 z, .int .i64 o, .string t]) (.agg #[.int .i64 0, .int .i64 0, .string ⟨#[]⟩])).run Tryz.prog w = .ok (.bool (nulB z o t)) w := by
  have h1 : t.toList = [] ↔ t = ⟨#[]⟩ := by
    rw [ByteArray.toList_eq]
    exact ⟨fun e => ByteArray.ext (Array.toList_inj.1 e), fun e => by rw [e]⟩
  unfold nulB
  go_simp
  by_cases a : z = 0 <;> by_cases b : o = 0 <;> by_cases c : t = ⟨#[]⟩ <;> simp [a, b, c, h1]
attribute [local go_sem ↓] cell_eql
theorem may_any (z o : Int) (t : ByteArray) (w : World) : Calls Tryz.prog 306 #[.agg #[.int .i64 z, .int .i64 o, .string t]] w fun e w' => e = .returned (.bool (mayB z o t)) ∧ Since w w' := by
  have hS : Since w (w.alloc (.cells #[.int .i64 z, .int .i64 o, .string t] 69)) := (Since.refl w).alloc _
  have HS : Hid (Since w (w.alloc (.cells #[.int .i64 z, .int .i64 o, .string t] 69))) := hS
  clear hS
  by_cases h1 : t.size = 16
  · have e1 : (t.size : Int) = 16 := by omega
    by_cases h2 : 0 ≤ z
    · by_cases h3 : z < 8
      · by_cases h4 : 0 ≤ o
        · by_cases h5 : o < 16
          · have hb : mayB z o t = true := by unfold mayB; simp; omega
            rw [hb]
            go_enter Tryz.func306, Tryz.ntmps306
            go_wp2_with fail
            go_ret
            exact ⟨rfl, HS.out⟩
          · have hb : mayB z o t = false := by unfold mayB; simp; omega
            rw [hb]
            go_enter Tryz.func306, Tryz.ntmps306
            go_wp2_with fail
            go_ret
            exact ⟨rfl, HS.out⟩
        · have hb : mayB z o t = false := by unfold mayB; simp; omega
          rw [hb]
          go_enter Tryz.func306, Tryz.ntmps306
          go_wp2_with fail
          go_ret
          exact ⟨rfl, HS.out⟩
      · have hb : mayB z o t = false := by unfold mayB; simp; omega
        rw [hb]
        go_enter Tryz.func306, Tryz.ntmps306
        go_wp2_with fail
        go_ret
        exact ⟨rfl, HS.out⟩
    · have hb : mayB z o t = false := by unfold mayB; simp; omega
      rw [hb]
      go_enter Tryz.func306, Tryz.ntmps306
      go_wp2_with fail
      go_ret
      exact ⟨rfl, HS.out⟩
  · have e1 : ¬ (t.size : Int) = 16 := by omega
    have hb : mayB z o t = false := by unfold mayB; simp; omega
    rw [hb]
    go_enter Tryz.func306, Tryz.ntmps306
    go_wp2_with fail
    go_ret
    exact ⟨rfl, HS.out⟩
theorem nulB_true {T : Tb} {i : Nat} (h : nul T i) : nulB (T.zone i) (T.off i) (T.tag i) = true := decide_eq_true h
theorem nulB_false {T : Tb} {i : Nat} (h : ¬ nul T i) : nulB (T.zone i) (T.off i) (T.tag i) = false := decide_eq_false h
theorem mayB_true {T : Tb} {i : Nat} (h : may T i) : mayB (T.zone i) (T.off i) (T.tag i) = true := decide_eq_true h
theorem mayB_false {T : Tb} {i : Nat} (h : ¬ may T i) : mayB (T.zone i) (T.off i) (T.tag i) = false := decide_eq_false h
theorem zeros_text (s : ByteArray) (w : World) (hs : s.size ≤ 100000) : Calls Tryz.prog 296 #[.string s] w fun e w' => e = .returned (.bool (decide (∀ j, j < s.size → sb s j = 0))) ∧ w' = w := by
  go_enter Tryz.func296, Tryz.ntmps296
  go_wp2_with fail
  go_loopw [6, 3] (fun i _ wr => ∃ k : Nat, k ≤ s.size ∧ i = .int .i64 k ∧ wr = w ∧ ∀ j, j < k → sb s j = 0) (fun i _ _ => s.size - (intOf i).toNat)
  case atStart => exact ⟨0, by omega, rfl, rfl, fun j hj => by omega⟩
  case round =>
    obtain ⟨k, hk, rfl, rfl, h0⟩ := hrel
    have H0 : Hid (∀ j, j < k → sb s j = 0) := h0
    clear h0
    by_cases hlt : k < s.size
    · have hlt2 : (k : Int) < s.size := by omega
      have hb : s[k] = sb s k := by
        have hsz : s.data.size = s.size := rfl
        unfold sb
        rw [Array.getElem?_eq_getElem (by omega)]
        rfl
      by_cases hz : sb s k = 0
      · have hu : ((s[k] : UInt8).toNat : Int) = 0 := by rw [hb, hz]; rfl
        have HZ : Hid (sb s k = 0) := hz
        clear hb hz
        go_wp2_with fail
        go_roundw
        case rel => exact ⟨k + 1, by omega, by go_num, trivial, fun j hj => by
          by_cases e : j = k
          · subst e; exact HZ.out
          · exact H0.out j (by omega)⟩
        case measure => simp [intOf]; omega
      · have hu : ¬ ((s[k] : UInt8).toNat : Int) = 0 := by
          rw [hb]
          intro e
          exact hz (UInt8.toNat_inj.1 (by rw [show (0 : UInt8).toNat = 0 from rfl]; omega))
        have HD : Hid (decide (∀ j, j < s.size → sb s j = 0) = false) := decide_eq_false (fun h => hz (h k hlt))
        clear hb hz
        go_wp2_with fail
        go_ret
        exact ⟨by rw [HD.out]; rfl, rfl⟩
    · have hke : k = s.size := by omega
      have HD : Hid (decide (∀ j, j < s.size → sb s j = 0) = true) := decide_eq_true (fun j hj => H0.out j (by omega))
      subst hke
      go_wp2_with fail
      go_ret
      exact ⟨by rw [HD.out]; rfl, rfl⟩
theorem sb_get (s : ByteArray) (k : Nat) (h : k < s.size) : s[k] = sb s k := by
  have hsz : s.data.size = s.size := rfl
  unfold sb
  rw [Array.getElem?_eq_getElem (by omega)]
  rfl
theorem or_byte (n b : Nat) (hn : n * 256 + b < 18446744073709551616) (hb : b < 256) : bits .or .u64 (IntKind.u64.wrap ((n : Int) * 256)) (IntKind.u64.wrap (b : Int)) = ((n * 256 + b : Nat) : Int) := by
  have w1 : ∀ x : Int, IntKind.u64.wrap x = x % 18446744073709551616 := fun x => by simp [IntKind.wrap, IntKind.bits, IntKind.signed]
  rw [w1, w1, Int.emod_eq_of_lt (by omega) (by omega), Int.emod_eq_of_lt (by omega) (by omega)]
  have e : (n : Int) * 256 = ((n * 256 : Nat) : Int) := by omega
  rw [e, u64_or_nat (n * 256) b (by omega) (by omega)]
  have := Nat.two_pow_add_eq_or_of_lt (i := 8) (b := b) (by omega) n
  congr 1
  rw [show (2 : Nat) ^ 8 = 256 from rfl, Nat.mul_comm] at this
  exact this.symm
theorem number_any (s : ByteArray) (w : World) (hs : s.size = 8) : Calls Tryz.prog 326 #[.string s] w fun e w' => e = .returned (.int .i64 (wrap64 (numAt s 0 8 : Int))) ∧ w' = w := by
  go_enter Tryz.func326, Tryz.ntmps326
  go_wp2_with fail
  go_loopw [5, 3] (fun i n wr => ∃ k : Nat, k ≤ 8 ∧ i = .int .i64 k ∧ n = .int .u64 (numAt s 0 k : Int) ∧ wr = w) (fun i _ _ => 8 - (intOf i).toNat)
  case atStart => exact ⟨0, by omega, rfl, rfl, rfl⟩
  case round =>
    obtain ⟨k, hk, rfl, rfl, rfl⟩ := hrel
    by_cases hlt : k < 8
    · have hlt2 : (k : Int) < 8 := by omega
      have hlt3 : k < s.size := by omega
      have hb : s[k] = sb s k := sb_get s k hlt3
      have hlt4 := numAt_lt s 0 (k + 1)
      have hle : 256 ^ (k + 1) ≤ 256 ^ 8 := Nat.pow_le_pow_right (by omega) (by omega)
      have HO : Hid (bits .or .u64 (IntKind.u64.wrap ((numAt s 0 k : Int) * 256)) (IntKind.u64.wrap ((sb s k).toNat : Int)) = ((numAt s 0 (k + 1) : Nat) : Int)) := by
        have h2 : numAt s 0 (k + 1) = numAt s 0 k * 256 + (sb s k).toNat := by rw [numAt, Nat.zero_add]
        rw [h2] at hlt4 ⊢
        exact or_byte _ _ (by omega) ((sb s k).toNat_lt)
      clear hlt4 hle
      go_wp2_with fail
      go_roundw
      case rel => exact ⟨k + 1, by omega, by go_num, by rw [HO.out], trivial⟩
      case measure => simp [intOf]; omega
    · have hke : k = 8 := by omega
      subst hke
      go_wp2_with fail
      go_ret
      exact ⟨rfl, rfl⟩
def czone (s : ByteArray) : Int := if sb s 0 = 255 then 0 else ((sb s 0).toNat : Int)
def coff (s : ByteArray) : Int := if sb s 0 = 255 then 0 else ((sb s 1).toNat : Int)
def ctag (s : ByteArray) : ByteArray := if sb s 0 = 255 then ⟨#[]⟩ else s.extract 2 18
theorem wrapB (x : UInt8) : IntKind.i64.wrap (x.toNat : Int) = x.toNat := by
  have := x.toNat_lt
  simp [IntKind.wrap, IntKind.bits, IntKind.signed]
  omega
def three3 (a b c : Value) (j : Nat) : Value := if j = 0 then a else if j = 1 then b else c
theorem cel3 (w : World) (a b c : Value) (ty : TypeId) : Cel (w.alloc (.cells #[a, b, c] ty)) w.heap.size 3 (three3 a b c) := Cel.new w 3 _ _ _ (fun j hj => by
  match j, hj with
  | 0, _ => rfl
  | 1, _ => rfl
  | 2, _ => rfl) _ rfl
theorem range3 {w : World} {b : Nat} {x y z : Value} (h : Cel w b 3 (three3 x y z)) : w.rangeAt b 0 [x, y, z] := by
  have := h.range 0 3 (by omega)
  exact this
set_option maxHeartbeats 1000000 in
theorem cell_any (s : ByteArray) (w : World) (hs : s.size = 18) : Calls Tryz.prog 327 #[.string s] w fun e w' => e = .returned (.agg #[.int .i64 (czone s), .int .i64 (coff s), .string (ctag s)]) ∧ Since w w' := by
  have h0 : 0 < s.size := by omega
  have h1 : 1 < s.size := by omega
  have hI : (s.size : Int) = 18 := by omega
  have hb := sb_get s 0 h0
  have hb1 := sb_get s 1 h1
  by_cases h : sb s 0 = 255
  · have hu : ((s[0] : UInt8).toNat : Int) = 255 := by rw [hb, h]; rfl
    have hS : Since w (w.alloc (.cells #[.int .i64 0, .int .i64 0, .string ⟨#[]⟩] 69)) := (Since.refl w).alloc _
    unfold czone coff ctag
    rw [if_pos h, if_pos h, if_pos h]
    clear hb hb1
    go_enter Tryz.func327, Tryz.ntmps327
    go_wp2_with fail
    exact bodyPost_ret (results_row Tryz.results327 _ _ _ w.heap.size _ _ (by rfl) (range3 (cel3 w _ _ _ _)) Tryz.underlying69 (by rfl) (by kernel_rfl)) rfl ⟨rfl, hS⟩
  · have hu : ¬ ((sb s 0).toNat : Int) = 255 := by
      intro e
      exact h (UInt8.toNat_inj.1 (by rw [show (255 : UInt8).toNat = 255 from rfl]; omega))
    unfold czone coff ctag
    rw [if_neg h, if_neg h, if_neg h]
    have z1 : (s.extract 2 18).size = 16 := by rw [ByteArray.size_extract]; omega
    have hw0 : IntKind.i64.wrap ((sb s 0).toNat : Int) = (sb s 0).toNat := wrapB _
    have hw1 : IntKind.i64.wrap ((sb s 1).toNat : Int) = (sb s 1).toNat := wrapB _
    have hcl := fun w => clone_any (s.extract 2 18) w (by omega)
    have HC : Hid (∀ w, Calls Tryz.prog 67 #[.string (s.extract 2 18)] w fun e w' => e = .returned (.string (s.extract 2 18)) ∧ Since w w') := hcl
    clear hcl
    go_enter Tryz.func327, Tryz.ntmps327
    go_wp2_with fail
    have hC := (cel3 w (.int .i64 0) (.int .i64 0) (.string ⟨#[]⟩) 69).since (Since.refl _).drew
    have HL : Hid (Cel (w.alloc (.cells #[.int .i64 0, .int .i64 0, .string ⟨#[]⟩] 69)).drew w.heap.size 3 (three3 (.int .i64 0) (.int .i64 0) (.string ⟨#[]⟩))) := hC
    clear hC
    go_region_held3 (fun _ => True) (trivial) (first
      | (go_simp; go_at_call 67; refine (HC.out _).mono ?_; rintro e w1 ⟨rfl, h2⟩; have q0 := (HL.out.since h2).cell 0 (by omega); have q1 := (HL.out.since h2).cell 1 (by omega); have q2 := (HL.out.since h2).cell 2 (by omega); have f0 := (HL.out.since h2).frozen 0 (by omega); have f1 := (HL.out.since h2).frozen 1 (by omega); have f2 := (HL.out.since h2).frozen 2 (by omega); dsimp only))
    all_goals
      have hC3 := (((HL.out.since h2).set 0 (by omega) (.int .i64 ((sb s 0).toNat : Int))).set 1 (by omega) (.int .i64 ((sb s 1).toNat : Int))).set 2 (by omega) (.string (s.extract 2 18))
      have hC4 := hC3.congr (g := three3 (.int .i64 ((sb s 0).toNat : Int)) (.int .i64 ((sb s 1).toNat : Int)) (.string (s.extract 2 18))) (fun j hj => by
        match j, hj with
        | 0, _ => rfl
        | 1, _ => rfl
        | 2, _ => rfl)
      have HC4 : Hid (Cel _ w.heap.size 3 (three3 (.int .i64 ((sb s 0).toNat : Int)) (.int .i64 ((sb s 1).toNat : Int)) (.string (s.extract 2 18)))) := hC4
      have hS3 := ((((((Since.refl w).alloc (.cells #[.int .i64 0, .int .i64 0, .string ⟨#[]⟩] 69)).drew).trans h2).setCell (p := ⟨w.heap.size, 0, none⟩) (Nat.le_refl _) (.int .i64 ((sb s 0).toNat : Int))).setCell (p := ⟨w.heap.size, 1, none⟩) (Nat.le_refl _) (.int .i64 ((sb s 1).toNat : Int))).setCell (p := ⟨w.heap.size, 2, none⟩) (Nat.le_refl _) (.string (s.extract 2 18))
      have HS3 : Hid (Since w _) := hS3
      clear hC3 hC4 hS3 q0 q1 q2 f0 f1 f2 hb hb1 HL h2
      go_wp2_with fail
      exact bodyPost_ret (results_row Tryz.results327 _ _ _ w.heap.size _ _ (by rfl) (range3 HC4.out) Tryz.underlying69 (by rfl) (by kernel_rfl)) rfl ⟨rfl, HS3.out⟩
end Tw
end Go.Proofs.YtlgocfgnfdnloaaGreatDoor
end
section
namespace Go.Proofs.YtlgocfgnfdnloaaGreatDoor
set_option maxRecDepth 100000
namespace Tw
open Go.RowKit
open Sl (copy_str conv_txt)
attribute [local go_sem ↓] cell_eql
def wby (z o : Int) (t : ByteArray) (j : Nat) : UInt8 := if j = 0 then UInt8.ofNat z.toNat else if j = 1 then UInt8.ofNat o.toNat else sb t (j - 2)
theorem cel18 (w : World) (cs : Array Value) (f : Nat → UInt8) (h : cs = (brow 18 (fun j => bv (f j))).toArray) (b : Nat) (hb : b = w.heap.size) : Cel (w.alloc (.cells cs 385)) b 18 (fun j => bv (f j)) := Cel.new w 18 _ _ _ (fun j hj => by rw [h, List.getElem?_toArray, brow_get _ _ _ hj]) _ hb
set_option maxHeartbeats 1000000 in
theorem written_nul (w : World) : Calls Tryz.prog 276 #[.agg #[.int .i64 0, .int .i64 0, .string ⟨#[]⟩]] w fun e w' => e = .returned (.string (txt 18 (fun j => if j = 0 then 255 else 0))) ∧ Since w w' := by
  have hn : nulB 0 0 ⟨#[]⟩ = true := rfl
  have hC := cel18 (w.alloc (.cells #[.int .i64 0, .int .i64 0, .string ⟨#[]⟩] 69)) #[.int .u8 255, .int .u8 0, .int .u8 0, .int .u8 0, .int .u8 0, .int .u8 0, .int .u8 0, .int .u8 0, .int .u8 0, .int .u8 0, .int .u8 0, .int .u8 0, .int .u8 0, .int .u8 0, .int .u8 0, .int .u8 0, .int .u8 0, .int .u8 0] (fun j => if j = 0 then 255 else 0) (by rfl) (w.heap.size + 1) (by simp)
  have hcv := conv_txt _ (w.heap.size + 1) 0 18 18 (fun j => if j = 0 then 255 else 0) (fun i hi => by rw [Nat.zero_add]; exact hC.cell i hi)
  have HS : Hid (Since w ((w.alloc (.cells #[.int .i64 0, .int .i64 0, .string ⟨#[]⟩] 69)).alloc (.cells #[.int .u8 255, .int .u8 0, .int .u8 0, .int .u8 0, .int .u8 0, .int .u8 0, .int .u8 0, .int .u8 0, .int .u8 0, .int .u8 0, .int .u8 0, .int .u8 0, .int .u8 0, .int .u8 0, .int .u8 0, .int .u8 0, .int .u8 0, .int .u8 0] 385))) := ((Since.refl w).alloc _).alloc _
  clear hC
  generalize hq : txt 18 (fun j => if j = 0 then 255 else 0) = q at *
  have HQ : Hid (txt 18 (fun j => if j = 0 then 255 else 0) = q) := hq
  clear hq
  go_enter Tryz.func276, Tryz.ntmps276
  go_wp2_with fail
  go_ret
  exact ⟨rfl, HS.out⟩
set_option maxHeartbeats 1000000 in
theorem written_may (z o : Nat) (t : ByteArray) (w : World) (hn : nulB z o t = false) (hz : z < 8) (ho : o < 16) (ht : t.size = 16) : Calls Tryz.prog 276 #[.agg #[.int .i64 (z : Int), .int .i64 (o : Int), .string t]] w fun e w' => e = .returned (.string (txt 18 (wby z o t))) ∧ Since w w' := by
  have hwz : IntKind.u8.wrap (z : Int) = z := by simp [IntKind.wrap, IntKind.bits, IntKind.signed]; omega
  have hwo : IntKind.u8.wrap (o : Int) = o := by simp [IntKind.wrap, IntKind.bits, IntKind.signed]; omega
  go_enter Tryz.func276, Tryz.ntmps276
  go_wp2_with fail
  go_region
  have hC := Cel.new (w.alloc (.cells #[.int .i64 (z : Int), .int .i64 (o : Int), .string t] 69)) 18 (fun j => if j = 0 then .int .u8 (z : Int) else if j = 1 then .int .u8 (o : Int) else bv 0) 385 (brow 18 (fun j => if j = 0 then .int .u8 (z : Int) else if j = 1 then .int .u8 (o : Int) else bv 0)).toArray (fun j hj => by rw [List.getElem?_toArray, brow_get _ _ _ hj]) (w.heap.size + 1) (by simp)
  have hC2 := (hC.since (Since.refl _).drew).since (Since.refl _).drew
  have hT := (((cel3 w (.int .i64 (z : Int)) (.int .i64 (o : Int)) (.string t) 69).since ((Since.refl _).alloc (.cells (brow 18 (fun j => if j = 0 then .int .u8 (z : Int) else if j = 1 then .int .u8 (o : Int) else bv 0)).toArray 385))).since (Since.refl _).drew).since (Since.refl _).drew
  have q2 := hT.cell 2 (by omega)
  rw [show three3 (.int .i64 (z : Int)) (.int .i64 (o : Int)) (.string t) 2 = .string t from rfl] at q2
  have hS : Since w ((w.alloc (.cells #[.int .i64 (z : Int), .int .i64 (o : Int), .string t] 69)).alloc (.cells (brow 18 (fun j => if j = 0 then .int .u8 (z : Int) else if j = 1 then .int .u8 (o : Int) else bv 0)).toArray 385)).drew := (((Since.refl w).alloc _).alloc _).drew
  generalize hw2 : ((w.alloc (.cells #[.int .i64 (z : Int), .int .i64 (o : Int), .string t] 69)).alloc (.cells (brow 18 (fun j => if j = 0 then .int .u8 (z : Int) else if j = 1 then .int .u8 (o : Int) else bv 0)).toArray 385)).drew = w2 at *
  refine (congrArg (fun W => Exit.then _ _ Exit.normal _ W) hw2).mpr ?_
  clear hC hT hw2
  have hcp := copy_str _ 3 (w.heap.size + 1) 2 16 16 18 _ t hC2 (by omega)
  rw [show min t.size 16 = 16 by omega] at hcp
  have hC3 := hC2.setRow 2 16 (by omega) (fun i => bv (sb t i))
  have hC4 : Cel (w2.drew.setCells (w.heap.size + 1) 2 (brow 16 (fun i => bv (sb t i)))) (w.heap.size + 1) 18 (fun j => bv (wby z o t j)) := by
    refine hC3.congr (fun j hj => ?_)
    unfold updl wby
    by_cases e : j = 0
    · subst e
      rw [if_neg (by omega)]
      simp only [if_true, bv, UInt8.toNat_ofNat', Int.toNat_natCast]
      congr 1
      omega
    · by_cases e1 : j = 1
      · subst e1
        rw [if_neg (by omega)]
        simp only [if_true, if_false, Nat.one_ne_zero, bv, UInt8.toNat_ofNat', Int.toNat_natCast]
        congr 1
        omega
      · rw [if_pos (by omega), if_neg e, if_neg e1]
  have hS4 : Since w (w2.drew.setCells (w.heap.size + 1) 2 (brow 16 (fun i => bv (sb t i)))) := hS.drew.setCells (by omega) _ _
  have HC4 : Hid (Cel (w2.drew.setCells (w.heap.size + 1) 2 (brow 16 (fun i => bv (sb t i)))) (w.heap.size + 1) 18 (fun j => bv (wby z o t j))) := hC4
  have HS4 : Hid (Since w (w2.drew.setCells (w.heap.size + 1) 2 (brow 16 (fun i => bv (sb t i))))) := hS4
  clear hC2 hC3 hC4 hS hS4 hwz hwo hn
  go_wp2_with fail
  go_region
  clear hcp q2
  generalize w2.drew.setCells (w.heap.size + 1) 2 (brow 16 (fun i => bv (sb t i))) = w3 at *
  have hcv := conv_txt w3 (w.heap.size + 1) 0 18 18 (wby z o t) (fun i hi => by rw [Nat.zero_add]; exact HC4.out.cell i hi)
  generalize hq : txt 18 (wby z o t) = q at *
  have HQ : Hid (txt 18 (wby z o t) = q) := hq
  clear hq
  go_wp2_with fail
  go_ret
  exact ⟨by rw [HQ.out]; rfl, HS4.out⟩
theorem wby_list (z o : Nat) (t : ByteArray) (ht : t.size = 16) : txt 18 (wby z o t) = ⟨(UInt8.ofNat z :: UInt8.ofNat o :: t.data.toList).toArray⟩ := by
  have hsz : t.data.size = 16 := ht
  apply ByteArray.ext
  apply Array.ext_getElem?
  intro i
  have e1 : (txt 18 (wby z o t)).data[i]? = ((List.range 18).map (wby z o t))[i]? := by unfold txt; exact List.getElem?_toArray ..
  rw [e1, List.getElem?_map, List.getElem?_toArray]
  match i with
  | 0 => simp [wby]
  | 1 => simp [wby]
  | i + 2 =>
    rw [List.getElem?_cons_succ, List.getElem?_cons_succ, show t.data.toList[i]? = t.data[i]? from Array.getElem?_toList]
    by_cases h : i < 16
    · rw [List.getElem?_range (by omega), Array.getElem?_eq_getElem (by omega)]
      simp only [Option.map_some, wby]
      rw [if_neg (by omega), if_neg (by omega), show i + 2 - 2 = i by omega]
      unfold sb
      rw [Array.getElem?_eq_getElem (by omega)]
      rfl
    · rw [List.getElem?_eq_none (by simp; omega), Array.getElem?_eq_none (by omega)]
      rfl
theorem written_any (T : Tb) (i : Nat) (w : World) (h : nul T i ∨ may T i) : Calls Tryz.prog 276 #[.agg #[.int .i64 (T.zone i), .int .i64 (T.off i), .string (T.tag i)]] w fun e w' => e = .returned (.string ⟨(cellL T i).toArray⟩) ∧ Since w w' := by
  by_cases hn : nul T i
  · have hl : cellL T i = 255 :: List.replicate 17 0 := by unfold cellL; rw [if_pos hn]
    rw [hl]
    obtain ⟨h1, h2, h3⟩ := hn
    rw [h1, h2, h3]
    exact written_nul w
  · have hm : may T i := h.resolve_left hn
    have hl : cellL T i = UInt8.ofNat (T.zone i).toNat :: UInt8.ofNat (T.off i).toNat :: (T.tag i).data.toList := by unfold cellL; rw [if_neg hn]
    rw [hl]
    have hnb := nulB_false hn
    obtain ⟨m1, m2, m3, m4, m5⟩ := hm
    obtain ⟨z, hz⟩ : ∃ z : Nat, T.zone i = z := ⟨(T.zone i).toNat, by omega⟩
    obtain ⟨o, ho⟩ : ∃ o : Nat, T.off i = o := ⟨(T.off i).toNat, by omega⟩
    rw [hz, ho] at hnb ⊢
    have := written_may z o (T.tag i) w hnb (by omega) (by omega) m1
    rw [wby_list z o (T.tag i) m1] at this
    exact this
end Tw
end Go.Proofs.YtlgocfgnfdnloaaGreatDoor
end
section
namespace Go.Proofs.YtlgocfgnfdnloaaGreatDoor
set_option maxRecDepth 100000
namespace Tw
open Go.RowKit
attribute [local go_sem ↓] cell_eql
def hitN (T : Tb) (k : Nat) (z o : Int) : Bool := (List.range k).any fun i => !nulB (T.zone i) (T.off i) (T.tag i) && decide (T.zone i = z) && decide (T.off i = o)
theorem hitN_iff (T : Tb) (k : Nat) (z o : Int) : hitN T k z o = true ↔ hit T k z o := by
  unfold hitN hit
  rw [List.any_eq_true]
  constructor
  · rintro ⟨i, hi, h⟩
    simp only [Bool.and_eq_true, Bool.not_eq_true', decide_eq_true_eq] at h
    exact ⟨i, List.mem_range.1 hi, fun hn => by rw [nulB_true hn] at h; exact Bool.noConfusion h.1.1, h.1.2, h.2⟩
  · rintro ⟨i, hi, hn, h1, h2⟩
    exact ⟨i, List.mem_range.2 hi, by rw [nulB_false hn, decide_eq_true h1, decide_eq_true h2]; rfl⟩
def rtB (T : Tb) : Bool := decide (1 ≤ T.count ∧ T.count ≤ 1099511627776) && (List.range 24).all fun i => nulB (T.zone i) (T.off i) (T.tag i) || (mayB (T.zone i) (T.off i) (T.tag i) && !hitN T i (T.zone i) (T.off i))
theorem rtB_iff (T : Tb) : rtB T = true ↔ Rt T := by
  unfold rtB Rt fine
  rw [Bool.and_eq_true, decide_eq_true_eq, List.all_eq_true]
  refine and_congr Iff.rfl ⟨fun h i hi => ?_, fun h i hi => ?_⟩
  · have := h i (List.mem_range.2 hi)
    rw [Bool.or_eq_true, Bool.and_eq_true, Bool.not_eq_true'] at this
    rcases this with h1 | ⟨h1, h2⟩
    · exact Or.inl (of_decide_eq_true h1)
    · exact Or.inr ⟨of_decide_eq_true h1, fun hh => by rw [(hitN_iff _ _ _ _).2 hh] at h2; exact Bool.noConfusion h2⟩
  · rw [Bool.or_eq_true, Bool.and_eq_true, Bool.not_eq_true']
    rcases h i (List.mem_range.1 hi) with h1 | ⟨h1, h2⟩
    · exact Or.inl (nulB_true h1)
    · exact Or.inr ⟨mayB_true h1, by
        cases hq : hitN T i (T.zone i) (T.off i) with
        | false => rfl
        | true => exact absurd ((hitN_iff _ _ _ _).1 hq) h2⟩
theorem rtB_true {T : Tb} (h : Rt T) : rtB T = true := (rtB_iff T).2 h
theorem rtB_false {T : Tb} (h : ¬ Rt T) : rtB T = false := by
  cases hq : rtB T with
  | false => rfl
  | true => exact absurd ((rtB_iff T).1 hq) h
def hitB (T : Tb) (k j : Nat) : Bool := hitN T k ((j / 16 : Nat) : Int) ((j % 16 : Nat) : Int)
theorem hitB_iff (T : Tb) (k j : Nat) : hitB T k j = true ↔ hit T k ((j / 16 : Nat) : Int) ((j % 16 : Nat) : Int) := hitN_iff _ _ _ _
theorem bool_iff {x y : Bool} (h : x = true ↔ y = true) : x = y := by
  cases x <;> cases y <;> simp_all
theorem hitB_zero (T : Tb) (j : Nat) : hitB T 0 j = false := by
  cases hq : hitB T 0 j with
  | false => rfl
  | true => exact absurd ((hitB_iff _ _ _).1 hq) (hit_zero _ _ _)
theorem hitB_nul {T : Tb} {k : Nat} (hn : nul T k) (j : Nat) : hitB T (k + 1) j = hitB T k j :=
  bool_iff (by rw [hitB_iff, hitB_iff]; exact hit_nul hn _ _)
theorem hitB_at (T : Tb) (k z o : Nat) (ho : o < 16) : hitB T k (z * 16 + o) = true ↔ hit T k (z : Int) (o : Int) := by
  rw [hitB_iff, show (z * 16 + o) / 16 = z by omega, show (z * 16 + o) % 16 = o by omega]
theorem hitB_set {T : Tb} {k : Nat} (hn : ¬ nul T k) (z o : Nat) (hz : T.zone k = z) (ho : T.off k = o) (ho2 : o < 16) (j : Nat) : (if j = z * 16 + o then true else hitB T k j) = hitB T (k + 1) j := by
  by_cases e : j = z * 16 + o
  · subst e
    rw [if_pos rfl]
    symm
    rw [hitB_at T (k + 1) z o ho2, hit_set hn]
    exact Or.inr ⟨hz, ho⟩
  · rw [if_neg e]
    have : hit T (k + 1) ((j / 16 : Nat) : Int) ((j % 16 : Nat) : Int) ↔ hit T k ((j / 16 : Nat) : Int) ((j % 16 : Nat) : Int) := by
      rw [hit_set hn, hz, ho]
      constructor
      · rintro (h | ⟨h1, h2⟩)
        · exact h
        · exact absurd (show j = z * 16 + o by omega) e
      · exact Or.inl
    exact bool_iff (by rw [hitB_iff, hitB_iff]; exact this.symm)
theorem right_count (T : Tb) (w : World) (h : T.count < 1 ∨ 1099511627776 < T.count) : Calls Tryz.prog 274 #[tval T] w fun e w' => e = .returned (.bool false) ∧ Since w w' := by
  have hC := tab_cel T w
  have q0 := hC.cell 0 (by omega)
  rw [show tcell T 0 = .int .i64 T.count from rfl] at q0
  have hS : Since w (w.alloc (.cells (brow 73 (tcell T)).toArray 72)) := (Since.refl w).alloc _
  unfold tval
  generalize (brow 73 (tcell T)).toArray = cs at *
  have HS : Hid (Since w (w.alloc (.cells cs 72))) := hS
  clear hS hC
  by_cases h1 : T.count < 1
  · go_enter Tryz.func274, Tryz.ntmps274
    go_wp2_with fail
    go_ret
    exact ⟨rfl, HS.out⟩
  · have h2 : 1099511627776 < T.count := by omega
    go_enter Tryz.func274, Tryz.ntmps274
    go_wp2_with fail
    go_ret
    exact ⟨rfl, HS.out⟩
theorem taken_zero : ∀ j, j < 128 → Tryz.zeroCells382[j]? = some (.bool false) := by
  intro j hj
  have he : Tryz.zeroCells382 = (List.replicate 128 (Value.bool false)).toArray := by kernel_rfl
  rw [he, List.getElem?_toArray, List.getElem?_replicate, if_pos hj]
set_option maxHeartbeats 4000000 in
theorem right_loop (T : Tb) (w : World) (h1 : 1 ≤ T.count) (h2 : T.count ≤ 1099511627776) : Calls Tryz.prog 274 #[tval T] w fun e w' => e = .returned (.bool (rtB T)) ∧ Since w w' := by
  have c1 : ¬ T.count < 1 := by omega
  have c2 : ¬ 1099511627776 < T.count := by omega
  have HC1 : Hid (1 ≤ T.count ∧ T.count ≤ 1099511627776) := ⟨h1, h2⟩
  clear h1 h2
  have hC := tab_cel T w
  have q0 := hC.cell 0 (by omega)
  rw [show tcell T 0 = .int .i64 T.count from rfl] at q0
  have hS : Since w (w.alloc (.cells (brow 73 (tcell T)).toArray 72)) := (Since.refl w).alloc _
  have hR := tab_cells (hC.since ((Since.refl _).alloc (.cells Tryz.zeroCells382 382)))
  unfold tval
  generalize (brow 73 (tcell T)).toArray = cs0 at *
  have HS : Hid (Since w ((w.alloc (.cells cs0 72)).alloc (.cells Tryz.zeroCells382 382))) := hS.alloc _
  have HT : Hid (Cel ((w.alloc (.cells cs0 72)).alloc (.cells Tryz.zeroCells382 382)) (w.heap.size + 1) 128 (fun j => .bool (hitB T 0 j))) := (Cel.new (w.alloc (.cells cs0 72)) 128 (fun _ => .bool false) 382 Tryz.zeroCells382 taken_zero (w.heap.size + 1) (by simp)).congr (fun j hj => by rw [hitB_zero])
  clear hS hC
  have hL : (brow 72 (ccell T)).length = 72 := brow_length _ _
  have hix := fun (k : Nat) (hk : k < 24) (w : World) => idx_cell T k hk w
  have HIX : Hid (∀ (k : Nat) (hk : k < 24) (w : World), (Instr.index 70 (.agg (brow 72 (ccell T)).toArray) (.int .i64 (k : Int))).run Tryz.prog w = .ok (.agg #[.int .i64 (T.zone k), .int .i64 (T.off k), .string (T.tag k)]) w) := hix
  clear hix
  generalize hcs : brow 72 (ccell T) = cs at *
  clear hcs
  go_enter Tryz.func274, Tryz.ntmps274
  go_wp2_with (refine wpList_load_mid (by rfl) 70 _ (by rfl) w.heap.size 1 (by rfl) _ _ hR Tryz.underlying70 (by rfl) (by rw [hL]; kernel_rfl) ?_)
  clear hR hL q0 c1 c2
  generalize (w.alloc (.cells cs0 72)).alloc (.cells Tryz.zeroCells382 382) = w0 at *
  go_loopw [16] (fun i wr => ∃ k : Nat, k ≤ 24 ∧ i = .int .i64 k ∧ fine T k ∧ Cel wr (w.heap.size + 1) 128 (fun j => .bool (hitB T k j)) ∧ Since w wr) (fun i _ => 24 - (intOf i).toNat)
  case atStart => exact ⟨0, by omega, rfl, fine_zero T, HT.out, HS.out⟩
  case round =>
    obtain ⟨k, hk, rfl, hf, ht, hs⟩ := hrel
    have HF : Hid (fine T k) := hf
    have HTK : Hid (Cel wr (w.heap.size + 1) 128 (fun j => .bool (hitB T k j))) := ht
    have HSK : Hid (Since w wr) := hs
    clear hf ht hs
    by_cases hlt : k < 24
    · have hlt2 : (k : Int) < 24 := by omega
      have hix := HIX.out k hlt
      by_cases hn : nul T k
      · have HN : Hid (nul T k) := hn
        obtain ⟨z0, o0, t0⟩ := hn
        rw [z0, o0, t0] at hix
        clear z0 o0 t0
        have hnb : nulB 0 0 ⟨#[]⟩ = true := rfl
        go_wp2_with fail
        go_roundw
        case rel => exact ⟨k + 1, by omega, by go_num, fine_nul HF.out HN.out, (HTK.out.since ((Since.refl _).alloc _)).congr (fun j hj => by rw [hitB_nul HN.out]), HSK.out.alloc _⟩
        case measure => simp [intOf]; omega
      · have hnb := nulB_false hn
        have HN : Hid (¬ nul T k) := hn
        clear hn
        by_cases hm : may T k
        · have hmb := mayB_true hm
          obtain ⟨m1, m2, m3, m4, m5⟩ := hm
          have HM : Hid (may T k) := ⟨m1, m2, m3, m4, m5⟩
          obtain ⟨z, hz⟩ : ∃ z : Nat, T.zone k = z := ⟨(T.zone k).toNat, by omega⟩
          obtain ⟨o, ho⟩ : ∃ o : Nat, T.off k = o := ⟨(T.off k).toNat, by omega⟩
          rw [hz, ho] at hix hnb hmb
          rw [hz] at m2 m3
          rw [ho] at m4 m5
          have HZ : Hid (T.zone k = z) := hz
          have HO : Hid (T.off k = o) := ho
          clear hz ho m1
          generalize T.tag k = t at *
          have hz8 : z < 8 := by omega
          have ho16 : o < 16 := by omega
          clear m2 m4
          obtain ⟨x, hx⟩ : ∃ x, hitB T k (z * 16 + o) = x := ⟨_, rfl⟩
          have HX : Hid (hitB T k (z * 16 + o) = x) := hx
          clear hx
          go_wp2_with fail
          have HC3 : Hid (Cel (wr.alloc (.cells #[.int .i64 (z : Int), .int .i64 (o : Int), .string t] 69)).drew wr.heap.size 3 (three3 (.int .i64 (z : Int)) (.int .i64 (o : Int)) (.string t))) := (cel3 wr _ _ _ _).since (Since.refl _).drew
          have HTT : Hid (Cel (wr.alloc (.cells #[.int .i64 (z : Int), .int .i64 (o : Int), .string t] 69)).drew (w.heap.size + 1) 128 (fun j => .bool (hitB T k j))) := (HTK.out.since ((Since.refl _).alloc _)).since (Since.refl _).drew
          have hS4 : (fun W : World => W.cell? ⟨wr.heap.size, 0, none⟩ = some (.int .i64 (z : Int)) ∧ W.cell? ⟨wr.heap.size, 1, none⟩ = some (.int .i64 (o : Int)) ∧ W.cell? ⟨wr.heap.size, 2, none⟩ = some (.string t) ∧ W.cell? ⟨w.heap.size + 1, z * 16 + o, none⟩ = some (.bool x)) (wr.alloc (.cells #[.int .i64 (z : Int), .int .i64 (o : Int), .string t] 69)).drew := ⟨HC3.out.cell 0 (by omega), HC3.out.cell 1 (by omega), HC3.out.cell 2 (by omega), by rw [HTT.out.cell (z * 16 + o) (by omega), HX.out]⟩
          refine wp_region_held (S := fun W : World => W.cell? ⟨wr.heap.size, 0, none⟩ = some (.int .i64 (z : Int)) ∧ W.cell? ⟨wr.heap.size, 1, none⟩ = some (.int .i64 (o : Int)) ∧ W.cell? ⟨wr.heap.size, 2, none⟩ = some (.string t) ∧ W.cell? ⟨w.heap.size + 1, z * 16 + o, none⟩ = some (.bool x)) (by kernel_rfl) ?_
          refine takeD (i := 0) (d := 22) (v := ?w0) rfl rfl (by kernel_rfl) (by kernel_rfl) (by kernel_rfl) (fun _ _ _ h => h) (Or.inl ⟨by rfl, ?hw0⟩) hS4 ?q0
          case hw0 => (intro w hSw; obtain ⟨s0, s1, s2, s3⟩ := hSw; go_simp; try with_reducible rfl)
          simp only [Act.put, List.setIfInBounds_toArray, List.set_cons_zero, List.set_cons_succ]
          refine wpAnyH_ready (rs := [1]) (by kernel_rfl) (by simp) (AllReadyH.cons rfl (fun K hK => ?_) AllReadyH.nil)
          go_simp
          refine (may_any _ _ _ _).mono ?_
          rintro e w1 ⟨rfl, hS1⟩
          rw [hmb]
          simp only []
          have hS5 : (fun W : World => W.cell? ⟨wr.heap.size, 0, none⟩ = some (.int .i64 (z : Int)) ∧ W.cell? ⟨wr.heap.size, 1, none⟩ = some (.int .i64 (o : Int)) ∧ W.cell? ⟨wr.heap.size, 2, none⟩ = some (.string t) ∧ W.cell? ⟨w.heap.size + 1, z * 16 + o, none⟩ = some (.bool x)) w1 := ⟨(HC3.out.since hS1).cell 0 (by omega), (HC3.out.since hS1).cell 1 (by omega), (HC3.out.since hS1).cell 2 (by omega), by rw [(HTT.out.since hS1).cell (z * 16 + o) (by omega), HX.out]⟩
          refine hK.out _ _ hS5 (fun _ => ?_)
          clear hK K
          (try simp only [Act.put, List.setIfInBounds_toArray, List.set_cons_zero, List.set_cons_succ])
          refine takeD (i := 2) (d := 24) (v := ?w2) rfl rfl (by kernel_rfl) (by kernel_rfl) (by kernel_rfl) (fun _ _ _ h => h) (Or.inl ⟨by rfl, ?hw2⟩) hS5 ?q2
          case hw2 => (intro w _; go_simp; try with_reducible rfl)
          simp only [Act.put, List.setIfInBounds_toArray, List.set_cons_zero, List.set_cons_succ]
          refine takeD (i := 3) (d := 25) (v := ?w3) rfl rfl (by kernel_rfl) (by kernel_rfl) (by kernel_rfl) (fun _ _ _ h => h) (Or.inl ⟨by rfl, ?hw3⟩) hS5 ?q3
          case hw3 => (intro w _; go_simp; try with_reducible rfl)
          simp only [Act.put, List.setIfInBounds_toArray, List.set_cons_zero, List.set_cons_succ]
          refine takeD (i := 4) (d := 26) (v := ?w4) rfl rfl (by kernel_rfl) (by kernel_rfl) (by kernel_rfl) (fun _ _ _ h => h) (Or.inl ⟨wanted_by rfl rfl rfl rfl, ?hw4⟩) hS5 ?q4
          case hw4 => (intro w _; go_simp; try with_reducible rfl)
          simp only [Act.put, List.setIfInBounds_toArray, List.set_cons_zero, List.set_cons_succ]
          refine takeD (i := 5) (d := 27) (v := ?w5) rfl rfl (by kernel_rfl) (by kernel_rfl) (by kernel_rfl) (fun _ _ _ h => h) (Or.inl ⟨wanted_by rfl rfl rfl rfl, ?hw5⟩) hS5 ?q5
          case hw5 => (intro w hSw; obtain ⟨s0, s1, s2, s3⟩ := hSw; go_simp; try with_reducible rfl)
          simp only [Act.put, List.setIfInBounds_toArray, List.set_cons_zero, List.set_cons_succ]
          refine takeD (i := 6) (d := 28) (v := ?w6) rfl rfl (by kernel_rfl) (by kernel_rfl) (by kernel_rfl) (fun _ _ _ h => h) (Or.inl ⟨wanted_by rfl rfl rfl rfl, ?hw6⟩) hS5 ?q6
          case hw6 => (intro w _; go_simp; try with_reducible rfl)
          simp only [Act.put, List.setIfInBounds_toArray, List.set_cons_zero, List.set_cons_succ]
          refine takeD (i := 7) (d := 29) (v := ?w7) rfl rfl (by kernel_rfl) (by kernel_rfl) (by kernel_rfl) (fun _ _ _ h => h) (Or.inl ⟨wanted_by rfl rfl rfl rfl, ?hw7⟩) hS5 ?q7
          case hw7 => (intro w hSw; obtain ⟨s0, s1, s2, s3⟩ := hSw; go_simp; try with_reducible rfl)
          simp only [Act.put, List.setIfInBounds_toArray, List.set_cons_zero, List.set_cons_succ]
          refine takeD (i := 8) (d := 30) (v := ?w8) rfl rfl (by kernel_rfl) (by kernel_rfl) (by kernel_rfl) (fun _ _ _ h => h) (Or.inl ⟨wanted_by rfl rfl rfl rfl, ?hw8⟩) hS5 ?q8
          case hw8 => (intro w _; go_simp; try with_reducible rfl)
          simp only [Act.put, List.setIfInBounds_toArray, List.set_cons_zero, List.set_cons_succ]
          refine takeD (i := 9) (d := 31) (v := ?w9) rfl rfl (by kernel_rfl) (by kernel_rfl) (by kernel_rfl) (fun _ _ _ h => h) (Or.inl ⟨wanted_by rfl rfl rfl rfl, ?hw9⟩) hS5 ?q9
          case hw9 => (intro w _; go_simp; try with_reducible rfl)
          simp only [Act.put, List.setIfInBounds_toArray, List.set_cons_zero, List.set_cons_succ]
          refine takeD (i := 10) (d := 32) (v := ?w10) rfl rfl (by kernel_rfl) (by kernel_rfl) (by kernel_rfl) (fun _ _ _ h => h) (Or.inl ⟨wanted_by rfl rfl rfl rfl, ?hw10⟩) hS5 ?q10
          case hw10 => (intro w hSw; obtain ⟨s0, s1, s2, s3⟩ := hSw; go_simp; try with_reducible rfl)
          simp only [Act.put, List.setIfInBounds_toArray, List.set_cons_zero, List.set_cons_succ]
          refine takeD (i := 11) (d := 33) (v := ?w11) rfl rfl (by kernel_rfl) (by kernel_rfl) (by kernel_rfl) (fun _ _ _ h => h) (Or.inl ⟨by rfl, ?hw11⟩) hS5 ?q11
          case hw11 => (intro w _; go_simp; try with_reducible rfl)
          simp only [Act.put, List.setIfInBounds_toArray, List.set_cons_zero, List.set_cons_succ]
          refine wpAnyH_done (by kernel_rfl) ?_ _
          have HS5 : Hid (Since w w1) := (HSK.out.alloc _).drew.trans hS1
          have HC5 : Hid (Cel w1 wr.heap.size 3 (three3 (.int .i64 (z : Int)) (.int .i64 (o : Int)) (.string t))) := HC3.out.since hS1
          have HT5 : Hid (Cel w1 (w.heap.size + 1) 128 (fun j => .bool (hitB T k j))) := HTT.out.since hS1
          clear hS4 hS5 hS1 HC3 HTT hix hnb hmb
          have hhit := hitB_at T k z o ho16
          rw [HX.out] at hhit
          cases x with
          | true =>
            have HB : Hid (rtB T = false) := rtB_false (fun h => fine_not HN.out (Or.inr (by rw [HZ.out, HO.out]; exact hhit.1 rfl)) hlt h.2)
            clear hhit
            go_wp2_with fail
            go_ret
            exact ⟨by rw [HB.out]; rfl, HS5.out⟩
          | false =>
            have HH : Hid (¬ hit T k (z : Int) (o : Int)) := fun h => Bool.noConfusion (hhit.2 h)
            clear hhit
            have hq0 := (HC5.out.since (Since.refl _).drew).cell 0 (by omega)
            have hq1 := (HC5.out.since (Since.refl _).drew).cell 1 (by omega)
            rw [show three3 (.int .i64 (z : Int)) (.int .i64 (o : Int)) (.string t) 0 = .int .i64 (z : Int) from rfl] at hq0
            rw [show three3 (.int .i64 (z : Int)) (.int .i64 (o : Int)) (.string t) 1 = .int .i64 (o : Int) from rfl] at hq1
            have hq2 := (HT5.out.since (Since.refl _).drew).cell (z * 16 + o) (by omega)
            have hq3 := (HT5.out.since (Since.refl _).drew).frozen (z * 16 + o) (by omega)
            have HT6 : Hid (Cel (w1.drew.setCell ⟨w.heap.size + 1, z * 16 + o, none⟩ (.bool true)) (w.heap.size + 1) 128 (fun j => .bool (hitB T (k + 1) j))) := ((HT5.out.since (Since.refl _).drew).set (z * 16 + o) (by omega) (.bool true)).congr (fun j hj => by
              unfold updv
              have := hitB_set HN.out z o HZ.out HO.out ho16 j
              by_cases e : j = z * 16 + o
              · rw [if_pos e]; rw [if_pos e] at this; rw [← this]
              · rw [if_neg e]; rw [if_neg e] at this; rw [← this])
            have HS6 : Hid (Since w (w1.drew.setCell ⟨w.heap.size + 1, z * 16 + o, none⟩ (.bool true))) := HS5.out.drew.setCell (by show w.heap.size ≤ w.heap.size + 1; omega) _
            have HF6 : Hid (fine T (k + 1)) := fine_may HF.out HM.out (by rw [HZ.out, HO.out]; exact HH.out)
            go_wp2_with fail
            go_region
            clear hq0 hq1 hq2 hq3
            go_wp2_with fail
            go_roundw
            case rel => exact ⟨k + 1, by omega, by go_num, HF6.out, HT6.out, HS6.out⟩
            case measure => simp [intOf]; omega
        · have hmb := mayB_false hm
          have HM : Hid (¬ may T k) := hm
          clear hm
          generalize T.zone k = z at *
          generalize T.off k = o at *
          generalize T.tag k = t at *
          go_wp2_with fail
          have HC3 : Hid (Cel (wr.alloc (.cells #[.int .i64 z, .int .i64 o, .string t] 69)).drew wr.heap.size 3 (three3 (.int .i64 z) (.int .i64 o) (.string t))) := (cel3 wr _ _ _ _).since (Since.refl _).drew
          have hS4 : (fun W : World => W.rangeAt wr.heap.size 0 [.int .i64 z, .int .i64 o, .string t]) (wr.alloc (.cells #[.int .i64 z, .int .i64 o, .string t] 69)).drew := range3 HC3.out
          refine wp_region_held (S := fun W : World => W.rangeAt wr.heap.size 0 [.int .i64 z, .int .i64 o, .string t]) (by kernel_rfl) ?_
          refine takeD (i := 0) (d := 22) (v := .agg #[.int .i64 z, .int .i64 o, .string t]) rfl rfl (by kernel_rfl) (by kernel_rfl) (by kernel_rfl) (fun _ _ _ h => h) (yieldsIf_load_mid (by rfl) 69 _ (by rfl) wr.heap.size 0 (by rfl) _ _ (fun w hSw => hSw) Tryz.underlying69 (by rfl) (by kernel_rfl)) hS4 ?r0
          simp only [Act.put, List.setIfInBounds_toArray, List.set_cons_zero, List.set_cons_succ]
          refine wpAnyH_ready (rs := [1]) (by kernel_rfl) (by simp) (AllReadyH.cons rfl (fun K hK => ?_) AllReadyH.nil)
          go_simp
          refine (may_any _ _ _ _).mono ?_
          rintro e w1 ⟨rfl, hS1⟩
          rw [hmb]
          simp only []
          have hS5 : (fun W : World => W.rangeAt wr.heap.size 0 [.int .i64 z, .int .i64 o, .string t]) w1 := range3 (HC3.out.since hS1)
          refine hK.out _ _ hS5 (fun _ => ?_)
          clear hK K
          (try simp only [Act.put, List.setIfInBounds_toArray, List.set_cons_zero, List.set_cons_succ])
          refine takeD (i := 2) (d := 24) (v := ?v2) rfl rfl (by kernel_rfl) (by kernel_rfl) (by kernel_rfl) (fun _ _ _ h => h) (Or.inl ⟨by rfl, ?hy2⟩) hS5 ?r2
          case hy2 => (intro w _; go_simp; try with_reducible rfl)
          simp only [Act.put, List.setIfInBounds_toArray, List.set_cons_zero, List.set_cons_succ]
          refine takeD (i := 3) (d := 25) (v := ?v3) rfl rfl (by kernel_rfl) (by kernel_rfl) (by kernel_rfl) (fun _ _ _ h => h) (Or.inl ⟨by rfl, ?hy3⟩) hS5 ?r3
          case hy3 => (intro w _; go_simp; try with_reducible rfl)
          simp only [Act.put, List.setIfInBounds_toArray, List.set_cons_zero, List.set_cons_succ]
          refine takeD (i := 4) (d := 26) (v := undef) rfl rfl (by kernel_rfl) (by kernel_rfl) (by kernel_rfl) (fun _ _ _ h => h) (Or.inr ⟨unwanted_by rfl rfl rfl rfl (by decide), rfl⟩) hS5 ?r4
          simp only [Act.put, List.setIfInBounds_toArray, List.set_cons_zero, List.set_cons_succ]
          refine takeD (i := 5) (d := 27) (v := undef) rfl rfl (by kernel_rfl) (by kernel_rfl) (by kernel_rfl) (fun _ _ _ h => h) (Or.inr ⟨unwanted_by rfl rfl rfl rfl (by decide), rfl⟩) hS5 ?r5
          simp only [Act.put, List.setIfInBounds_toArray, List.set_cons_zero, List.set_cons_succ]
          refine takeD (i := 6) (d := 28) (v := undef) rfl rfl (by kernel_rfl) (by kernel_rfl) (by kernel_rfl) (fun _ _ _ h => h) (Or.inr ⟨unwanted_by rfl rfl rfl rfl (by decide), rfl⟩) hS5 ?r6
          simp only [Act.put, List.setIfInBounds_toArray, List.set_cons_zero, List.set_cons_succ]
          refine takeD (i := 7) (d := 29) (v := undef) rfl rfl (by kernel_rfl) (by kernel_rfl) (by kernel_rfl) (fun _ _ _ h => h) (Or.inr ⟨unwanted_by rfl rfl rfl rfl (by decide), rfl⟩) hS5 ?r7
          simp only [Act.put, List.setIfInBounds_toArray, List.set_cons_zero, List.set_cons_succ]
          refine takeD (i := 8) (d := 30) (v := undef) rfl rfl (by kernel_rfl) (by kernel_rfl) (by kernel_rfl) (fun _ _ _ h => h) (Or.inr ⟨unwanted_by rfl rfl rfl rfl (by decide), rfl⟩) hS5 ?r8
          simp only [Act.put, List.setIfInBounds_toArray, List.set_cons_zero, List.set_cons_succ]
          refine takeD (i := 9) (d := 31) (v := undef) rfl rfl (by kernel_rfl) (by kernel_rfl) (by kernel_rfl) (fun _ _ _ h => h) (Or.inr ⟨unwanted_by rfl rfl rfl rfl (by decide), rfl⟩) hS5 ?r9
          simp only [Act.put, List.setIfInBounds_toArray, List.set_cons_zero, List.set_cons_succ]
          refine takeD (i := 10) (d := 32) (v := undef) rfl rfl (by kernel_rfl) (by kernel_rfl) (by kernel_rfl) (fun _ _ _ h => h) (Or.inr ⟨unwanted_by rfl rfl rfl rfl (by decide), rfl⟩) hS5 ?r10
          simp only [Act.put, List.setIfInBounds_toArray, List.set_cons_zero, List.set_cons_succ]
          refine takeD (i := 11) (d := 33) (v := ?v11) rfl rfl (by kernel_rfl) (by kernel_rfl) (by kernel_rfl) (fun _ _ _ h => h) (Or.inl ⟨by rfl, ?hy11⟩) hS5 ?r11
          case hy11 => (intro w _; go_simp; try with_reducible rfl)
          simp only [Act.put, List.setIfInBounds_toArray, List.set_cons_zero, List.set_cons_succ]
          refine wpAnyH_done (by kernel_rfl) ?_ _
          have HB : Hid (rtB T = false) := rtB_false (fun h => fine_not HN.out (Or.inl HM.out) hlt h.2)
          have HS5 : Hid (Since w w1) := (HSK.out.alloc _).drew.trans hS1
          clear hS4 hS5 hS1 HC3 hix hnb hmb
          go_wp2_with fail
          go_ret
          exact ⟨by rw [HB.out]; rfl, HS5.out⟩
    · have hke : k = 24 := by omega
      subst hke
      have HB : Hid (rtB T = true) := rtB_true ⟨HC1.out, HF.out⟩
      go_wp2_with fail
      go_ret
      exact ⟨by rw [HB.out]; rfl, HSK.out⟩
theorem right_any (T : Tb) (w : World) : Calls Tryz.prog 274 #[tval T] w fun e w' => e = .returned (.bool (rtB T)) ∧ Since w w' := by
  by_cases h : 1 ≤ T.count ∧ T.count ≤ 1099511627776
  · exact right_loop T w h.1 h.2
  · rw [rtB_false (fun hr => h hr.1)]
    exact right_count T w (by omega)
end Tw
end Go.Proofs.YtlgocfgnfdnloaaGreatDoor
end
section
namespace Go.Proofs.YtlgocfgnfdnloaaGreatDoor
set_option maxRecDepth 100000
namespace Tw
open Go.RowKit
def zat (s : ByteArray) (i : Nat) : Int := if sb s (24 + 18 * i) = 255 then 0 else ((sb s (24 + 18 * i)).toNat : Int)
def oat (s : ByteArray) (i : Nat) : Int := if sb s (24 + 18 * i) = 255 then 0 else ((sb s (25 + 18 * i)).toNat : Int)
def tat (s : ByteArray) (i : Nat) : ByteArray := if sb s (24 + 18 * i) = 255 then ⟨#[]⟩ else s.extract (26 + 18 * i) (42 + 18 * i)
def rdTo (s : ByteArray) (k : Nat) : Tb where
  count := wrap64 (numAt s 16 8 : Int)
  zone i := if i < k then zat s i else 0
  off i := if i < k then oat s i else 0
  tag i := if i < k then tat s i else ⟨#[]⟩
def rd (s : ByteArray) : Tb := rdTo s 24
theorem sb_extract (s : ByteArray) (a b j : Nat) (h : a + j < b) : sb (s.extract a b) j = if a + j < s.size then sb s (a + j) else 0 := by
  have hsz : s.data.size = s.size := rfl
  unfold sb
  rw [ByteArray.data_extract, Array.getElem?_extract]
  by_cases h2 : a + j < s.size
  · rw [if_pos h2, if_pos (by omega)]
  · rw [if_neg h2, if_neg (by omega)]
    rfl
theorem sb_ext (s : ByteArray) (a b j : Nat) (h : a + j < b) (hb : b ≤ s.size) : sb (s.extract a b) j = sb s (a + j) := by
  rw [sb_extract s a b j h, if_pos (by omega)]
theorem numAt_ext (s : ByteArray) (a b c : Nat) (hb : b ≤ s.size) : ∀ k, a + c + k ≤ b → numAt (s.extract a b) c k = numAt s (a + c) k := by
  intro k
  induction k with
  | zero => intro _; rfl
  | succ k ih =>
    intro h
    unfold numAt
    rw [ih (by omega), sb_ext s a b (c + k) (by omega) hb, show a + (c + k) = a + c + k by omega]
theorem ext_ext (s : ByteArray) (a b c d : Nat) (h : a + d ≤ b) : (s.extract a b).extract c d = s.extract (a + c) (a + d) := by
  apply ByteArray.ext
  rw [ByteArray.data_extract, ByteArray.data_extract, ByteArray.data_extract, Array.extract_extract]
  congr 1
  omega
theorem tb_ext {T U : Tb} (h0 : T.count = U.count) (h1 : T.zone = U.zone) (h2 : T.off = U.off) (h3 : T.tag = U.tag) : T = U := by
  cases T
  cases U
  dsimp only at h0 h1 h2 h3
  subst h0 h1 h2 h3
  rfl
theorem rd_cut (s : ByteArray) (h : 456 ≤ s.size) : rd (s.extract 0 456) = rd s := by
  have e1 : numAt (s.extract 0 456) 16 8 = numAt s 16 8 := by rw [numAt_ext s 0 456 16 h 8 (by omega), Nat.zero_add]
  have e2 : ∀ j, j < 456 → sb (s.extract 0 456) j = sb s j := fun j hj => by rw [sb_ext s 0 456 j (by omega) h, Nat.zero_add]
  have e3 : ∀ c d, d ≤ 456 → (s.extract 0 456).extract c d = s.extract c d := fun c d hd => by rw [ext_ext s 0 456 c d (by omega), Nat.zero_add, Nat.zero_add]
  have f0 : (rdTo (s.extract 0 456) 24).count = (rdTo s 24).count := by
    show wrap64 ((numAt (s.extract 0 456) 16 8 : Nat) : Int) = wrap64 ((numAt s 16 8 : Nat) : Int)
    rw [e1]
  have f1 : (rdTo (s.extract 0 456) 24).zone = (rdTo s 24).zone := by
    funext i
    show (if i < 24 then zat (s.extract 0 456) i else 0) = if i < 24 then zat s i else 0
    split
    · unfold zat
      rw [e2 _ (by omega)]
    · rfl
  have f2 : (rdTo (s.extract 0 456) 24).off = (rdTo s 24).off := by
    funext i
    show (if i < 24 then oat (s.extract 0 456) i else 0) = if i < 24 then oat s i else 0
    split
    · unfold oat
      rw [e2 _ (by omega), e2 _ (by omega)]
    · rfl
  have f3 : (rdTo (s.extract 0 456) 24).tag = (rdTo s 24).tag := by
    funext i
    show (if i < 24 then tat (s.extract 0 456) i else ⟨#[]⟩) = if i < 24 then tat s i else ⟨#[]⟩
    split
    · unfold tat
      rw [e2 _ (by omega), e3 _ _ (by omega)]
    · rfl
  exact tb_ext f0 f1 f2 f3
theorem cut_zone (s : ByteArray) (k : Nat) (hk : k < 24) (h : 456 ≤ s.size) : czone (s.extract (24 + 18 * k) (42 + 18 * k)) = zat s k ∧ coff (s.extract (24 + 18 * k) (42 + 18 * k)) = oat s k ∧ ctag (s.extract (24 + 18 * k) (42 + 18 * k)) = tat s k := by
  have e0 : sb (s.extract (24 + 18 * k) (42 + 18 * k)) 0 = sb s (24 + 18 * k) := by rw [sb_ext s _ _ 0 (by omega) (by omega), Nat.add_zero]
  have e1 : sb (s.extract (24 + 18 * k) (42 + 18 * k)) 1 = sb s (25 + 18 * k) := by rw [sb_ext s _ _ 1 (by omega) (by omega), show 24 + 18 * k + 1 = 25 + 18 * k by omega]
  have e2 : (s.extract (24 + 18 * k) (42 + 18 * k)).extract 2 18 = s.extract (26 + 18 * k) (42 + 18 * k) := by rw [ext_ext s _ _ 2 18 (by omega), show 24 + 18 * k + 2 = 26 + 18 * k by omega, show 24 + 18 * k + 18 = 42 + 18 * k by omega]
  unfold czone coff ctag zat oat tat
  rw [e0, e1, e2]
  exact ⟨rfl, rfl, rfl⟩
theorem rdTo_set (s : ByteArray) (k : Nat) (hk : k < 24) (j : Nat) (hj : j < 73) :
    updv (updv (updv (tcell (rdTo s k)) (1 + k * 3) (.int .i64 (zat s k))) (1 + k * 3 + 1) (.int .i64 (oat s k))) (1 + k * 3 + 2) (.string (tat s k)) j = tcell (rdTo s (k + 1)) j := by
  by_cases e2 : j = 1 + k * 3 + 2
  · subst e2
    rw [tcell_at _ k 2 (by omega)]
    simp [updv, tpart, rdTo]
  · by_cases e1 : j = 1 + k * 3 + 1
    · subst e1
      rw [tcell_at _ k 1 (by omega)]
      unfold updv
      rw [if_neg e2, if_pos rfl]
      simp [tpart, rdTo]
    · by_cases e0 : j = 1 + k * 3
      · subst e0
        rw [show tcell (rdTo s (k + 1)) (1 + k * 3) = tpart (rdTo s (k + 1)) k 0 from tcell_at (rdTo s (k + 1)) k 0 (by omega)]
        unfold updv
        rw [if_neg e2, if_neg e1, if_pos rfl]
        simp [tpart, rdTo]
      · unfold updv
        rw [if_neg e2, if_neg e1, if_neg e0]
        unfold tcell
        split
        · rfl
        · have hne : (j - 1) / 3 ≠ k := by omega
          have hq : ∀ {α : Type} (x y : α), (if (j - 1) / 3 < k then x else y) = if (j - 1) / 3 < k + 1 then x else y := fun x y => by
            by_cases h1 : (j - 1) / 3 < k
            · rw [if_pos h1, if_pos (by omega)]
            · rw [if_neg h1, if_neg (by omega)]
          unfold tpart rdTo
          dsimp only
          rw [hq, hq, hq]
theorem zeroTab : Tryz.zeroCells72 = (brow 73 (tcell Tb.zero)).toArray := by kernel_rfl
theorem zeroTab_get (j : Nat) (hj : j < 73) : Tryz.zeroCells72[j]? = some (tcell Tb.zero j) := by
  rw [zeroTab, List.getElem?_toArray]
  exact brow_get _ _ _ hj
theorem zeroTab_cel (w : World) (b : Nat) (hb : b = w.heap.size) : Cel (w.alloc (.cells Tryz.zeroCells72 72)) b 73 (tcell Tb.zero) := Cel.new w _ _ _ _ zeroTab_get _ hb
theorem zeroTab_set (s : ByteArray) : Tryz.zeroCells72.toList.set 0 (.int .i64 (wrap64 (numAt s 16 8 : Int))) = brow 73 (tcell (rdTo s 0)) := by
  have hz : Tryz.zeroCells72.toList = brow 73 (tcell Tb.zero) := by rw [zeroTab]
  rw [hz]
  apply brow_of
  · rw [List.length_set, brow_length]
  · intro j hj
    rw [List.getElem?_set]
    by_cases e : 0 = j
    · subst e
      rw [if_pos rfl, if_pos (by rw [brow_length]; omega)]
      unfold tcell
      rw [if_pos rfl]
      unfold rdTo
      dsimp only
    · rw [if_neg e, brow_get _ _ _ hj]
      unfold tcell
      rw [if_neg (by omega), if_neg (by omega)]
      unfold tpart rdTo Tb.zero
      dsimp only
      rw [if_neg (Nat.not_lt_zero _), if_neg (Nat.not_lt_zero _), if_neg (Nat.not_lt_zero _)]
theorem tcell_one (T : Tb) (j : Nat) : (tcell T j).oneCell' = true := by
  unfold tcell tpart
  split
  · rfl
  · split
    · rfl
    · split <;> rfl
set_option maxHeartbeats 4000000 in
theorem read_any (s : ByteArray) (w : World) (hs : s.size = 456) : Calls Tryz.prog 297 #[.string s] w fun e w' => e = .returned (tval (rd s)) ∧ Since w w' := by
  have hI : (s.size : Int) = 456 := by omega
  have z1 : (s.extract 16 24).size = 8 := by rw [ByteArray.size_extract]; omega
  have HN : Hid (∀ W, Calls Tryz.prog 326 #[.string (s.extract 16 24)] W fun e w' => e = .returned (.int .i64 (wrap64 (numAt s 16 8 : Int))) ∧ w' = W) := fun W => by
    have := number_any (s.extract 16 24) W z1
    rw [numAt_ext s 16 24 0 (by omega) 8 (by omega), Nat.add_zero] at this
    exact this
  have hC0 := (zeroTab_cel w w.heap.size rfl).since ((Since.refl _).alloc (.cells Tryz.zeroCells72 72))
  have hC1 := zeroTab_cel (w.alloc (.cells Tryz.zeroCells72 72)) (w.heap.size + 1) (by simp)
  have hst := hC1.store Tryz.prog 0 73 (by omega) (tcell (rdTo s 0)) (fun j _ => tcell_one _ j)
  have hC2 := hC1.setRow 0 73 (by omega) (tcell (rdTo s 0))
  have hC3 := hC2.congr (g := tcell (rdTo s 0)) (fun j hj => by unfold updl; rw [if_pos (by omega)]; rfl)
  have hC4 := hC0.setRow_other (b' := w.heap.size + 1) (o' := 0) (brow 73 (tcell (rdTo s 0))) (by omega)
  have hS : Since w (((w.alloc (.cells Tryz.zeroCells72 72)).alloc (.cells Tryz.zeroCells72 72)).setCells (w.heap.size + 1) 0 (brow 73 (tcell (rdTo s 0)))) := (((Since.refl w).alloc _).alloc _).setCells (by omega) _ _
  have HC3 : Hid (Cel (((w.alloc (.cells Tryz.zeroCells72 72)).alloc (.cells Tryz.zeroCells72 72)).setCells (w.heap.size + 1) 0 (brow 73 (tcell (rdTo s 0)))) (w.heap.size + 1) 73 (tcell (rdTo s 0))) := hC3
  have HC4 : Hid (Cel (((w.alloc (.cells Tryz.zeroCells72 72)).alloc (.cells Tryz.zeroCells72 72)).setCells (w.heap.size + 1) 0 (brow 73 (tcell (rdTo s 0)))) w.heap.size 73 (tcell Tb.zero)) := hC4
  have HS : Hid (Since w (((w.alloc (.cells Tryz.zeroCells72 72)).alloc (.cells Tryz.zeroCells72 72)).setCells (w.heap.size + 1) 0 (brow 73 (tcell (rdTo s 0))))) := hS
  clear hC0 hC1 hC2 hC3 hC4 hS
  generalize ((w.alloc (.cells Tryz.zeroCells72 72)).alloc (.cells Tryz.zeroCells72 72)).setCells (w.heap.size + 1) 0 (brow 73 (tcell (rdTo s 0))) = w2 at *
  rw [← zeroTab_set] at hst
  go_enter Tryz.func297, Tryz.ntmps297
  go_wp2_with fail
  refine (HN.out _).mono ?_
  rintro e w1 ⟨rfl, hw1⟩
  subst hw1
  go_wp2_with fail
  clear hst HN z1
  go_loopw [10, 4, 5] (fun i _ _ wr => ∃ k : Nat, k ≤ 24 ∧ i = .int .i64 k ∧ Cel wr (w.heap.size + 1) 73 (tcell (rdTo s k)) ∧ Cel wr w.heap.size 73 (tcell Tb.zero) ∧ Since w wr) (fun i _ _ _ => 24 - (intOf i).toNat)
  case atStart => exact ⟨0, by omega, rfl, HC3.out, HC4.out, HS.out⟩
  case round =>
    obtain ⟨k, hk, rfl, hc, hd, hs2⟩ := hrel
    have HCK : Hid (Cel wr (w.heap.size + 1) 73 (tcell (rdTo s k))) := hc
    have HDK : Hid (Cel wr w.heap.size 73 (tcell Tb.zero)) := hd
    have HSK : Hid (Since w wr) := hs2
    clear hc hd hs2
    by_cases hlt : k < 24
    · have hlt2 : (k : Int) < 24 := by omega
      have g1 : (24 : Int) + (k : Int) * 18 = ((24 + 18 * k : Nat) : Int) := by omega
      have g2 : ((24 + 18 * k : Nat) : Int) + 18 = ((42 + 18 * k : Nat) : Int) := by omega
      have g3 : ((42 + 18 * k : Nat) : Int) ≤ 456 := by omega
      have z2 : (s.extract (24 + 18 * k) (42 + 18 * k)).size = 18 := by rw [ByteArray.size_extract]; omega
      have HCE : Hid (∀ W, Calls Tryz.prog 327 #[.string (s.extract (24 + 18 * k) (42 + 18 * k))] W fun e w' => e = .returned (.agg #[.int .i64 (zat s k), .int .i64 (oat s k), .string (tat s k)]) ∧ Since W w') := fun W => by
        have := cell_any (s.extract (24 + 18 * k) (42 + 18 * k)) W z2
        obtain ⟨c1, c2, c3⟩ := cut_zone s k hlt (by omega)
        rw [c1, c2, c3] at this
        exact this
      go_wp2_with fail
      rw [show 24 + 18 * k + 18 = 42 + 18 * k by omega]
      refine (HCE.out _).mono ?_
      rintro e w4 ⟨rfl, h4⟩
      have HC5 : Hid (Cel w4 (w.heap.size + 1) 73 (tcell (rdTo s k))) := HCK.out.since h4
      have HD5 : Hid (Cel w4 w.heap.size 73 (tcell Tb.zero)) := HDK.out.since h4
      have HS5 : Hid (Since w w4) := HSK.out.trans h4
      clear h4 HCE g1 g2 g3 z2
      have q0 := HC5.out.cell (1 + k * 3) (by omega)
      have q1 := HC5.out.cell (1 + k * 3 + 1) (by omega)
      have q2 := HC5.out.cell (1 + k * 3 + 2) (by omega)
      have f0 := HC5.out.frozen (1 + k * 3) (by omega)
      have f1 := HC5.out.frozen (1 + k * 3 + 1) (by omega)
      have f2 := HC5.out.frozen (1 + k * 3 + 2) (by omega)
      have hC6 := ((HC5.out.set (1 + k * 3) (by omega) (.int .i64 (zat s k))).set (1 + k * 3 + 1) (by omega) (.int .i64 (oat s k))).set (1 + k * 3 + 2) (by omega) (.string (tat s k))
      have HC6 : Hid (Cel (((w4.setCell ⟨w.heap.size + 1, 1 + k * 3, none⟩ (.int .i64 (zat s k))).setCell ⟨w.heap.size + 1, 1 + k * 3 + 1, none⟩ (.int .i64 (oat s k))).setCell ⟨w.heap.size + 1, 1 + k * 3 + 2, none⟩ (.string (tat s k))) (w.heap.size + 1) 73 (tcell (rdTo s (k + 1)))) := hC6.congr (fun j hj => rdTo_set s k hlt j hj)
      have HD6 : Hid (Cel (((w4.setCell ⟨w.heap.size + 1, 1 + k * 3, none⟩ (.int .i64 (zat s k))).setCell ⟨w.heap.size + 1, 1 + k * 3 + 1, none⟩ (.int .i64 (oat s k))).setCell ⟨w.heap.size + 1, 1 + k * 3 + 2, none⟩ (.string (tat s k))) w.heap.size 73 (tcell Tb.zero)) := ((HD5.out.other (by show w.heap.size + 1 ≠ w.heap.size; omega) _).other (by show w.heap.size + 1 ≠ w.heap.size; omega) _).other (by show w.heap.size + 1 ≠ w.heap.size; omega) _
      have HS6 : Hid (Since w (((w4.setCell ⟨w.heap.size + 1, 1 + k * 3, none⟩ (.int .i64 (zat s k))).setCell ⟨w.heap.size + 1, 1 + k * 3 + 1, none⟩ (.int .i64 (oat s k))).setCell ⟨w.heap.size + 1, 1 + k * 3 + 2, none⟩ (.string (tat s k)))) := ((HS5.out.setCell (by show w.heap.size ≤ w.heap.size + 1; omega) _).setCell (by show w.heap.size ≤ w.heap.size + 1; omega) _).setCell (by show w.heap.size ≤ w.heap.size + 1; omega) _
      clear hC6
      go_wp2_with fail
      go_roundw
      case rel => exact ⟨k + 1, by omega, by go_num, HC6.out, HD6.out, HS6.out⟩
      case measure => simp [intOf]; omega
    · have hke : k = 24 := by omega
      subst hke
      have hR := tab_all HCK.out
      have hL : (brow 73 (tcell (rdTo s 24))).length = 73 := brow_length _ _
      have hst := HDK.out.store Tryz.prog 0 73 (by omega) (tcell (rdTo s 24)) (fun j _ => tcell_one _ j)
      have HR2 : Hid ((wr.setCells w.heap.size 0 (brow 73 (tcell (rdTo s 24)))).rangeAt w.heap.size 0 (brow 73 (tcell (rdTo s 24)))) := tab_all ((HDK.out.setRow 0 73 (by omega) (tcell (rdTo s 24))).congr (g := tcell (rdTo s 24)) (fun j hj => by unfold updl; rw [if_pos (by omega)]; rfl))
      have HS2 : Hid (Since w (wr.setCells w.heap.size 0 (brow 73 (tcell (rdTo s 24))))) := HSK.out.setCells (Nat.le_refl _) _ _
      have HV : Hid (tval (rd s) = .agg (brow 73 (tcell (rdTo s 24))).toArray) := show tval (rd s) = _ from rfl
      generalize brow 73 (tcell (rdTo s 24)) = cs at *
      go_wp2_with (refine wpList_load_mid (by rfl) 72 _ (by rfl) (w.heap.size + 1) 0 (by rfl) _ _ hR Tryz.underlying72 (by rfl) (by rw [hL]; kernel_rfl) ?_)
      exact bodyPost_ret (results_row Tryz.results297 _ _ _ w.heap.size _ _ (by rfl) HR2.out Tryz.underlying72 (by rfl) (by rw [hL]; kernel_rfl)) rfl ⟨by rw [HV.out], HS2.out⟩
end Tw
end Go.Proofs.YtlgocfgnfdnloaaGreatDoor
end
