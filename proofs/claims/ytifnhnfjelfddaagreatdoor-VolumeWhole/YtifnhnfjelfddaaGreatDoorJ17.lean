import Derived.Deep.RegionHeld3
import Derived.Deep.QuietTactic
import Derived.BigQuiet
import Derived.BigRegion
import Derived.Deep.RegionWith
import Derived.Laws.Bits64b
import Derived.Test.YtifnhnfjelfddaaGreatDoorJ02
import Derived.Test.YtifnhnfjelfddaaGreatDoorJ12
set_option linter.unusedSimpArgs false
set_option linter.unusedVariables false
section
namespace Go.Proofs.YtifnhnfjelfddaaGreatDoor
set_option maxRecDepth 100000
namespace Tw
open Go.RowKit
open Sl (copy_str conv_txt)
def nulB (z o : Int) (t : ByteArray) : Bool := decide (z = 0 ∧ o = 0 ∧ t = ⟨#[]⟩)
def mayB (z o : Int) (t : ByteArray) : Bool := decide (t.size = 16 ∧ 0 ≤ z ∧ z < 8 ∧ 0 ≤ o ∧ o < 16)
theorem cell_eql (w : World) (z o : Int) (t : ByteArray) : (binOp .eql 89 (.agg #[.int .i64 z, .int .i64 o, .string t]) (.agg #[.int .i64 0, .int .i64 0, .string ⟨#[]⟩])).run Tryz.prog w = .ok (.bool (nulB z o t)) w := by
  have h1 : t.toList = [] ↔ t = ⟨#[]⟩ := by
    rw [ByteArray.toList_eq]
    exact ⟨fun e => ByteArray.ext (Array.toList_inj.1 e), fun e => by rw [e]⟩
  unfold nulB
  go_simp
  by_cases a : z = 0 <;> by_cases b : o = 0 <;> by_cases c : t = ⟨#[]⟩ <;> simp [a, b, c, h1]
attribute [local go_sem ↓] cell_eql
theorem may_any (z o : Int) (t : ByteArray) (w : World) : Calls Tryz.prog 118 #[.agg #[.int .i64 z, .int .i64 o, .string t]] w fun e w' => e = .returned (.bool (mayB z o t)) ∧ Since w w' := by
  have hS : Since w (w.alloc (.cells #[.int .i64 z, .int .i64 o, .string t] 89)) := (Since.refl w).alloc _
  have HS : Hid (Since w (w.alloc (.cells #[.int .i64 z, .int .i64 o, .string t] 89))) := hS
  clear hS
  by_cases h1 : t.size = 16
  · have e1 : (t.size : Int) = 16 := by omega
    by_cases h2 : 0 ≤ z
    · by_cases h3 : z < 8
      · by_cases h4 : 0 ≤ o
        · by_cases h5 : o < 16
          · have hb : mayB z o t = true := by unfold mayB; simp; omega
            rw [hb]
            go_enter Tryz.func118, Tryz.ntmps118
            go_wp2_with fail
            go_ret
            exact ⟨rfl, HS.out⟩
          · have hb : mayB z o t = false := by unfold mayB; simp; omega
            rw [hb]
            go_enter Tryz.func118, Tryz.ntmps118
            go_wp2_with fail
            go_ret
            exact ⟨rfl, HS.out⟩
        · have hb : mayB z o t = false := by unfold mayB; simp; omega
          rw [hb]
          go_enter Tryz.func118, Tryz.ntmps118
          go_wp2_with fail
          go_ret
          exact ⟨rfl, HS.out⟩
      · have hb : mayB z o t = false := by unfold mayB; simp; omega
        rw [hb]
        go_enter Tryz.func118, Tryz.ntmps118
        go_wp2_with fail
        go_ret
        exact ⟨rfl, HS.out⟩
    · have hb : mayB z o t = false := by unfold mayB; simp; omega
      rw [hb]
      go_enter Tryz.func118, Tryz.ntmps118
      go_wp2_with fail
      go_ret
      exact ⟨rfl, HS.out⟩
  · have e1 : ¬ (t.size : Int) = 16 := by omega
    have hb : mayB z o t = false := by unfold mayB; simp; omega
    rw [hb]
    go_enter Tryz.func118, Tryz.ntmps118
    go_wp2_with fail
    go_ret
    exact ⟨rfl, HS.out⟩
theorem nulB_true {T : Tb} {i : Nat} (h : nul T i) : nulB (T.zone i) (T.off i) (T.tag i) = true := decide_eq_true h
theorem nulB_false {T : Tb} {i : Nat} (h : ¬ nul T i) : nulB (T.zone i) (T.off i) (T.tag i) = false := decide_eq_false h
theorem mayB_true {T : Tb} {i : Nat} (h : may T i) : mayB (T.zone i) (T.off i) (T.tag i) = true := decide_eq_true h
theorem mayB_false {T : Tb} {i : Nat} (h : ¬ may T i) : mayB (T.zone i) (T.off i) (T.tag i) = false := decide_eq_false h
theorem zeros_text (s : ByteArray) (w : World) (hs : s.size ≤ 100000) : Calls Tryz.prog 126 #[.string s] w fun e w' => e = .returned (.bool (decide (∀ j, j < s.size → sb s j = 0))) ∧ w' = w := by
  go_enter Tryz.func126, Tryz.ntmps126
  go_wp2_with fail
  go_loopw [6, 3] (fun i _ wr => ∃ k : Nat, k ≤ s.size ∧ i = .int .i64 k ∧ wr = w ∧ ∀ j, j < k → sb s j = 0) (fun i _ _ => s.size - (intOf i).toNat)
  case atStart => exact ⟨0, by omega, rfl, rfl, fun j hj => by omega⟩
  case round =>
    obtain ⟨k, hk, rfl, rfl, h0⟩ := hrel
    have H0 : Hid (∀ j, j < k → sb s j = 0) := h0
    clear h0
    by_cases hlt : k < s.size
    · have hlt2 : (k : Int) < s.size := by omega
      have hb : s[k] = sb s k := by
        have hsz : s.data.size = s.size := rfl
        unfold sb
        rw [Array.getElem?_eq_getElem (by omega)]
        rfl
      by_cases hz : sb s k = 0
      · have hu : ((s[k] : UInt8).toNat : Int) = 0 := by rw [hb, hz]; rfl
        have HZ : Hid (sb s k = 0) := hz
        clear hb hz
        go_wp2_with fail
        go_roundw
        case rel => exact ⟨k + 1, by omega, by go_num, trivial, fun j hj => by
          by_cases e : j = k
          · subst e; exact HZ.out
          · exact H0.out j (by omega)⟩
        case measure => simp [intOf]; omega
      · have hu : ¬ ((s[k] : UInt8).toNat : Int) = 0 := by
          rw [hb]
          intro e
          exact hz (UInt8.toNat_inj.1 (by rw [show (0 : UInt8).toNat = 0 from rfl]; omega))
        have HD : Hid (decide (∀ j, j < s.size → sb s j = 0) = false) := decide_eq_false (fun h => hz (h k hlt))
        clear hb hz
        go_wp2_with fail
        go_ret
        exact ⟨by rw [HD.out]; rfl, rfl⟩
    · have hke : k = s.size := by omega
      have HD : Hid (decide (∀ j, j < s.size → sb s j = 0) = true) := decide_eq_true (fun j hj => H0.out j (by omega))
      subst hke
      go_wp2_with fail
      go_ret
      exact ⟨by rw [HD.out]; rfl, rfl⟩
theorem sb_get (s : ByteArray) (k : Nat) (h : k < s.size) : s[k] = sb s k := by
  have hsz : s.data.size = s.size := rfl
  unfold sb
  rw [Array.getElem?_eq_getElem (by omega)]
  rfl
theorem or_byte (n b : Nat) (hn : n * 256 + b < 18446744073709551616) (hb : b < 256) : bits .or .u64 (IntKind.u64.wrap ((n : Int) * 256)) (IntKind.u64.wrap (b : Int)) = ((n * 256 + b : Nat) : Int) := by
  have w1 : ∀ x : Int, IntKind.u64.wrap x = x % 18446744073709551616 := fun x => by simp [IntKind.wrap, IntKind.bits, IntKind.signed]
  rw [w1, w1, Int.emod_eq_of_lt (by omega) (by omega), Int.emod_eq_of_lt (by omega) (by omega)]
  have e : (n : Int) * 256 = ((n * 256 : Nat) : Int) := by omega
  rw [e, u64_or_nat (n * 256) b (by omega) (by omega)]
  have := Nat.two_pow_add_eq_or_of_lt (i := 8) (b := b) (by omega) n
  congr 1
  rw [show (2 : Nat) ^ 8 = 256 from rfl, Nat.mul_comm] at this
  exact this.symm
theorem number_any (s : ByteArray) (w : World) (hs : s.size = 8) : Calls Tryz.prog 141 #[.string s] w fun e w' => e = .returned (.int .i64 (wrap64 (numAt s 0 8 : Int))) ∧ w' = w := by
  go_enter Tryz.func141, Tryz.ntmps141
  go_wp2_with fail
  go_loopw [5, 3] (fun i n wr => ∃ k : Nat, k ≤ 8 ∧ i = .int .i64 k ∧ n = .int .u64 (numAt s 0 k : Int) ∧ wr = w) (fun i _ _ => 8 - (intOf i).toNat)
  case atStart => exact ⟨0, by omega, rfl, rfl, rfl⟩
  case round =>
    obtain ⟨k, hk, rfl, rfl, rfl⟩ := hrel
    by_cases hlt : k < 8
    · have hlt2 : (k : Int) < 8 := by omega
      have hlt3 : k < s.size := by omega
      have hb : s[k] = sb s k := sb_get s k hlt3
      have hlt4 := numAt_lt s 0 (k + 1)
      have hle : 256 ^ (k + 1) ≤ 256 ^ 8 := Nat.pow_le_pow_right (by omega) (by omega)
      have HO : Hid (bits .or .u64 (IntKind.u64.wrap ((numAt s 0 k : Int) * 256)) (IntKind.u64.wrap ((sb s k).toNat : Int)) = ((numAt s 0 (k + 1) : Nat) : Int)) := by
        have h2 : numAt s 0 (k + 1) = numAt s 0 k * 256 + (sb s k).toNat := by rw [numAt, Nat.zero_add]
        rw [h2] at hlt4 ⊢
        exact or_byte _ _ (by omega) ((sb s k).toNat_lt)
      clear hlt4 hle
      go_wp2_with fail
      go_roundw
      case rel => exact ⟨k + 1, by omega, by go_num, by rw [HO.out], trivial⟩
      case measure => simp [intOf]; omega
    · have hke : k = 8 := by omega
      subst hke
      go_wp2_with fail
      go_ret
      exact ⟨rfl, rfl⟩
def czone (s : ByteArray) : Int := if sb s 0 = 255 then 0 else ((sb s 0).toNat : Int)
def coff (s : ByteArray) : Int := if sb s 0 = 255 then 0 else ((sb s 1).toNat : Int)
def ctag (s : ByteArray) : ByteArray := if sb s 0 = 255 then ⟨#[]⟩ else s.extract 2 18
theorem wrapB (x : UInt8) : IntKind.i64.wrap (x.toNat : Int) = x.toNat := by
  have := x.toNat_lt
  simp [IntKind.wrap, IntKind.bits, IntKind.signed]
  omega
def three3 (a b c : Value) (j : Nat) : Value := if j = 0 then a else if j = 1 then b else c
theorem cel3 (w : World) (a b c : Value) (ty : TypeId) : Cel (w.alloc (.cells #[a, b, c] ty)) w.heap.size 3 (three3 a b c) := Cel.new w 3 _ _ _ (fun j hj => by
  match j, hj with
  | 0, _ => rfl
  | 1, _ => rfl
  | 2, _ => rfl) _ rfl
theorem range3 {w : World} {b : Nat} {x y z : Value} (h : Cel w b 3 (three3 x y z)) : w.rangeAt b 0 [x, y, z] := by
  have := h.range 0 3 (by omega)
  exact this
set_option maxHeartbeats 1000000 in
theorem cell_any (s : ByteArray) (w : World) (hs : s.size = 18) : Calls Tryz.prog 142 #[.string s] w fun e w' => e = .returned (.agg #[.int .i64 (czone s), .int .i64 (coff s), .string (ctag s)]) ∧ Since w w' := by
  have h0 : 0 < s.size := by omega
  have h1 : 1 < s.size := by omega
  have hI : (s.size : Int) = 18 := by omega
  have hb := sb_get s 0 h0
  have hb1 := sb_get s 1 h1
  by_cases h : sb s 0 = 255
  · have hu : ((s[0] : UInt8).toNat : Int) = 255 := by rw [hb, h]; rfl
    have hS : Since w (w.alloc (.cells #[.int .i64 0, .int .i64 0, .string ⟨#[]⟩] 89)) := (Since.refl w).alloc _
    unfold czone coff ctag
    rw [if_pos h, if_pos h, if_pos h]
    clear hb hb1
    go_enter Tryz.func142, Tryz.ntmps142
    go_wp2_with fail
    exact bodyPost_ret (results_row Tryz.results142 _ _ _ w.heap.size _ _ (by rfl) (range3 (cel3 w _ _ _ _)) Tryz.underlying89 (by rfl) (by kernel_rfl)) rfl ⟨rfl, hS⟩
  · have hu : ¬ ((sb s 0).toNat : Int) = 255 := by
      intro e
      exact h (UInt8.toNat_inj.1 (by rw [show (255 : UInt8).toNat = 255 from rfl]; omega))
    unfold czone coff ctag
    rw [if_neg h, if_neg h, if_neg h]
    have z1 : (s.extract 2 18).size = 16 := by rw [ByteArray.size_extract]; omega
    have hw0 : IntKind.i64.wrap ((sb s 0).toNat : Int) = (sb s 0).toNat := wrapB _
    have hw1 : IntKind.i64.wrap ((sb s 1).toNat : Int) = (sb s 1).toNat := wrapB _
    have hcl := fun w => clone_any (s.extract 2 18) w (by omega)
    have HC : Hid (∀ w, Calls Tryz.prog 65 #[.string (s.extract 2 18)] w fun e w' => e = .returned (.string (s.extract 2 18)) ∧ Since w w') := hcl
    clear hcl
    go_enter Tryz.func142, Tryz.ntmps142
    go_wp2_with fail
    have hC := (cel3 w (.int .i64 0) (.int .i64 0) (.string ⟨#[]⟩) 89).since (Since.refl _).drew
    have HL : Hid (Cel (w.alloc (.cells #[.int .i64 0, .int .i64 0, .string ⟨#[]⟩] 89)).drew w.heap.size 3 (three3 (.int .i64 0) (.int .i64 0) (.string ⟨#[]⟩))) := hC
    clear hC
    go_region_held3 (fun _ => True) (trivial) (first
      | (go_simp; go_at_call 65; refine (HC.out _).mono ?_; rintro e w1 ⟨rfl, h2⟩; have q0 := (HL.out.since h2).cell 0 (by omega); have q1 := (HL.out.since h2).cell 1 (by omega); have q2 := (HL.out.since h2).cell 2 (by omega); have f0 := (HL.out.since h2).frozen 0 (by omega); have f1 := (HL.out.since h2).frozen 1 (by omega); have f2 := (HL.out.since h2).frozen 2 (by omega); dsimp only))
    all_goals
      have hC3 := (((HL.out.since h2).set 0 (by omega) (.int .i64 ((sb s 0).toNat : Int))).set 1 (by omega) (.int .i64 ((sb s 1).toNat : Int))).set 2 (by omega) (.string (s.extract 2 18))
      have hC4 := hC3.congr (g := three3 (.int .i64 ((sb s 0).toNat : Int)) (.int .i64 ((sb s 1).toNat : Int)) (.string (s.extract 2 18))) (fun j hj => by
        match j, hj with
        | 0, _ => rfl
        | 1, _ => rfl
        | 2, _ => rfl)
      have HC4 : Hid (Cel _ w.heap.size 3 (three3 (.int .i64 ((sb s 0).toNat : Int)) (.int .i64 ((sb s 1).toNat : Int)) (.string (s.extract 2 18)))) := hC4
      have hS3 := ((((((Since.refl w).alloc (.cells #[.int .i64 0, .int .i64 0, .string ⟨#[]⟩] 89)).drew).trans h2).setCell (p := ⟨w.heap.size, 0, none⟩) (Nat.le_refl _) (.int .i64 ((sb s 0).toNat : Int))).setCell (p := ⟨w.heap.size, 1, none⟩) (Nat.le_refl _) (.int .i64 ((sb s 1).toNat : Int))).setCell (p := ⟨w.heap.size, 2, none⟩) (Nat.le_refl _) (.string (s.extract 2 18))
      have HS3 : Hid (Since w _) := hS3
      clear hC3 hC4 hS3 q0 q1 q2 f0 f1 f2 hb hb1 HL h2
      go_wp2_with fail
      exact bodyPost_ret (results_row Tryz.results142 _ _ _ w.heap.size _ _ (by rfl) (range3 HC4.out) Tryz.underlying89 (by rfl) (by kernel_rfl)) rfl ⟨rfl, HS3.out⟩
end Tw
end Go.Proofs.YtifnhnfjelfddaaGreatDoor
end
section
namespace Go.Proofs.YtifnhnfjelfddaaGreatDoor
set_option maxRecDepth 100000
namespace Tw
open Go.RowKit
open Sl (copy_str conv_txt)
attribute [local go_sem ↓] cell_eql
def wby (z o : Int) (t : ByteArray) (j : Nat) : UInt8 := if j = 0 then UInt8.ofNat z.toNat else if j = 1 then UInt8.ofNat o.toNat else sb t (j - 2)
theorem cel18 (w : World) (cs : Array Value) (f : Nat → UInt8) (h : cs = (brow 18 (fun j => bv (f j))).toArray) (b : Nat) (hb : b = w.heap.size) : Cel (w.alloc (.cells cs 209)) b 18 (fun j => bv (f j)) := Cel.new w 18 _ _ _ (fun j hj => by rw [h, List.getElem?_toArray, brow_get _ _ _ hj]) _ hb
set_option maxHeartbeats 1000000 in
theorem written_nul (w : World) : Calls Tryz.prog 98 #[.agg #[.int .i64 0, .int .i64 0, .string ⟨#[]⟩]] w fun e w' => e = .returned (.string (txt 18 (fun j => if j = 0 then 255 else 0))) ∧ Since w w' := by
  have hn : nulB 0 0 ⟨#[]⟩ = true := rfl
  have hC := cel18 (w.alloc (.cells #[.int .i64 0, .int .i64 0, .string ⟨#[]⟩] 89)) #[.int .u8 255, .int .u8 0, .int .u8 0, .int .u8 0, .int .u8 0, .int .u8 0, .int .u8 0, .int .u8 0, .int .u8 0, .int .u8 0, .int .u8 0, .int .u8 0, .int .u8 0, .int .u8 0, .int .u8 0, .int .u8 0, .int .u8 0, .int .u8 0] (fun j => if j = 0 then 255 else 0) (by rfl) (w.heap.size + 1) (by simp)
  have hcv := conv_txt _ (w.heap.size + 1) 0 18 18 (fun j => if j = 0 then 255 else 0) (fun i hi => by rw [Nat.zero_add]; exact hC.cell i hi)
  have HS : Hid (Since w ((w.alloc (.cells #[.int .i64 0, .int .i64 0, .string ⟨#[]⟩] 89)).alloc (.cells #[.int .u8 255, .int .u8 0, .int .u8 0, .int .u8 0, .int .u8 0, .int .u8 0, .int .u8 0, .int .u8 0, .int .u8 0, .int .u8 0, .int .u8 0, .int .u8 0, .int .u8 0, .int .u8 0, .int .u8 0, .int .u8 0, .int .u8 0, .int .u8 0] 209))) := ((Since.refl w).alloc _).alloc _
  clear hC
  generalize hq : txt 18 (fun j => if j = 0 then 255 else 0) = q at *
  have HQ : Hid (txt 18 (fun j => if j = 0 then 255 else 0) = q) := hq
  clear hq
  go_enter Tryz.func98, Tryz.ntmps98
  go_wp2_with fail
  go_ret
  exact ⟨rfl, HS.out⟩
set_option maxHeartbeats 1000000 in
theorem written_may (z o : Nat) (t : ByteArray) (w : World) (hn : nulB z o t = false) (hz : z < 8) (ho : o < 16) (ht : t.size = 16) : Calls Tryz.prog 98 #[.agg #[.int .i64 (z : Int), .int .i64 (o : Int), .string t]] w fun e w' => e = .returned (.string (txt 18 (wby z o t))) ∧ Since w w' := by
  have hwz : IntKind.u8.wrap (z : Int) = z := by simp [IntKind.wrap, IntKind.bits, IntKind.signed]; omega
  have hwo : IntKind.u8.wrap (o : Int) = o := by simp [IntKind.wrap, IntKind.bits, IntKind.signed]; omega
  go_enter Tryz.func98, Tryz.ntmps98
  go_wp2_with fail
  go_region
  have hC := Cel.new (w.alloc (.cells #[.int .i64 (z : Int), .int .i64 (o : Int), .string t] 89)) 18 (fun j => if j = 0 then .int .u8 (z : Int) else if j = 1 then .int .u8 (o : Int) else bv 0) 209 (brow 18 (fun j => if j = 0 then .int .u8 (z : Int) else if j = 1 then .int .u8 (o : Int) else bv 0)).toArray (fun j hj => by rw [List.getElem?_toArray, brow_get _ _ _ hj]) (w.heap.size + 1) (by simp)
  have hC2 := (hC.since (Since.refl _).drew).since (Since.refl _).drew
  have hT := (((cel3 w (.int .i64 (z : Int)) (.int .i64 (o : Int)) (.string t) 89).since ((Since.refl _).alloc (.cells (brow 18 (fun j => if j = 0 then .int .u8 (z : Int) else if j = 1 then .int .u8 (o : Int) else bv 0)).toArray 209))).since (Since.refl _).drew).since (Since.refl _).drew
  have q2 := hT.cell 2 (by omega)
  rw [show three3 (.int .i64 (z : Int)) (.int .i64 (o : Int)) (.string t) 2 = .string t from rfl] at q2
  have hS : Since w ((w.alloc (.cells #[.int .i64 (z : Int), .int .i64 (o : Int), .string t] 89)).alloc (.cells (brow 18 (fun j => if j = 0 then .int .u8 (z : Int) else if j = 1 then .int .u8 (o : Int) else bv 0)).toArray 209)).drew := (((Since.refl w).alloc _).alloc _).drew
  generalize hw2 : ((w.alloc (.cells #[.int .i64 (z : Int), .int .i64 (o : Int), .string t] 89)).alloc (.cells (brow 18 (fun j => if j = 0 then .int .u8 (z : Int) else if j = 1 then .int .u8 (o : Int) else bv 0)).toArray 209)).drew = w2 at *
  refine (congrArg (fun W => Exit.then _ _ Exit.normal _ W) hw2).mpr ?_
  clear hC hT hw2
  have hcp := copy_str _ 3 (w.heap.size + 1) 2 16 16 18 _ t hC2 (by omega)
  rw [show min t.size 16 = 16 by omega] at hcp
  have hC3 := hC2.setRow 2 16 (by omega) (fun i => bv (sb t i))
  have hC4 : Cel (w2.drew.setCells (w.heap.size + 1) 2 (brow 16 (fun i => bv (sb t i)))) (w.heap.size + 1) 18 (fun j => bv (wby z o t j)) := by
    refine hC3.congr (fun j hj => ?_)
    unfold updl wby
    by_cases e : j = 0
    · subst e
      rw [if_neg (by omega)]
      simp only [if_true, bv, UInt8.toNat_ofNat', Int.toNat_natCast]
      congr 1
      omega
    · by_cases e1 : j = 1
      · subst e1
        rw [if_neg (by omega)]
        simp only [if_true, if_false, Nat.one_ne_zero, bv, UInt8.toNat_ofNat', Int.toNat_natCast]
        congr 1
        omega
      · rw [if_pos (by omega), if_neg e, if_neg e1]
  have hS4 : Since w (w2.drew.setCells (w.heap.size + 1) 2 (brow 16 (fun i => bv (sb t i)))) := hS.drew.setCells (by omega) _ _
  have HC4 : Hid (Cel (w2.drew.setCells (w.heap.size + 1) 2 (brow 16 (fun i => bv (sb t i)))) (w.heap.size + 1) 18 (fun j => bv (wby z o t j))) := hC4
  have HS4 : Hid (Since w (w2.drew.setCells (w.heap.size + 1) 2 (brow 16 (fun i => bv (sb t i))))) := hS4
  clear hC2 hC3 hC4 hS hS4 hwz hwo hn
  go_wp2_with fail
  go_region
  clear hcp q2
  generalize w2.drew.setCells (w.heap.size + 1) 2 (brow 16 (fun i => bv (sb t i))) = w3 at *
  have hcv := conv_txt w3 (w.heap.size + 1) 0 18 18 (wby z o t) (fun i hi => by rw [Nat.zero_add]; exact HC4.out.cell i hi)
  generalize hq : txt 18 (wby z o t) = q at *
  have HQ : Hid (txt 18 (wby z o t) = q) := hq
  clear hq
  go_wp2_with fail
  go_ret
  exact ⟨by rw [HQ.out]; rfl, HS4.out⟩
theorem wby_list (z o : Nat) (t : ByteArray) (ht : t.size = 16) : txt 18 (wby z o t) = ⟨(UInt8.ofNat z :: UInt8.ofNat o :: t.data.toList).toArray⟩ := by
  have hsz : t.data.size = 16 := ht
  apply ByteArray.ext
  apply Array.ext_getElem?
  intro i
  have e1 : (txt 18 (wby z o t)).data[i]? = ((List.range 18).map (wby z o t))[i]? := by unfold txt; exact List.getElem?_toArray ..
  rw [e1, List.getElem?_map, List.getElem?_toArray]
  match i with
  | 0 => simp [wby]
  | 1 => simp [wby]
  | i + 2 =>
    rw [List.getElem?_cons_succ, List.getElem?_cons_succ, show t.data.toList[i]? = t.data[i]? from Array.getElem?_toList]
    by_cases h : i < 16
    · rw [List.getElem?_range (by omega), Array.getElem?_eq_getElem (by omega)]
      simp only [Option.map_some, wby]
      rw [if_neg (by omega), if_neg (by omega), show i + 2 - 2 = i by omega]
      unfold sb
      rw [Array.getElem?_eq_getElem (by omega)]
      rfl
    · rw [List.getElem?_eq_none (by simp; omega), Array.getElem?_eq_none (by omega)]
      rfl
theorem written_any (T : Tb) (i : Nat) (w : World) (h : nul T i ∨ may T i) : Calls Tryz.prog 98 #[.agg #[.int .i64 (T.zone i), .int .i64 (T.off i), .string (T.tag i)]] w fun e w' => e = .returned (.string ⟨(cellL T i).toArray⟩) ∧ Since w w' := by
  by_cases hn : nul T i
  · have hl : cellL T i = 255 :: List.replicate 17 0 := by unfold cellL; rw [if_pos hn]
    rw [hl]
    obtain ⟨h1, h2, h3⟩ := hn
    rw [h1, h2, h3]
    exact written_nul w
  · have hm : may T i := h.resolve_left hn
    have hl : cellL T i = UInt8.ofNat (T.zone i).toNat :: UInt8.ofNat (T.off i).toNat :: (T.tag i).data.toList := by unfold cellL; rw [if_neg hn]
    rw [hl]
    have hnb := nulB_false hn
    obtain ⟨m1, m2, m3, m4, m5⟩ := hm
    obtain ⟨z, hz⟩ : ∃ z : Nat, T.zone i = z := ⟨(T.zone i).toNat, by omega⟩
    obtain ⟨o, ho⟩ : ∃ o : Nat, T.off i = o := ⟨(T.off i).toNat, by omega⟩
    rw [hz, ho] at hnb ⊢
    have := written_may z o (T.tag i) w hnb (by omega) (by omega) m1
    rw [wby_list z o (T.tag i) m1] at this
    exact this
end Tw
end Go.Proofs.YtifnhnfjelfddaaGreatDoor
end
