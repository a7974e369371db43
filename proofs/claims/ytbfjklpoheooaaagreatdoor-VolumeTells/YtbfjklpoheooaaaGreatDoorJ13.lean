import Derived.Deep.RegionHeld3
import Derived.Deep.QuietTactic
import Derived.BigQuiet
import Derived.BigRegion
import Derived.Deep.RegionWith
import Derived.Laws.Bits64b
import Derived.Test.YtbfjklpoheooaaaGreatDoorJ02
import Derived.Test.YtbfjklpoheooaaaGreatDoorJ04
import Derived.Test.YtbfjklpoheooaaaGreatDoorJ12
set_option linter.unusedSimpArgs false
set_option linter.unusedVariables false
section
namespace Go.Proofs.YtbfjklpoheooaaaGreatDoor
set_option maxRecDepth 100000
namespace Tw
open Go.RowKit
open Sl (copy_str conv_txt)
def nulB (z o : Int) (t : ByteArray) : Bool := decide (z = 0 ∧ o = 0 ∧ t = ⟨#[]⟩)
def mayB (z o : Int) (t : ByteArray) : Bool := decide (t.size = 16 ∧ 0 ≤ z ∧ z < 8 ∧ 0 ≤ o ∧ o < 16)
theorem cell_eql (w : World) (z o : Int) (t : ByteArray) : (binOp .eql 89 (.agg #[.int .i64 z, .int .i64 o, .string t]) (.agg #[.int .i64 0, .int .i64 0, .string ⟨#[]⟩])).run Tryz.prog w = .ok (.bool (nulB z o t)) w := by
  have h1 : t.toList = [] ↔ t = ⟨#[]⟩ := by
    rw [ByteArray.toList_eq]
    exact ⟨fun e => ByteArray.ext (Array.toList_inj.1 e), fun e => by rw [e]⟩
  unfold nulB
  go_simp
  by_cases a : z = 0 <;> by_cases b : o = 0 <;> by_cases c : t = ⟨#[]⟩ <;> simp [a, b, c, h1]
attribute [local go_sem ↓] cell_eql
theorem may_any (z o : Int) (t : ByteArray) (w : World) : Calls Tryz.prog 165 #[.agg #[.int .i64 z, .int .i64 o, .string t]] w fun e w' => e = .returned (.bool (mayB z o t)) ∧ Since w w' := by
  have hS : Since w (w.alloc (.cells #[.int .i64 z, .int .i64 o, .string t] 89)) := (Since.refl w).alloc _
  have HS : Hid (Since w (w.alloc (.cells #[.int .i64 z, .int .i64 o, .string t] 89))) := hS
  clear hS
  by_cases h1 : t.size = 16
  · have e1 : (t.size : Int) = 16 := by omega
    by_cases h2 : 0 ≤ z
    · by_cases h3 : z < 8
      · by_cases h4 : 0 ≤ o
        · by_cases h5 : o < 16
          · have hb : mayB z o t = true := by unfold mayB; simp; omega
            rw [hb]
            go_enter Tryz.func165, Tryz.ntmps165
            go_wp2_with fail
            go_ret
            exact ⟨rfl, HS.out⟩
          · have hb : mayB z o t = false := by unfold mayB; simp; omega
            rw [hb]
            go_enter Tryz.func165, Tryz.ntmps165
            go_wp2_with fail
            go_ret
            exact ⟨rfl, HS.out⟩
        · have hb : mayB z o t = false := by unfold mayB; simp; omega
          rw [hb]
          go_enter Tryz.func165, Tryz.ntmps165
          go_wp2_with fail
          go_ret
          exact ⟨rfl, HS.out⟩
      · have hb : mayB z o t = false := by unfold mayB; simp; omega
        rw [hb]
        go_enter Tryz.func165, Tryz.ntmps165
        go_wp2_with fail
        go_ret
        exact ⟨rfl, HS.out⟩
    · have hb : mayB z o t = false := by unfold mayB; simp; omega
      rw [hb]
      go_enter Tryz.func165, Tryz.ntmps165
      go_wp2_with fail
      go_ret
      exact ⟨rfl, HS.out⟩
  · have e1 : ¬ (t.size : Int) = 16 := by omega
    have hb : mayB z o t = false := by unfold mayB; simp; omega
    rw [hb]
    go_enter Tryz.func165, Tryz.ntmps165
    go_wp2_with fail
    go_ret
    exact ⟨rfl, HS.out⟩
theorem nulB_true {T : Tb} {i : Nat} (h : nul T i) : nulB (T.zone i) (T.off i) (T.tag i) = true := decide_eq_true h
theorem nulB_false {T : Tb} {i : Nat} (h : ¬ nul T i) : nulB (T.zone i) (T.off i) (T.tag i) = false := decide_eq_false h
theorem mayB_true {T : Tb} {i : Nat} (h : may T i) : mayB (T.zone i) (T.off i) (T.tag i) = true := decide_eq_true h
theorem mayB_false {T : Tb} {i : Nat} (h : ¬ may T i) : mayB (T.zone i) (T.off i) (T.tag i) = false := decide_eq_false h
theorem zeros_text (s : ByteArray) (w : World) (hs : s.size ≤ 100000) : Calls Tryz.prog 153 #[.string s] w fun e w' => e = .returned (.bool (decide (∀ j, j < s.size → sb s j = 0))) ∧ w' = w := by
  go_enter Tryz.func153, Tryz.ntmps153
  go_wp2_with fail
  go_loopw [6, 3] (fun i _ wr => ∃ k : Nat, k ≤ s.size ∧ i = .int .i64 k ∧ wr = w ∧ ∀ j, j < k → sb s j = 0) (fun i _ _ => s.size - (intOf i).toNat)
  case atStart => exact ⟨0, by omega, rfl, rfl, fun j hj => by omega⟩
  case round =>
    obtain ⟨k, hk, rfl, rfl, h0⟩ := hrel
    have H0 : Hid (∀ j, j < k → sb s j = 0) := h0
    clear h0
    by_cases hlt : k < s.size
    · have hlt2 : (k : Int) < s.size := by omega
      have hb : s[k] = sb s k := by
        have hsz : s.data.size = s.size := rfl
        unfold sb
        rw [Array.getElem?_eq_getElem (by omega)]
        rfl
      by_cases hz : sb s k = 0
      · have hu : ((s[k] : UInt8).toNat : Int) = 0 := by rw [hb, hz]; rfl
        have HZ : Hid (sb s k = 0) := hz
        clear hb hz
        go_wp2_with fail
        go_roundw
        case rel => exact ⟨k + 1, by omega, by go_num, trivial, fun j hj => by
          by_cases e : j = k
          · subst e; exact HZ.out
          · exact H0.out j (by omega)⟩
        case measure => simp [intOf]; omega
      · have hu : ¬ ((s[k] : UInt8).toNat : Int) = 0 := by
          rw [hb]
          intro e
          exact hz (UInt8.toNat_inj.1 (by rw [show (0 : UInt8).toNat = 0 from rfl]; omega))
        have HD : Hid (decide (∀ j, j < s.size → sb s j = 0) = false) := decide_eq_false (fun h => hz (h k hlt))
        clear hb hz
        go_wp2_with fail
        go_ret
        exact ⟨by rw [HD.out]; rfl, rfl⟩
    · have hke : k = s.size := by omega
      have HD : Hid (decide (∀ j, j < s.size → sb s j = 0) = true) := decide_eq_true (fun j hj => H0.out j (by omega))
      subst hke
      go_wp2_with fail
      go_ret
      exact ⟨by rw [HD.out]; rfl, rfl⟩
theorem sb_get (s : ByteArray) (k : Nat) (h : k < s.size) : s[k] = sb s k := by
  have hsz : s.data.size = s.size := rfl
  unfold sb
  rw [Array.getElem?_eq_getElem (by omega)]
  rfl
theorem or_byte (n b : Nat) (hn : n * 256 + b < 18446744073709551616) (hb : b < 256) : bits .or .u64 (IntKind.u64.wrap ((n : Int) * 256)) (IntKind.u64.wrap (b : Int)) = ((n * 256 + b : Nat) : Int) := by
  have w1 : ∀ x : Int, IntKind.u64.wrap x = x % 18446744073709551616 := fun x => by simp [IntKind.wrap, IntKind.bits, IntKind.signed]
  rw [w1, w1, Int.emod_eq_of_lt (by omega) (by omega), Int.emod_eq_of_lt (by omega) (by omega)]
  have e : (n : Int) * 256 = ((n * 256 : Nat) : Int) := by omega
  rw [e, u64_or_nat (n * 256) b (by omega) (by omega)]
  have := Nat.two_pow_add_eq_or_of_lt (i := 8) (b := b) (by omega) n
  congr 1
  rw [show (2 : Nat) ^ 8 = 256 from rfl, Nat.mul_comm] at this
  exact this.symm
theorem number_any (s : ByteArray) (w : World) (hs : s.size = 8) : Calls Tryz.prog 174 #[.string s] w fun e w' => e = .returned (.int .i64 (wrap64 (numAt s 0 8 : Int))) ∧ w' = w := by
  go_enter Tryz.func174, Tryz.ntmps174
  go_wp2_with fail
  go_loopw [5, 3] (fun i n wr => ∃ k : Nat, k ≤ 8 ∧ i = .int .i64 k ∧ n = .int .u64 (numAt s 0 k : Int) ∧ wr = w) (fun i _ _ => 8 - (intOf i).toNat)
  case atStart => exact ⟨0, by omega, rfl, rfl, rfl⟩
  case round =>
    obtain ⟨k, hk, rfl, rfl, rfl⟩ := hrel
    by_cases hlt : k < 8
    · have hlt2 : (k : Int) < 8 := by omega
      have hlt3 : k < s.size := by omega
      have hb : s[k] = sb s k := sb_get s k hlt3
      have hlt4 := numAt_lt s 0 (k + 1)
      have hle : 256 ^ (k + 1) ≤ 256 ^ 8 := Nat.pow_le_pow_right (by omega) (by omega)
      have HO : Hid (bits .or .u64 (IntKind.u64.wrap ((numAt s 0 k : Int) * 256)) (IntKind.u64.wrap ((sb s k).toNat : Int)) = ((numAt s 0 (k + 1) : Nat) : Int)) := by
        have h2 : numAt s 0 (k + 1) = numAt s 0 k * 256 + (sb s k).toNat := by rw [numAt, Nat.zero_add]
        rw [h2] at hlt4 ⊢
        exact or_byte _ _ (by omega) ((sb s k).toNat_lt)
      clear hlt4 hle
      go_wp2_with fail
      go_roundw
      case rel => exact ⟨k + 1, by omega, by go_num, by rw [HO.out], trivial⟩
      case measure => simp [intOf]; omega
    · have hke : k = 8 := by omega
      subst hke
      go_wp2_with fail
      go_ret
      exact ⟨rfl, rfl⟩
def czone (s : ByteArray) : Int := if sb s 0 = 255 then 0 else ((sb s 0).toNat : Int)
def coff (s : ByteArray) : Int := if sb s 0 = 255 then 0 else ((sb s 1).toNat : Int)
def ctag (s : ByteArray) : ByteArray := if sb s 0 = 255 then ⟨#[]⟩ else s.extract 2 18
theorem wrapB (x : UInt8) : IntKind.i64.wrap (x.toNat : Int) = x.toNat := by
  have := x.toNat_lt
  simp [IntKind.wrap, IntKind.bits, IntKind.signed]
  omega
def three3 (a b c : Value) (j : Nat) : Value := if j = 0 then a else if j = 1 then b else c
theorem cel3 (w : World) (a b c : Value) (ty : TypeId) : Cel (w.alloc (.cells #[a, b, c] ty)) w.heap.size 3 (three3 a b c) := Cel.new w 3 _ _ _ (fun j hj => by
  match j, hj with
  | 0, _ => rfl
  | 1, _ => rfl
  | 2, _ => rfl) _ rfl
theorem range3 {w : World} {b : Nat} {x y z : Value} (h : Cel w b 3 (three3 x y z)) : w.rangeAt b 0 [x, y, z] := by
  have := h.range 0 3 (by omega)
  exact this
set_option maxHeartbeats 1000000 in
theorem cell_any (s : ByteArray) (w : World) (hs : s.size = 18) : Calls Tryz.prog 175 #[.string s] w fun e w' => e = .returned (.agg #[.int .i64 (czone s), .int .i64 (coff s), .string (ctag s)]) ∧ Since w w' := by
  have h0 : 0 < s.size := by omega
  have h1 : 1 < s.size := by omega
  have hI : (s.size : Int) = 18 := by omega
  have hb := sb_get s 0 h0
  have hb1 := sb_get s 1 h1
  by_cases h : sb s 0 = 255
  · have hu : ((s[0] : UInt8).toNat : Int) = 255 := by rw [hb, h]; rfl
    have hS : Since w (w.alloc (.cells #[.int .i64 0, .int .i64 0, .string ⟨#[]⟩] 89)) := (Since.refl w).alloc _
    unfold czone coff ctag
    rw [if_pos h, if_pos h, if_pos h]
    clear hb hb1
    go_enter Tryz.func175, Tryz.ntmps175
    go_wp2_with fail
    exact bodyPost_ret (results_row Tryz.results175 _ _ _ w.heap.size _ _ (by rfl) (range3 (cel3 w _ _ _ _)) Tryz.underlying89 (by rfl) (by kernel_rfl)) rfl ⟨rfl, hS⟩
  · have hu : ¬ ((sb s 0).toNat : Int) = 255 := by
      intro e
      exact h (UInt8.toNat_inj.1 (by rw [show (255 : UInt8).toNat = 255 from rfl]; omega))
    unfold czone coff ctag
    rw [if_neg h, if_neg h, if_neg h]
    have z1 : (s.extract 2 18).size = 16 := by rw [ByteArray.size_extract]; omega
    have hw0 : IntKind.i64.wrap ((sb s 0).toNat : Int) = (sb s 0).toNat := wrapB _
    have hw1 : IntKind.i64.wrap ((sb s 1).toNat : Int) = (sb s 1).toNat := wrapB _
    have hcl := fun w => clone_any (s.extract 2 18) w (by omega)
    have HC : Hid (∀ w, Calls Tryz.prog 79 #[.string (s.extract 2 18)] w fun e w' => e = .returned (.string (s.extract 2 18)) ∧ Since w w') := hcl
    clear hcl
    go_enter Tryz.func175, Tryz.ntmps175
    go_wp2_with fail
    have hC := (cel3 w (.int .i64 0) (.int .i64 0) (.string ⟨#[]⟩) 89).since (Since.refl _).drew
    have HL : Hid (Cel (w.alloc (.cells #[.int .i64 0, .int .i64 0, .string ⟨#[]⟩] 89)).drew w.heap.size 3 (three3 (.int .i64 0) (.int .i64 0) (.string ⟨#[]⟩))) := hC
    clear hC
    go_region_held3 (fun _ => True) (trivial) (first
      | (go_simp; go_at_call 79; refine (HC.out _).mono ?_; rintro e w1 ⟨rfl, h2⟩; have q0 := (HL.out.since h2).cell 0 (by omega); have q1 := (HL.out.since h2).cell 1 (by omega); have q2 := (HL.out.since h2).cell 2 (by omega); have f0 := (HL.out.since h2).frozen 0 (by omega); have f1 := (HL.out.since h2).frozen 1 (by omega); have f2 := (HL.out.since h2).frozen 2 (by omega); dsimp only))
    all_goals
      have hC3 := (((HL.out.since h2).set 0 (by omega) (.int .i64 ((sb s 0).toNat : Int))).set 1 (by omega) (.int .i64 ((sb s 1).toNat : Int))).set 2 (by omega) (.string (s.extract 2 18))
      have hC4 := hC3.congr (g := three3 (.int .i64 ((sb s 0).toNat : Int)) (.int .i64 ((sb s 1).toNat : Int)) (.string (s.extract 2 18))) (fun j hj => by
        match j, hj with
        | 0, _ => rfl
        | 1, _ => rfl
        | 2, _ => rfl)
      have HC4 : Hid (Cel _ w.heap.size 3 (three3 (.int .i64 ((sb s 0).toNat : Int)) (.int .i64 ((sb s 1).toNat : Int)) (.string (s.extract 2 18)))) := hC4
      have hS3 := ((((((Since.refl w).alloc (.cells #[.int .i64 0, .int .i64 0, .string ⟨#[]⟩] 89)).drew).trans h2).setCell (p := ⟨w.heap.size, 0, none⟩) (Nat.le_refl _) (.int .i64 ((sb s 0).toNat : Int))).setCell (p := ⟨w.heap.size, 1, none⟩) (Nat.le_refl _) (.int .i64 ((sb s 1).toNat : Int))).setCell (p := ⟨w.heap.size, 2, none⟩) (Nat.le_refl _) (.string (s.extract 2 18))
      have HS3 : Hid (Since w _) := hS3
      clear hC3 hC4 hS3 q0 q1 q2 f0 f1 f2 hb hb1 HL h2
      go_wp2_with fail
      exact bodyPost_ret (results_row Tryz.results175 _ _ _ w.heap.size _ _ (by rfl) (range3 HC4.out) Tryz.underlying89 (by rfl) (by kernel_rfl)) rfl ⟨rfl, HS3.out⟩
end Tw
end Go.Proofs.YtbfjklpoheooaaaGreatDoor
end
section
namespace Go.Proofs.YtbfjklpoheooaaaGreatDoor
set_option maxRecDepth 100000
namespace Tw
open Go.RowKit
open Sl (copy_str conv_txt)
attribute [local go_sem ↓] cell_eql
def wby (z o : Int) (t : ByteArray) (j : Nat) : UInt8 := if j = 0 then UInt8.ofNat z.toNat else if j = 1 then UInt8.ofNat o.toNat else sb t (j - 2)
theorem cel18 (w : World) (cs : Array Value) (f : Nat → UInt8) (h : cs = (brow 18 (fun j => bv (f j))).toArray) (b : Nat) (hb : b = w.heap.size) : Cel (w.alloc (.cells cs 251)) b 18 (fun j => bv (f j)) := Cel.new w 18 _ _ _ (fun j hj => by rw [h, List.getElem?_toArray, brow_get _ _ _ hj]) _ hb
set_option maxHeartbeats 1000000 in
theorem written_nul (w : World) : Calls Tryz.prog 139 #[.agg #[.int .i64 0, .int .i64 0, .string ⟨#[]⟩]] w fun e w' => e = .returned (.string (txt 18 (fun j => if j = 0 then 255 else 0))) ∧ Since w w' := by
  have hn : nulB 0 0 ⟨#[]⟩ = true := rfl
  have hC := cel18 (w.alloc (.cells #[.int .i64 0, .int .i64 0, .string ⟨#[]⟩] 89)) #[.int .u8 255, .int .u8 0, .int .u8 0, .int .u8 0, .int .u8 0, .int .u8 0, .int .u8 0, .int .u8 0, .int .u8 0, .int .u8 0, .int .u8 0, .int .u8 0, .int .u8 0, .int .u8 0, .int .u8 0, .int .u8 0, .int .u8 0, .int .u8 0] (fun j => if j = 0 then 255 else 0) (by rfl) (w.heap.size + 1) (by simp)
  have hcv := conv_txt _ (w.heap.size + 1) 0 18 18 (fun j => if j = 0 then 255 else 0) (fun i hi => by rw [Nat.zero_add]; exact hC.cell i hi)
  have HS : Hid (Since w ((w.alloc (.cells #[.int .i64 0, .int .i64 0, .string ⟨#[]⟩] 89)).alloc (.cells #[.int .u8 255, .int .u8 0, .int .u8 0, .int .u8 0, .int .u8 0, .int .u8 0, .int .u8 0, .int .u8 0, .int .u8 0, .int .u8 0, .int .u8 0, .int .u8 0, .int .u8 0, .int .u8 0, .int .u8 0, .int .u8 0, .int .u8 0, .int .u8 0] 251))) := ((Since.refl w).alloc _).alloc _
  clear hC
  generalize hq : txt 18 (fun j => if j = 0 then 255 else 0) = q at *
  have HQ : Hid (txt 18 (fun j => if j = 0 then 255 else 0) = q) := hq
  clear hq
  go_enter Tryz.func139, Tryz.ntmps139
  go_wp2_with fail
  go_ret
  exact ⟨rfl, HS.out⟩
set_option maxHeartbeats 1000000 in
theorem written_may (z o : Nat) (t : ByteArray) (w : World) (hn : nulB z o t = false) (hz : z < 8) (ho : o < 16) (ht : t.size = 16) : Calls Tryz.prog 139 #[.agg #[.int .i64 (z : Int), .int .i64 (o : Int), .string t]] w fun e w' => e = .returned (.string (txt 18 (wby z o t))) ∧ Since w w' := by
  have hwz : IntKind.u8.wrap (z : Int) = z := by simp [IntKind.wrap, IntKind.bits, IntKind.signed]; omega
  have hwo : IntKind.u8.wrap (o : Int) = o := by simp [IntKind.wrap, IntKind.bits, IntKind.signed]; omega
  go_enter Tryz.func139, Tryz.ntmps139
  go_wp2_with fail
  go_region
  have hC := Cel.new (w.alloc (.cells #[.int .i64 (z : Int), .int .i64 (o : Int), .string t] 89)) 18 (fun j => if j = 0 then .int .u8 (z : Int) else if j = 1 then .int .u8 (o : Int) else bv 0) 251 (brow 18 (fun j => if j = 0 then .int .u8 (z : Int) else if j = 1 then .int .u8 (o : Int) else bv 0)).toArray (fun j hj => by rw [List.getElem?_toArray, brow_get _ _ _ hj]) (w.heap.size + 1) (by simp)
  have hC2 := (hC.since (Since.refl _).drew).since (Since.refl _).drew
  have hT := (((cel3 w (.int .i64 (z : Int)) (.int .i64 (o : Int)) (.string t) 89).since ((Since.refl _).alloc (.cells (brow 18 (fun j => if j = 0 then .int .u8 (z : Int) else if j = 1 then .int .u8 (o : Int) else bv 0)).toArray 251))).since (Since.refl _).drew).since (Since.refl _).drew
  have q2 := hT.cell 2 (by omega)
  rw [show three3 (.int .i64 (z : Int)) (.int .i64 (o : Int)) (.string t) 2 = .string t from rfl] at q2
  have hS : Since w ((w.alloc (.cells #[.int .i64 (z : Int), .int .i64 (o : Int), .string t] 89)).alloc (.cells (brow 18 (fun j => if j = 0 then .int .u8 (z : Int) else if j = 1 then .int .u8 (o : Int) else bv 0)).toArray 251)).drew := (((Since.refl w).alloc _).alloc _).drew
  generalize hw2 : ((w.alloc (.cells #[.int .i64 (z : Int), .int .i64 (o : Int), .string t] 89)).alloc (.cells (brow 18 (fun j => if j = 0 then .int .u8 (z : Int) else if j = 1 then .int .u8 (o : Int) else bv 0)).toArray 251)).drew = w2 at *
  refine (congrArg (fun W => Exit.then _ _ Exit.normal _ W) hw2).mpr ?_
  clear hC hT hw2
  have hcp := copy_str _ 3 (w.heap.size + 1) 2 16 16 18 _ t hC2 (by omega)
  rw [show min t.size 16 = 16 by omega] at hcp
  have hC3 := hC2.setRow 2 16 (by omega) (fun i => bv (sb t i))
  have hC4 : Cel (w2.drew.setCells (w.heap.size + 1) 2 (brow 16 (fun i => bv (sb t i)))) (w.heap.size + 1) 18 (fun j => bv (wby z o t j)) := by
    refine hC3.congr (fun j hj => ?_)
    unfold updl wby
    by_cases e : j = 0
    · subst e
      rw [if_neg (by omega)]
      simp only [if_true, bv, UInt8.toNat_ofNat', Int.toNat_natCast]
      congr 1
      omega
    · by_cases e1 : j = 1
      · subst e1
        rw [if_neg (by omega)]
        simp only [if_true, if_false, Nat.one_ne_zero, bv, UInt8.toNat_ofNat', Int.toNat_natCast]
        congr 1
        omega
      · rw [if_pos (by omega), if_neg e, if_neg e1]
  have hS4 : Since w (w2.drew.setCells (w.heap.size + 1) 2 (brow 16 (fun i => bv (sb t i)))) := hS.drew.setCells (by omega) _ _
  have HC4 : Hid (Cel (w2.drew.setCells (w.heap.size + 1) 2 (brow 16 (fun i => bv (sb t i)))) (w.heap.size + 1) 18 (fun j => bv (wby z o t j))) := hC4
  have HS4 : Hid (Since w (w2.drew.setCells (w.heap.size + 1) 2 (brow 16 (fun i => bv (sb t i))))) := hS4
  clear hC2 hC3 hC4 hS hS4 hwz hwo hn
  go_wp2_with fail
  go_region
  clear hcp q2
  generalize w2.drew.setCells (w.heap.size + 1) 2 (brow 16 (fun i => bv (sb t i))) = w3 at *
  have hcv := conv_txt w3 (w.heap.size + 1) 0 18 18 (wby z o t) (fun i hi => by rw [Nat.zero_add]; exact HC4.out.cell i hi)
  generalize hq : txt 18 (wby z o t) = q at *
  have HQ : Hid (txt 18 (wby z o t) = q) := hq
  clear hq
  go_wp2_with fail
  go_ret
  exact ⟨by rw [HQ.out]; rfl, HS4.out⟩
theorem wby_list (z o : Nat) (t : ByteArray) (ht : t.size = 16) : txt 18 (wby z o t) = ⟨(UInt8.ofNat z :: UInt8.ofNat o :: t.data.toList).toArray⟩ := by
  have hsz : t.data.size = 16 := ht
  apply ByteArray.ext
  apply Array.ext_getElem?
  intro i
  have e1 : (txt 18 (wby z o t)).data[i]? = ((List.range 18).map (wby z o t))[i]? := by unfold txt; exact List.getElem?_toArray ..
  rw [e1, List.getElem?_map, List.getElem?_toArray]
  match i with
  | 0 => simp [wby]
  | 1 => simp [wby]
  | i + 2 =>
    rw [List.getElem?_cons_succ, List.getElem?_cons_succ, show t.data.toList[i]? = t.data[i]? from Array.getElem?_toList]
    by_cases h : i < 16
    · rw [List.getElem?_range (by omega), Array.getElem?_eq_getElem (by omega)]
      simp only [Option.map_some, wby]
      rw [if_neg (by omega), if_neg (by omega), show i + 2 - 2 = i by omega]
      unfold sb
      rw [Array.getElem?_eq_getElem (by omega)]
      rfl
    · rw [List.getElem?_eq_none (by simp; omega), Array.getElem?_eq_none (by omega)]
      rfl
theorem written_any (T : Tb) (i : Nat) (w : World) (h : nul T i ∨ may T i) : Calls Tryz.prog 139 #[.agg #[.int .i64 (T.zone i), .int .i64 (T.off i), .string (T.tag i)]] w fun e w' => e = .returned (.string ⟨(cellL T i).toArray⟩) ∧ Since w w' := by
  by_cases hn : nul T i
  · have hl : cellL T i = 255 :: List.replicate 17 0 := by unfold cellL; rw [if_pos hn]
    rw [hl]
    obtain ⟨h1, h2, h3⟩ := hn
    rw [h1, h2, h3]
    exact written_nul w
  · have hm : may T i := h.resolve_left hn
    have hl : cellL T i = UInt8.ofNat (T.zone i).toNat :: UInt8.ofNat (T.off i).toNat :: (T.tag i).data.toList := by unfold cellL; rw [if_neg hn]
    rw [hl]
    have hnb := nulB_false hn
    obtain ⟨m1, m2, m3, m4, m5⟩ := hm
    obtain ⟨z, hz⟩ : ∃ z : Nat, T.zone i = z := ⟨(T.zone i).toNat, by omega⟩
    obtain ⟨o, ho⟩ : ∃ o : Nat, T.off i = o := ⟨(T.off i).toNat, by omega⟩
    rw [hz, ho] at hnb ⊢
    have := written_may z o (T.tag i) w hnb (by omega) (by omega) m1
    rw [wby_list z o (T.tag i) m1] at this
    exact this
end Tw
end Go.Proofs.YtbfjklpoheooaaaGreatDoor
end
section
namespace Go.Proofs.YtbfjklpoheooaaaGreatDoor
set_option maxRecDepth 100000
namespace Tw
open Go.RowKit
attribute [local go_sem ↓] cell_eql
def hitN (T : Tb) (k : Nat) (z o : Int) : Bool := (List.range k).any fun i => !nulB (T.zone i) (T.off i) (T.tag i) && decide (T.zone i = z) && decide (T.off i = o)
theorem hitN_iff (T : Tb) (k : Nat) (z o : Int) : hitN T k z o = true ↔ hit T k z o := by
  unfold hitN hit
  rw [List.any_eq_true]
  constructor
  · rintro ⟨i, hi, h⟩
    simp only [Bool.and_eq_true, Bool.not_eq_true', decide_eq_true_eq] at h
    exact ⟨i, List.mem_range.1 hi, fun hn => by rw [nulB_true hn] at h; exact Bool.noConfusion h.1.1, h.1.2, h.2⟩
  · rintro ⟨i, hi, hn, h1, h2⟩
    exact ⟨i, List.mem_range.2 hi, by rw [nulB_false hn, decide_eq_true h1, decide_eq_true h2]; rfl⟩
def rtB (T : Tb) : Bool := decide (1 ≤ T.count ∧ T.count ≤ 1099511627776) && (List.range 24).all fun i => nulB (T.zone i) (T.off i) (T.tag i) || (mayB (T.zone i) (T.off i) (T.tag i) && !hitN T i (T.zone i) (T.off i))
theorem rtB_iff (T : Tb) : rtB T = true ↔ Rt T := by
  unfold rtB Rt fine
  rw [Bool.and_eq_true, decide_eq_true_eq, List.all_eq_true]
  refine and_congr Iff.rfl ⟨fun h i hi => ?_, fun h i hi => ?_⟩
  · have := h i (List.mem_range.2 hi)
    rw [Bool.or_eq_true, Bool.and_eq_true, Bool.not_eq_true'] at this
    rcases this with h1 | ⟨h1, h2⟩
    · exact Or.inl (of_decide_eq_true h1)
    · exact Or.inr ⟨of_decide_eq_true h1, fun hh => by rw [(hitN_iff _ _ _ _).2 hh] at h2; exact Bool.noConfusion h2⟩
  · rw [Bool.or_eq_true, Bool.and_eq_true, Bool.not_eq_true']
    rcases h i (List.mem_range.1 hi) with h1 | ⟨h1, h2⟩
    · exact Or.inl (nulB_true h1)
    · exact Or.inr ⟨mayB_true h1, by
        cases hq : hitN T i (T.zone i) (T.off i) with
        | false => rfl
        | true => exact absurd ((hitN_iff _ _ _ _).1 hq) h2⟩
theorem rtB_true {T : Tb} (h : Rt T) : rtB T = true := (rtB_iff T).2 h
theorem rtB_false {T : Tb} (h : ¬ Rt T) : rtB T = false := by
  cases hq : rtB T with
  | false => rfl
  | true => exact absurd ((rtB_iff T).1 hq) h
def hitB (T : Tb) (k j : Nat) : Bool := hitN T k ((j / 16 : Nat) : Int) ((j % 16 : Nat) : Int)
theorem hitB_iff (T : Tb) (k j : Nat) : hitB T k j = true ↔ hit T k ((j / 16 : Nat) : Int) ((j % 16 : Nat) : Int) := hitN_iff _ _ _ _
theorem bool_iff {x y : Bool} (h : x = true ↔ y = true) : x = y := by
  cases x <;> cases y <;> simp_all
theorem hitB_zero (T : Tb) (j : Nat) : hitB T 0 j = false := by
  cases hq : hitB T 0 j with
  | false => rfl
  | true => exact absurd ((hitB_iff _ _ _).1 hq) (hit_zero _ _ _)
theorem hitB_nul {T : Tb} {k : Nat} (hn : nul T k) (j : Nat) : hitB T (k + 1) j = hitB T k j :=
  bool_iff (by rw [hitB_iff, hitB_iff]; exact hit_nul hn _ _)
theorem hitB_at (T : Tb) (k z o : Nat) (ho : o < 16) : hitB T k (z * 16 + o) = true ↔ hit T k (z : Int) (o : Int) := by
  rw [hitB_iff, show (z * 16 + o) / 16 = z by omega, show (z * 16 + o) % 16 = o by omega]
theorem hitB_set {T : Tb} {k : Nat} (hn : ¬ nul T k) (z o : Nat) (hz : T.zone k = z) (ho : T.off k = o) (ho2 : o < 16) (j : Nat) : (if j = z * 16 + o then true else hitB T k j) = hitB T (k + 1) j := by
  by_cases e : j = z * 16 + o
  · subst e
    rw [if_pos rfl]
    symm
    rw [hitB_at T (k + 1) z o ho2, hit_set hn]
    exact Or.inr ⟨hz, ho⟩
  · rw [if_neg e]
    have : hit T (k + 1) ((j / 16 : Nat) : Int) ((j % 16 : Nat) : Int) ↔ hit T k ((j / 16 : Nat) : Int) ((j % 16 : Nat) : Int) := by
      rw [hit_set hn, hz, ho]
      constructor
      · rintro (h | ⟨h1, h2⟩)
        · exact h
        · exact absurd (show j = z * 16 + o by omega) e
      · exact Or.inl
    exact bool_iff (by rw [hitB_iff, hitB_iff]; exact this.symm)
theorem right_count (T : Tb) (w : World) (h : T.count < 1 ∨ 1099511627776 < T.count) : Calls Tryz.prog 137 #[tval T] w fun e w' => e = .returned (.bool false) ∧ Since w w' := by
  have hC := tab_cel T w
  have q0 := hC.cell 0 (by omega)
  rw [show tcell T 0 = .int .i64 T.count from rfl] at q0
  have hS : Since w (w.alloc (.cells (brow 73 (tcell T)).toArray 92)) := (Since.refl w).alloc _
  unfold tval
  generalize (brow 73 (tcell T)).toArray = cs at *
  have HS : Hid (Since w (w.alloc (.cells cs 92))) := hS
  clear hS hC
  by_cases h1 : T.count < 1
  · go_enter Tryz.func137, Tryz.ntmps137
    go_wp2_with fail
    go_ret
    exact ⟨rfl, HS.out⟩
  · have h2 : 1099511627776 < T.count := by omega
    go_enter Tryz.func137, Tryz.ntmps137
    go_wp2_with fail
    go_ret
    exact ⟨rfl, HS.out⟩
theorem taken_zero : ∀ j, j < 128 → Tryz.zeroCells248[j]? = some (.bool false) := by
  intro j hj
  have he : Tryz.zeroCells248 = (List.replicate 128 (Value.bool false)).toArray := by kernel_rfl
  rw [he, List.getElem?_toArray, List.getElem?_replicate, if_pos hj]
set_option maxHeartbeats 4000000 in
theorem right_loop (T : Tb) (w : World) (h1 : 1 ≤ T.count) (h2 : T.count ≤ 1099511627776) : Calls Tryz.prog 137 #[tval T] w fun e w' => e = .returned (.bool (rtB T)) ∧ Since w w' := by
  have c1 : ¬ T.count < 1 := by omega
  have c2 : ¬ 1099511627776 < T.count := by omega
  have HC1 : Hid (1 ≤ T.count ∧ T.count ≤ 1099511627776) := ⟨h1, h2⟩
  clear h1 h2
  have hC := tab_cel T w
  have q0 := hC.cell 0 (by omega)
  rw [show tcell T 0 = .int .i64 T.count from rfl] at q0
  have hS : Since w (w.alloc (.cells (brow 73 (tcell T)).toArray 92)) := (Since.refl w).alloc _
  have hR := tab_cells (hC.since ((Since.refl _).alloc (.cells Tryz.zeroCells248 248)))
  unfold tval
  generalize (brow 73 (tcell T)).toArray = cs0 at *
  have HS : Hid (Since w ((w.alloc (.cells cs0 92)).alloc (.cells Tryz.zeroCells248 248))) := hS.alloc _
  have HT : Hid (Cel ((w.alloc (.cells cs0 92)).alloc (.cells Tryz.zeroCells248 248)) (w.heap.size + 1) 128 (fun j => .bool (hitB T 0 j))) := (Cel.new (w.alloc (.cells cs0 92)) 128 (fun _ => .bool false) 248 Tryz.zeroCells248 taken_zero (w.heap.size + 1) (by simp)).congr (fun j hj => by rw [hitB_zero])
  clear hS hC
  have hL : (brow 72 (ccell T)).length = 72 := brow_length _ _
  have hix := fun (k : Nat) (hk : k < 24) (w : World) => idx_cell T k hk w
  have HIX : Hid (∀ (k : Nat) (hk : k < 24) (w : World), (Instr.index 90 (.agg (brow 72 (ccell T)).toArray) (.int .i64 (k : Int))).run Tryz.prog w = .ok (.agg #[.int .i64 (T.zone k), .int .i64 (T.off k), .string (T.tag k)]) w) := hix
  clear hix
  generalize hcs : brow 72 (ccell T) = cs at *
  clear hcs
  go_enter Tryz.func137, Tryz.ntmps137
  go_wp2_with (refine wpList_load_mid (by rfl) 90 _ (by rfl) w.heap.size 1 (by rfl) _ _ hR Tryz.underlying90 (by rfl) (by rw [hL]; kernel_rfl) ?_)
  clear hR hL q0 c1 c2
  generalize (w.alloc (.cells cs0 92)).alloc (.cells Tryz.zeroCells248 248) = w0 at *
  go_loopw [16] (fun i wr => ∃ k : Nat, k ≤ 24 ∧ i = .int .i64 k ∧ fine T k ∧ Cel wr (w.heap.size + 1) 128 (fun j => .bool (hitB T k j)) ∧ Since w wr) (fun i _ => 24 - (intOf i).toNat)
  case atStart => exact ⟨0, by omega, rfl, fine_zero T, HT.out, HS.out⟩
  case round =>
    obtain ⟨k, hk, rfl, hf, ht, hs⟩ := hrel
    have HF : Hid (fine T k) := hf
    have HTK : Hid (Cel wr (w.heap.size + 1) 128 (fun j => .bool (hitB T k j))) := ht
    have HSK : Hid (Since w wr) := hs
    clear hf ht hs
    by_cases hlt : k < 24
    · have hlt2 : (k : Int) < 24 := by omega
      have hix := HIX.out k hlt
      by_cases hn : nul T k
      · have HN : Hid (nul T k) := hn
        obtain ⟨z0, o0, t0⟩ := hn
        rw [z0, o0, t0] at hix
        clear z0 o0 t0
        have hnb : nulB 0 0 ⟨#[]⟩ = true := rfl
        go_wp2_with fail
        go_roundw
        case rel => exact ⟨k + 1, by omega, by go_num, fine_nul HF.out HN.out, (HTK.out.since ((Since.refl _).alloc _)).congr (fun j hj => by rw [hitB_nul HN.out]), HSK.out.alloc _⟩
        case measure => simp [intOf]; omega
      · have hnb := nulB_false hn
        have HN : Hid (¬ nul T k) := hn
        clear hn
        by_cases hm : may T k
        · have hmb := mayB_true hm
          obtain ⟨m1, m2, m3, m4, m5⟩ := hm
          have HM : Hid (may T k) := ⟨m1, m2, m3, m4, m5⟩
          obtain ⟨z, hz⟩ : ∃ z : Nat, T.zone k = z := ⟨(T.zone k).toNat, by omega⟩
          obtain ⟨o, ho⟩ : ∃ o : Nat, T.off k = o := ⟨(T.off k).toNat, by omega⟩
          rw [hz, ho] at hix hnb hmb
          rw [hz] at m2 m3
          rw [ho] at m4 m5
          have HZ : Hid (T.zone k = z) := hz
          have HO : Hid (T.off k = o) := ho
          clear hz ho m1
          generalize T.tag k = t at *
          have hz8 : z < 8 := by omega
          have ho16 : o < 16 := by omega
          clear m2 m4
          obtain ⟨x, hx⟩ : ∃ x, hitB T k (z * 16 + o) = x := ⟨_, rfl⟩
          have HX : Hid (hitB T k (z * 16 + o) = x) := hx
          clear hx
          go_wp2_with fail
          have HC3 : Hid (Cel (wr.alloc (.cells #[.int .i64 (z : Int), .int .i64 (o : Int), .string t] 89)).drew wr.heap.size 3 (three3 (.int .i64 (z : Int)) (.int .i64 (o : Int)) (.string t))) := (cel3 wr _ _ _ _).since (Since.refl _).drew
          have HTT : Hid (Cel (wr.alloc (.cells #[.int .i64 (z : Int), .int .i64 (o : Int), .string t] 89)).drew (w.heap.size + 1) 128 (fun j => .bool (hitB T k j))) := (HTK.out.since ((Since.refl _).alloc _)).since (Since.refl _).drew
          have hS4 : (fun W : World => W.cell? ⟨wr.heap.size, 0, none⟩ = some (.int .i64 (z : Int)) ∧ W.cell? ⟨wr.heap.size, 1, none⟩ = some (.int .i64 (o : Int)) ∧ W.cell? ⟨wr.heap.size, 2, none⟩ = some (.string t) ∧ W.cell? ⟨w.heap.size + 1, z * 16 + o, none⟩ = some (.bool x)) (wr.alloc (.cells #[.int .i64 (z : Int), .int .i64 (o : Int), .string t] 89)).drew := ⟨HC3.out.cell 0 (by omega), HC3.out.cell 1 (by omega), HC3.out.cell 2 (by omega), by rw [HTT.out.cell (z * 16 + o) (by omega), HX.out]⟩
          refine wp_region_held (S := fun W : World => W.cell? ⟨wr.heap.size, 0, none⟩ = some (.int .i64 (z : Int)) ∧ W.cell? ⟨wr.heap.size, 1, none⟩ = some (.int .i64 (o : Int)) ∧ W.cell? ⟨wr.heap.size, 2, none⟩ = some (.string t) ∧ W.cell? ⟨w.heap.size + 1, z * 16 + o, none⟩ = some (.bool x)) (by kernel_rfl) ?_
          refine takeD (i := 0) (d := 22) (v := ?w0) rfl rfl (by kernel_rfl) (by kernel_rfl) (by kernel_rfl) (fun _ _ _ h => h) (Or.inl ⟨by rfl, ?hw0⟩) hS4 ?q0
          case hw0 => (intro w hSw; obtain ⟨s0, s1, s2, s3⟩ := hSw; go_simp; try with_reducible rfl)
          simp only [Act.put, List.setIfInBounds_toArray, List.set_cons_zero, List.set_cons_succ]
          refine wpAnyH_ready (rs := [1]) (by kernel_rfl) (by simp) (AllReadyH.cons rfl (fun K hK => ?_) AllReadyH.nil)
          go_simp
          refine (may_any _ _ _ _).mono ?_
          rintro e w1 ⟨rfl, hS1⟩
          rw [hmb]
          simp only []
          have hS5 : (fun W : World => W.cell? ⟨wr.heap.size, 0, none⟩ = some (.int .i64 (z : Int)) ∧ W.cell? ⟨wr.heap.size, 1, none⟩ = some (.int .i64 (o : Int)) ∧ W.cell? ⟨wr.heap.size, 2, none⟩ = some (.string t) ∧ W.cell? ⟨w.heap.size + 1, z * 16 + o, none⟩ = some (.bool x)) w1 := ⟨(HC3.out.since hS1).cell 0 (by omega), (HC3.out.since hS1).cell 1 (by omega), (HC3.out.since hS1).cell 2 (by omega), by rw [(HTT.out.since hS1).cell (z * 16 + o) (by omega), HX.out]⟩
          refine hK.out _ _ hS5 (fun _ => ?_)
          clear hK K
          (try simp only [Act.put, List.setIfInBounds_toArray, List.set_cons_zero, List.set_cons_succ])
          refine takeD (i := 2) (d := 24) (v := ?w2) rfl rfl (by kernel_rfl) (by kernel_rfl) (by kernel_rfl) (fun _ _ _ h => h) (Or.inl ⟨by rfl, ?hw2⟩) hS5 ?q2
          case hw2 => (intro w _; go_simp; try with_reducible rfl)
          simp only [Act.put, List.setIfInBounds_toArray, List.set_cons_zero, List.set_cons_succ]
          refine takeD (i := 3) (d := 25) (v := ?w3) rfl rfl (by kernel_rfl) (by kernel_rfl) (by kernel_rfl) (fun _ _ _ h => h) (Or.inl ⟨by rfl, ?hw3⟩) hS5 ?q3
          case hw3 => (intro w _; go_simp; try with_reducible rfl)
          simp only [Act.put, List.setIfInBounds_toArray, List.set_cons_zero, List.set_cons_succ]
          refine takeD (i := 4) (d := 26) (v := ?w4) rfl rfl (by kernel_rfl) (by kernel_rfl) (by kernel_rfl) (fun _ _ _ h => h) (Or.inl ⟨wanted_by rfl rfl rfl rfl, ?hw4⟩) hS5 ?q4
          case hw4 => (intro w _; go_simp; try with_reducible rfl)
          simp only [Act.put, List.setIfInBounds_toArray, List.set_cons_zero, List.set_cons_succ]
          refine takeD (i := 5) (d := 27) (v := ?w5) rfl rfl (by kernel_rfl) (by kernel_rfl) (by kernel_rfl) (fun _ _ _ h => h) (Or.inl ⟨wanted_by rfl rfl rfl rfl, ?hw5⟩) hS5 ?q5
          case hw5 => (intro w hSw; obtain ⟨s0, s1, s2, s3⟩ := hSw; go_simp; try with_reducible rfl)
          simp only [Act.put, List.setIfInBounds_toArray, List.set_cons_zero, List.set_cons_succ]
          refine takeD (i := 6) (d := 28) (v := ?w6) rfl rfl (by kernel_rfl) (by kernel_rfl) (by kernel_rfl) (fun _ _ _ h => h) (Or.inl ⟨wanted_by rfl rfl rfl rfl, ?hw6⟩) hS5 ?q6
          case hw6 => (intro w _; go_simp; try with_reducible rfl)
          simp only [Act.put, List.setIfInBounds_toArray, List.set_cons_zero, List.set_cons_succ]
          refine takeD (i := 7) (d := 29) (v := ?w7) rfl rfl (by kernel_rfl) (by kernel_rfl) (by kernel_rfl) (fun _ _ _ h => h) (Or.inl ⟨wanted_by rfl rfl rfl rfl, ?hw7⟩) hS5 ?q7
          case hw7 => (intro w hSw; obtain ⟨s0, s1, s2, s3⟩ := hSw; go_simp; try with_reducible rfl)
          simp only [Act.put, List.setIfInBounds_toArray, List.set_cons_zero, List.set_cons_succ]
          refine takeD (i := 8) (d := 30) (v := ?w8) rfl rfl (by kernel_rfl) (by kernel_rfl) (by kernel_rfl) (fun _ _ _ h => h) (Or.inl ⟨wanted_by rfl rfl rfl rfl, ?hw8⟩) hS5 ?q8
          case hw8 => (intro w _; go_simp; try with_reducible rfl)
          simp only [Act.put, List.setIfInBounds_toArray, List.set_cons_zero, List.set_cons_succ]
          refine takeD (i := 9) (d := 31) (v := ?w9) rfl rfl (by kernel_rfl) (by kernel_rfl) (by kernel_rfl) (fun _ _ _ h => h) (Or.inl ⟨wanted_by rfl rfl rfl rfl, ?hw9⟩) hS5 ?q9
          case hw9 => (intro w _; go_simp; try with_reducible rfl)
          simp only [Act.put, List.setIfInBounds_toArray, List.set_cons_zero, List.set_cons_succ]
          refine takeD (i := 10) (d := 32) (v := ?w10) rfl rfl (by kernel_rfl) (by kernel_rfl) (by kernel_rfl) (fun _ _ _ h => h) (Or.inl ⟨wanted_by rfl rfl rfl rfl, ?hw10⟩) hS5 ?q10
          case hw10 => (intro w hSw; obtain ⟨s0, s1, s2, s3⟩ := hSw; go_simp; try with_reducible rfl)
          simp only [Act.put, List.setIfInBounds_toArray, List.set_cons_zero, List.set_cons_succ]
          refine takeD (i := 11) (d := 33) (v := ?w11) rfl rfl (by kernel_rfl) (by kernel_rfl) (by kernel_rfl) (fun _ _ _ h => h) (Or.inl ⟨by rfl, ?hw11⟩) hS5 ?q11
          case hw11 => (intro w _; go_simp; try with_reducible rfl)
          simp only [Act.put, List.setIfInBounds_toArray, List.set_cons_zero, List.set_cons_succ]
          refine wpAnyH_done (by kernel_rfl) ?_ _
          have HS5 : Hid (Since w w1) := (HSK.out.alloc _).drew.trans hS1
          have HC5 : Hid (Cel w1 wr.heap.size 3 (three3 (.int .i64 (z : Int)) (.int .i64 (o : Int)) (.string t))) := HC3.out.since hS1
          have HT5 : Hid (Cel w1 (w.heap.size + 1) 128 (fun j => .bool (hitB T k j))) := HTT.out.since hS1
          clear hS4 hS5 hS1 HC3 HTT hix hnb hmb
          have hhit := hitB_at T k z o ho16
          rw [HX.out] at hhit
          cases x with
          | true =>
            have HB : Hid (rtB T = false) := rtB_false (fun h => fine_not HN.out (Or.inr (by rw [HZ.out, HO.out]; exact hhit.1 rfl)) hlt h.2)
            clear hhit
            go_wp2_with fail
            go_ret
            exact ⟨by rw [HB.out]; rfl, HS5.out⟩
          | false =>
            have HH : Hid (¬ hit T k (z : Int) (o : Int)) := fun h => Bool.noConfusion (hhit.2 h)
            clear hhit
            have hq0 := (HC5.out.since (Since.refl _).drew).cell 0 (by omega)
            have hq1 := (HC5.out.since (Since.refl _).drew).cell 1 (by omega)
            rw [show three3 (.int .i64 (z : Int)) (.int .i64 (o : Int)) (.string t) 0 = .int .i64 (z : Int) from rfl] at hq0
            rw [show three3 (.int .i64 (z : Int)) (.int .i64 (o : Int)) (.string t) 1 = .int .i64 (o : Int) from rfl] at hq1
            have hq2 := (HT5.out.since (Since.refl _).drew).cell (z * 16 + o) (by omega)
            have hq3 := (HT5.out.since (Since.refl _).drew).frozen (z * 16 + o) (by omega)
            have HT6 : Hid (Cel (w1.drew.setCell ⟨w.heap.size + 1, z * 16 + o, none⟩ (.bool true)) (w.heap.size + 1) 128 (fun j => .bool (hitB T (k + 1) j))) := ((HT5.out.since (Since.refl _).drew).set (z * 16 + o) (by omega) (.bool true)).congr (fun j hj => by
              unfold updv
              have := hitB_set HN.out z o HZ.out HO.out ho16 j
              by_cases e : j = z * 16 + o
              · rw [if_pos e]; rw [if_pos e] at this; rw [← this]
              · rw [if_neg e]; rw [if_neg e] at this; rw [← this])
            have HS6 : Hid (Since w (w1.drew.setCell ⟨w.heap.size + 1, z * 16 + o, none⟩ (.bool true))) := HS5.out.drew.setCell (by show w.heap.size ≤ w.heap.size + 1; omega) _
            have HF6 : Hid (fine T (k + 1)) := fine_may HF.out HM.out (by rw [HZ.out, HO.out]; exact HH.out)
            go_wp2_with fail
            go_region
            clear hq0 hq1 hq2 hq3
            go_wp2_with fail
            go_roundw
            case rel => exact ⟨k + 1, by omega, by go_num, HF6.out, HT6.out, HS6.out⟩
            case measure => simp [intOf]; omega
        · have hmb := mayB_false hm
          have HM : Hid (¬ may T k) := hm
          clear hm
          generalize T.zone k = z at *
          generalize T.off k = o at *
          generalize T.tag k = t at *
          go_wp2_with fail
          have HC3 : Hid (Cel (wr.alloc (.cells #[.int .i64 z, .int .i64 o, .string t] 89)).drew wr.heap.size 3 (three3 (.int .i64 z) (.int .i64 o) (.string t))) := (cel3 wr _ _ _ _).since (Since.refl _).drew
          have hS4 : (fun W : World => W.rangeAt wr.heap.size 0 [.int .i64 z, .int .i64 o, .string t]) (wr.alloc (.cells #[.int .i64 z, .int .i64 o, .string t] 89)).drew := range3 HC3.out
          refine wp_region_held (S := fun W : World => W.rangeAt wr.heap.size 0 [.int .i64 z, .int .i64 o, .string t]) (by kernel_rfl) ?_
          refine takeD (i := 0) (d := 22) (v := .agg #[.int .i64 z, .int .i64 o, .string t]) rfl rfl (by kernel_rfl) (by kernel_rfl) (by kernel_rfl) (fun _ _ _ h => h) (yieldsIf_load_mid (by rfl) 89 _ (by rfl) wr.heap.size 0 (by rfl) _ _ (fun w hSw => hSw) Tryz.underlying89 (by rfl) (by kernel_rfl)) hS4 ?r0
          simp only [Act.put, List.setIfInBounds_toArray, List.set_cons_zero, List.set_cons_succ]
          refine wpAnyH_ready (rs := [1]) (by kernel_rfl) (by simp) (AllReadyH.cons rfl (fun K hK => ?_) AllReadyH.nil)
          go_simp
          refine (may_any _ _ _ _).mono ?_
          rintro e w1 ⟨rfl, hS1⟩
          rw [hmb]
          simp only []
          have hS5 : (fun W : World => W.rangeAt wr.heap.size 0 [.int .i64 z, .int .i64 o, .string t]) w1 := range3 (HC3.out.since hS1)
          refine hK.out _ _ hS5 (fun _ => ?_)
          clear hK K
          (try simp only [Act.put, List.setIfInBounds_toArray, List.set_cons_zero, List.set_cons_succ])
          refine takeD (i := 2) (d := 24) (v := ?v2) rfl rfl (by kernel_rfl) (by kernel_rfl) (by kernel_rfl) (fun _ _ _ h => h) (Or.inl ⟨by rfl, ?hy2⟩) hS5 ?r2
          case hy2 => (intro w _; go_simp; try with_reducible rfl)
          simp only [Act.put, List.setIfInBounds_toArray, List.set_cons_zero, List.set_cons_succ]
          refine takeD (i := 3) (d := 25) (v := ?v3) rfl rfl (by kernel_rfl) (by kernel_rfl) (by kernel_rfl) (fun _ _ _ h => h) (Or.inl ⟨by rfl, ?hy3⟩) hS5 ?r3
          case hy3 => (intro w _; go_simp; try with_reducible rfl)
          simp only [Act.put, List.setIfInBounds_toArray, List.set_cons_zero, List.set_cons_succ]
          refine takeD (i := 4) (d := 26) (v := undef) rfl rfl (by kernel_rfl) (by kernel_rfl) (by kernel_rfl) (fun _ _ _ h => h) (Or.inr ⟨unwanted_by rfl rfl rfl rfl (by decide), rfl⟩) hS5 ?r4
          simp only [Act.put, List.setIfInBounds_toArray, List.set_cons_zero, List.set_cons_succ]
          refine takeD (i := 5) (d := 27) (v := undef) rfl rfl (by kernel_rfl) (by kernel_rfl) (by kernel_rfl) (fun _ _ _ h => h) (Or.inr ⟨unwanted_by rfl rfl rfl rfl (by decide), rfl⟩) hS5 ?r5
          simp only [Act.put, List.setIfInBounds_toArray, List.set_cons_zero, List.set_cons_succ]
          refine takeD (i := 6) (d := 28) (v := undef) rfl rfl (by kernel_rfl) (by kernel_rfl) (by kernel_rfl) (fun _ _ _ h => h) (Or.inr ⟨unwanted_by rfl rfl rfl rfl (by decide), rfl⟩) hS5 ?r6
          simp only [Act.put, List.setIfInBounds_toArray, List.set_cons_zero, List.set_cons_succ]
          refine takeD (i := 7) (d := 29) (v := undef) rfl rfl (by kernel_rfl) (by kernel_rfl) (by kernel_rfl) (fun _ _ _ h => h) (Or.inr ⟨unwanted_by rfl rfl rfl rfl (by decide), rfl⟩) hS5 ?r7
          simp only [Act.put, List.setIfInBounds_toArray, List.set_cons_zero, List.set_cons_succ]
          refine takeD (i := 8) (d := 30) (v := undef) rfl rfl (by kernel_rfl) (by kernel_rfl) (by kernel_rfl) (fun _ _ _ h => h) (Or.inr ⟨unwanted_by rfl rfl rfl rfl (by decide), rfl⟩) hS5 ?r8
          simp only [Act.put, List.setIfInBounds_toArray, List.set_cons_zero, List.set_cons_succ]
          refine takeD (i := 9) (d := 31) (v := undef) rfl rfl (by kernel_rfl) (by kernel_rfl) (by kernel_rfl) (fun _ _ _ h => h) (Or.inr ⟨unwanted_by rfl rfl rfl rfl (by decide), rfl⟩) hS5 ?r9
          simp only [Act.put, List.setIfInBounds_toArray, List.set_cons_zero, List.set_cons_succ]
          refine takeD (i := 10) (d := 32) (v := undef) rfl rfl (by kernel_rfl) (by kernel_rfl) (by kernel_rfl) (fun _ _ _ h => h) (Or.inr ⟨unwanted_by rfl rfl rfl rfl (by decide), rfl⟩) hS5 ?r10
          simp only [Act.put, List.setIfInBounds_toArray, List.set_cons_zero, List.set_cons_succ]
          refine takeD (i := 11) (d := 33) (v := ?v11) rfl rfl (by kernel_rfl) (by kernel_rfl) (by kernel_rfl) (fun _ _ _ h => h) (Or.inl ⟨by rfl, ?hy11⟩) hS5 ?r11
          case hy11 => (intro w _; go_simp; try with_reducible rfl)
          simp only [Act.put, List.setIfInBounds_toArray, List.set_cons_zero, List.set_cons_succ]
          refine wpAnyH_done (by kernel_rfl) ?_ _
          have HB : Hid (rtB T = false) := rtB_false (fun h => fine_not HN.out (Or.inl HM.out) hlt h.2)
          have HS5 : Hid (Since w w1) := (HSK.out.alloc _).drew.trans hS1
          clear hS4 hS5 hS1 HC3 hix hnb hmb
          go_wp2_with fail
          go_ret
          exact ⟨by rw [HB.out]; rfl, HS5.out⟩
    · have hke : k = 24 := by omega
      subst hke
      have HB : Hid (rtB T = true) := rtB_true ⟨HC1.out, HF.out⟩
      go_wp2_with fail
      go_ret
      exact ⟨by rw [HB.out]; rfl, HSK.out⟩
theorem right_any (T : Tb) (w : World) : Calls Tryz.prog 137 #[tval T] w fun e w' => e = .returned (.bool (rtB T)) ∧ Since w w' := by
  by_cases h : 1 ≤ T.count ∧ T.count ≤ 1099511627776
  · exact right_loop T w h.1 h.2
  · rw [rtB_false (fun hr => h hr.1)]
    exact right_count T w (by omega)
end Tw
end Go.Proofs.YtbfjklpoheooaaaGreatDoor
end
section
namespace Go.Proofs.YtbfjklpoheooaaaGreatDoor
set_option maxRecDepth 100000
namespace Tw
open Go.RowKit
theorem rin_any (n lo hi : Int) (w : World) : Calls Tryz.prog 42 #[.int .i64 n, .int .i64 lo, .int .i64 hi] w fun e w' => e = .returned (.bool (decide (lo ≤ n) && decide (n ≤ hi))) ∧ w' = w := by
  by_cases h : lo ≤ n
  · go_enter Tryz.func42, Tryz.ntmps42
    go_wp2_with fail
    go_ret
    exact ⟨by simp [h], rfl⟩
  · go_enter Tryz.func42, Tryz.ntmps42
    go_wp2_with fail
    go_ret
    exact ⟨by simp [h]; intro h2; omega, rfl⟩
theorem info3 : ∃ i, Tryz.prog.info? 3 = some i := by
  cases h : Tryz.prog.info? 3 with
  | none => exact absurd h (by
      have : (Tryz.prog.info? 3).isSome = true := by kernel_rfl
      intro e; rw [e] at this; cases this)
  | some i => exact ⟨i, rfl⟩
theorem cells3 : Tryz.prog.cellsOf 3 = 1 := by kernel_rfl
theorem pairTy : PT Tryz.prog 205 := ⟨Tryz.underlying3, Tryz.underlying205, info3, fun w => Tryz.isAgg3 w, fun w => Tryz.sizeOf3 w, cells3⟩
theorem pair_lookup (w : World) (r : Nat) (L : List (Int × Int)) (c : Nat) (z o : Int) (hb : w.heap[r]? = some (.map (pes L 0).toArray c)) :
    (Instr.lookup 204 (.map (some r)) (.agg #[.int .i64 z, .int .i64 o]) false).run Tryz.prog w = .ok (.bool (decide ((z, o) ∈ L))) w := by
  exact pk_lookup pairTy Tryz.underlying204 (fun w => Tryz.zeroValue4 w) w r L c (z, o) hb
theorem pair_update (w : World) (r : Nat) (L : List (Int × Int)) (z o : Int) (hb : w.heap[r]? = some (.map (pes L 0).toArray L.length)) (h : (z, o) ∉ L) :
    (Instr.mapUpdate 204 (.map (some r)) (.agg #[.int .i64 z, .int .i64 o]) (.bool true)).run Tryz.prog w = .ok () { w with heap := w.heap.setIfInBounds r (.map (pes (L ++ [(z, o)]) 0).toArray (L ++ [(z, o)]).length) } := by
  exact pk_update pairTy Tryz.underlying204 w r L (z, o) hb h
theorem since_setObj {a w : World} (h : Since a w) {r : Nat} (hr : a.heap.size ≤ r) (o : Obj) : Since a { w with heap := w.heap.setIfInBounds r o } :=
  Below.trans (show Below a.heap.size a w from h) ⟨rfl, rfl, rfl, by simp, fun k hk => by
    show (w.heap.setIfInBounds r o)[k]? = _
    rw [Array.getElem?_setIfInBounds_ne (by omega)]⟩
theorem fr_setObj (w : World) (r : Nat) (o : Obj) : Fr r none w { w with heap := w.heap.setIfInBounds r o } :=
  ⟨rfl, rfl, rfl, by simp, fun k _ hb _ => by
    show (w.heap.setIfInBounds r o)[k]? = _
    rw [Array.getElem?_setIfInBounds_ne (fun h => hb h.symm)]⟩
theorem heap_since {a b : World} (h : Since a b) {r : Nat} {o : Obj} (hb : a.heap[r]? = some o) : b.heap[r]? = some o := by
  rw [h.block r (Array.getElem?_eq_some_iff.1 hb).1]
  exact hb
set_option maxHeartbeats 4000000 in
theorem rright_any (T : Tb) (w : World) : Calls Tryz.prog 104 #[tval T] w fun e w' => e = .returned (.bool (rtB T)) ∧ Since w w' := by
  have hmm := @run_makeMap Tryz.prog
  have hC := tab_cel T w
  have hS : Since w (w.alloc (.cells (brow 73 (tcell T)).toArray 92)) := (Since.refl w).alloc _
  have hR := tab_cells (hC.since ((Since.refl _).alloc (.map #[] 0)))
  unfold tval
  generalize (brow 73 (tcell T)).toArray = cs0 at *
  have HS : Hid (Since w ((w.alloc (.cells cs0 92)).alloc (.map #[] 0))) := hS.alloc _
  have HC : Hid (Cel ((w.alloc (.cells cs0 92)).alloc (.map #[] 0)) w.heap.size 73 (tcell T)) := hC.since ((Since.refl _).alloc _)
  have HM : Hid (((w.alloc (.cells cs0 92)).alloc (.map #[] 0)).heap[w.heap.size + 1]? = some (.map (pes (prs T 0) 0).toArray (prs T 0).length)) := by
    have := (MapKept.heap_alloc (w.alloc (.cells cs0 92)) (.map #[] 0)).1
    rw [World.size_alloc] at this
    exact this
  clear hS hC
  have hL : (brow 72 (ccell T)).length = 72 := brow_length _ _
  have HIX : Hid (∀ (k : Nat) (hk : k < 24) (w : World), (Instr.index 90 (.agg (brow 72 (ccell T)).toArray) (.int .i64 (k : Int))).run Tryz.prog w = .ok (.agg #[.int .i64 (T.zone k), .int .i64 (T.off k), .string (T.tag k)]) w) := fun k hk w => idx_cell T k hk w
  generalize hcs : brow 72 (ccell T) = cs at *
  clear hcs
  go_enter Tryz.func104, Tryz.ntmps104
  go_wp2_with (refine wpList_load_mid (by rfl) 90 _ (by rfl) w.heap.size 1 (by rfl) _ _ hR Tryz.underlying90 (by rfl) (by rw [hL]; kernel_rfl) ?_)
  clear hR hL hmm
  generalize (w.alloc (.cells cs0 92)).alloc (.map #[] 0) = w0 at *
  go_loopw [10] (fun i wr => ∃ k : Nat, k ≤ 24 ∧ i = .int .i64 k ∧ fine T k ∧ wr.heap[w.heap.size + 1]? = some (.map (pes (prs T k) 0).toArray (prs T k).length) ∧ Cel wr w.heap.size 73 (tcell T) ∧ Since w wr) (fun i _ => 24 - (intOf i).toNat)
  case atStart => exact ⟨0, by omega, rfl, fine_zero T, HM.out, HC.out, HS.out⟩
  case round =>
    obtain ⟨k, hk, rfl, hf, hm, hc, hs⟩ := hrel
    have HF : Hid (fine T k) := hf
    have HMK : Hid (wr.heap[w.heap.size + 1]? = some (.map (pes (prs T k) 0).toArray (prs T k).length)) := hm
    have HCK : Hid (Cel wr w.heap.size 73 (tcell T)) := hc
    have HSK : Hid (Since w wr) := hs
    clear hf hm hs hc
    by_cases hlt : k < 24
    · have hlt2 : (k : Int) < 24 := by omega
      have hix := HIX.out k hlt
      by_cases hn : nul T k
      · have HN : Hid (nul T k) := hn
        obtain ⟨z0, o0, t0⟩ := hn
        rw [z0, o0, t0] at hix
        clear z0 o0 t0
        go_wp2_with fail
        go_roundw
        case rel => exact ⟨k + 1, by omega, by go_num, fine_nul HF.out HN.out, by rw [prs_nul HN.out]; exact heap_since ((Since.refl _).alloc _) HMK.out, HCK.out.since ((Since.refl _).alloc _), HSK.out.alloc _⟩
        case measure => simp [intOf]; omega
      · have HN : Hid (¬ nul T k) := hn
        by_cases te : T.tag k = ⟨#[]⟩
        · have hm : ¬ may T k := fun h => by have := h.1; rw [te] at this; exact absurd this (by decide)
          have HB : Hid (rtB T = false) := rtB_false (fun h => fine_not HN.out (Or.inl hm) hlt h.2)
          rw [te] at hix
          clear hm
          by_cases z0 : T.zone k = 0
          · have o0 : ¬ T.off k = 0 := fun h => hn ⟨z0, h, te⟩
            rw [z0] at hix
            clear te hn z0
            generalize T.off k = o at *
            go_wp2_with fail
            go_ret
            exact ⟨by rw [HB.out]; rfl, (HSK.out.alloc _).alloc _⟩
          · clear te hn
            generalize T.off k = o at *
            generalize T.zone k = z at *
            go_wp2_with fail
            go_ret
            exact ⟨by rw [HB.out]; rfl, (HSK.out.alloc _).alloc _⟩
        · have ht1 : ¬ (T.tag k).toList = [] := by
            rw [ByteArray.toList_eq]
            exact fun e => te (ByteArray.ext (Array.toList_inj.1 e))
          clear hn te
          by_cases h16 : (T.tag k).size = 16
          · have h16I : ((T.tag k).size : Int) = 16 := by omega
            by_cases hz : 0 ≤ T.zone k ∧ T.zone k ≤ 7
            · have hzb : (decide (0 ≤ T.zone k) && decide (T.zone k ≤ 7)) = true := by simp; exact hz
              by_cases ho : 0 ≤ T.off k ∧ T.off k ≤ 15
              · have hob : (decide (0 ≤ T.off k) && decide (T.off k ≤ 15)) = true := by simp; exact ho
                have HM : Hid (may T k) := ⟨h16, hz.1, by omega, ho.1, by omega⟩
                have HPM : Hid ((T.zone k, T.off k) ∈ prs T k ↔ hit T k (T.zone k) (T.off k)) := prs_mem T k _ _
                have HPS : Hid (prs T (k + 1) = prs T k ++ [(T.zone k, T.off k)]) := prs_set HN.out
                have HW : Hid (((wr.alloc (.cells #[.int .i64 (T.zone k), .int .i64 (T.off k), .string (T.tag k)] 89)).alloc (.cells #[.int .i64 (T.zone k), .int .i64 (T.off k)] 205)).heap[w.heap.size + 1]? = some (.map (pes (prs T k) 0).toArray (prs T k).length)) := heap_since (((Since.refl _).alloc _).alloc _) HMK.out
                have hlk := pair_lookup _ (w.heap.size + 1) (prs T k) _ (T.zone k) (T.off k) HW.out
                have HSW : Hid (Since wr ((wr.alloc (.cells #[.int .i64 (T.zone k), .int .i64 (T.off k), .string (T.tag k)] 89)).alloc (.cells #[.int .i64 (T.zone k), .int .i64 (T.off k)] 205))) := ((Since.refl _).alloc _).alloc _
                by_cases hh : hit T k (T.zone k) (T.off k)
                · have HB : Hid (rtB T = false) := rtB_false (fun h => fine_not HN.out (Or.inr hh) hlt h.2)
                  rw [decide_eq_true (HPM.out.2 hh)] at hlk
                  clear h16 hz ho hh HM HPM HPS
                  generalize T.off k = o at *
                  generalize T.zone k = z at *
                  generalize T.tag k = t at *
                  go_wp2_with fail
                  refine (rin_any _ _ _ _).mono ?_
                  rintro e w1 ⟨rfl, hw1⟩
                  subst hw1
                  rw [hzb]
                  go_wp2_with fail
                  refine (rin_any _ _ _ _).mono ?_
                  rintro e w2 ⟨rfl, hw2⟩
                  subst hw2
                  rw [hob]
                  go_wp2_with fail
                  go_ret
                  exact ⟨by rw [HB.out]; rfl, HSK.out.trans HSW.out⟩
                · have hnp : (T.zone k, T.off k) ∉ prs T k := fun h => hh (HPM.out.1 h)
                  rw [decide_eq_false hnp] at hlk
                  have hup := pair_update _ (w.heap.size + 1) (prs T k) (T.zone k) (T.off k) HW.out hnp
                  rw [← HPS.out] at hup
                  have HF6 : Hid (fine T (k + 1)) := fine_may HF.out HM.out hh
                  have HM6 := (MapKept.heap_set (o' := .map (pes (prs T (k + 1)) 0).toArray (prs T (k + 1)).length) HW.out).1
                  have hsw := since_setObj (HSK.out.trans HSW.out) (r := w.heap.size + 1) (by omega) (.map (pes (prs T (k + 1)) 0).toArray (prs T (k + 1)).length)
                  have hcw := (HCK.out.since HSW.out).fr (fr_setObj _ (w.heap.size + 1) (.map (pes (prs T (k + 1)) 0).toArray (prs T (k + 1)).length)) (by omega) (by simp)
                  generalize hW6 : ({ (wr.alloc (.cells #[.int .i64 (T.zone k), .int .i64 (T.off k), .string (T.tag k)] 89)).alloc (.cells #[.int .i64 (T.zone k), .int .i64 (T.off k)] 205) with heap := ((wr.alloc (.cells #[.int .i64 (T.zone k), .int .i64 (T.off k), .string (T.tag k)] 89)).alloc (.cells #[.int .i64 (T.zone k), .int .i64 (T.off k)] 205)).heap.setIfInBounds (w.heap.size + 1) (.map (pes (prs T (k + 1)) 0).toArray (prs T (k + 1)).length) } : World) = w6 at *
                  have HMM : Hid (w6.heap[w.heap.size + 1]? = some (.map (pes (prs T (k + 1)) 0).toArray (prs T (k + 1)).length)) := by rw [← hW6]; exact HM6
                  have HS6 : Hid (Since w w6) := hsw
                  have HC6 : Hid (Cel w6 w.heap.size 73 (tcell T)) := hcw
                  clear HM6 hsw hcw hW6 h16 hz ho hh HM HPM HPS hnp HF
                  generalize T.off k = o at *
                  generalize T.zone k = z at *
                  generalize T.tag k = t at *
                  go_wp2_with fail
                  refine (rin_any _ _ _ _).mono ?_
                  rintro e w1 ⟨rfl, hw1⟩
                  subst hw1
                  rw [hzb]
                  go_wp2_with fail
                  refine (rin_any _ _ _ _).mono ?_
                  rintro e w2 ⟨rfl, hw2⟩
                  subst hw2
                  rw [hob]
                  go_wp2_with fail
                  go_roundw
                  case rel => exact ⟨k + 1, by omega, by go_num, HF6.out, HMM.out, HC6.out, HS6.out⟩
                  case measure => simp [intOf]; omega
              · have hob : (decide (0 ≤ T.off k) && decide (T.off k ≤ 15)) = false := by
                  rw [Bool.and_eq_false_iff]
                  by_cases h3 : 0 ≤ T.off k
                  · right; simp; omega
                  · left; simp; omega
                have HB : Hid (rtB T = false) := rtB_false (fun h => fine_not HN.out (Or.inl (fun hm => ho ⟨hm.2.2.2.1, by have := hm.2.2.2.2; omega⟩)) hlt h.2)
                clear h16 hz ho
                generalize T.off k = o at *
                generalize T.zone k = z at *
                generalize T.tag k = t at *
                go_wp2_with fail
                refine (rin_any _ _ _ _).mono ?_
                rintro e w1 ⟨rfl, rfl⟩
                rw [hzb]
                go_wp2_with fail
                refine (rin_any _ _ _ _).mono ?_
                rintro e w2 ⟨rfl, rfl⟩
                rw [hob]
                go_wp2_with fail
                go_ret
                exact ⟨by rw [HB.out]; rfl, (HSK.out.alloc _).alloc _⟩
            · have hzb : (decide (0 ≤ T.zone k) && decide (T.zone k ≤ 7)) = false := by
                rw [Bool.and_eq_false_iff]
                by_cases h3 : 0 ≤ T.zone k
                · right; simp; omega
                · left; simp; omega
              have HB : Hid (rtB T = false) := rtB_false (fun h => fine_not HN.out (Or.inl (fun hm => hz ⟨hm.2.1, by have := hm.2.2.1; omega⟩)) hlt h.2)
              clear h16 hz
              generalize T.off k = o at *
              generalize T.zone k = z at *
              generalize T.tag k = t at *
              go_wp2_with fail
              refine (rin_any _ _ _ _).mono ?_
              rintro e w1 ⟨rfl, rfl⟩
              rw [hzb]
              go_wp2_with fail
              go_ret
              exact ⟨by rw [HB.out]; rfl, (HSK.out.alloc _).alloc _⟩
          · have h16I : ¬ ((T.tag k).size : Int) = 16 := by omega
            have HB : Hid (rtB T = false) := rtB_false (fun h => fine_not HN.out (Or.inl (fun hm => h16 hm.1)) hlt h.2)
            clear h16
            generalize T.off k = o at *
            generalize T.zone k = z at *
            generalize T.tag k = t at *
            go_wp2_with fail
            go_ret
            exact ⟨by rw [HB.out]; rfl, (HSK.out.alloc _).alloc _⟩
    · have hke : k = 24 := by omega
      subst hke
      have q0 := HCK.out.cell 0 (by omega)
      rw [show tcell T 0 = .int .i64 T.count from rfl] at q0
      go_wp2_with fail
      refine (rin_any _ _ _ _).mono ?_
      rintro e w1 ⟨rfl, rfl⟩
      have HB : Hid (rtB T = (decide (1 ≤ T.count) && decide (T.count ≤ 1099511627776))) := by
        show rtB T = _
        by_cases h : 1 ≤ T.count ∧ T.count ≤ 1099511627776
        · rw [rtB_true ⟨h, HF.out⟩, decide_eq_true h.1, decide_eq_true h.2]; rfl
        · rw [rtB_false (fun hr => h hr.1)]
          by_cases h1 : 1 ≤ T.count
          · rw [decide_eq_false (fun h2 => h ⟨h1, h2⟩), Bool.and_false]
          · rw [decide_eq_false h1, Bool.false_and]
      generalize (decide (1 ≤ T.count) && decide (T.count ≤ 1099511627776)) = x at *
      clear q0
      go_wp2_with fail
      go_ret
      exact ⟨by rw [HB.out]; rfl, HSK.out⟩
end Tw
end Go.Proofs.YtbfjklpoheooaaaGreatDoor
end
