import Derived.Test.YtjfhggcjdckfgaaDoorW13
namespace Go.Proofs.YtjfhggcjdckfgaaDoor
set_option linter.unusedSimpArgs false
set_option linter.unusedVariables false
set_option maxRecDepth 100000
namespace Sm
open Go.RowKit

/-- no number of a list divides k -/
def nodiv (k : Nat) (l : List Nat) : Bool := l.all fun p => k % p != 0
theorem nodiv_take (k : Nat) (l : List Nat) (m : Nat) (h : m < l.length) : nodiv k (l.take (m + 1)) = (nodiv k (l.take m) && k % l[m] != 0) := by
  rw [List.take_succ_eq_append_getElem h]; unfold nodiv; rw [List.all_append]; simp
theorem bne_mod (k q : Nat) : ((k : Int) % (q : Int) != 0) = (k % q != 0) := by
  rw [← Int.natCast_emod]
  cases h : k % q with
  | zero => rfl
  | succ n => rw [Bool.eq_iff_iff]; simp; omega
/-- the primes below 2 + j -/
def prTo : Nat → List Nat
  | 0 => []
  | j + 1 => if nodiv (2 + j) (prTo j) then prTo j ++ [2 + j] else prTo j
theorem pr_ge (j : Nat) : ∀ p ∈ prTo j, 2 ≤ p ∧ p < 2 + j := by
  induction j with
  | zero => intro p h; cases h
  | succ j ih =>
    intro p h
    unfold prTo at h
    split at h
    · rcases List.mem_append.1 h with h | h
      · have := ih p h; omega
      · simp at h; omega
    · have := ih p h; omega
theorem pr_mono (j : Nat) : (prTo j).length ≤ (prTo (j + 1)).length := by
  conv => rhs; unfold prTo
  split
  · simp
  · exact Nat.le_refl _
theorem pr_mono' (i j : Nat) (h : i ≤ j) : (prTo i).length ≤ (prTo j).length := by
  induction j with
  | zero => rw [Nat.le_zero.1 h]; exact Nat.le_refl _
  | succ j ih =>
    rcases Nat.lt_or_ge i (j + 1) with h1 | h1
    · exact Nat.le_trans (ih (by omega)) (pr_mono j)
    · rw [show i = j + 1 by omega]; exact Nat.le_refl _
theorem pr_309 : (prTo 309).length = 63 := by decide +kernel
theorem pr_310 : (prTo 310).length = 64 := by decide +kernel
def iv (d : Nat) : Value := .int .i64 (d : Int)
theorem info3 : ∃ i, Tryd.prog.info? 3 = some i ∧ i.zero = some (.int .i64 0) ∧ i.bytes = 8 ∧ i.size = 1 := ⟨_, rfl, by kernel_rfl, by kernel_rfl, by kernel_rfl⟩
theorem len_row {w : World} {B : Nat} {e : TypeId} {v : Value} {xs : List Value} (h : Row w B e v xs) (t : TypeId) (ht : Tryd.prog.underlying t = some (.slice (Tryd.prog.elem t))) :
    ∀ w' ty, (Builtin.len_ #[t] ty #[v]).run Tryd.prog w' = .ok (goInt xs.length) w' := by
  intro w' ty
  rcases h.form with ⟨rfl, rfl⟩ | ⟨g, cap, rfl, _⟩
  · exact run_len_slice w' t ty none 0 0 ht
  · exact run_len_slice w' t ty _ _ _ ht

set_option maxHeartbeats 1000000 in
theorem primes_any (w : World) :
    Calls Tryd.prog 76 #[.int .i64 64] w fun e w' => ∃ g cap, e = .returned (.slice (some ⟨g, 0, none⟩) 64 cap) ∧ Row w' w.heap.size 3 (.slice (some ⟨g, 0, none⟩) 64 cap) ((prTo 310).map iv) ∧ Since w w' := by
  obtain ⟨i0, hi, hz, hby, hsz⟩ := info3
  go_enter Tryd.func76, Tryd.ntmps76
  go_wp2_with fail
  go_loopw [3, 4] (fun v k wr => ∃ j : Nat, j ≤ 310 ∧ k = .int .i64 ((2 + j : Nat) : Int) ∧ Row wr w.heap.size 3 v ((prTo j).map iv) ∧ Since w wr) (fun _ k _ => 312 - (intOf k).toNat)
  case atStart => exact ⟨0, by omega, rfl, Row.nil _ _ _, Since.refl w⟩
  case round =>
    obtain ⟨j, hj, rfl, hR, hS⟩ := hrel
    have hlen := len_row hR 51 (by kernel_rfl)
    have hpr := pr_ge j
    rw [List.length_map] at hlen
    by_cases hlt : (prTo j).length < 64
    · have hj2 : j < 310 := by
        rcases Nat.lt_or_ge j 310 with h | h
        · exact h
        · exfalso; have e : j = 310 := by omega
          rw [e, pr_310] at hlt; omega
      have Hst : Hid (prTo (j + 1) = if nodiv (2 + j) (prTo j) then prTo j ++ [2 + j] else prTo j) := rfl
      generalize prTo j = l at *
      generalize hkk : 2 + j = k at *
      have HK : Hid (2 + j = k) := hkk
      have hk1 : 2 ≤ k := by omega
      have hk2 : k < 312 := by omega
      clear hkk
      go_wp2_with fail
      go_loop [16, 5] (fun i b => ∃ m : Nat, m ≤ l.length ∧ i = .int .i64 m ∧ b = .bool (nodiv k (l.take m))) (fun i _ => l.length - (intOf i).toNat)
      case atStart => exact ⟨0, by omega, rfl, rfl⟩
      case round =>
        obtain ⟨m, hm, rfl, rfl⟩ := hrel
        by_cases hml : m < l.length
        · rcases hR.form with ⟨_, h0⟩ | ⟨g, cap, hve, hg1, hg2⟩
          · exfalso; have := congrArg List.length h0; simp at this; subst this; simp at hml
          rw [List.length_map] at hve
          subst hve
          have hc : wr.cell? ⟨g, m, none⟩ = some (.int .i64 (l[m] : Int)) := by
            rw [hR.cell (by simp) m (by simpa using hml)]; simp [iv]
          have hp2 := (hpr l[m] (List.getElem_mem hml)).1
          have Hnd : Hid (nodiv k (l.take (m + 1)) = (nodiv k (l.take m) && k % l[m] != 0)) := nodiv_take k l m hml
          generalize l[m] = q at *
          have hq0 : ((q : Int) == 0) = false := by simp; omega
          cases hb : nodiv k (l.take m)
          · have HB := (show Hid (nodiv k (l.take m) = false) from hb)
            clear hb
            go_wp2_with fail
            go_round
            case rel => exact ⟨m + 1, by omega, by go_num, by rw [Hnd.out, HB.out]; rfl⟩
            case measure => simp [intOf]; omega
          · have HB := (show Hid (nodiv k (l.take m) = true) from hb)
            clear hb
            go_wp2_with fail
            exact ⟨⟨m + 1, by omega, by go_num, by rw [Hnd.out, HB.out, bne_mod]; rfl⟩, by simp [intOf]; omega⟩
        · have hme : l.take m = l := List.take_of_length_le (by omega)
          rw [hme]
          clear hme
          cases hb : nodiv k l
          · have HB := (show Hid (nodiv k l = false) from hb)
            clear hb
            go_wp2_with fail
            go_roundw
            case rel =>
              have e : prTo (j + 1) = l := by rw [Hst.out, HB.out]; rfl
              exact ⟨j + 1, by omega, by rw [show ((2 + (j + 1) : Nat) : Int) = (k : Int) + 1 by have := HK.out; omega], by rw [e]; exact hR, hS⟩
            case measure => simp [intOf]; omega
          · have HB := (show Hid (nodiv k l = true) from hb)
            clear hb
            have hb63 : (l.map iv).length + 1 ≤ maxLen := by simp [maxLen]; omega
            have hbb : ((l.map iv).length + 1) * 8 ≤ 140737488355328 := by simp; omega
            have hbase : ∀ o, w.heap.size ≤ (wr.alloc o).heap.size := by intro o; have := hS.size; simp; omega
            go_wp2_with (at_builtin; refine wpList_append_lies _ (by rfl) _ _ 51 (by rfl) w.heap.size 3 i0 (.int .i64 0) 1 8 Tryd.underlying51 hi hz hsz hby (by rfl) (by decide) u3 (l.map iv).length (l.map iv) (by rfl) (hR.since ((Since.refl _).alloc _)) ⟨wr.heap.size, 0, none⟩ 1 1 [.int .i64 (k : Int)] (by rfl) (by rfl) (one_at _ _ _ _ rfl) (fun u hu => by simp at hu; subst hu; rfl) (by decide) hb63 hbb (hbase _) (wr.heap.size + 1) (by simp) ?_; intro g cp w2 hown hgrow hat hlt2)
            have hR2 : Row w2 w.heap.size 3 (.slice (some ⟨g, 0, none⟩) (l.length + 1) cp) ((l ++ [k]).map iv) := by
              have e1 : (l ++ [k]).map iv = l.map iv ++ [.int .i64 (k : Int)] := by rw [List.map_append]; rfl
              unfold Row
              rw [e1, List.length_append]
              rw [List.length_map] at hown ⊢
              exact hown
            have hS2 : Since w w2 := (hS.alloc _).grown hgrow (fun k hk => hR.own k hk)
            clear hown hgrow hat hR hb63 hbb hbase hlen
            go_wp2_with fail
            go_roundw
            case rel =>
              have e : prTo (j + 1) = l ++ [k] := by rw [Hst.out, HB.out]; rfl
              exact ⟨j + 1, by omega, by rw [show ((2 + (j + 1) : Nat) : Int) = (k : Int) + 1 by have := HK.out; omega], by rw [e]; exact hR2, hS2⟩
            case measure => simp [intOf]; omega
    · have hj2 : j = 310 := by
        rcases Nat.lt_or_ge j 310 with h | h
        · exfalso; have h1 := pr_mono' j 309 (by omega); rw [pr_309] at h1; omega
        · omega
      subst hj2
      rw [pr_310] at hlen
      go_wp2_with fail
      go_ret
      rcases hR.form with ⟨_, h0⟩ | ⟨g, cap, hve, hg1, hg2⟩
      · exfalso; have := congrArg List.length h0; simp [pr_310] at this
      rw [List.length_map, pr_310] at hve
      exact ⟨g, cap, by rw [← hve]; rfl, by rw [← hve]; exact hR, hS⟩
end Sm
end Go.Proofs.YtjfhggcjdckfgaaDoor
