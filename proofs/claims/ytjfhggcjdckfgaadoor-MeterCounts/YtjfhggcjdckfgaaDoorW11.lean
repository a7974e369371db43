import Derived.Test.YtjfhggcjdckfgaaDoorGR
import Derived.Test.YtjfhggcjdckfgaaDoorGM
import Derived.Deep.QuietTactic
import Derived.BigQuiet
namespace Go.Proofs.YtjfhggcjdckfgaaDoor
set_option linter.unusedSimpArgs false
set_option linter.unusedVariables false
set_option maxRecDepth 100000
namespace Sm
open Go.RowKit

def dv (d : Nat) : Value := .int .u64 (d : Int)
theorem info38 : ∃ i, Tryd.prog.info? 116 = some i ∧ i.zero = some (.int .u64 0) ∧ i.bytes = 8 ∧ i.size = 1 := ⟨_, rfl, by kernel_rfl, by kernel_rfl, by kernel_rfl⟩

set_option maxHeartbeats 1000000 in
theorem times_any (vb cap : Nat) (ds : List Nat) (x : Nat) (w : World) (hx : x ≤ 1099511627776) (hd : ∀ d ∈ ds, d < 65536) (hl : ds.length ≤ 100)
    (hc : ∀ j (h : j < ds.length), w.cell? ⟨vb, j, none⟩ = some (.int .u64 (ds[j] : Int))) :
    Calls Tryd.prog 155 #[.slice (some ⟨vb, 0, none⟩) ds.length cap, .int .u64 (x : Int)] w fun e w' =>
      ∃ v os, e = .returned v ∧ Row w' w.heap.size 116 v (os.map dv) ∧ val os = val ds * x ∧ (∀ d ∈ os, d < 65536) ∧ os.length ≤ ds.length + 3 ∧ ds.length ≤ os.length ∧ Since w w' := by
  obtain ⟨i0, hi, hz, hby, hsz⟩ := info38
  go_enter Tryd.func155, Tryd.ntmps155
  go_wp2_with fail
  go_loopw [5, 6, 7] (fun o c i wr => ∃ (n cc : Nat) (os : List Nat), i = .int .i64 n ∧ c = .int .u64 cc ∧ Row wr w.heap.size 116 o (os.map dv) ∧ os.length = n ∧ val os + 65536 ^ n * cc = val (ds.take n) * x ∧ cc ≤ x ∧ (∀ d ∈ os, d < 65536) ∧ n ≤ ds.length + 3 ∧ (ds.length ≤ n → cc * 65536 ^ (n - ds.length) ≤ x) ∧ Since w wr) (fun _ _ i _ => ds.length + 3 - (intOf i).toNat)
  case atStart => exact ⟨0, 0, [], rfl, rfl, Row.nil _ _ _, rfl, by simp [val], by omega, by simp, by omega, by simp, Since.refl w⟩
  case round =>
    obtain ⟨n, cc, os, rfl, rfl, hR, hn, E, hcc, hos, hn3, hcar, hS⟩ := hrel
    by_cases hlt : n < ds.length
    · have hck : wr.cell? ⟨vb, n, none⟩ = some (.int .u64 (ds[n] : Int)) := by
        have h := hc n hlt
        rw [hS.cell (p := ⟨vb, n, none⟩) (World.block_lt_of_cell? w _ h)]; exact h
      have hdn := hd ds[n] (List.getElem_mem hlt)
      have hpb := prod_bd ds[n] x hdn hx
      have E' := times_in os ds x cc n hn hlt E
      have C' := carry_in cc ds[n] x hcc hdn
      generalize hdd : ds[n] = d at *
      clear hdd E
      have HE : Hid (val (os ++ [(cc + d * x) % 65536]) + 65536 ^ (n + 1) * ((cc + d * x) / 65536) = val (ds.take (n + 1)) * x) := E'
      clear E'
      have hp : ∃ p : Nat, d * x = p := ⟨_, rfl⟩
      obtain ⟨p, hp⟩ := hp
      have hpi : (d : Int) * (x : Int) = (p : Int) := by rw [← hp]; simp
      rw [hp] at hpb C'
      have Hp : Hid (d * x = p) := hp
      clear hp
      have hb63 : (os.map dv).length + 1 ≤ maxLen := by simp [maxLen]; omega
      have hbb : ((os.map dv).length + 1) * 8 ≤ 140737488355328 := by simp; omega
      have hbase : ∀ o, w.heap.size ≤ (wr.alloc o).heap.size := by intro o; have := hS.size; simp; omega
      go_wp2_with (at_builtin; refine wpList_append_lies _ (by rfl) _ _ 225 (by rfl) w.heap.size 116 i0 (.int .u64 0) 1 8 Tryd.underlying225 hi hz hsz hby (by rfl) (by decide) u5 (os.map dv).length (os.map dv) (by rfl) (hR.since ((Since.refl _).alloc _)) ⟨wr.heap.size, 0, none⟩ 1 1 [.int .u64 (((cc : Int) + p) % 65536)] (by rfl) (by rfl) (cell_one_new _ _ _) (fun u hu => by simp at hu; subst hu; rfl) (by decide) hb63 hbb (hbase _) (wr.heap.size + 1) (by simp) ?_; intro g cp w2 hown hgrow hat hlt2)
      have hR2 : Row w2 w.heap.size 116 (.slice (some ⟨g, 0, none⟩) (n + 1) cp) ((os ++ [(cc + d * x) % 65536]).map dv) := by
        have e1 : (os ++ [(cc + d * x) % 65536]).map dv = os.map dv ++ [.int .u64 (((cc : Int) + p) % 65536)] := by rw [Hp.out, List.map_append]; rfl
        have e2 : (os.map dv).length = n := by simp [hn]
        rw [e2] at hown
        unfold Row; rw [e1, List.length_append, e2]; exact hown
      have hS2 : Since w w2 := (hS.alloc _).grown hgrow (fun k hk => hR.own k hk)
      clear hown hgrow hat hR hb63 hbb hbase
      go_wp2_with fail
      go_roundw
      case rel =>
        refine ⟨n + 1, (cc + d * x) / 65536, os ++ [(cc + d * x) % 65536], by go_num, ?_, hR2, by simp [hn], HE.out, by rw [Hp.out]; exact C', ?_, by omega, ?_, hS2⟩
        · rw [Hp.out]; go_num
        · intro y hy
          rcases List.mem_append.1 hy with h | h
          · exact hos y h
          · simp at h; subst h; exact Nat.mod_lt _ (by decide)
        · intro h
          have e : n + 1 - ds.length = 0 := by omega
          rw [e, Nat.pow_zero, Nat.mul_one, Hp.out]; exact C'
      case measure => simp [intOf]; omega
    · by_cases h0 : 0 < cc
      · have hn2 : n < ds.length + 3 := by
          rcases Nat.lt_or_ge n (ds.length + 3) with h | h
          · exact h
          · exfalso
            have h1 := hcar (by omega)
            have h2 : n - ds.length = 3 := by omega
            rw [h2] at h1
            have h3 : 1 * 65536 ^ 3 ≤ cc * 65536 ^ 3 := Nat.mul_le_mul_right _ h0
            have h4 : (65536 : Nat) ^ 3 = 281474976710656 := by decide
            omega
        have et : ds.take n = ds := List.take_of_length_le (by omega)
        have et1 : ds.take (n + 1) = ds := List.take_of_length_le (by omega)
        have HE : Hid (val (os ++ [cc % 65536]) + 65536 ^ (n + 1) * (cc / 65536) = val (ds.take (n + 1)) * x) := by
          rw [et] at E
          rw [et1]
          exact times_out os _ cc n hn E
        clear E et et1
        have HC : Hid (cc / 65536 * 65536 ^ (n + 1 - ds.length) ≤ x) := by
          rw [show n + 1 - ds.length = (n - ds.length) + 1 by omega]
          exact carry_out cc x _ (hcar (by omega))
        clear hcar
        have hcI : (0 : Int) < cc := by omega
        have hge : ¬ ((n : Int) < ds.length) := by omega
        have hb63 : (os.map dv).length + 1 ≤ maxLen := by simp [maxLen]; omega
        have hbb : ((os.map dv).length + 1) * 8 ≤ 140737488355328 := by simp; omega
        have hbase : ∀ o, w.heap.size ≤ (wr.alloc o).heap.size := by intro o; have := hS.size; simp; omega
        go_wp2_with (at_builtin; refine wpList_append_lies _ (by rfl) _ _ 225 (by rfl) w.heap.size 116 i0 (.int .u64 0) 1 8 Tryd.underlying225 hi hz hsz hby (by rfl) (by decide) u5 (os.map dv).length (os.map dv) (by rfl) (hR.since ((Since.refl _).alloc _)) ⟨wr.heap.size, 0, none⟩ 1 1 [.int .u64 ((cc : Int) % 65536)] (by rfl) (by rfl) (cell_one_new _ _ _) (fun u hu => by simp at hu; subst hu; rfl) (by decide) hb63 hbb (hbase _) (wr.heap.size + 1) (by simp) ?_; intro g cp w2 hown hgrow hat hlt2)
        have hR2 : Row w2 w.heap.size 116 (.slice (some ⟨g, 0, none⟩) (n + 1) cp) ((os ++ [cc % 65536]).map dv) := by
          have e1 : (os ++ [cc % 65536]).map dv = os.map dv ++ [.int .u64 ((cc : Int) % 65536)] := by rw [List.map_append]; rfl
          have e2 : (os.map dv).length = n := by simp [hn]
          rw [e2] at hown
          unfold Row; rw [e1, List.length_append, e2]; exact hown
        have hS2 : Since w w2 := (hS.alloc _).grown hgrow (fun k hk => hR.own k hk)
        clear hown hgrow hat hR hb63 hbb hbase
        go_wp2_with fail
        go_roundw
        case rel =>
          refine ⟨n + 1, cc / 65536, os ++ [cc % 65536], by go_num, by go_num, hR2, by simp [hn], HE.out, by omega, ?_, by omega, fun _ => HC.out, hS2⟩
          intro y hy
          rcases List.mem_append.1 hy with h | h
          · exact hos y h
          · simp at h; subst h; exact Nat.mod_lt _ (by decide)
        case measure => simp [intOf]; omega
      · have hz0 : cc = 0 := by omega
        subst hz0
        have et : ds.take n = ds := List.take_of_length_le (by omega)
        have hge : ¬ ((n : Int) < ds.length) := by omega
        rw [et] at E
        have HE : Hid (val os = val ds * x) := by have e := E; simp at e; exact e
        clear E et hcar
        go_wp2_with fail
        go_ret
        exact ⟨_, rfl, os, hR, HE.out, hos, by omega, by omega, hS⟩
end Sm
end Go.Proofs.YtjfhggcjdckfgaaDoor
