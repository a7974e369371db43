import Derived.Deep.QuietTactic
import Derived.BigQuiet
import Derived.Test.YtbfjklpoheooaaaGreatDoorJ15
import Derived.Test.YtbfjklpoheooaaaGreatDoorJ19
set_option linter.unusedSimpArgs false
set_option linter.unusedVariables false
section
namespace Go.Proofs.YtbfjklpoheooaaaGreatDoor
set_option maxRecDepth 100000
namespace Sm
open Go.RowKit
def dv (d : Nat) : Value := .int .u64 (d : Int)
theorem info38 : ∃ i, Tryz.prog.info? 73 = some i ∧ i.zero = some (.int .u64 0) ∧ i.bytes = 8 ∧ i.size = 1 := ⟨_, rfl, by kernel_rfl, by kernel_rfl, by kernel_rfl⟩
set_option maxHeartbeats 1000000 in
theorem times_any (vb cap : Nat) (ds : List Nat) (x : Nat) (w : World) (hx : x ≤ 1099511627776) (hd : ∀ d ∈ ds, d < 65536) (hl : ds.length ≤ 100)
    (hc : ∀ j (h : j < ds.length), w.cell? ⟨vb, j, none⟩ = some (.int .u64 (ds[j] : Int))) :
    Calls Tryz.prog 113 #[.slice (some ⟨vb, 0, none⟩) ds.length cap, .int .u64 (x : Int)] w fun e w' =>
      ∃ v os, e = .returned v ∧ Row w' w.heap.size 73 v (os.map dv) ∧ val os = val ds * x ∧ (∀ d ∈ os, d < 65536) ∧ os.length ≤ ds.length + 3 ∧ ds.length ≤ os.length ∧ Since w w' := by
  obtain ⟨i0, hi, hz, hby, hsz⟩ := info38
  go_enter Tryz.func113, Tryz.ntmps113
  go_wp2_with fail
  go_loopw [5, 6, 7] (fun o c i wr => ∃ (n cc : Nat) (os : List Nat), i = .int .i64 n ∧ c = .int .u64 cc ∧ Row wr w.heap.size 73 o (os.map dv) ∧ os.length = n ∧ val os + 65536 ^ n * cc = val (ds.take n) * x ∧ cc ≤ x ∧ (∀ d ∈ os, d < 65536) ∧ n ≤ ds.length + 3 ∧ (ds.length ≤ n → cc * 65536 ^ (n - ds.length) ≤ x) ∧ Since w wr) (fun _ _ i _ => ds.length + 3 - (intOf i).toNat)
  case atStart => exact ⟨0, 0, [], rfl, rfl, Row.nil _ _ _, rfl, by simp [val], by omega, by simp, by omega, by simp, Since.refl w⟩
  case round =>
    obtain ⟨n, cc, os, rfl, rfl, hR, hn, E, hcc, hos, hn3, hcar, hS⟩ := hrel
    by_cases hlt : n < ds.length
    · have hck : wr.cell? ⟨vb, n, none⟩ = some (.int .u64 (ds[n] : Int)) := by
        have h := hc n hlt
        rw [hS.cell (p := ⟨vb, n, none⟩) (World.block_lt_of_cell? w _ h)]; exact h
      have hdn := hd ds[n] (List.getElem_mem hlt)
      have hpb := prod_bd ds[n] x hdn hx
      have E' := times_in os ds x cc n hn hlt E
      have C' := carry_in cc ds[n] x hcc hdn
      generalize hdd : ds[n] = d at *
      clear hdd E
      have HE : Hid (val (os ++ [(cc + d * x) % 65536]) + 65536 ^ (n + 1) * ((cc + d * x) / 65536) = val (ds.take (n + 1)) * x) := E'
      clear E'
      have hp : ∃ p : Nat, d * x = p := ⟨_, rfl⟩
      obtain ⟨p, hp⟩ := hp
      have hpi : (d : Int) * (x : Int) = (p : Int) := by rw [← hp]; simp
      rw [hp] at hpb C'
      have Hp : Hid (d * x = p) := hp
      clear hp
      have hb63 : (os.map dv).length + 1 ≤ maxLen := by simp [maxLen]; omega
      have hbb : ((os.map dv).length + 1) * 8 ≤ 140737488355328 := by simp; omega
      have hbase : ∀ o, w.heap.size ≤ (wr.alloc o).heap.size := by intro o; have := hS.size; simp; omega
      go_wp2_with (at_builtin; refine wpList_append_lies _ (by rfl) _ _ 170 (by rfl) w.heap.size 73 i0 (.int .u64 0) 1 8 Tryz.underlying170 hi hz hsz hby (by rfl) (by decide) u5 (os.map dv).length (os.map dv) (by rfl) (hR.since ((Since.refl _).alloc _)) ⟨wr.heap.size, 0, none⟩ 1 1 [.int .u64 (((cc : Int) + p) % 65536)] (by rfl) (by rfl) (cell_one_new _ _ _) (fun u hu => by simp at hu; subst hu; rfl) (by decide) hb63 hbb (hbase _) (wr.heap.size + 1) (by simp) ?_; intro g cp w2 hown hgrow hat hlt2)
      have hR2 : Row w2 w.heap.size 73 (.slice (some ⟨g, 0, none⟩) (n + 1) cp) ((os ++ [(cc + d * x) % 65536]).map dv) := by
        have e1 : (os ++ [(cc + d * x) % 65536]).map dv = os.map dv ++ [.int .u64 (((cc : Int) + p) % 65536)] := by rw [Hp.out, List.map_append]; rfl
        have e2 : (os.map dv).length = n := by simp [hn]
        rw [e2] at hown
        unfold Row; rw [e1, List.length_append, e2]; exact hown
      have hS2 : Since w w2 := (hS.alloc _).grown hgrow (fun k hk => hR.own k hk)
      clear hown hgrow hat hR hb63 hbb hbase
      go_wp2_with fail
      go_roundw
      case rel =>
        refine ⟨n + 1, (cc + d * x) / 65536, os ++ [(cc + d * x) % 65536], by go_num, ?_, hR2, by simp [hn], HE.out, by rw [Hp.out]; exact C', ?_, by omega, ?_, hS2⟩
        · rw [Hp.out]; go_num
        · intro y hy
          rcases List.mem_append.1 hy with h | h
          · exact hos y h
          · simp at h; subst h; exact Nat.mod_lt _ (by decide)
        · intro h
          have e : n + 1 - ds.length = 0 := by omega
          rw [e, Nat.pow_zero, Nat.mul_one, Hp.out]; exact C'
      case measure => simp [intOf]; omega
    · by_cases h0 : 0 < cc
      · have hn2 : n < ds.length + 3 := by
          rcases Nat.lt_or_ge n (ds.length + 3) with h | h
          · exact h
          · exfalso
            have h1 := hcar (by omega)
            have h2 : n - ds.length = 3 := by omega
            rw [h2] at h1
            have h3 : 1 * 65536 ^ 3 ≤ cc * 65536 ^ 3 := Nat.mul_le_mul_right _ h0
            have h4 : (65536 : Nat) ^ 3 = 281474976710656 := by decide
            omega
        have et : ds.take n = ds := List.take_of_length_le (by omega)
        have et1 : ds.take (n + 1) = ds := List.take_of_length_le (by omega)
        have HE : Hid (val (os ++ [cc % 65536]) + 65536 ^ (n + 1) * (cc / 65536) = val (ds.take (n + 1)) * x) := by
          rw [et] at E
          rw [et1]
          exact times_out os _ cc n hn E
        clear E et et1
        have HC : Hid (cc / 65536 * 65536 ^ (n + 1 - ds.length) ≤ x) := by
          rw [show n + 1 - ds.length = (n - ds.length) + 1 by omega]
          exact carry_out cc x _ (hcar (by omega))
        clear hcar
        have hcI : (0 : Int) < cc := by omega
        have hge : ¬ ((n : Int) < ds.length) := by omega
        have hb63 : (os.map dv).length + 1 ≤ maxLen := by simp [maxLen]; omega
        have hbb : ((os.map dv).length + 1) * 8 ≤ 140737488355328 := by simp; omega
        have hbase : ∀ o, w.heap.size ≤ (wr.alloc o).heap.size := by intro o; have := hS.size; simp; omega
        go_wp2_with (at_builtin; refine wpList_append_lies _ (by rfl) _ _ 170 (by rfl) w.heap.size 73 i0 (.int .u64 0) 1 8 Tryz.underlying170 hi hz hsz hby (by rfl) (by decide) u5 (os.map dv).length (os.map dv) (by rfl) (hR.since ((Since.refl _).alloc _)) ⟨wr.heap.size, 0, none⟩ 1 1 [.int .u64 ((cc : Int) % 65536)] (by rfl) (by rfl) (cell_one_new _ _ _) (fun u hu => by simp at hu; subst hu; rfl) (by decide) hb63 hbb (hbase _) (wr.heap.size + 1) (by simp) ?_; intro g cp w2 hown hgrow hat hlt2)
        have hR2 : Row w2 w.heap.size 73 (.slice (some ⟨g, 0, none⟩) (n + 1) cp) ((os ++ [cc % 65536]).map dv) := by
          have e1 : (os ++ [cc % 65536]).map dv = os.map dv ++ [.int .u64 ((cc : Int) % 65536)] := by rw [List.map_append]; rfl
          have e2 : (os.map dv).length = n := by simp [hn]
          rw [e2] at hown
          unfold Row; rw [e1, List.length_append, e2]; exact hown
        have hS2 : Since w w2 := (hS.alloc _).grown hgrow (fun k hk => hR.own k hk)
        clear hown hgrow hat hR hb63 hbb hbase
        go_wp2_with fail
        go_roundw
        case rel =>
          refine ⟨n + 1, cc / 65536, os ++ [cc % 65536], by go_num, by go_num, hR2, by simp [hn], HE.out, by omega, ?_, by omega, fun _ => HC.out, hS2⟩
          intro y hy
          rcases List.mem_append.1 hy with h | h
          · exact hos y h
          · simp at h; subst h; exact Nat.mod_lt _ (by decide)
        case measure => simp [intOf]; omega
      · have hz0 : cc = 0 := by omega
        subst hz0
        have et : ds.take n = ds := List.take_of_length_le (by omega)
        have hge : ¬ ((n : Int) < ds.length) := by omega
        rw [et] at E
        have HE : Hid (val os = val ds * x) := by have e := E; simp at e; exact e
        clear E et hcar
        go_wp2_with fail
        go_ret
        exact ⟨_, rfl, os, hR, HE.out, hos, by omega, by omega, hS⟩
end Sm
end Go.Proofs.YtbfjklpoheooaaaGreatDoor
end
section
namespace Go.Proofs.YtbfjklpoheooaaaGreatDoor
set_option maxRecDepth 100000
namespace Sm
open Go.RowKit
theorem rep_lt (n : Nat) : ∀ d ∈ List.replicate n 0, d < 65536 := by intro d h; rw [List.eq_of_mem_replicate h]; decide
theorem val_rep (n : Nat) : val (List.replicate n 0) = 0 := by
  induction n with
  | zero => rfl
  | succ n ih => rw [List.replicate_succ]; simp [val, ih]
theorem made_rep (n : Nat) : (madeCells (Value.int IntKind.u64 0).cells n).toList = (List.replicate n 0).map dv := by
  apply List.ext_getElem?
  intro i
  by_cases h : i < n
  · simp [madeCells, Value.cells, h, Nat.mod_one, dv]
  · simp [madeCells, h]
theorem val_zeros (a : List Nat) : val (a ++ [0]) = val a := by rw [val_snoc]; simp
theorem row_lt {w : World} {B : Nat} {e : TypeId} {g n cap : Nat} {xs : List Value} (h : Row w B e (.slice (some ⟨g, 0, none⟩) n cap) xs) : g < w.heap.size := by
  rcases h.form with ⟨h, _⟩ | ⟨g', c', h, _, h2⟩
  · cases h
  · injection h with h _ _; injection h with h; injection h with h _; rw [h]; exact h2
theorem row_snoc {w : World} {B g cp d : Nat} {os : List Nat} (h : w.ownsRow B 73 1 (.slice (some ⟨g, 0, none⟩) ((os.map dv).length + 1) cp) ((os.map dv).length + 1) (os.map dv ++ [.int .u64 (d : Int)])) :
    Row w B 73 (.slice (some ⟨g, 0, none⟩) (os ++ [d]).length cp) ((os ++ [d]).map dv) := by
  have e1 : (os ++ [d]).map dv = os.map dv ++ [.int .u64 (d : Int)] := by rw [List.map_append]; rfl
  unfold Row
  rw [e1, List.length_append, List.length_append]
  rw [List.length_map] at h ⊢
  exact h
def lenV : Value → Nat
  | .slice _ n _ => n
  | _ => 0
set_option maxHeartbeats 1000000 in
theorem above_any (x k p : Nat) (w : World) (hx : x ≤ 1099511627776) (hk : k ≤ 3) (hp : p < 65536) :
    Calls Tryz.prog 69 #[.int .u64 (x : Int), .int .i64 (k : Int), .int .u64 (p : Int)] w fun e w' =>
      e = .returned (.bool (decide (p * 65536 ^ (2 * k) < x ^ k))) ∧ Since w w' := by
  obtain ⟨i0, hi, hz, hby, hsz⟩ := info38
  go_enter Tryz.func69, Tryz.ntmps69
  go_wp2_with fail
  go_loopw [12, 7] (fun i v wr => ∃ (n : Nat) (g cap : Nat) (os : List Nat), n ≤ k ∧ i = .int .i64 n ∧ v = .slice (some ⟨g, 0, none⟩) os.length cap ∧ Row wr w.heap.size 73 v (os.map dv) ∧ val os = x ^ n ∧ (∀ d ∈ os, d < 65536) ∧ 0 < os.length ∧ os.length ≤ 1 + 3 * n ∧ Since w wr) (fun i _ _ => k - (intOf i).toNat)
  case atStart => exact ⟨0, w.heap.size, 1, [1], by omega, rfl, rfl, World.ownsRow_lit w _ 1 (Nat.le_refl _) (by unfold maxLen; omega) rfl, rfl, by simp, by simp, by simp, (Since.refl w).alloc _⟩
  case round =>
    obtain ⟨n, g, cap, os, hn, rfl, rfl, hR, hv, hos, hpos, hlen, hS⟩ := hrel
    by_cases hlt : n < k
    · go_wp2_with fail
      refine (times_any g cap os x wr hx hos (by omega) (fun j hj => ?_)).mono ?_
      · have := hR.cell (by simp) j (by simpa using hj)
        rw [this]; simp [dv]
      rintro e w2 ⟨v2, os2, rfl, hR2, hv2, hos2, hl2, hl2', hS2⟩
      have hR3 : Row w2 w.heap.size 73 v2 (os2.map dv) := by
        rcases hR2.2 with h | ⟨g, cap, cur, h1, h2, h3⟩
        · exact ⟨hR2.1, Or.inl h⟩
        · exact ⟨hR2.1, Or.inr ⟨g, cap, cur, h1, Nat.le_trans hS.size h2, h3⟩⟩
      rcases hR3.form with ⟨_, h0⟩ | ⟨g2, cap2, hv2e, hg1, hg2⟩
      · exfalso; have := congrArg List.length h0; simp at this; subst this; have : ([] : List Nat).length = 0 := rfl; omega
      rw [List.length_map] at hv2e
      subst hv2e
      have hS3 := hS.trans hS2
      clear hR hR2
      go_wp2_with fail
      go_roundw
      case rel => exact ⟨n + 1, g2, cap2, os2, by omega, by go_num, rfl, hR3, by rw [hv2, hv, Nat.pow_succ], hos2, by omega, by omega, hS3⟩
      case measure => simp [intOf]; omega
    · have hnk : n = k := by omega
      subst hnk
      have hmk := run_make (P := Tryz.prog) wr 170 73 i0 _ Tryz.underlying170 hi hz .i64 .i64 (2 * (n : Int)) (2 * (n : Int)) (by omega) (by omega) (by rw [hby]; omega) (by omega)
      have t2 : (2 * (n : Int)).toNat = 2 * n := by omega
      rw [hsz, t2, Nat.mul_one] at hmk
      have hRm : Row (wr.alloc (.cells (madeCells #[.int .u64 0] (2 * n)) 73)) w.heap.size 73 (.slice (some ⟨wr.heap.size, 0, none⟩) (2 * n) (2 * n)) ((List.replicate (2 * n) 0).map dv) := by
        have h := World.ownsRow_lit (base := w.heap.size) (e := 73) (size := 1) wr (madeCells (Value.int IntKind.u64 0).cells (2 * n)) (2 * n) hS.size (by unfold maxLen; omega) (by rw [size_madeCells]; omega)
        rw [made_rep] at h
        show World.ownsRow _ _ _ _ _ _ _
        rw [List.length_map, List.length_replicate]
        exact h
      have hb63 : (List.map dv (List.replicate (2 * n) 0)).length + 1 ≤ maxLen := by simp [maxLen]; omega
      have hbb : ((List.map dv (List.replicate (2 * n) 0)).length + 1) * 8 ≤ 140737488355328 := by simp; omega
      have hbase : ∀ o o', w.heap.size ≤ ((wr.alloc o).alloc o').heap.size := by intro o o'; have := hS.size; simp; omega
      have hgl : g < wr.heap.size := row_lt hR
      go_wp2_with (at_builtin; refine wpList_append_lies _ (by rfl) _ _ 170 (by rfl) w.heap.size 73 i0 (.int .u64 0) 1 8 Tryz.underlying170 hi hz hsz hby (by rfl) (by decide) (.slice (some ⟨wr.heap.size, 0, none⟩) (2 * n) (2 * n)) (List.map dv (List.replicate (2 * n) 0)).length ((List.replicate (2 * n) 0).map dv) (by rfl) (hRm.since ((Since.refl _).alloc _)) ⟨wr.heap.size + 1, 0, none⟩ 1 1 [.int .u64 (p : Int)] (by rfl) (by rfl) (one_at _ _ _ _ (by simp)) (fun u hu => by simp at hu; subst hu; rfl) (by decide) hb63 hbb (hbase _ _) (wr.heap.size + 2) (by simp) ?_; intro gw cpw w2 hown hgrow hat hlt2)
      have hRw : Row w2 w.heap.size 73 (.slice (some ⟨gw, 0, none⟩) (2 * n + 1) cpw) ((List.replicate (2 * n) 0 ++ [p]).map dv) := by
        have e1 : (List.replicate (2 * n) 0 ++ [p]).map dv = (List.replicate (2 * n) 0).map dv ++ [.int .u64 (p : Int)] := by rw [List.map_append]; rfl
        have e2 : ((List.replicate (2 * n) 0).map dv).length = 2 * n := by simp
        rw [e2] at hown
        unfold Row; rw [e1, List.length_append, e2]; exact hown
      have hRv : Row w2 w.heap.size 73 (.slice (some ⟨g, 0, none⟩) os.length cap) (os.map dv) :=
        World.ownsRow.kept (World.ownsRow.alloc (World.ownsRow.alloc hR _) _) hgrow (Or.inr (by simp [Value.ownBlock]; omega))
      have hne : g ≠ gw := by
        simp [Value.ownBlock] at hat
        omega
      have hS2 : Since w w2 := ((hS.alloc _).alloc _).grown hgrow (fun k hk => hRm.own k hk)
      clear hown hgrow hat hR hb63 hbb hbase hRm hmk hgl
      have hws : val (List.replicate (2 * n) 0 ++ [p]) = p * 65536 ^ (2 * n) := by rw [val_snoc, val_rep, List.length_replicate, Nat.zero_add, Nat.mul_comm]
      have hwd : ∀ d ∈ List.replicate (2 * n) 0 ++ [p], d < 65536 := by
        intro d hd
        rcases List.mem_append.1 hd with h | h
        · exact rep_lt _ d h
        · simp at h; subst h; exact hp
      have hwl : (List.replicate (2 * n) 0 ++ [p]).length = 2 * n + 1 := by simp
      generalize List.replicate (2 * n) 0 ++ [p] = ws at *
      rw [← hwl] at hRw ⊢
      have Hv : Hid (val os = x ^ n) := hv
      have Hws : Hid (val ws = p * 65536 ^ (2 * n)) := hws
      have Hwl : Hid (ws.length = 2 * n + 1) := hwl
      have hw7 : ws.length ≤ 7 := by omega
      clear hv hws hwl t2
      go_wp2_with fail
      go_loopw [7] (fun v wr2 => ∃ (g cap : Nat) (os : List Nat), v = .slice (some ⟨g, 0, none⟩) os.length cap ∧ Row wr2 w.heap.size 73 v (os.map dv) ∧ Row wr2 w.heap.size 73 (.slice (some ⟨gw, 0, none⟩) ws.length cpw) (ws.map dv) ∧ g ≠ gw ∧ val os = x ^ n ∧ (∀ d ∈ os, d < 65536) ∧ os.length ≤ 10 ∧ Since w wr2) (fun v _ => 2 * n + 1 - lenV v)
      case atStart => exact ⟨g, cap, os, rfl, hRv, hRw, hne, Hv.out, hos, by omega, hS2⟩
      case round =>
        clear hRv hne Hv hos hpos hlen hS2 hRw
        obtain ⟨g, cap, os, rfl, hRv, hRw, hne, hv, hos, hol, hS2⟩ := hrel
        have Hv : Hid (val os = x ^ n) := hv
        clear hv
        have lv : g < wr.heap.size := row_lt hRv
        have lw : gw < wr.heap.size := row_lt hRw
        have hbase : ∀ o, w.heap.size ≤ (wr.alloc o).heap.size := by intro o; have := hS2.size; simp; omega
        by_cases hlt : os.length < ws.length
        · have hb63 : (os.map dv).length + 1 ≤ maxLen := by simp [maxLen]; omega
          have hbb : ((os.map dv).length + 1) * 8 ≤ 140737488355328 := by simp; omega
          have HR := hRv
          go_wp2_with (at_builtin; refine wpList_append_lies _ (by rfl) _ _ 170 (by rfl) w.heap.size 73 i0 (.int .u64 0) 1 8 Tryz.underlying170 hi hz hsz hby (by rfl) (by decide) (.slice (some ⟨g, 0, none⟩) os.length cap) (os.map dv).length (os.map dv) (by rfl) (HR.since ((Since.refl _).alloc _)) ⟨wr.heap.size, 0, none⟩ 1 1 [.int .u64 0] (by rfl) (by rfl) (one_at _ _ _ _ rfl) (fun u hu => by simp at hu; subst hu; rfl) (by decide) hb63 hbb (hbase _) (wr.heap.size + 1) (by simp) ?_; intro g2 cp2 w3 hown hgrow hat hlt3)
          have hR2 : Row w3 w.heap.size 73 (.slice (some ⟨g2, 0, none⟩) (os ++ [0]).length cp2) ((os ++ [0]).map dv) := row_snoc hown
          have hRw2 : Row w3 w.heap.size 73 (.slice (some ⟨gw, 0, none⟩) ws.length cpw) (ws.map dv) := World.ownsRow.kept (World.ownsRow.alloc hRw _) hgrow (Or.inr (by simp [Value.ownBlock]; omega))
          have hne2 : g2 ≠ gw := by simp [Value.ownBlock] at hat; omega
          have hS3 : Since w w3 := (hS2.alloc _).grown hgrow (fun k hk => hRv.own k hk)
          clear hown hgrow hat hRv hRw hb63 hbb hbase HR
          go_wp2_with fail
          go_roundw
          case rel =>
            refine ⟨g2, cp2, os ++ [0], by simp, by simpa using hR2, hRw2, hne2, by rw [val_zeros]; exact Hv.out, ?_, by simp; omega, hS3⟩
            intro y hy
            rcases List.mem_append.1 hy with h | h
            · exact hos y h
            · simp at h; omega
          case measure => have := Hwl.out; simp [lenV]; omega
        · go_wp2_with fail
          go_loopw [8] (fun u wr2 => ∃ (gw cpw : Nat) (ws : List Nat), u = .slice (some ⟨gw, 0, none⟩) ws.length cpw ∧ Row wr2 w.heap.size 73 u (ws.map dv) ∧ Row wr2 w.heap.size 73 (.slice (some ⟨g, 0, none⟩) os.length cap) (os.map dv) ∧ g ≠ gw ∧ val ws = p * 65536 ^ (2 * n) ∧ (∀ d ∈ ws, d < 65536) ∧ ws.length ≤ os.length ∧ Since w wr2) (fun v _ => os.length - lenV v)
          case atStart => exact ⟨gw, cpw, ws, rfl, hRw, hRv, hne, Hws.out, hwd, by omega, hS2⟩
          case round =>
            clear hRw hRv hne Hws hwd hS2 Hwl hw7 lw lv hbase hlt
            obtain ⟨gw, cpw, ws, rfl, hRw, hRv, hne, hws, hwd, hwl, hS2⟩ := hrel
            have Hws : Hid (val ws = p * 65536 ^ (2 * n)) := hws
            clear hws
            have lv : g < wr.heap.size := row_lt hRv
            have lw : gw < wr.heap.size := row_lt hRw
            have hbase : ∀ o, w.heap.size ≤ (wr.alloc o).heap.size := by intro o; have := hS2.size; simp; omega
            by_cases hlt : ws.length < os.length
            · have hb63 : (ws.map dv).length + 1 ≤ maxLen := by simp [maxLen]; omega
              have hbb : ((ws.map dv).length + 1) * 8 ≤ 140737488355328 := by simp; omega
              have HR := hRw
              go_wp2_with (at_builtin; refine wpList_append_lies _ (by rfl) _ _ 170 (by rfl) w.heap.size 73 i0 (.int .u64 0) 1 8 Tryz.underlying170 hi hz hsz hby (by rfl) (by decide) (.slice (some ⟨gw, 0, none⟩) ws.length cpw) (ws.map dv).length (ws.map dv) (by rfl) (HR.since ((Since.refl _).alloc _)) ⟨wr.heap.size, 0, none⟩ 1 1 [.int .u64 0] (by rfl) (by rfl) (one_at _ _ _ _ rfl) (fun u hu => by simp at hu; subst hu; rfl) (by decide) hb63 hbb (hbase _) (wr.heap.size + 1) (by simp) ?_; intro g2 cp2 w3 hown hgrow hat hlt3)
              have hR2 : Row w3 w.heap.size 73 (.slice (some ⟨g2, 0, none⟩) (ws ++ [0]).length cp2) ((ws ++ [0]).map dv) := row_snoc hown
              have hRv2 : Row w3 w.heap.size 73 (.slice (some ⟨g, 0, none⟩) os.length cap) (os.map dv) := World.ownsRow.kept (World.ownsRow.alloc hRv _) hgrow (Or.inr (by simp [Value.ownBlock]; omega))
              have hne2 : g ≠ g2 := by simp [Value.ownBlock] at hat; omega
              have hS3 : Since w w3 := (hS2.alloc _).grown hgrow (fun k hk => hRw.own k hk)
              clear hown hgrow hat hRv hRw hb63 hbb hbase HR
              go_wp2_with fail
              go_roundw
              case rel =>
                refine ⟨g2, cp2, ws ++ [0], by simp, by simpa using hR2, hRv2, hne2, by rw [val_zeros]; exact Hws.out, ?_, by simp; omega, hS3⟩
                intro y hy
                rcases List.mem_append.1 hy with h | h
                · exact hwd y h
                · simp at h; omega
              case measure => simp [lenV]; omega
            · go_wp2_with fail
              have hleq : os.length = ws.length := by omega
              go_loopw [9] (fun i wr2 => ∃ m : Nat, m ≤ os.length ∧ i = .int .i64 ((m : Int) - 1) ∧ os.drop m = ws.drop m ∧ Since wr wr2) (fun i _ => (intOf i + 1).toNat)
              case atStart => exact ⟨os.length, Nat.le_refl _, rfl, by rw [List.drop_length, hleq, List.drop_length], Since.refl _⟩
              case round =>
                clear hbase
                have hRv' := hRv
                have hRw' := hRw
                have hS2' := hS2
                clear hRv hRw hS2
                obtain ⟨m, hm, rfl, hdr, hSr⟩ := hrel
                have hRv := hRv'.since hSr
                have hRw := hRw'.since hSr
                have hS2 := hS2'.trans hSr
                clear hRv' hRw' hS2'
                have HD : Hid (os.drop m = ws.drop m) := hdr
                clear hdr
                cases m with
                | zero =>
                  go_wp2_with fail
                  go_ret
                  refine ⟨?_, hS2⟩
                  have e : os = ws := by have := HD.out; simpa using this
                  rw [← Hws.out, ← Hv.out, e]
                  simp
                | succ j =>
                  have e : ((j + 1 : Nat) : Int) - 1 = (j : Int) := by omega
                  rw [e]
                  clear e
                  have hj1 : j < os.length := by omega
                  have hj2 : j < ws.length := by omega
                  have c1 : wr.cell? ⟨g, j, none⟩ = some (.int .u64 (os[j] : Int)) := by
                    rw [hRv.cell (by simp) j (by simpa using hj1)]; simp [dv]
                  have c2 : wr.cell? ⟨gw, j, none⟩ = some (.int .u64 (ws[j] : Int)) := by
                    rw [hRw.cell (by simp) j (by simpa using hj2)]; simp [dv]
                  have b0 : (0 : Int) ≤ j := by omega
                  have b1 : (j : Int) < os.length := by omega
                  have b2 : (j : Int) < ws.length := by omega
                  by_cases hab : os[j] = ws[j]
                  · rw [← hab] at c2
                    have HD2 : Hid (os.drop j = ws.drop j) := by
                      show os.drop j = ws.drop j
                      rw [List.drop_eq_getElem_cons hj1, List.drop_eq_getElem_cons hj2, HD.out, hab]
                    clear HD hab
                    generalize os[j] = a at c1 c2
                    go_wp2_with fail
                    go_quiet (fail)
                    go_wp2_with fail
                    go_roundw
                    case rel => exact ⟨j, by omega, by rfl, HD2.out, hSr.drewN _⟩
                    case measure => simp [intOf]
                  · have hvd := val_differ os ws j hos hwd hleq hj1 HD.out hab
                    have HV : Hid (val ws < val os ↔ ws[j] < os[j]) := hvd
                    clear hvd
                    generalize hav : os[j] = a at *
                    generalize hbv : ws[j] = b at *
                    clear hav hbv HD
                    have hnb : ((a : Int) != (b : Int)) = true := by simp; omega
                    go_wp2_with fail
                    go_quiet (fail)
                    go_wp2_with fail
                    go_quiet (fail)
                    go_wp2_with fail
                    go_ret
                    refine ⟨?_, (hS2.drewN _).drewN _⟩
                    have e1 := HV.out
                    rw [Hws.out, Hv.out] at e1
                    simp [e1]
end Sm
end Go.Proofs.YtbfjklpoheooaaaGreatDoor
end
section
namespace Go.Proofs.YtbfjklpoheooaaaGreatDoor
set_option maxRecDepth 100000
namespace Sm
open Go.RowKit
attribute [local go_sem] U_add U_mulc U_xor U_and U_or U_shr U_shl U_not U_conv U_byte U_cells U_match U_oneCell U_store U_store1
set_option maxHeartbeats 1000000 in
theorem root_any (p k : Nat) (w : World) (hk1 : 1 ≤ k) (hk : k ≤ 3) (hp : p < 65536) (hN : p * 65536 ^ (2 * k) < 1099511627776 ^ k) :
    Calls Tryz.prog 29 #[.int .u64 (p : Int), .int .i64 (k : Int)] w fun e w' =>
      ∃ r : Nat, e = .returned (U (BitVec.ofNat 32 r)) ∧ r ^ k ≤ p * 65536 ^ (2 * k) ∧ p * 65536 ^ (2 * k) < (r + 1) ^ k ∧ Since w w' := by
  generalize hNe : p * 65536 ^ (2 * k) = N at *
  have HN : Hid (p * 65536 ^ (2 * k) = N) := hNe
  have HN2 : Hid (N < 1099511627776 ^ k) := hN
  clear hNe hN
  go_enter Tryz.func29, Tryz.ntmps29
  go_wp2_with fail
  go_loopw [5, 6] (fun lo hi wr => ∃ l h : Nat, lo = .int .u64 l ∧ hi = .int .u64 h ∧ l < h ∧ h ≤ 1099511627776 ∧ Hid (l ^ k ≤ N) ∧ Hid (N < h ^ k) ∧ Since w wr) (fun lo hi _ => (intOf hi).toNat - (intOf lo).toNat)
  case atStart => exact ⟨0, 1099511627776, rfl, rfl, by omega, by omega, by show 0 ^ k ≤ N; rw [Nat.zero_pow (by omega)]; omega, HN2, Since.refl w⟩
  case round =>
    obtain ⟨l, h, rfl, rfl, hlh, hh, H1, H2, hS⟩ := hrel
    by_cases hc : l + 1 < h
    · go_wp2_with fail
      have e1 : ((l : Int) + h) / 2 = (((l + h) / 2 : Nat) : Int) := by omega
      rw [e1]
      clear e1
      have hm1 : l < (l + h) / 2 := by omega
      have hm2 : (l + h) / 2 < h := by omega
      generalize (l + h) / 2 = x at *
      refine (above_any x k p wr (by omega) hk hp).mono ?_
      rintro e w2 ⟨rfl, hS2⟩
      rw [HN.out]
      have hS3 := hS.trans hS2
      by_cases ha : N < x ^ k
      · have Ha : Hid (N < x ^ k) := ha
        rw [show decide (N < x ^ k) = true from by simpa using ha]
        clear ha
        go_wp2_with fail
        go_roundw
        case rel => exact ⟨l, x, rfl, rfl, by omega, by omega, H1, Ha, hS3⟩
        case measure => simp [intOf]; omega
      · have Ha : Hid (x ^ k ≤ N) := by show x ^ k ≤ N; omega
        rw [show decide (N < x ^ k) = false from by simpa using ha]
        clear ha
        go_wp2_with fail
        go_roundw
        case rel => exact ⟨x, h, rfl, rfl, by omega, by omega, Ha, H2, hS3⟩
        case measure => simp [intOf]; omega
    · have hh1 : h = l + 1 := by omega
      subst hh1
      go_wp2_with fail
      go_ret
      exact ⟨l, rfl, H1.out, H2.out, hS⟩
end Sm
end Go.Proofs.YtbfjklpoheooaaaGreatDoor
end
section
namespace Go.Proofs.YtbfjklpoheooaaaGreatDoor
set_option maxRecDepth 100000
namespace Sm
open Go.RowKit
def nodiv (k : Nat) (l : List Nat) : Bool := l.all fun p => k % p != 0
theorem nodiv_take (k : Nat) (l : List Nat) (m : Nat) (h : m < l.length) : nodiv k (l.take (m + 1)) = (nodiv k (l.take m) && k % l[m] != 0) := by
  rw [List.take_succ_eq_append_getElem h]; unfold nodiv; rw [List.all_append]; simp
theorem bne_mod (k q : Nat) : ((k : Int) % (q : Int) != 0) = (k % q != 0) := by
  rw [← Int.natCast_emod]
  cases h : k % q with
  | zero => rfl
  | succ n => rw [Bool.eq_iff_iff]; simp; omega
def prTo : Nat → List Nat
  | 0 => []
  | j + 1 => if nodiv (2 + j) (prTo j) then prTo j ++ [2 + j] else prTo j
theorem pr_ge (j : Nat) : ∀ p ∈ prTo j, 2 ≤ p ∧ p < 2 + j := by
  induction j with
  | zero => intro p h; cases h
  | succ j ih =>
    intro p h
    unfold prTo at h
    split at h
    · rcases List.mem_append.1 h with h | h
      · have := ih p h; omega
      · simp at h; omega
    · have := ih p h; omega
theorem pr_mono (j : Nat) : (prTo j).length ≤ (prTo (j + 1)).length := by
  conv => rhs; unfold prTo
  split
  · simp
  · exact Nat.le_refl _
theorem pr_mono' (i j : Nat) (h : i ≤ j) : (prTo i).length ≤ (prTo j).length := by
  induction j with
  | zero => rw [Nat.le_zero.1 h]; exact Nat.le_refl _
  | succ j ih =>
    rcases Nat.lt_or_ge i (j + 1) with h1 | h1
    · exact Nat.le_trans (ih (by omega)) (pr_mono j)
    · rw [show i = j + 1 by omega]; exact Nat.le_refl _
theorem pr_309 : (prTo 309).length = 63 := by decide +kernel
theorem pr_310 : (prTo 310).length = 64 := by decide +kernel
def iv (d : Nat) : Value := .int .i64 (d : Int)
theorem info3 : ∃ i, Tryz.prog.info? 3 = some i ∧ i.zero = some (.int .i64 0) ∧ i.bytes = 8 ∧ i.size = 1 := ⟨_, rfl, by kernel_rfl, by kernel_rfl, by kernel_rfl⟩
theorem len_row {w : World} {B : Nat} {e : TypeId} {v : Value} {xs : List Value} (h : Row w B e v xs) (t : TypeId) (ht : Tryz.prog.underlying t = some (.slice (Tryz.prog.elem t))) :
    ∀ w' ty, (Builtin.len_ #[t] ty #[v]).run Tryz.prog w' = .ok (goInt xs.length) w' := by
  intro w' ty
  rcases h.form with ⟨rfl, rfl⟩ | ⟨g, cap, rfl, _⟩
  · exact run_len_slice w' t ty none 0 0 ht
  · exact run_len_slice w' t ty _ _ _ ht
set_option maxHeartbeats 1000000 in
theorem primes_any (w : World) :
    Calls Tryz.prog 28 #[.int .i64 64] w fun e w' => ∃ g cap, e = .returned (.slice (some ⟨g, 0, none⟩) 64 cap) ∧ Row w' w.heap.size 3 (.slice (some ⟨g, 0, none⟩) 64 cap) ((prTo 310).map iv) ∧ Since w w' := by
  obtain ⟨i0, hi, hz, hby, hsz⟩ := info3
  go_enter Tryz.func28, Tryz.ntmps28
  go_wp2_with fail
  go_loopw [3, 4] (fun v k wr => ∃ j : Nat, j ≤ 310 ∧ k = .int .i64 ((2 + j : Nat) : Int) ∧ Row wr w.heap.size 3 v ((prTo j).map iv) ∧ Since w wr) (fun _ k _ => 312 - (intOf k).toNat)
  case atStart => exact ⟨0, by omega, rfl, Row.nil _ _ _, Since.refl w⟩
  case round =>
    obtain ⟨j, hj, rfl, hR, hS⟩ := hrel
    have hlen := len_row hR 49 (by kernel_rfl)
    have hpr := pr_ge j
    rw [List.length_map] at hlen
    by_cases hlt : (prTo j).length < 64
    · have hj2 : j < 310 := by
        rcases Nat.lt_or_ge j 310 with h | h
        · exact h
        · exfalso; have e : j = 310 := by omega
          rw [e, pr_310] at hlt; omega
      have Hst : Hid (prTo (j + 1) = if nodiv (2 + j) (prTo j) then prTo j ++ [2 + j] else prTo j) := rfl
      generalize prTo j = l at *
      generalize hkk : 2 + j = k at *
      have HK : Hid (2 + j = k) := hkk
      have hk1 : 2 ≤ k := by omega
      have hk2 : k < 312 := by omega
      clear hkk
      go_wp2_with fail
      go_loop [16, 5] (fun i b => ∃ m : Nat, m ≤ l.length ∧ i = .int .i64 m ∧ b = .bool (nodiv k (l.take m))) (fun i _ => l.length - (intOf i).toNat)
      case atStart => exact ⟨0, by omega, rfl, rfl⟩
      case round =>
        obtain ⟨m, hm, rfl, rfl⟩ := hrel
        by_cases hml : m < l.length
        · rcases hR.form with ⟨_, h0⟩ | ⟨g, cap, hve, hg1, hg2⟩
          · exfalso; have := congrArg List.length h0; simp at this; subst this; simp at hml
          rw [List.length_map] at hve
          subst hve
          have hc : wr.cell? ⟨g, m, none⟩ = some (.int .i64 (l[m] : Int)) := by
            rw [hR.cell (by simp) m (by simpa using hml)]; simp [iv]
          have hp2 := (hpr l[m] (List.getElem_mem hml)).1
          have Hnd : Hid (nodiv k (l.take (m + 1)) = (nodiv k (l.take m) && k % l[m] != 0)) := nodiv_take k l m hml
          generalize l[m] = q at *
          have hq0 : ((q : Int) == 0) = false := by simp; omega
          cases hb : nodiv k (l.take m)
          · have HB := (show Hid (nodiv k (l.take m) = false) from hb)
            clear hb
            go_wp2_with fail
            go_round
            case rel => exact ⟨m + 1, by omega, by go_num, by rw [Hnd.out, HB.out]; rfl⟩
            case measure => simp [intOf]; omega
          · have HB := (show Hid (nodiv k (l.take m) = true) from hb)
            clear hb
            go_wp2_with fail
            exact ⟨⟨m + 1, by omega, by go_num, by rw [Hnd.out, HB.out, bne_mod]; rfl⟩, by simp [intOf]; omega⟩
        · have hme : l.take m = l := List.take_of_length_le (by omega)
          rw [hme]
          clear hme
          cases hb : nodiv k l
          · have HB := (show Hid (nodiv k l = false) from hb)
            clear hb
            go_wp2_with fail
            go_roundw
            case rel =>
              have e : prTo (j + 1) = l := by rw [Hst.out, HB.out]; rfl
              exact ⟨j + 1, by omega, by rw [show ((2 + (j + 1) : Nat) : Int) = (k : Int) + 1 by have := HK.out; omega], by rw [e]; exact hR, hS⟩
            case measure => simp [intOf]; omega
          · have HB := (show Hid (nodiv k l = true) from hb)
            clear hb
            have hb63 : (l.map iv).length + 1 ≤ maxLen := by simp [maxLen]; omega
            have hbb : ((l.map iv).length + 1) * 8 ≤ 140737488355328 := by simp; omega
            have hbase : ∀ o, w.heap.size ≤ (wr.alloc o).heap.size := by intro o; have := hS.size; simp; omega
            go_wp2_with (at_builtin; refine wpList_append_lies _ (by rfl) _ _ 49 (by rfl) w.heap.size 3 i0 (.int .i64 0) 1 8 Tryz.underlying49 hi hz hsz hby (by rfl) (by decide) u3 (l.map iv).length (l.map iv) (by rfl) (hR.since ((Since.refl _).alloc _)) ⟨wr.heap.size, 0, none⟩ 1 1 [.int .i64 (k : Int)] (by rfl) (by rfl) (one_at _ _ _ _ rfl) (fun u hu => by simp at hu; subst hu; rfl) (by decide) hb63 hbb (hbase _) (wr.heap.size + 1) (by simp) ?_; intro g cp w2 hown hgrow hat hlt2)
            have hR2 : Row w2 w.heap.size 3 (.slice (some ⟨g, 0, none⟩) (l.length + 1) cp) ((l ++ [k]).map iv) := by
              have e1 : (l ++ [k]).map iv = l.map iv ++ [.int .i64 (k : Int)] := by rw [List.map_append]; rfl
              unfold Row
              rw [e1, List.length_append]
              rw [List.length_map] at hown ⊢
              exact hown
            have hS2 : Since w w2 := (hS.alloc _).grown hgrow (fun k hk => hR.own k hk)
            clear hown hgrow hat hR hb63 hbb hbase hlen
            go_wp2_with fail
            go_roundw
            case rel =>
              have e : prTo (j + 1) = l ++ [k] := by rw [Hst.out, HB.out]; rfl
              exact ⟨j + 1, by omega, by rw [show ((2 + (j + 1) : Nat) : Int) = (k : Int) + 1 by have := HK.out; omega], by rw [e]; exact hR2, hS2⟩
            case measure => simp [intOf]; omega
    · have hj2 : j = 310 := by
        rcases Nat.lt_or_ge j 310 with h | h
        · exfalso; have h1 := pr_mono' j 309 (by omega); rw [pr_309] at h1; omega
        · omega
      subst hj2
      rw [pr_310] at hlen
      go_wp2_with fail
      go_ret
      rcases hR.form with ⟨_, h0⟩ | ⟨g, cap, hve, hg1, hg2⟩
      · exfalso; have := congrArg List.length h0; simp [pr_310] at this
      rw [List.length_map, pr_310] at hve
      exact ⟨g, cap, by rw [← hve]; rfl, by rw [← hve]; exact hR, hS⟩
end Sm
end Go.Proofs.YtbfjklpoheooaaaGreatDoor
end
