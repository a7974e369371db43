import Derived.Test.YtjfhggcjdckfgaaDoorW11
namespace Go.Proofs.YtjfhggcjdckfgaaDoor
set_option linter.unusedSimpArgs false
set_option linter.unusedVariables false
set_option maxRecDepth 100000
namespace Sm
open Go.RowKit

theorem rep_lt (n : Nat) : ∀ d ∈ List.replicate n 0, d < 65536 := by intro d h; rw [List.eq_of_mem_replicate h]; decide
theorem val_rep (n : Nat) : val (List.replicate n 0) = 0 := by
  induction n with
  | zero => rfl
  | succ n ih => rw [List.replicate_succ]; simp [val, ih]
theorem made_rep (n : Nat) : (madeCells (Value.int IntKind.u64 0).cells n).toList = (List.replicate n 0).map dv := by
  apply List.ext_getElem?
  intro i
  by_cases h : i < n
  · simp [madeCells, Value.cells, h, Nat.mod_one, dv]
  · simp [madeCells, h]
theorem val_zeros (a : List Nat) : val (a ++ [0]) = val a := by rw [val_snoc]; simp

theorem row_lt {w : World} {B : Nat} {e : TypeId} {g n cap : Nat} {xs : List Value} (h : Row w B e (.slice (some ⟨g, 0, none⟩) n cap) xs) : g < w.heap.size := by
  rcases h.form with ⟨h, _⟩ | ⟨g', c', h, _, h2⟩
  · cases h
  · injection h with h _ _; injection h with h; injection h with h _; rw [h]; exact h2
theorem row_snoc {w : World} {B g cp d : Nat} {os : List Nat} (h : w.ownsRow B 116 1 (.slice (some ⟨g, 0, none⟩) ((os.map dv).length + 1) cp) ((os.map dv).length + 1) (os.map dv ++ [.int .u64 (d : Int)])) :
    Row w B 116 (.slice (some ⟨g, 0, none⟩) (os ++ [d]).length cp) ((os ++ [d]).map dv) := by
  have e1 : (os ++ [d]).map dv = os.map dv ++ [.int .u64 (d : Int)] := by rw [List.map_append]; rfl
  unfold Row
  rw [e1, List.length_append, List.length_append]
  rw [List.length_map] at h ⊢
  exact h
def lenV : Value → Nat
  | .slice _ n _ => n
  | _ => 0
set_option maxHeartbeats 1000000 in
theorem above_any (x k p : Nat) (w : World) (hx : x ≤ 1099511627776) (hk : k ≤ 3) (hp : p < 65536) :
    Calls Tryd.prog 135 #[.int .u64 (x : Int), .int .i64 (k : Int), .int .u64 (p : Int)] w fun e w' =>
      e = .returned (.bool (decide (p * 65536 ^ (2 * k) < x ^ k))) ∧ Since w w' := by
  obtain ⟨i0, hi, hz, hby, hsz⟩ := info38
  go_enter Tryd.func135, Tryd.ntmps135
  go_wp2_with fail
  go_loopw [12, 7] (fun i v wr => ∃ (n : Nat) (g cap : Nat) (os : List Nat), n ≤ k ∧ i = .int .i64 n ∧ v = .slice (some ⟨g, 0, none⟩) os.length cap ∧ Row wr w.heap.size 116 v (os.map dv) ∧ val os = x ^ n ∧ (∀ d ∈ os, d < 65536) ∧ 0 < os.length ∧ os.length ≤ 1 + 3 * n ∧ Since w wr) (fun i _ _ => k - (intOf i).toNat)
  case atStart => exact ⟨0, w.heap.size, 1, [1], by omega, rfl, rfl, World.ownsRow_lit w _ 1 (Nat.le_refl _) (by unfold maxLen; omega) rfl, rfl, by simp, by simp, by simp, (Since.refl w).alloc _⟩
  case round =>
    obtain ⟨n, g, cap, os, hn, rfl, rfl, hR, hv, hos, hpos, hlen, hS⟩ := hrel
    by_cases hlt : n < k
    · go_wp2_with fail
      refine (times_any g cap os x wr hx hos (by omega) (fun j hj => ?_)).mono ?_
      · have := hR.cell (by simp) j (by simpa using hj)
        rw [this]; simp [dv]
      rintro e w2 ⟨v2, os2, rfl, hR2, hv2, hos2, hl2, hl2', hS2⟩
      have hR3 : Row w2 w.heap.size 116 v2 (os2.map dv) := by
        rcases hR2.2 with h | ⟨g, cap, cur, h1, h2, h3⟩
        · exact ⟨hR2.1, Or.inl h⟩
        · exact ⟨hR2.1, Or.inr ⟨g, cap, cur, h1, Nat.le_trans hS.size h2, h3⟩⟩
      rcases hR3.form with ⟨_, h0⟩ | ⟨g2, cap2, hv2e, hg1, hg2⟩
      · exfalso; have := congrArg List.length h0; simp at this; subst this; have : ([] : List Nat).length = 0 := rfl; omega
      rw [List.length_map] at hv2e
      subst hv2e
      have hS3 := hS.trans hS2
      clear hR hR2
      go_wp2_with fail
      go_roundw
      case rel => exact ⟨n + 1, g2, cap2, os2, by omega, by go_num, rfl, hR3, by rw [hv2, hv, Nat.pow_succ], hos2, by omega, by omega, hS3⟩
      case measure => simp [intOf]; omega
    · have hnk : n = k := by omega
      subst hnk
      have hmk := run_make (P := Tryd.prog) wr 225 116 i0 _ Tryd.underlying225 hi hz .i64 .i64 (2 * (n : Int)) (2 * (n : Int)) (by omega) (by omega) (by rw [hby]; omega) (by omega)
      have t2 : (2 * (n : Int)).toNat = 2 * n := by omega
      rw [hsz, t2, Nat.mul_one] at hmk
      have hRm : Row (wr.alloc (.cells (madeCells #[.int .u64 0] (2 * n)) 116)) w.heap.size 116 (.slice (some ⟨wr.heap.size, 0, none⟩) (2 * n) (2 * n)) ((List.replicate (2 * n) 0).map dv) := by
        have h := World.ownsRow_lit (base := w.heap.size) (e := 116) (size := 1) wr (madeCells (Value.int IntKind.u64 0).cells (2 * n)) (2 * n) hS.size (by unfold maxLen; omega) (by rw [size_madeCells]; omega)
        rw [made_rep] at h
        show World.ownsRow _ _ _ _ _ _ _
        rw [List.length_map, List.length_replicate]
        exact h
      have hb63 : (List.map dv (List.replicate (2 * n) 0)).length + 1 ≤ maxLen := by simp [maxLen]; omega
      have hbb : ((List.map dv (List.replicate (2 * n) 0)).length + 1) * 8 ≤ 140737488355328 := by simp; omega
      have hbase : ∀ o o', w.heap.size ≤ ((wr.alloc o).alloc o').heap.size := by intro o o'; have := hS.size; simp; omega
      have hgl : g < wr.heap.size := row_lt hR
      go_wp2_with (at_builtin; refine wpList_append_lies _ (by rfl) _ _ 225 (by rfl) w.heap.size 116 i0 (.int .u64 0) 1 8 Tryd.underlying225 hi hz hsz hby (by rfl) (by decide) (.slice (some ⟨wr.heap.size, 0, none⟩) (2 * n) (2 * n)) (List.map dv (List.replicate (2 * n) 0)).length ((List.replicate (2 * n) 0).map dv) (by rfl) (hRm.since ((Since.refl _).alloc _)) ⟨wr.heap.size + 1, 0, none⟩ 1 1 [.int .u64 (p : Int)] (by rfl) (by rfl) (one_at _ _ _ _ (by simp)) (fun u hu => by simp at hu; subst hu; rfl) (by decide) hb63 hbb (hbase _ _) (wr.heap.size + 2) (by simp) ?_; intro gw cpw w2 hown hgrow hat hlt2)
      have hRw : Row w2 w.heap.size 116 (.slice (some ⟨gw, 0, none⟩) (2 * n + 1) cpw) ((List.replicate (2 * n) 0 ++ [p]).map dv) := by
        have e1 : (List.replicate (2 * n) 0 ++ [p]).map dv = (List.replicate (2 * n) 0).map dv ++ [.int .u64 (p : Int)] := by rw [List.map_append]; rfl
        have e2 : ((List.replicate (2 * n) 0).map dv).length = 2 * n := by simp
        rw [e2] at hown
        unfold Row; rw [e1, List.length_append, e2]; exact hown
      have hRv : Row w2 w.heap.size 116 (.slice (some ⟨g, 0, none⟩) os.length cap) (os.map dv) :=
        World.ownsRow.kept (World.ownsRow.alloc (World.ownsRow.alloc hR _) _) hgrow (Or.inr (by simp [Value.ownBlock]; omega))
      have hne : g ≠ gw := by
        simp [Value.ownBlock] at hat
        omega
      have hS2 : Since w w2 := ((hS.alloc _).alloc _).grown hgrow (fun k hk => hRm.own k hk)
      clear hown hgrow hat hR hb63 hbb hbase hRm hmk hgl
      have hws : val (List.replicate (2 * n) 0 ++ [p]) = p * 65536 ^ (2 * n) := by rw [val_snoc, val_rep, List.length_replicate, Nat.zero_add, Nat.mul_comm]
      have hwd : ∀ d ∈ List.replicate (2 * n) 0 ++ [p], d < 65536 := by
        intro d hd
        rcases List.mem_append.1 hd with h | h
        · exact rep_lt _ d h
        · simp at h; subst h; exact hp
      have hwl : (List.replicate (2 * n) 0 ++ [p]).length = 2 * n + 1 := by simp
      generalize List.replicate (2 * n) 0 ++ [p] = ws at *
      rw [← hwl] at hRw ⊢
      have Hv : Hid (val os = x ^ n) := hv
      have Hws : Hid (val ws = p * 65536 ^ (2 * n)) := hws
      have Hwl : Hid (ws.length = 2 * n + 1) := hwl
      have hw7 : ws.length ≤ 7 := by omega
      clear hv hws hwl t2
      go_wp2_with fail
      go_loopw [7] (fun v wr2 => ∃ (g cap : Nat) (os : List Nat), v = .slice (some ⟨g, 0, none⟩) os.length cap ∧ Row wr2 w.heap.size 116 v (os.map dv) ∧ Row wr2 w.heap.size 116 (.slice (some ⟨gw, 0, none⟩) ws.length cpw) (ws.map dv) ∧ g ≠ gw ∧ val os = x ^ n ∧ (∀ d ∈ os, d < 65536) ∧ os.length ≤ 10 ∧ Since w wr2) (fun v _ => 2 * n + 1 - lenV v)
      case atStart => exact ⟨g, cap, os, rfl, hRv, hRw, hne, Hv.out, hos, by omega, hS2⟩
      case round =>
        clear hRv hne Hv hos hpos hlen hS2 hRw
        obtain ⟨g, cap, os, rfl, hRv, hRw, hne, hv, hos, hol, hS2⟩ := hrel
        have Hv : Hid (val os = x ^ n) := hv
        clear hv
        have lv : g < wr.heap.size := row_lt hRv
        have lw : gw < wr.heap.size := row_lt hRw
        have hbase : ∀ o, w.heap.size ≤ (wr.alloc o).heap.size := by intro o; have := hS2.size; simp; omega
        by_cases hlt : os.length < ws.length
        · have hb63 : (os.map dv).length + 1 ≤ maxLen := by simp [maxLen]; omega
          have hbb : ((os.map dv).length + 1) * 8 ≤ 140737488355328 := by simp; omega
          have HR := hRv
          go_wp2_with (at_builtin; refine wpList_append_lies _ (by rfl) _ _ 225 (by rfl) w.heap.size 116 i0 (.int .u64 0) 1 8 Tryd.underlying225 hi hz hsz hby (by rfl) (by decide) (.slice (some ⟨g, 0, none⟩) os.length cap) (os.map dv).length (os.map dv) (by rfl) (HR.since ((Since.refl _).alloc _)) ⟨wr.heap.size, 0, none⟩ 1 1 [.int .u64 0] (by rfl) (by rfl) (one_at _ _ _ _ rfl) (fun u hu => by simp at hu; subst hu; rfl) (by decide) hb63 hbb (hbase _) (wr.heap.size + 1) (by simp) ?_; intro g2 cp2 w3 hown hgrow hat hlt3)
          have hR2 : Row w3 w.heap.size 116 (.slice (some ⟨g2, 0, none⟩) (os ++ [0]).length cp2) ((os ++ [0]).map dv) := row_snoc hown
          have hRw2 : Row w3 w.heap.size 116 (.slice (some ⟨gw, 0, none⟩) ws.length cpw) (ws.map dv) := World.ownsRow.kept (World.ownsRow.alloc hRw _) hgrow (Or.inr (by simp [Value.ownBlock]; omega))
          have hne2 : g2 ≠ gw := by simp [Value.ownBlock] at hat; omega
          have hS3 : Since w w3 := (hS2.alloc _).grown hgrow (fun k hk => hRv.own k hk)
          clear hown hgrow hat hRv hRw hb63 hbb hbase HR
          go_wp2_with fail
          go_roundw
          case rel =>
            refine ⟨g2, cp2, os ++ [0], by simp, by simpa using hR2, hRw2, hne2, by rw [val_zeros]; exact Hv.out, ?_, by simp; omega, hS3⟩
            intro y hy
            rcases List.mem_append.1 hy with h | h
            · exact hos y h
            · simp at h; omega
          case measure => have := Hwl.out; simp [lenV]; omega
        · go_wp2_with fail
          go_loopw [8] (fun u wr2 => ∃ (gw cpw : Nat) (ws : List Nat), u = .slice (some ⟨gw, 0, none⟩) ws.length cpw ∧ Row wr2 w.heap.size 116 u (ws.map dv) ∧ Row wr2 w.heap.size 116 (.slice (some ⟨g, 0, none⟩) os.length cap) (os.map dv) ∧ g ≠ gw ∧ val ws = p * 65536 ^ (2 * n) ∧ (∀ d ∈ ws, d < 65536) ∧ ws.length ≤ os.length ∧ Since w wr2) (fun v _ => os.length - lenV v)
          case atStart => exact ⟨gw, cpw, ws, rfl, hRw, hRv, hne, Hws.out, hwd, by omega, hS2⟩
          case round =>
            clear hRw hRv hne Hws hwd hS2 Hwl hw7 lw lv hbase hlt
            obtain ⟨gw, cpw, ws, rfl, hRw, hRv, hne, hws, hwd, hwl, hS2⟩ := hrel
            have Hws : Hid (val ws = p * 65536 ^ (2 * n)) := hws
            clear hws
            have lv : g < wr.heap.size := row_lt hRv
            have lw : gw < wr.heap.size := row_lt hRw
            have hbase : ∀ o, w.heap.size ≤ (wr.alloc o).heap.size := by intro o; have := hS2.size; simp; omega
            by_cases hlt : ws.length < os.length
            · have hb63 : (ws.map dv).length + 1 ≤ maxLen := by simp [maxLen]; omega
              have hbb : ((ws.map dv).length + 1) * 8 ≤ 140737488355328 := by simp; omega
              have HR := hRw
              go_wp2_with (at_builtin; refine wpList_append_lies _ (by rfl) _ _ 225 (by rfl) w.heap.size 116 i0 (.int .u64 0) 1 8 Tryd.underlying225 hi hz hsz hby (by rfl) (by decide) (.slice (some ⟨gw, 0, none⟩) ws.length cpw) (ws.map dv).length (ws.map dv) (by rfl) (HR.since ((Since.refl _).alloc _)) ⟨wr.heap.size, 0, none⟩ 1 1 [.int .u64 0] (by rfl) (by rfl) (one_at _ _ _ _ rfl) (fun u hu => by simp at hu; subst hu; rfl) (by decide) hb63 hbb (hbase _) (wr.heap.size + 1) (by simp) ?_; intro g2 cp2 w3 hown hgrow hat hlt3)
              have hR2 : Row w3 w.heap.size 116 (.slice (some ⟨g2, 0, none⟩) (ws ++ [0]).length cp2) ((ws ++ [0]).map dv) := row_snoc hown
              have hRv2 : Row w3 w.heap.size 116 (.slice (some ⟨g, 0, none⟩) os.length cap) (os.map dv) := World.ownsRow.kept (World.ownsRow.alloc hRv _) hgrow (Or.inr (by simp [Value.ownBlock]; omega))
              have hne2 : g ≠ g2 := by simp [Value.ownBlock] at hat; omega
              have hS3 : Since w w3 := (hS2.alloc _).grown hgrow (fun k hk => hRw.own k hk)
              clear hown hgrow hat hRv hRw hb63 hbb hbase HR
              go_wp2_with fail
              go_roundw
              case rel =>
                refine ⟨g2, cp2, ws ++ [0], by simp, by simpa using hR2, hRv2, hne2, by rw [val_zeros]; exact Hws.out, ?_, by simp; omega, hS3⟩
                intro y hy
                rcases List.mem_append.1 hy with h | h
                · exact hwd y h
                · simp at h; omega
              case measure => simp [lenV]; omega
            · go_wp2_with fail
              have hleq : os.length = ws.length := by omega
              go_loopw [9] (fun i wr2 => ∃ m : Nat, m ≤ os.length ∧ i = .int .i64 ((m : Int) - 1) ∧ os.drop m = ws.drop m ∧ Since wr wr2) (fun i _ => (intOf i + 1).toNat)
              case atStart => exact ⟨os.length, Nat.le_refl _, rfl, by rw [List.drop_length, hleq, List.drop_length], Since.refl _⟩
              case round =>
                clear hbase
                have hRv' := hRv
                have hRw' := hRw
                have hS2' := hS2
                clear hRv hRw hS2
                obtain ⟨m, hm, rfl, hdr, hSr⟩ := hrel
                have hRv := hRv'.since hSr
                have hRw := hRw'.since hSr
                have hS2 := hS2'.trans hSr
                clear hRv' hRw' hS2'
                have HD : Hid (os.drop m = ws.drop m) := hdr
                clear hdr
                cases m with
                | zero =>
                  go_wp2_with fail
                  go_ret
                  refine ⟨?_, hS2⟩
                  have e : os = ws := by have := HD.out; simpa using this
                  rw [← Hws.out, ← Hv.out, e]
                  simp
                | succ j =>
                  have e : ((j + 1 : Nat) : Int) - 1 = (j : Int) := by omega
                  rw [e]
                  clear e
                  have hj1 : j < os.length := by omega
                  have hj2 : j < ws.length := by omega
                  have c1 : wr.cell? ⟨g, j, none⟩ = some (.int .u64 (os[j] : Int)) := by
                    rw [hRv.cell (by simp) j (by simpa using hj1)]; simp [dv]
                  have c2 : wr.cell? ⟨gw, j, none⟩ = some (.int .u64 (ws[j] : Int)) := by
                    rw [hRw.cell (by simp) j (by simpa using hj2)]; simp [dv]
                  have b0 : (0 : Int) ≤ j := by omega
                  have b1 : (j : Int) < os.length := by omega
                  have b2 : (j : Int) < ws.length := by omega
                  by_cases hab : os[j] = ws[j]
                  · rw [← hab] at c2
                    have HD2 : Hid (os.drop j = ws.drop j) := by
                      show os.drop j = ws.drop j
                      rw [List.drop_eq_getElem_cons hj1, List.drop_eq_getElem_cons hj2, HD.out, hab]
                    clear HD hab
                    generalize os[j] = a at c1 c2
                    go_wp2_with fail
                    go_quiet (fail)
                    go_wp2_with fail
                    go_roundw
                    case rel => exact ⟨j, by omega, by rfl, HD2.out, hSr.drewN _⟩
                    case measure => simp [intOf]
                  · have hvd := val_differ os ws j hos hwd hleq hj1 HD.out hab
                    have HV : Hid (val ws < val os ↔ ws[j] < os[j]) := hvd
                    clear hvd
                    generalize hav : os[j] = a at *
                    generalize hbv : ws[j] = b at *
                    clear hav hbv HD
                    have hnb : ((a : Int) != (b : Int)) = true := by simp; omega
                    go_wp2_with fail
                    go_quiet (fail)
                    go_wp2_with fail
                    go_quiet (fail)
                    go_wp2_with fail
                    go_ret
                    refine ⟨?_, (hS2.drewN _).drewN _⟩
                    have e1 := HV.out
                    rw [Hws.out, Hv.out] at e1
                    simp [e1]
end Sm
end Go.Proofs.YtjfhggcjdckfgaaDoor
