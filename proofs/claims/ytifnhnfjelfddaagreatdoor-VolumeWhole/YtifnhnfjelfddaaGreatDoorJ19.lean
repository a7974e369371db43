import Derived.Test.YtifnhnfjelfddaaGreatDoorJ17
import Derived.Test.YtifnhnfjelfddaaGreatDoorJ18
set_option linter.unusedSimpArgs false
set_option linter.unusedVariables false
namespace Go.Proofs.YtifnhnfjelfddaaGreatDoor
set_option maxRecDepth 100000
namespace Tw
open Go.RowKit
attribute [local go_sem ↓] cell_eql
def hitN (T : Tb) (k : Nat) (z o : Int) : Bool := (List.range k).any fun i => !nulB (T.zone i) (T.off i) (T.tag i) && decide (T.zone i = z) && decide (T.off i = o)
theorem hitN_iff (T : Tb) (k : Nat) (z o : Int) : hitN T k z o = true ↔ hit T k z o := by
  unfold hitN hit
  rw [List.any_eq_true]
  constructor
  · rintro ⟨i, hi, h⟩
    simp only [Bool.and_eq_true, Bool.not_eq_true', decide_eq_true_eq] at h
    exact ⟨i, List.mem_range.1 hi, fun hn => by rw [nulB_true hn] at h; exact Bool.noConfusion h.1.1, h.1.2, h.2⟩
  · rintro ⟨i, hi, hn, h1, h2⟩
    exact ⟨i, List.mem_range.2 hi, by rw [nulB_false hn, decide_eq_true h1, decide_eq_true h2]; rfl⟩
def rtB (T : Tb) : Bool := decide (1 ≤ T.count ∧ T.count ≤ 1099511627776) && (List.range 24).all fun i => nulB (T.zone i) (T.off i) (T.tag i) || (mayB (T.zone i) (T.off i) (T.tag i) && !hitN T i (T.zone i) (T.off i))
theorem rtB_iff (T : Tb) : rtB T = true ↔ Rt T := by
  unfold rtB Rt fine
  rw [Bool.and_eq_true, decide_eq_true_eq, List.all_eq_true]
  refine and_congr Iff.rfl ⟨fun h i hi => ?_, fun h i hi => ?_⟩
  · have := h i (List.mem_range.2 hi)
    rw [Bool.or_eq_true, Bool.and_eq_true, Bool.not_eq_true'] at this
    rcases this with h1 | ⟨h1, h2⟩
    · exact Or.inl (of_decide_eq_true h1)
    · exact Or.inr ⟨of_decide_eq_true h1, fun hh => by rw [(hitN_iff _ _ _ _).2 hh] at h2; exact Bool.noConfusion h2⟩
  · rw [Bool.or_eq_true, Bool.and_eq_true, Bool.not_eq_true']
    rcases h i (List.mem_range.1 hi) with h1 | ⟨h1, h2⟩
    · exact Or.inl (nulB_true h1)
    · exact Or.inr ⟨mayB_true h1, by
        cases hq : hitN T i (T.zone i) (T.off i) with
        | false => rfl
        | true => exact absurd ((hitN_iff _ _ _ _).1 hq) h2⟩
theorem rtB_true {T : Tb} (h : Rt T) : rtB T = true := (rtB_iff T).2 h
theorem rtB_false {T : Tb} (h : ¬ Rt T) : rtB T = false := by
  cases hq : rtB T with
  | false => rfl
  | true => exact absurd ((rtB_iff T).1 hq) h
def hitB (T : Tb) (k j : Nat) : Bool := hitN T k ((j / 16 : Nat) : Int) ((j % 16 : Nat) : Int)
theorem hitB_iff (T : Tb) (k j : Nat) : hitB T k j = true ↔ hit T k ((j / 16 : Nat) : Int) ((j % 16 : Nat) : Int) := hitN_iff _ _ _ _
theorem bool_iff {x y : Bool} (h : x = true ↔ y = true) : x = y := by
  cases x <;> cases y <;> simp_all
theorem hitB_zero (T : Tb) (j : Nat) : hitB T 0 j = false := by
  cases hq : hitB T 0 j with
  | false => rfl
  | true => exact absurd ((hitB_iff _ _ _).1 hq) (hit_zero _ _ _)
theorem hitB_nul {T : Tb} {k : Nat} (hn : nul T k) (j : Nat) : hitB T (k + 1) j = hitB T k j :=
  bool_iff (by rw [hitB_iff, hitB_iff]; exact hit_nul hn _ _)
theorem hitB_at (T : Tb) (k z o : Nat) (ho : o < 16) : hitB T k (z * 16 + o) = true ↔ hit T k (z : Int) (o : Int) := by
  rw [hitB_iff, show (z * 16 + o) / 16 = z by omega, show (z * 16 + o) % 16 = o by omega]
theorem hitB_set {T : Tb} {k : Nat} (hn : ¬ nul T k) (z o : Nat) (hz : T.zone k = z) (ho : T.off k = o) (ho2 : o < 16) (j : Nat) : (if j = z * 16 + o then true else hitB T k j) = hitB T (k + 1) j := by
  by_cases e : j = z * 16 + o
  · subst e
    rw [if_pos rfl]
    symm
    rw [hitB_at T (k + 1) z o ho2, hit_set hn]
    exact Or.inr ⟨hz, ho⟩
  · rw [if_neg e]
    have : hit T (k + 1) ((j / 16 : Nat) : Int) ((j % 16 : Nat) : Int) ↔ hit T k ((j / 16 : Nat) : Int) ((j % 16 : Nat) : Int) := by
      rw [hit_set hn, hz, ho]
      constructor
      · rintro (h | ⟨h1, h2⟩)
        · exact h
        · exact absurd (show j = z * 16 + o by omega) e
      · exact Or.inl
    exact bool_iff (by rw [hitB_iff, hitB_iff]; exact this.symm)
theorem right_count (T : Tb) (w : World) (h : T.count < 1 ∨ 1099511627776 < T.count) : Calls Tryz.prog 95 #[tval T] w fun e w' => e = .returned (.bool false) ∧ Since w w' := by
  have hC := tab_cel T w
  have q0 := hC.cell 0 (by omega)
  rw [show tcell T 0 = .int .i64 T.count from rfl] at q0
  have hS : Since w (w.alloc (.cells (brow 73 (tcell T)).toArray 92)) := (Since.refl w).alloc _
  unfold tval
  generalize (brow 73 (tcell T)).toArray = cs at *
  have HS : Hid (Since w (w.alloc (.cells cs 92))) := hS
  clear hS hC
  by_cases h1 : T.count < 1
  · go_enter Tryz.func95, Tryz.ntmps95
    go_wp2_with fail
    go_ret
    exact ⟨rfl, HS.out⟩
  · have h2 : 1099511627776 < T.count := by omega
    go_enter Tryz.func95, Tryz.ntmps95
    go_wp2_with fail
    go_ret
    exact ⟨rfl, HS.out⟩
theorem taken_zero : ∀ j, j < 128 → Tryz.zeroCells206[j]? = some (.bool false) := by
  intro j hj
  have he : Tryz.zeroCells206 = (List.replicate 128 (Value.bool false)).toArray := by kernel_rfl
  rw [he, List.getElem?_toArray, List.getElem?_replicate, if_pos hj]
set_option maxHeartbeats 4000000 in
theorem right_loop (T : Tb) (w : World) (h1 : 1 ≤ T.count) (h2 : T.count ≤ 1099511627776) : Calls Tryz.prog 95 #[tval T] w fun e w' => e = .returned (.bool (rtB T)) ∧ Since w w' := by
  have c1 : ¬ T.count < 1 := by omega
  have c2 : ¬ 1099511627776 < T.count := by omega
  have HC1 : Hid (1 ≤ T.count ∧ T.count ≤ 1099511627776) := ⟨h1, h2⟩
  clear h1 h2
  have hC := tab_cel T w
  have q0 := hC.cell 0 (by omega)
  rw [show tcell T 0 = .int .i64 T.count from rfl] at q0
  have hS : Since w (w.alloc (.cells (brow 73 (tcell T)).toArray 92)) := (Since.refl w).alloc _
  have hR := tab_cells (hC.since ((Since.refl _).alloc (.cells Tryz.zeroCells206 206)))
  unfold tval
  generalize (brow 73 (tcell T)).toArray = cs0 at *
  have HS : Hid (Since w ((w.alloc (.cells cs0 92)).alloc (.cells Tryz.zeroCells206 206))) := hS.alloc _
  have HT : Hid (Cel ((w.alloc (.cells cs0 92)).alloc (.cells Tryz.zeroCells206 206)) (w.heap.size + 1) 128 (fun j => .bool (hitB T 0 j))) := (Cel.new (w.alloc (.cells cs0 92)) 128 (fun _ => .bool false) 206 Tryz.zeroCells206 taken_zero (w.heap.size + 1) (by simp)).congr (fun j hj => by rw [hitB_zero])
  clear hS hC
  have hL : (brow 72 (ccell T)).length = 72 := brow_length _ _
  have hix := fun (k : Nat) (hk : k < 24) (w : World) => idx_cell T k hk w
  have HIX : Hid (∀ (k : Nat) (hk : k < 24) (w : World), (Instr.index 90 (.agg (brow 72 (ccell T)).toArray) (.int .i64 (k : Int))).run Tryz.prog w = .ok (.agg #[.int .i64 (T.zone k), .int .i64 (T.off k), .string (T.tag k)]) w) := hix
  clear hix
  generalize hcs : brow 72 (ccell T) = cs at *
  clear hcs
  go_enter Tryz.func95, Tryz.ntmps95
  go_wp2_with (refine wpList_load_mid (by rfl) 90 _ (by rfl) w.heap.size 1 (by rfl) _ _ hR Tryz.underlying90 (by rfl) (by rw [hL]; kernel_rfl) ?_)
  clear hR hL q0 c1 c2
  generalize (w.alloc (.cells cs0 92)).alloc (.cells Tryz.zeroCells206 206) = w0 at *
  go_loopw [16] (fun i wr => ∃ k : Nat, k ≤ 24 ∧ i = .int .i64 k ∧ fine T k ∧ Cel wr (w.heap.size + 1) 128 (fun j => .bool (hitB T k j)) ∧ Since w wr) (fun i _ => 24 - (intOf i).toNat)
  case atStart => exact ⟨0, by omega, rfl, fine_zero T, HT.out, HS.out⟩
  case round =>
    obtain ⟨k, hk, rfl, hf, ht, hs⟩ := hrel
    have HF : Hid (fine T k) := hf
    have HTK : Hid (Cel wr (w.heap.size + 1) 128 (fun j => .bool (hitB T k j))) := ht
    have HSK : Hid (Since w wr) := hs
    clear hf ht hs
    by_cases hlt : k < 24
    · have hlt2 : (k : Int) < 24 := by omega
      have hix := HIX.out k hlt
      by_cases hn : nul T k
      · have HN : Hid (nul T k) := hn
        obtain ⟨z0, o0, t0⟩ := hn
        rw [z0, o0, t0] at hix
        clear z0 o0 t0
        have hnb : nulB 0 0 ⟨#[]⟩ = true := rfl
        go_wp2_with fail
        go_roundw
        case rel => exact ⟨k + 1, by omega, by go_num, fine_nul HF.out HN.out, (HTK.out.since ((Since.refl _).alloc _)).congr (fun j hj => by rw [hitB_nul HN.out]), HSK.out.alloc _⟩
        case measure => simp [intOf]; omega
      · have hnb := nulB_false hn
        have HN : Hid (¬ nul T k) := hn
        clear hn
        by_cases hm : may T k
        · have hmb := mayB_true hm
          obtain ⟨m1, m2, m3, m4, m5⟩ := hm
          have HM : Hid (may T k) := ⟨m1, m2, m3, m4, m5⟩
          obtain ⟨z, hz⟩ : ∃ z : Nat, T.zone k = z := ⟨(T.zone k).toNat, by omega⟩
          obtain ⟨o, ho⟩ : ∃ o : Nat, T.off k = o := ⟨(T.off k).toNat, by omega⟩
          rw [hz, ho] at hix hnb hmb
          rw [hz] at m2 m3
          rw [ho] at m4 m5
          have HZ : Hid (T.zone k = z) := hz
          have HO : Hid (T.off k = o) := ho
          clear hz ho m1
          generalize T.tag k = t at *
          have hz8 : z < 8 := by omega
          have ho16 : o < 16 := by omega
          clear m2 m4
          obtain ⟨x, hx⟩ : ∃ x, hitB T k (z * 16 + o) = x := ⟨_, rfl⟩
          have HX : Hid (hitB T k (z * 16 + o) = x) := hx
          clear hx
          go_wp2_with fail
          have HC3 : Hid (Cel (wr.alloc (.cells #[.int .i64 (z : Int), .int .i64 (o : Int), .string t] 89)).drew wr.heap.size 3 (three3 (.int .i64 (z : Int)) (.int .i64 (o : Int)) (.string t))) := (cel3 wr _ _ _ _).since (Since.refl _).drew
          have HTT : Hid (Cel (wr.alloc (.cells #[.int .i64 (z : Int), .int .i64 (o : Int), .string t] 89)).drew (w.heap.size + 1) 128 (fun j => .bool (hitB T k j))) := (HTK.out.since ((Since.refl _).alloc _)).since (Since.refl _).drew
          have hS4 : (fun W : World => W.cell? ⟨wr.heap.size, 0, none⟩ = some (.int .i64 (z : Int)) ∧ W.cell? ⟨wr.heap.size, 1, none⟩ = some (.int .i64 (o : Int)) ∧ W.cell? ⟨wr.heap.size, 2, none⟩ = some (.string t) ∧ W.cell? ⟨w.heap.size + 1, z * 16 + o, none⟩ = some (.bool x)) (wr.alloc (.cells #[.int .i64 (z : Int), .int .i64 (o : Int), .string t] 89)).drew := ⟨HC3.out.cell 0 (by omega), HC3.out.cell 1 (by omega), HC3.out.cell 2 (by omega), by rw [HTT.out.cell (z * 16 + o) (by omega), HX.out]⟩
          refine wp_region_held (S := fun W : World => W.cell? ⟨wr.heap.size, 0, none⟩ = some (.int .i64 (z : Int)) ∧ W.cell? ⟨wr.heap.size, 1, none⟩ = some (.int .i64 (o : Int)) ∧ W.cell? ⟨wr.heap.size, 2, none⟩ = some (.string t) ∧ W.cell? ⟨w.heap.size + 1, z * 16 + o, none⟩ = some (.bool x)) (by kernel_rfl) ?_
          refine takeD (i := 0) (d := 22) (v := ?w0) rfl rfl (by kernel_rfl) (by kernel_rfl) (by kernel_rfl) (fun _ _ _ h => h) (Or.inl ⟨by rfl, ?hw0⟩) hS4 ?q0
          case hw0 => (intro w hSw; obtain ⟨s0, s1, s2, s3⟩ := hSw; go_simp; try with_reducible rfl)
          simp only [Act.put, List.setIfInBounds_toArray, List.set_cons_zero, List.set_cons_succ]
          refine wpAnyH_ready (rs := [1]) (by kernel_rfl) (by simp) (AllReadyH.cons rfl (fun K hK => ?_) AllReadyH.nil)
          go_simp
          refine (may_any _ _ _ _).mono ?_
          rintro e w1 ⟨rfl, hS1⟩
          rw [hmb]
          simp only []
          have hS5 : (fun W : World => W.cell? ⟨wr.heap.size, 0, none⟩ = some (.int .i64 (z : Int)) ∧ W.cell? ⟨wr.heap.size, 1, none⟩ = some (.int .i64 (o : Int)) ∧ W.cell? ⟨wr.heap.size, 2, none⟩ = some (.string t) ∧ W.cell? ⟨w.heap.size + 1, z * 16 + o, none⟩ = some (.bool x)) w1 := ⟨(HC3.out.since hS1).cell 0 (by omega), (HC3.out.since hS1).cell 1 (by omega), (HC3.out.since hS1).cell 2 (by omega), by rw [(HTT.out.since hS1).cell (z * 16 + o) (by omega), HX.out]⟩
          refine hK.out _ _ hS5 (fun _ => ?_)
          clear hK K
          (try simp only [Act.put, List.setIfInBounds_toArray, List.set_cons_zero, List.set_cons_succ])
          refine takeD (i := 2) (d := 24) (v := ?w2) rfl rfl (by kernel_rfl) (by kernel_rfl) (by kernel_rfl) (fun _ _ _ h => h) (Or.inl ⟨by rfl, ?hw2⟩) hS5 ?q2
          case hw2 => (intro w _; go_simp; try with_reducible rfl)
          simp only [Act.put, List.setIfInBounds_toArray, List.set_cons_zero, List.set_cons_succ]
          refine takeD (i := 3) (d := 25) (v := ?w3) rfl rfl (by kernel_rfl) (by kernel_rfl) (by kernel_rfl) (fun _ _ _ h => h) (Or.inl ⟨by rfl, ?hw3⟩) hS5 ?q3
          case hw3 => (intro w _; go_simp; try with_reducible rfl)
          simp only [Act.put, List.setIfInBounds_toArray, List.set_cons_zero, List.set_cons_succ]
          refine takeD (i := 4) (d := 26) (v := ?w4) rfl rfl (by kernel_rfl) (by kernel_rfl) (by kernel_rfl) (fun _ _ _ h => h) (Or.inl ⟨wanted_by rfl rfl rfl rfl, ?hw4⟩) hS5 ?q4
          case hw4 => (intro w _; go_simp; try with_reducible rfl)
          simp only [Act.put, List.setIfInBounds_toArray, List.set_cons_zero, List.set_cons_succ]
          refine takeD (i := 5) (d := 27) (v := ?w5) rfl rfl (by kernel_rfl) (by kernel_rfl) (by kernel_rfl) (fun _ _ _ h => h) (Or.inl ⟨wanted_by rfl rfl rfl rfl, ?hw5⟩) hS5 ?q5
          case hw5 => (intro w hSw; obtain ⟨s0, s1, s2, s3⟩ := hSw; go_simp; try with_reducible rfl)
          simp only [Act.put, List.setIfInBounds_toArray, List.set_cons_zero, List.set_cons_succ]
          refine takeD (i := 6) (d := 28) (v := ?w6) rfl rfl (by kernel_rfl) (by kernel_rfl) (by kernel_rfl) (fun _ _ _ h => h) (Or.inl ⟨wanted_by rfl rfl rfl rfl, ?hw6⟩) hS5 ?q6
          case hw6 => (intro w _; go_simp; try with_reducible rfl)
          simp only [Act.put, List.setIfInBounds_toArray, List.set_cons_zero, List.set_cons_succ]
          refine takeD (i := 7) (d := 29) (v := ?w7) rfl rfl (by kernel_rfl) (by kernel_rfl) (by kernel_rfl) (fun _ _ _ h => h) (Or.inl ⟨wanted_by rfl rfl rfl rfl, ?hw7⟩) hS5 ?q7
          case hw7 => (intro w hSw; obtain ⟨s0, s1, s2, s3⟩ := hSw; go_simp; try with_reducible rfl)
          simp only [Act.put, List.setIfInBounds_toArray, List.set_cons_zero, List.set_cons_succ]
          refine takeD (i := 8) (d := 30) (v := ?w8) rfl rfl (by kernel_rfl) (by kernel_rfl) (by kernel_rfl) (fun _ _ _ h => h) (Or.inl ⟨wanted_by rfl rfl rfl rfl, ?hw8⟩) hS5 ?q8
          case hw8 => (intro w _; go_simp; try with_reducible rfl)
          simp only [Act.put, List.setIfInBounds_toArray, List.set_cons_zero, List.set_cons_succ]
          refine takeD (i := 9) (d := 31) (v := ?w9) rfl rfl (by kernel_rfl) (by kernel_rfl) (by kernel_rfl) (fun _ _ _ h => h) (Or.inl ⟨wanted_by rfl rfl rfl rfl, ?hw9⟩) hS5 ?q9
          case hw9 => (intro w _; go_simp; try with_reducible rfl)
          simp only [Act.put, List.setIfInBounds_toArray, List.set_cons_zero, List.set_cons_succ]
          refine takeD (i := 10) (d := 32) (v := ?w10) rfl rfl (by kernel_rfl) (by kernel_rfl) (by kernel_rfl) (fun _ _ _ h => h) (Or.inl ⟨wanted_by rfl rfl rfl rfl, ?hw10⟩) hS5 ?q10
          case hw10 => (intro w hSw; obtain ⟨s0, s1, s2, s3⟩ := hSw; go_simp; try with_reducible rfl)
          simp only [Act.put, List.setIfInBounds_toArray, List.set_cons_zero, List.set_cons_succ]
          refine takeD (i := 11) (d := 33) (v := ?w11) rfl rfl (by kernel_rfl) (by kernel_rfl) (by kernel_rfl) (fun _ _ _ h => h) (Or.inl ⟨by rfl, ?hw11⟩) hS5 ?q11
          case hw11 => (intro w _; go_simp; try with_reducible rfl)
          simp only [Act.put, List.setIfInBounds_toArray, List.set_cons_zero, List.set_cons_succ]
          refine wpAnyH_done (by kernel_rfl) ?_ _
          have HS5 : Hid (Since w w1) := (HSK.out.alloc _).drew.trans hS1
          have HC5 : Hid (Cel w1 wr.heap.size 3 (three3 (.int .i64 (z : Int)) (.int .i64 (o : Int)) (.string t))) := HC3.out.since hS1
          have HT5 : Hid (Cel w1 (w.heap.size + 1) 128 (fun j => .bool (hitB T k j))) := HTT.out.since hS1
          clear hS4 hS5 hS1 HC3 HTT hix hnb hmb
          have hhit := hitB_at T k z o ho16
          rw [HX.out] at hhit
          cases x with
          | true =>
            have HB : Hid (rtB T = false) := rtB_false (fun h => fine_not HN.out (Or.inr (by rw [HZ.out, HO.out]; exact hhit.1 rfl)) hlt h.2)
            clear hhit
            go_wp2_with fail
            go_ret
            exact ⟨by rw [HB.out]; rfl, HS5.out⟩
          | false =>
            have HH : Hid (¬ hit T k (z : Int) (o : Int)) := fun h => Bool.noConfusion (hhit.2 h)
            clear hhit
            have hq0 := (HC5.out.since (Since.refl _).drew).cell 0 (by omega)
            have hq1 := (HC5.out.since (Since.refl _).drew).cell 1 (by omega)
            rw [show three3 (.int .i64 (z : Int)) (.int .i64 (o : Int)) (.string t) 0 = .int .i64 (z : Int) from rfl] at hq0
            rw [show three3 (.int .i64 (z : Int)) (.int .i64 (o : Int)) (.string t) 1 = .int .i64 (o : Int) from rfl] at hq1
            have hq2 := (HT5.out.since (Since.refl _).drew).cell (z * 16 + o) (by omega)
            have hq3 := (HT5.out.since (Since.refl _).drew).frozen (z * 16 + o) (by omega)
            have HT6 : Hid (Cel (w1.drew.setCell ⟨w.heap.size + 1, z * 16 + o, none⟩ (.bool true)) (w.heap.size + 1) 128 (fun j => .bool (hitB T (k + 1) j))) := ((HT5.out.since (Since.refl _).drew).set (z * 16 + o) (by omega) (.bool true)).congr (fun j hj => by
              unfold updv
              have := hitB_set HN.out z o HZ.out HO.out ho16 j
              by_cases e : j = z * 16 + o
              · rw [if_pos e]; rw [if_pos e] at this; rw [← this]
              · rw [if_neg e]; rw [if_neg e] at this; rw [← this])
            have HS6 : Hid (Since w (w1.drew.setCell ⟨w.heap.size + 1, z * 16 + o, none⟩ (.bool true))) := HS5.out.drew.setCell (by show w.heap.size ≤ w.heap.size + 1; omega) _
            have HF6 : Hid (fine T (k + 1)) := fine_may HF.out HM.out (by rw [HZ.out, HO.out]; exact HH.out)
            go_wp2_with fail
            go_region
            clear hq0 hq1 hq2 hq3
            go_wp2_with fail
            go_roundw
            case rel => exact ⟨k + 1, by omega, by go_num, HF6.out, HT6.out, HS6.out⟩
            case measure => simp [intOf]; omega
        · have hmb := mayB_false hm
          have HM : Hid (¬ may T k) := hm
          clear hm
          generalize T.zone k = z at *
          generalize T.off k = o at *
          generalize T.tag k = t at *
          go_wp2_with fail
          have HC3 : Hid (Cel (wr.alloc (.cells #[.int .i64 z, .int .i64 o, .string t] 89)).drew wr.heap.size 3 (three3 (.int .i64 z) (.int .i64 o) (.string t))) := (cel3 wr _ _ _ _).since (Since.refl _).drew
          have hS4 : (fun W : World => W.rangeAt wr.heap.size 0 [.int .i64 z, .int .i64 o, .string t]) (wr.alloc (.cells #[.int .i64 z, .int .i64 o, .string t] 89)).drew := range3 HC3.out
          refine wp_region_held (S := fun W : World => W.rangeAt wr.heap.size 0 [.int .i64 z, .int .i64 o, .string t]) (by kernel_rfl) ?_
          refine takeD (i := 0) (d := 22) (v := .agg #[.int .i64 z, .int .i64 o, .string t]) rfl rfl (by kernel_rfl) (by kernel_rfl) (by kernel_rfl) (fun _ _ _ h => h) (yieldsIf_load_mid (by rfl) 89 _ (by rfl) wr.heap.size 0 (by rfl) _ _ (fun w hSw => hSw) Tryz.underlying89 (by rfl) (by kernel_rfl)) hS4 ?r0
          simp only [Act.put, List.setIfInBounds_toArray, List.set_cons_zero, List.set_cons_succ]
          refine wpAnyH_ready (rs := [1]) (by kernel_rfl) (by simp) (AllReadyH.cons rfl (fun K hK => ?_) AllReadyH.nil)
          go_simp
          refine (may_any _ _ _ _).mono ?_
          rintro e w1 ⟨rfl, hS1⟩
          rw [hmb]
          simp only []
          have hS5 : (fun W : World => W.rangeAt wr.heap.size 0 [.int .i64 z, .int .i64 o, .string t]) w1 := range3 (HC3.out.since hS1)
          refine hK.out _ _ hS5 (fun _ => ?_)
          clear hK K
          (try simp only [Act.put, List.setIfInBounds_toArray, List.set_cons_zero, List.set_cons_succ])
          refine takeD (i := 2) (d := 24) (v := ?v2) rfl rfl (by kernel_rfl) (by kernel_rfl) (by kernel_rfl) (fun _ _ _ h => h) (Or.inl ⟨by rfl, ?hy2⟩) hS5 ?r2
          case hy2 => (intro w _; go_simp; try with_reducible rfl)
          simp only [Act.put, List.setIfInBounds_toArray, List.set_cons_zero, List.set_cons_succ]
          refine takeD (i := 3) (d := 25) (v := ?v3) rfl rfl (by kernel_rfl) (by kernel_rfl) (by kernel_rfl) (fun _ _ _ h => h) (Or.inl ⟨by rfl, ?hy3⟩) hS5 ?r3
          case hy3 => (intro w _; go_simp; try with_reducible rfl)
          simp only [Act.put, List.setIfInBounds_toArray, List.set_cons_zero, List.set_cons_succ]
          refine takeD (i := 4) (d := 26) (v := undef) rfl rfl (by kernel_rfl) (by kernel_rfl) (by kernel_rfl) (fun _ _ _ h => h) (Or.inr ⟨unwanted_by rfl rfl rfl rfl (by decide), rfl⟩) hS5 ?r4
          simp only [Act.put, List.setIfInBounds_toArray, List.set_cons_zero, List.set_cons_succ]
          refine takeD (i := 5) (d := 27) (v := undef) rfl rfl (by kernel_rfl) (by kernel_rfl) (by kernel_rfl) (fun _ _ _ h => h) (Or.inr ⟨unwanted_by rfl rfl rfl rfl (by decide), rfl⟩) hS5 ?r5
          simp only [Act.put, List.setIfInBounds_toArray, List.set_cons_zero, List.set_cons_succ]
          refine takeD (i := 6) (d := 28) (v := undef) rfl rfl (by kernel_rfl) (by kernel_rfl) (by kernel_rfl) (fun _ _ _ h => h) (Or.inr ⟨unwanted_by rfl rfl rfl rfl (by decide), rfl⟩) hS5 ?r6
          simp only [Act.put, List.setIfInBounds_toArray, List.set_cons_zero, List.set_cons_succ]
          refine takeD (i := 7) (d := 29) (v := undef) rfl rfl (by kernel_rfl) (by kernel_rfl) (by kernel_rfl) (fun _ _ _ h => h) (Or.inr ⟨unwanted_by rfl rfl rfl rfl (by decide), rfl⟩) hS5 ?r7
          simp only [Act.put, List.setIfInBounds_toArray, List.set_cons_zero, List.set_cons_succ]
          refine takeD (i := 8) (d := 30) (v := undef) rfl rfl (by kernel_rfl) (by kernel_rfl) (by kernel_rfl) (fun _ _ _ h => h) (Or.inr ⟨unwanted_by rfl rfl rfl rfl (by decide), rfl⟩) hS5 ?r8
          simp only [Act.put, List.setIfInBounds_toArray, List.set_cons_zero, List.set_cons_succ]
          refine takeD (i := 9) (d := 31) (v := undef) rfl rfl (by kernel_rfl) (by kernel_rfl) (by kernel_rfl) (fun _ _ _ h => h) (Or.inr ⟨unwanted_by rfl rfl rfl rfl (by decide), rfl⟩) hS5 ?r9
          simp only [Act.put, List.setIfInBounds_toArray, List.set_cons_zero, List.set_cons_succ]
          refine takeD (i := 10) (d := 32) (v := undef) rfl rfl (by kernel_rfl) (by kernel_rfl) (by kernel_rfl) (fun _ _ _ h => h) (Or.inr ⟨unwanted_by rfl rfl rfl rfl (by decide), rfl⟩) hS5 ?r10
          simp only [Act.put, List.setIfInBounds_toArray, List.set_cons_zero, List.set_cons_succ]
          refine takeD (i := 11) (d := 33) (v := ?v11) rfl rfl (by kernel_rfl) (by kernel_rfl) (by kernel_rfl) (fun _ _ _ h => h) (Or.inl ⟨by rfl, ?hy11⟩) hS5 ?r11
          case hy11 => (intro w _; go_simp; try with_reducible rfl)
          simp only [Act.put, List.setIfInBounds_toArray, List.set_cons_zero, List.set_cons_succ]
          refine wpAnyH_done (by kernel_rfl) ?_ _
          have HB : Hid (rtB T = false) := rtB_false (fun h => fine_not HN.out (Or.inl HM.out) hlt h.2)
          have HS5 : Hid (Since w w1) := (HSK.out.alloc _).drew.trans hS1
          clear hS4 hS5 hS1 HC3 hix hnb hmb
          go_wp2_with fail
          go_ret
          exact ⟨by rw [HB.out]; rfl, HS5.out⟩
    · have hke : k = 24 := by omega
      subst hke
      have HB : Hid (rtB T = true) := rtB_true ⟨HC1.out, HF.out⟩
      go_wp2_with fail
      go_ret
      exact ⟨by rw [HB.out]; rfl, HSK.out⟩
theorem right_any (T : Tb) (w : World) : Calls Tryz.prog 95 #[tval T] w fun e w' => e = .returned (.bool (rtB T)) ∧ Since w w' := by
  by_cases h : 1 ≤ T.count ∧ T.count ≤ 1099511627776
  · exact right_loop T w h.1 h.2
  · rw [rtB_false (fun hr => h hr.1)]
    exact right_count T w (by omega)
end Tw
end Go.Proofs.YtifnhnfjelfddaaGreatDoor
