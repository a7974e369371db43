import Derived.Test.YtbfjklpoheooaaaGreatDoorJ17
set_option linter.unusedSimpArgs false
set_option linter.unusedVariables false
namespace Go.Proofs.YtbfjklpoheooaaaGreatDoor
set_option maxRecDepth 100000
namespace Sm
open Go.RowKit
attribute [local go_sem] U_add U_mulc U_xor U_and U_or U_shr U_shl U_not U_byte U_cells U_match U_oneCell U_store U_store1 setCell_twice
attribute [local go_sem ↓] U_conv conv1 conv4 conv8 son_append son_nil nil_son strOfNums_size
def lenW : Value → Nat
  | .slice _ n _ => n
  | _ => 0
set_option maxHeartbeats 4000000 in
set_option maxRecDepth 100000 in
theorem rsum_any (b : Nat) (s : ByteArray) (w : World) (hs : s.size ≤ 10000) (hh : Arr w b 0 8 H0.fn) (hk : Arr w b 8 64 kn) :
    Calls Tryz.prog 141 #[.pointer (some ⟨b, 0, none⟩), .string s] w fun e w' => e = .returned (.string (strOfNums (sumSt s).bytes)) ∧ Since w w' := by
  obtain ⟨_, c0, c1, c2, c3, c4, c5, c6, c7, _, _, _, _, _, _, _, _⟩ := Arr8.of hh
  have hcv := run_conv
  have hW0 : (w.alloc (.cells #[U H0.a, U H0.b, U H0.c, U H0.d, U H0.e, U H0.f, U H0.g, U H0.h] 67)).heap.size = w.heap.size + 1 := by simp
  have hBs := bs_conv (w.alloc (.cells #[U H0.a, U H0.b, U H0.c, U H0.d, U H0.e, U H0.f, U H0.g, U H0.h] 67)) s
  rw [hW0] at hBs
  have HBs : Hid (Bs (Lib.bytesWorld (w.alloc (.cells #[U H0.a, U H0.b, U H0.c, U H0.d, U H0.e, U H0.f, U H0.g, U H0.h] 67)) 5 s) (w.heap.size + 1) (w.heap.size + 1) s.size (grownCap (w.alloc (.cells #[U H0.a, U H0.b, U H0.c, U H0.d, U H0.e, U H0.f, U H0.g, U H0.h] 67)) s.size 0 5) (byAt s)) := hBs
  have hB1 : ∀ o, w.heap.size + 1 ≤ ((Lib.bytesWorld (w.alloc (.cells #[U H0.a, U H0.b, U H0.c, U H0.d, U H0.e, U H0.f, U H0.g, U H0.h] 67)) 5 s).alloc o).heap.size := by
    intro o; have := Lib.bytesWorld_size (w.alloc (.cells #[U H0.a, U H0.b, U H0.c, U H0.d, U H0.e, U H0.f, U H0.g, U H0.h] 67)) 5 s; simp at this ⊢; omega
  have HB1 := (show Hid (∀ o, w.heap.size + 1 ≤ ((Lib.bytesWorld (w.alloc (.cells #[U H0.a, U H0.b, U H0.c, U H0.d, U H0.e, U H0.f, U H0.g, U H0.h] 67)) 5 s).alloc o).heap.size) from hB1)
  clear hBs hB1 hW0
  go_enter Tryz.func141, Tryz.ntmps141
  go_wp2_with (at_builtin; refine wpList_bs _ (by rfl) _ _ (by rfl) (w.heap.size + 1) (w.heap.size + 1) s.size _ (byAt s) (by rfl) (HBs.out.since ((Since.refl _).alloc _)) 128 _ 1 (by rfl) (one_at _ _ _ _ rfl) (HB1.out _) (by omega) ?_; intro g cap w2 hb hsi)
  have hs0 := hsi _ ((since_conv (w.alloc (.cells #[U H0.a, U H0.b, U H0.c, U H0.d, U H0.e, U H0.f, U H0.g, U H0.h] 67)) s).alloc _) (by simp)
  have hA0 : Arr (w.alloc (.cells #[U H0.a, U H0.b, U H0.c, U H0.d, U H0.e, U H0.f, U H0.g, U H0.h] 67)) w.heap.size 0 8 H0.fn := Arr.new w 8 H0.fn _ _ (by rfl) _ rfl
  have hSw : Since w (w.alloc (.cells #[U H0.a, U H0.b, U H0.c, U H0.d, U H0.e, U H0.f, U H0.g, U H0.h] 67)) := (Since.refl w).alloc _
  have hz0 : (w.alloc (.cells #[U H0.a, U H0.b, U H0.c, U H0.d, U H0.e, U H0.f, U H0.g, U H0.h] 67)).heap.size = w.heap.size + 1 := by simp
  clear HBs HB1 hsi hcv c0 c1 c2 c3 c4 c5 c6 c7
  generalize w.alloc _ = w0 at *
  have hb1 : Bs w2 (w.heap.size + 1) g (s.size + 1) cap (byAt (msg s)) := by
    refine Bs.more (d := 128) (hb.congr (fun j hj => ?_)) (msg_128 s (by omega))
    unfold snocf
    by_cases h1 : j < s.size
    · rw [if_pos h1, if_pos h1]; unfold msg; rw [byAt_left _ _ _ h1]
    · rw [if_neg h1, if_neg h1]
  clear hb
  have hze : zend s.size % 64 = 56 := by unfold zend; omega
  have hzl : ∀ n, s.size + 1 ≤ n → n < zend s.size → n % 64 ≠ 56 := by intro n h1 h2; unfold zend at h2; omega
  have hzb : zend s.size ≤ s.size + 64 := by unfold zend; omega
  have hza : s.size + 1 ≤ zend s.size := by unfold zend; omega
  have HZL := (show Hid (∀ n, s.size + 1 ≤ n → n < zend s.size → n % 64 ≠ 56) from hzl)
  have HZE := (show Hid (zend s.size % 64 = 56) from hze)
  clear hzl hze
  go_loopw [7] (fun m wr => ∃ (n g cap : Nat), s.size + 1 ≤ n ∧ n ≤ zend s.size ∧ m = .slice (some ⟨g, 0, none⟩) n cap ∧ Bs wr (w.heap.size + 1) g n cap (byAt (msg s)) ∧ Since w0 wr) (fun m _ => zend s.size - lenW m)
  case atStart => exact ⟨s.size + 1, g, cap, Nat.le_refl _, hza, rfl, hb1, hs0⟩
  case round =>
    clear hb1 hs0
    obtain ⟨n, g, cap, hn1, hn2, rfl, hb, hsr⟩ := hrel
    have hbs := hsr.size
    have hB : ∀ o, w.heap.size + 1 ≤ (wr.alloc o).heap.size := by intro o; simp; omega
    by_cases hlt : n < zend s.size
    · have hne := HZL.out n hn1 hlt
      have hnI : (((n : Int) % 64) != 56) = true := by simp; omega
      go_wp2_with (at_builtin; refine wpList_bs _ (by rfl) _ _ (by rfl) (w.heap.size + 1) g n cap (byAt (msg s)) (by rfl) (hb.since ((Since.refl _).alloc _)) 0 _ 1 (by rfl) (one_at _ _ _ _ rfl) (hB _) (by omega) ?_; intro g2 cap2 w3 hb3 hsi)
      have hb4 := hb3.more (msg_0 s n (by omega) (by omega) hlt)
      have hs4 := hsi w0 (hsr.alloc _) (by omega)
      clear hb3 hsi hb hsr hB
      go_wp2_with fail
      go_roundw
      case rel => exact ⟨n + 1, g2, cap2, by omega, by omega, rfl, hb4, hs4⟩
      case measure => simp [lenW]; omega
    · have hne : n = zend s.size := by omega
      have h56 := HZE.out
      rw [← hne] at h56
      have hnI : (((n : Int) % 64) != 56) = false := by simp; omega
      clear h56 hB
      subst hne
      go_wp2_with fail
      go_loopw [7, 8] (fun m i wr => ∃ (t g cap : Nat), t ≤ 8 ∧ i = .int .i64 (56 - 8 * (t : Int)) ∧ m = .slice (some ⟨g, 0, none⟩) (zend s.size + t) cap ∧ Bs wr (w.heap.size + 1) g (zend s.size + t) cap (byAt (msg s)) ∧ Since w0 wr) (fun _ i _ => (intOf i + 8).toNat)
      case atStart => exact ⟨0, g, cap, by omega, rfl, rfl, hb, hsr⟩
      case round =>
        clear hb hsr hbs hnI HZL HZE
        obtain ⟨t, g, cap, ht, rfl, rfl, hb, hsr⟩ := hrel
        have hbs := hsr.size
        have hB : ∀ o, w.heap.size + 1 ≤ (wr.alloc o).heap.size := by intro o; simp; omega
        by_cases hlt : t < 8
        · have hm8 := msg_8 s t (by omega) hlt
          have htc : t = 0 ∨ t = 1 ∨ t = 2 ∨ t = 3 ∨ t = 4 ∨ t = 5 ∨ t = 6 ∨ t = 7 := by omega
          rcases htc with rfl | rfl | rfl | rfl | rfl | rfl | rfl | rfl
          all_goals
            simp only [be8, List.getD_cons_zero, List.getD_cons_succ] at hm8
            have HM : Hid _ := hm8
            clear hm8
            go_wp2_with (at_builtin; refine wpList_bs _ (by rfl) _ _ (by rfl) (w.heap.size + 1) g _ cap (byAt (msg s)) (by rfl) (hb.since ((Since.refl _).alloc _)) _ _ 1 (by rfl) (one_at _ _ _ _ rfl) (hB _) (by omega) ?_; intro g2 cap2 w3 hb3 hsi)
            have hb4 := hb3.more (by have e := HM.out; (try rw [Nat.add_zero] at e); (first | exact e | (rw [e]; omega)))
            have hs4 := hsi w0 (hsr.alloc _) (by omega)
            clear hb3 hsi hb hsr hB
            go_wp2_with fail
            go_roundw
            case rel => first | exact ⟨1, g2, cap2, by omega, rfl, rfl, hb4, hs4⟩ | exact ⟨2, g2, cap2, by omega, rfl, rfl, hb4, hs4⟩ | exact ⟨3, g2, cap2, by omega, rfl, rfl, hb4, hs4⟩ | exact ⟨4, g2, cap2, by omega, rfl, rfl, hb4, hs4⟩ | exact ⟨5, g2, cap2, by omega, rfl, rfl, hb4, hs4⟩ | exact ⟨6, g2, cap2, by omega, rfl, rfl, hb4, hs4⟩ | exact ⟨7, g2, cap2, by omega, rfl, rfl, hb4, hs4⟩ | exact ⟨8, g2, cap2, by omega, rfl, rfl, hb4, hs4⟩
            case measure => simp [intOf]
        · have ht8 : t = 8 := by omega
          subst ht8
          have hT := msg_mod s
          rw [msg_end] at hT
          obtain ⟨T, hTe⟩ : ∃ T, zend s.size + 8 = 64 * T := ⟨(zend s.size + 8) / 64, by omega⟩
          have hTb : T ≤ 200 := by omega
          have hsum : sumSt s = mixTo H0 (msg s) T := by
            rw [sum_msg, msg_end, hTe, Nat.mul_div_cancel_left _ (by decide)]
          have HSUM : Hid (sumSt s = mixTo H0 (msg s) T) := hsum
          rw [hTe] at hb ⊢
          have HME : Hid ((msg s).size = 64 * T) := by show (msg s).size = 64 * T; rw [msg_end, hTe]
          have hcap := hb.le
          have hgl := hb.lt
          have hgn := hb.new
          have hms := hb.holds
          have hAr := hA0.since hsr
          have hSr := hSw.trans hsr
          clear hT hTe hsum hb hsr hbs hB hlt hzb hza hn1 hn2 hA0 hSw hz0 ht
          go_wp2_with fail
          go_loopw [7] (fun m wr2 => ∃ t o : Nat, t ≤ T ∧ m = .slice (some ⟨g, o, none⟩) (64 * T - 64 * t) (cap - 64 * t) ∧ (t < T → o = 64 * t) ∧ Arr wr2 w.heap.size 0 8 (mixTo H0 (msg s) t).fn ∧ (∀ j, j < 64 * T → wr2.cell? ⟨g, j, none⟩ = some (.int .u8 (byAt (msg s) j))) ∧ Since w wr2 ∧ g < wr2.heap.size) (fun m _ => lenW m)
          case atStart => exact ⟨0, 0, by omega, by simp, by simp, hAr, hms, hSr, hgl⟩
          case round =>
            clear hAr hms hSr hgl
            obtain ⟨t, o, ht, rfl, ho, hA, hM, hS, hgl⟩ := hrel
            by_cases hlt : t < T
            · have hoe := ho hlt
              subst hoe
              clear ho
              have hm1 : 0 < 64 * T - 64 * t := by omega
              have hm2 : (0 : Int) < ((64 * T - 64 * t : Nat) : Int) := by omega
              obtain ⟨wq, hwq⟩ : ∃ x, x = wr := ⟨wr, rfl⟩
              subst hwq
              go_wp2_with fail
              go_loopw [65] (fun i wr2 => ∃ k : Nat, k ≤ 64 ∧ i = .int .i64 k ∧ Arr wr2 wq.heap.size 0 64 (schU (blk (msg s) t) k) ∧ Since wq wr2) (fun i _ => 64 - (intOf i).toNat)
              case atStart => exact ⟨0, by omega, rfl, Arr.new wq 64 _ _ _ (by rfl) _ rfl, (Since.refl wq).alloc _⟩
              case round =>
                obtain ⟨k, hk4, rfl, hW, hS4⟩ := hrel
                by_cases hk64 : k < 64
                · by_cases hk16 : k < 16
                  · have hMk : ∀ j, j < 64 * T → wr.cell? ⟨g, j, none⟩ = some (.int .u8 (byAt (msg s) j)) := fun j hj => by
                      rw [hS4.cell (p := ⟨g, j, none⟩) hgl]; exact hM j hj
                    have e0 := hMk (64 * t + 4 * k) (by omega)
                    have e1 := hMk (64 * t + 4 * k + 1) (by omega)
                    have e2 := hMk (64 * t + 4 * k + 2) (by omega)
                    have e3 := hMk (64 * t + 4 * k + 3) (by omega)
                    have hck := hW.cell k (by omega)
                    have hfk := hW.frozen k (by omega)
                    have hv0 : schU (blk (msg s) t) k k = 0 := by unfold schU fstTo; rw [if_pos (by omega), if_neg (by omega)]
                    rw [hv0] at hck
                    rw [Nat.zero_add] at hck hfk
                    clear hMk hv0
                    have hc4 : 4 * k + 4 ≤ cap - 64 * t := by omega
                    have hc4I : 4 * (k : Int) + 4 ≤ ((cap - 64 * t : Nat) : Int) := by omega
                    go_wp2_with fail
                    refine wp_loop_rounds 5 ?_
                    iterate 5 (rw [rounds_succ]; go_wp2_with fail)
                    go_roundw
                    case rel =>
                      exact ⟨k + 1, by omega, by go_num, schU_fst hW (by rw [HME.out]; omega) hk16, hS4.setCell (Nat.le_refl _) _⟩
                    case measure => simp [intOf]; omega
                  · have hW2 := hW
                    rw [schU_late _ _ (by omega)] at hW2
                    have c2 := hW2.cell (k - 2) (by omega)
                    have c15 := hW2.cell (k - 15) (by omega)
                    have c7 := hW2.cell (k - 7) (by omega)
                    have c16 := hW2.cell (k - 16) (by omega)
                    have f0 := hW2.frozen k (by omega)
                    have cc0 := hW2.cell k (by omega)
                    rw [Nat.zero_add] at c2 c15 c7 c16 cc0 f0
                    have n7 : ¬ k = k - 7 := by omega
                    have n16 : ¬ k = k - 16 := by omega
                    have a7 : (7 : Int) ≤ k := by omega
                    have b7 : (k : Int) - 7 < 64 := by omega
                    have a16 : (16 : Int) ≤ k := by omega
                    have b16 : (k : Int) - 16 < 64 := by omega
                    have a0 : (0 : Int) ≤ k := by omega
                    have t7 : ((k : Int) - 7).toNat = k - 7 := by omega
                    have t16 : ((k : Int) - 16).toNat = k - 16 := by omega
                    have v7 : IntKind.i64.wrap ((k : Int) - 7) = k - 7 := by simp [IntKind.wrap, IntKind.bits, IntKind.signed]; omega
                    have v16 : IntKind.i64.wrap ((k : Int) - 16) = k - 16 := by simp [IntKind.wrap, IntKind.bits, IntKind.signed]; omega
                    have b0 : (k : Int) < 64 := by omega
                    go_wp2_with fail
                    go_quiet (fail)
                    go_wp2_with fail
                    go_region_held3 (fun w' => w'.cell? ⟨wq.heap.size, k - 7, none⟩ = some (U (schTo (blk (msg s) t) (k - 16) (k - 7))) ∧ w'.cell? ⟨wq.heap.size, k - 16, none⟩ = some (U (schTo (blk (msg s) t) (k - 16) (k - 16)))) (simp [cell_set_ne, n7, n16, c7, c16])
                      (first | (go_at_call 167; refine (rot_any _ _ _ (by decide) (by decide)).mono ?_; rintro e w' ⟨rfl, n, rfl⟩))
                    go_wp2_with fail
                    go_roundw
                    case rel =>
                      (repeat apply Exists.intro)
                      exact ⟨⟨k + 1, by omega, by go_num, schU_arr (hW2.drewN _) (by omega) hk64, (hS4.drewN _).setCell (Nat.le_refl _) _⟩, rfl⟩
                    case measure => simp [intOf]; omega
                · have hk4e : k = 64 := by omega
                  subst hk4e
                  rw [schU_late _ _ (by omega)] at hW
                  have hA4 := hA.since hS4
                  have hS5 := hS.trans hS4
                  have hM4 : ∀ j, j < 64 * T → wr.cell? ⟨g, j, none⟩ = some (.int .u8 (byAt (msg s) j)) := fun j hj => by
                    rw [hS4.cell (p := ⟨g, j, none⟩) hgl]; exact hM j hj
                  have hgl4 := Nat.lt_of_lt_of_le hgl hS4.size
                  have hcb : b ≠ w.heap.size := by have := hh.lt (by omega); omega
                  have Hst : Hid (mixTo H0 (msg s) (t + 1) = (mixTo H0 (msg s) t).mix (blk (msg s) t)) := rfl
                  clear hA hM hS4 hgl
                  generalize hste : mixTo H0 (msg s) t = st at *
                  clear hste
                  obtain ⟨wp, hwp⟩ : ∃ x, x = wr := ⟨wr, rfl⟩
                  subst hwp
                  obtain ⟨_, c0, c1, c2, c3, c4, c5, c6, c7, _, _, _, _, _, _, _, _⟩ := Arr8.of hA4
                  go_wp2_with fail
                  go_quiet (fail)
                  go_wp2_with fail
                  go_loopw [150, 15, 16, 17, 18, 19, 20, 21, 22] (fun i a b c d e f g h wr => ∃ k : Nat, k ≤ 64 ∧ Since wp wr ∧ i = .int .i64 k ∧ a = U (st.to kn (schTo (blk (msg s) t) 48) k).a ∧ b = U (st.to kn (schTo (blk (msg s) t) 48) k).b ∧ c = U (st.to kn (schTo (blk (msg s) t) 48) k).c ∧ d = U (st.to kn (schTo (blk (msg s) t) 48) k).d ∧ e = U (st.to kn (schTo (blk (msg s) t) 48) k).e ∧ f = U (st.to kn (schTo (blk (msg s) t) 48) k).f ∧ g = U (st.to kn (schTo (blk (msg s) t) 48) k).g ∧ h = U (st.to kn (schTo (blk (msg s) t) 48) k).h) (fun i _ _ _ _ _ _ _ _ _ => 64 - (intOf i).toNat)
                  case atStart => exact ⟨0, by omega, (Since.refl _).drewN _, rfl, rfl, rfl, rfl, rfl, rfl, rfl, rfl, rfl⟩
                  case round =>
                    clear c0 c1 c2 c3 c4 c5 c6 c7
                    obtain ⟨k, hk6, hSr, rfl, rfl, rfl, rfl, rfl, rfl, rfl, rfl, rfl⟩ := hrel
                    by_cases hlt6 : k < 64
                    · have g1 := (hk.since (hS5.trans hSr)).cell k hlt6
                      have g2 := (hW.since hSr).cell k hlt6
                      rw [Nat.zero_add] at g2
                      generalize hr : st.to kn (schTo (blk (msg s) t) 48) k = r at *
                      have Hr := (show Hid (st.to kn (schTo (blk (msg s) t) 48) k = r) from hr)
                      clear hr
                      go_wp2_with fail
                      go_quiet ((go_at_call 167; exact Calls.quiet_of (rot_any _ _ _ (by decide) (by decide))))
                      go_wp2_with (go_at_call 167; refine (rot_any _ _ _ (by decide) (by decide)).mono ?_; rintro e w' ⟨rfl, nq2, rfl⟩)
                      go_roundw
                      case rel =>
                        have e1 : st.to kn (schTo (blk (msg s) t) 48) (k + 1) = r.step (kn k) (schTo (blk (msg s) t) 48 k) := by rw [← Hr.out]; rfl
                        (repeat apply Exists.intro)
                        refine ⟨⟨k + 1, by omega, ?_, by go_num, ?_⟩, rfl⟩
                        · first | exact hSr.drewN _ | exact (hSr.drewN _).drewN _ | exact ((hSr.drewN _).drewN _).drewN _ | exact (((hSr.drewN _).drewN _).drewN _).drewN _
                        · rw [e1, ← round_eq]
                          exact ⟨rfl, rfl, rfl, rfl, rfl, rfl, rfl, rfl⟩
                      case measure => simp [intOf]; omega
                    · have hk6e : k = 64 := by omega
                      subst hk6e
                      have hA6 := hA4.since hSr
                      have hM6 : ∀ j, j < 64 * T → wr.cell? ⟨g, j, none⟩ = some (.int .u8 (byAt (msg s) j)) := fun j hj => by
                        rw [hSr.cell (p := ⟨g, j, none⟩) hgl4]; exact hM4 j hj
                      have hS6 := hS5.trans hSr
                      have hgl6 := Nat.lt_of_lt_of_le hgl4 hSr.size
                      clear hA4 hM4 hS5 hgl4 hSr hW
                      generalize hr : st.to kn (schTo (blk (msg s) t) 48) 64 = r at *
                      have Hr := (show Hid (st.to kn (schTo (blk (msg s) t) 48) 64 = r) from hr)
                      clear hr
                      obtain ⟨_, c0, c1, c2, c3, c4, c5, c6, c7, _, _, _, _, _, _, _, _⟩ := Arr8.of hA6
                      have i0 : ∀ w, (Instr.index 67 (.agg #[U r.a, U r.b, U r.c, U r.d, U r.e, U r.f, U r.g, U r.h]) (.int .i64 0)).run Tryz.prog w = .ok (U r.a) w := fun _ => by kernel_rfl
                      have i1 : ∀ w, (Instr.index 67 (.agg #[U r.a, U r.b, U r.c, U r.d, U r.e, U r.f, U r.g, U r.h]) (.int .i64 1)).run Tryz.prog w = .ok (U r.b) w := fun _ => by kernel_rfl
                      have i2 : ∀ w, (Instr.index 67 (.agg #[U r.a, U r.b, U r.c, U r.d, U r.e, U r.f, U r.g, U r.h]) (.int .i64 2)).run Tryz.prog w = .ok (U r.c) w := fun _ => by kernel_rfl
                      have i3 : ∀ w, (Instr.index 67 (.agg #[U r.a, U r.b, U r.c, U r.d, U r.e, U r.f, U r.g, U r.h]) (.int .i64 3)).run Tryz.prog w = .ok (U r.d) w := fun _ => by kernel_rfl
                      have i4 : ∀ w, (Instr.index 67 (.agg #[U r.a, U r.b, U r.c, U r.d, U r.e, U r.f, U r.g, U r.h]) (.int .i64 4)).run Tryz.prog w = .ok (U r.e) w := fun _ => by kernel_rfl
                      have i5 : ∀ w, (Instr.index 67 (.agg #[U r.a, U r.b, U r.c, U r.d, U r.e, U r.f, U r.g, U r.h]) (.int .i64 5)).run Tryz.prog w = .ok (U r.f) w := fun _ => by kernel_rfl
                      have i6 : ∀ w, (Instr.index 67 (.agg #[U r.a, U r.b, U r.c, U r.d, U r.e, U r.f, U r.g, U r.h]) (.int .i64 6)).run Tryz.prog w = .ok (U r.g) w := fun _ => by kernel_rfl
                      have i7 : ∀ w, (Instr.index 67 (.agg #[U r.a, U r.b, U r.c, U r.d, U r.e, U r.f, U r.g, U r.h]) (.int .i64 7)).run Tryz.prog w = .ok (U r.h) w := fun _ => by kernel_rfl
                      go_wp2_with fail
                      refine wp_loop_rounds 9 ?_
                      iterate 9 (rw [rounds_succ]; go_wp2_with fail)
                      have e2 : mixTo H0 (msg s) (t + 1) = st.add r := by rw [Hst.out]; unfold St.mix; rw [Hr.out]
                      refine ⟨⟨t + 1, _, by omega, slice_next g t T cap, fun h => by rw [if_neg (by omega)]; omega, ?_, fun j hj => ?_, ?_, ?_⟩, by simp [lenW]; omega⟩
                      · rw [e2]; exact hA6.set8 (st.add r)
                      · exact (cell_set8 wr w.heap.size g j (st.add r) (by omega)).trans (hM6 j hj)
                      · exact hS6.set8 (Nat.le_refl _) (st.add r)
                      · exact Nat.lt_of_lt_of_le hgl6 (Nat.le_of_eq (size_set8 wr w.heap.size (st.add r)).symm)
            · have hte : t = T := by omega
              subst hte
              have hz0 : 64 * t - 64 * t = 0 := by omega
              have HS2 := HSUM
              clear hM HSUM ho
              generalize hqe : mixTo H0 (msg s) t = q at *
              clear hqe
              obtain ⟨_, c0, c1, c2, c3, c4, c5, c6, c7, _, _, _, _, _, _, _, _⟩ := Arr8.of hA
              have i0 : ∀ w, (Instr.index 67 (.agg #[U q.a, U q.b, U q.c, U q.d, U q.e, U q.f, U q.g, U q.h]) (.int .i64 0)).run Tryz.prog w = .ok (U q.a) w := fun _ => by kernel_rfl
              have i1 : ∀ w, (Instr.index 67 (.agg #[U q.a, U q.b, U q.c, U q.d, U q.e, U q.f, U q.g, U q.h]) (.int .i64 1)).run Tryz.prog w = .ok (U q.b) w := fun _ => by kernel_rfl
              have i2 : ∀ w, (Instr.index 67 (.agg #[U q.a, U q.b, U q.c, U q.d, U q.e, U q.f, U q.g, U q.h]) (.int .i64 2)).run Tryz.prog w = .ok (U q.c) w := fun _ => by kernel_rfl
              have i3 : ∀ w, (Instr.index 67 (.agg #[U q.a, U q.b, U q.c, U q.d, U q.e, U q.f, U q.g, U q.h]) (.int .i64 3)).run Tryz.prog w = .ok (U q.d) w := fun _ => by kernel_rfl
              have i4 : ∀ w, (Instr.index 67 (.agg #[U q.a, U q.b, U q.c, U q.d, U q.e, U q.f, U q.g, U q.h]) (.int .i64 4)).run Tryz.prog w = .ok (U q.e) w := fun _ => by kernel_rfl
              have i5 : ∀ w, (Instr.index 67 (.agg #[U q.a, U q.b, U q.c, U q.d, U q.e, U q.f, U q.g, U q.h]) (.int .i64 5)).run Tryz.prog w = .ok (U q.f) w := fun _ => by kernel_rfl
              have i6 : ∀ w, (Instr.index 67 (.agg #[U q.a, U q.b, U q.c, U q.d, U q.e, U q.f, U q.g, U q.h]) (.int .i64 6)).run Tryz.prog w = .ok (U q.g) w := fun _ => by kernel_rfl
              have i7 : ∀ w, (Instr.index 67 (.agg #[U q.a, U q.b, U q.c, U q.d, U q.e, U q.f, U q.g, U q.h]) (.int .i64 7)).run Tryz.prog w = .ok (U q.h) w := fun _ => by kernel_rfl
              go_wp2_with fail
              refine wp_loop_rounds 9 ?_
              iterate 9 (rw [rounds_succ]; go_wp2_with fail)
              go_ret
              refine ⟨?_, ?_⟩
              · rw [HS2.out]; exact ret_son rfl
              · repeat (first | exact hS | refine Since.alloc ?_ _)
end Sm
end Go.Proofs.YtbfjklpoheooaaaGreatDoor
