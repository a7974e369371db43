import Derived.BigQuiet
import Derived.Deep.RegionHeld3
import Derived.Deep.AppendLies
import Derived.Test.YtifnhnfjelfddaaGreatDoorJ11
import Derived.Test.YtifnhnfjelfddaaGreatDoorJ37
import Derived.Test.YtifnhnfjelfddaaGreatDoorJ39
set_option linter.unusedSimpArgs false
set_option linter.unusedVariables false
section
namespace Go.Proofs.YtifnhnfjelfddaaGreatDoor
set_option maxRecDepth 100000
namespace Vl
open Go.RowKit
open Tw (Tb tcell tval ccell)
theorem ne_nil {s : ByteArray} (h : ¬ s = ⟨#[]⟩) : s.toList.isEmpty = false ∧ ¬ s.toList = [] := by
  have h1 : ¬ s.toList = [] := fun e => h (ByteArray.ext (by
    rw [ByteArray.toList_eq] at e
    exact Array.toList_eq_nil_iff.1 e))
  exact ⟨by simpa using h1, h1⟩
section
variable {w0 w : World} {vb db cb : Nat} {kb kt : ByteArray} {S : Vs} {v : Value}
set_option maxHeartbeats 8000000 in
theorem write_any (B : Base w0 kb kt) (n : Int) (ho : S.ok n) (hn : n < 1000000000) (i : Int) (t : ByteArray) (h : Vol w0 w vb db cb kb kt S v) :
    Calls Tryz.prog 15 #[.pointer (some ⟨vb, 0, none⟩), .int .i64 i, .string t] w fun e w' => e = .returned (ev (S.write kb kt i t).1) ∧ Vto w0 w w' vb db cb kb kt (S.write kb kt i t).2 v := by
  have HB : Hid (Base w0 kb kt) := B
  have HO : Hid (S.ok n ∧ n < 1000000000) := ⟨ho, hn⟩
  have H : Hid (Vol w0 w vb db cb kb kt S v) := h
  clear h B ho hn
  cases hd : S.dead with
  | true =>
    have HE : Hid (S.write kb kt i t = (6, S)) := by show S.write kb kt i t = _; unfold Vs.write; rw [hd]; rfl
    have HD : Hid (S.dead = true) := hd
    clear hd
    go_enter Tryz.func15, Tryz.ntmps15
    go_wp2_with fail
    refine (orZero_any _ _).mono ?_
    rintro e wx ⟨rfl, hw⟩
    rw [hw]
    clear hw wx
    go_wp2_with fail
    refine (works_any H.out).mono ?_
    rintro e wx ⟨rfl, hw⟩
    rw [hw]
    clear hw wx
    rw [HD.out]
    go_wp2_with fail
    go_ret
    rw [HE.out, evn 6 (by decide)]
    exact ⟨rfl, H.out.self⟩
  | false =>
    have HD : Hid (S.dead = false) := hd
    clear hd
    go_enter Tryz.func15, Tryz.ntmps15
    go_wp2_with fail
    refine (orZero_any _ _).mono ?_
    rintro e wx ⟨rfl, hw⟩
    rw [hw]
    clear hw wx
    go_wp2_with fail
    refine (works_any H.out).mono ?_
    rintro e wx ⟨rfl, hw⟩
    rw [hw]
    clear hw wx
    rw [HD.out]
    go_wp2_with fail
    refine (hasCell_any _ _).mono ?_
    rintro e wx ⟨rfl, hw⟩
    rw [hw]
    clear hw wx
    by_cases hi : 0 ≤ i ∧ i < 24
    · rw [hc_true hi]
      obtain ⟨k, rfl⟩ := Int.eq_ofNat_of_zero_le hi.1
      have hk : (k : Int) < 24 := hi.2
      have HK : Hid (k < 24) := by show k < 24; omega
      have HI : Hid (¬ ¬ (0 ≤ (k : Int) ∧ (k : Int) < 24)) := fun q => q hi
      clear hi
      by_cases ht : 80 < t.size
      · have ht2 : (80 : Int) < t.size := by omega
        have HE : Hid (S.write kb kt k t = (4, S)) := by show S.write kb kt k t = _; unfold Vs.write; rw [HD.out, if_neg (by decide), if_neg HI.out, if_pos ht]
        clear ht
        go_wp2_with fail
        go_ret
        rw [HE.out, evn 4 (by decide)]
        exact ⟨rfl, H.out.self⟩
      · have ht2 : ¬ (80 : Int) < t.size := by omega
        have HT : Hid (¬ 80 < t.size) := ht
        clear ht
        have q := H.out.cx k HK.out
        by_cases hx : t = S.X k
        · have HE : Hid (S.write kb kt k t = (0, S)) := by show S.write kb kt k t = _; unfold Vs.write; rw [HD.out, if_neg (by decide), if_neg HI.out, if_neg HT.out, Int.toNat_natCast, if_pos hx]
          rw [← hx] at q
          clear hx
          go_wp2_with fail
          go_ret
          rw [HE.out, ev0]
          exact ⟨rfl, H.out.self⟩
        · have hxl := Tw.neq_list hx
          have HX : Hid (¬ t = S.X k) := hx
          clear hx
          by_cases he : t = ⟨#[]⟩
          · have HE : Hid (S.write kb kt k t = (0, S.set k 0 0 ⟨#[]⟩ ⟨#[]⟩)) := by show S.write kb kt k t = _; unfold Vs.write; rw [HD.out, if_neg (by decide), if_neg HI.out, if_neg HT.out, Int.toNat_natCast, if_neg HX.out, if_pos he]
            subst he
            obtain ⟨g1, g2⟩ := ne_nil (fun q : S.X k = ⟨#[]⟩ => HX.out q.symm)
            clear hxl
            go_wp2_with fail
            refine (set_any k 0 0 ⟨#[]⟩ ⟨#[]⟩ HK.out (by decide) (by decide) H.out).mono ?_
            rintro e w1 ⟨rfl, h1⟩
            have H1 : Hid (Vto w0 w w1 vb db cb kb kt (S.set k 0 0 ⟨#[]⟩ ⟨#[]⟩) v) := h1
            clear h1
            go_wp2_with fail
            go_ret
            rw [HE.out, ev0]
            exact ⟨rfl, H1.out⟩
          · obtain ⟨g1, g2⟩ := ne_nil he
            have HP : Hid (S.write kb kt k t = if S.free ≤ 20 then (if (S.reclaim kb kt).1.2.2 ≠ 0 then ((S.reclaim kb kt).1.2.2, (S.reclaim kb kt).2) else (S.reclaim kb kt).2.put kb k (-1) t) else S.put kb k (-1) t) := by
              show S.write kb kt k t = _
              unfold Vs.write
              rw [HD.out, if_neg (by decide), if_neg HI.out, if_neg HT.out, Int.toNat_natCast, if_neg HX.out, if_neg he]
            clear he
            go_wp2_with fail
            refine (free_any H.out).mono ?_
            rintro e w1 ⟨rfl, h1⟩
            have H1 : Hid (Vol w0 w1 vb db cb kb kt S v) := H.out.go h1
            have HS1 : Hid (Since w w1) := h1
            clear h1 q hxl g1 g2
            by_cases hf : S.free ≤ 20
            · have hfd : decide (S.free ≤ 20) = true := decide_eq_true hf
              have HP2 : Hid (S.write kb kt k t = if (S.reclaim kb kt).1.2.2 ≠ 0 then ((S.reclaim kb kt).1.2.2, (S.reclaim kb kt).2) else (S.reclaim kb kt).2.put kb k (-1) t) := by
                show S.write kb kt k t = _
                rw [HP.out, if_pos hf]
              clear HP
              generalize S.free = fr at *
              go_wp2_with fail
              refine (reclaim_any HB.out n HO.out.1 HO.out.2 H1.out).mono ?_
              rintro e w2 ⟨rfl, h2⟩
              obtain ⟨v2, h2v, F2⟩ := (Vto.pre HS1.out h2).cont
              have H2 : Hid (Vol w0 w2 vb db cb kb kt (S.reclaim kb kt).2 v2) := h2v
              have HT2 : Hid (∀ w' S', Vto w0 w2 w' vb db cb kb kt S' v2 → Vto w0 w w' vb db cb kb kt S' v) := F2
              clear h2 h2v F2 hf hfd
              generalize S.reclaim kb kt = R at *
              obtain ⟨⟨r1, r2, r3⟩, R2⟩ := R
              dsimp only at H2 HP2 ⊢
              by_cases h0 : r3 = 0
              · subst h0
                rw [ev0]
                have HP3 : Hid (S.write kb kt k t = R2.put kb k (-1) t) := by
                  show S.write kb kt k t = _
                  rw [HP2.out, if_neg (fun q => q rfl)]
                clear HP2
                go_wp2_with fail
                refine (put_any HB.out k t (-1) HK.out (by have := HT.out; omega) H2.out).mono ?_
                rintro e w3 ⟨rfl, h3⟩
                have H3 : Hid (Vto w0 w w3 vb db cb kb kt (R2.put kb k (-1) t).2 v) := HT2.out _ _ h3
                clear h3
                go_wp2_with fail
                go_ret
                rw [HP3.out]
                exact ⟨rfl, H3.out⟩
              · have HP3 : Hid (S.write kb kt k t = (r3, R2) ∧ ev r3 = .iface 45 (.int .i64 r3)) := by
                  refine ⟨?_, evn _ h0⟩
                  rw [HP2.out, if_pos h0]
                rw [evn _ h0]
                clear HP2 h0
                go_wp2_with fail
                go_ret
                rw [HP3.out.1, HP3.out.2]
                exact ⟨rfl, HT2.out _ _ H2.out.self⟩
            · have hfd : decide (S.free ≤ 20) = false := decide_eq_false hf
              have HP2 : Hid (S.write kb kt k t = S.put kb k (-1) t) := by
                show S.write kb kt k t = _
                rw [HP.out, if_neg hf]
              clear HP
              generalize S.free = fr at *
              go_wp2_with fail
              refine (put_any HB.out k t (-1) HK.out (by have := HT.out; omega) H1.out).mono ?_
              rintro e w2 ⟨rfl, h2⟩
              have H2 : Hid (Vto w0 w w2 vb db cb kb kt (S.put kb k (-1) t).2 v) := Vto.pre HS1.out h2
              clear h2
              go_wp2_with fail
              go_ret
              rw [HP2.out]
              exact ⟨rfl, H2.out⟩
    · have HE : Hid (S.write kb kt i t = (2, S)) := by show S.write kb kt i t = _; unfold Vs.write; rw [HD.out, if_neg (by decide), if_pos hi]
      rw [hc_false hi]
      go_wp2_with fail
      go_ret
      rw [HE.out, evn 2 (by decide)]
      exact ⟨rfl, H.out.self⟩
end
end Vl
end Go.Proofs.YtifnhnfjelfddaaGreatDoor
end
section
namespace Go.Proofs.YtifnhnfjelfddaaGreatDoor
set_option maxRecDepth 100000
namespace Vl
open Go.RowKit
section
variable {w0 w w' : World} {vb db cb : Nat} {kb kt : ByteArray} {S S' : Vs} {v : Value}
def texts (X : Nat → ByteArray) (k : Nat) : List Value := brow k (fun i => .string (X i))
theorem texts_succ (X : Nat → ByteArray) (k : Nat) : texts X (k + 1) = texts X k ++ [.string (X k)] := by
  unfold texts brow
  rw [List.range_succ, List.map_append]
  rfl
set_option maxHeartbeats 2000000 in
theorem all_any (h : Vol w0 w vb db cb kb kt S v) : Calls Tryz.prog 14 #[.pointer (some ⟨vb, 0, none⟩)] w fun e w' => ∃ x, e = .returned x ∧ w'.ownsRow w.heap.size 9 1 x 24 (texts S.X 24) ∧ Since w w' := by
  obtain ⟨i0, hi, hz0, hz1, hz2⟩ := info_parts' infoS
  have HI : Hid (Tryz.prog.info? 9 = some i0 ∧ i0.zero = some (.string ⟨#[]⟩) ∧ i0.size = 1 ∧ i0.bytes = 16) := ⟨hi, hz0, hz1, hz2⟩
  clear hi hz0 hz1 hz2
  have H : Hid (Vol w0 w vb db cb kb kt S v) := h
  clear h
  go_enter Tryz.func14, Tryz.ntmps14
  go_wp2_with fail
  go_loopw [4, 3] (fun i x wr => ∃ k : Nat, k ≤ 24 ∧ i = .int .i64 k ∧ wr.ownsRow w.heap.size 9 1 x k (texts S.X k) ∧ Since w wr) (fun i _ _ => 24 - (intOf i).toNat)
  case atStart => exact ⟨0, by omega, rfl, World.ownsRow_nil _ _ _ _, Since.refl _⟩
  case round =>
    obtain ⟨k, hk, rfl, hx, hS⟩ := hrel
    have HX : Hid (wr.ownsRow w.heap.size 9 1 u3 k (texts S.X k)) := hx
    have HS : Hid (Since w wr) := hS
    clear hx hS
    by_cases hlt : k < 24
    · have hlt2 : (k : Int) < 24 := by omega
      have hrd : S.read (k : Int) = (S.X k, 0) := by unfold Vs.read; rw [if_neg (by omega), Int.toNat_natCast]
      have hv := vread_any (k : Int) (H.out.go HS.out)
      rw [hrd] at hv
      have HV : Hid (Calls Tryz.prog 33 #[.pointer (some ⟨vb, 0, none⟩), .int .i64 k] wr fun e w' => e = .returned (.tuple #[.string (S.X k), .nilIface]) ∧ w' = wr) := hv
      clear hv hrd
      go_wp2_with fail
      refine HV.out.mono ?_
      rintro e w2 ⟨rfl, rfl⟩
      go_wp2_with (at_builtin; refine wpList_append_own _ (by rfl) _ _ _ (by rfl) w.heap.size 9 i0 _ 1 16 Tryz.underlying23 HI.out.1 HI.out.2.1 HI.out.2.2.1 HI.out.2.2.2 (by rfl) (by decide) _ k (texts S.X k) (by rfl) (World.ownsRow.alloc HX.out _) ⟨w2.heap.size, 0, none⟩ 1 1 [.string (S.X k)] (by rfl) (by rfl) (World.news_of_block (heap_alloc_new w2 _)) (by simp [Value.oneCell']) (by unfold maxLen; omega) (by omega) (by have := HS.out.size; simp; omega) ?_; intro x' w3 hown1 hgrow _)
      have HO1 : Hid (w3.ownsRow w.heap.size 9 1 x' (k + 1) (texts S.X k ++ [.string (S.X k)])) := hown1
      have HG1 : Hid (Since w w3) := Below.grown (Since.alloc HS.out _) hgrow (by have := HS.out.size; simp; omega) (fun j hj => (HX.out.lt j hj).1)
      clear hown1 hgrow
      go_wp2_with fail
      go_roundw
      case rel => exact ⟨k + 1, by omega, by go_num, by rw [texts_succ]; exact HO1.out, HG1.out⟩
      case measure => simp [intOf]; omega
    · have hke : k = 24 := by omega
      subst hke
      go_wp2_with fail
      go_ret
      exact ⟨_, rfl, HX.out, HS.out⟩
theorem Vol.notLow (h : Vol w0 w vb db cb kb kt S v) {b : Nat} (hb : b < w0.heap.size) : ¬ VP vb db cb v b := by
  obtain ⟨l1, l2, l3, l4⟩ := h.lo
  rintro (e | e | e | e)
  · omega
  · omega
  · omega
  · have := l4 b e; omega
set_option maxHeartbeats 4000000 in
theorem kwrite_any (B : Base w0 kb kt) (s : Stp) (tv : Value) (hsl : SlA w0 w0.heap.size tv s.tx.length (tlf s.tx)) (hsh : s.short) {n : Int} {k : Nat} (hg : Good kb kt S n) (hn : n < 900000000) (hp : Ph S k) (hk : k + 10 ≤ 120) (h : Vol w0 w vb db cb kb kt S v) :
    Calls Tryz.prog 28 #[.pointer (some ⟨vb, 0, none⟩), s.val tv] w fun e w' => e = .returned .nilIface ∧ ∃ S', Vto w0 w w' vb db cb kb kt S' v ∧ Good kb kt S' (n + 10) ∧ Ph S' (k + 10) ∧ S.c ≤ S'.c := by
  obtain ⟨a, c, rfl, hs⟩ := hsl
  have HSL : Hid (SlA w0 w0.heap.size (.slice a s.tx.length c) s.tx.length (tlf s.tx)) := ⟨a, c, rfl, hs⟩
  have HSH : Hid (s.short) := hsh
  have HB : Hid (Base w0 kb kt) := B
  have H : Hid (Vol w0 w vb db cb kb kt S v) := h
  have HG : Hid (Good kb kt S n ∧ n < 900000000 ∧ Ph S k ∧ k + 10 ≤ 120) := ⟨hg, hn, hp, hk⟩
  have h10 : s.tx.length ≤ 10 := hsh.1
  clear hs hsh B h hg hn hp hk
  unfold Stp.val
  go_enter Tryz.func28, Tryz.ntmps28
  go_wp2_with fail
  have q0 : (w.alloc (.cells #[.int .i64 s.at_, .slice a s.tx.length c] 25)).cell? ⟨w.heap.size, 0, none⟩ = some (.int .i64 s.at_) := by simp
  have q1 : (w.alloc (.cells #[.int .i64 s.at_, .slice a s.tx.length c] 25)).cell? ⟨w.heap.size, 1, none⟩ = some (.slice a s.tx.length c) := by simp
  have HS1 : Hid (Since w (w.alloc (.cells #[.int .i64 s.at_, .slice a s.tx.length c] 25))) := (Since.refl w).alloc _
  have hz1 : (w.alloc (.cells #[.int .i64 s.at_, .slice a s.tx.length c] 25)).heap.size = w.heap.size + 1 := by simp
  have HZ1 : Hid ((w.alloc (.cells #[.int .i64 s.at_, .slice a s.tx.length c] 25)).heap.size = w.heap.size + 1) := hz1
  have HQ : Hid (∀ W : World, (∀ o, W.cell? ⟨w.heap.size, o, none⟩ = (w.alloc (.cells #[.int .i64 s.at_, .slice a s.tx.length c] 25)).cell? ⟨w.heap.size, o, none⟩) → W.cell? ⟨w.heap.size, 0, none⟩ = some (.int .i64 s.at_) ∧ W.cell? ⟨w.heap.size, 1, none⟩ = some (.slice a s.tx.length c)) := fun W hW => ⟨(hW 0).trans q0, (hW 1).trans q1⟩
  clear q0 q1 hz1
  generalize w.alloc (.cells #[.int .i64 s.at_, .slice a s.tx.length c] 25) = w1 at *
  go_loopw [5] (fun i wr => ∃ (j : Nat) (S1 : Vs) (v1 : Value), j ≤ s.tx.length ∧ i = .int .i64 j ∧ Vol w0 wr vb db cb kb kt S1 v1 ∧ (∀ w' S', Vto w0 wr w' vb db cb kb kt S' v1 → Vto w0 w w' vb db cb kb kt S' v) ∧ (∀ o, wr.cell? ⟨w.heap.size, o, none⟩ = w1.cell? ⟨w.heap.size, o, none⟩) ∧ ¬ VP vb db cb v1 w.heap.size ∧ w1.heap.size ≤ wr.heap.size ∧ Good kb kt S1 (n + j) ∧ Ph S1 (k + j) ∧ S.c ≤ S1.c) (fun i _ => s.tx.length - (intOf i).toNat)
  case atStart =>
    exact ⟨0, S, v, by omega, rfl, H.out.go HS1.out, fun w' S' hv => Vto.pre HS1.out hv, fun _ => rfl, H.out.notGe (Nat.le_refl _), Nat.le_refl _, by simpa using HG.out.1, HG.out.2.2.1, Int.le_refl _⟩
  case round =>
    obtain ⟨j, S1, v1, hj, rfl, hv, hto, hcell, hnp, hsz, hg, hph, hcc⟩ := hrel
    have HR : Hid (Vol w0 wr vb db cb kb kt S1 v1 ∧ (∀ w' S', Vto w0 wr w' vb db cb kb kt S' v1 → Vto w0 w w' vb db cb kb kt S' v) ∧ (∀ o, wr.cell? ⟨w.heap.size, o, none⟩ = w1.cell? ⟨w.heap.size, o, none⟩) ∧ ¬ VP vb db cb v1 w.heap.size ∧ w1.heap.size ≤ wr.heap.size ∧ Good kb kt S1 (n + j) ∧ Ph S1 (k + j) ∧ S.c ≤ S1.c) := ⟨hv, hto, hcell, hnp, hsz, hg, hph, hcc⟩
    obtain ⟨p0, p1⟩ := HQ.out wr hcell
    clear hv hto hcell hnp hsz hg hph hcc
    by_cases hlt : j < s.tx.length
    · have hlt2 : (j : Int) < s.tx.length := by omega
      have hlt3 : decide ((j : Int) < s.tx.length) = true := decide_eq_true hlt2
      obtain ⟨ka, ko, rfl, hka, hkc⟩ : ∃ ka ko, a = some ⟨ka, ko, none⟩ ∧ ka < w0.heap.size ∧ ∀ j, j < s.tx.length → w0.cell? ⟨ka, ko + j, none⟩ = some (tlf s.tx j) := by
        obtain ⟨a', c', he, hh⟩ := HSL.out
        injection he with e1 _ _
        subst e1
        exact hh (by omega)
      have hcs : wr.cell? ⟨ka, ko + j, none⟩ = some (.string (s.tx.getD j ⟨#[]⟩)) := (HR.out.1.since.cell (p := ⟨ka, ko + j, none⟩) hka).trans (hkc j hlt)
      have ht80 : (s.tx.getD j ⟨#[]⟩).size ≤ 80 := by
        rw [List.getD_eq_getElem?_getD, List.getElem?_eq_getElem hlt]
        exact HSH.out.2 _ (List.getElem_mem hlt)
      have HT : Hid ((s.tx.getD j ⟨#[]⟩).size ≤ 80) := ht80
      have HKA : Hid (ka < w0.heap.size) := hka
      clear hkc ht80 hka
      generalize s.tx.getD j ⟨#[]⟩ = t at *
      have HSS : Hid (∀ W : World, Since wr W → (W.cell? ⟨w.heap.size, 0, none⟩ = some (.int .i64 s.at_) ∧ W.cell? ⟨w.heap.size, 1, none⟩ = some (.slice (some ⟨ka, ko, none⟩) s.tx.length c) ∧ W.cell? ⟨ka, ko + j, none⟩ = some (.string t))) := fun W hW => ⟨(hW.cell (p := ⟨w.heap.size, 0, none⟩) (World.block_lt_of_cell? _ _ p0)).trans p0, (hW.cell (p := ⟨w.heap.size, 1, none⟩) (World.block_lt_of_cell? _ _ p1)).trans p1, (hW.cell (p := ⟨ka, ko + j, none⟩) (World.block_lt_of_cell? _ _ hcs)).trans hcs⟩
      have HW : Hid (∀ (W : World), Since wr W → ∀ i : Nat, i < 24 → Calls Tryz.prog 15 #[.pointer (some ⟨vb, 0, none⟩), .int .i64 i, .string t] W fun e w' => e = .returned .nilIface ∧ (∃ S2, Vto w0 wr w' vb db cb kb kt S2 v1 ∧ Good kb kt S2 (n + j + 1) ∧ Ph S2 (k + j + 1) ∧ S1.c ≤ S2.c) ∧ (w'.cell? ⟨w.heap.size, 0, none⟩ = some (.int .i64 s.at_) ∧ w'.cell? ⟨w.heap.size, 1, none⟩ = some (.slice (some ⟨ka, ko, none⟩) s.tx.length c) ∧ w'.cell? ⟨ka, ko + j, none⟩ = some (.string t))) := fun W hW i hi => by
        obtain ⟨hv, hto, hcell, hnp, hsz, hg, hph, hcc⟩ := HR.out
        have hGG := HG.out
        obtain ⟨e1, e2, e3, e4, e5⟩ := write_good hg (by omega) hph (by omega) i hi t HT.out
        refine (write_any HB.out (n + j) hg.ok (by omega) i t (hv.go hW)).mono ?_
        rintro e w' ⟨rfl, hv'⟩
        rw [e1]
        have hto1 := Vto.pre hW hv'
        have hz := HZ1.out
        obtain ⟨_, _, _, hc1, _, _⟩ := hto1.cont2 hnp (by omega)
        have hlw := World.block_lt_of_cell? wr _ hcs
        obtain ⟨_, _, _, hc2, _, _⟩ := hto1.cont2 (hv.notLow HKA.out) hlw
        exact ⟨rfl, ⟨_, hto1, e2, e3, e5⟩, (hc1 0).trans p0, (hc1 1).trans p1, (hc2 (ko + j)).trans hcs⟩
      go_wp2_with fail
      go_region_held3 (fun W => W.cell? ⟨w.heap.size, 0, none⟩ = some (.int .i64 s.at_) ∧ W.cell? ⟨w.heap.size, 1, none⟩ = some (.slice (some ⟨ka, ko, none⟩) s.tx.length c) ∧ W.cell? ⟨ka, ko + j, none⟩ = some (.string t)) (first | exact HSS.out _ (Since.refl _) | exact HSS.out _ (Since.refl _).drew | exact HS3.out) (first
        | (go_simp; go_at_call 13; refine (pick24_any _ _).mono ?_; rintro e w2 ⟨rfl, rfl⟩; dsimp only)
        | (go_simp; go_at_call 15; refine (HW.out _ (Since.refl wr).drew _ (pkN_lt 24 _ (by omega))).mono ?_; rintro e w3 ⟨rfl, ⟨S2, hv3, hg3, hp3, hc3⟩, hs3⟩; have HS3 : Hid (w3.cell? ⟨w.heap.size, 0, none⟩ = some (.int .i64 s.at_) ∧ w3.cell? ⟨w.heap.size, 1, none⟩ = some (.slice (some ⟨ka, ko, none⟩) s.tx.length c) ∧ w3.cell? ⟨ka, ko + j, none⟩ = some (.string t)) := hs3; have HV3 : Hid (Vto w0 wr w3 vb db cb kb kt S2 v1 ∧ Good kb kt S2 (n + j + 1) ∧ Ph S2 (k + j + 1) ∧ S1.c ≤ S2.c) := ⟨hv3, hg3, hp3, hc3⟩; clear hv3 hg3 hp3 hc3 hs3; dsimp only))
      clear p0 p1 hcs
      go_wp2_with fail
      go_roundw
      case rel =>
        obtain ⟨hv3, hg3, hp3, hc3⟩ := HV3.out
        obtain ⟨hv, hto, hcell, hnp, hsz, hg, hph, hcc⟩ := HR.out
        have hz := HZ1.out
        obtain ⟨v2, h2, hto2, hcell2, hnp2, hsz2⟩ := hv3.cont2 hnp (by omega)
        exact ⟨j + 1, S2, v2, by omega, by go_num, h2, fun w' S' hx => hto w' S' (hto2 w' S' hx), fun o => (hcell2 o).trans (hcell o), hnp2, Nat.le_trans hsz hsz2, hg3.le (by omega), hp3.le (by omega), Int.le_trans hcc hc3⟩
      case measure => simp [intOf]; omega
    · have hje : j = s.tx.length := by omega
      subst hje
      go_wp2_with fail
      go_ret
      refine ⟨rfl, S1, HR.out.2.1 _ _ HR.out.1.self, HR.out.2.2.2.2.2.1.le (by omega), HR.out.2.2.2.2.2.2.1.le (by omega), HR.out.2.2.2.2.2.2.2⟩
end
end Vl
end Go.Proofs.YtifnhnfjelfddaaGreatDoor
end
