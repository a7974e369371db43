/- The reference's device: Sync, Crash. -/
import Derived.Test.YtjfhggcjdckfgaaDoorT7
import Derived.Test.YtjfhggcjdckfgaaDoorZ13
namespace Go.Proofs.YtjfhggcjdckfgaaDoor
set_option linter.unusedSimpArgs false
set_option linter.unusedVariables false
set_option maxRecDepth 100000
open Go.RowKit

/-- two devices that the reference can't tell apart -/
theorem Ref.same {w : World} {rb N : Nat} {D D' : Dv} {lv : Nat → Value} {av wv : Value} (h : Ref w rb N D lv av wv) (h1 : ∀ z, z < 8 → D'.cnt z = D.cnt z) (h2 : ∀ z j, z < 8 → j < D.cnt z → D'.blk z j = D.blk z j) (h3 : D'.ws = D.ws)
    (h4 : ∀ z, z < 8 → D'.sure z = D.sure z) (h5 : D'.slot 0 = D.slot 0 ∧ D'.slot 1 = D.slot 1) (h6 : D'.fz = D.fz) : Ref w rb N D' lv av wv := by
  refine h.turn (h.cel.congr (fun j hj => ?_)) h1 h2 h3
  unfold rcell
  rw [h5.1, h5.2, h6]
  by_cases a : j < 8
  · rw [if_pos a, if_pos a]
  · rw [if_neg a, if_neg a]
    by_cases b : j < 16
    · rw [if_pos b, if_pos b, h4 (j - 8) (by omega)]
    · rw [if_neg b, if_neg b]
theorem sync1_any (z : Int) (w : World) : Calls Tryd.prog 107 #[.int .i64 z] w fun e w' => e = .returned (.int .i64 ((16 : Nat) : Int)) ∧ w' = w := by
  go_enter Tryd.func107, Tryd.ntmps107
  go_wp2_with fail
  go_ret
  exact ⟨rfl, rfl⟩
theorem sync2_any (z : Int) (w : World) : Calls Tryd.prog 108 #[.int .i64 z] w fun e w' => e = .returned (.bool true) ∧ w' = w := by
  go_enter Tryd.func108, Tryd.ntmps108
  go_wp2_with fail
  go_ret
  exact ⟨rfl, rfl⟩
theorem rsync_spent (D : Dv) (lv : Nat → Value) (av wv : Value) (rb N : Nat) (w : World) (hd : Ref w rb N D lv av wv) (hl : 0 ≤ D.left ∧ D.left ≤ 9223372036854775807) (hm : D.may = false) :
    Calls Tryd.prog 36 #[.pointer (some ⟨rb, 0, none⟩)] w fun e w' => e = .returned (.int .i64 14) ∧ w' = w := by
  go_enter Tryd.func36, Tryd.ntmps36
  go_wp2_with fail
  refine (spent_any D lv av wv rb N _ hd hl).mono ?_
  rintro e w1 ⟨rfl, h1, _⟩
  obtain rfl := h1 hm
  rw [hm]
  go_wp2_with fail
  go_ret
  exact ⟨rfl, rfl⟩
theorem burnt_ok (D : Dv) (h : D.ok) (hm : D.may = true) : D.burnt.ok := by
  unfold Dv.burnt
  by_cases hf : D.fused = true
  · rw [if_pos hf]
    have h0 : D.left ≠ 0 := by
      intro e
      unfold Dv.may at hm
      rw [hf, e] at hm
      exact absurd hm (by decide)
    exact ⟨h.cnt, h.sure, h.zero, by show 0 ≤ D.left - 1 ∧ D.left - 1 ≤ _; have := h.left; omega, h.ws, h.few⟩
  · rw [if_neg hf]; exact h
theorem rsync_any (D : Dv) (lv : Nat → Value) (av wv : Value) (rb N : Nat) (w : World) (hd : Ref w rb N D lv av wv) (hok : D.ok) (hm : D.may = true) :
    Calls Tryd.prog 36 #[.pointer (some ⟨rb, 0, none⟩)] w fun e w' => e = .returned (.int .i64 0) ∧ (∃ lv', Ref w' rb N D.burnt.synced lv' (.slice none 0 0) (.slice none 0 0)) ∧ Fr rb none w w' := by
  have HD : Hid (Ref w rb N D lv av wv) := hd
  clear hd
  go_enter Tryd.func36, Tryd.ntmps36
  go_wp2_with fail
  refine (spent_any D lv av wv rb N _ HD.out hok.left).mono ?_
  rintro e w1 ⟨rfl, _, h1⟩
  obtain ⟨hd1, hf1⟩ := h1 hm
  have hok1 := burnt_ok D hok hm
  rw [hm]
  have HD1 : Hid (Ref w1 rb N D.burnt lv av wv) := hd1
  have HF1 : Hid (Fr rb none w w1) := hf1
  clear h1 hd1 hf1
  go_wp2_with fail
  refine (lose_any D.burnt lv av wv rb N 107 108 #[] #[] (fun _ => 16) (fun _ => true) _ HD1.out hok1 (enters_of Tryd.func107 (by kernel_rfl) rfl) (enters_of Tryd.func108 (by kernel_rfl) rfl) (fun z W _ _ => sync1_any z W) (fun _ => Nat.le_refl _) (fun i W _ => sync2_any i W)).mono ?_
  rintro e w2 ⟨rfl, ⟨lv', hr2⟩, hf2⟩
  have HR2 : Hid (Ref w2 rb N D.burnt.synced lv' (.slice none 0 0) (.slice none 0 0)) := by
    refine hr2.same (fun z hz => ?_) (fun z j hz hj => rfl) rfl (fun z hz => ?_) ⟨rfl, rfl⟩ rfl
    · show D.burnt.cnt z = (if z < 8 then min (D.burnt.sure z + 16) (D.burnt.cnt z) else _)
      rw [if_pos hz]; have := hok1.cnt z hz; omega
    · show (if z < 8 then D.burnt.cnt z else _) = (if z < 8 then min (D.burnt.sure z + 16) (D.burnt.cnt z) else _)
      rw [if_pos hz, if_pos hz]; have := hok1.cnt z hz; omega
  clear hr2
  go_wp2_with fail
  go_ret
  exact ⟨rfl, ⟨lv', HR2.out⟩, HF1.out.trans' hf2⟩

/-- how many blocks a zone keeps, at most -/
def kpOf (nk : Nat) (ks : Nat → Int) (z : Nat) : Nat := (min (max (keepAt nk ks z) 0) 16).toNat
theorem kpOf_le (nk : Nat) (ks : Nat → Int) (z : Nat) : kpOf nk ks z ≤ 16 := by unfold kpOf; omega
theorem rcr1_any (b B nk z : Nat) (v : Value) (ks : Nat → Int) (w : World) (hB : w.cell? ⟨B, 0, none⟩ = some v) (hs : Sl w b v nk (fun j => .int .i64 (ks j))) (hz : z < 8) :
    Calls Tryd.prog 111 #[.int .i64 z, .pointer (some ⟨B, 0, none⟩)] w fun e w' => e = .returned (.int .i64 (kpOf nk ks z : Int)) ∧ w' = w := by
  obtain ⟨a, c, rfl, hs⟩ := hs
  by_cases h : z < nk
  · obtain ⟨k, o, rfl, _, hc⟩ := hs (by omega)
    have c1 := hc z h
    have h2 : ¬ (nk : Int) ≤ z := by omega
    have h2' : (z : Int) < nk := by omega
    have hkp : (kpOf nk ks z : Int) = min (max (ks z) 0) 16 := by unfold kpOf keepAt; rw [if_pos h]; omega
    have HKP : Hid ((kpOf nk ks z : Int) = min (max (ks z) 0) 16) := hkp
    clear hc hs hkp
    by_cases h0 : ks z < 0
    · go_enter Tryd.func111, Tryd.ntmps111
      go_wp2_with fail
      go_ret
      exact ⟨by rw [HKP.out, show min (max (ks z) 0) 16 = 0 by omega]; rfl, rfl⟩
    · by_cases h16 : 16 < ks z
      · go_enter Tryd.func111, Tryd.ntmps111
        go_wp2_with fail
        go_ret
        exact ⟨by rw [HKP.out, show min (max (ks z) 0) 16 = 16 by omega]; rfl, rfl⟩
      · go_enter Tryd.func111, Tryd.ntmps111
        go_wp2_with fail
        go_ret
        exact ⟨by rw [HKP.out, show min (max (ks z) 0) 16 = ks z by omega]; rfl, rfl⟩
  · have h2 : (nk : Int) ≤ z := by omega
    have hkp : kpOf nk ks z = 0 := by unfold kpOf keepAt; rw [if_neg h]; rfl
    rw [hkp]
    clear hs hkp
    go_enter Tryd.func111, Tryd.ntmps111
    go_wp2_with fail
    go_ret
    exact ⟨rfl, rfl⟩
theorem rcr2_any (b B n i : Nat) (v : Value) (sl : Nat → Bool) (w : World) (hB : w.cell? ⟨B, 0, none⟩ = some v) (hs : Sl w b v n (fun j => .bool (sl j))) :
    Calls Tryd.prog 112 #[.int .i64 i, .pointer (some ⟨B, 0, none⟩)] w fun e w' => e = .returned (.bool (keptBy n sl i)) ∧ w' = w := by
  obtain ⟨a, c, rfl, hs⟩ := hs
  unfold keptBy
  by_cases h : i < n
  · obtain ⟨k, o, rfl, _, hc⟩ := hs (by omega)
    have c1 := hc i h
    have h2 : (i : Int) < n := by omega
    rw [decide_eq_true h, Bool.true_and]
    clear hc hs
    go_enter Tryd.func112, Tryd.ntmps112
    go_wp2_with fail
    go_ret
    exact ⟨rfl, rfl⟩
  · have h2 : ¬ (i : Int) < n := by omega
    rw [decide_eq_false h, Bool.false_and]
    clear hs
    go_enter Tryd.func112, Tryd.ntmps112
    go_wp2_with fail
    go_ret
    exact ⟨rfl, rfl⟩
theorem rcrash_any (D : Dv) (lv : Nat → Value) (av wv : Value) (rb N nk ns : Nat) (kv sv : Value) (ks : Nat → Int) (sl : Nat → Bool) (w : World) (hd : Ref w rb N D lv av wv) (hok : D.ok)
    (hk : Sl w rb kv nk (fun j => .int .i64 (ks j))) (hs : Sl w rb sv ns (fun j => .bool (sl j))) :
    Calls Tryd.prog 40 #[.pointer (some ⟨rb, 0, none⟩), kv, sv] w fun e w' => e = .returned (.tuple #[]) ∧ (∃ lv', Ref w' rb N (D.crashed nk ks ns sl) lv' (.slice none 0 0) (.slice none 0 0)) ∧ Fr rb none w w' := by
  obtain ⟨a1, c1, rfl, hk1⟩ := hk
  obtain ⟨a2, c2, rfl, hs1⟩ := hs
  have HKS : Hid (Sl w rb (.slice a1 nk c1) nk (fun j => .int .i64 (ks j))) := ⟨a1, c1, rfl, hk1⟩
  have HSS : Hid (Sl w rb (.slice a2 ns c2) ns (fun j => .bool (sl j))) := ⟨a2, c2, rfl, hs1⟩
  have HD : Hid (Ref w rb N D lv av wv) := hd
  have HOK : Hid D.ok := hok
  have hrbl : rb < w.heap.size := hd.cel.lt (by omega)
  clear hd hk1 hs1 hok
  go_enter Tryd.func40, Tryd.ntmps40
  go_wp2_with fail
  have hS0 := ((Since.refl w).alloc (.cells #[.slice a1 nk c1] 51)).alloc (.cells #[.slice a2 ns c2] 52)
  have b1 : ((w.alloc (.cells #[.slice a1 nk c1] 51)).alloc (.cells #[.slice a2 ns c2] 52)).cell? ⟨w.heap.size, 0, none⟩ = some (.slice a1 nk c1) := by
    rw [World.cell?_alloc_lt _ _ ⟨w.heap.size, 0, none⟩ (by simp)]; simp
  have b2 : ((w.alloc (.cells #[.slice a1 nk c1] 51)).alloc (.cells #[.slice a2 ns c2] 52)).cell? ⟨w.heap.size + 1, 0, none⟩ = some (.slice a2 ns c2) := by
    rw [World.cell?_alloc_at _ _ _ _ (by simp)]; rfl
  generalize (w.alloc (.cells #[.slice a1 nk c1] 51)).alloc (.cells #[.slice a2 ns c2] 52) = w0 at *
  have HB1 : Hid (w0.cell? ⟨w.heap.size, 0, none⟩ = some (.slice a1 nk c1)) := b1
  have HB2 : Hid (w0.cell? ⟨w.heap.size + 1, 0, none⟩ = some (.slice a2 ns c2)) := b2
  have HS0 : Hid (Since w w0) := hS0
  clear b1 b2 hS0
  refine (lose_any D lv av wv rb N 111 112 #[.pointer (some ⟨w.heap.size, 0, none⟩)] #[.pointer (some ⟨w.heap.size + 1, 0, none⟩)] (kpOf nk ks) (keptBy ns sl) _ (HD.out.since HS0.out) HOK.out (enters_of Tryd.func111 (by kernel_rfl) rfl) (enters_of Tryd.func112 (by kernel_rfl) rfl)
    (fun z W hz hf => rcr1_any rb w.heap.size nk z _ ks W ((hf.cell (p := ⟨w.heap.size, 0, none⟩) (World.block_lt_of_cell? w0 _ HB1.out) (by show w.heap.size ≠ rb; omega) (by simp)).trans HB1.out) ((HKS.out.fr (Fr.of_since HS0.out)).fr hf) hz) (kpOf_le nk ks)
    (fun i W hf => rcr2_any rb (w.heap.size + 1) ns i _ sl W ((hf.cell (p := ⟨w.heap.size + 1, 0, none⟩) (World.block_lt_of_cell? w0 _ HB2.out) (by show w.heap.size + 1 ≠ rb; omega) (by simp)).trans HB2.out) ((HSS.out.fr (Fr.of_since HS0.out)).fr hf))).mono ?_
  rintro e w2 ⟨rfl, ⟨lv', hr2⟩, hf2⟩
  have k1 := hr2.cel.cell 20 (by omega)
  have l1 := hr2.cel.frozen 20 (by omega)
  have HR3 : Hid (Ref (w2.setCell ⟨rb, 20, none⟩ (.int .i64 (-1))) rb N (D.crashed nk ks ns sl) lv' (.slice none 0 0) (.slice none 0 0)) := by
    have h3 : Ref (w2.setCell ⟨rb, 20, none⟩ (.int .i64 (-1))) rb N (((((D.cutTo (kpOf nk ks) 8).slotTo 0 (D.slotBy 0 (keptBy ns sl))).slotTo 1 (D.slotBy 1 (keptBy ns sl))).none).fuse (-1)) lv' (.slice none 0 0) (.slice none 0 0) :=
      hr2.cells (Fr.setCell _ _ _ _ _) ((hr2.cel.set 20 (by omega) _).congr (fun j hj => rcell_fuse ((((D.cutTo (kpOf nk ks) 8).slotTo 0 (D.slotBy 0 (keptBy ns sl))).slotTo 1 (D.slotBy 1 (keptBy ns sl))).none) (((((D.cutTo (kpOf nk ks) 8).slotTo 0 (D.slotBy 0 (keptBy ns sl))).slotTo 1 (D.slotBy 1 (keptBy ns sl))).none).fuse (-1)) _ _ _ rfl rfl j hj)) (fun _ _ => rfl) (fun _ _ _ _ => rfl) rfl
    have hcut : ∀ z, z < 8 → kept1 (D.cnt z) (D.sure z) (keepAt nk ks z) = min (D.sure z + kpOf nk ks z) (D.cnt z) := fun z hz => by
      have h1 := HOK.out.cnt z hz
      have h2 := HOK.out.sure z hz
      unfold kept1 kpOf
      omega
    refine h3.same (fun z hz => ?_) (fun z j hz hj => ?_) rfl (fun z hz => ?_) ⟨rfl, rfl⟩ rfl
    · show (if z < 8 then kept1 (D.cnt z) (D.sure z) (keepAt nk ks z) else _) = (if z < 8 then min (D.sure z + kpOf nk ks z) (D.cnt z) else _)
      rw [if_pos hz, if_pos hz, hcut z hz]
    · have hj' : j < (if z < 8 then min (D.sure z + kpOf nk ks z) (D.cnt z) else D.cnt z) := hj
      rw [if_pos hz, ← hcut z hz] at hj'
      funext i
      show (if z < 8 ∧ kept1 (D.cnt z) (D.sure z) (keepAt nk ks z) ≤ j then 0 else D.blk z j i) = D.blk z j i
      rw [if_neg (by omega)]
    · show (if z < 8 then kept1 (D.cnt z) (D.sure z) (keepAt nk ks z) else _) = (if z < 8 then min (D.sure z + kpOf nk ks z) (D.cnt z) else _)
      rw [if_pos hz, if_pos hz, hcut z hz]
  have HF2 : Hid (Fr rb none w2 (w2.setCell ⟨rb, 20, none⟩ (.int .i64 (-1)))) := Fr.setCell _ _ _ _ _
  clear hr2
  go_wp2_with fail
  go_end0
  exact ⟨rfl, ⟨lv', HR3.out⟩, ((Fr.of_since HS0.out).trans' hf2).trans' HF2.out⟩
end Go.Proofs.YtjfhggcjdckfgaaDoor
