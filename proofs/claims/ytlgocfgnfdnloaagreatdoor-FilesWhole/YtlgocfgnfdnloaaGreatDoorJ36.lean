import Derived.Test.YtlgocfgnfdnloaaGreatDoorJ26
import Derived.Test.YtlgocfgnfdnloaaGreatDoorJ35
set_option linter.unusedSimpArgs false
set_option linter.unusedVariables false
section
namespace Go.Proofs.YtlgocfgnfdnloaaGreatDoor
set_option maxRecDepth 100000
namespace Vl
open Go.RowKit
open Tw (Tb tcell tval ccell)
theorem own_cells {w : World} {base n : Nat} {v : Value} {l : List Nat} (h : w.ownsRow base 3 1 v n (Sp.vals l)) (hn : n = l.length) :
    ∃ a c, v = .slice a n c ∧ (0 < n → ∃ k, a = some ⟨k, 0, none⟩ ∧ base ≤ k ∧ k < w.heap.size ∧ ∀ j (hj : j < l.length), w.cell? ⟨k, j, none⟩ = some (.int .i64 (l[j] : Int))) := by
  rcases h.2 with ⟨rfl, rfl⟩ | ⟨g, cap, cur, rfl, hg, hh, h1, h2, h3, h4⟩
  · exact ⟨_, _, rfl, fun h => by omega⟩
  · refine ⟨_, _, rfl, fun _ => ⟨g, rfl, hg, (Array.getElem?_eq_some_iff.1 hh).1, fun j hj => ?_⟩⟩
    have e : (Sp.vals l)[j]? = some (.int .i64 (l[j] : Int)) := by unfold Sp.vals; rw [List.getElem?_map, List.getElem?_eq_getElem hj]; rfl
    rw [← h4, List.getElem?_take_of_lt (by omega), Array.getElem?_toList] at e
    simp [World.cell?, hh, e]
section
variable {w0 w : World} {vb db cb : Nat} {kb kt : ByteArray} {S : Vs} {v : Value}
theorem Vto.cont2 {S1 : Vs} {w1 : World} {b : Nat} (h : Vto w0 w w1 vb db cb kb kt S1 v) (hb : ¬ VP vb db cb v b) (hlt : b < w.heap.size) :
    ∃ v1, Vol w0 w1 vb db cb kb kt S1 v1 ∧ (∀ w' S', Vto w0 w1 w' vb db cb kb kt S' v1 → Vto w0 w w' vb db cb kb kt S' v) ∧ (∀ o, w1.cell? ⟨b, o, none⟩ = w.cell? ⟨b, o, none⟩) ∧ ¬ VP vb db cb v1 b ∧ w.heap.size ≤ w1.heap.size := by
  obtain ⟨v1, h1, f1, n1⟩ := h
  refine ⟨v1, h1, fun w' S' ⟨v2, h2, f2, n2⟩ => ⟨v2, h2, f1.trans' f2 (VP.nx n1), n1.trans n2 f1.size⟩, fun o => f1.cell (p := ⟨b, o, none⟩) hlt hb, fun e => ?_, f1.size⟩
  rcases VP.nx n1 b e with h2 | h2
  · exact hb h2
  · omega
theorem Vol.notGe (h : Vol w0 w vb db cb kb kt S v) {b : Nat} (hb : w.heap.size ≤ b) : ¬ VP vb db cb v b := by
  rintro (e | e | e | e)
  · have := h.cel.lt (by omega); omega
  · have := h.dev.lt; omega
  · have := h.ctr.lt (by omega); omega
  · have := h.dev.glt _ e; omega
def RL (w0 w wr : World) (vb db cb : Nat) (kb kt : ByteArray) (S : Vs) (v : Value) (n : Int) (z : Nat) (L : List Nat) (a : Option Addr) (k : Nat) : Prop :=
  ∃ Sk vk, Vol w0 wr vb db cb kb kt Sk vk ∧ Sk.ok n ∧ Sk.moves kb z (L.drop k) = S.moves kb z L ∧ (∀ w' S', Vto w0 wr w' vb db cb kb kt S' vk → Vto w0 w w' vb db cb kb kt S' v) ∧
    (0 < L.length → ∃ g, a = some ⟨g, 0, none⟩ ∧ ¬ VP vb db cb vk g ∧ g < wr.heap.size ∧ ∀ j (hj : j < L.length), wr.cell? ⟨g, j, none⟩ = some (.int .i64 (L[j] : Int)))
theorem reclaim_some {z : Nat} (hd : S.dead = false) (hv : vicTo S.atf S.live 8 = some z) : S.reclaim kb kt = if (S.moves kb z (Sp.inI S.T (z : Int) 24)).1 ≠ 0 then ((0, false, (S.moves kb z (Sp.inI S.T (z : Int) 24)).1), (S.moves kb z (Sp.inI S.T (z : Int) 24)).2) else
    if ((S.moves kb z (Sp.inI S.T (z : Int) 24)).2.flush kt).1 ≠ 0 then ((0, false, ((S.moves kb z (Sp.inI S.T (z : Int) 24)).2.flush kt).1), ((S.moves kb z (Sp.inI S.T (z : Int) 24)).2.flush kt).2) else
      if ((S.moves kb z (Sp.inI S.T (z : Int) 24)).2.flush kt).2.D.may = false then ((0, false, 14), { ((S.moves kb z (Sp.inI S.T (z : Int) 24)).2.flush kt).2 with dead := true }) else
        ((((Sp.inI S.T (z : Int) 24).length : Int), true, 0), { ((S.moves kb z (Sp.inI S.T (z : Int) 24)).2.flush kt).2 with D := ((S.moves kb z (Sp.inI S.T (z : Int) 24)).2.flush kt).2.D.burnt.reset z }) := by
  unfold Vs.reclaim
  rw [hd, hv]
  rfl
theorem reclaim_dead (h : Vol w0 w vb db cb kb kt S v) (hd : S.dead = true) :
    Calls Tryz.prog 90 #[.pointer (some ⟨vb, 0, none⟩)] w fun e w' => e = .returned (.tuple #[.int .i64 0, .bool false, ev 6]) ∧ w' = w := by
  have H : Hid (Vol w0 w vb db cb kb kt S v) := h
  have HD : Hid (S.dead = true) := hd
  clear h hd
  go_enter Tryz.func90, Tryz.ntmps90
  go_wp2_with fail
  refine (orZero_any _ _).mono ?_
  rintro e wx ⟨rfl, hw⟩
  rw [hw]
  clear hw wx
  go_wp2_with fail
  refine (works_any H.out).mono ?_
  rintro e wx ⟨rfl, hw⟩
  rw [hw]
  clear hw wx
  rw [HD.out]
  go_wp2_with fail
  go_ret3
  exact ⟨by rw [evn 6 (by decide)]; rfl, rfl⟩
set_option maxHeartbeats 8000000 in
theorem reclaim_any (B : Base w0 kb kt) (n : Int) (ho : S.ok n) (hn : n < 1000000000) (h : Vol w0 w vb db cb kb kt S v) :
    Calls Tryz.prog 90 #[.pointer (some ⟨vb, 0, none⟩)] w fun e w' => e = .returned (.tuple #[.int .i64 (S.reclaim kb kt).1.1, .bool (S.reclaim kb kt).1.2.1, ev (S.reclaim kb kt).1.2.2]) ∧ Vto w0 w w' vb db cb kb kt (S.reclaim kb kt).2 v := by
  cases hd : S.dead with
  | true =>
    have e1 : S.reclaim kb kt = ((0, false, 6), S) := by unfold Vs.reclaim; rw [hd]; rfl
    rw [e1]
    refine (reclaim_dead h hd).mono ?_
    rintro e w' ⟨rfl, rfl⟩
    exact ⟨rfl, h.self⟩
  | false =>
    have HB : Hid (Base w0 kb kt) := B
    have HO : Hid (S.ok n ∧ n < 1000000000) := ⟨ho, hn⟩
    have H : Hid (Vol w0 w vb db cb kb kt S v) := h
    have HD : Hid (S.dead = false) := hd
    clear h hd B ho hn
    go_enter Tryz.func90, Tryz.ntmps90
    go_wp2_with fail
    refine (orZero_any _ _).mono ?_
    rintro e wx ⟨rfl, hw⟩
    rw [hw]
    clear hw wx
    go_wp2_with fail
    refine (works_any H.out).mono ?_
    rintro e wx ⟨rfl, hw⟩
    rw [hw]
    clear hw wx
    rw [HD.out]
    go_wp2_with fail
    have H1 : Hid (Vol w0 w.drew vb db cb kb kt S v) := H.out.go (Since.refl _).drew
    have HS1 : Hid (Since w w.drew) := (Since.refl _).drew
    have hL := Tw.ln73 S.T
    have HLV : Hid (∀ W, Calls Tryz.prog 160 #[.agg (brow 73 (tcell S.T)).toArray] W fun e w' => ∃ x, e = .returned x ∧ Sp.Ls w' w'.heap.size x 8 S.live ∧ Since W w') := fun W => (Sp.live_any S.T W).mono fun e w' ⟨x, h1, ⟨b, h2, h3⟩, h4⟩ => ⟨x, h1, ⟨_, _, h2, by omega, fun _ => ⟨b, 0, rfl, h3.lt (by omega), fun j hj => by rw [Nat.zero_add]; exact h3.cell j hj⟩⟩, h4⟩
    have HIN : Hid (∀ (z : Int) W, Calls Tryz.prog 161 #[.agg (brow 73 (tcell S.T)).toArray, .int .i64 z] W fun e w' => ∃ x, e = .returned x ∧ w'.ownsRow W.heap.size 3 1 x (Sp.inI S.T z 24).length (Sp.vals (Sp.inI S.T z 24)) ∧ Since W w') := fun z W => Sp.in_any S.T z W
    have HR1 : Hid (w.drew.rangeAt vb 4 (brow 73 (tcell S.T))) := H1.out.tab
    generalize hcs : brow 73 (tcell S.T) = cs at *
    have HCS : Hid (brow 73 (tcell S.T) = cs) := hcs
    clear hcs
    have hS1 : (fun W : World => W.rangeAt vb 4 cs) w.drew := HR1.out
    refine wp_region_held (S := fun W : World => W.rangeAt vb 4 cs) (by kernel_rfl) ?_
    refine Tw.takeD (i := 0) (d := 20) (v := ?v1) rfl rfl (by kernel_rfl) (by kernel_rfl) (by kernel_rfl) (fun _ _ _ h => h) (Or.inl ⟨by rfl, ?hw1⟩) hS1 ?q1
    case hw1 => (intro w hSw; have s0 := hSw; go_simp; try with_reducible rfl)
    simp only [Act.put, List.setIfInBounds_toArray, List.set_cons_zero, List.set_cons_succ]
    refine Tw.takeD (i := 2) (d := 22) (v := ?v2) rfl rfl (by kernel_rfl) (by kernel_rfl) (by kernel_rfl) (fun _ _ _ h => h) (Or.inl ⟨by rfl, ?hw2⟩) hS1 ?q2
    case hw2 => (intro w hSw; have s0 := hSw; go_simp; try with_reducible rfl)
    simp only [Act.put, List.setIfInBounds_toArray, List.set_cons_zero, List.set_cons_succ]
    refine Tw.takeD (i := 3) (d := 23) (v := ?v3) rfl rfl (by kernel_rfl) (by kernel_rfl) (by kernel_rfl) (fun _ _ _ h => h) (Or.inl ⟨by rfl, ?hw3⟩) hS1 ?q3
    case hw3 => (intro w hSw; have s0 := hSw; go_simp; try with_reducible rfl)
    simp only [Act.put, List.setIfInBounds_toArray, List.set_cons_zero, List.set_cons_succ]
    refine Tw.takeD (i := 4) (d := 24) (v := ?v4) rfl rfl (by kernel_rfl) (by kernel_rfl) (by kernel_rfl) (fun _ _ _ h => h) (Or.inl ⟨by rfl, ?hw4⟩) hS1 ?q4
    case hw4 => (intro w hSw; have s0 := hSw; go_simp; try with_reducible rfl)
    simp only [Act.put, List.setIfInBounds_toArray, List.set_cons_zero, List.set_cons_succ]
    refine Tw.takeD (i := 5) (d := 25) (v := .agg cs.toArray) rfl rfl (by kernel_rfl) (by kernel_rfl) (by kernel_rfl) (fun _ _ _ h => h) (yieldsIf_load_mid (by rfl) 72 _ (by rfl) vb 4 (by rfl) _ _ (fun w hSw => hSw) Tryz.underlying72 (by rfl) (by rw [hL]; kernel_rfl)) hS1 ?q5
    simp only [Act.put, List.setIfInBounds_toArray, List.set_cons_zero, List.set_cons_succ]
    refine wpAnyH_ready (rs := [1]) (by kernel_rfl) (by simp) (AllReadyH.cons rfl (fun K hK => ?_) AllReadyH.nil)
    rw [if_pos (by rfl)]
    go_simp
    refine (at_any H1.out).mono ?_
    rintro e w2 ⟨⟨x, rfl, hx⟩, h2⟩
    simp only []
    have H2 : Hid (Vol w0 w2 vb db cb kb kt S v) := H1.out.go h2
    have HS2 : Hid (Since w w2) := HS1.out.trans h2
    have HX2 : Hid (Sp.Ls w2 w2.heap.size x 8 S.atf) := hx
    have hS2 : (fun W : World => W.rangeAt vb 4 cs) w2 := rangeSince HR1.out h2
    clear h2 hx
    refine hK.out _ _ hS2 (fun _ => ?_)
    clear hK K
    (try simp only [Act.put, List.setIfInBounds_toArray, List.set_cons_zero, List.set_cons_succ])
    refine wpAnyH_ready (rs := [6]) (by kernel_rfl) (by simp) (AllReadyH.cons rfl (fun K hK => ?_) AllReadyH.nil)
    rw [if_pos (by rfl)]
    go_simp
    refine (HLV.out _).mono ?_
    rintro e w3 ⟨y, rfl, hy, h3⟩
    simp only []
    have H3 : Hid (Vol w0 w3 vb db cb kb kt S v) := H2.out.go h3
    have HS3 : Hid (Since w w3) := HS2.out.trans h3
    have HX3 : Hid (Sp.Ls w3 w2.heap.size x 8 S.atf ∧ w2.heap.size ≤ w3.heap.size) := ⟨HX2.out.since h3, h3.size⟩
    have HY3 : Hid (Sp.Ls w3 w3.heap.size y 8 S.live) := hy
    have hS3 : (fun W : World => W.rangeAt vb 4 cs) w3 := rangeSince hS2 h3
    clear h3 hy
    refine hK.out _ _ hS3 (fun _ => ?_)
    clear hK K
    (try simp only [Act.put, List.setIfInBounds_toArray, List.set_cons_zero, List.set_cons_succ])
    refine wpAnyH_ready (rs := [7]) (by kernel_rfl) (by simp) (AllReadyH.cons rfl (fun K hK => ?_) AllReadyH.nil)
    rw [if_pos (by rfl)]
    go_simp
    refine (Sp.victim_any x y 8 8 w3.heap.size S.atf S.live _ (by
      obtain ⟨a, c, hv, hc, h⟩ := HX3.out.1
      exact ⟨a, c, hv, hc, fun hn => by
        obtain ⟨k, o, ha, hk, hcc⟩ := h hn
        exact ⟨k, o, ha, Nat.lt_of_lt_of_le hk HX3.out.2, hcc⟩⟩) HY3.out (by omega) (by omega)).mono ?_
    rintro e w4 ⟨⟨z, ok, rfl, hz⟩, h4⟩
    simp only []
    have H4 : Hid (Vol w0 w4 vb db cb kb kt S v) := H3.out.go h4
    have HS4 : Hid (Since w w4) := HS3.out.trans h4
    have hS4 : (fun W : World => W.rangeAt vb 4 cs) w4 := rangeSince hS3 h4
    have HZ : Hid _ := vic_of hz
    clear h4 hz
    refine hK.out _ _ hS4 (fun _ => ?_)
    clear hK K
    (try simp only [Act.put, List.setIfInBounds_toArray, List.set_cons_zero, List.set_cons_succ])
    refine Tw.takeD (i := 8) (d := 19) (v := ?v12) rfl rfl (by kernel_rfl) (by kernel_rfl) (by kernel_rfl) (fun _ _ _ h => h) (Or.inl ⟨by rfl, ?hw12⟩) hS4 ?q12
    case hw12 => (intro w hSw; have s0 := hSw; go_simp; try with_reducible rfl)
    simp only [Act.put, List.setIfInBounds_toArray, List.set_cons_zero, List.set_cons_succ]
    refine Tw.takeD (i := 9) (d := 28) (v := ?v13) rfl rfl (by kernel_rfl) (by kernel_rfl) (by kernel_rfl) (fun _ _ _ h => h) (Or.inl ⟨by rfl, ?hw13⟩) hS4 ?q13
    case hw13 => (intro w hSw; have s0 := hSw; go_simp; try with_reducible rfl)
    simp only [Act.put, List.setIfInBounds_toArray, List.set_cons_zero, List.set_cons_succ]
    refine Tw.takeD (i := 10) (d := 29) (v := ?v14) rfl rfl (by kernel_rfl) (by kernel_rfl) (by kernel_rfl) (fun _ _ _ h => h) (Or.inl ⟨by rfl, ?hw14⟩) hS4 ?q14
    case hw14 => (intro w hSw; have s0 := hSw; go_simp; try with_reducible rfl)
    simp only [Act.put, List.setIfInBounds_toArray, List.set_cons_zero, List.set_cons_succ]
    refine Tw.takeD (i := 11) (d := 5) (v := ?v15) rfl rfl (by kernel_rfl) (by kernel_rfl) (by kernel_rfl) (fun _ _ _ h => h) (Or.inl ⟨by rfl, ?hw15⟩) hS4 ?q15
    case hw15 => (intro w hSw; have s0 := hSw; go_simp; try with_reducible rfl)
    simp only [Act.put, List.setIfInBounds_toArray, List.set_cons_zero, List.set_cons_succ]
    refine Tw.takeD (i := 12) (d := 6) (v := ?v16) rfl rfl (by kernel_rfl) (by kernel_rfl) (by kernel_rfl) (fun _ _ _ h => h) (Or.inl ⟨by rfl, ?hw16⟩) hS4 ?q16
    case hw16 => (intro w hSw; have s0 := hSw; go_simp; try with_reducible rfl)
    simp only [Act.put, List.setIfInBounds_toArray, List.set_cons_zero, List.set_cons_succ]
    refine wpAnyH_done (by kernel_rfl) ?_ _
    clear hS1 hS2 hS3 H1 H2 H3 HS1 HS2 HS3 HX2 HX3 HY3 HLV HR1
    rcases HZ.out with ⟨rfl, zz, rfl, hz8, hv⟩ | ⟨rfl, rfl, hv⟩
    · have HV : Hid (vicTo S.atf S.live 8 = some zz ∧ zz < 8) := ⟨hv, hz8⟩
      clear hv hz8 HZ
      have hR4 : w4.rangeAt vb 4 cs := hS4
      clear hS4
      go_wp2_with (refine wpList_load_mid (by rfl) 72 _ (by rfl) vb 4 (by rfl) _ _ hR4 Tryz.underlying72 (by rfl) (by rw [hL]; kernel_rfl) ?_)
      refine (HIN.out _ _).mono ?_
      rintro e w5 ⟨x5, rfl, ho5, h5⟩
      have H5 : Hid (Vol w0 w5 vb db cb kb kt S v) := H4.out.go h5
      have HS5 : Hid (Since w w5) := HS4.out.trans h5
      have HG : Hid (∀ b, w4.heap.size ≤ b → ¬ VP vb db cb v b) := fun b hb => H4.out.notGe hb
      have HP : Hid _ := reclaim_some (kb := kb) (kt := kt) HD.out HV.out.1
      have HL24 : Hid (∀ i ∈ Sp.inI S.T (zz : Int) 24, i < 24) := fun i hi => (inI_mem.1 hi).1
      have HLN : Hid ((Sp.inI S.T (zz : Int) 24).length ≤ 24) := Sp.inI_len _ _ _
      generalize Sp.inI S.T (zz : Int) 24 = L at *
      obtain ⟨a5, c5, rfl, hc5⟩ := own_cells ho5 rfl
      have HRL : Hid (RL w0 w w5 vb db cb kb kt S v n zz L a5 0) := ⟨S, v, H5.out, HO.out.1, rfl, fun w' S' h => Vto.pre HS5.out h, fun h0 => by
        obtain ⟨g, hg1, hg2, hg3, hg4⟩ := hc5 h0
        exact ⟨g, hg1, HG.out g hg2, hg3, hg4⟩⟩
      clear hc5 ho5 h5 hR4 H4 HS4 HG H5 HS5 HIN HCS hL
      go_wp2_with fail
      go_loopw [40, 9, 10] (fun i _ _ wr => ∃ k : Nat, k ≤ L.length ∧ i = .int .i64 (k : Int) ∧ RL w0 w wr vb db cb kb kt S v n zz L a5 k) (fun i _ _ _ => L.length - (intOf i).toNat)
      case atStart => exact ⟨0, by omega, rfl, HRL.out⟩
      case round =>
        clear HRL
        obtain ⟨k, hk, rfl, Sk, vk, hvol, hok, hmv, hto, hrow⟩ := hrel
        have HVK : Hid (Vol w0 wr vb db cb kb kt Sk vk) := hvol
        have HOK : Hid (Sk.ok n) := hok
        have HMV : Hid (Sk.moves kb zz (L.drop k) = S.moves kb zz L) := hmv
        have HTO : Hid (∀ w' S', Vto w0 wr w' vb db cb kb kt S' vk → Vto w0 w w' vb db cb kb kt S' v) := hto
        have HRW : Hid (0 < L.length → ∃ g, a5 = some ⟨g, 0, none⟩ ∧ ¬ VP vb db cb vk g ∧ g < wr.heap.size ∧ ∀ j (hj : j < L.length), wr.cell? ⟨g, j, none⟩ = some (.int .i64 (L[j] : Int))) := hrow
        clear hvol hok hmv hto hrow
        by_cases hlt : k < L.length
        · have hlt2 : (k : Int) < L.length := by omega
          have hk24 : (k : Int) < 24 := by have := HLN.out; omega
          obtain ⟨g, rfl, hg2, hg3, hg4⟩ := HRW.out (by omega)
          have HGG : Hid (¬ VP vb db cb vk g ∧ g < wr.heap.size ∧ ∀ j (hj : j < L.length), wr.cell? ⟨g, j, none⟩ = some (.int .i64 (L[j] : Int))) := ⟨hg2, hg3, hg4⟩
          have q1 := hg4 k hlt
          clear hg2 hg3 hg4 HRW
          have hi24 : L[k] < 24 := HL24.out _ (List.getElem_mem _)
          have HDR : Hid (L.drop k = L[k] :: L.drop (k + 1)) := List.drop_eq_getElem_cons hlt
          generalize L[k] = ii at *
          have hi2 : (ii : Int) < 24 := by omega
          have q2 := HVK.out.cx ii hi24
          go_wp2_with fail
          refine (put_any HB.out ii (Sk.X ii) zz hi24 (HOK.out.txt ii) HVK.out).mono ?_
          rintro e w6 ⟨rfl, h6⟩
          have HOK6 : Hid ((Sk.put kb ii zz (Sk.X ii)).2.ok n) := HOK.out.put kb ii hi24 zz (Sk.X ii) (HOK.out.txt ii)
          have HM6 : Hid (S.moves kb zz L = if (Sk.put kb ii zz (Sk.X ii)).1 = 0 then (Sk.put kb ii zz (Sk.X ii)).2.moves kb zz (L.drop (k + 1)) else Sk.put kb ii zz (Sk.X ii)) := by
            show S.moves kb zz L = _
            rw [← HMV.out, HDR.out, moves_cons]
          obtain ⟨v6, h6v, F6, x6, y6, z6⟩ := h6.cont2 HGG.out.1 HGG.out.2.1
          have H6 : Hid (Vol w0 w6 vb db cb kb kt (Sk.put kb ii zz (Sk.X ii)).2 v6) := h6v
          have HT6 : Hid (∀ w' S', Vto w0 w6 w' vb db cb kb kt S' v6 → Vto w0 w w' vb db cb kb kt S' v) := fun w' S' h => HTO.out _ _ (F6 w' S' h)
          have HG6 : Hid (¬ VP vb db cb v6 g ∧ g < w6.heap.size ∧ ∀ j (hj : j < L.length), w6.cell? ⟨g, j, none⟩ = some (.int .i64 (L[j] : Int))) := ⟨y6, Nat.lt_of_lt_of_le HGG.out.2.1 z6, fun j hj => (x6 j).trans (HGG.out.2.2 j hj)⟩
          clear h6 h6v F6 x6 y6 z6 HGG q1 q2 HVK HTO HOK HMV HDR
          generalize Sk.put kb ii zz (Sk.X ii) = R at *
          by_cases h0 : R.1 = 0
          · rw [h0, ev0]
            have HM7 : Hid (R.2.moves kb zz (L.drop (k + 1)) = S.moves kb zz L) := by
              show R.2.moves kb zz (L.drop (k + 1)) = S.moves kb zz L
              rw [HM6.out, if_pos h0]
            clear h0 HM6
            go_wp2_with fail
            go_roundw
            case rel => exact ⟨k + 1, by omega, by go_num, R.2, v6, H6.out, HOK6.out, HM7.out, HT6.out, fun _ => ⟨g, rfl, HG6.out⟩⟩
            case measure => simp [intOf]; omega
          · rw [evn _ h0]
            have HE : Hid (S.reclaim kb kt = ((0, false, R.1), R.2) ∧ ev R.1 = .iface 32 (.int .i64 R.1)) := by
              refine ⟨?_, evn _ h0⟩
              rw [HP.out, HM6.out, if_neg h0, if_pos h0]
            clear h0 HP HM6
            go_wp2_with fail
            go_ret3
            rw [HE.out.1, HE.out.2]
            exact ⟨rfl, HT6.out _ _ H6.out.self⟩
        · have hke : k = L.length := by omega
          subst hke
          have HM7 : Hid (S.moves kb zz L = (0, Sk)) := by
            show S.moves kb zz L = (0, Sk)
            rw [← HMV.out, List.drop_length, moves_nil]
          clear HMV HRW hlt
          go_wp2_with fail
          refine (flush_any HB.out (HOK.out.next (by have := HO.out.2; omega)) HOK.out.nc HVK.out).mono ?_
          rintro e w6 ⟨rfl, h6⟩
          obtain ⟨v6, h6v, F6⟩ := h6.cont
          have H6 : Hid (Vol w0 w6 vb db cb kb kt (Sk.flush kt).2 v6) := h6v
          have HT6 : Hid (∀ w' S', Vto w0 w6 w' vb db cb kb kt S' v6 → Vto w0 w w' vb db cb kb kt S' v) := fun w' S' h => HTO.out _ _ (F6 w' S' h)
          have HP7 : Hid (S.reclaim kb kt = if (Sk.flush kt).1 ≠ 0 then ((0, false, (Sk.flush kt).1), (Sk.flush kt).2) else if (Sk.flush kt).2.D.may = false then ((0, false, 14), { (Sk.flush kt).2 with dead := true }) else (((L.length : Int), true, 0), { (Sk.flush kt).2 with D := (Sk.flush kt).2.D.burnt.reset zz })) := by
            show S.reclaim kb kt = _
            rw [HP.out, HM7.out, if_neg (fun h => h rfl)]
          clear h6 h6v F6 HTO HVK HOK HM7 HP
          generalize Sk.flush kt = R at *
          by_cases h0 : R.1 = 0
          · rw [h0, ev0]
            have HP8 : Hid (S.reclaim kb kt = if R.2.D.may = false then ((0, false, 14), { R.2 with dead := true }) else (((L.length : Int), true, 0), { R.2 with D := R.2.D.burnt.reset zz })) := by
              show S.reclaim kb kt = _
              rw [HP7.out, if_neg (by rw [h0]; decide)]
            clear h0 HP7
            have q0 := H6.out.c0
            go_wp2_with fail
            refine (resetD_any zz HV.out.2 H6.out).mono ?_
            rintro e w7 ⟨rfl, h7⟩
            obtain ⟨v7, h7v, F7⟩ := h7.cont
            have H7 : Hid (Vol w0 w7 vb db cb kb kt { R.2 with D := (rsD R.2.D zz).2 } v7) := h7v
            have HT7 : Hid (∀ w' S', Vto w0 w7 w' vb db cb kb kt S' v7 → Vto w0 w w' vb db cb kb kt S' v) := fun w' S' h => HT6.out _ _ (F7 w' S' h)
            clear h7 h7v F7 HT6 H6 q0
            go_wp2_with fail
            refine (heed_any (rsD R.2.D zz).1 H7.out).mono ?_
            rintro e w8 ⟨rfl, h8⟩
            have HT8 : Hid (Vto w0 w w8 vb db cb kb kt { R.2 with D := (rsD R.2.D zz).2, dead := R.2.dead || decide ((rsD R.2.D zz).1 = 14) } v) := HT7.out _ _ h8
            clear h8 HT7 H7
            cases hm : R.2.D.may with
            | false =>
              have e1 : rsD R.2.D zz = (14, R.2.D) := by unfold rsD; rw [if_pos hm]
              rw [e1] at HT8 ⊢
              rw [evn 14 (by decide)]
              have HE : Hid (S.reclaim kb kt = ((0, false, 14), { R.2 with dead := true })) := by
                show S.reclaim kb kt = _
                rw [HP8.out, if_pos hm]
              clear e1 hm HP8
              go_wp2_with fail
              go_ret3
              rw [HE.out, evn 14 (by decide)]
              refine ⟨rfl, ?_⟩
              have := HT8.out
              simpa using this
            | true =>
              have e1 : rsD R.2.D zz = (0, R.2.D.burnt.reset zz) := by unfold rsD; rw [if_neg (by rw [hm]; decide)]
              rw [e1] at HT8 ⊢
              rw [ev0]
              have HE : Hid (S.reclaim kb kt = (((L.length : Int), true, 0), { R.2 with D := R.2.D.burnt.reset zz })) := by
                show S.reclaim kb kt = _
                rw [HP8.out, if_neg (by rw [hm]; decide)]
              clear e1 hm HP8
              go_wp2_with fail
              go_ret3
              rw [HE.out, ev0]
              refine ⟨rfl, ?_⟩
              have := HT8.out
              simpa using this
          · rw [evn _ h0]
            have HE : Hid (S.reclaim kb kt = ((0, false, R.1), R.2) ∧ ev R.1 = .iface 32 (.int .i64 R.1)) := by
              refine ⟨?_, evn _ h0⟩
              rw [HP7.out, if_pos h0]
            clear h0 HP7
            go_wp2_with fail
            go_ret3
            rw [HE.out.1, HE.out.2]
            exact ⟨rfl, HT6.out _ _ H6.out.self⟩
    · have HV : Hid (vicTo S.atf S.live 8 = none) := hv
      clear hv HZ
      go_wp2_with fail
      go_ret3
      have HP : S.reclaim kb kt = ((0, false, 0), S) := by
        unfold Vs.reclaim
        rw [HD.out, HV.out]
        rfl
      rw [HP, ev0]
      exact ⟨rfl, H.out.to HS4.out⟩
end
end Vl
end Go.Proofs.YtlgocfgnfdnloaaGreatDoor
end
section
namespace Go.Proofs.YtlgocfgnfdnloaaGreatDoor
set_option maxRecDepth 100000
namespace Vl
open Go.RowKit
open Tw (Tb tcell tval ccell)
theorem ne_nil {s : ByteArray} (h : ¬ s = ⟨#[]⟩) : s.toList.isEmpty = false ∧ ¬ s.toList = [] := by
  have h1 : ¬ s.toList = [] := fun e => h (ByteArray.ext (by
    rw [ByteArray.toList_eq] at e
    exact Array.toList_eq_nil_iff.1 e))
  exact ⟨by simpa using h1, h1⟩
section
variable {w0 w : World} {vb db cb : Nat} {kb kt : ByteArray} {S : Vs} {v : Value}
set_option maxHeartbeats 8000000 in
theorem write_any (B : Base w0 kb kt) (n : Int) (ho : S.ok n) (hn : n < 1000000000) (i : Int) (t : ByteArray) (h : Vol w0 w vb db cb kb kt S v) :
    Calls Tryz.prog 129 #[.pointer (some ⟨vb, 0, none⟩), .int .i64 i, .string t] w fun e w' => e = .returned (ev (S.write kb kt i t).1) ∧ Vto w0 w w' vb db cb kb kt (S.write kb kt i t).2 v := by
  have HB : Hid (Base w0 kb kt) := B
  have HO : Hid (S.ok n ∧ n < 1000000000) := ⟨ho, hn⟩
  have H : Hid (Vol w0 w vb db cb kb kt S v) := h
  clear h B ho hn
  cases hd : S.dead with
  | true =>
    have HE : Hid (S.write kb kt i t = (6, S)) := by show S.write kb kt i t = _; unfold Vs.write; rw [hd]; rfl
    have HD : Hid (S.dead = true) := hd
    clear hd
    go_enter Tryz.func129, Tryz.ntmps129
    go_wp2_with fail
    refine (orZero_any _ _).mono ?_
    rintro e wx ⟨rfl, hw⟩
    rw [hw]
    clear hw wx
    go_wp2_with fail
    refine (works_any H.out).mono ?_
    rintro e wx ⟨rfl, hw⟩
    rw [hw]
    clear hw wx
    rw [HD.out]
    go_wp2_with fail
    go_ret
    rw [HE.out, evn 6 (by decide)]
    exact ⟨rfl, H.out.self⟩
  | false =>
    have HD : Hid (S.dead = false) := hd
    clear hd
    go_enter Tryz.func129, Tryz.ntmps129
    go_wp2_with fail
    refine (orZero_any _ _).mono ?_
    rintro e wx ⟨rfl, hw⟩
    rw [hw]
    clear hw wx
    go_wp2_with fail
    refine (works_any H.out).mono ?_
    rintro e wx ⟨rfl, hw⟩
    rw [hw]
    clear hw wx
    rw [HD.out]
    go_wp2_with fail
    refine (hasCell_any _ _).mono ?_
    rintro e wx ⟨rfl, hw⟩
    rw [hw]
    clear hw wx
    by_cases hi : 0 ≤ i ∧ i < 24
    · rw [hc_true hi]
      obtain ⟨k, rfl⟩ := Int.eq_ofNat_of_zero_le hi.1
      have hk : (k : Int) < 24 := hi.2
      have HK : Hid (k < 24) := by show k < 24; omega
      have HI : Hid (¬ ¬ (0 ≤ (k : Int) ∧ (k : Int) < 24)) := fun q => q hi
      clear hi
      by_cases ht : 80 < t.size
      · have ht2 : (80 : Int) < t.size := by omega
        have HE : Hid (S.write kb kt k t = (4, S)) := by show S.write kb kt k t = _; unfold Vs.write; rw [HD.out, if_neg (by decide), if_neg HI.out, if_pos ht]
        clear ht
        go_wp2_with fail
        go_ret
        rw [HE.out, evn 4 (by decide)]
        exact ⟨rfl, H.out.self⟩
      · have ht2 : ¬ (80 : Int) < t.size := by omega
        have HT : Hid (¬ 80 < t.size) := ht
        clear ht
        have q := H.out.cx k HK.out
        by_cases hx : t = S.X k
        · have HE : Hid (S.write kb kt k t = (0, S)) := by show S.write kb kt k t = _; unfold Vs.write; rw [HD.out, if_neg (by decide), if_neg HI.out, if_neg HT.out, Int.toNat_natCast, if_pos hx]
          rw [← hx] at q
          clear hx
          go_wp2_with fail
          go_ret
          rw [HE.out, ev0]
          exact ⟨rfl, H.out.self⟩
        · have hxl := Tw.neq_list hx
          have HX : Hid (¬ t = S.X k) := hx
          clear hx
          by_cases he : t = ⟨#[]⟩
          · have HE : Hid (S.write kb kt k t = (0, S.set k 0 0 ⟨#[]⟩ ⟨#[]⟩)) := by show S.write kb kt k t = _; unfold Vs.write; rw [HD.out, if_neg (by decide), if_neg HI.out, if_neg HT.out, Int.toNat_natCast, if_neg HX.out, if_pos he]
            subst he
            obtain ⟨g1, g2⟩ := ne_nil (fun q : S.X k = ⟨#[]⟩ => HX.out q.symm)
            clear hxl
            go_wp2_with fail
            refine (set_any k 0 0 ⟨#[]⟩ ⟨#[]⟩ HK.out (by decide) (by decide) H.out).mono ?_
            rintro e w1 ⟨rfl, h1⟩
            have H1 : Hid (Vto w0 w w1 vb db cb kb kt (S.set k 0 0 ⟨#[]⟩ ⟨#[]⟩) v) := h1
            clear h1
            go_wp2_with fail
            go_ret
            rw [HE.out, ev0]
            exact ⟨rfl, H1.out⟩
          · obtain ⟨g1, g2⟩ := ne_nil he
            have HP : Hid (S.write kb kt k t = if S.free ≤ 20 then (if (S.reclaim kb kt).1.2.2 ≠ 0 then ((S.reclaim kb kt).1.2.2, (S.reclaim kb kt).2) else (S.reclaim kb kt).2.put kb k (-1) t) else S.put kb k (-1) t) := by
              show S.write kb kt k t = _
              unfold Vs.write
              rw [HD.out, if_neg (by decide), if_neg HI.out, if_neg HT.out, Int.toNat_natCast, if_neg HX.out, if_neg he]
            clear he
            go_wp2_with fail
            refine (free_any H.out).mono ?_
            rintro e w1 ⟨rfl, h1⟩
            have H1 : Hid (Vol w0 w1 vb db cb kb kt S v) := H.out.go h1
            have HS1 : Hid (Since w w1) := h1
            clear h1 q hxl g1 g2
            by_cases hf : S.free ≤ 20
            · have hfd : decide (S.free ≤ 20) = true := decide_eq_true hf
              have HP2 : Hid (S.write kb kt k t = if (S.reclaim kb kt).1.2.2 ≠ 0 then ((S.reclaim kb kt).1.2.2, (S.reclaim kb kt).2) else (S.reclaim kb kt).2.put kb k (-1) t) := by
                show S.write kb kt k t = _
                rw [HP.out, if_pos hf]
              clear HP
              generalize S.free = fr at *
              go_wp2_with fail
              refine (reclaim_any HB.out n HO.out.1 HO.out.2 H1.out).mono ?_
              rintro e w2 ⟨rfl, h2⟩
              obtain ⟨v2, h2v, F2⟩ := (Vto.pre HS1.out h2).cont
              have H2 : Hid (Vol w0 w2 vb db cb kb kt (S.reclaim kb kt).2 v2) := h2v
              have HT2 : Hid (∀ w' S', Vto w0 w2 w' vb db cb kb kt S' v2 → Vto w0 w w' vb db cb kb kt S' v) := F2
              clear h2 h2v F2 hf hfd
              generalize S.reclaim kb kt = R at *
              obtain ⟨⟨r1, r2, r3⟩, R2⟩ := R
              dsimp only at H2 HP2 ⊢
              by_cases h0 : r3 = 0
              · subst h0
                rw [ev0]
                have HP3 : Hid (S.write kb kt k t = R2.put kb k (-1) t) := by
                  show S.write kb kt k t = _
                  rw [HP2.out, if_neg (fun q => q rfl)]
                clear HP2
                go_wp2_with fail
                refine (put_any HB.out k t (-1) HK.out (by have := HT.out; omega) H2.out).mono ?_
                rintro e w3 ⟨rfl, h3⟩
                have H3 : Hid (Vto w0 w w3 vb db cb kb kt (R2.put kb k (-1) t).2 v) := HT2.out _ _ h3
                clear h3
                go_wp2_with fail
                go_ret
                rw [HP3.out]
                exact ⟨rfl, H3.out⟩
              · have HP3 : Hid (S.write kb kt k t = (r3, R2) ∧ ev r3 = .iface 32 (.int .i64 r3)) := by
                  refine ⟨?_, evn _ h0⟩
                  rw [HP2.out, if_pos h0]
                rw [evn _ h0]
                clear HP2 h0
                go_wp2_with fail
                go_ret
                rw [HP3.out.1, HP3.out.2]
                exact ⟨rfl, HT2.out _ _ H2.out.self⟩
            · have hfd : decide (S.free ≤ 20) = false := decide_eq_false hf
              have HP2 : Hid (S.write kb kt k t = S.put kb k (-1) t) := by
                show S.write kb kt k t = _
                rw [HP.out, if_neg hf]
              clear HP
              generalize S.free = fr at *
              go_wp2_with fail
              refine (put_any HB.out k t (-1) HK.out (by have := HT.out; omega) H1.out).mono ?_
              rintro e w2 ⟨rfl, h2⟩
              have H2 : Hid (Vto w0 w w2 vb db cb kb kt (S.put kb k (-1) t).2 v) := Vto.pre HS1.out h2
              clear h2
              go_wp2_with fail
              go_ret
              rw [HP2.out]
              exact ⟨rfl, H2.out⟩
    · have HE : Hid (S.write kb kt i t = (2, S)) := by show S.write kb kt i t = _; unfold Vs.write; rw [HD.out, if_neg (by decide), if_pos hi]
      rw [hc_false hi]
      go_wp2_with fail
      go_ret
      rw [HE.out, evn 2 (by decide)]
      exact ⟨rfl, H.out.self⟩
end
end Vl
end Go.Proofs.YtlgocfgnfdnloaaGreatDoor
end
section
namespace Go.Proofs.YtlgocfgnfdnloaaGreatDoor
set_option maxRecDepth 100000
namespace Vl
open Go.RowKit
open Tw (Tb tcell tval ccell)
def rdB (D : Dv) (z o : Int) : ByteArray × Int := if ¬ (0 ≤ z ∧ z < 8) then (⟨#[]⟩, 2) else if ¬ (0 ≤ o ∧ o < D.cnt z.toNat) then (⟨#[]⟩, 7) else (blkOf D z o, 0)
theorem readD_any {w : World} {db : Nat} {D : Dv} {v : Value} (z o : Int) (h : Dev w db D v) :
    Calls Tryz.prog 298 #[.pointer (some ⟨db, 0, none⟩), .int .i64 z, .int .i64 o] w fun e w' => e = .returned (.tuple #[.string (rdB D z o).1, ev (rdB D z o).2]) ∧ w' = w := by
  unfold rdB
  by_cases hz : 0 ≤ z ∧ z < 8
  · rw [if_neg (fun q => q hz)]
    obtain ⟨k, rfl⟩ := Int.eq_ofNat_of_zero_le hz.1
    rw [Int.toNat_natCast]
    by_cases ho : 0 ≤ o ∧ o < D.cnt k
    · rw [if_neg (fun q => q ho)]
      obtain ⟨j, rfl⟩ := Int.eq_ofNat_of_zero_le ho.1
      rw [ev0]
      exact Go.Proofs.YtlgocfgnfdnloaaGreatDoor.read_any D v db k j w h (by omega) (by omega)
    · rw [if_pos ho, evn 7 (by decide)]
      exact read_miss D v db k o w h (by omega) ho
  · rw [if_pos hz, evn 2 (by decide)]
    exact read_bad db z o w hz
def z24 : Array Value := #[.string ⟨#[]⟩, .string ⟨#[]⟩, .string ⟨#[]⟩, .string ⟨#[]⟩, .string ⟨#[]⟩, .string ⟨#[]⟩, .string ⟨#[]⟩, .string ⟨#[]⟩, .string ⟨#[]⟩, .string ⟨#[]⟩, .string ⟨#[]⟩, .string ⟨#[]⟩, .string ⟨#[]⟩, .string ⟨#[]⟩, .string ⟨#[]⟩, .string ⟨#[]⟩, .string ⟨#[]⟩, .string ⟨#[]⟩, .string ⟨#[]⟩, .string ⟨#[]⟩, .string ⟨#[]⟩, .string ⟨#[]⟩, .string ⟨#[]⟩, .string ⟨#[]⟩]
theorem z24_row : z24.toList = brow 24 (fun _ => .string ⟨#[]⟩) := by kernel_rfl
theorem z24_get (j : Nat) (hj : j < 24) : z24[j]? = some (.string ⟨#[]⟩) := by
  rw [← Array.getElem?_toList, z24_row]; exact brow_get _ _ _ hj
def xcell (X : Nat → ByteArray) (j : Nat) : Value := .string (X j)
def xval (X : Nat → ByteArray) : Value := .agg (brow 24 (xcell X)).toArray
theorem z24_cel (w : World) (b : Nat) (hb : b = w.heap.size) : Cel (w.alloc (.cells z24 73)) b 24 (xcell (fun _ => ⟨#[]⟩)) := Cel.new w _ _ _ _ z24_get _ hb
theorem ln24 (X : Nat → ByteArray) : (brow 24 (xcell X)).length = 24 := brow_length _ _
theorem says_set (kb : ByteArray) (D : Dv) (T : Tb) (k : Nat) (s : ByteArray) (hs : s = if T.tag k = ⟨#[]⟩ then ⟨#[]⟩ else Sl.textOf kb (blkOf D (T.zone k) (T.off k))) (j : Nat) : updv (xcell (saysTo kb D T k)) k (.string s) j = xcell (saysTo kb D T (k + 1)) j := by
  unfold updv xcell saysTo
  by_cases e : j = k
  · subst e
    rw [if_pos rfl, if_pos (by omega), hs]
  · rw [if_neg e]
    by_cases h : j < k
    · simp only [if_pos h, if_pos (show j < k + 1 by omega)]
    · simp only [if_neg h, if_neg (show ¬ j < k + 1 by omega)]
theorem says_skip (kb : ByteArray) (D : Dv) (T : Tb) (k : Nat) (hs : T.tag k = ⟨#[]⟩) (j : Nat) : xcell (saysTo kb D T k) j = xcell (saysTo kb D T (k + 1)) j := by
  unfold xcell saysTo
  by_cases e : j = k
  · subst e
    rw [if_neg (by omega), if_pos (by omega), if_pos hs]
  · by_cases h : j < k
    · simp only [if_pos h, if_pos (show j < k + 1 by omega)]
    · simp only [if_neg h, if_neg (show ¬ j < k + 1 by omega)]
theorem xcell_one (X : Nat → ByteArray) (j : Nat) : (xcell X j).oneCell' = true := rfl
theorem x_all {X : Nat → ByteArray} {w : World} {b : Nat} (h : Cel w b 24 (xcell X)) : w.rangeAt b 0 (brow 24 (xcell X)) := by
  have := h.range 0 24 (by omega)
  simpa only [Nat.zero_add] using this
theorem x_stored {w : World} {b : Nat} {X : Nat → ByteArray} (h : Cel w b 24 (xcell X)) (Y : Nat → ByteArray) : (storeCells ⟨b, 0, none⟩ (brow 24 (xcell Y))).run Tryz.prog w = .ok () (w.setCells b 0 (brow 24 (xcell Y))) ∧ Cel (w.setCells b 0 (brow 24 (xcell Y))) b 24 (xcell Y) :=
  ⟨h.store Tryz.prog 0 24 (by omega) (xcell Y) (fun j _ => xcell_one _ j), (h.setRow 0 24 (by omega) (xcell Y)).congr (fun j hj => by unfold updl; rw [if_pos (by omega)]; rfl)⟩
theorem z_stored {w : World} {b : Nat} {X : Nat → ByteArray} (h : Cel w b 24 (xcell X)) : Cel (w.setCells b 0 z24.toList) b 24 (xcell (fun _ => ⟨#[]⟩)) := by
  rw [z24_row]
  exact (x_stored h (fun _ => ⟨#[]⟩)).2
theorem z_there {w : World} {b : Nat} {X : Nat → ByteArray} (h : Cel w b 24 (xcell X)) : w.there b 0 z24.size := h.there 0 24 (by omega)
section
variable {w0 w : World} {vb db cb : Nat} {kb kt : ByteArray} {S : Vs} {v : Value}
set_option maxHeartbeats 8000000 in
theorem opened_any (B : Base w0 kb kt) (T : Tb) (h : Vol w0 w vb db cb kb kt S v) :
    Calls Tryz.prog 255 #[.pointer (some ⟨vb, 0, none⟩), tval T] w fun e w' => (((∀ i, i < 24 → there kb S.D T i) ∧ e = .returned (.tuple #[xval (saysTo kb S.D T 24), .bool true])) ∨ ((¬ ∀ i, i < 24 → there kb S.D T i) ∧ e = .returned (.tuple #[xval (fun _ => ⟨#[]⟩), .bool false]))) ∧ Since w w' := by
  have HB : Hid (Base w0 kb kt) := B
  have H : Hid (Vol w0 w vb db cb kb kt S v) := h
  clear h B
  have hC := Tw.tab_cel T w
  have hR := Tw.tab_cells hC
  unfold tval
  generalize (brow 73 (tcell T)).toArray = cs0 at *
  have hsz : (w.alloc (.cells cs0 72)).heap.size = w.heap.size + 1 := World.size_alloc _ _
  have hsz2 : ((w.alloc (.cells cs0 72)).alloc (.cells z24 73)).heap.size = w.heap.size + 1 + 1 := by rw [World.size_alloc, hsz]
  have HSA : Hid (Since (w.alloc (.cells cs0 72)) (((w.alloc (.cells cs0 72)).alloc (.cells z24 73)).alloc (.cells z24 73))) := ((Since.refl _).alloc _).alloc _
  have HS : Hid (Since w (((w.alloc (.cells cs0 72)).alloc (.cells z24 73)).alloc (.cells z24 73))) := (((Since.refl w).alloc _).alloc _).alloc _
  have HR1 : Hid (Cel (((w.alloc (.cells cs0 72)).alloc (.cells z24 73)).alloc (.cells z24 73)) (w.heap.size + 1) 24 (xcell (fun _ => ⟨#[]⟩))) := (z24_cel _ _ hsz.symm).since ((Since.refl _).alloc _)
  have HX1 : Hid (Cel (((w.alloc (.cells cs0 72)).alloc (.cells z24 73)).alloc (.cells z24 73)) (w.heap.size + 1 + 1) 24 (xcell (saysTo kb S.D T 0))) := (z24_cel _ _ hsz2.symm).congr (fun j hj => by unfold xcell saysTo; rw [if_neg (by omega)])
  have hR3 := rangeSince hR HSA.out
  clear hC hR HSA
  have hL : (brow 72 (ccell T)).length = 72 := brow_length _ _
  have HIX : Hid (∀ (k : Nat) (hk : k < 24) (w : World), (Instr.index 70 (.agg (brow 72 (ccell T)).toArray) (.int .i64 (k : Int))).run Tryz.prog w = .ok (.agg #[.int .i64 (T.zone k), .int .i64 (T.off k), .string (T.tag k)]) w) := fun k hk w => Tw.idx_cell T k hk w
  generalize hcs : brow 72 (ccell T) = cs at *
  clear hcs
  have hz24 : z24 = #[.string ⟨#[]⟩, .string ⟨#[]⟩, .string ⟨#[]⟩, .string ⟨#[]⟩, .string ⟨#[]⟩, .string ⟨#[]⟩, .string ⟨#[]⟩, .string ⟨#[]⟩, .string ⟨#[]⟩, .string ⟨#[]⟩, .string ⟨#[]⟩, .string ⟨#[]⟩, .string ⟨#[]⟩, .string ⟨#[]⟩, .string ⟨#[]⟩, .string ⟨#[]⟩, .string ⟨#[]⟩, .string ⟨#[]⟩, .string ⟨#[]⟩, .string ⟨#[]⟩, .string ⟨#[]⟩, .string ⟨#[]⟩, .string ⟨#[]⟩, .string ⟨#[]⟩] := rfl
  rw [hz24] at HS HR1 HX1 hR3
  go_enter Tryz.func255, Tryz.ntmps255
  go_wp2_with (refine wpList_load_mid (by rfl) 70 _ (by rfl) w.heap.size 1 (by rfl) _ _ hR3 Tryz.underlying70 (by rfl) (by rw [hL]; kernel_rfl) ?_)
  rw [← hz24] at HS HR1 HX1 hR3
  rw [← hz24]
  clear hR3 hL hz24 hsz hsz2
  generalize (((w.alloc (.cells cs0 72)).alloc (.cells z24 73)).alloc (.cells z24 73)) = w1 at *
  go_loopw [15, 7, 8, 9, 10, 11, 12] (fun i _ _ _ _ _ _ wr => ∃ k : Nat, k ≤ 24 ∧ i = .int .i64 k ∧ (∀ i, i < k → there kb S.D T i) ∧ Cel wr (w.heap.size + 1) 24 (xcell (fun _ => ⟨#[]⟩)) ∧ Cel wr (w.heap.size + 1 + 1) 24 (xcell (saysTo kb S.D T k)) ∧ Since w wr) (fun i _ _ _ _ _ _ _ => 24 - (intOf i).toNat)
  case atStart => exact ⟨0, by omega, rfl, fun i hi => by omega, HR1.out, HX1.out, HS.out⟩
  case round =>
    clear HR1 HX1 HS
    obtain ⟨k, hk, rfl, hth, hr1, hx1, hs1⟩ := hrel
    have HTH : Hid (∀ i, i < k → there kb S.D T i) := hth
    have HR : Hid (Cel wr (w.heap.size + 1) 24 (xcell (fun _ => ⟨#[]⟩))) := hr1
    have HX : Hid (Cel wr (w.heap.size + 1 + 1) 24 (xcell (saysTo kb S.D T k))) := hx1
    have HS : Hid (Since w wr) := hs1
    clear hth hr1 hx1 hs1
    by_cases hlt : k < 24
    · have hlt2 : (k : Int) < 24 := by omega
      have hix := HIX.out k hlt
      by_cases te : T.tag k = ⟨#[]⟩
      · have HTE : Hid (T.tag k = ⟨#[]⟩) := te
        rw [te] at hix
        clear te
        go_wp2_with fail
        go_roundw
        case rel =>
          refine ⟨k + 1, by omega, by go_num, fun i hi => ?_, HR.out.since ((Since.refl _).alloc _), (HX.out.congr (fun j _ => says_skip kb S.D T k HTE.out j)).since ((Since.refl _).alloc _), HS.out.alloc _⟩
          by_cases e : i = k
          · subst e; exact Or.inl HTE.out
          · exact HTH.out i (by omega)
        case measure => simp [intOf]; omega
      · obtain ⟨g1, g2⟩ := ne_nil te
        have HTE : Hid (¬ T.tag k = ⟨#[]⟩) := te
        clear te
        go_wp2_with fail
        have HC2 : Hid (Cel (wr.alloc (.cells #[.int .i64 (T.zone k), .int .i64 (T.off k), .string (T.tag k)] 69)) wr.heap.size 3 (fun j => if j = 0 then .int .i64 (T.zone k) else if j = 1 then .int .i64 (T.off k) else .string (T.tag k))) := Cel.new wr _ _ _ _ (fun j hj => by
          match j, hj with
          | 0, _ => rfl
          | 1, _ => rfl
          | 2, _ => rfl) _ rfl
        have HS2 : Hid (Since wr (wr.alloc (.cells #[.int .i64 (T.zone k), .int .i64 (T.off k), .string (T.tag k)] 69)).drew) := ((Since.refl wr).alloc _).drew
        generalize hw2 : wr.alloc (.cells #[.int .i64 (T.zone k), .int .i64 (T.off k), .string (T.tag k)] 69) = w2 at *
        clear hw2
        have HC3 : Hid (Cel w2.drew wr.heap.size 3 (fun j => if j = 0 then .int .i64 (T.zone k) else if j = 1 then .int .i64 (T.off k) else .string (T.tag k))) := HC2.out.since (Since.refl _).drew
        have H3 : Hid (Vol w0 w2.drew vb db cb kb kt S v) := H.out.go (HS.out.trans HS2.out)
        have hS3 : (fun W : World => W.cell? ⟨vb, 0, none⟩ = some (.pointer (some ⟨db, 0, none⟩)) ∧ W.cell? ⟨wr.heap.size, 0, none⟩ = some (.int .i64 (T.zone k)) ∧ W.cell? ⟨wr.heap.size, 1, none⟩ = some (.int .i64 (T.off k))) w2.drew := ⟨H3.out.c0, HC3.out.cell 0 (by omega), HC3.out.cell 1 (by omega)⟩
        refine wp_region_held (S := fun W : World => W.cell? ⟨vb, 0, none⟩ = some (.pointer (some ⟨db, 0, none⟩)) ∧ W.cell? ⟨wr.heap.size, 0, none⟩ = some (.int .i64 (T.zone k)) ∧ W.cell? ⟨wr.heap.size, 1, none⟩ = some (.int .i64 (T.off k))) (by kernel_rfl) ?_
        refine Tw.takeD (i := 0) (d := 23) (v := ?v1) rfl rfl (by kernel_rfl) (by kernel_rfl) (by kernel_rfl) (fun _ _ _ h => h) (Or.inl ⟨by rfl, ?hw1⟩) hS3 ?q1
        case hw1 => (intro w hSw; obtain ⟨s0, s1, s2⟩ := hSw; go_simp; try with_reducible rfl)
        simp only [Act.put, List.setIfInBounds_toArray, List.set_cons_zero, List.set_cons_succ]
        refine Tw.takeD (i := 1) (d := 24) (v := ?v2) rfl rfl (by kernel_rfl) (by kernel_rfl) (by kernel_rfl) (fun _ _ _ h => h) (Or.inl ⟨by rfl, ?hw2⟩) hS3 ?q2
        case hw2 => (intro w hSw; obtain ⟨s0, s1, s2⟩ := hSw; go_simp; try with_reducible rfl)
        simp only [Act.put, List.setIfInBounds_toArray, List.set_cons_zero, List.set_cons_succ]
        refine Tw.takeD (i := 2) (d := 25) (v := ?v3) rfl rfl (by kernel_rfl) (by kernel_rfl) (by kernel_rfl) (fun _ _ _ h => h) (Or.inl ⟨by rfl, ?hw3⟩) hS3 ?q3
        case hw3 => (intro w hSw; obtain ⟨s0, s1, s2⟩ := hSw; go_simp; try with_reducible rfl)
        simp only [Act.put, List.setIfInBounds_toArray, List.set_cons_zero, List.set_cons_succ]
        refine Tw.takeD (i := 3) (d := 26) (v := ?v4) rfl rfl (by kernel_rfl) (by kernel_rfl) (by kernel_rfl) (fun _ _ _ h => h) (Or.inl ⟨by rfl, ?hw4⟩) hS3 ?q4
        case hw4 => (intro w hSw; obtain ⟨s0, s1, s2⟩ := hSw; go_simp; try with_reducible rfl)
        simp only [Act.put, List.setIfInBounds_toArray, List.set_cons_zero, List.set_cons_succ]
        refine Tw.takeD (i := 4) (d := 27) (v := ?v5) rfl rfl (by kernel_rfl) (by kernel_rfl) (by kernel_rfl) (fun _ _ _ h => h) (Or.inl ⟨by rfl, ?hw5⟩) hS3 ?q5
        case hw5 => (intro w hSw; obtain ⟨s0, s1, s2⟩ := hSw; go_simp; try with_reducible rfl)
        simp only [Act.put, List.setIfInBounds_toArray, List.set_cons_zero, List.set_cons_succ]
        refine Tw.takeD (i := 5) (d := 28) (v := ?v6) rfl rfl (by kernel_rfl) (by kernel_rfl) (by kernel_rfl) (fun _ _ _ h => h) (Or.inl ⟨by rfl, ?hw6⟩) hS3 ?q6
        case hw6 => (intro w hSw; obtain ⟨s0, s1, s2⟩ := hSw; go_simp; try with_reducible rfl)
        simp only [Act.put, List.setIfInBounds_toArray, List.set_cons_zero, List.set_cons_succ]
        refine Tw.takeD (i := 6) (d := 29) (v := ?v7) rfl rfl (by kernel_rfl) (by kernel_rfl) (by kernel_rfl) (fun _ _ _ h => h) (Or.inl ⟨by rfl, ?hw7⟩) hS3 ?q7
        case hw7 => (intro w hSw; obtain ⟨s0, s1, s2⟩ := hSw; go_simp; try with_reducible rfl)
        simp only [Act.put, List.setIfInBounds_toArray, List.set_cons_zero, List.set_cons_succ]
        refine Tw.takeD (i := 7) (d := 30) (v := ?v8) rfl rfl (by kernel_rfl) (by kernel_rfl) (by kernel_rfl) (fun _ _ _ h => h) (Or.inl ⟨by rfl, ?hw8⟩) hS3 ?q8
        case hw8 => (intro w hSw; obtain ⟨s0, s1, s2⟩ := hSw; go_simp; try with_reducible rfl)
        simp only [Act.put, List.setIfInBounds_toArray, List.set_cons_zero, List.set_cons_succ]
        refine wpAnyH_ready (rs := [8]) (by kernel_rfl) (by simp) (AllReadyH.cons rfl (fun K hK => ?_) AllReadyH.nil)
        rw [if_pos (by rfl)]
        go_simp
        refine (readD_any (T.zone k) (T.off k) H3.out.dev).mono ?_
        rintro e w3 ⟨rfl, hw3⟩
        rw [hw3]
        clear hw3 w3
        simp only []
        refine hK.out _ _ hS3 (fun _ => ?_)
        clear hK K
        (try simp only [Act.put, List.setIfInBounds_toArray, List.set_cons_zero, List.set_cons_succ])
        refine Tw.takeD (i := 9) (d := 22) (v := ?v11) rfl rfl (by kernel_rfl) (by kernel_rfl) (by kernel_rfl) (fun _ _ _ h => h) (Or.inl ⟨by rfl, ?hw11⟩) hS3 ?q11
        case hw11 => (intro w hSw; obtain ⟨s0, s1, s2⟩ := hSw; go_simp; try with_reducible rfl)
        simp only [Act.put, List.setIfInBounds_toArray, List.set_cons_zero, List.set_cons_succ]
        refine Tw.takeD (i := 10) (d := 32) (v := ?v12) rfl rfl (by kernel_rfl) (by kernel_rfl) (by kernel_rfl) (fun _ _ _ h => h) (Or.inl ⟨by rfl, ?hw12⟩) hS3 ?q12
        case hw12 => (intro w hSw; obtain ⟨s0, s1, s2⟩ := hSw; go_simp; try with_reducible rfl)
        simp only [Act.put, List.setIfInBounds_toArray, List.set_cons_zero, List.set_cons_succ]
        refine Tw.takeD (i := 11) (d := 33) (v := ?v13) rfl rfl (by kernel_rfl) (by kernel_rfl) (by kernel_rfl) (fun _ _ _ h => h) (Or.inl ⟨by rfl, ?hw13⟩) hS3 ?q13
        case hw13 => (intro w hSw; obtain ⟨s0, s1, s2⟩ := hSw; go_simp; try with_reducible rfl)
        simp only [Act.put, List.setIfInBounds_toArray, List.set_cons_zero, List.set_cons_succ]
        refine Tw.takeD (i := 12) (d := 9) (v := ?v14) rfl rfl (by kernel_rfl) (by kernel_rfl) (by kernel_rfl) (fun _ _ _ h => h) (Or.inl ⟨by rfl, ?hw14⟩) hS3 ?q14
        case hw14 => (intro w hSw; obtain ⟨s0, s1, s2⟩ := hSw; go_simp; try with_reducible rfl)
        simp only [Act.put, List.setIfInBounds_toArray, List.set_cons_zero, List.set_cons_succ]
        refine Tw.takeD (i := 13) (d := 10) (v := ?v15) rfl rfl (by kernel_rfl) (by kernel_rfl) (by kernel_rfl) (fun _ _ _ h => h) (Or.inl ⟨by rfl, ?hw15⟩) hS3 ?q15
        case hw15 => (intro w hSw; obtain ⟨s0, s1, s2⟩ := hSw; go_simp; try with_reducible rfl)
        simp only [Act.put, List.setIfInBounds_toArray, List.set_cons_zero, List.set_cons_succ]
        refine wpAnyH_done (by kernel_rfl) ?_ _
        clear hS3 g1 g2 hix HC2
        have HS3 : Hid (Since w w2.drew) := HS.out.trans HS2.out
        have HR3 : Hid (Cel w2.drew (w.heap.size + 1) 24 (xcell (fun _ => ⟨#[]⟩))) := HR.out.since HS2.out
        have HX3 : Hid (Cel w2.drew (w.heap.size + 1 + 1) 24 (xcell (saysTo kb S.D T k))) := HX.out.since HS2.out
        clear HS HR HX HS2
        generalize w2.drew = w3 at *
        by_cases hz : 0 ≤ T.zone k ∧ T.zone k < 8 ∧ 0 ≤ T.off k ∧ T.off k < S.D.cnt (T.zone k).toNat
        · have e1 : rdB S.D (T.zone k) (T.off k) = (blkOf S.D (T.zone k) (T.off k), 0) := by
            unfold rdB
            rw [if_neg (fun q => q ⟨hz.1, hz.2.1⟩), if_neg (fun q => q ⟨hz.2.2.1, hz.2.2.2⟩)]
          rw [e1, ev0]
          have HZ : Hid (0 ≤ T.zone k ∧ T.zone k < 8 ∧ 0 ≤ T.off k ∧ T.off k < S.D.cnt (T.zone k).toNat) := hz
          have HBS : Hid ((blkOf S.D (T.zone k) (T.off k)).size = 128) := txt_size _ _
          have HTHK : Hid (there kb S.D T k ↔ ((blkOf S.D (T.zone k) (T.off k)).extract 0 16 = Sl.tagOf kb k (blkOf S.D (T.zone k) (T.off k)) ∧ (blkOf S.D (T.zone k) (T.off k)).extract 0 16 = T.tag k)) := by
            constructor
            · rintro (q | q)
              · exact absurd q HTE.out
              · exact q.2
            · exact fun q => Or.inr ⟨HZ.out, q⟩
          have HSX : Hid (∀ j, updv (xcell (saysTo kb S.D T k)) k (.string (Sl.textOf kb (blkOf S.D (T.zone k) (T.off k)))) j = xcell (saysTo kb S.D T (k + 1)) j) := fun j => says_set kb S.D T k _ (by rw [if_neg HTE.out]) j
          clear hz e1
          have q2 := H3.out.c2
          have qt : w3.cell? ⟨wr.heap.size, 2, none⟩ = some (.string (T.tag k)) := HC3.out.cell 2 (by omega)
          generalize hbb : blkOf S.D (T.zone k) (T.off k) = bb at *
          clear hbb
          by_cases hg : bb.extract 0 16 = Sl.tagOf kb k bb
          · go_wp2_with fail
            refine (Sl.open_ok kb k bb _ HB.out.kb (by have := HBS.out; omega) (by have := HBS.out; omega) hg (H3.out.tabW HB.out)).mono ?_
            rintro e w4 ⟨rfl, h4⟩
            have HS4 : Hid (Since w w4) := HS3.out.trans h4
            have HR4 : Hid (Cel w4 (w.heap.size + 1) 24 (xcell (fun _ => ⟨#[]⟩))) := HR3.out.since h4
            have HX4 : Hid (Cel w4 (w.heap.size + 1 + 1) 24 (xcell (saysTo kb S.D T k))) := HX3.out.since h4
            have qt4 : w4.cell? ⟨wr.heap.size, 2, none⟩ = some (.string (T.tag k)) := (HC3.out.since h4).cell 2 (by omega)
            have HG : Hid (bb.extract 0 16 = Sl.tagOf kb k bb) := hg
            clear h4 hg qt q2 HS3 HR3 HX3 HC3 H3
            by_cases htg : bb.extract 0 16 = T.tag k
            · have HTK : Hid (there kb S.D T k) := HTHK.out.2 ⟨HG.out, htg⟩
              rw [htg]
              clear htg HTHK HG
              generalize Sl.textOf kb bb = tx at *
              have qx := HX4.out.cell k hlt
              have qf := HX4.out.frozen k hlt
              go_wp2_with fail
              go_roundw
              case rel =>
                refine ⟨k + 1, by omega, by go_num, fun i hi => ?_, HR4.out.other (by show w.heap.size + 1 + 1 ≠ w.heap.size + 1; omega) _, (HX4.out.set k hlt _).congr (fun j _ => HSX.out j), HS4.out.setCell (by show w.heap.size ≤ w.heap.size + 1 + 1; omega) _⟩
                by_cases e : i = k
                · subst e; exact HTK.out
                · exact HTH.out i (by omega)
              case measure => simp [intOf]; omega
            · have hnl := Tw.neq_list htg
              have HNT : Hid (¬ ∀ i, i < 24 → there kb S.D T i) := fun q => htg (HTHK.out.1 (q k hlt)).2
              clear htg HTHK HG
              generalize Sl.textOf kb bb = tx at *
              generalize bb.extract 0 16 = tg at *
              have hC6 := z_stored HR4.out
              have hth := z_there HR4.out
              have HR6 : Hid ((w4.setCells (w.heap.size + 1) 0 z24.toList).rangeAt (w.heap.size + 1) 0 (brow 24 (xcell (fun _ => ⟨#[]⟩)))) := x_all hC6
              have HS6 : Hid (Since w (w4.setCells (w.heap.size + 1) 0 z24.toList)) := HS4.out.setCells (by omega) _ _
              clear hC6
              go_wp2_with (refine wpList_store_mid (by rfl) 73 _ _ (by rfl) (w.heap.size + 1) 0 z24 (by rfl) (by rfl) hth (by kernel_rfl) (by kernel_rfl) ?_)
              exact bodyPost_ret (Tw.results_row2 Tryz.results255 _ _ _ (w.heap.size + 1) _ _ _ (by rfl) HR6.out Tryz.underlying73 (by rfl) (by rw [ln24]; kernel_rfl) rfl) rfl ⟨Or.inr ⟨HNT.out, rfl⟩, HS6.out⟩
          · have HNT : Hid (¬ ∀ i, i < 24 → there kb S.D T i) := fun q => hg (HTHK.out.1 (q k hlt)).1
            go_wp2_with fail
            refine (Sl.open_bad kb k bb _ HB.out.kb (by have := HBS.out; omega) (by have := HBS.out; omega) hg (H3.out.tabW HB.out)).mono ?_
            rintro e w4 ⟨rfl, h4⟩
            have HS4 : Hid (Since w w4) := HS3.out.trans h4
            have HR4 : Hid (Cel w4 (w.heap.size + 1) 24 (xcell (fun _ => ⟨#[]⟩))) := HR3.out.since h4
            clear h4 hg qt q2 HS3 HR3 HX3 HC3 H3 HTHK HSX
            have hC6 := z_stored HR4.out
            have hth := z_there HR4.out
            have HR6 : Hid ((w4.setCells (w.heap.size + 1) 0 z24.toList).rangeAt (w.heap.size + 1) 0 (brow 24 (xcell (fun _ => ⟨#[]⟩)))) := x_all hC6
            have HS6 : Hid (Since w (w4.setCells (w.heap.size + 1) 0 z24.toList)) := HS4.out.setCells (by omega) _ _
            clear hC6
            go_wp2_with (refine wpList_store_mid (by rfl) 73 _ _ (by rfl) (w.heap.size + 1) 0 z24 (by rfl) (by rfl) hth (by kernel_rfl) (by kernel_rfl) ?_)
            exact bodyPost_ret (Tw.results_row2 Tryz.results255 _ _ _ (w.heap.size + 1) _ _ _ (by rfl) HR6.out Tryz.underlying73 (by rfl) (by rw [ln24]; kernel_rfl) rfl) rfl ⟨Or.inr ⟨HNT.out, rfl⟩, HS6.out⟩
        · obtain ⟨er, he1, he2⟩ : ∃ er : Int, rdB S.D (T.zone k) (T.off k) = (⟨#[]⟩, er) ∧ er ≠ 0 := by
            unfold rdB
            by_cases h8 : 0 ≤ T.zone k ∧ T.zone k < 8
            · rw [if_neg (fun q => q h8)]
              rw [if_pos (fun q => hz ⟨h8.1, h8.2, q.1, q.2⟩)]
              exact ⟨7, rfl, by decide⟩
            · rw [if_pos h8]
              exact ⟨2, rfl, by decide⟩
          rw [he1, evn _ he2]
          have HNT : Hid (¬ ∀ i, i < 24 → there kb S.D T i) := fun q => by
            rcases q k hlt with h6 | h6
            · exact HTE.out h6
            · exact hz h6.1
          clear he1 he2 hz
          have hC6 := z_stored HR3.out
          have hth := z_there HR3.out
          have HR6 : Hid ((w3.setCells (w.heap.size + 1) 0 z24.toList).rangeAt (w.heap.size + 1) 0 (brow 24 (xcell (fun _ => ⟨#[]⟩)))) := x_all hC6
          have HS6 : Hid (Since w (w3.setCells (w.heap.size + 1) 0 z24.toList)) := HS3.out.setCells (by omega) _ _
          clear hC6
          go_wp2_with (refine wpList_store_mid (by rfl) 73 _ _ (by rfl) (w.heap.size + 1) 0 z24 (by rfl) (by rfl) hth (by kernel_rfl) (by kernel_rfl) ?_)
          exact bodyPost_ret (Tw.results_row2 Tryz.results255 _ _ _ (w.heap.size + 1) _ _ _ (by rfl) HR6.out Tryz.underlying73 (by rfl) (by rw [ln24]; kernel_rfl) rfl) rfl ⟨Or.inr ⟨HNT.out, rfl⟩, HS6.out⟩
    · have hke : k = 24 := by omega
      subst hke
      have hR := x_all HX.out
      have hL := ln24 (saysTo kb S.D T 24)
      obtain ⟨hst, hC6⟩ := x_stored HR.out (saysTo kb S.D T 24)
      have HR6 : Hid ((wr.setCells (w.heap.size + 1) 0 (brow 24 (xcell (saysTo kb S.D T 24)))).rangeAt (w.heap.size + 1) 0 (brow 24 (xcell (saysTo kb S.D T 24)))) := x_all hC6
      have HS6 : Hid (Since w (wr.setCells (w.heap.size + 1) 0 (brow 24 (xcell (saysTo kb S.D T 24))))) := HS.out.setCells (by omega) _ _
      clear hC6
      have HV : Hid (xval (saysTo kb S.D T 24) = .agg (brow 24 (xcell (saysTo kb S.D T 24))).toArray) := show xval (saysTo kb S.D T 24) = _ from rfl
      generalize brow 24 (xcell (saysTo kb S.D T 24)) = cs4 at *
      go_wp2_with (refine wpList_load_mid (by rfl) 73 _ (by rfl) (w.heap.size + 1 + 1) 0 (by rfl) _ _ hR Tryz.underlying73 (by rfl) (by rw [hL]; kernel_rfl) ?_)
      exact bodyPost_ret (Tw.results_row2 Tryz.results255 _ _ _ (w.heap.size + 1) _ _ _ (by rfl) HR6.out Tryz.underlying73 (by rfl) (by rw [hL]; kernel_rfl) rfl) rfl ⟨Or.inl ⟨HTH.out, by rw [HV.out]; rfl⟩, HS6.out⟩
end
end Vl
end Go.Proofs.YtlgocfgnfdnloaaGreatDoor
end
