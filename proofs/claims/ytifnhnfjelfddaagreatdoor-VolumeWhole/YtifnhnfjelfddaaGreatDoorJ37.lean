import Derived.Test.YtifnhnfjelfddaaGreatDoorJ30
import Derived.Test.YtifnhnfjelfddaaGreatDoorJ36
set_option linter.unusedSimpArgs false
set_option linter.unusedVariables false
namespace Go.Proofs.YtifnhnfjelfddaaGreatDoor
set_option maxRecDepth 100000
namespace Vl
open Go.RowKit
open Tw (Tb tcell tval ccell)
theorem own_cells {w : World} {base n : Nat} {v : Value} {l : List Nat} (h : w.ownsRow base 3 1 v n (Sp.vals l)) (hn : n = l.length) :
    ∃ a c, v = .slice a n c ∧ (0 < n → ∃ k, a = some ⟨k, 0, none⟩ ∧ base ≤ k ∧ k < w.heap.size ∧ ∀ j (hj : j < l.length), w.cell? ⟨k, j, none⟩ = some (.int .i64 (l[j] : Int))) := by
  rcases h.2 with ⟨rfl, rfl⟩ | ⟨g, cap, cur, rfl, hg, hh, h1, h2, h3, h4⟩
  · exact ⟨_, _, rfl, fun h => by omega⟩
  · refine ⟨_, _, rfl, fun _ => ⟨g, rfl, hg, (Array.getElem?_eq_some_iff.1 hh).1, fun j hj => ?_⟩⟩
    have e : (Sp.vals l)[j]? = some (.int .i64 (l[j] : Int)) := by unfold Sp.vals; rw [List.getElem?_map, List.getElem?_eq_getElem hj]; rfl
    rw [← h4, List.getElem?_take_of_lt (by omega), Array.getElem?_toList] at e
    simp [World.cell?, hh, e]
section
variable {w0 w : World} {vb db cb : Nat} {kb kt : ByteArray} {S : Vs} {v : Value}
theorem Vto.cont2 {S1 : Vs} {w1 : World} {b : Nat} (h : Vto w0 w w1 vb db cb kb kt S1 v) (hb : ¬ VP vb db cb v b) (hlt : b < w.heap.size) :
    ∃ v1, Vol w0 w1 vb db cb kb kt S1 v1 ∧ (∀ w' S', Vto w0 w1 w' vb db cb kb kt S' v1 → Vto w0 w w' vb db cb kb kt S' v) ∧ (∀ o, w1.cell? ⟨b, o, none⟩ = w.cell? ⟨b, o, none⟩) ∧ ¬ VP vb db cb v1 b ∧ w.heap.size ≤ w1.heap.size := by
  obtain ⟨v1, h1, f1, n1⟩ := h
  refine ⟨v1, h1, fun w' S' ⟨v2, h2, f2, n2⟩ => ⟨v2, h2, f1.trans' f2 (VP.nx n1), n1.trans n2 f1.size⟩, fun o => f1.cell (p := ⟨b, o, none⟩) hlt hb, fun e => ?_, f1.size⟩
  rcases VP.nx n1 b e with h2 | h2
  · exact hb h2
  · omega
theorem Vol.notGe (h : Vol w0 w vb db cb kb kt S v) {b : Nat} (hb : w.heap.size ≤ b) : ¬ VP vb db cb v b := by
  rintro (e | e | e | e)
  · have := h.cel.lt (by omega); omega
  · have := h.dev.lt; omega
  · have := h.ctr.lt (by omega); omega
  · have := h.dev.glt _ e; omega
def RL (w0 w wr : World) (vb db cb : Nat) (kb kt : ByteArray) (S : Vs) (v : Value) (n : Int) (z : Nat) (L : List Nat) (a : Option Addr) (k : Nat) : Prop :=
  ∃ Sk vk, Vol w0 wr vb db cb kb kt Sk vk ∧ Sk.ok n ∧ Sk.moves kb z (L.drop k) = S.moves kb z L ∧ (∀ w' S', Vto w0 wr w' vb db cb kb kt S' vk → Vto w0 w w' vb db cb kb kt S' v) ∧
    (0 < L.length → ∃ g, a = some ⟨g, 0, none⟩ ∧ ¬ VP vb db cb vk g ∧ g < wr.heap.size ∧ ∀ j (hj : j < L.length), wr.cell? ⟨g, j, none⟩ = some (.int .i64 (L[j] : Int)))
theorem reclaim_some {z : Nat} (hd : S.dead = false) (hv : vicTo S.atf S.live 8 = some z) : S.reclaim kb kt = if (S.moves kb z (Sp.inI S.T (z : Int) 24)).1 ≠ 0 then ((0, false, (S.moves kb z (Sp.inI S.T (z : Int) 24)).1), (S.moves kb z (Sp.inI S.T (z : Int) 24)).2) else
    if ((S.moves kb z (Sp.inI S.T (z : Int) 24)).2.flush kt).1 ≠ 0 then ((0, false, ((S.moves kb z (Sp.inI S.T (z : Int) 24)).2.flush kt).1), ((S.moves kb z (Sp.inI S.T (z : Int) 24)).2.flush kt).2) else
      if ((S.moves kb z (Sp.inI S.T (z : Int) 24)).2.flush kt).2.D.may = false then ((0, false, 14), { ((S.moves kb z (Sp.inI S.T (z : Int) 24)).2.flush kt).2 with dead := true }) else
        ((((Sp.inI S.T (z : Int) 24).length : Int), true, 0), { ((S.moves kb z (Sp.inI S.T (z : Int) 24)).2.flush kt).2 with D := ((S.moves kb z (Sp.inI S.T (z : Int) 24)).2.flush kt).2.D.burnt.reset z }) := by
  unfold Vs.reclaim
  rw [hd, hv]
  rfl
theorem reclaim_dead (h : Vol w0 w vb db cb kb kt S v) (hd : S.dead = true) :
    Calls Tryz.prog 25 #[.pointer (some ⟨vb, 0, none⟩)] w fun e w' => e = .returned (.tuple #[.int .i64 0, .bool false, ev 6]) ∧ w' = w := by
  have H : Hid (Vol w0 w vb db cb kb kt S v) := h
  have HD : Hid (S.dead = true) := hd
  clear h hd
  go_enter Tryz.func25, Tryz.ntmps25
  go_wp2_with fail
  refine (orZero_any _ _).mono ?_
  rintro e wx ⟨rfl, hw⟩
  rw [hw]
  clear hw wx
  go_wp2_with fail
  refine (works_any H.out).mono ?_
  rintro e wx ⟨rfl, hw⟩
  rw [hw]
  clear hw wx
  rw [HD.out]
  go_wp2_with fail
  go_ret3
  exact ⟨by rw [evn 6 (by decide)]; rfl, rfl⟩
set_option maxHeartbeats 8000000 in
theorem reclaim_any (B : Base w0 kb kt) (n : Int) (ho : S.ok n) (hn : n < 1000000000) (h : Vol w0 w vb db cb kb kt S v) :
    Calls Tryz.prog 25 #[.pointer (some ⟨vb, 0, none⟩)] w fun e w' => e = .returned (.tuple #[.int .i64 (S.reclaim kb kt).1.1, .bool (S.reclaim kb kt).1.2.1, ev (S.reclaim kb kt).1.2.2]) ∧ Vto w0 w w' vb db cb kb kt (S.reclaim kb kt).2 v := by
  cases hd : S.dead with
  | true =>
    have e1 : S.reclaim kb kt = ((0, false, 6), S) := by unfold Vs.reclaim; rw [hd]; rfl
    rw [e1]
    refine (reclaim_dead h hd).mono ?_
    rintro e w' ⟨rfl, rfl⟩
    exact ⟨rfl, h.self⟩
  | false =>
    have HB : Hid (Base w0 kb kt) := B
    have HO : Hid (S.ok n ∧ n < 1000000000) := ⟨ho, hn⟩
    have H : Hid (Vol w0 w vb db cb kb kt S v) := h
    have HD : Hid (S.dead = false) := hd
    clear h hd B ho hn
    go_enter Tryz.func25, Tryz.ntmps25
    go_wp2_with fail
    refine (orZero_any _ _).mono ?_
    rintro e wx ⟨rfl, hw⟩
    rw [hw]
    clear hw wx
    go_wp2_with fail
    refine (works_any H.out).mono ?_
    rintro e wx ⟨rfl, hw⟩
    rw [hw]
    clear hw wx
    rw [HD.out]
    go_wp2_with fail
    have H1 : Hid (Vol w0 w.drew vb db cb kb kt S v) := H.out.go (Since.refl _).drew
    have HS1 : Hid (Since w w.drew) := (Since.refl _).drew
    have hL := Tw.ln73 S.T
    have HLV : Hid (∀ W, Calls Tryz.prog 55 #[.agg (brow 73 (tcell S.T)).toArray] W fun e w' => ∃ x, e = .returned x ∧ Sp.Ls w' w'.heap.size x 8 S.live ∧ Since W w') := fun W => (Sp.live_any S.T W).mono fun e w' ⟨x, h1, ⟨b, h2, h3⟩, h4⟩ => ⟨x, h1, ⟨_, _, h2, by omega, fun _ => ⟨b, 0, rfl, h3.lt (by omega), fun j hj => by rw [Nat.zero_add]; exact h3.cell j hj⟩⟩, h4⟩
    have HIN : Hid (∀ (z : Int) W, Calls Tryz.prog 56 #[.agg (brow 73 (tcell S.T)).toArray, .int .i64 z] W fun e w' => ∃ x, e = .returned x ∧ w'.ownsRow W.heap.size 3 1 x (Sp.inI S.T z 24).length (Sp.vals (Sp.inI S.T z 24)) ∧ Since W w') := fun z W => Sp.in_any S.T z W
    have HR1 : Hid (w.drew.rangeAt vb 4 (brow 73 (tcell S.T))) := H1.out.tab
    generalize hcs : brow 73 (tcell S.T) = cs at *
    have HCS : Hid (brow 73 (tcell S.T) = cs) := hcs
    clear hcs
    have hS1 : (fun W : World => W.rangeAt vb 4 cs) w.drew := HR1.out
    refine wp_region_held (S := fun W : World => W.rangeAt vb 4 cs) (by kernel_rfl) ?_
    refine Tw.takeD (i := 0) (d := 20) (v := ?v1) rfl rfl (by kernel_rfl) (by kernel_rfl) (by kernel_rfl) (fun _ _ _ h => h) (Or.inl ⟨by rfl, ?hw1⟩) hS1 ?q1
    case hw1 => (intro w hSw; have s0 := hSw; go_simp; try with_reducible rfl)
    simp only [Act.put, List.setIfInBounds_toArray, List.set_cons_zero, List.set_cons_succ]
    refine Tw.takeD (i := 2) (d := 22) (v := ?v2) rfl rfl (by kernel_rfl) (by kernel_rfl) (by kernel_rfl) (fun _ _ _ h => h) (Or.inl ⟨by rfl, ?hw2⟩) hS1 ?q2
    case hw2 => (intro w hSw; have s0 := hSw; go_simp; try with_reducible rfl)
    simp only [Act.put, List.setIfInBounds_toArray, List.set_cons_zero, List.set_cons_succ]
    refine Tw.takeD (i := 3) (d := 23) (v := ?v3) rfl rfl (by kernel_rfl) (by kernel_rfl) (by kernel_rfl) (fun _ _ _ h => h) (Or.inl ⟨by rfl, ?hw3⟩) hS1 ?q3
    case hw3 => (intro w hSw; have s0 := hSw; go_simp; try with_reducible rfl)
    simp only [Act.put, List.setIfInBounds_toArray, List.set_cons_zero, List.set_cons_succ]
    refine Tw.takeD (i := 4) (d := 24) (v := ?v4) rfl rfl (by kernel_rfl) (by kernel_rfl) (by kernel_rfl) (fun _ _ _ h => h) (Or.inl ⟨by rfl, ?hw4⟩) hS1 ?q4
    case hw4 => (intro w hSw; have s0 := hSw; go_simp; try with_reducible rfl)
    simp only [Act.put, List.setIfInBounds_toArray, List.set_cons_zero, List.set_cons_succ]
    refine Tw.takeD (i := 5) (d := 25) (v := .agg cs.toArray) rfl rfl (by kernel_rfl) (by kernel_rfl) (by kernel_rfl) (fun _ _ _ h => h) (yieldsIf_load_mid (by rfl) 92 _ (by rfl) vb 4 (by rfl) _ _ (fun w hSw => hSw) Tryz.underlying92 (by rfl) (by rw [hL]; kernel_rfl)) hS1 ?q5
    simp only [Act.put, List.setIfInBounds_toArray, List.set_cons_zero, List.set_cons_succ]
    refine wpAnyH_ready (rs := [1]) (by kernel_rfl) (by simp) (AllReadyH.cons rfl (fun K hK => ?_) AllReadyH.nil)
    rw [if_pos (by rfl)]
    go_simp
    refine (at_any H1.out).mono ?_
    rintro e w2 ⟨⟨x, rfl, hx⟩, h2⟩
    simp only []
    have H2 : Hid (Vol w0 w2 vb db cb kb kt S v) := H1.out.go h2
    have HS2 : Hid (Since w w2) := HS1.out.trans h2
    have HX2 : Hid (Sp.Ls w2 w2.heap.size x 8 S.atf) := hx
    have hS2 : (fun W : World => W.rangeAt vb 4 cs) w2 := rangeSince HR1.out h2
    clear h2 hx
    refine hK.out _ _ hS2 (fun _ => ?_)
    clear hK K
    (try simp only [Act.put, List.setIfInBounds_toArray, List.set_cons_zero, List.set_cons_succ])
    refine wpAnyH_ready (rs := [6]) (by kernel_rfl) (by simp) (AllReadyH.cons rfl (fun K hK => ?_) AllReadyH.nil)
    rw [if_pos (by rfl)]
    go_simp
    refine (HLV.out _).mono ?_
    rintro e w3 ⟨y, rfl, hy, h3⟩
    simp only []
    have H3 : Hid (Vol w0 w3 vb db cb kb kt S v) := H2.out.go h3
    have HS3 : Hid (Since w w3) := HS2.out.trans h3
    have HX3 : Hid (Sp.Ls w3 w2.heap.size x 8 S.atf ∧ w2.heap.size ≤ w3.heap.size) := ⟨HX2.out.since h3, h3.size⟩
    have HY3 : Hid (Sp.Ls w3 w3.heap.size y 8 S.live) := hy
    have hS3 : (fun W : World => W.rangeAt vb 4 cs) w3 := rangeSince hS2 h3
    clear h3 hy
    refine hK.out _ _ hS3 (fun _ => ?_)
    clear hK K
    (try simp only [Act.put, List.setIfInBounds_toArray, List.set_cons_zero, List.set_cons_succ])
    refine wpAnyH_ready (rs := [7]) (by kernel_rfl) (by simp) (AllReadyH.cons rfl (fun K hK => ?_) AllReadyH.nil)
    rw [if_pos (by rfl)]
    go_simp
    refine (Sp.victim_any x y 8 8 w3.heap.size S.atf S.live _ (by
      obtain ⟨a, c, hv, hc, h⟩ := HX3.out.1
      exact ⟨a, c, hv, hc, fun hn => by
        obtain ⟨k, o, ha, hk, hcc⟩ := h hn
        exact ⟨k, o, ha, Nat.lt_of_lt_of_le hk HX3.out.2, hcc⟩⟩) HY3.out (by omega) (by omega)).mono ?_
    rintro e w4 ⟨⟨z, ok, rfl, hz⟩, h4⟩
    simp only []
    have H4 : Hid (Vol w0 w4 vb db cb kb kt S v) := H3.out.go h4
    have HS4 : Hid (Since w w4) := HS3.out.trans h4
    have hS4 : (fun W : World => W.rangeAt vb 4 cs) w4 := rangeSince hS3 h4
    have HZ : Hid _ := vic_of hz
    clear h4 hz
    refine hK.out _ _ hS4 (fun _ => ?_)
    clear hK K
    (try simp only [Act.put, List.setIfInBounds_toArray, List.set_cons_zero, List.set_cons_succ])
    refine Tw.takeD (i := 8) (d := 19) (v := ?v12) rfl rfl (by kernel_rfl) (by kernel_rfl) (by kernel_rfl) (fun _ _ _ h => h) (Or.inl ⟨by rfl, ?hw12⟩) hS4 ?q12
    case hw12 => (intro w hSw; have s0 := hSw; go_simp; try with_reducible rfl)
    simp only [Act.put, List.setIfInBounds_toArray, List.set_cons_zero, List.set_cons_succ]
    refine Tw.takeD (i := 9) (d := 28) (v := ?v13) rfl rfl (by kernel_rfl) (by kernel_rfl) (by kernel_rfl) (fun _ _ _ h => h) (Or.inl ⟨by rfl, ?hw13⟩) hS4 ?q13
    case hw13 => (intro w hSw; have s0 := hSw; go_simp; try with_reducible rfl)
    simp only [Act.put, List.setIfInBounds_toArray, List.set_cons_zero, List.set_cons_succ]
    refine Tw.takeD (i := 10) (d := 29) (v := ?v14) rfl rfl (by kernel_rfl) (by kernel_rfl) (by kernel_rfl) (fun _ _ _ h => h) (Or.inl ⟨by rfl, ?hw14⟩) hS4 ?q14
    case hw14 => (intro w hSw; have s0 := hSw; go_simp; try with_reducible rfl)
    simp only [Act.put, List.setIfInBounds_toArray, List.set_cons_zero, List.set_cons_succ]
    refine Tw.takeD (i := 11) (d := 5) (v := ?v15) rfl rfl (by kernel_rfl) (by kernel_rfl) (by kernel_rfl) (fun _ _ _ h => h) (Or.inl ⟨by rfl, ?hw15⟩) hS4 ?q15
    case hw15 => (intro w hSw; have s0 := hSw; go_simp; try with_reducible rfl)
    simp only [Act.put, List.setIfInBounds_toArray, List.set_cons_zero, List.set_cons_succ]
    refine Tw.takeD (i := 12) (d := 6) (v := ?v16) rfl rfl (by kernel_rfl) (by kernel_rfl) (by kernel_rfl) (fun _ _ _ h => h) (Or.inl ⟨by rfl, ?hw16⟩) hS4 ?q16
    case hw16 => (intro w hSw; have s0 := hSw; go_simp; try with_reducible rfl)
    simp only [Act.put, List.setIfInBounds_toArray, List.set_cons_zero, List.set_cons_succ]
    refine wpAnyH_done (by kernel_rfl) ?_ _
    clear hS1 hS2 hS3 H1 H2 H3 HS1 HS2 HS3 HX2 HX3 HY3 HLV HR1
    rcases HZ.out with ⟨rfl, zz, rfl, hz8, hv⟩ | ⟨rfl, rfl, hv⟩
    · have HV : Hid (vicTo S.atf S.live 8 = some zz ∧ zz < 8) := ⟨hv, hz8⟩
      clear hv hz8 HZ
      have hR4 : w4.rangeAt vb 4 cs := hS4
      clear hS4
      go_wp2_with (refine wpList_load_mid (by rfl) 92 _ (by rfl) vb 4 (by rfl) _ _ hR4 Tryz.underlying92 (by rfl) (by rw [hL]; kernel_rfl) ?_)
      refine (HIN.out _ _).mono ?_
      rintro e w5 ⟨x5, rfl, ho5, h5⟩
      have H5 : Hid (Vol w0 w5 vb db cb kb kt S v) := H4.out.go h5
      have HS5 : Hid (Since w w5) := HS4.out.trans h5
      have HG : Hid (∀ b, w4.heap.size ≤ b → ¬ VP vb db cb v b) := fun b hb => H4.out.notGe hb
      have HP : Hid _ := reclaim_some (kb := kb) (kt := kt) HD.out HV.out.1
      have HL24 : Hid (∀ i ∈ Sp.inI S.T (zz : Int) 24, i < 24) := fun i hi => (inI_mem.1 hi).1
      have HLN : Hid ((Sp.inI S.T (zz : Int) 24).length ≤ 24) := Sp.inI_len _ _ _
      generalize Sp.inI S.T (zz : Int) 24 = L at *
      obtain ⟨a5, c5, rfl, hc5⟩ := own_cells ho5 rfl
      have HRL : Hid (RL w0 w w5 vb db cb kb kt S v n zz L a5 0) := ⟨S, v, H5.out, HO.out.1, rfl, fun w' S' h => Vto.pre HS5.out h, fun h0 => by
        obtain ⟨g, hg1, hg2, hg3, hg4⟩ := hc5 h0
        exact ⟨g, hg1, HG.out g hg2, hg3, hg4⟩⟩
      clear hc5 ho5 h5 hR4 H4 HS4 HG H5 HS5 HIN HCS hL
      go_wp2_with fail
      go_loopw [40, 9, 10] (fun i _ _ wr => ∃ k : Nat, k ≤ L.length ∧ i = .int .i64 (k : Int) ∧ RL w0 w wr vb db cb kb kt S v n zz L a5 k) (fun i _ _ _ => L.length - (intOf i).toNat)
      case atStart => exact ⟨0, by omega, rfl, HRL.out⟩
      case round =>
        clear HRL
        obtain ⟨k, hk, rfl, Sk, vk, hvol, hok, hmv, hto, hrow⟩ := hrel
        have HVK : Hid (Vol w0 wr vb db cb kb kt Sk vk) := hvol
        have HOK : Hid (Sk.ok n) := hok
        have HMV : Hid (Sk.moves kb zz (L.drop k) = S.moves kb zz L) := hmv
        have HTO : Hid (∀ w' S', Vto w0 wr w' vb db cb kb kt S' vk → Vto w0 w w' vb db cb kb kt S' v) := hto
        have HRW : Hid (0 < L.length → ∃ g, a5 = some ⟨g, 0, none⟩ ∧ ¬ VP vb db cb vk g ∧ g < wr.heap.size ∧ ∀ j (hj : j < L.length), wr.cell? ⟨g, j, none⟩ = some (.int .i64 (L[j] : Int))) := hrow
        clear hvol hok hmv hto hrow
        by_cases hlt : k < L.length
        · have hlt2 : (k : Int) < L.length := by omega
          have hk24 : (k : Int) < 24 := by have := HLN.out; omega
          obtain ⟨g, rfl, hg2, hg3, hg4⟩ := HRW.out (by omega)
          have HGG : Hid (¬ VP vb db cb vk g ∧ g < wr.heap.size ∧ ∀ j (hj : j < L.length), wr.cell? ⟨g, j, none⟩ = some (.int .i64 (L[j] : Int))) := ⟨hg2, hg3, hg4⟩
          have q1 := hg4 k hlt
          clear hg2 hg3 hg4 HRW
          have hi24 : L[k] < 24 := HL24.out _ (List.getElem_mem _)
          have HDR : Hid (L.drop k = L[k] :: L.drop (k + 1)) := List.drop_eq_getElem_cons hlt
          generalize L[k] = ii at *
          have hi2 : (ii : Int) < 24 := by omega
          have q2 := HVK.out.cx ii hi24
          go_wp2_with fail
          refine (put_any HB.out ii (Sk.X ii) zz hi24 (HOK.out.txt ii) HVK.out).mono ?_
          rintro e w6 ⟨rfl, h6⟩
          have HOK6 : Hid ((Sk.put kb ii zz (Sk.X ii)).2.ok n) := HOK.out.put kb ii hi24 zz (Sk.X ii) (HOK.out.txt ii)
          have HM6 : Hid (S.moves kb zz L = if (Sk.put kb ii zz (Sk.X ii)).1 = 0 then (Sk.put kb ii zz (Sk.X ii)).2.moves kb zz (L.drop (k + 1)) else Sk.put kb ii zz (Sk.X ii)) := by
            show S.moves kb zz L = _
            rw [← HMV.out, HDR.out, moves_cons]
          obtain ⟨v6, h6v, F6, x6, y6, z6⟩ := h6.cont2 HGG.out.1 HGG.out.2.1
          have H6 : Hid (Vol w0 w6 vb db cb kb kt (Sk.put kb ii zz (Sk.X ii)).2 v6) := h6v
          have HT6 : Hid (∀ w' S', Vto w0 w6 w' vb db cb kb kt S' v6 → Vto w0 w w' vb db cb kb kt S' v) := fun w' S' h => HTO.out _ _ (F6 w' S' h)
          have HG6 : Hid (¬ VP vb db cb v6 g ∧ g < w6.heap.size ∧ ∀ j (hj : j < L.length), w6.cell? ⟨g, j, none⟩ = some (.int .i64 (L[j] : Int))) := ⟨y6, Nat.lt_of_lt_of_le HGG.out.2.1 z6, fun j hj => (x6 j).trans (HGG.out.2.2 j hj)⟩
          clear h6 h6v F6 x6 y6 z6 HGG q1 q2 HVK HTO HOK HMV HDR
          generalize Sk.put kb ii zz (Sk.X ii) = R at *
          by_cases h0 : R.1 = 0
          · rw [h0, ev0]
            have HM7 : Hid (R.2.moves kb zz (L.drop (k + 1)) = S.moves kb zz L) := by
              show R.2.moves kb zz (L.drop (k + 1)) = S.moves kb zz L
              rw [HM6.out, if_pos h0]
            clear h0 HM6
            go_wp2_with fail
            go_roundw
            case rel => exact ⟨k + 1, by omega, by go_num, R.2, v6, H6.out, HOK6.out, HM7.out, HT6.out, fun _ => ⟨g, rfl, HG6.out⟩⟩
            case measure => simp [intOf]; omega
          · rw [evn _ h0]
            have HE : Hid (S.reclaim kb kt = ((0, false, R.1), R.2) ∧ ev R.1 = .iface 45 (.int .i64 R.1)) := by
              refine ⟨?_, evn _ h0⟩
              rw [HP.out, HM6.out, if_neg h0, if_pos h0]
            clear h0 HP HM6
            go_wp2_with fail
            go_ret3
            rw [HE.out.1, HE.out.2]
            exact ⟨rfl, HT6.out _ _ H6.out.self⟩
        · have hke : k = L.length := by omega
          subst hke
          have HM7 : Hid (S.moves kb zz L = (0, Sk)) := by
            show S.moves kb zz L = (0, Sk)
            rw [← HMV.out, List.drop_length, moves_nil]
          clear HMV HRW hlt
          go_wp2_with fail
          refine (flush_any HB.out (HOK.out.next (by have := HO.out.2; omega)) HOK.out.nc HVK.out).mono ?_
          rintro e w6 ⟨rfl, h6⟩
          obtain ⟨v6, h6v, F6⟩ := h6.cont
          have H6 : Hid (Vol w0 w6 vb db cb kb kt (Sk.flush kt).2 v6) := h6v
          have HT6 : Hid (∀ w' S', Vto w0 w6 w' vb db cb kb kt S' v6 → Vto w0 w w' vb db cb kb kt S' v) := fun w' S' h => HTO.out _ _ (F6 w' S' h)
          have HP7 : Hid (S.reclaim kb kt = if (Sk.flush kt).1 ≠ 0 then ((0, false, (Sk.flush kt).1), (Sk.flush kt).2) else if (Sk.flush kt).2.D.may = false then ((0, false, 14), { (Sk.flush kt).2 with dead := true }) else (((L.length : Int), true, 0), { (Sk.flush kt).2 with D := (Sk.flush kt).2.D.burnt.reset zz })) := by
            show S.reclaim kb kt = _
            rw [HP.out, HM7.out, if_neg (fun h => h rfl)]
          clear h6 h6v F6 HTO HVK HOK HM7 HP
          generalize Sk.flush kt = R at *
          by_cases h0 : R.1 = 0
          · rw [h0, ev0]
            have HP8 : Hid (S.reclaim kb kt = if R.2.D.may = false then ((0, false, 14), { R.2 with dead := true }) else (((L.length : Int), true, 0), { R.2 with D := R.2.D.burnt.reset zz })) := by
              show S.reclaim kb kt = _
              rw [HP7.out, if_neg (by rw [h0]; decide)]
            clear h0 HP7
            have q0 := H6.out.c0
            go_wp2_with fail
            refine (resetD_any zz HV.out.2 H6.out).mono ?_
            rintro e w7 ⟨rfl, h7⟩
            obtain ⟨v7, h7v, F7⟩ := h7.cont
            have H7 : Hid (Vol w0 w7 vb db cb kb kt { R.2 with D := (rsD R.2.D zz).2 } v7) := h7v
            have HT7 : Hid (∀ w' S', Vto w0 w7 w' vb db cb kb kt S' v7 → Vto w0 w w' vb db cb kb kt S' v) := fun w' S' h => HT6.out _ _ (F7 w' S' h)
            clear h7 h7v F7 HT6 H6 q0
            go_wp2_with fail
            refine (heed_any (rsD R.2.D zz).1 H7.out).mono ?_
            rintro e w8 ⟨rfl, h8⟩
            have HT8 : Hid (Vto w0 w w8 vb db cb kb kt { R.2 with D := (rsD R.2.D zz).2, dead := R.2.dead || decide ((rsD R.2.D zz).1 = 14) } v) := HT7.out _ _ h8
            clear h8 HT7 H7
            cases hm : R.2.D.may with
            | false =>
              have e1 : rsD R.2.D zz = (14, R.2.D) := by unfold rsD; rw [if_pos hm]
              rw [e1] at HT8 ⊢
              rw [evn 14 (by decide)]
              have HE : Hid (S.reclaim kb kt = ((0, false, 14), { R.2 with dead := true })) := by
                show S.reclaim kb kt = _
                rw [HP8.out, if_pos hm]
              clear e1 hm HP8
              go_wp2_with fail
              go_ret3
              rw [HE.out, evn 14 (by decide)]
              refine ⟨rfl, ?_⟩
              have := HT8.out
              simpa using this
            | true =>
              have e1 : rsD R.2.D zz = (0, R.2.D.burnt.reset zz) := by unfold rsD; rw [if_neg (by rw [hm]; decide)]
              rw [e1] at HT8 ⊢
              rw [ev0]
              have HE : Hid (S.reclaim kb kt = (((L.length : Int), true, 0), { R.2 with D := R.2.D.burnt.reset zz })) := by
                show S.reclaim kb kt = _
                rw [HP8.out, if_neg (by rw [hm]; decide)]
              clear e1 hm HP8
              go_wp2_with fail
              go_ret3
              rw [HE.out, ev0]
              refine ⟨rfl, ?_⟩
              have := HT8.out
              simpa using this
          · rw [evn _ h0]
            have HE : Hid (S.reclaim kb kt = ((0, false, R.1), R.2) ∧ ev R.1 = .iface 45 (.int .i64 R.1)) := by
              refine ⟨?_, evn _ h0⟩
              rw [HP7.out, if_pos h0]
            clear h0 HP7
            go_wp2_with fail
            go_ret3
            rw [HE.out.1, HE.out.2]
            exact ⟨rfl, HT6.out _ _ H6.out.self⟩
    · have HV : Hid (vicTo S.atf S.live 8 = none) := hv
      clear hv HZ
      go_wp2_with fail
      go_ret3
      have HP : S.reclaim kb kt = ((0, false, 0), S) := by
        unfold Vs.reclaim
        rw [HD.out, HV.out]
        rfl
      rw [HP, ev0]
      exact ⟨rfl, H.out.to HS4.out⟩
end
end Vl
end Go.Proofs.YtifnhnfjelfddaaGreatDoor
