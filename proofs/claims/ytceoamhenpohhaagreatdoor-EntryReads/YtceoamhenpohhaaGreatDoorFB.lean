/- The reference's Right. -/
import Derived.Test.YtceoamhenpohhaaGreatDoorFA
namespace Go.Proofs.YtceoamhenpohhaaGreatDoor
set_option linter.unusedSimpArgs false
set_option linter.unusedVariables false
set_option maxRecDepth 100000
namespace En
open Go.RowKit
/-- the loop's way through files -/
theorem rrF_step {b : Option ByteArray} {L : List Int} {n k : Nat} {l : List Fi} {f : Fi} (h : l[k]? = some f) : rrF b L n (l.drop k) = (if okR b f = true ∧ f.cs.all cellB = true then rrF (some f.nm) (putAll L f.cs) (n + f.cs.length) (l.drop (k + 1)) else none) := by
  have hk := (List.getElem?_eq_some_iff.1 h).1
  have e : l.drop k = f :: l.drop (k + 1) := by
    rw [List.drop_eq_getElem_cons hk]
    congr 1
    exact (List.getElem?_eq_some_iff.1 h).2
  rw [e]; rfl
theorem Ints.at' {w : World} {a : Option Addr} {c : Nat} {l : List Int} (h : Ints w (.slice a l.length c) l) {j : Nat} {x : Int} (hj : l[j]? = some x) : ∃ k o, a = some ⟨k, o, none⟩ ∧ w.cell? ⟨k, o + j, none⟩ = some (.int .i64 x) := by
  obtain ⟨a', c', hv, hc, h⟩ := h
  injection hv with e1 e2 e3
  subst e1 e3
  have hjl := (List.getElem?_eq_some_iff.1 hj).1
  obtain ⟨k, o, ha, hk, hh⟩ := h (by omega)
  exact ⟨k, o, ha, hh j x hj⟩
def prevOf (l : List Fi) (k : Nat) : Option ByteArray := if k = 0 then none else (l[k - 1]?).map Fi.nm
theorem putAll_take (L cs : List Int) (j : Nat) (c : Int) (h : cs[j]? = some c) : putAll L (cs.take (j + 1)) = put (putAll L (cs.take j)) c := by
  rw [List.take_add_one, h]
  unfold putAll
  rw [List.foldl_append]
  rfl
theorem ies_length (v : Value) : ∀ (L : List Int) (i : Nat), (ies v L i).length = L.length
  | [], _ => rfl
  | _ :: r, i => by simp [ies, ies_length v r (i + 1)]
theorem mb_len (w : World) (r : Nat) (L : List Int) (hb : IsSet w r (.bool true) L) : (Builtin.len_ #[61] 3 #[.map (some r)]).run Tryz.prog w = .ok (.int .i64 L.length) w := by
  unfold IsSet at hb
  simp [Builtin.len_, run_underlying Tryz.underlying61, MapKept.run_getObj_map hb, ies_length, Result.andThen, go_sem]
set_option maxHeartbeats 8000000 in
theorem rright_any (l : List Fi) (v : Value) (w : World) (hl : Fls w v l) (hz : Sized l) (hn : l.length ≤ 1000) (hcs : ∀ f, f ∈ l → f.cs.length ≤ 1000 ∧ f.nm.size ≤ 100000) :
    Calls Tryz.prog 9 #[v] w fun e w' => e = .returned (.bool (right l)) ∧ Since w w' := by
  rw [← right_same]
  obtain ⟨a, c, rfl, hcap⟩ := hl.form
  have HL : Hid (Fls w (.slice a l.length c) l) := hl
  have HZ : Hid (Sized l) := hz
  have HCS : Hid (∀ f, f ∈ l → f.cs.length ≤ 1000 ∧ f.nm.size ≤ 100000) := hcs
  clear hl hz hcs
  have hmm := @run_makeMap Tryz.prog
  have HM : Hid (IsSet (w.alloc (.map #[] 0)) w.heap.size (.bool true) []) := (MapKept.heap_alloc w (.map #[] 0)).1
  have HS0 : Hid (Since w (w.alloc (.map #[] 0))) := (Since.refl _).alloc _
  have HRT : Hid (rightR l = (match rrF none [] 0 l with | some (L, n) => decide (L.length = n) && decide (l.length ≤ 8) | none => false)) := rfl
  go_enter Tryz.func9, Tryz.ntmps9
  go_upto_region 2 with fail
  clear hmm
  generalize w.alloc (.map #[] 0) = w0 at *
  go_wp2_with fail
  go_loopw [12, 4, 5, 6, 8] (fun i n _ _ _ wr => ∃ (k N : Nat) (L : List Int), k ≤ l.length ∧ i = .int .i64 k ∧ n = .int .i64 N ∧ N ≤ 1000 * k ∧ rrF none [] 0 l = rrF (prevOf l k) L N (l.drop k) ∧ IsSet wr w.heap.size (.bool true) L ∧ Since w wr) (fun i _ _ _ _ _ => l.length - (intOf i).toNat)
  case atStart => exact ⟨0, 0, [], by omega, rfl, rfl, by omega, by rw [List.drop_zero]; rfl, HM.out, HS0.out⟩
  case round =>
    obtain ⟨k, N, L, hk, rfl, rfl, hN, hrr, hset, hs⟩ := hrel
    have HRR : Hid (rrF none [] 0 l = rrF (prevOf l k) L N (l.drop k)) := hrr
    have HSET : Hid (IsSet wr w.heap.size (.bool true) L) := hset
    have HS : Hid (Since w wr) := hs
    clear hrr hset hs
    by_cases hlt : k < l.length
    · have hlt2 : (k : Int) < l.length := by omega
      have hE : Hid (l[k]? = some l[k]) := List.getElem?_eq_getElem hlt
      have HCF : Hid (l[k].cs.length ≤ 1000 ∧ l[k].nm.size ≤ 100000) := HCS.out l[k] (List.getElem_mem hlt)
      have HZF : Hid (-9223372036854775808 ≤ l[k].sz ∧ l[k].sz ≤ 9223372036854775807) := HZ.out l[k] (List.getElem_mem hlt)
      have HST : Hid (rrF (prevOf l k) L N (l.drop k) = (if okR (prevOf l k) l[k] = true ∧ l[k].cs.all cellB = true then rrF (some l[k].nm) (putAll L l[k].cs) (N + l[k].cs.length) (l.drop (k + 1)) else none)) := rrF_step hE.out
      have HPV : Hid (prevOf l (k + 1) = some l[k].nm) := by
        show prevOf l (k + 1) = _
        unfold prevOf
        rw [if_neg (by omega), Nat.add_sub_cancel, hE.out]
        rfl
      generalize l[k] = f at *
      obtain ⟨kb, ko, cv, rfl, hi, hkb, q0, q1, q2⟩ := (HL.out.since HS.out).at_ hE.out
      have HI : Hid (Ints wr cv f.cs) := hi
      clear hi
      obtain ⟨ca, cc, rfl⟩ : ∃ ca cc, cv = .slice ca f.cs.length cc := HI.out.form'
      have HSA : Hid (Since wr (wr.alloc (.cells #[.string f.nm, .int .i64 f.sz, .slice ca f.cs.length cc] 44))) := (Since.refl _).alloc _
      go_upto_region 6 with fail
      have HBX : Hid (Bx (wr.alloc (.cells #[.string f.nm, .int .i64 f.sz, .slice ca f.cs.length cc] 44)) wr.heap.size f (.slice ca f.cs.length cc)) := Bx.new wr f _
      have HSET1 : Hid (IsSet (wr.alloc (.cells #[.string f.nm, .int .i64 f.sz, .slice ca f.cs.length cc] 44)) w.heap.size (.bool true) L) := HSET.out.since HSA.out
      have HI1 : Hid (Ints (wr.alloc (.cells #[.string f.nm, .int .i64 f.sz, .slice ca f.cs.length cc] 44)) (.slice ca f.cs.length cc) f.cs) := HI.out.since HSA.out
      have HS1 : Hid (Since w (wr.alloc (.cells #[.string f.nm, .int .i64 f.sz, .slice ca f.cs.length cc] 44))) := HS.out.trans HSA.out
      clear q0 q1 q2 HSA HI HSET HS
      generalize wr.alloc (.cells #[.string f.nm, .int .i64 f.sz, .slice ca f.cs.length cc] 44) = w1 at *
      go_cut [50] (fun t wx => t = .bool (!(okR (prevOf l k) f)) ∧ ∃ n, wx = w1.drewN n)
      case first =>
        have x0 := Cel.cell HBX.out 0 (by omega)
        have x1 := Cel.cell HBX.out 1 (by omega)
        have x2 := Cel.cell HBX.out 2 (by omega)
        have hnm := rname_any f.nm HCF.out.2
        have hin := rin_any f.sz 0 1920
        have hnd := rneed_any f.sz HZF.out
        have HOK : Hid (okR (prevOf l k) f = (nameB f.nm.data.toList && (match prevOf l k with | none => true | some x => gtB f.nm x) && filled f)) := rfl
        cases hn : nameB f.nm.data.toList with
        | false =>
          rw [hn] at hnm
          go_quiet ((first | (go_at_call 11; exact Calls.quiet_of_same (hnm _)) | (go_at_call 30; exact Calls.quiet_of_same (hin _)) | (go_at_call 13; exact Calls.quiet_of_same (hnd _))))
          go_wp2_with fail
          go_meet
          case rel => exact ⟨by rw [HOK.out]; rw [hn]; rfl, _, rfl⟩
        | true =>
          rw [hn] at hnm
          by_cases hk0 : k = 0
          · have hkd : decide (0 < k) = false := decide_eq_false (by omega)
            have hpv : prevOf l k = none := by unfold prevOf; rw [if_pos hk0]
            clear hk0
            cases hrg : (decide (0 ≤ f.sz) && decide (f.sz ≤ 1920)) with
            | false =>
              rw [hrg] at hin
              go_quiet ((first | (go_at_call 11; exact Calls.quiet_of_same (hnm _)) | (go_at_call 30; exact Calls.quiet_of_same (hin _)) | (go_at_call 13; exact Calls.quiet_of_same (hnd _))))
              go_wp2_with fail
              go_meet
              case rel => exact ⟨by rw [HOK.out]; rw [hn, hpv, show filled f = (decide (0 ≤ f.sz) && decide (f.sz ≤ 1920) && decide ((f.cs.length : Int) = need f.sz)) from rfl, hrg]; rfl, _, rfl⟩
            | true =>
              rw [hrg] at hin
              by_cases hlen : (f.cs.length : Int) = need f.sz
              · have hlb : (((f.cs.length : Nat) : Int) != need f.sz) = false := by simp [hlen]
                go_quiet ((first | (go_at_call 11; exact Calls.quiet_of_same (hnm _)) | (go_at_call 30; exact Calls.quiet_of_same (hin _)) | (go_at_call 13; exact Calls.quiet_of_same (hnd _))))
                go_wp2_with fail
                go_meet
                case rel => exact ⟨by rw [HOK.out]; rw [hn, hpv, show filled f = (decide (0 ≤ f.sz) && decide (f.sz ≤ 1920) && decide ((f.cs.length : Int) = need f.sz)) from rfl, hrg, decide_eq_true hlen]; rfl, _, rfl⟩
              · have hlb : (((f.cs.length : Nat) : Int) != need f.sz) = true := by simpa using hlen
                go_quiet ((first | (go_at_call 11; exact Calls.quiet_of_same (hnm _)) | (go_at_call 30; exact Calls.quiet_of_same (hin _)) | (go_at_call 13; exact Calls.quiet_of_same (hnd _))))
                go_wp2_with fail
                go_meet
                case rel => exact ⟨by rw [HOK.out]; rw [hn, hpv, show filled f = (decide (0 ≤ f.sz) && decide (f.sz ≤ 1920) && decide ((f.cs.length : Int) = need f.sz)) from rfl, hrg, decide_eq_false hlen]; rfl, _, rfl⟩
          · obtain ⟨j, rfl⟩ : ∃ j, k = j + 1 := ⟨k - 1, by omega⟩
            have hkd : decide (0 < j + 1) = true := decide_eq_true (by omega)
            have hE2 : l[j]? = some l[j] := List.getElem?_eq_getElem (by omega)
            have hpv : prevOf l (j + 1) = some l[j].nm := by
              unfold prevOf
              rw [if_neg hk0, Nat.add_sub_cancel, hE2]
              rfl
            obtain ⟨kb', ko', cv', he', _, _, y0, _⟩ := (HL.out.since HS1.out).at_ hE2
            injection he' with he'
            injection he' with ea eb
            subst ea eb
            have hjl : (j : Int) < l.length := by omega
            generalize l[j].nm = p at *
            clear hk0 hE2
            have HGT : Hid (gtB f.nm p = !(Op.bytesLess f.nm.toList p.toList || f.nm.toList == p.toList)) := rfl
            cases hbl : Op.bytesLess f.nm.toList p.toList with
            | true =>
              go_quiet ((first | (go_at_call 11; exact Calls.quiet_of_same (hnm _)) | (go_at_call 30; exact Calls.quiet_of_same (hin _)) | (go_at_call 13; exact Calls.quiet_of_same (hnd _))))
              go_wp2_with fail
              go_meet
              case rel => exact ⟨by rw [HOK.out]; rw [hn, hpv]; dsimp only; rw [HGT.out, hbl]; rfl, _, rfl⟩
            | false =>
              cases hbe : f.nm.toList == p.toList with
              | true =>
                go_quiet ((first | (go_at_call 11; exact Calls.quiet_of_same (hnm _)) | (go_at_call 30; exact Calls.quiet_of_same (hin _)) | (go_at_call 13; exact Calls.quiet_of_same (hnd _))))
                go_wp2_with fail
                go_meet
                case rel => exact ⟨by rw [HOK.out]; rw [hn, hpv]; dsimp only; rw [HGT.out, hbl, hbe]; rfl, _, rfl⟩
              | false =>
                cases hrg : (decide (0 ≤ f.sz) && decide (f.sz ≤ 1920)) with
                | false =>
                  rw [hrg] at hin
                  go_quiet ((first | (go_at_call 11; exact Calls.quiet_of_same (hnm _)) | (go_at_call 30; exact Calls.quiet_of_same (hin _)) | (go_at_call 13; exact Calls.quiet_of_same (hnd _))))
                  go_wp2_with fail
                  go_meet
                  case rel => exact ⟨by rw [HOK.out]; rw [hn, hpv, show (match (some p : Option ByteArray) with | none => true | some x => gtB f.nm x) = gtB f.nm p from rfl, HGT.out, hbl, hbe, show filled f = (decide (0 ≤ f.sz) && decide (f.sz ≤ 1920) && decide ((f.cs.length : Int) = need f.sz)) from rfl, hrg]; rfl, _, rfl⟩
                | true =>
                  rw [hrg] at hin
                  by_cases hlen : (f.cs.length : Int) = need f.sz
                  · have hlb : (((f.cs.length : Nat) : Int) != need f.sz) = false := by simp [hlen]
                    go_quiet ((first | (go_at_call 11; exact Calls.quiet_of_same (hnm _)) | (go_at_call 30; exact Calls.quiet_of_same (hin _)) | (go_at_call 13; exact Calls.quiet_of_same (hnd _))))
                    go_wp2_with fail
                    go_meet
                    case rel => exact ⟨by rw [HOK.out]; rw [hn, hpv, show (match (some p : Option ByteArray) with | none => true | some x => gtB f.nm x) = gtB f.nm p from rfl, HGT.out, hbl, hbe, show filled f = (decide (0 ≤ f.sz) && decide (f.sz ≤ 1920) && decide ((f.cs.length : Int) = need f.sz)) from rfl, hrg, decide_eq_true hlen]; rfl, _, rfl⟩
                  · have hlb : (((f.cs.length : Nat) : Int) != need f.sz) = true := by simpa using hlen
                    go_quiet ((first | (go_at_call 11; exact Calls.quiet_of_same (hnm _)) | (go_at_call 30; exact Calls.quiet_of_same (hin _)) | (go_at_call 13; exact Calls.quiet_of_same (hnd _))))
                    go_wp2_with fail
                    go_meet
                    case rel => exact ⟨by rw [HOK.out]; rw [hn, hpv, show (match (some p : Option ByteArray) with | none => true | some x => gtB f.nm x) = gtB f.nm p from rfl, HGT.out, hbl, hbe, show filled f = (decide (0 ≤ f.sz) && decide (f.sz ≤ 1920) && decide ((f.cs.length : Int) = need f.sz)) from rfl, hrg, decide_eq_false hlen]; rfl, _, rfl⟩
      case rest =>
      obtain ⟨rfl, nd, rfl⟩ := hcut
      have x2 := Cel.cell HBX.out 2 (by omega)
      cases hok : okR (prevOf l k) f with
      | false =>
        have HF : Hid (rightR l = false) := by
          show rightR l = false
          rw [HRT.out, HRR.out, HST.out, hok, if_neg (by simp)]
        go_wp2_with fail
        go_ret
        exact ⟨by rw [HF.out]; rfl, HS1.out.drewN _⟩
      | true =>
        rw [hok] at HST
        have HST2 : Hid (rrF none [] 0 l = (if f.cs.all cellB = true then rrF (some f.nm) (putAll L f.cs) (N + f.cs.length) (l.drop (k + 1)) else none)) := by
          show rrF none [] 0 l = _
          rw [HRR.out, HST.out]
          simp
        clear hok HST HRR
        have hcl := HCF.out.1
        go_wp2_with fail
        go_loopw [54, 4, 8] (fun i n _ wq => ∃ j : Nat, j ≤ f.cs.length ∧ i = .int .i64 j ∧ n = .int .i64 ((N + j : Nat) : Int) ∧ (∀ (c : Int), c ∈ f.cs.take j → cellB c = true) ∧ IsSet wq w.heap.size (.bool true) (putAll L (f.cs.take j)) ∧ Ints wq (.slice ca f.cs.length cc) f.cs ∧ Since w wq) (fun i _ _ _ => f.cs.length - (intOf i).toNat)
        case atStart => exact ⟨0, by omega, rfl, rfl, (fun c hc => by simp at hc), HSET1.out.since ((Since.refl _).drewN _), HI1.out.since ((Since.refl _).drewN _), HS1.out.drewN _⟩
        case round =>
          obtain ⟨j, hj, rfl, rfl, hall, hset, hi, hs⟩ := hrel
          have HALL : Hid (∀ (c : Int), c ∈ f.cs.take j → cellB c = true) := hall
          have HSETj : Hid (IsSet wr w.heap.size (.bool true) (putAll L (f.cs.take j))) := hset
          have HIj : Hid (Ints wr (.slice ca f.cs.length cc) f.cs) := hi
          have HSj : Hid (Since w wr) := hs
          clear hall hset hi hs
          by_cases hjl : j < f.cs.length
          · have hjl2 : (j : Int) < f.cs.length := by omega
            obtain ⟨ib, io, rfl, q⟩ := HIj.out.at' (List.getElem?_eq_getElem hjl)
            have HPT : Hid (putAll L (f.cs.take (j + 1)) = put (putAll L (f.cs.take j)) f.cs[j]) := putAll_take L f.cs j _ (List.getElem?_eq_getElem hjl)
            have HMEM : Hid (f.cs[j] ∈ f.cs) := List.getElem_mem hjl
            have HTN : Hid (f.cs.take (j + 1) = f.cs.take j ++ [f.cs[j]]) := take_next _ _ hjl
            generalize f.cs[j] = x at *
            have hin := rin_any x 3 23
            cases hcb : (decide (3 ≤ x) && decide (x ≤ 23)) with
            | false =>
              rw [hcb] at hin
              have HF : Hid (rightR l = false) := by
                show rightR l = false
                rw [HRT.out, HST2.out, if_neg (fun h => by
                  have h1 := List.all_eq_true.1 h x HMEM.out
                  unfold cellB at h1
                  rw [Bool.and_eq_true, decide_eq_true_eq, decide_eq_true_eq] at h1
                  rw [decide_eq_true h1.1, decide_eq_true (by omega)] at hcb
                  cases hcb)]
              go_wp2_with (go_at_call 30; refine (hin _).mono ?_; rintro e w' ⟨rfl, rfl⟩)
              go_ret
              exact ⟨by rw [HF.out]; rfl, HSj.out⟩
            | true =>
              rw [hcb] at hin
              have HCB : Hid (cellB x = true) := by
                rw [Bool.and_eq_true, decide_eq_true_eq, decide_eq_true_eq] at hcb
                show cellB x = true
                unfold cellB
                rw [decide_eq_true hcb.1, decide_eq_true (by omega)]
                rfl
              have hup := mb_update wr w.heap.size _ x HSETj.out
              clear hcb
              go_wp2_with (go_at_call 30; refine (hin _).mono ?_; rintro e w' ⟨rfl, rfl⟩)
              go_roundw
              case rel => (repeat apply Exists.intro); exact ⟨⟨j + 1, by omega, by go_num, by congr 1, (fun c hc => by
                rw [HTN.out, List.mem_append] at hc
                rcases hc with hc | hc
                · exact HALL.out c hc
                · rw [List.mem_singleton] at hc; subst hc; exact HCB.out), by rw [HPT.out]; exact setTo_is HSETj.out, HIj.out.fr HSETj.out (fr_setTo _ _ _ _), Fr.since (fr_setTo _ _ _ _) HSj.out (Nat.le_refl _) (fun k e => by cases e)⟩, rfl⟩
              case measure => simp [intOf]; omega
          · have hje : j = f.cs.length := by omega
            subst hje
            rw [List.take_length] at HSETj HALL
            have HNX : Hid (rrF none [] 0 l = rrF (prevOf l (k + 1)) (putAll L f.cs) (N + f.cs.length) (l.drop (k + 1))) := by
              show rrF none [] 0 l = _
              rw [HST2.out, if_pos (List.all_eq_true.2 HALL.out), HPV.out]
            go_wp2_with fail
            go_roundw
            case rel => exact ⟨k + 1, N + f.cs.length, putAll L f.cs, by omega, by go_num, rfl, by omega, HNX.out, HSETj.out, HSj.out⟩
            case measure => simp [intOf]; omega
    · have hke : k = l.length := by omega
      have HF : Hid (rightR l = (decide (L.length = N) && decide (l.length ≤ 8))) := by
        show rightR l = _
        rw [HRT.out, HRR.out, hke, List.drop_length]
        rfl
      subst hke
      have hml := mb_len wr w.heap.size L HSET.out
      by_cases hLN : L.length = N
      · have hb1 : ((L.length : Int) == (N : Int)) = true := by simp [hLN]
        rw [decide_eq_true hLN, Bool.true_and] at HF
        clear hLN
        go_wp2_with fail
        go_ret
        refine ⟨?_, HS.out⟩
        rw [HF.out]
        show Ending.returned (.bool (decide ((l.length : Int) ≤ 8))) = _
        by_cases h8 : l.length ≤ 8
        · rw [decide_eq_true h8, decide_eq_true (by omega)]
        · rw [decide_eq_false h8, decide_eq_false (by omega)]
      · have hb1 : ((L.length : Int) == (N : Int)) = false := beq_false_of_ne (by omega)
        rw [decide_eq_false hLN, Bool.false_and] at HF
        clear hLN
        go_wp2_with fail
        go_ret
        exact ⟨by rw [HF.out]; rfl, HS.out⟩
end En
end Go.Proofs.YtceoamhenpohhaaGreatDoor
