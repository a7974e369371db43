/- The reference's Print. -/
import Derived.Test.YtceoamhenpohhaaGreatDoorFB
namespace Go.Proofs.YtceoamhenpohhaaGreatDoor
set_option linter.unusedSimpArgs false
set_option linter.unusedVariables false
set_option maxRecDepth 100000
namespace En
open Go.RowKit
theorem rprint_no (l : List Fi) (v : Value) (w : World) (hl : Fls w v l) (hz : Sized l) (hn : l.length ≤ 1000) (hcs : ∀ f, f ∈ l → f.cs.length ≤ 1000 ∧ f.nm.size ≤ 100000) (hr : right l = false) :
    Calls Tryz.prog 5 #[v] w fun e w' => e = .returned (.tuple #[.string ⟨#[]⟩, .int .i64 1]) ∧ Since w w' := by
  have hra := rright_any l v w hl hz hn hcs
  rw [hr] at hra
  go_enter Tryz.func5, Tryz.ntmps5
  go_wp2_with fail
  refine hra.mono ?_
  rintro e w1 ⟨rfl, h1⟩
  go_wp2_with fail
  go_ret2
  exact ⟨rfl, h1⟩
set_option maxHeartbeats 8000000 in
theorem rprint_yes (l : List Fi) (v : Value) (w : World) (hl : Fls w v l) (hb : Lb w) (hr : right l = true) :
    Calls Tryz.prog 5 #[v] w fun e w' => e = .returned (.tuple #[.string ⟨(print l).toArray⟩, .int .i64 0]) ∧ Since w w' := by
  have HG : Hid (∀ f, f ∈ l → Good f) := right_good hr
  have hn8 : l.length ≤ 8 := by
    rw [right, Bool.and_eq_true, decide_eq_true_eq] at hr
    exact hr.1
  have hra := rright_any l v w hl (fun f hf => ⟨by have := (HG.out f hf).sz0; omega, by have := (HG.out f hf).sz1; omega⟩) (by omega) (fun f hf => ⟨by have := (HG.out f hf).cs_le; omega, by
    have h1 := (name_free (HG.out f hf).name).2.2.2
    rw [Array.length_toList] at h1
    have : f.nm.size = f.nm.data.size := rfl
    omega⟩)
  rw [hr] at hra
  obtain ⟨a, c, rfl, hcap⟩ := hl.form
  have HL : Hid (Fls w (.slice a l.length c) l) := hl
  have HB : Hid (Lb w) := hb
  have HP : Hid ((print l).length ≤ 200) := print_fits hr
  obtain ⟨i0, hi, hz0, hz1, hz2⟩ := info_parts info9
  have HI9 : Hid (Tryz.prog.info? 9 = some i0 ∧ i0.zero = some (.string ByteArray.empty) ∧ i0.size = 1 ∧ i0.bytes = 16) := ⟨hi, hz0, hz1, hz2⟩
  clear hi hz0 hz1 hz2 hl hb hr
  go_enter Tryz.func5, Tryz.ntmps5
  go_wp2_with fail
  refine hra.mono ?_
  rintro e w1 ⟨rfl, h1⟩
  have HS1 : Hid (Since w w1) := h1
  clear h1 hra
  go_wp2_with fail
  go_loopw [15, 4, 6, 7, 9] (fun i s _ _ _ wr => ∃ k : Nat, k ≤ l.length ∧ i = .int .i64 k ∧ s = .string ⟨(print (l.take k)).toArray⟩ ∧ Since w wr) (fun i _ _ _ _ _ => l.length - (intOf i).toNat)
  case atStart => exact ⟨0, by omega, rfl, rfl, HS1.out⟩
  case round =>
    obtain ⟨k, hk, rfl, rfl, hs⟩ := hrel
    have HS : Hid (Since w wr) := hs
    clear hs
    by_cases hlt : k < l.length
    · have hlt2 : (k : Int) < l.length := by omega
      have hE : Hid (l[k]? = some l[k]) := List.getElem?_eq_getElem hlt
      have HGF : Hid (Good l[k]) := HG.out l[k] (List.getElem_mem hlt)
      have HPT : Hid (print (l.take (k + 1)) = print (l.take k) ++ line l[k]) := print_take l k l[k] hE.out
      have HPL : Hid ((print (l.take (k + 1))).length ≤ 200) := Nat.le_trans (print_take_le l (k + 1)) HP.out
      generalize l[k] = f at *
      obtain ⟨kb, ko, cv, rfl, hi, hkb, q0, q1, q2⟩ := (HL.out.since HS.out).at_ hE.out
      have HI : Hid (Ints wr cv f.cs) := hi
      clear hi
      obtain ⟨ca, cc, rfl⟩ := HI.out.form'
      have HSA : Hid (Since wr (wr.alloc (.cells #[.string f.nm, .int .i64 f.sz, .slice ca f.cs.length cc] 44))) := (Since.refl _).alloc _
      go_upto_region 7 with fail
      have HBX : Hid (Bx (wr.alloc (.cells #[.string f.nm, .int .i64 f.sz, .slice ca f.cs.length cc] 44)) wr.heap.size f (.slice ca f.cs.length cc)) := Bx.new wr f _
      have HC : Hid (Ints (wr.alloc (.cells #[.string f.nm, .int .i64 f.sz, .slice ca f.cs.length cc] 44)) (.slice ca f.cs.length cc) f.cs) := HI.out.since HSA.out
      have HSB : Hid (Since w (wr.alloc (.cells #[.string f.nm, .int .i64 f.sz, .slice ca f.cs.length cc] 44))) := HS.out.trans HSA.out
      have HLB : Hid (Lb (wr.alloc (.cells #[.string f.nm, .int .i64 f.sz, .slice ca f.cs.length cc] 44))) := HB.out.since HSB.out
      clear q0 q1 q2 HSA HI
      have hbl := Cel.lt HBX.out (by omega)
      have HBL : Hid (wr.heap.size < (wr.alloc (.cells #[.string f.nm, .int .i64 f.sz, .slice ca f.cs.length cc] 44)).heap.size) := hbl
      clear hbl
      generalize wr.alloc (.cells #[.string f.nm, .int .i64 f.sz, .slice ca f.cs.length cc] 44) = wb at *
      have x0 := Cel.cell HBX.out 0 (by omega)
      have x1 := Cel.cell HBX.out 1 (by omega)
      go_cut [7] (fun t3 wx => wx.ownsRow wb.heap.size 9 1 t3 2 (txts ((words f).take 2)) ∧ Since wb wx)
      case first =>
        have hit := fun W (hW : Since wb W) => itoa_any f.sz (by have := HGF.out.sz0; omega) (by have := HGF.out.sz1; omega) W (HLB.out.since hW)
        have HIT : Hid (∀ W, Since wb W → Calls Tryz.prog 21 #[.int .i64 f.sz] W fun e w' => e = .returned (.string ⟨(Lib.itoa f.sz).toArray⟩) ∧ Since W w') := hit
        clear hit
        go_region_held3 (fun W => W.cell? ⟨wr.heap.size, 0, none⟩ = some (.string f.nm) ∧ W.cell? ⟨wr.heap.size, 1, none⟩ = some (.int .i64 f.sz)) (first | exact bx01 HBX.out | exact bx01 (HBX.out.since (Since.refl _).drew) | exact bx01 (HBX.out.since (((Since.refl _).drew).trans h2)) | exact bx01 (HBX.out.since ((((Since.refl _).drew).trans h2).alloc _))) (first
          | (go_simp; go_at_call 21; refine (HIT.out _ (Since.refl _).drew).mono ?_; rintro e w2 ⟨rfl, h2⟩; dsimp only))
        go_wp2_with fail
        go_meet
        case rel =>
          refine ⟨?_, (((Since.refl _).drew).trans h2).alloc _⟩
          have := World.ownsRow_lit (base := wb.heap.size) (e := 9) (size := 1) w2 #[Value.string f.nm, Value.string ⟨(Lib.itoa f.sz).toArray⟩] 2 (by have := h2.size; simpa using this) (by decide) (by rfl)
          simpa [txts, words] using this
      case rest =>
      obtain ⟨hrow, hs2⟩ := hcut
      have HR : Hid (wc.ownsRow wb.heap.size 9 1 u7 2 (txts ((words f).take 2))) := hrow
      have HS2 : Hid (Since wb wc) := hs2
      have x2 := Cel.cell (HBX.out.since hs2) 2 (by omega)
      clear hrow hs2 x0 x1
      have hcl := HGF.out.cs_le
      go_wp2_with fail
      clear x2
      go_loopw [28, 7, 9] (fun i x _ wq => ∃ j : Nat, j ≤ f.cs.length ∧ i = .int .i64 j ∧ wq.ownsRow wb.heap.size 9 1 x (2 + j) (txts ((words f).take (2 + j))) ∧ Since wb wq) (fun i _ _ _ => f.cs.length - (intOf i).toNat)
      case atStart => exact ⟨0, by omega, rfl, HR.out, HS2.out⟩
      case round =>
        obtain ⟨j, hj, rfl, hx, hs⟩ := hrel
        have HX : Hid (wr.ownsRow wb.heap.size 9 1 u7 (2 + j) (txts ((words f).take (2 + j)))) := hx
        have HSK : Hid (Since wb wr) := hs
        clear hx hs
        by_cases hjl : j < f.cs.length
        · have hjl2 : (j : Int) < f.cs.length := by omega
          obtain ⟨ib, io, rfl, q⟩ := (HC.out.since HSK.out).at' (List.getElem?_eq_getElem hjl)
          have HW : Hid ((words f).take (2 + (j + 1)) = (words f).take (2 + j) ++ [Lib.itoa f.cs[j]]) := words_take f j hjl
          have hrg := HGF.out.cell f.cs[j] (List.getElem_mem hjl)
          generalize f.cs[j] = x at *
          go_wp2_with fail
          refine (itoa_any x (by omega) (by omega) _ (HLB.out.since HSK.out)).mono ?_
          rintro e w2 ⟨rfl, h2⟩
          have HX2 : Hid (w2.ownsRow wb.heap.size 9 1 u7 (2 + j) (txts ((words f).take (2 + j)))) := owns_since HX.out h2
          have HS3 : Hid (Since wb w2) := HSK.out.trans h2
          clear h2 q
          go_wp2_with (at_builtin; refine wpList_append_own _ (by rfl) _ _ _ (by rfl) wb.heap.size 9 i0 _ 1 16 Tryz.underlying46 HI9.out.1 HI9.out.2.1 HI9.out.2.2.1 HI9.out.2.2.2 (by rfl) (by decide) _ (2 + j) (txts ((words f).take (2 + j))) (by rfl) (World.ownsRow.alloc HX2.out _) ⟨w2.heap.size, 0, none⟩ 1 1 [.string ⟨(Lib.itoa x).toArray⟩] (by rfl) (by rfl) (World.news_of_block (heap_alloc_new w2 _)) (by simp [Value.oneCell']) (by unfold maxLen; omega) (by omega) (by have := HS3.out.size; simp; omega) ?_; intro x' w3 hown1 hgrow _)
          have HO1 : Hid (w3.ownsRow wb.heap.size 9 1 x' (2 + (j + 1)) (txts ((words f).take (2 + (j + 1))))) := by
            show World.ownsRow _ _ _ _ _ _ _
            rw [HW.out, show txts ((words f).take (2 + j) ++ [Lib.itoa x]) = txts ((words f).take (2 + j)) ++ [.string ⟨(Lib.itoa x).toArray⟩] from by simp [txts], show 2 + (j + 1) = 2 + j + 1 by omega]
            exact hown1
          have HG1 : Hid (Since wb w3) := Below.grown (Since.alloc HS3.out _) hgrow (by have := HS3.out.size; simp; omega) (fun j hj => (HX2.out.lt j hj).1)
          clear hown1 hgrow
          go_roundw
          case rel => exact ⟨j + 1, by omega, by go_num, HO1.out, HG1.out⟩
          case measure => simp [intOf]; omega
        · have hje : j = f.cs.length := by omega
          have HE : Hid ((words f).take (2 + j) = words f) := List.take_of_length_le (by simp [words]; omega)
          have HLEN : Hid ((words f).length = 2 + j) := by show (words f).length = 2 + j; simp [words]; omega
          have HX2 : Hid (wr.ownsRow wb.heap.size 9 1 u7 (words f).length (txts (words f))) := by
            show World.ownsRow _ _ _ _ _ _ _
            have := HX.out
            rw [HE.out] at this
            rw [HLEN.out]
            exact this
          have HLL : Hid ((Lib.join (words f) [32]).length ≤ 100) := by
            have h1 := HGF.out.line_len
            have h2 : (line f).length = (Lib.join (words f) [32]).length + 1 := by simp [line]
            show (Lib.join (words f) [32]).length ≤ 100
            omega
          have HLN : Hid (line f = Lib.join (words f) [32] ++ [10]) := rfl
          subst hje
          go_wp2_with fail
          refine (join_any _ wb.heap.size (words f) _ HX2.out (by simp [words]) (by have := HLL.out; omega) (by have := HLEN.out; omega)).mono ?_
          rintro e w2 ⟨rfl, h2⟩
          have HS3 : Hid (Since w w2) := HSB.out.trans (HSK.out.trans h2)
          clear h2
          have hJ : (⟨(Lib.join (words f) [32]).toArray⟩ : ByteArray).size ≤ 100 := by
            rw [show (⟨(Lib.join (words f) [32]).toArray⟩ : ByteArray).size = (Lib.join (words f) [32]).length from List.size_toArray]
            exact HLL.out
          have hA : (⟨(print (l.take k)).toArray⟩ : ByteArray).size ≤ 200 := by
            rw [show (⟨(print (l.take k)).toArray⟩ : ByteArray).size = (print (l.take k)).length from List.size_toArray]
            have := HPL.out
            rw [HPT.out, List.length_append] at this
            omega
          have HV : Hid ((⟨(print (l.take k)).toArray⟩ : ByteArray) ++ ((⟨(Lib.join (words f) [32]).toArray⟩ : ByteArray) ++ ⟨#[10]⟩) = ⟨(print (l.take (k + 1))).toArray⟩) := by
            show (⟨(print (l.take k)).toArray⟩ : ByteArray) ++ ((⟨(Lib.join (words f) [32]).toArray⟩ : ByteArray) ++ ⟨#[10]⟩) = ⟨(print (l.take (k + 1))).toArray⟩
            rw [HPT.out, HLN.out]
            apply ByteArray.ext
            simp [ByteArray.data_append]
          clear HLL HLN HPT HPL
          generalize (⟨(Lib.join (words f) [32]).toArray⟩ : ByteArray) = J at *
          generalize (⟨(print (l.take k)).toArray⟩ : ByteArray) = A at *
          have hJ1 : (J ++ (⟨#[10]⟩ : ByteArray)).size ≤ 101 := by
            rw [ByteArray.size_append]
            have : (⟨#[10]⟩ : ByteArray).size = 1 := rfl
            omega
          go_wp2_with fail
          go_roundw
          case rel => exact ⟨k + 1, by omega, by go_num, by rw [← HV.out], HS3.out⟩
          case measure => simp [intOf]; omega
    · have hke : k = l.length := by omega
      subst hke
      rw [List.take_length]
      go_wp2_with fail
      go_ret2
      exact ⟨rfl, HS.out⟩
end En
end Go.Proofs.YtceoamhenpohhaaGreatDoor
