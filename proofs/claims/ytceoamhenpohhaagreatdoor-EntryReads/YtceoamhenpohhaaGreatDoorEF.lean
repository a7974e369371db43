/- Package entry: a file's line, Print. -/
import Derived.Test.YtceoamhenpohhaaGreatDoorEE
namespace Go.Proofs.YtceoamhenpohhaaGreatDoor
set_option linter.unusedSimpArgs false
set_option linter.unusedVariables false
set_option maxRecDepth 100000
namespace En
open Go.RowKit
/-- a box that holds a file -/
def Bx (w : World) (b : Nat) (f : Fi) (cv : Value) : Prop := Cel w b 3 (fun j => (#[.string f.nm, .int .i64 f.sz, cv] : Array Value).getD j undef)
theorem Bx.new (w : World) (f : Fi) (cv : Value) : Bx (w.alloc (.cells #[.string f.nm, .int .i64 f.sz, cv] 44)) w.heap.size f cv := Cel.new w 3 _ _ _ (fun j hj => by
    obtain rfl | rfl | rfl : j = 0 ∨ j = 1 ∨ j = 2 := by omega
    all_goals rfl) _ rfl
theorem Bx.since {w w' : World} {b : Nat} {f : Fi} {cv : Value} (h : Bx w b f cv) (hs : Since w w') : Bx w' b f cv := Cel.since h hs
theorem bx01 {w : World} {b : Nat} {f : Fi} {cv : Value} (h : Bx w b f cv) : w.cell? ⟨b, 0, none⟩ = some (.string f.nm) ∧ w.cell? ⟨b, 1, none⟩ = some (.int .i64 f.sz) := ⟨Cel.cell h 0 (by omega), Cel.cell h 1 (by omega)⟩
theorem info9 : (Tryz.prog.info? 9).map (fun i => (i.zero, i.size, i.bytes)) = some (some (.string ByteArray.empty), 1, 16) := by kernel_rfl
theorem info_parts {P : Program} {t : TypeId} {z : Value} {s y : Nat} (h : (P.info? t).map (fun i => (i.zero, i.size, i.bytes)) = some (some z, s, y)) : ∃ i, P.info? t = some i ∧ i.zero = some z ∧ i.size = s ∧ i.bytes = y := by
  cases hi : P.info? t with
  | none => rw [hi] at h; cases h
  | some i => rw [hi] at h; simp at h; exact ⟨i, rfl, h.1, h.2.1, h.2.2⟩
theorem owns_since {w w' : World} {B : Nat} {t : TypeId} {sz n : Nat} {v : Value} {xs : List Value} (h : w.ownsRow B t sz v n xs) (hs : Since w w') : w'.ownsRow B t sz v n xs := by
  refine ⟨h.1, ?_⟩
  rcases h.2 with h2 | ⟨g, cap, cur, hv, hb, hg, rest⟩
  · exact .inl h2
  · exact .inr ⟨g, cap, cur, hv, hb, by rw [hs.block g (heap_lt hg)]; exact hg, rest⟩
theorem words_take (f : Fi) (k : Nat) (hk : k < f.cs.length) : (words f).take (2 + (k + 1)) = (words f).take (2 + k) ++ [Lib.itoa f.cs[k]] := by
  rw [show 2 + (k + 1) = (2 + k) + 1 by omega, List.take_add_one]
  congr 1
  rw [show 2 + k = k + 1 + 1 by omega]
  simp [words, hk]
set_option maxHeartbeats 4000000 in
theorem line_any (f : Fi) (cv : Value) (w : World) (hg : Good f) (hc : Ints w cv f.cs) (hb : Lb w) :
    Calls Tryz.prog 24 #[fval f cv] w fun e w' => e = .returned (.string ⟨(line f).toArray⟩) ∧ Since w w' := by
  have HG : Hid (Good f) := hg
  have HC : Hid (Ints w cv f.cs) := hc
  have HL : Hid (Lb w) := hb
  obtain ⟨ca, cc, rfl⟩ : ∃ ca cc, cv = .slice ca f.cs.length cc := by
    obtain ⟨ca, cc, h, _⟩ := hc
    exact ⟨ca, cc, h⟩
  clear hg hc hb
  have hbx := Bx.new w f (.slice ca f.cs.length cc)
  have HS1 : Hid (Since w (w.alloc (.cells #[.string f.nm, .int .i64 f.sz, .slice ca f.cs.length cc] 44))) := (Since.refl w).alloc _
  unfold fval
  go_enter Tryz.func24, Tryz.ntmps24
  go_upto_region 1 with fail
  have HBX : Hid (Bx (w.alloc (.cells #[.string f.nm, .int .i64 f.sz, .slice ca f.cs.length cc] 44)) w.heap.size f (.slice ca f.cs.length cc)) := hbx
  have x0 := Cel.cell hbx 0 (by omega)
  have x1 := Cel.cell hbx 1 (by omega)
  clear hbx
  generalize w.alloc (.cells #[.string f.nm, .int .i64 f.sz, .slice ca f.cs.length cc] 44) = w1 at *
  go_cut [3] (fun t3 wx => wx.ownsRow w.heap.size 9 1 t3 2 (txts ((words f).take 2)) ∧ Since w1 wx)
  case first =>
    have hit := fun W (hW : Since w1 W) => itoa_any f.sz (by have := HG.out.sz0; omega) (by have := HG.out.sz1; omega) W (HL.out.since (HS1.out.trans hW))
    have HIT : Hid (∀ W, Since w1 W → Calls Tryz.prog 21 #[.int .i64 f.sz] W fun e w' => e = .returned (.string ⟨(Lib.itoa f.sz).toArray⟩) ∧ Since W w') := hit
    clear hit
    go_region_held3 (fun W => W.cell? ⟨w.heap.size, 0, none⟩ = some (.string f.nm) ∧ W.cell? ⟨w.heap.size, 1, none⟩ = some (.int .i64 f.sz)) (first | exact bx01 HBX.out | exact bx01 (HBX.out.since (Since.refl _).drew) | exact bx01 (HBX.out.since (((Since.refl _).drew).trans h2)) | exact bx01 (HBX.out.since ((((Since.refl _).drew).trans h2).alloc _))) (first
      | (go_simp; go_at_call 21; refine (HIT.out _ (Since.refl _).drew).mono ?_; rintro e w2 ⟨rfl, h2⟩; dsimp only))
    go_wp2_with fail
    go_meet
    case rel =>
      refine ⟨?_, (((Since.refl _).drew).trans h2).alloc _⟩
      have := World.ownsRow_lit (base := w.heap.size) (e := 9) (size := 1) w2 #[Value.string f.nm, Value.string ⟨(Lib.itoa f.sz).toArray⟩] 2 (by have := HS1.out.size; have := h2.size; simp at this; omega) (by decide) (by rfl)
      simpa [txts, words] using this
  case rest =>
  obtain ⟨hrow, hs2⟩ := hcut
  have HR : Hid (wc.ownsRow w.heap.size 9 1 u3 2 (txts ((words f).take 2))) := hrow
  have HS2 : Hid (Since w wc) := HS1.out.trans hs2
  have x2 := Cel.cell (HBX.out.since hs2) 2 (by omega)
  clear hrow hs2 x0 x1 HBX HS1
  obtain ⟨i0, hi, hz0, hz1, hz2⟩ := info_parts info9
  have HI : Hid (Tryz.prog.info? 9 = some i0 ∧ i0.zero = some (.string ByteArray.empty) ∧ i0.size = 1 ∧ i0.bytes = 16) := ⟨hi, hz0, hz1, hz2⟩
  clear hi hz0 hz1 hz2
  go_wp2_with fail
  clear x2
  go_loopw [15, 3, 5] (fun i x _ wr => ∃ k : Nat, k ≤ f.cs.length ∧ i = .int .i64 k ∧ wr.ownsRow w.heap.size 9 1 x (2 + k) (txts ((words f).take (2 + k))) ∧ Since w wr) (fun i _ _ _ => f.cs.length - (intOf i).toNat)
  case atStart => exact ⟨0, by omega, rfl, HR.out, HS2.out⟩
  case round =>
    obtain ⟨k, hk, rfl, hx, hs⟩ := hrel
    have HX : Hid (wr.ownsRow w.heap.size 9 1 u3 (2 + k) (txts ((words f).take (2 + k)))) := hx
    have HSK : Hid (Since w wr) := hs
    clear hx hs
    have hcl := HG.out.cs_le
    by_cases hlt : k < f.cs.length
    · have hlt2 : (k : Int) < f.cs.length := by omega
      obtain ⟨a', c', hv, _, h2⟩ := HC.out.since HSK.out
      obtain ⟨kb, ko, ha, _, hcell⟩ := h2 (by omega)
      injection hv with e1 e2 e3
      subst e1
      subst ha
      have q := hcell k f.cs[k] (List.getElem?_eq_getElem hlt)
      have HW : Hid ((words f).take (2 + (k + 1)) = (words f).take (2 + k) ++ [Lib.itoa f.cs[k]]) := words_take f k hlt
      have hrg := HG.out.cell f.cs[k] (List.getElem_mem hlt)
      clear hcell h2 e2 e3
      generalize f.cs[k] = c at *
      go_wp2_with fail
      refine (itoa_any c (by omega) (by omega) _ (HL.out.since HSK.out)).mono ?_
      rintro e w2 ⟨rfl, h2⟩
      have HX2 : Hid (w2.ownsRow w.heap.size 9 1 u3 (2 + k) (txts ((words f).take (2 + k)))) := owns_since HX.out h2
      have HS3 : Hid (Since w w2) := HSK.out.trans h2
      clear h2 q
      go_wp2_with (at_builtin; refine wpList_append_own _ (by rfl) _ _ _ (by rfl) w.heap.size 9 i0 _ 1 16 Tryz.underlying46 HI.out.1 HI.out.2.1 HI.out.2.2.1 HI.out.2.2.2 (by rfl) (by decide) _ (2 + k) (txts ((words f).take (2 + k))) (by rfl) (World.ownsRow.alloc HX2.out _) ⟨w2.heap.size, 0, none⟩ 1 1 [.string ⟨(Lib.itoa c).toArray⟩] (by rfl) (by rfl) (World.news_of_block (heap_alloc_new w2 _)) (by simp [Value.oneCell']) (by unfold maxLen; omega) (by omega) (by have := HS3.out.size; simp; omega) ?_; intro x' w3 hown1 hgrow _)
      have HO1 : Hid (w3.ownsRow w.heap.size 9 1 x' (2 + (k + 1)) (txts ((words f).take (2 + (k + 1))))) := by
        show World.ownsRow _ _ _ _ _ _ _
        rw [HW.out, show txts ((words f).take (2 + k) ++ [Lib.itoa c]) = txts ((words f).take (2 + k)) ++ [.string ⟨(Lib.itoa c).toArray⟩] from by simp [txts], show 2 + (k + 1) = 2 + k + 1 by omega]
        exact hown1
      have HG1 : Hid (Since w w3) := Below.grown (Since.alloc HS3.out _) hgrow (by have := HS3.out.size; simp; omega) (fun j hj => (HX2.out.lt j hj).1)
      clear hown1 hgrow
      go_roundw
      case rel => exact ⟨k + 1, by omega, by go_num, HO1.out, HG1.out⟩
      case measure => simp [intOf]; omega
    · have hke : k = f.cs.length := by omega
      have HE : Hid ((words f).take (2 + k) = words f) := List.take_of_length_le (by simp [words]; omega)
      have HLEN : Hid ((words f).length = 2 + k) := by show (words f).length = 2 + k; simp [words]; omega
      have HX2 : Hid (wr.ownsRow w.heap.size 9 1 u3 (words f).length (txts (words f))) := by
        show World.ownsRow _ _ _ _ _ _ _
        have := HX.out
        rw [HE.out] at this
        rw [HLEN.out]
        exact this
      have HLL : Hid ((Lib.join (words f) [32]).length ≤ 100) := by
        have h1 := HG.out.line_len
        have h2 : (line f).length = (Lib.join (words f) [32]).length + 1 := by simp [line]
        show (Lib.join (words f) [32]).length ≤ 100
        omega
      have HLN : Hid (line f = Lib.join (words f) [32] ++ [10]) := rfl
      subst hke
      go_wp2_with fail
      refine (join_any _ w.heap.size (words f) _ HX2.out (by simp [words]) (by have := HLL.out; omega) (by have := HLEN.out; omega)).mono ?_
      rintro e w2 ⟨rfl, h2⟩
      have HS3 : Hid (Since w w2) := HSK.out.trans h2
      clear h2
      have HJ : Hid ((⟨(Lib.join (words f) [32]).toArray⟩ : ByteArray).size ≤ 100) := by
        show (⟨(Lib.join (words f) [32]).toArray⟩ : ByteArray).size ≤ 100
        rw [show (⟨(Lib.join (words f) [32]).toArray⟩ : ByteArray).size = (Lib.join (words f) [32]).length from List.size_toArray]
        exact HLL.out
      have HV : Hid ((⟨(Lib.join (words f) [32]).toArray⟩ : ByteArray) ++ ⟨#[10]⟩ = ⟨(line f).toArray⟩) := by
        show (⟨(Lib.join (words f) [32]).toArray⟩ : ByteArray) ++ ⟨#[10]⟩ = ⟨(line f).toArray⟩
        rw [HLN.out]
        apply ByteArray.ext
        simp [ByteArray.data_append]
      clear HLL HLN
      generalize (⟨(Lib.join (words f) [32]).toArray⟩ : ByteArray) = J at *
      have hj := HJ.out
      go_wp2_with fail
      go_ret
      exact ⟨by rw [← HV.out]; rfl, HS3.out⟩
end En
end Go.Proofs.YtceoamhenpohhaaGreatDoor
