import Derived.Lib.AppendIntMem
import Derived.Deep.AppendLies
import Derived.Deep.AppendSrc
import Derived.Test.YtlgocfgnfdnloaaGreatDoorJ37
import Derived.Test.YtlgocfgnfdnloaaGreatDoorJ38
set_option linter.unusedSimpArgs false
set_option linter.unusedVariables false
section
namespace Go.Proofs.YtlgocfgnfdnloaaGreatDoor
set_option maxRecDepth 100000
namespace En
open Go.RowKit
def powN : String := (Rows.filesApartRow.laid.map (fun p => p.1)).getD 2 (String.ofList [])
def IsErr (v : Value) : Prop := v = .nilIface ∨ ∃ te pe, v = .iface te pe
structure Lb (w : World) : Prop where
  tab : Lib.TabIs Tryz.prog w powN .u64 Lib.pow10Tab
  max : ∃ m, w.cell? ⟨1, 0, none⟩ = some (.int .i64 m)
  syn : ∃ v, w.cell? ⟨2, 0, none⟩ = some v ∧ IsErr v
  ran : ∃ v, w.cell? ⟨3, 0, none⟩ = some v ∧ IsErr v
theorem Lb.since {w w' : World} (h : Lb w) (hs : Since w w') : Lb w' := by
  refine ⟨Lib.tabBelow_of_tabIs h.tab w' hs, ?_, ?_, ?_⟩
  · obtain ⟨m, hm⟩ := h.max
    exact ⟨m, (hs.cell (p := ⟨1, 0, none⟩) (World.block_lt_of_cell? w _ hm)).trans hm⟩
  · obtain ⟨m, hm, h2⟩ := h.syn
    exact ⟨m, (hs.cell (p := ⟨2, 0, none⟩) (World.block_lt_of_cell? w _ hm)).trans hm, h2⟩
  · obtain ⟨m, hm, h2⟩ := h.ran
    exact ⟨m, (hs.cell (p := ⟨3, 0, none⟩) (World.block_lt_of_cell? w _ hm)).trans hm, h2⟩
theorem since_grow {w : World} (k : Nat) (os : Array Obj) : Since w (Go.Sort.grow (w.drewN k) os) := by
  have h := (Since.refl w).drewN k
  refine Below.trans (show Below w.heap.size w _ from h) ⟨rfl, rfl, rfl, by simp [Go.Sort.grow], fun j hj => ?_⟩
  show ((w.drewN k).heap ++ os)[j]? = _
  rw [Array.getElem?_append_left (Nat.lt_of_lt_of_le hj h.size)]
theorem itoa_any (n : Int) (h0 : -9223372036854775808 ≤ n) (h1 : n ≤ 9223372036854775807) (w : World) (h : Lb w) :
    Calls Tryz.prog 185 #[.int .i64 n] w fun e w' => e = .returned (.string ⟨(Lib.itoa n).toArray⟩) ∧ Since w w' := by
  refine (Tryz.strconv_Itoa n h0 h1 w h.tab).mono ?_
  rintro e w' ⟨rfl, k, os, rfl⟩
  exact ⟨rfl, since_grow k os⟩
theorem since_bytes {w : World} (t : ByteArray) (ty : TypeId) : Since w (Lib.bytesWorld w ty t) :=
  ⟨rfl, rfl, rfl, by rw [Lib.bytesWorld_size]; omega, fun k hk => Lib.bytesWorld_at_old w ty t k hk⟩
theorem atoi_any (s : ByteArray) (hs : s.size ≤ 100000) (w : World) (h : Lb w) :
    Calls Tryz.prog 118 #[.string s] w fun e w' => (∃ er, e = .returned (.tuple #[.int .i64 (numR s.data.toList), er]) ∧ ((∃ v, num? s.data.toList = some v ∧ er = .nilIface) ∨ (num? s.data.toList = none ∧ ∃ t p, er = .iface t p))) ∧ Since w w' := by
  cases hn : Lib.atoiAll s.data.toList with
  | ok v =>
    refine (Tryz.strconv_Atoi_ok s (by omega) v hn w).mono ?_
    rintro e w' ⟨rfl, h2⟩
    refine ⟨⟨.nilIface, by simp [numR, hn], Or.inl ⟨v, by simp [num?, hn], rfl⟩⟩, ?_⟩
    rcases h2 with rfl | ⟨t, rfl⟩
    · exact Since.refl _
    · exact since_bytes t _
  | «syntax» =>
    obtain ⟨ev, h1, h2⟩ := h.syn
    refine (Tryz.strconv_Atoi_syntax s (by omega) hn ev w h1 h2).mono ?_
    rintro e w' ⟨N, rfl, _, _, h3⟩
    exact ⟨⟨.iface 324 (.pointer (some ⟨N, 0, none⟩)), by simp only [numR, hn], Or.inr ⟨by simp only [num?, hn], _, _, rfl⟩⟩, h3⟩
  | range =>
    obtain ⟨ev, h1, h2⟩ := h.ran
    refine (Tryz.strconv_Atoi_range s (by omega) hn ev w h1 h2).mono ?_
    rintro e w' ⟨N, rfl, _, _, h3⟩
    exact ⟨⟨.iface 324 (.pointer (some ⟨N, 0, none⟩)), by simp only [numR, hn], Or.inr ⟨by simp only [num?, hn], _, _, rfl⟩⟩, h3⟩
theorem clone_any (s : ByteArray) (hs : s.size ≤ 100000) (w : World) : Calls Tryz.prog 67 #[.string s] w fun e w' => e = .returned (.string s) ∧ Since w w' := by
  go_enter Tryz.func67, Tryz.ntmps67
  go_wp2_with fail
  refine (Tryz.stringslite_Clone s w (by omega)).mono ?_
  rintro e w' ⟨rfl, h⟩
  go_wp2_with fail
  go_ret
  exact ⟨rfl, h⟩
theorem writeString_any (B b : Nat) (bs : List Value) (s : ByteArray) (w : World) (h : Lib.IsBuilderF 189 5 B b bs w) (hl : bs.length + s.size ≤ 140737488355328) (hB : B ≤ w.heap.size) :
    Calls Tryz.prog 113 #[.pointer (some ⟨b, 0, none⟩), .string s] w fun e w' => e = .returned (.tuple #[.int .i64 s.size, .nilIface]) ∧ Lib.BuilderAtF 189 5 B b (.pointer (some ⟨b, 0, none⟩)) (bs ++ Lib.strCells s) w' ∧ Below B w w' ∧ Lib.OthersKept 5 (some b) w w' :=
  Any.Builder_WriteString_k { Tryz.lays156 with } Tryz.Builder_Extra_156 B b bs s w h hl hB
theorem heap_lt {w : World} {k : Nat} {o : Obj} (h : w.heap[k]? = some o) : k < w.heap.size := (Array.getElem?_eq_some_iff.1 h).1
theorem builderAt_since {B b : Nat} {p : Value} {bs : List Value} {w w' : World} (h : Lib.BuilderAtF 189 5 B b p bs w) (hs : Since w w') : Lib.BuilderAtF 189 5 B b p bs w' := by
  obtain ⟨h1, v, hb, hown, hne⟩ := h
  refine ⟨h1, v, by rw [Below.block hs b (heap_lt hb)]; exact hb, ?_, hne⟩
  obtain ⟨o1, o2⟩ := hown
  refine ⟨o1, ?_⟩
  rcases o2 with o2 | ⟨g, cap, cur, o2⟩
  · exact Or.inl o2
  · obtain ⟨fz, hv, hg, hh, r⟩ := o2
    exact Or.inr ⟨g, cap, cur, fz, hv, hg, by rw [Below.block hs g (heap_lt hh)]; exact hh, r⟩
theorem builder_since {B b : Nat} {bs : List Value} {w w' : World} (h : Lib.IsBuilderF 189 5 B b bs w) (hs : Since w w') : Lib.IsBuilderF 189 5 B b bs w' := by
  rcases h with h | h
  · exact Or.inl (builderAt_since h hs)
  · exact Or.inr (builderAt_since h hs)
def txts (l : List (List UInt8)) : List Value := l.map (fun t => .string ⟨t.toArray⟩)
theorem join_any (x : Value) (B : Nat) (l : List (List UInt8)) (w : World) (h : w.ownsRow B 9 1 x l.length (txts l)) (hne : l ≠ []) (hl : (Lib.join l [32]).length ≤ 100000) (hn : l.length ≤ 100000) :
    Calls Tryz.prog 49 #[x, .string ⟨#[32]⟩] w fun e w' => e = .returned (.string ⟨(Lib.join l [32]).toArray⟩) ∧ Since w w' := by
  have hpos := List.length_pos_iff.2 hne
  have h0 := h
  rcases h.2 with ⟨_, h1⟩ | ⟨g, cap, cur, rfl, hb, hg, hc, hm, hs, ht⟩
  · omega
  · have e1 : (l.map (fun t => (⟨t.toArray⟩ : ByteArray))).map (fun x => x.data.toList) = l := by
      rw [List.map_map]
      exact List.map_id'' (fun t => by simp) l
    have := Tryz.strings_Join g 0 cap (l.map (fun t => (⟨t.toArray⟩ : ByteArray))) ⟨#[32]⟩ w (fun j x hx => by
      have hj : j < l.length := by have := (List.getElem?_eq_some_iff.1 hx).1; simpa using this
      have h2 := h0.cellAt j (by omega)
      rw [Nat.zero_add, h2]
      rw [List.getElem?_map] at hx
      simp only [txts, List.getElem?_map]
      cases hq : l[j]? with
      | none => rw [hq] at hx; cases hx
      | some y => rw [hq] at hx; simp at hx; subst hx; rfl) (heap_lt hg) (by simp; omega) (by simp; omega) (by rw [e1]; exact Nat.le_trans hl (by decide))
    rw [List.length_map] at this
    refine this.mono ?_
    rintro e w' ⟨rfl, h3⟩
    rw [e1]
    exact ⟨rfl, h3⟩
end En
end Go.Proofs.YtlgocfgnfdnloaaGreatDoor
end
section
namespace Go.Proofs.YtlgocfgnfdnloaaGreatDoor
set_option maxRecDepth 100000
namespace En
open Go.RowKit
def Bx (w : World) (b : Nat) (f : Fi) (cv : Value) : Prop := Cel w b 3 (fun j => (#[.string f.nm, .int .i64 f.sz, cv] : Array Value).getD j undef)
theorem Bx.new (w : World) (f : Fi) (cv : Value) : Bx (w.alloc (.cells #[.string f.nm, .int .i64 f.sz, cv] 153)) w.heap.size f cv := Cel.new w 3 _ _ _ (fun j hj => by
    obtain rfl | rfl | rfl : j = 0 ∨ j = 1 ∨ j = 2 := by omega
    all_goals rfl) _ rfl
theorem Bx.since {w w' : World} {b : Nat} {f : Fi} {cv : Value} (h : Bx w b f cv) (hs : Since w w') : Bx w' b f cv := Cel.since h hs
theorem bx01 {w : World} {b : Nat} {f : Fi} {cv : Value} (h : Bx w b f cv) : w.cell? ⟨b, 0, none⟩ = some (.string f.nm) ∧ w.cell? ⟨b, 1, none⟩ = some (.int .i64 f.sz) := ⟨Cel.cell h 0 (by omega), Cel.cell h 1 (by omega)⟩
theorem info9 : (Tryz.prog.info? 9).map (fun i => (i.zero, i.size, i.bytes)) = some (some (.string ByteArray.empty), 1, 16) := by kernel_rfl
theorem info_parts {P : Program} {t : TypeId} {z : Value} {s y : Nat} (h : (P.info? t).map (fun i => (i.zero, i.size, i.bytes)) = some (some z, s, y)) : ∃ i, P.info? t = some i ∧ i.zero = some z ∧ i.size = s ∧ i.bytes = y := by
  cases hi : P.info? t with
  | none => rw [hi] at h; cases h
  | some i => rw [hi] at h; simp at h; exact ⟨i, rfl, h.1, h.2.1, h.2.2⟩
theorem owns_since {w w' : World} {B : Nat} {t : TypeId} {sz n : Nat} {v : Value} {xs : List Value} (h : w.ownsRow B t sz v n xs) (hs : Since w w') : w'.ownsRow B t sz v n xs := by
  refine ⟨h.1, ?_⟩
  rcases h.2 with h2 | ⟨g, cap, cur, hv, hb, hg, rest⟩
  · exact .inl h2
  · exact .inr ⟨g, cap, cur, hv, hb, by rw [hs.block g (heap_lt hg)]; exact hg, rest⟩
theorem words_take (f : Fi) (k : Nat) (hk : k < f.cs.length) : (words f).take (2 + (k + 1)) = (words f).take (2 + k) ++ [Lib.itoa f.cs[k]] := by
  rw [show 2 + (k + 1) = (2 + k) + 1 by omega, List.take_add_one]
  congr 1
  rw [show 2 + k = k + 1 + 1 by omega]
  simp [words, hk]
set_option maxHeartbeats 4000000 in
theorem line_any (f : Fi) (cv : Value) (w : World) (hg : Good f) (hc : Ints w cv f.cs) (hb : Lb w) :
    Calls Tryz.prog 194 #[fval f cv] w fun e w' => e = .returned (.string ⟨(line f).toArray⟩) ∧ Since w w' := by
  have HG : Hid (Good f) := hg
  have HC : Hid (Ints w cv f.cs) := hc
  have HL : Hid (Lb w) := hb
  obtain ⟨ca, cc, rfl⟩ : ∃ ca cc, cv = .slice ca f.cs.length cc := by
    obtain ⟨ca, cc, h, _⟩ := hc
    exact ⟨ca, cc, h⟩
  clear hg hc hb
  have hbx := Bx.new w f (.slice ca f.cs.length cc)
  have HS1 : Hid (Since w (w.alloc (.cells #[.string f.nm, .int .i64 f.sz, .slice ca f.cs.length cc] 153))) := (Since.refl w).alloc _
  unfold fval
  go_enter Tryz.func194, Tryz.ntmps194
  go_upto_region 1 with fail
  have HBX : Hid (Bx (w.alloc (.cells #[.string f.nm, .int .i64 f.sz, .slice ca f.cs.length cc] 153)) w.heap.size f (.slice ca f.cs.length cc)) := hbx
  have x0 := Cel.cell hbx 0 (by omega)
  have x1 := Cel.cell hbx 1 (by omega)
  clear hbx
  generalize w.alloc (.cells #[.string f.nm, .int .i64 f.sz, .slice ca f.cs.length cc] 153) = w1 at *
  go_cut [3] (fun t3 wx => wx.ownsRow w.heap.size 9 1 t3 2 (txts ((words f).take 2)) ∧ Since w1 wx)
  case first =>
    have hit := fun W (hW : Since w1 W) => itoa_any f.sz (by have := HG.out.sz0; omega) (by have := HG.out.sz1; omega) W (HL.out.since (HS1.out.trans hW))
    have HIT : Hid (∀ W, Since w1 W → Calls Tryz.prog 185 #[.int .i64 f.sz] W fun e w' => e = .returned (.string ⟨(Lib.itoa f.sz).toArray⟩) ∧ Since W w') := hit
    clear hit
    go_region_held3 (fun W => W.cell? ⟨w.heap.size, 0, none⟩ = some (.string f.nm) ∧ W.cell? ⟨w.heap.size, 1, none⟩ = some (.int .i64 f.sz)) (first | exact bx01 HBX.out | exact bx01 (HBX.out.since (Since.refl _).drew) | exact bx01 (HBX.out.since (((Since.refl _).drew).trans h2)) | exact bx01 (HBX.out.since ((((Since.refl _).drew).trans h2).alloc _))) (first
      | (go_simp; go_at_call 185; refine (HIT.out _ (Since.refl _).drew).mono ?_; rintro e w2 ⟨rfl, h2⟩; dsimp only))
    go_wp2_with fail
    go_meet
    case rel =>
      refine ⟨?_, (((Since.refl _).drew).trans h2).alloc _⟩
      have := World.ownsRow_lit (base := w.heap.size) (e := 9) (size := 1) w2 #[Value.string f.nm, Value.string ⟨(Lib.itoa f.sz).toArray⟩] 2 (by have := HS1.out.size; have := h2.size; simp at this; omega) (by decide) (by rfl)
      simpa [txts, words] using this
  case rest =>
  obtain ⟨hrow, hs2⟩ := hcut
  have HR : Hid (wc.ownsRow w.heap.size 9 1 u3 2 (txts ((words f).take 2))) := hrow
  have HS2 : Hid (Since w wc) := HS1.out.trans hs2
  have x2 := Cel.cell (HBX.out.since hs2) 2 (by omega)
  clear hrow hs2 x0 x1 HBX HS1
  obtain ⟨i0, hi, hz0, hz1, hz2⟩ := info_parts info9
  have HI : Hid (Tryz.prog.info? 9 = some i0 ∧ i0.zero = some (.string ByteArray.empty) ∧ i0.size = 1 ∧ i0.bytes = 16) := ⟨hi, hz0, hz1, hz2⟩
  clear hi hz0 hz1 hz2
  go_wp2_with fail
  clear x2
  go_loopw [15, 3, 5] (fun i x _ wr => ∃ k : Nat, k ≤ f.cs.length ∧ i = .int .i64 k ∧ wr.ownsRow w.heap.size 9 1 x (2 + k) (txts ((words f).take (2 + k))) ∧ Since w wr) (fun i _ _ _ => f.cs.length - (intOf i).toNat)
  case atStart => exact ⟨0, by omega, rfl, HR.out, HS2.out⟩
  case round =>
    obtain ⟨k, hk, rfl, hx, hs⟩ := hrel
    have HX : Hid (wr.ownsRow w.heap.size 9 1 u3 (2 + k) (txts ((words f).take (2 + k)))) := hx
    have HSK : Hid (Since w wr) := hs
    clear hx hs
    have hcl := HG.out.cs_le
    by_cases hlt : k < f.cs.length
    · have hlt2 : (k : Int) < f.cs.length := by omega
      obtain ⟨a', c', hv, _, h2⟩ := HC.out.since HSK.out
      obtain ⟨kb, ko, ha, _, hcell⟩ := h2 (by omega)
      injection hv with e1 e2 e3
      subst e1
      subst ha
      have q := hcell k f.cs[k] (List.getElem?_eq_getElem hlt)
      have HW : Hid ((words f).take (2 + (k + 1)) = (words f).take (2 + k) ++ [Lib.itoa f.cs[k]]) := words_take f k hlt
      have hrg := HG.out.cell f.cs[k] (List.getElem_mem hlt)
      clear hcell h2 e2 e3
      generalize f.cs[k] = c at *
      go_wp2_with fail
      refine (itoa_any c (by omega) (by omega) _ (HL.out.since HSK.out)).mono ?_
      rintro e w2 ⟨rfl, h2⟩
      have HX2 : Hid (w2.ownsRow w.heap.size 9 1 u3 (2 + k) (txts ((words f).take (2 + k)))) := owns_since HX.out h2
      have HS3 : Hid (Since w w2) := HSK.out.trans h2
      clear h2 q
      go_wp2_with (at_builtin; refine wpList_append_own _ (by rfl) _ _ _ (by rfl) w.heap.size 9 i0 _ 1 16 Tryz.underlying65 HI.out.1 HI.out.2.1 HI.out.2.2.1 HI.out.2.2.2 (by rfl) (by decide) _ (2 + k) (txts ((words f).take (2 + k))) (by rfl) (World.ownsRow.alloc HX2.out _) ⟨w2.heap.size, 0, none⟩ 1 1 [.string ⟨(Lib.itoa c).toArray⟩] (by rfl) (by rfl) (World.news_of_block (heap_alloc_new w2 _)) (by simp [Value.oneCell']) (by unfold maxLen; omega) (by omega) (by have := HS3.out.size; simp; omega) ?_; intro x' w3 hown1 hgrow _)
      have HO1 : Hid (w3.ownsRow w.heap.size 9 1 x' (2 + (k + 1)) (txts ((words f).take (2 + (k + 1))))) := by
        show World.ownsRow _ _ _ _ _ _ _
        rw [HW.out, show txts ((words f).take (2 + k) ++ [Lib.itoa c]) = txts ((words f).take (2 + k)) ++ [.string ⟨(Lib.itoa c).toArray⟩] from by simp [txts], show 2 + (k + 1) = 2 + k + 1 by omega]
        exact hown1
      have HG1 : Hid (Since w w3) := Below.grown (Since.alloc HS3.out _) hgrow (by have := HS3.out.size; simp; omega) (fun j hj => (HX2.out.lt j hj).1)
      clear hown1 hgrow
      go_roundw
      case rel => exact ⟨k + 1, by omega, by go_num, HO1.out, HG1.out⟩
      case measure => simp [intOf]; omega
    · have hke : k = f.cs.length := by omega
      have HE : Hid ((words f).take (2 + k) = words f) := List.take_of_length_le (by simp [words]; omega)
      have HLEN : Hid ((words f).length = 2 + k) := by show (words f).length = 2 + k; simp [words]; omega
      have HX2 : Hid (wr.ownsRow w.heap.size 9 1 u3 (words f).length (txts (words f))) := by
        show World.ownsRow _ _ _ _ _ _ _
        have := HX.out
        rw [HE.out] at this
        rw [HLEN.out]
        exact this
      have HLL : Hid ((Lib.join (words f) [32]).length ≤ 100) := by
        have h1 := HG.out.line_len
        have h2 : (line f).length = (Lib.join (words f) [32]).length + 1 := by simp [line]
        show (Lib.join (words f) [32]).length ≤ 100
        omega
      have HLN : Hid (line f = Lib.join (words f) [32] ++ [10]) := rfl
      subst hke
      go_wp2_with fail
      refine (join_any _ w.heap.size (words f) _ HX2.out (by simp [words]) (by have := HLL.out; omega) (by have := HLEN.out; omega)).mono ?_
      rintro e w2 ⟨rfl, h2⟩
      have HS3 : Hid (Since w w2) := HSK.out.trans h2
      clear h2
      have HJ : Hid ((⟨(Lib.join (words f) [32]).toArray⟩ : ByteArray).size ≤ 100) := by
        show (⟨(Lib.join (words f) [32]).toArray⟩ : ByteArray).size ≤ 100
        rw [show (⟨(Lib.join (words f) [32]).toArray⟩ : ByteArray).size = (Lib.join (words f) [32]).length from List.size_toArray]
        exact HLL.out
      have HV : Hid ((⟨(Lib.join (words f) [32]).toArray⟩ : ByteArray) ++ ⟨#[10]⟩ = ⟨(line f).toArray⟩) := by
        show (⟨(Lib.join (words f) [32]).toArray⟩ : ByteArray) ++ ⟨#[10]⟩ = ⟨(line f).toArray⟩
        rw [HLN.out]
        apply ByteArray.ext
        simp [ByteArray.data_append]
      clear HLL HLN
      generalize (⟨(Lib.join (words f) [32]).toArray⟩ : ByteArray) = J at *
      have hj := HJ.out
      go_wp2_with fail
      go_ret
      exact ⟨by rw [← HV.out]; rfl, HS3.out⟩
end En
end Go.Proofs.YtlgocfgnfdnloaaGreatDoor
end
section
namespace Go.Proofs.YtlgocfgnfdnloaaGreatDoor
set_option maxRecDepth 100000
namespace En
open Go.RowKit
def errV (n : Int) : Value := .iface 32 (.int .i64 n)
theorem print_no (l : List Fi) (v : Value) (w : World) (hl : Fls w v l) (hz : Sized l) (hr : right l = false) :
    Calls Tryz.prog 125 #[v] w fun e w' => e = .returned (.tuple #[.string ⟨#[]⟩, errV 1]) ∧ Since w w' := by
  have hra := right_any l v w hl hz
  rw [hr] at hra
  go_enter Tryz.func125, Tryz.ntmps125
  go_wp2_with fail
  refine hra.mono ?_
  rintro e w1 ⟨rfl, h1⟩
  go_wp2_with fail
  go_ret2
  exact ⟨rfl, h1⟩
theorem print_take (l : List Fi) (k : Nat) (f : Fi) (h : l[k]? = some f) : print (l.take (k + 1)) = print (l.take k) ++ line f := by
  rw [List.take_add_one, h]
  simp [print]
theorem print_take_le (l : List Fi) (k : Nat) : (print (l.take k)).length ≤ (print l).length := by
  have : print l = print (l.take k) ++ print (l.drop k) := by
    unfold print
    rw [← List.flatten_append, ← List.map_append, List.take_append_drop]
  rw [this, List.length_append]
  omega
set_option maxHeartbeats 4000000 in
theorem print_yes (l : List Fi) (v : Value) (w : World) (hl : Fls w v l) (hz : Sized l) (hb : Lb w) (hr : right l = true) :
    Calls Tryz.prog 125 #[v] w fun e w' => e = .returned (.tuple #[.string ⟨(print l).toArray⟩, .nilIface]) ∧ Since w w' := by
  have hra := right_any l v w hl hz
  rw [hr] at hra
  obtain ⟨a, c, rfl, hcap, hrest⟩ := hl
  have HL : Hid (Fls w (.slice a l.length c) l) := ⟨a, c, rfl, hcap, hrest⟩
  have HB : Hid (Lb w) := hb
  have HP : Hid ((print l).length ≤ 200) := print_fits hr
  have HG : Hid (∀ f, f ∈ l → Good f) := right_good hr
  have hn8 : l.length ≤ 8 := by
    rw [right, Bool.and_eq_true, decide_eq_true_eq] at hr
    exact hr.1
  clear hrest hb hz hr
  go_enter Tryz.func125, Tryz.ntmps125
  go_wp2_with fail
  refine hra.mono ?_
  rintro e w1 ⟨rfl, h1⟩
  have HS1 : Hid (Since w w1) := h1
  clear h1 hra
  go_upto_region 4 with fail
  have hb0 : Lib.IsBuilderF 189 5 w1.heap.size w1.heap.size [] (w1.alloc (.cells #[.pointer none, .slice none 0 0] 189)) := Lib.IsBuilderF.of (Lib.fresh_isBuilder 189 5 w1)
  have HB0 : Hid (Lib.IsBuilderF 189 5 w1.heap.size w1.heap.size [] (w1.alloc (.cells #[.pointer none, .slice none 0 0] 189))) := hb0
  have HS2 : Hid (Since w1 (w1.alloc (.cells #[.pointer none, .slice none 0 0] 189))) := (Since.refl _).alloc _
  clear hb0
  generalize w1.alloc (.cells #[.pointer none, .slice none 0 0] 189) = w2 at *
  go_wp2_with fail
  go_loopw [13, 6] (fun i _ wr => ∃ k : Nat, k ≤ l.length ∧ i = .int .i64 k ∧ Lib.IsBuilderF 189 5 w1.heap.size w1.heap.size (Lib.byteCells (print (l.take k))) wr ∧ Since w1 wr) (fun i _ _ => l.length - (intOf i).toNat)
  case atStart => exact ⟨0, by omega, rfl, by simpa [print, Lib.byteCells] using HB0.out, HS2.out⟩
  case round =>
    obtain ⟨k, hk, rfl, hbk, hs⟩ := hrel
    have HBK : Hid (Lib.IsBuilderF 189 5 w1.heap.size w1.heap.size (Lib.byteCells (print (l.take k))) wr) := hbk
    have HSK : Hid (Since w1 wr) := hs
    clear hbk hs
    by_cases hlt : k < l.length
    · have hlt2 : (k : Int) < l.length := by omega
      have hE : Hid (l[k]? = some l[k]) := List.getElem?_eq_getElem hlt
      have HGF : Hid (Good l[k]) := HG.out l[k] (List.getElem_mem hlt)
      have HPT : Hid (print (l.take (k + 1)) = print (l.take k) ++ line l[k]) := print_take l k l[k] hE.out
      have HPL : Hid ((print (l.take (k + 1))).length ≤ 200) := Nat.le_trans (print_take_le l (k + 1)) HP.out
      generalize l[k] = f at *
      obtain ⟨kb, ko, cv, rfl, hi, hkb, q0, q1, q2⟩ := (HL.out.since (HS1.out.trans HSK.out)).at_ hE.out
      have HI : Hid (Ints wr cv f.cs) := hi
      clear hi
      obtain ⟨ca, cc, rfl⟩ : ∃ ca cc, cv = .slice ca f.cs.length cc := by
        obtain ⟨ca, cc, h, _⟩ := HI.out
        exact ⟨ca, cc, h⟩
      have HSA : Hid (Since wr (wr.alloc (.cells #[.string f.nm, .int .i64 f.sz, .slice ca f.cs.length cc] 153))) := (Since.refl _).alloc _
      go_wp2_with fail
      refine (line_any f (.slice ca f.cs.length cc) _ HGF.out (HI.out.since HSA.out) (HB.out.since ((HS1.out.trans HSK.out).trans HSA.out))).mono ?_
      rintro e w3 ⟨rfl, h3⟩
      have HB3 : Hid (Lib.IsBuilderF 189 5 w1.heap.size w1.heap.size (Lib.byteCells (print (l.take k))) w3) := builder_since HBK.out (HSA.out.trans h3)
      have HS3 : Hid (Since w1 w3) := (HSK.out.trans HSA.out).trans h3
      clear h3 q0 q1 q2
      have HLS : Hid ((⟨(line f).toArray⟩ : ByteArray).size = (line f).length) := List.size_toArray
      have hll : (Lib.byteCells (print (l.take k))).length + (⟨(line f).toArray⟩ : ByteArray).size ≤ 140737488355328 := by
        rw [Lib.byteCells_length, HLS.out]
        have := HPL.out
        rw [HPT.out, List.length_append] at this
        omega
      have HLL : Hid ((Lib.byteCells (print (l.take k))).length + (⟨(line f).toArray⟩ : ByteArray).size ≤ 140737488355328) := hll
      clear hll
      go_wp2_with fail
      refine (writeString_any w1.heap.size w1.heap.size _ ⟨(line f).toArray⟩ _ HB3.out HLL.out HS3.out.size).mono ?_
      rintro e w4 ⟨rfl, h4, b4, _⟩
      have HS4 : Hid (Since w1 w4) := Below.trans HS3.out b4
      have HB4 : Hid (Lib.IsBuilderF 189 5 w1.heap.size w1.heap.size (Lib.byteCells (print (l.take (k + 1)))) w4) := by
        refine Or.inr ?_
        rw [Lib.strCells_eq] at h4
        rw [HPT.out]
        simpa [Lib.byteCells] using h4
      clear h4 b4
      go_wp2_with fail
      go_roundw
      case rel => exact ⟨k + 1, by omega, by go_num, HB4.out, HS4.out⟩
      case measure => simp [intOf]; omega
    · have hke : k = l.length := by omega
      subst hke
      rw [List.take_length] at HBK
      go_wp2_with fail
      refine (Tryz.Builder_String_any_k w1.heap.size w1.heap.size _ _ HBK.out HSK.out.size).mono ?_
      rintro e w3 ⟨rfl, _, b3, _⟩
      have HS3 : Hid (Since w1 w3) := Below.trans HSK.out b3
      clear b3
      go_wp2_with fail
      go_ret2
      exact ⟨rfl, HS1.out.trans HS3.out⟩
end En
end Go.Proofs.YtlgocfgnfdnloaaGreatDoor
end
