import Derived.Lib.AppendIntMem
import Derived.Deep.AppendLies
import Derived.Deep.AppendSrc
import Derived.Test.YtlgocfgnfdnloaaGreatDoorJ28
import Derived.Test.YtlgocfgnfdnloaaGreatDoorJ29
set_option linter.unusedSimpArgs false
set_option linter.unusedVariables false
section
namespace Go.Proofs.YtlgocfgnfdnloaaGreatDoor
set_option maxRecDepth 100000
namespace En
open Go.RowKit
def powN : String := (Rows.filesApartRow.laid.map (fun p => p.1)).getD 2 (String.ofList [])
def IsErr (v : Value) : Prop := v = .nilIface ∨ ∃ te pe, v = .iface te pe
structure Lb (w : World) : Prop where
  tab : Lib.TabIs Tryz.prog w powN .u64 Lib.pow10Tab
  max : ∃ m, w.cell? ⟨1, 0, none⟩ = some (.int .i64 m)
  syn : ∃ v, w.cell? ⟨2, 0, none⟩ = some v ∧ IsErr v
  ran : ∃ v, w.cell? ⟨3, 0, none⟩ = some v ∧ IsErr v
theorem Lb.since {w w' : World} (h : Lb w) (hs : Since w w') : Lb w' := by
  refine ⟨Lib.tabBelow_of_tabIs h.tab w' hs, ?_, ?_, ?_⟩
  · obtain ⟨m, hm⟩ := h.max
    exact ⟨m, (hs.cell (p := ⟨1, 0, none⟩) (World.block_lt_of_cell? w _ hm)).trans hm⟩
  · obtain ⟨m, hm, h2⟩ := h.syn
    exact ⟨m, (hs.cell (p := ⟨2, 0, none⟩) (World.block_lt_of_cell? w _ hm)).trans hm, h2⟩
  · obtain ⟨m, hm, h2⟩ := h.ran
    exact ⟨m, (hs.cell (p := ⟨3, 0, none⟩) (World.block_lt_of_cell? w _ hm)).trans hm, h2⟩
theorem since_grow {w : World} (k : Nat) (os : Array Obj) : Since w (Go.Sort.grow (w.drewN k) os) := by
  have h := (Since.refl w).drewN k
  refine Below.trans (show Below w.heap.size w _ from h) ⟨rfl, rfl, rfl, by simp [Go.Sort.grow], fun j hj => ?_⟩
  show ((w.drewN k).heap ++ os)[j]? = _
  rw [Array.getElem?_append_left (Nat.lt_of_lt_of_le hj h.size)]
theorem itoa_any (n : Int) (h0 : -9223372036854775808 ≤ n) (h1 : n ≤ 9223372036854775807) (w : World) (h : Lb w) :
    Calls Tryz.prog 185 #[.int .i64 n] w fun e w' => e = .returned (.string ⟨(Lib.itoa n).toArray⟩) ∧ Since w w' := by
  refine (Tryz.strconv_Itoa n h0 h1 w h.tab).mono ?_
  rintro e w' ⟨rfl, k, os, rfl⟩
  exact ⟨rfl, since_grow k os⟩
theorem since_bytes {w : World} (t : ByteArray) (ty : TypeId) : Since w (Lib.bytesWorld w ty t) :=
  ⟨rfl, rfl, rfl, by rw [Lib.bytesWorld_size]; omega, fun k hk => Lib.bytesWorld_at_old w ty t k hk⟩
theorem atoi_any (s : ByteArray) (hs : s.size ≤ 100000) (w : World) (h : Lb w) :
    Calls Tryz.prog 118 #[.string s] w fun e w' => (∃ er, e = .returned (.tuple #[.int .i64 (numR s.data.toList), er]) ∧ ((∃ v, num? s.data.toList = some v ∧ er = .nilIface) ∨ (num? s.data.toList = none ∧ ∃ t p, er = .iface t p))) ∧ Since w w' := by
  cases hn : Lib.atoiAll s.data.toList with
  | ok v =>
    refine (Tryz.strconv_Atoi_ok s (by omega) v hn w).mono ?_
    rintro e w' ⟨rfl, h2⟩
    refine ⟨⟨.nilIface, by simp [numR, hn], Or.inl ⟨v, by simp [num?, hn], rfl⟩⟩, ?_⟩
    rcases h2 with rfl | ⟨t, rfl⟩
    · exact Since.refl _
    · exact since_bytes t _
  | «syntax» =>
    obtain ⟨ev, h1, h2⟩ := h.syn
    refine (Tryz.strconv_Atoi_syntax s (by omega) hn ev w h1 h2).mono ?_
    rintro e w' ⟨N, rfl, _, _, h3⟩
    exact ⟨⟨.iface 324 (.pointer (some ⟨N, 0, none⟩)), by simp only [numR, hn], Or.inr ⟨by simp only [num?, hn], _, _, rfl⟩⟩, h3⟩
  | range =>
    obtain ⟨ev, h1, h2⟩ := h.ran
    refine (Tryz.strconv_Atoi_range s (by omega) hn ev w h1 h2).mono ?_
    rintro e w' ⟨N, rfl, _, _, h3⟩
    exact ⟨⟨.iface 324 (.pointer (some ⟨N, 0, none⟩)), by simp only [numR, hn], Or.inr ⟨by simp only [num?, hn], _, _, rfl⟩⟩, h3⟩
theorem clone_any (s : ByteArray) (hs : s.size ≤ 100000) (w : World) : Calls Tryz.prog 67 #[.string s] w fun e w' => e = .returned (.string s) ∧ Since w w' := by
  go_enter Tryz.func67, Tryz.ntmps67
  go_wp2_with fail
  refine (Tryz.stringslite_Clone s w (by omega)).mono ?_
  rintro e w' ⟨rfl, h⟩
  go_wp2_with fail
  go_ret
  exact ⟨rfl, h⟩
theorem writeString_any (B b : Nat) (bs : List Value) (s : ByteArray) (w : World) (h : Lib.IsBuilderF 189 5 B b bs w) (hl : bs.length + s.size ≤ 140737488355328) (hB : B ≤ w.heap.size) :
    Calls Tryz.prog 113 #[.pointer (some ⟨b, 0, none⟩), .string s] w fun e w' => e = .returned (.tuple #[.int .i64 s.size, .nilIface]) ∧ Lib.BuilderAtF 189 5 B b (.pointer (some ⟨b, 0, none⟩)) (bs ++ Lib.strCells s) w' ∧ Below B w w' ∧ Lib.OthersKept 5 (some b) w w' :=
  Any.Builder_WriteString_k { Tryz.lays156 with } Tryz.Builder_Extra_156 B b bs s w h hl hB
theorem heap_lt {w : World} {k : Nat} {o : Obj} (h : w.heap[k]? = some o) : k < w.heap.size := (Array.getElem?_eq_some_iff.1 h).1
theorem builderAt_since {B b : Nat} {p : Value} {bs : List Value} {w w' : World} (h : Lib.BuilderAtF 189 5 B b p bs w) (hs : Since w w') : Lib.BuilderAtF 189 5 B b p bs w' := by
  obtain ⟨h1, v, hb, hown, hne⟩ := h
  refine ⟨h1, v, by rw [Below.block hs b (heap_lt hb)]; exact hb, ?_, hne⟩
  obtain ⟨o1, o2⟩ := hown
  refine ⟨o1, ?_⟩
  rcases o2 with o2 | ⟨g, cap, cur, o2⟩
  · exact Or.inl o2
  · obtain ⟨fz, hv, hg, hh, r⟩ := o2
    exact Or.inr ⟨g, cap, cur, fz, hv, hg, by rw [Below.block hs g (heap_lt hh)]; exact hh, r⟩
theorem builder_since {B b : Nat} {bs : List Value} {w w' : World} (h : Lib.IsBuilderF 189 5 B b bs w) (hs : Since w w') : Lib.IsBuilderF 189 5 B b bs w' := by
  rcases h with h | h
  · exact Or.inl (builderAt_since h hs)
  · exact Or.inr (builderAt_since h hs)
def txts (l : List (List UInt8)) : List Value := l.map (fun t => .string ⟨t.toArray⟩)
theorem join_any (x : Value) (B : Nat) (l : List (List UInt8)) (w : World) (h : w.ownsRow B 9 1 x l.length (txts l)) (hne : l ≠ []) (hl : (Lib.join l [32]).length ≤ 100000) (hn : l.length ≤ 100000) :
    Calls Tryz.prog 49 #[x, .string ⟨#[32]⟩] w fun e w' => e = .returned (.string ⟨(Lib.join l [32]).toArray⟩) ∧ Since w w' := by
  have hpos := List.length_pos_iff.2 hne
  have h0 := h
  rcases h.2 with ⟨_, h1⟩ | ⟨g, cap, cur, rfl, hb, hg, hc, hm, hs, ht⟩
  · omega
  · have e1 : (l.map (fun t => (⟨t.toArray⟩ : ByteArray))).map (fun x => x.data.toList) = l := by
      rw [List.map_map]
      exact List.map_id'' (fun t => by simp) l
    have := Tryz.strings_Join g 0 cap (l.map (fun t => (⟨t.toArray⟩ : ByteArray))) ⟨#[32]⟩ w (fun j x hx => by
      have hj : j < l.length := by have := (List.getElem?_eq_some_iff.1 hx).1; simpa using this
      have h2 := h0.cellAt j (by omega)
      rw [Nat.zero_add, h2]
      rw [List.getElem?_map] at hx
      simp only [txts, List.getElem?_map]
      cases hq : l[j]? with
      | none => rw [hq] at hx; cases hx
      | some y => rw [hq] at hx; simp at hx; subst hx; rfl) (heap_lt hg) (by simp; omega) (by simp; omega) (by rw [e1]; exact Nat.le_trans hl (by decide))
    rw [List.length_map] at this
    refine this.mono ?_
    rintro e w' ⟨rfl, h3⟩
    rw [e1]
    exact ⟨rfl, h3⟩
end En
end Go.Proofs.YtlgocfgnfdnloaaGreatDoor
end
section
namespace Go.Proofs.YtlgocfgnfdnloaaGreatDoor
set_option maxRecDepth 100000
namespace En
open Go.RowKit
def Bx (w : World) (b : Nat) (f : Fi) (cv : Value) : Prop := Cel w b 3 (fun j => (#[.string f.nm, .int .i64 f.sz, cv] : Array Value).getD j undef)
theorem Bx.new (w : World) (f : Fi) (cv : Value) : Bx (w.alloc (.cells #[.string f.nm, .int .i64 f.sz, cv] 153)) w.heap.size f cv := Cel.new w 3 _ _ _ (fun j hj => by
    obtain rfl | rfl | rfl : j = 0 ∨ j = 1 ∨ j = 2 := by omega
    all_goals rfl) _ rfl
theorem Bx.since {w w' : World} {b : Nat} {f : Fi} {cv : Value} (h : Bx w b f cv) (hs : Since w w') : Bx w' b f cv := Cel.since h hs
theorem bx01 {w : World} {b : Nat} {f : Fi} {cv : Value} (h : Bx w b f cv) : w.cell? ⟨b, 0, none⟩ = some (.string f.nm) ∧ w.cell? ⟨b, 1, none⟩ = some (.int .i64 f.sz) := ⟨Cel.cell h 0 (by omega), Cel.cell h 1 (by omega)⟩
theorem info9 : (Tryz.prog.info? 9).map (fun i => (i.zero, i.size, i.bytes)) = some (some (.string ByteArray.empty), 1, 16) := by kernel_rfl
theorem info_parts {P : Program} {t : TypeId} {z : Value} {s y : Nat} (h : (P.info? t).map (fun i => (i.zero, i.size, i.bytes)) = some (some z, s, y)) : ∃ i, P.info? t = some i ∧ i.zero = some z ∧ i.size = s ∧ i.bytes = y := by
  cases hi : P.info? t with
  | none => rw [hi] at h; cases h
  | some i => rw [hi] at h; simp at h; exact ⟨i, rfl, h.1, h.2.1, h.2.2⟩
theorem owns_since {w w' : World} {B : Nat} {t : TypeId} {sz n : Nat} {v : Value} {xs : List Value} (h : w.ownsRow B t sz v n xs) (hs : Since w w') : w'.ownsRow B t sz v n xs := by
  refine ⟨h.1, ?_⟩
  rcases h.2 with h2 | ⟨g, cap, cur, hv, hb, hg, rest⟩
  · exact .inl h2
  · exact .inr ⟨g, cap, cur, hv, hb, by rw [hs.block g (heap_lt hg)]; exact hg, rest⟩
theorem words_take (f : Fi) (k : Nat) (hk : k < f.cs.length) : (words f).take (2 + (k + 1)) = (words f).take (2 + k) ++ [Lib.itoa f.cs[k]] := by
  rw [show 2 + (k + 1) = (2 + k) + 1 by omega, List.take_add_one]
  congr 1
  rw [show 2 + k = k + 1 + 1 by omega]
  simp [words, hk]
set_option maxHeartbeats 4000000 in
theorem line_any (f : Fi) (cv : Value) (w : World) (hg : Good f) (hc : Ints w cv f.cs) (hb : Lb w) :
    Calls Tryz.prog 194 #[fval f cv] w fun e w' => e = .returned (.string ⟨(line f).toArray⟩) ∧ Since w w' := by
  have HG : Hid (Good f) := hg
  have HC : Hid (Ints w cv f.cs) := hc
  have HL : Hid (Lb w) := hb
  obtain ⟨ca, cc, rfl⟩ : ∃ ca cc, cv = .slice ca f.cs.length cc := by
    obtain ⟨ca, cc, h, _⟩ := hc
    exact ⟨ca, cc, h⟩
  clear hg hc hb
  have hbx := Bx.new w f (.slice ca f.cs.length cc)
  have HS1 : Hid (Since w (w.alloc (.cells #[.string f.nm, .int .i64 f.sz, .slice ca f.cs.length cc] 153))) := (Since.refl w).alloc _
  unfold fval
  go_enter Tryz.func194, Tryz.ntmps194
  go_upto_region 1 with fail
  have HBX : Hid (Bx (w.alloc (.cells #[.string f.nm, .int .i64 f.sz, .slice ca f.cs.length cc] 153)) w.heap.size f (.slice ca f.cs.length cc)) := hbx
  have x0 := Cel.cell hbx 0 (by omega)
  have x1 := Cel.cell hbx 1 (by omega)
  clear hbx
  generalize w.alloc (.cells #[.string f.nm, .int .i64 f.sz, .slice ca f.cs.length cc] 153) = w1 at *
  go_cut [3] (fun t3 wx => wx.ownsRow w.heap.size 9 1 t3 2 (txts ((words f).take 2)) ∧ Since w1 wx)
  case first =>
    have hit := fun W (hW : Since w1 W) => itoa_any f.sz (by have := HG.out.sz0; omega) (by have := HG.out.sz1; omega) W (HL.out.since (HS1.out.trans hW))
    have HIT : Hid (∀ W, Since w1 W → Calls Tryz.prog 185 #[.int .i64 f.sz] W fun e w' => e = .returned (.string ⟨(Lib.itoa f.sz).toArray⟩) ∧ Since W w') := hit
    clear hit
    go_region_held3 (fun W => W.cell? ⟨w.heap.size, 0, none⟩ = some (.string f.nm) ∧ W.cell? ⟨w.heap.size, 1, none⟩ = some (.int .i64 f.sz)) (first | exact bx01 HBX.out | exact bx01 (HBX.out.since (Since.refl _).drew) | exact bx01 (HBX.out.since (((Since.refl _).drew).trans h2)) | exact bx01 (HBX.out.since ((((Since.refl _).drew).trans h2).alloc _))) (first
      | (go_simp; go_at_call 185; refine (HIT.out _ (Since.refl _).drew).mono ?_; rintro e w2 ⟨rfl, h2⟩; dsimp only))
    go_wp2_with fail
    go_meet
    case rel =>
      refine ⟨?_, (((Since.refl _).drew).trans h2).alloc _⟩
      have := World.ownsRow_lit (base := w.heap.size) (e := 9) (size := 1) w2 #[Value.string f.nm, Value.string ⟨(Lib.itoa f.sz).toArray⟩] 2 (by have := HS1.out.size; have := h2.size; simp at this; omega) (by decide) (by rfl)
      simpa [txts, words] using this
  case rest =>
  obtain ⟨hrow, hs2⟩ := hcut
  have HR : Hid (wc.ownsRow w.heap.size 9 1 u3 2 (txts ((words f).take 2))) := hrow
  have HS2 : Hid (Since w wc) := HS1.out.trans hs2
  have x2 := Cel.cell (HBX.out.since hs2) 2 (by omega)
  clear hrow hs2 x0 x1 HBX HS1
  obtain ⟨i0, hi, hz0, hz1, hz2⟩ := info_parts info9
  have HI : Hid (Tryz.prog.info? 9 = some i0 ∧ i0.zero = some (.string ByteArray.empty) ∧ i0.size = 1 ∧ i0.bytes = 16) := ⟨hi, hz0, hz1, hz2⟩
  clear hi hz0 hz1 hz2
  go_wp2_with fail
  clear x2
  go_loopw [15, 3, 5] (fun i x _ wr => ∃ k : Nat, k ≤ f.cs.length ∧ i = .int .i64 k ∧ wr.ownsRow w.heap.size 9 1 x (2 + k) (txts ((words f).take (2 + k))) ∧ Since w wr) (fun i _ _ _ => f.cs.length - (intOf i).toNat)
  case atStart => exact ⟨0, by omega, rfl, HR.out, HS2.out⟩
  case round =>
    obtain ⟨k, hk, rfl, hx, hs⟩ := hrel
    have HX : Hid (wr.ownsRow w.heap.size 9 1 u3 (2 + k) (txts ((words f).take (2 + k)))) := hx
    have HSK : Hid (Since w wr) := hs
    clear hx hs
    have hcl := HG.out.cs_le
    by_cases hlt : k < f.cs.length
    · have hlt2 : (k : Int) < f.cs.length := by omega
      obtain ⟨a', c', hv, _, h2⟩ := HC.out.since HSK.out
      obtain ⟨kb, ko, ha, _, hcell⟩ := h2 (by omega)
      injection hv with e1 e2 e3
      subst e1
      subst ha
      have q := hcell k f.cs[k] (List.getElem?_eq_getElem hlt)
      have HW : Hid ((words f).take (2 + (k + 1)) = (words f).take (2 + k) ++ [Lib.itoa f.cs[k]]) := words_take f k hlt
      have hrg := HG.out.cell f.cs[k] (List.getElem_mem hlt)
      clear hcell h2 e2 e3
      generalize f.cs[k] = c at *
      go_wp2_with fail
      refine (itoa_any c (by omega) (by omega) _ (HL.out.since HSK.out)).mono ?_
      rintro e w2 ⟨rfl, h2⟩
      have HX2 : Hid (w2.ownsRow w.heap.size 9 1 u3 (2 + k) (txts ((words f).take (2 + k)))) := owns_since HX.out h2
      have HS3 : Hid (Since w w2) := HSK.out.trans h2
      clear h2 q
      go_wp2_with (at_builtin; refine wpList_append_own _ (by rfl) _ _ _ (by rfl) w.heap.size 9 i0 _ 1 16 Tryz.underlying65 HI.out.1 HI.out.2.1 HI.out.2.2.1 HI.out.2.2.2 (by rfl) (by decide) _ (2 + k) (txts ((words f).take (2 + k))) (by rfl) (World.ownsRow.alloc HX2.out _) ⟨w2.heap.size, 0, none⟩ 1 1 [.string ⟨(Lib.itoa c).toArray⟩] (by rfl) (by rfl) (World.news_of_block (heap_alloc_new w2 _)) (by simp [Value.oneCell']) (by unfold maxLen; omega) (by omega) (by have := HS3.out.size; simp; omega) ?_; intro x' w3 hown1 hgrow _)
      have HO1 : Hid (w3.ownsRow w.heap.size 9 1 x' (2 + (k + 1)) (txts ((words f).take (2 + (k + 1))))) := by
        show World.ownsRow _ _ _ _ _ _ _
        rw [HW.out, show txts ((words f).take (2 + k) ++ [Lib.itoa c]) = txts ((words f).take (2 + k)) ++ [.string ⟨(Lib.itoa c).toArray⟩] from by simp [txts], show 2 + (k + 1) = 2 + k + 1 by omega]
        exact hown1
      have HG1 : Hid (Since w w3) := Below.grown (Since.alloc HS3.out _) hgrow (by have := HS3.out.size; simp; omega) (fun j hj => (HX2.out.lt j hj).1)
      clear hown1 hgrow
      go_roundw
      case rel => exact ⟨k + 1, by omega, by go_num, HO1.out, HG1.out⟩
      case measure => simp [intOf]; omega
    · have hke : k = f.cs.length := by omega
      have HE : Hid ((words f).take (2 + k) = words f) := List.take_of_length_le (by simp [words]; omega)
      have HLEN : Hid ((words f).length = 2 + k) := by show (words f).length = 2 + k; simp [words]; omega
      have HX2 : Hid (wr.ownsRow w.heap.size 9 1 u3 (words f).length (txts (words f))) := by
        show World.ownsRow _ _ _ _ _ _ _
        have := HX.out
        rw [HE.out] at this
        rw [HLEN.out]
        exact this
      have HLL : Hid ((Lib.join (words f) [32]).length ≤ 100) := by
        have h1 := HG.out.line_len
        have h2 : (line f).length = (Lib.join (words f) [32]).length + 1 := by simp [line]
        show (Lib.join (words f) [32]).length ≤ 100
        omega
      have HLN : Hid (line f = Lib.join (words f) [32] ++ [10]) := rfl
      subst hke
      go_wp2_with fail
      refine (join_any _ w.heap.size (words f) _ HX2.out (by simp [words]) (by have := HLL.out; omega) (by have := HLEN.out; omega)).mono ?_
      rintro e w2 ⟨rfl, h2⟩
      have HS3 : Hid (Since w w2) := HSK.out.trans h2
      clear h2
      have HJ : Hid ((⟨(Lib.join (words f) [32]).toArray⟩ : ByteArray).size ≤ 100) := by
        show (⟨(Lib.join (words f) [32]).toArray⟩ : ByteArray).size ≤ 100
        rw [show (⟨(Lib.join (words f) [32]).toArray⟩ : ByteArray).size = (Lib.join (words f) [32]).length from List.size_toArray]
        exact HLL.out
      have HV : Hid ((⟨(Lib.join (words f) [32]).toArray⟩ : ByteArray) ++ ⟨#[10]⟩ = ⟨(line f).toArray⟩) := by
        show (⟨(Lib.join (words f) [32]).toArray⟩ : ByteArray) ++ ⟨#[10]⟩ = ⟨(line f).toArray⟩
        rw [HLN.out]
        apply ByteArray.ext
        simp [ByteArray.data_append]
      clear HLL HLN
      generalize (⟨(Lib.join (words f) [32]).toArray⟩ : ByteArray) = J at *
      have hj := HJ.out
      go_wp2_with fail
      go_ret
      exact ⟨by rw [← HV.out]; rfl, HS3.out⟩
end En
end Go.Proofs.YtlgocfgnfdnloaaGreatDoor
end
section
namespace Go.Proofs.YtlgocfgnfdnloaaGreatDoor
set_option maxRecDepth 100000
namespace En
open Go.RowKit
def errV (n : Int) : Value := .iface 32 (.int .i64 n)
theorem print_no (l : List Fi) (v : Value) (w : World) (hl : Fls w v l) (hz : Sized l) (hr : right l = false) :
    Calls Tryz.prog 125 #[v] w fun e w' => e = .returned (.tuple #[.string ⟨#[]⟩, errV 1]) ∧ Since w w' := by
  have hra := right_any l v w hl hz
  rw [hr] at hra
  go_enter Tryz.func125, Tryz.ntmps125
  go_wp2_with fail
  refine hra.mono ?_
  rintro e w1 ⟨rfl, h1⟩
  go_wp2_with fail
  go_ret2
  exact ⟨rfl, h1⟩
theorem print_take (l : List Fi) (k : Nat) (f : Fi) (h : l[k]? = some f) : print (l.take (k + 1)) = print (l.take k) ++ line f := by
  rw [List.take_add_one, h]
  simp [print]
theorem print_take_le (l : List Fi) (k : Nat) : (print (l.take k)).length ≤ (print l).length := by
  have : print l = print (l.take k) ++ print (l.drop k) := by
    unfold print
    rw [← List.flatten_append, ← List.map_append, List.take_append_drop]
  rw [this, List.length_append]
  omega
set_option maxHeartbeats 4000000 in
theorem print_yes (l : List Fi) (v : Value) (w : World) (hl : Fls w v l) (hz : Sized l) (hb : Lb w) (hr : right l = true) :
    Calls Tryz.prog 125 #[v] w fun e w' => e = .returned (.tuple #[.string ⟨(print l).toArray⟩, .nilIface]) ∧ Since w w' := by
  have hra := right_any l v w hl hz
  rw [hr] at hra
  obtain ⟨a, c, rfl, hcap, hrest⟩ := hl
  have HL : Hid (Fls w (.slice a l.length c) l) := ⟨a, c, rfl, hcap, hrest⟩
  have HB : Hid (Lb w) := hb
  have HP : Hid ((print l).length ≤ 200) := print_fits hr
  have HG : Hid (∀ f, f ∈ l → Good f) := right_good hr
  have hn8 : l.length ≤ 8 := by
    rw [right, Bool.and_eq_true, decide_eq_true_eq] at hr
    exact hr.1
  clear hrest hb hz hr
  go_enter Tryz.func125, Tryz.ntmps125
  go_wp2_with fail
  refine hra.mono ?_
  rintro e w1 ⟨rfl, h1⟩
  have HS1 : Hid (Since w w1) := h1
  clear h1 hra
  go_upto_region 4 with fail
  have hb0 : Lib.IsBuilderF 189 5 w1.heap.size w1.heap.size [] (w1.alloc (.cells #[.pointer none, .slice none 0 0] 189)) := Lib.IsBuilderF.of (Lib.fresh_isBuilder 189 5 w1)
  have HB0 : Hid (Lib.IsBuilderF 189 5 w1.heap.size w1.heap.size [] (w1.alloc (.cells #[.pointer none, .slice none 0 0] 189))) := hb0
  have HS2 : Hid (Since w1 (w1.alloc (.cells #[.pointer none, .slice none 0 0] 189))) := (Since.refl _).alloc _
  clear hb0
  generalize w1.alloc (.cells #[.pointer none, .slice none 0 0] 189) = w2 at *
  go_wp2_with fail
  go_loopw [13, 6] (fun i _ wr => ∃ k : Nat, k ≤ l.length ∧ i = .int .i64 k ∧ Lib.IsBuilderF 189 5 w1.heap.size w1.heap.size (Lib.byteCells (print (l.take k))) wr ∧ Since w1 wr) (fun i _ _ => l.length - (intOf i).toNat)
  case atStart => exact ⟨0, by omega, rfl, by simpa [print, Lib.byteCells] using HB0.out, HS2.out⟩
  case round =>
    obtain ⟨k, hk, rfl, hbk, hs⟩ := hrel
    have HBK : Hid (Lib.IsBuilderF 189 5 w1.heap.size w1.heap.size (Lib.byteCells (print (l.take k))) wr) := hbk
    have HSK : Hid (Since w1 wr) := hs
    clear hbk hs
    by_cases hlt : k < l.length
    · have hlt2 : (k : Int) < l.length := by omega
      have hE : Hid (l[k]? = some l[k]) := List.getElem?_eq_getElem hlt
      have HGF : Hid (Good l[k]) := HG.out l[k] (List.getElem_mem hlt)
      have HPT : Hid (print (l.take (k + 1)) = print (l.take k) ++ line l[k]) := print_take l k l[k] hE.out
      have HPL : Hid ((print (l.take (k + 1))).length ≤ 200) := Nat.le_trans (print_take_le l (k + 1)) HP.out
      generalize l[k] = f at *
      obtain ⟨kb, ko, cv, rfl, hi, hkb, q0, q1, q2⟩ := (HL.out.since (HS1.out.trans HSK.out)).at_ hE.out
      have HI : Hid (Ints wr cv f.cs) := hi
      clear hi
      obtain ⟨ca, cc, rfl⟩ : ∃ ca cc, cv = .slice ca f.cs.length cc := by
        obtain ⟨ca, cc, h, _⟩ := HI.out
        exact ⟨ca, cc, h⟩
      have HSA : Hid (Since wr (wr.alloc (.cells #[.string f.nm, .int .i64 f.sz, .slice ca f.cs.length cc] 153))) := (Since.refl _).alloc _
      go_wp2_with fail
      refine (line_any f (.slice ca f.cs.length cc) _ HGF.out (HI.out.since HSA.out) (HB.out.since ((HS1.out.trans HSK.out).trans HSA.out))).mono ?_
      rintro e w3 ⟨rfl, h3⟩
      have HB3 : Hid (Lib.IsBuilderF 189 5 w1.heap.size w1.heap.size (Lib.byteCells (print (l.take k))) w3) := builder_since HBK.out (HSA.out.trans h3)
      have HS3 : Hid (Since w1 w3) := (HSK.out.trans HSA.out).trans h3
      clear h3 q0 q1 q2
      have HLS : Hid ((⟨(line f).toArray⟩ : ByteArray).size = (line f).length) := List.size_toArray
      have hll : (Lib.byteCells (print (l.take k))).length + (⟨(line f).toArray⟩ : ByteArray).size ≤ 140737488355328 := by
        rw [Lib.byteCells_length, HLS.out]
        have := HPL.out
        rw [HPT.out, List.length_append] at this
        omega
      have HLL : Hid ((Lib.byteCells (print (l.take k))).length + (⟨(line f).toArray⟩ : ByteArray).size ≤ 140737488355328) := hll
      clear hll
      go_wp2_with fail
      refine (writeString_any w1.heap.size w1.heap.size _ ⟨(line f).toArray⟩ _ HB3.out HLL.out HS3.out.size).mono ?_
      rintro e w4 ⟨rfl, h4, b4, _⟩
      have HS4 : Hid (Since w1 w4) := Below.trans HS3.out b4
      have HB4 : Hid (Lib.IsBuilderF 189 5 w1.heap.size w1.heap.size (Lib.byteCells (print (l.take (k + 1)))) w4) := by
        refine Or.inr ?_
        rw [Lib.strCells_eq] at h4
        rw [HPT.out]
        simpa [Lib.byteCells] using h4
      clear h4 b4
      go_wp2_with fail
      go_roundw
      case rel => exact ⟨k + 1, by omega, by go_num, HB4.out, HS4.out⟩
      case measure => simp [intOf]; omega
    · have hke : k = l.length := by omega
      subst hke
      rw [List.take_length] at HBK
      go_wp2_with fail
      refine (Tryz.Builder_String_any_k w1.heap.size w1.heap.size _ _ HBK.out HSK.out.size).mono ?_
      rintro e w3 ⟨rfl, _, b3, _⟩
      have HS3 : Hid (Since w1 w3) := Below.trans HSK.out b3
      clear b3
      go_wp2_with fail
      go_ret2
      exact ⟨rfl, HS1.out.trans HS3.out⟩
end En
end Go.Proofs.YtlgocfgnfdnloaaGreatDoor
end
section
namespace Go.Proofs.YtlgocfgnfdnloaaGreatDoor
set_option maxRecDepth 100000
namespace En
open Go.RowKit
theorem results_row2 {fn : Func} {p q : Tmp} {ty : TypeId} (h : fn.results = #[.cell p ty, .tmp q]) (tmps : Array Value) (P : Program) (w : World) (b : Nat) (cs : List Value) (d : TypeDesc) (v : Value)
    (hx : tmps.getD p undef = .pointer (some ⟨b, 0, none⟩)) (hc : w.rangeAt b 0 cs) (hu : P.underlying ty = some d) (hd : d.isRow = true) (hi : (P.info? ty).map (·.size) = some cs.length) (hq : tmps.getD q undef = v) :
    (results fn tmps).run P w = .ok (.tuple #[.agg cs.toArray, v]) w := by
  simp only [results, h]
  have h1 := run_loadVar_mid (P := P) w b 0 ty cs d hc hu hd hi
  have h2 : tmps[p]?.getD undef = .pointer (some ⟨b, 0, none⟩) := by simpa using hx
  have h3 : tmps[q]?.getD undef = v := by simpa using hq
  simp [asAddr, h2, h1, h3]
theorem nums_snoc : ∀ (l : List (List UInt8)) (t : List UInt8), nums? (l ++ [t]) = (match nums? l, num? t with | some L, some v => some (L ++ [v]) | _, _ => none)
  | [], t => by
    simp only [List.nil_append, nums?]
    cases num? t <;> rfl
  | a :: r, t => by
    rw [List.cons_append, nums?, nums_snoc r t]
    simp only [nums?]
    cases num? a with
    | none => cases nums? r <;> cases num? t <;> rfl
    | some v => cases nums? r <;> cases num? t <;> rfl
theorem nums_pre : ∀ (l : List (List UInt8)) (k : Nat), nums? (l.take k) = none → nums? l = none
  | [], k, h => by simpa using h
  | a :: r, 0, h => by simp [nums?] at h
  | a :: r, k + 1, h => by
    rw [List.take_succ_cons, nums?] at h
    rw [nums?]
    cases hn : num? a with
    | none => rfl
    | some v =>
      rw [hn] at h
      cases hr : nums? (r.take k) with
      | none => rw [nums_pre r k hr]
      | some L => rw [hr] at h; cases h
def ivals (L : List Int) : List Value := L.map (fun x => .int .i64 x)
def wordsB (t : ByteArray) : List ByteArray := Lib.splitB ⟨#[32]⟩ 0 (min 26 (t.size + 1) - 1) t
theorem wordsB_data (t : ByteArray) : (wordsB t).map (fun x => x.data.toList) = Lib.splitK [32] 0 (min 26 (t.data.toList.length + 1) - 1) t.data.toList := by
  unfold wordsB
  rw [Lib.splitB_data]
  congr 3
theorem readP_eq (t : ByteArray) : readP t.data.toList = readW ((wordsB t).map (fun x => x.data.toList)) := by
  unfold readP
  rw [wordsB_data]
theorem wordsB_cap (t : ByteArray) : ((wordsB t).length : Int) ≤ (min 26 (t.size + 1) : Nat) := by
  have := Lib.splitB_length_le ⟨#[32]⟩ 0 (min 26 (t.size + 1) - 1) t
  unfold wordsB
  omega
theorem wordsB_len (t : ByteArray) : (wordsB t).length ≤ 26 ∧ 1 ≤ (wordsB t).length := by
  unfold wordsB
  constructor
  · have := Lib.splitB_length_le ⟨#[32]⟩ 0 (min 26 (t.size + 1) - 1) t
    omega
  · generalize min 26 (t.size + 1) - 1 = k
    cases k with
    | zero => rw [Lib.splitB_zero]; simp
    | succ k => unfold Lib.splitB; split <;> simp
theorem splitB_small (sep : ByteArray) : ∀ (k : Nat) (s : ByteArray) (n : Nat), s.size ≤ n → ∀ x, x ∈ Lib.splitB sep 0 k s → x.size ≤ n
  | 0, s, n, h, x, hx => by rw [Lib.splitB_zero, List.mem_singleton] at hx; subst hx; exact h
  | k + 1, s, n, h, x, hx => by
    unfold Lib.splitB at hx
    split at hx
    · rw [List.mem_singleton] at hx; subst hx; exact h
    · rcases List.mem_cons.1 hx with rfl | hx
      · rw [ByteArray.size_extract]; omega
      · exact splitB_small sep k _ n (by rw [ByteArray.size_extract]; omega) x hx
theorem info3' : (Tryz.prog.info? 3).map (fun i => (i.zero, i.size, i.bytes)) = some (some (.int .i64 0), 1, 8) := by kernel_rfl
theorem bx_set {w : World} {b : Nat} {g : Nat → Value} (h : Cel w b 3 g) (x y z : Value) : Cel (((w.setCell ⟨b, 0, none⟩ x).setCell ⟨b, 1, none⟩ y).setCell ⟨b, 2, none⟩ z) b 3 (fun j => (#[x, y, z] : Array Value).getD j undef) :=
  (((h.set 0 (by omega) x).set 1 (by omega) y).set 2 (by omega) z).congr (fun j hj => by
    obtain rfl | rfl | rfl : j = 0 ∨ j = 1 ∨ j = 2 := by omega
    all_goals rfl)
theorem bx_range {w : World} {b : Nat} {x y z : Value} (h : Cel w b 3 (fun j => (#[x, y, z] : Array Value).getD j undef)) : w.rangeAt b 0 [x, y, z] := by
  have := h.range 0 3 (by omega)
  exact this
theorem make_ints (w : World) : (Instr.makeSlice 61 (.int .i64 0) (.int .i64 24)).run Tryz.prog w = .ok (.slice (some ⟨w.heap.size, 0, none⟩) 0 24) (w.alloc (.cells (madeCells #[Value.int .i64 0] 24) 3)) := by
  obtain ⟨i, hi, hz, hs, hb⟩ := info_parts info3'
  have h := run_makeSlice (P := Tryz.prog) w 61 3 i _ Tryz.underlying61 hi hz .i64 .i64 0 24 (by omega) (by omega) (by rw [hs]; omega) (by rw [hb]; omega) (by omega)
  rw [hs, Nat.mul_one] at h
  simpa [Value.cells] using h
theorem take_next {α : Type} (l : List α) (k : Nat) (h : k < l.length) : l.take (k + 1) = l.take k ++ [l[k]] := by
  rw [List.take_add_one, List.getElem?_eq_getElem h]
  rfl
def noFile : Value := .agg #[.string ⟨#[]⟩, .int .i64 0, .slice none 0 0]
set_option maxHeartbeats 8000000 in
theorem read_any (t : ByteArray) (ht : t.size ≤ 1000) (w : World) (hb : Lb w) :
    Calls Tryz.prog 124 #[.string t] w fun e w' => ((∃ f cv, readP t.data.toList = some f ∧ e = .returned (.tuple #[fval f cv, .bool true]) ∧ Ints w' cv f.cs ∧ ∀ k o n c, cv = .slice (some ⟨k, o, none⟩) n c → w.heap.size ≤ k ∧ ∃ cur fz, w'.heap[k]? = some (.cells cur 3 fz)) ∨ (readP t.data.toList = none ∧ e = .returned (.tuple #[noFile, .bool false]))) ∧ Since w w' := by
  obtain ⟨hw26, hw1⟩ := wordsB_len t
  have HRP : Hid (readP t.data.toList = readW ((wordsB t).map (fun x => x.data.toList))) := readP_eq t
  have HSM : Hid (∀ x, x ∈ wordsB t → x.size ≤ 1000) := splitB_small _ _ t 1000 ht
  have HB : Hid (Lb w) := hb
  have hsp := fun W (hW : Lb W) (m : Int) (hm : W.cell? ⟨1, 0, none⟩ = some (.int .i64 m)) => Tryz.strings_SplitN t ⟨#[32]⟩ 26 m W (by omega) hm (by decide) (by omega) (by omega)
  have hcs : Lib.cellsOf (wordsB t) (min 26 (t.size + 1)) = Lib.cellsOf (wordsB t) (min 26 (t.size + 1)) := rfl
  have HSP : Hid (∀ W, Lb W → Calls Tryz.prog 192 #[.string t, .string ⟨#[32]⟩, .int .i64 26] W fun e w' => e = .returned (.slice (some ⟨W.heap.size, 0, none⟩) (wordsB t).length (min 26 (t.size + 1))) ∧ w' = W.alloc (.cells (Lib.cellsOf (wordsB t) (min 26 (t.size + 1))) 9)) := fun W hW => by
    obtain ⟨m, hm⟩ := hW.max
    exact hsp W hW m hm
  clear hsp hcs hb
  have HCL : Hid (∀ j (h : j < (wordsB t).length), (Lib.cellsOf (wordsB t) (min 26 (t.size + 1)))[j]? = some (.string (wordsB t)[j])) := fun j h => by
    unfold Lib.cellsOf
    rw [List.getElem?_toArray, List.getElem?_append_left (by simpa using h), List.getElem?_map, List.getElem?_eq_getElem h]
    rfl
  have HMN : Hid (((wordsB t).length : Int) ≤ (min 26 (t.size + 1) : Nat)) := wordsB_cap t
  generalize wordsB t = W at *
  generalize Lib.cellsOf W (min 26 (t.size + 1)) = cs at *
  generalize min 26 (t.size + 1) = cp at *
  have hbx : Cel (w.alloc (.cells #[.string ⟨#[]⟩, .int .i64 0, .slice none 0 0] 153)) w.heap.size 3 (fun j => (#[.string ⟨#[]⟩, .int .i64 0, .slice none 0 0] : Array Value).getD j undef) := Cel.new w 3 _ _ _ (fun j hj => by
    obtain rfl | rfl | rfl : j = 0 ∨ j = 1 ∨ j = 2 := by omega
    all_goals rfl) _ rfl
  have HBX : Hid (Cel (w.alloc (.cells #[.string ⟨#[]⟩, .int .i64 0, .slice none 0 0] 153)) w.heap.size 3 (fun j => (#[.string ⟨#[]⟩, .int .i64 0, .slice none 0 0] : Array Value).getD j undef)) := hbx
  have HS1 : Hid (Since w (w.alloc (.cells #[.string ⟨#[]⟩, .int .i64 0, .slice none 0 0] 153))) := (Since.refl w).alloc _
  clear hbx
  go_enter Tryz.func124, Tryz.ntmps124
  go_upto_region 1 with fail
  generalize w.alloc (.cells #[.string ⟨#[]⟩, .int .i64 0, .slice none 0 0] 153) = w1 at *
  go_wp2_with fail
  refine (HSP.out _ (HB.out.since HS1.out)).mono ?_
  rintro e w2 ⟨rfl, hw2⟩
  have HS2 : Hid (Since w1 w2) := by show Since w1 w2; rw [hw2]; exact (Since.refl _).alloc _
  have HW2 : Hid (∀ j (h : j < W.length), w2.cell? ⟨w1.heap.size, j, none⟩ = some (.string W[j])) := fun j h => by
    rw [hw2, World.cell?_alloc_new]
    exact HCL.out j h
  clear hw2 HSP HCL
  have b0 := (HBX.out.since HS2.out).cell 0 (by omega)
  have b1 := (HBX.out.since HS2.out).cell 1 (by omega)
  have b2 := (HBX.out.since HS2.out).cell 2 (by omega)
  have f0 := (HBX.out.since HS2.out).frozen 0 (by omega)
  have f1 := (HBX.out.since HS2.out).frozen 1 (by omega)
  have f2 := (HBX.out.since HS2.out).frozen 2 (by omega)
  by_cases h2 : W.length < 2
  · have h2' : (W.length : Int) < 2 := by omega
    have h2d : decide ((W.length : Int) < 2) = true := decide_eq_true h2'
    have HN : Hid (readP t.data.toList = none) := by
      show readP t.data.toList = none
      rw [HRP.out]
      match W, h2, hw1 with
      | [x], _, _ => rfl
    have HF : Hid (Cel (((w2.setCell ⟨w.heap.size, 0, none⟩ (.string ⟨#[]⟩)).setCell ⟨w.heap.size, 1, none⟩ (.int .i64 0)).setCell ⟨w.heap.size, 2, none⟩ (.slice none 0 0)) w.heap.size 3 (fun j => (#[.string ⟨#[]⟩, .int .i64 0, .slice none 0 0] : Array Value).getD j undef)) := bx_set (HBX.out.since HS2.out) _ _ _
    go_wp2_with fail
    refine bodyPost_ret (results_row2 Tryz.results124 _ _ _ w.heap.size _ _ _ (by rfl) (bx_range HF.out) Tryz.underlying153 (by rfl) (by kernel_rfl) rfl) rfl ?_
    exact ⟨Or.inr ⟨HN.out, rfl⟩, (((HS1.out.trans HS2.out).setCell (p := ⟨w.heap.size, 0, none⟩) (Nat.le_refl _) _).setCell (p := ⟨w.heap.size, 1, none⟩) (Nat.le_refl _) _).setCell (p := ⟨w.heap.size, 2, none⟩) (Nat.le_refl _) _⟩
  · have h2' : 2 ≤ (W.length : Int) := by omega
    have h2d : decide ((W.length : Int) < 2) = false := decide_eq_false (by omega)
    have q0 := HW2.out 0 (by omega)
    obtain ⟨x, R, rfl⟩ : ∃ x R, W = x :: R := by
      cases W with
      | nil => simp at hw1
      | cons x R => exact ⟨x, R, rfl⟩
    have hx : x.size ≤ 1000 := HSM.out x (by simp)
    have q0 : w2.cell? ⟨w1.heap.size, 0, none⟩ = some (.string x) := q0
    have hnm := name_any x
    have HR1 : Hid (1 ≤ R.length) := by show 1 ≤ R.length; simp at h2; omega
    cases hn : nameB x.data.toList with
    | false =>
      rw [hn] at hnm
      have HN : Hid (readP t.data.toList = none) := by
        show readP t.data.toList = none
        rw [HRP.out]
        match R, HR1.out with
        | y :: r, _ => simp only [List.map_cons, readW, hn]; rfl
      have HF : Hid (Cel (((w2.setCell ⟨w.heap.size, 0, none⟩ (.string ⟨#[]⟩)).setCell ⟨w.heap.size, 1, none⟩ (.int .i64 0)).setCell ⟨w.heap.size, 2, none⟩ (.slice none 0 0)) w.heap.size 3 (fun j => (#[.string ⟨#[]⟩, .int .i64 0, .slice none 0 0] : Array Value).getD j undef)) := bx_set (HBX.out.since HS2.out) _ _ _
      go_wp2_with (go_at_call 40; refine (hnm _).mono ?_; rintro e w' ⟨rfl, rfl⟩)
      refine bodyPost_ret (results_row2 Tryz.results124 _ _ _ w.heap.size _ _ _ (by rfl) (bx_range HF.out) Tryz.underlying153 (by rfl) (by kernel_rfl) rfl) rfl ?_
      exact ⟨Or.inr ⟨HN.out, rfl⟩, (((HS1.out.trans HS2.out).setCell (p := ⟨w.heap.size, 0, none⟩) (Nat.le_refl _) _).setCell (p := ⟨w.heap.size, 1, none⟩) (Nat.le_refl _) _).setCell (p := ⟨w.heap.size, 2, none⟩) (Nat.le_refl _) _⟩
    | true =>
      rw [hn] at hnm
      clear b0 b1 b2 f0 f1 f2
      have HNM : Hid (nameB x.data.toList = true) := hn
      clear hn
      have h3d : decide ((R.length : Int) + 1 < 2) = false := decide_eq_false (by have := HR1.out; omega)
      have hcap : (R.length : Int) + 1 ≤ cp := by have := HMN.out; simp at this; omega
      have hcap2 : (1 : Int) ≤ (R.length : Int) + 1 := by omega
      have hrl : R.length ≤ 25 := by simp at hw26; omega
      have hcp1 : ¬ cp = 1 := by have := HR1.out; omega
      go_wp2_with fail
      refine (hnm _).mono ?_
      rintro e wy ⟨rfl, hwy⟩
      rw [hwy]
      clear hwy wy hnm
      have hmk := make_ints w2
      go_upto_region 5 with fail
      have HM3 : Hid ((w2.alloc (.cells (madeCells #[Value.int .i64 0] 24) 3)).ownsRow w2.heap.size 3 1 (.slice (some ⟨w2.heap.size, 0, none⟩) 0 24) 0 []) := World.ownsRow_made w2 _ 24 (Nat.le_refl _) (by decide) (by simp [madeCells])
      have HS3 : Hid (Since w2 (w2.alloc (.cells (madeCells #[Value.int .i64 0] 24) 3))) := (Since.refl _).alloc _
      clear hmk
      generalize w2.alloc (.cells (madeCells #[Value.int .i64 0] 24) 3) = w3 at *
      go_wp2_with fail
      obtain ⟨i0, hi, hz0, hz1, hz2⟩ := info_parts info3'
      have HI : Hid (Tryz.prog.info? 3 = some i0 ∧ i0.zero = some (.int .i64 0) ∧ i0.size = 1 ∧ i0.bytes = 8) := ⟨hi, hz0, hz1, hz2⟩
      clear hi hz0 hz1 hz2
      go_loopw [27, 5, 7, 8, 9] (fun i x _ _ _ wr => ∃ (k : Nat) (L : List Int), k ≤ R.length ∧ i = .int .i64 k ∧ nums? ((R.take k).map (fun x => x.data.toList)) = some L ∧ L.length = k ∧ wr.ownsRow w2.heap.size 3 1 x k (ivals L) ∧ Since w2 wr) (fun i _ _ _ _ _ => R.length - (intOf i).toNat)
      case atStart => exact ⟨0, [], by omega, rfl, rfl, rfl, HM3.out, HS3.out⟩
      case round =>
        obtain ⟨k, L, hk, rfl, hnu, hLk, hown, hs⟩ := hrel
        have HNU : Hid (nums? ((R.take k).map (fun x => x.data.toList)) = some L) := hnu
        have HLK : Hid (L.length = k) := hLk
        have HOW : Hid (wr.ownsRow w2.heap.size 3 1 u5 k (ivals L)) := hown
        have HSK : Hid (Since w2 wr) := hs
        clear hnu hLk hown hs
        by_cases hlt : k < R.length
        · have hlt2 : (k : Int) < R.length := by omega
          have q1 : wr.cell? ⟨w1.heap.size, 1 + k, none⟩ = some (.string R[k]) := by
            have := HW2.out (k + 1) (by simp; omega)
            rw [Nat.add_comm, HSK.out.cell (p := ⟨w1.heap.size, k + 1, none⟩) (World.block_lt_of_cell? _ _ this), this]
            rfl
          have HT : Hid ((R.take (k + 1)).map (fun x => x.data.toList) = (R.take k).map (fun x => x.data.toList) ++ [R[k].data.toList]) := by
            show (R.take (k + 1)).map (fun x => x.data.toList) = _
            rw [take_next R k hlt, List.map_append]
            rfl
          have HSZ : Hid (R[k].size ≤ 1000) := HSM.out R[k] (List.mem_cons_of_mem _ (List.getElem_mem hlt))
          generalize R[k] = y at *
          clear q0
          go_wp2_with fail
          refine (atoi_any y (by have := HSZ.out; omega) _ (HB.out.since ((HS1.out.trans HS2.out).trans HSK.out))).mono ?_
          rintro e w4 ⟨⟨er, rfl, her⟩, h4⟩
          have HS4 : Hid (Since w2 w4) := HSK.out.trans h4
          have HOW4 : Hid (w4.ownsRow w2.heap.size 3 1 u5 k (ivals L)) := owns_since HOW.out h4
          clear h4 q1
          rcases her with ⟨v, hv, rfl⟩ | ⟨hv, te, pe, rfl⟩
          · have HE : Hid (nums? ((R.take (k + 1)).map (fun x => x.data.toList)) = some (L ++ [v])) := by
              show nums? ((R.take (k + 1)).map (fun x => x.data.toList)) = _
              rw [HT.out, nums_snoc, HNU.out, hv]
            have HVN : Hid (numR y.data.toList = v) := by
              show numR y.data.toList = v
              unfold num? at hv
              unfold numR
              cases h : Lib.atoiAll y.data.toList with
              | ok u => rw [h] at hv; injection hv
              | «syntax» => rw [h] at hv; cases hv
              | range => rw [h] at hv; cases hv
            rw [HVN.out]
            clear hv HVN
            go_wp2_with (at_builtin; refine wpList_append_own _ (by rfl) _ _ _ (by rfl) w2.heap.size 3 i0 _ 1 8 Tryz.underlying61 HI.out.1 HI.out.2.1 HI.out.2.2.1 HI.out.2.2.2 (by rfl) (by decide) _ k (ivals L) (by rfl) (World.ownsRow.alloc HOW4.out _) ⟨w4.heap.size, 0, none⟩ 1 1 [.int .i64 v] (by rfl) (by rfl) (World.news_of_block (heap_alloc_new w4 _)) (by simp [Value.oneCell']) (by unfold maxLen; omega) (by omega) (by have := HS4.out.size; simp; omega) ?_; intro x' w5 hown1 hgrow _)
            have HO1 : Hid (w5.ownsRow w2.heap.size 3 1 x' (k + 1) (ivals (L ++ [v]))) := by
              show World.ownsRow _ _ _ _ _ _ _
              rw [show ivals (L ++ [v]) = ivals L ++ [.int .i64 v] from by simp [ivals]]
              exact hown1
            have HG1 : Hid (Since w2 w5) := Below.grown (Since.alloc HS4.out _) hgrow (by have := HS4.out.size; simp; omega) (fun j hj => (HOW4.out.lt j hj).1)
            clear hown1 hgrow
            go_roundw
            case rel => exact ⟨k + 1, L ++ [v], by omega, by go_num, HE.out, by simp [HLK.out], HO1.out, HG1.out⟩
            case measure => simp [intOf]; omega
          · have HN : Hid (readP t.data.toList = none) := by
              have h1 : nums? (R.map (fun x => x.data.toList)) = none := nums_pre _ (k + 1) (by
                rw [← List.map_take, HT.out, nums_snoc, HNU.out, hv])
              show readP t.data.toList = none
              rw [HRP.out]
              match R, HR1.out, h1 with
              | z :: r, _, h1 =>
                rw [List.map_cons] at h1
                simp only [List.map_cons, readW, HNM.out, if_true, h1]
            have HBW : Hid (Cel w4 w.heap.size 3 (fun j => (#[.string ⟨#[]⟩, .int .i64 0, .slice none 0 0] : Array Value).getD j undef)) := HBX.out.since (HS2.out.trans HS4.out)
            have b0 := HBW.out.cell 0 (by omega)
            have b1 := HBW.out.cell 1 (by omega)
            have b2 := HBW.out.cell 2 (by omega)
            have f0 := HBW.out.frozen 0 (by omega)
            have f1 := HBW.out.frozen 1 (by omega)
            have f2 := HBW.out.frozen 2 (by omega)
            have HF : Hid (Cel (((w4.setCell ⟨w.heap.size, 0, none⟩ (.string ⟨#[]⟩)).setCell ⟨w.heap.size, 1, none⟩ (.int .i64 0)).setCell ⟨w.heap.size, 2, none⟩ (.slice none 0 0)) w.heap.size 3 (fun j => (#[.string ⟨#[]⟩, .int .i64 0, .slice none 0 0] : Array Value).getD j undef)) := bx_set HBW.out _ _ _
            clear hv
            go_wp2_with fail
            refine bodyPost_ret (results_row2 Tryz.results124 _ _ _ w.heap.size _ _ _ (by rfl) (bx_range HF.out) Tryz.underlying153 (by rfl) (by kernel_rfl) rfl) rfl ?_
            exact ⟨Or.inr ⟨HN.out, rfl⟩, (((HS1.out.trans (HS2.out.trans HS4.out)).setCell (p := ⟨w.heap.size, 0, none⟩) (Nat.le_refl _) _).setCell (p := ⟨w.heap.size, 1, none⟩) (Nat.le_refl _) _).setCell (p := ⟨w.heap.size, 2, none⟩) (Nat.le_refl _) _⟩
        · have hke : k = R.length := by omega
          subst hke
          have hnu := HNU.out
          rw [List.take_length] at hnu
          obtain ⟨v, M, hLM⟩ : ∃ v M, L = v :: M := by
            cases L with
            | nil => have := HLK.out; have := HR1.out; simp at *; omega
            | cons v M => exact ⟨v, M, rfl⟩
          subst hLM
          have HN : Hid (readP t.data.toList = some ⟨x, v, M⟩) := by
            show readP t.data.toList = _
            rw [HRP.out]
            match R, HR1.out, hnu with
            | z :: r, _, h1 =>
              rw [List.map_cons] at h1
              simp only [List.map_cons, readW, HNM.out, if_true, h1]
          clear hnu
          obtain ⟨g, cap, rfl⟩ : ∃ g cap, u5 = .slice (some ⟨g, 0, none⟩) R.length cap := by
            rcases HOW.out.2 with ⟨_, h⟩ | ⟨g, cap, cur, h, _⟩
            · have := HR1.out; omega
            · exact ⟨g, cap, h⟩
          have HCG : Hid (R.length ≤ cap) := by
            rcases HOW.out.2 with ⟨_, h⟩ | ⟨g', cap', cur, h, _, _, h3, _⟩
            · have := HR1.out; show R.length ≤ cap; omega
            · injection h with _ _ h; show R.length ≤ cap; omega
          have HCE : Hid (∀ W, Since wr W → ∀ (j : Nat) (y : Int), (v :: M)[j]? = some y → W.cell? ⟨g, j, none⟩ = some (.int .i64 y)) := fun W hW j y hy => by
            have hj := (List.getElem?_eq_some_iff.1 hy).1
            have h1 := (owns_since HOW.out hW).cellAt j (by have := HLK.out; omega)
            rw [h1]
            simp only [ivals, List.getElem?_map, hy]
            rfl
          have HQ0 : Hid (wr.cell? ⟨w1.heap.size, 0, none⟩ = some (.string x)) := (HSK.out.cell (p := ⟨w1.heap.size, 0, none⟩) (World.block_lt_of_cell? _ _ q0)).trans q0
          have HBW : Hid (Cel wr w.heap.size 3 (fun j => (#[.string ⟨#[]⟩, .int .i64 0, .slice none 0 0] : Array Value).getD j undef)) := HBX.out.since (HS2.out.trans HSK.out)
          have hclo := clone_any x (by omega)
          have HCL : Hid (∀ W, Calls Tryz.prog 67 #[.string x] W fun e w' => e = .returned (.string x) ∧ Since W w') := hclo
          clear hclo q0
          have g1 : (0 : Int) < R.length := by have := HR1.out; omega
          have hRn : ¬ R = [] := by intro e; have := HR1.out; rw [e] at this; simp at this
          have hRn2 : R.length ≠ 0 := by have := HR1.out; omega
          have hRn3 : 0 < R.length := by have := HR1.out; omega
          have g2 : (1 : Int) ≤ R.length := by have := HR1.out; omega
          have g3 : (R.length : Int) ≤ cap := by have := HCG.out; omega
          have g4 : (1 : Int) ≤ cap := by omega
          have hgw : w2.heap.size ≤ g := by
            rcases HOW.out.2 with ⟨h, _⟩ | ⟨g', cap', cur, h, h2, _⟩
            · cases h
            · injection h with h; injection h with h; injection h with h; omega
          have hw12 : w.heap.size < w1.heap.size := HBX.out.lt (by omega)
          have HSS : Hid (∀ W, Since wr W → W.cell? ⟨w1.heap.size, 0, none⟩ = some (.string x) ∧ W.cell? ⟨g, 0, none⟩ = some (.int .i64 v)) := fun W hW => ⟨(hW.cell (p := ⟨w1.heap.size, 0, none⟩) (World.block_lt_of_cell? _ _ HQ0.out)).trans HQ0.out, HCE.out W hW 0 v rfl⟩
          have hs12 := HS2.out.size
          have HST : Hid (∀ W a b c, Since wr W → (((W.setCell ⟨w.heap.size, 0, none⟩ a).setCell ⟨w.heap.size, 1, none⟩ b).setCell ⟨w.heap.size, 2, none⟩ c).cell? ⟨w1.heap.size, 0, none⟩ = some (.string x) ∧ (((W.setCell ⟨w.heap.size, 0, none⟩ a).setCell ⟨w.heap.size, 1, none⟩ b).setCell ⟨w.heap.size, 2, none⟩ c).cell? ⟨g, 0, none⟩ = some (.int .i64 v)) := fun W a b c hW => by
            have h := HSS.out W hW
            constructor
            · rw [World.cell?_setCell_other _ _ _ _ (by intro e; injection e with e1; omega), World.cell?_setCell_other _ _ _ _ (by intro e; injection e with e1; omega), World.cell?_setCell_other _ _ _ _ (by intro e; injection e with e1; omega)]
              exact h.1
            · rw [World.cell?_setCell_other _ _ _ _ (by intro e; injection e with e1; omega), World.cell?_setCell_other _ _ _ _ (by intro e; injection e with e1; omega), World.cell?_setCell_other _ _ _ _ (by intro e; injection e with e1; omega)]
              exact h.2
          have HGB : Hid (∀ W a b c, Since wr W → ∃ cur fz, (((W.setCell ⟨w.heap.size, 0, none⟩ a).setCell ⟨w.heap.size, 1, none⟩ b).setCell ⟨w.heap.size, 2, none⟩ c).heap[g]? = some (.cells cur 3 fz)) := fun W a b c hW => by
            rcases HOW.out.2 with ⟨h, _⟩ | ⟨g', cap', cur, h, _, h3, _⟩
            · cases h
            · injection h with h
              injection h with h
              injection h with h
              subst h
              refine ⟨cur, (0, 0), ?_⟩
              rw [Below.heap_setCell _ _ _ _ (by show g ≠ w.heap.size; omega), Below.heap_setCell _ _ _ _ (by show g ≠ w.heap.size; omega), Below.heap_setCell _ _ _ _ (by show g ≠ w.heap.size; omega), hW.block g (heap_lt h3)]
              exact h3
          have hML : M.length = R.length - 1 := by have := HLK.out; simp at this; omega
          have hgs : g < wr.heap.size := World.block_lt_of_cell? _ _ (HSS.out wr (Since.refl _)).2
          by_cases hc1 : cap = 1
          · have HIN : Hid (∀ W a b c, Since wr W → Ints (((W.setCell ⟨w.heap.size, 0, none⟩ a).setCell ⟨w.heap.size, 1, none⟩ b).setCell ⟨w.heap.size, 2, none⟩ c) (.slice (some ⟨g, 0, none⟩) (R.length - 1) 0) M) := fun W a b c hW => ⟨_, _, by rw [hML], by have := HCG.out; omega, fun h => by have := HCG.out; omega⟩
            clear hML
            go_upto_region 13 with fail
            go_region_held3 (fun W => W.cell? ⟨w1.heap.size, 0, none⟩ = some (.string x) ∧ W.cell? ⟨g, 0, none⟩ = some (.int .i64 v)) (first | exact HSS.out _ (Since.refl _) | exact HSS.out _ (Since.refl _).drew | exact HSS.out _ (((Since.refl _).drew).trans h5) | exact HST.out _ _ _ _ (((Since.refl _).drew).trans h5)) (first
              | (go_simp; go_at_call 67; refine (HCL.out _).mono ?_; rintro e w5 ⟨rfl, h5⟩; have HB5 := HBW.out.since (((Since.refl _).drew).trans h5); have b0 := HB5.cell 0 (by omega); have b1 := HB5.cell 1 (by omega); have b2 := HB5.cell 2 (by omega); have f0 := HB5.frozen 0 (by omega); have f1 := HB5.frozen 1 (by omega); have f2 := HB5.frozen 2 (by omega); dsimp only))
            all_goals
              have HF := bx_set HB5 (.string x) (.int .i64 v) (.slice (some ⟨g, 0, none⟩) (R.length - 1) 0)
              have HS5 : Since w w5 := (HS1.out.trans (HS2.out.trans HSK.out)).trans (((Since.refl _).drew).trans h5)
              have HI5 := HIN.out w5 (.string x) (.int .i64 v) (.slice (some ⟨g, 0, none⟩) (R.length - 1) 0) (((Since.refl _).drew).trans h5)
              clear b0 b1 b2 f0 f1 f2
              go_wp2_with fail
              refine bodyPost_ret (results_row2 Tryz.results124 _ _ _ w.heap.size _ _ _ (by rfl) (bx_range HF) Tryz.underlying153 (by rfl) (by kernel_rfl) rfl) rfl ?_
              exact ⟨Or.inl ⟨⟨x, v, M⟩, _, HN.out, rfl, HI5, fun k o n c e => by injection e with e; injection e with e; injection e with e; subst e; exact ⟨by omega, HGB.out _ _ _ _ (((Since.refl _).drew).trans h5)⟩⟩, ((HS5.setCell (p := ⟨w.heap.size, 0, none⟩) (Nat.le_refl _) _).setCell (p := ⟨w.heap.size, 1, none⟩) (Nat.le_refl _) _).setCell (p := ⟨w.heap.size, 2, none⟩) (Nat.le_refl _) _⟩
          · have HIN : Hid (∀ W a b c, Since wr W → Ints (((W.setCell ⟨w.heap.size, 0, none⟩ a).setCell ⟨w.heap.size, 1, none⟩ b).setCell ⟨w.heap.size, 2, none⟩ c) (.slice (some ⟨g, 1, none⟩) (R.length - 1) (cap - 1)) M) := fun W a b c hW => ⟨_, _, by rw [hML], by have := HCG.out; omega, fun h => ⟨g, 1, rfl, by have := hW.size; simp; omega, fun j y hy => by
              rw [World.cell?_setCell_other _ _ _ _ (by intro e; injection e with e1; omega), World.cell?_setCell_other _ _ _ _ (by intro e; injection e with e1; omega), World.cell?_setCell_other _ _ _ _ (by intro e; injection e with e1; omega)]
              rw [Nat.add_comm]
              exact HCE.out W hW (j + 1) y (by simpa using hy)⟩⟩
            clear hML
            go_upto_region 13 with fail
            go_region_held3 (fun W => W.cell? ⟨w1.heap.size, 0, none⟩ = some (.string x) ∧ W.cell? ⟨g, 0, none⟩ = some (.int .i64 v)) (first | exact HSS.out _ (Since.refl _) | exact HSS.out _ (Since.refl _).drew | exact HSS.out _ (((Since.refl _).drew).trans h5) | exact HST.out _ _ _ _ (((Since.refl _).drew).trans h5)) (first
              | (go_simp; go_at_call 67; refine (HCL.out _).mono ?_; rintro e w5 ⟨rfl, h5⟩; have HB5 := HBW.out.since (((Since.refl _).drew).trans h5); have b0 := HB5.cell 0 (by omega); have b1 := HB5.cell 1 (by omega); have b2 := HB5.cell 2 (by omega); have f0 := HB5.frozen 0 (by omega); have f1 := HB5.frozen 1 (by omega); have f2 := HB5.frozen 2 (by omega); dsimp only))
            all_goals
              have HF := bx_set HB5 (.string x) (.int .i64 v) (.slice (some ⟨g, 1, none⟩) (R.length - 1) (cap - 1))
              have HS5 : Since w w5 := (HS1.out.trans (HS2.out.trans HSK.out)).trans (((Since.refl _).drew).trans h5)
              have HI5 := HIN.out w5 (.string x) (.int .i64 v) (.slice (some ⟨g, 1, none⟩) (R.length - 1) (cap - 1)) (((Since.refl _).drew).trans h5)
              clear b0 b1 b2 f0 f1 f2
              go_wp2_with fail
              refine bodyPost_ret (results_row2 Tryz.results124 _ _ _ w.heap.size _ _ _ (by rfl) (bx_range HF) Tryz.underlying153 (by rfl) (by kernel_rfl) rfl) rfl ?_
              exact ⟨Or.inl ⟨⟨x, v, M⟩, _, HN.out, rfl, HI5, fun k o n c e => by injection e with e; injection e with e; injection e with e; subst e; exact ⟨by omega, HGB.out _ _ _ _ (((Since.refl _).drew).trans h5)⟩⟩, ((HS5.setCell (p := ⟨w.heap.size, 0, none⟩) (Nat.le_refl _) _).setCell (p := ⟨w.heap.size, 1, none⟩) (Nat.le_refl _) _).setCell (p := ⟨w.heap.size, 2, none⟩) (Nat.le_refl _) _⟩
end En
end Go.Proofs.YtlgocfgnfdnloaaGreatDoor
end
section
namespace Go.Proofs.YtlgocfgnfdnloaaGreatDoor
set_option maxRecDepth 100000
namespace En
open Go.RowKit
theorem owns_low {w : World} {b b' : Nat} {t : TypeId} {sz n : Nat} {v : Value} {xs : List Value} (h : w.ownsRow b t sz v n xs) (hb : b' ≤ b) : w.ownsRow b' t sz v n xs := by
  refine ⟨h.1, ?_⟩
  rcases h.2 with h2 | ⟨g, cap, cur, hv, h3, rest⟩
  · exact .inl h2
  · exact .inr ⟨g, cap, cur, hv, Nat.le_trans hb h3, rest⟩
theorem files21_eq : files21 = (List.range 21).map (fun (i : Nat) => (i : Int) + 3) := by decide
def freeK (A : List Int) (k : Nat) : List Int := ((List.range k).map (fun (i : Nat) => (i : Int) + 3)).filter (fun c => !(decide (c ∈ A)))
theorem freeK_all (l : List Fi) : freeK (allC l) 21 = freeL l := by
  unfold freeK freeL
  rw [files21_eq]
theorem freeK_in {A : List Int} {k : Nat} (h : (k : Int) + 3 ∈ A) : freeK A (k + 1) = freeK A k := by
  unfold freeK
  rw [List.range_succ, List.map_append, List.filter_append]
  simp [h]
theorem freeK_out {A : List Int} {k : Nat} (h : (k : Int) + 3 ∉ A) : freeK A (k + 1) = freeK A k ++ [(k : Int) + 3] := by
  unfold freeK
  rw [List.range_succ, List.map_append, List.filter_append]
  simp [h]
theorem freeK_len (A : List Int) (k : Nat) : (freeK A k).length ≤ k := by
  unfold freeK
  refine Nat.le_trans (List.length_filter_le _ _) (by simp)
theorem allC_take (l : List Fi) (k : Nat) (f : Fi) (h : l[k]? = some f) : allC (l.take (k + 1)) = allC (l.take k) ++ f.cs := by
  rw [List.take_add_one, h]
  simp [allC]
theorem allC_split (l : List Fi) (k : Nat) (f : Fi) (h : l[k]? = some f) : allC l = allC (l.take k) ++ (f.cs ++ allC (l.drop (k + 1))) := by
  have hk := (List.getElem?_eq_some_iff.1 h).1
  have e : l = l.take k ++ (f :: l.drop (k + 1)) := by
    rw [← (List.getElem?_eq_some_iff.1 h).2, List.getElem_cons_drop]
    exact (List.take_append_drop k l).symm
  have : allC (l.take k ++ (f :: l.drop (k + 1))) = allC (l.take k) ++ (f.cs ++ allC (l.drop (k + 1))) := by simp [allC]
  rw [← e] at this
  exact this
theorem fresh_cell {l : List Fi} (hn : (allC l).Nodup) {k j : Nat} {f : Fi} {c : Int} (h : l[k]? = some f) (hj : f.cs[j]? = some c) : c ∉ allC (l.take k) ++ f.cs.take j := by
  have e := allC_split l k f h
  rw [e] at hn
  have hjl := (List.getElem?_eq_some_iff.1 hj).1
  have e2 : f.cs = f.cs.take j ++ (c :: f.cs.drop (j + 1)) := by
    rw [← (List.getElem?_eq_some_iff.1 hj).2, List.getElem_cons_drop]
    exact (List.take_append_drop j _).symm
  rw [e2, ← List.append_assoc, ← List.append_assoc] at hn
  have h1 := (List.nodup_append.1 ((List.nodup_append.1 hn).1)).2.2
  intro hm
  exact h1 c hm c (by simp) rfl
set_option maxHeartbeats 8000000 in
theorem free_any (l : List Fi) (v : Value) (w : World) (hl : Fls w v l) (hr : right l = true) :
    Calls Tryz.prog 63 #[v] w fun e w' => ∃ x, e = .returned x ∧ w'.ownsRow w.heap.size 3 1 x (freeL l).length (ivals (freeL l)) ∧ Since w w' := by
  obtain ⟨a, c, rfl, hcap, hrest⟩ := hl
  have HL : Hid (Fls w (.slice a l.length c) l) := ⟨a, c, rfl, hcap, hrest⟩
  have hr2 := hr
  rw [right, Bool.and_eq_true, decide_eq_true_eq] at hr2
  have hl8 := hr2.1
  have HN : Hid ((∀ c, c ∈ allC l → 3 ≤ c ∧ c < 24) ∧ (allC l).Nodup) := by
    obtain ⟨h1, h2, _⟩ := rightFrom_cells l _ _ hr2.2
    exact ⟨h1, h2⟩
  have HG : Hid (∀ f, f ∈ l → Good f) := right_good hr
  clear hrest hr hr2
  have hmm := @run_makeMap Tryz.prog
  have HM : Hid (IsSet (w.alloc (.map #[] 0)) w.heap.size (.agg #[]) []) := (MapKept.heap_alloc w (.map #[] 0)).1
  have HS0 : Hid (Since w (w.alloc (.map #[] 0))) := (Since.refl _).alloc _
  go_enter Tryz.func63, Tryz.ntmps63
  go_upto_region 2 with fail
  clear hmm
  generalize w.alloc (.map #[] 0) = w0 at *
  go_wp2_with fail
  go_loopw [15, 5, 7] (fun i _ _ wr => ∃ k : Nat, k ≤ l.length ∧ i = .int .i64 k ∧ IsSet wr w.heap.size (.agg #[]) (allC (l.take k)) ∧ Since w wr) (fun i _ _ _ => l.length - (intOf i).toNat)
  case atStart => exact ⟨0, by omega, rfl, HM.out, HS0.out⟩
  case round =>
    obtain ⟨k, hk, rfl, hset, hs⟩ := hrel
    have HSET : Hid (IsSet wr w.heap.size (.agg #[]) (allC (l.take k))) := hset
    have HS : Hid (Since w wr) := hs
    clear hset hs
    by_cases hlt : k < l.length
    · have hlt2 : (k : Int) < l.length := by omega
      have hE : Hid (l[k]? = some l[k]) := List.getElem?_eq_getElem hlt
      have HGF : Hid (Good l[k]) := HG.out l[k] (List.getElem_mem hlt)
      have HAT : Hid (allC (l.take (k + 1)) = allC (l.take k) ++ l[k].cs) := allC_take l k l[k] hE.out
      have HFR : Hid (∀ j c, l[k].cs[j]? = some c → c ∉ allC (l.take k) ++ l[k].cs.take j) := fun j c hj => fresh_cell HN.out.2 hE.out hj
      generalize l[k] = f at *
      obtain ⟨kb, ko, cv, rfl, hi, hkb, q0, q1, q2⟩ := (HL.out.since HS.out).at_ hE.out
      have HI : Hid (Ints wr cv f.cs) := hi
      clear hi
      obtain ⟨ca, cc, rfl⟩ : ∃ ca cc, cv = .slice ca f.cs.length cc := by
        obtain ⟨ca, cc, h, _⟩ := HI.out
        exact ⟨ca, cc, h⟩
      have HSA : Hid (Since wr (wr.alloc (.cells #[.string f.nm, .int .i64 f.sz, .slice ca f.cs.length cc] 153))) := (Since.refl _).alloc _
      have hcl := HGF.out.cs_le
      go_wp2_with fail
      have HSET1 : Hid (IsSet (wr.alloc (.cells #[.string f.nm, .int .i64 f.sz, .slice ca f.cs.length cc] 153)) w.heap.size (.agg #[]) (allC (l.take k))) := HSET.out.since HSA.out
      have HI1 : Hid (Ints (wr.alloc (.cells #[.string f.nm, .int .i64 f.sz, .slice ca f.cs.length cc] 153)) (.slice ca f.cs.length cc) f.cs) := HI.out.since HSA.out
      have HS1 : Hid (Since w (wr.alloc (.cells #[.string f.nm, .int .i64 f.sz, .slice ca f.cs.length cc] 153))) := HS.out.trans HSA.out
      clear q0 q1 q2 HSA HI HSET HS
      generalize wr.alloc (.cells #[.string f.nm, .int .i64 f.sz, .slice ca f.cs.length cc] 153) = w1 at *
      go_loopw [22, 7] (fun i _ wq => ∃ j : Nat, j ≤ f.cs.length ∧ i = .int .i64 j ∧ IsSet wq w.heap.size (.agg #[]) (allC (l.take k) ++ f.cs.take j) ∧ Ints wq (.slice ca f.cs.length cc) f.cs ∧ Since w wq) (fun i _ _ => f.cs.length - (intOf i).toNat)
      case atStart => exact ⟨0, by omega, rfl, by simpa using HSET1.out, HI1.out, HS1.out⟩
      case round =>
        obtain ⟨j, hj, rfl, hset, hi, hs⟩ := hrel
        have HSET : Hid (IsSet wr w.heap.size (.agg #[]) (allC (l.take k) ++ f.cs.take j)) := hset
        have HI : Hid (Ints wr (.slice ca f.cs.length cc) f.cs) := hi
        have HS : Hid (Since w wr) := hs
        clear hset hi hs
        by_cases hjl : j < f.cs.length
        · have hjl2 : (j : Int) < f.cs.length := by omega
          obtain ⟨a', c', hv, _, h2⟩ := HI.out
          obtain ⟨ib, io, ha, _, hcell⟩ := h2 (by omega)
          injection hv with e1 e2 e3
          subst e1
          subst ha
          have q := hcell j f.cs[j] (List.getElem?_eq_getElem hjl)
          have hnin := HFR.out j f.cs[j] (List.getElem?_eq_getElem hjl)
          have hrg := HGF.out.cell f.cs[j] (List.getElem_mem hjl)
          have HE : Hid (allC (l.take k) ++ f.cs.take (j + 1) = allC (l.take k) ++ f.cs.take j ++ [f.cs[j]]) := by
            show allC (l.take k) ++ f.cs.take (j + 1) = _
            rw [take_next _ _ hjl]; simp
          clear hcell h2 e2 e3
          generalize f.cs[j] = x at *
          have hfc := fileCell_any x
          rw [show cellB x = true by unfold cellB; simp; omega] at hfc
          have hup := set_update wr w.heap.size _ x HSET.out hnin
          clear hnin
          go_wp2_with (go_at_call 128; refine (hfc _).mono ?_; rintro e w' ⟨rfl, rfl⟩)
          go_roundw
          case rel => exact ⟨j + 1, by omega, by go_num, by rw [HE.out]; simp only [List.append_assoc]; exact setTo_is HSET.out, HI.out.fr HSET.out (fr_setTo _ _ _ _), Fr.since (fr_setTo _ _ _ _) HS.out (Nat.le_refl _) (fun k e => by cases e)⟩
          case measure => simp [intOf]; omega
        · have hje : j = f.cs.length := by omega
          subst hje
          rw [List.take_length] at HSET
          have HSET2 : Hid (IsSet wr w.heap.size (.agg #[]) (allC (l.take (k + 1)))) := by
            show IsSet wr _ _ (allC (l.take (k + 1)))
            rw [HAT.out]
            exact HSET.out
          go_wp2_with fail
          go_roundw
          case rel => exact ⟨k + 1, by omega, by go_num, HSET2.out, HS.out⟩
          case measure => simp [intOf]; omega
    · have hke : k = l.length := by omega
      subst hke
      rw [List.take_length] at HSET
      obtain ⟨i0, hi, hz0, hz1, hz2⟩ := info_parts info3'
      have HI : Hid (Tryz.prog.info? 3 = some i0 ∧ i0.zero = some (.int .i64 0) ∧ i0.size = 1 ∧ i0.bytes = 8) := ⟨hi, hz0, hz1, hz2⟩
      clear hi hz0 hz1 hz2
      have HFK : Hid (freeK (allC l) 21 = freeL l) := freeK_all l
      have HSETr : Hid (IsSet wr w.heap.size (.agg #[]) (allC l)) := HSET.out
      generalize allC l = A at *
      go_wp2_with fail
      go_loopw [9, 8, 10, 11] (fun i x _ _ wq => ∃ k : Nat, k ≤ 21 ∧ i = .int .i64 ((k : Int) + 3) ∧ wq.ownsRow (w.heap.size + 1) 3 1 x (freeK A k).length (ivals (freeK A k)) ∧ IsSet wq w.heap.size (.agg #[]) A ∧ Since w wq) (fun i _ _ _ _ => 24 - (intOf i).toNat)
      case atStart => exact ⟨0, by omega, rfl, World.ownsRow_nil _ _ _ _, HSETr.out, HS.out⟩
      case round =>
        obtain ⟨k, hk, rfl, hown, hset, hs⟩ := hrel
        have HOW : Hid (wr.ownsRow (w.heap.size + 1) 3 1 u8 (freeK A k).length (ivals (freeK A k))) := hown
        have HSETk : Hid (IsSet wr w.heap.size (.agg #[]) A) := hset
        have HSk : Hid (Since w wr) := hs
        clear hown hset hs
        have hfl := freeK_len A k
        by_cases h21 : k < 21
        · have h21' : (k : Int) + 3 < 24 := by omega
          have hlu := set_lookup wr w.heap.size A ((k : Int) + 3) HSETk.out
          by_cases hin : (k : Int) + 3 ∈ A
          · rw [decide_eq_true hin] at hlu
            have HE : Hid (freeK A (k + 1) = freeK A k) := freeK_in hin
            clear hin
            go_wp2_with fail
            go_roundw
            case rel => exact ⟨k + 1, by omega, by go_num, by rw [HE.out]; exact HOW.out.alloc _, HSETk.out.since ((Since.refl _).alloc _), HSk.out.alloc _⟩
            case measure => simp [intOf]; omega
          · rw [decide_eq_false hin] at hlu
            have HE : Hid (freeK A (k + 1) = freeK A k ++ [(k : Int) + 3]) := freeK_out hin
            have HOA : Hid ((wr.alloc (.cells #[] 215)).ownsRow (w.heap.size + 1) 3 1 u8 (freeK A k).length (ivals (freeK A k))) := HOW.out.alloc _
            have HSA : Hid (Since w (wr.alloc (.cells #[] 215))) := HSk.out.alloc _
            have HSE : Hid (IsSet (wr.alloc (.cells #[] 215)) w.heap.size (.agg #[]) A) := HSETk.out.since ((Since.refl _).alloc _)
            clear hin
            go_upto_region 18 with fail
            generalize wr.alloc (.cells #[] 215) = wa at *
            clear hlu
            have hsl := HSE.out.lt
            go_wp2_with (at_builtin; refine wpList_append_own _ (by rfl) _ _ _ (by rfl) (w.heap.size + 1) 3 i0 _ 1 8 Tryz.underlying61 HI.out.1 HI.out.2.1 HI.out.2.2.1 HI.out.2.2.2 (by rfl) (by decide) _ (freeK A k).length (ivals (freeK A k)) (by rfl) (World.ownsRow.alloc HOA.out _) ⟨wa.heap.size, 0, none⟩ 1 1 [.int .i64 ((k : Int) + 3)] (by rfl) (by rfl) (World.news_of_block (heap_alloc_new wa _)) (by simp [Value.oneCell']) (by unfold maxLen; omega) (by omega) (by simp; omega) ?_; intro x' w3 hown1 hgrow _)
            have HO1 : Hid (w3.ownsRow (w.heap.size + 1) 3 1 x' (freeK A (k + 1)).length (ivals (freeK A (k + 1)))) := by
              show World.ownsRow _ _ _ _ _ _ _
              rw [HE.out, List.length_append, show ivals (freeK A k ++ [(k : Int) + 3]) = ivals (freeK A k) ++ [.int .i64 ((k : Int) + 3)] from by simp [ivals]]
              exact hown1
            have HB1 : Hid (Below (w.heap.size + 1) wa w3) := Below.grown (Below.alloc (Below.refl _ wa) (by omega) _) hgrow (by simp; omega) (fun j hj => (HOA.out.lt j hj).1)
            have HG1 : Hid (Since w w3) := Below.trans (show Below w.heap.size w wa from HSA.out) (Below.mono HB1.out (Nat.le_succ _))
            have HSE1 : Hid (IsSet w3 w.heap.size (.agg #[]) A) := (HB1.out.block w.heap.size (Nat.lt_succ_self _)).trans HSE.out
            clear hown1 hgrow
            go_roundw
            case rel => exact ⟨k + 1, by omega, by go_num, HO1.out, HSE1.out, HG1.out⟩
            case measure => simp [intOf]; omega
        · have hke : k = 21 := by omega
          subst hke
          rw [HFK.out] at HOW
          go_wp2_with fail
          go_ret
          exact ⟨_, rfl, owns_low HOW.out (Nat.le_succ _), HSk.out⟩
end En
end Go.Proofs.YtlgocfgnfdnloaaGreatDoor
end
