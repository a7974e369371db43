import Derived.Maps.Ext
import Derived.Maps.StringElems
import Derived.Laws.IdiomRangeMap
import Derived.StringKeys
import Derived.Maps.OwnSet
import Derived.BigQuiet
import Derived.Test.YtlgocfgnfdnloaaGreatDoorJ23
import Derived.Test.YtlgocfgnfdnloaaGreatDoorJ44
set_option linter.unusedSimpArgs false
set_option linter.unusedVariables false
section
namespace Go.Proofs.YtlgocfgnfdnloaaGreatDoor
set_option maxRecDepth 100000
namespace Fl
open Go.RowKit Go.Sort Go.Shelf
open En (Fi Fls Ints fval Row freeL allC need nameB filled)
open Vl
open Tw (Tb)
structure Dd where
  what : Int
  nm : ByteArray
  tx : ByteArray
def Dd.val (x : Dd) : Value := .agg #[.int .i64 x.what, .string x.nm, .string x.tx]
def Dds (w : World) (v : Value) (l : List Dd) : Prop := ∃ a c, v = .slice a l.length c ∧ l.length ≤ c ∧ (0 < l.length → ∃ k o, a = some ⟨k, o, none⟩ ∧ k < w.heap.size ∧ ∀ j x, l[j]? = some x → w.cell? ⟨k, o + j * 3, none⟩ = some (.int .i64 x.what) ∧ w.cell? ⟨k, o + j * 3 + 1, none⟩ = some (.string x.nm) ∧ w.cell? ⟨k, o + j * 3 + 2, none⟩ = some (.string x.tx))
theorem Dds.fs {P : Nat → Prop} {w w' : World} {v : Value} {l : List Dd} (h : Dds w v l) (hf : Fs P w w') (hp : ∀ k o n c, v = .slice (some ⟨k, o, none⟩) n c → ¬ P k) : Dds w' v l := by
  obtain ⟨a, c, hv, hc, h⟩ := h
  refine ⟨a, c, hv, hc, fun hn => ?_⟩
  obtain ⟨k, o, ha, hk, hc⟩ := h hn
  have hnp := hp k o l.length c (by rw [hv, ha])
  refine ⟨k, o, ha, Nat.lt_of_lt_of_le hk hf.size, fun j x hj => ?_⟩
  obtain ⟨h1, h2, h3⟩ := hc j x hj
  exact ⟨(hf.cell (p := ⟨k, o + j * 3, none⟩) hk hnp).trans h1, (hf.cell (p := ⟨k, o + j * 3 + 1, none⟩) hk hnp).trans h2, (hf.cell (p := ⟨k, o + j * 3 + 2, none⟩) hk hnp).trans h3⟩
theorem Dds.since {w w' : World} {v : Value} {l : List Dd} (h : Dds w v l) (hs : Since w w') : Dds w' v l := h.fs (P := fun _ => False) (Fs.of_since hs) (fun _ _ _ _ _ h => h)
theorem Dds.at_ {w : World} {a : Option Addr} {c : Nat} {l : List Dd} (h : Dds w (.slice a l.length c) l) {j : Nat} {x : Dd} (hj : l[j]? = some x) : ∃ k o, a = some ⟨k, o, none⟩ ∧ k < w.heap.size ∧ w.cell? ⟨k, o + j * 3, none⟩ = some (.int .i64 x.what) ∧ w.cell? ⟨k, o + j * 3 + 1, none⟩ = some (.string x.nm) ∧ w.cell? ⟨k, o + j * 3 + 2, none⟩ = some (.string x.tx) := by
  obtain ⟨a', c', hv, hc, h⟩ := h
  injection hv with e1 e2 e3
  subst e1 e3
  have hl := (List.getElem?_eq_some_iff.1 hj).1
  obtain ⟨k, o, ha, hk, hcell⟩ := h (by omega)
  exact ⟨k, o, ha, hk, hcell j x hj⟩
def shortD (x : Dd) : Bool := decide (x.nm.size ≤ 40) && decide (x.tx.size ≤ 1800)
def dsB (l : List Dd) : Bool := decide (l.length ≤ 30) && l.all shortD
theorem deedsF_any (x : Dd) (w : World) : Calls Tryz.prog 103 #[x.val] w fun e w' => e = .returned (.bool (!shortD x)) ∧ Since w w' := by
  unfold Dd.val
  have HS : Hid (Since w (w.alloc (.cells #[.int .i64 x.what, .string x.nm, .string x.tx] 88))) := (Since.refl w).alloc _
  by_cases h1 : x.nm.size ≤ 40
  · have h1' : ¬ (40 : Int) < (x.nm.size : Int) := by omega
    by_cases h2 : x.tx.size ≤ 1800
    · have h2' : ¬ (1800 : Int) < (x.tx.size : Int) := by omega
      have HB : Hid (shortD x = true) := by show shortD x = true; unfold shortD; rw [decide_eq_true h1, decide_eq_true h2]; rfl
      clear h1 h2
      go_enter Tryz.func103, Tryz.ntmps103
      go_wp2_with fail
      go_ret
      exact ⟨by rw [HB.out]; rfl, HS.out⟩
    · have h2' : (1800 : Int) < (x.tx.size : Int) := by omega
      have HB : Hid (shortD x = false) := by show shortD x = false; unfold shortD; rw [decide_eq_true h1, decide_eq_false h2]; rfl
      clear h1 h2
      go_enter Tryz.func103, Tryz.ntmps103
      go_wp2_with fail
      go_ret
      exact ⟨by rw [HB.out]; rfl, HS.out⟩
  · have h1' : (40 : Int) < (x.nm.size : Int) := by omega
    have HB : Hid (shortD x = false) := by show shortD x = false; unfold shortD; rw [decide_eq_false h1]; rfl
    clear h1
    go_enter Tryz.func103, Tryz.ntmps103
    go_wp2_with fail
    go_ret
    exact ⟨by rw [HB.out]; rfl, HS.out⟩
theorem deedsF_enters : ∀ args w, (callFunc 103 args).run Tryz.prog w = .ok (.enter 103 args) w := enters_of Tryz.func103 (by kernel_rfl) rfl
set_option maxHeartbeats 2000000 in
theorem IFd_any (l : List Dd) (v : Value) (w : World) (hl : Dds w v l) (hn : l.length ≤ 1000) :
    Calls Tryz.prog 166 #[v, .func (.func 103) #[] #[]] w fun e w' => (∃ i : Int, e = .returned (.int .i64 i) ∧ (decide (0 ≤ i) = !l.all shortD)) ∧ Since w w' := by
  obtain ⟨a, c, rfl, hc⟩ : ∃ a c, v = .slice a l.length c ∧ l.length ≤ c := by
    obtain ⟨a, c, h1, h2, _⟩ := hl
    exact ⟨a, c, h1, h2⟩
  have HL : Hid (Dds w (.slice a l.length c) l) := hl
  have heg := deedsF_enters
  clear hl
  go_enter Tryz.func166, Tryz.ntmps166
  go_wp2_with fail
  go_loopw [8, 5] (fun i _ wr => ∃ k : Nat, k ≤ l.length ∧ i = .int .i64 k ∧ Since w wr ∧ (l.take k).all shortD = true) (fun i _ _ => l.length - (intOf i).toNat)
  case atStart => exact ⟨0, by omega, rfl, Since.refl _, rfl⟩
  case round =>
    obtain ⟨k, hk, rfl, hs, hno⟩ := hrel
    have HS : Hid (Since w wr) := hs
    have HNO : Hid ((l.take k).all shortD = true) := hno
    clear hs hno
    by_cases hlt : k < l.length
    · have hlt2 : (k : Int) < l.length := by omega
      have hE : Hid (l[k]? = some l[k]) := List.getElem?_eq_getElem hlt
      generalize l[k] = x at *
      obtain ⟨k1, o1, rfl, hl1, p0, p1, p2⟩ := (HL.out.since HS.out).at_ hE.out
      have hcl := deedsF_any x wr
      unfold Dd.val at hcl
      have HCL : Hid (Calls Tryz.prog 103 #[.agg #[.int .i64 x.what, .string x.nm, .string x.tx]] wr fun e w' => e = .returned (.bool (!shortD x)) ∧ Since wr w') := hcl
      clear hcl
      go_wp2_with fail
      refine HCL.out.mono ?_
      rintro e w1 ⟨rfl, h1⟩
      have HS1 : Hid (Since w w1) := HS.out.trans h1
      clear h1 p0 p1 p2
      cases hd : shortD x with
      | false =>
        have HEE : Hid (shortD x = false) := hd
        clear hd
        go_wp2_with fail
        go_ret
        refine ⟨⟨_, rfl, ?_⟩, HS1.out⟩
        have : l.all shortD = false := by
          rw [List.all_eq_false]
          exact ⟨x, List.mem_of_getElem? hE.out, by rw [HEE.out]; decide⟩
        rw [this]
        simp
      | true =>
        have HEE : Hid (shortD x = true) := hd
        clear hd
        go_wp2_with fail
        go_roundw
        case rel =>
          refine ⟨k + 1, by omega, by go_num, HS1.out, ?_⟩
          rw [List.take_add_one, hE.out, List.all_append, HNO.out]
          simp [HEE.out]
        case measure => simp [intOf]; omega
    · have hke : k = l.length := by omega
      subst hke
      go_wp2_with fail
      go_ret
      refine ⟨⟨_, rfl, ?_⟩, HS.out⟩
      have := HNO.out
      rw [List.take_length] at this
      rw [this]
      rfl
theorem CFd_any (l : List Dd) (v : Value) (w : World) (hl : Dds w v l) (hn : l.length ≤ 1000) :
    Calls Tryz.prog 102 #[v, .func (.func 103) #[] #[]] w fun e w' => e = .returned (.bool (!l.all shortD)) ∧ Since w w' := by
  have hi := IFd_any l v w hl hn
  obtain ⟨a, c, rfl, _⟩ : ∃ a c, v = .slice a l.length c ∧ l.length ≤ c := by
    obtain ⟨a, c, h1, h2, _⟩ := hl
    exact ⟨a, c, h1, h2⟩
  have HI : Hid (Calls Tryz.prog 166 #[.slice a l.length c, .func (.func 103) #[] #[]] w fun e w' => (∃ i : Int, e = .returned (.int .i64 i) ∧ (decide (0 ≤ i) = !l.all shortD)) ∧ Since w w') := hi
  clear hl hi
  go_enter Tryz.func102, Tryz.ntmps102
  go_wp2_with fail
  refine HI.out.mono ?_
  rintro e w1 ⟨⟨i, rfl, hi⟩, hs⟩
  have HS : Hid (Since w w1 ∧ decide (0 ≤ i) = !l.all shortD) := ⟨hs, hi⟩
  clear hi hs
  go_wp2_with fail
  go_ret
  exact ⟨by rw [← HS.out.2]; rfl, HS.out.1⟩
theorem deeds_any (l : List Dd) (v : Value) (w : World) (hl : Dds w v l) : Calls Tryz.prog 35 #[v] w fun e w' => e = .returned (.bool (dsB l)) ∧ Since w w' := by
  obtain ⟨a, c, rfl, _⟩ : ∃ a c, v = .slice a l.length c ∧ l.length ≤ c := by
    obtain ⟨a, c, h1, h2, _⟩ := hl
    exact ⟨a, c, h1, h2⟩
  by_cases h : l.length ≤ 30
  · have HC : Hid (Calls Tryz.prog 102 #[.slice a l.length c, .func (.func 103) #[] #[]] w fun e w' => e = .returned (.bool (!l.all shortD)) ∧ Since w w') := CFd_any l _ w hl (by omega)
    have h2 : (l.length : Int) ≤ 30 := by omega
    have HB : Hid (dsB l = l.all shortD) := by show dsB l = _; unfold dsB; rw [decide_eq_true h]; rfl
    clear hl h
    generalize l.all shortD = q at *
    go_enter Tryz.func35, Tryz.ntmps35
    go_wp2_with fail
    refine HC.out.mono ?_
    rintro e w1 ⟨rfl, hs⟩
    have HS : Hid (Since w w1) := hs
    clear hs
    go_wp2_with fail
    go_ret
    refine ⟨?_, HS.out⟩
    rw [HB.out]
    cases q <;> rfl
  · have h2 : ¬ (l.length : Int) ≤ 30 := by omega
    have HB : Hid (dsB l = false) := by show dsB l = _; unfold dsB; rw [decide_eq_false h]; rfl
    clear hl h
    go_enter Tryz.func35, Tryz.ntmps35
    go_wp2_with fail
    go_ret
    exact ⟨by rw [HB.out]; rfl, Since.refl _⟩
end Fl
end Go.Proofs.YtlgocfgnfdnloaaGreatDoor
end
section
namespace Go.Proofs.YtlgocfgnfdnloaaGreatDoor
set_option maxRecDepth 100000
namespace Fl
open Go.RowKit Go.Sort Go.Shelf
open En (Fi Fls Ints fval Row freeL allC need nameB filled)
open Vl
open Tw (Tb)
theorem keyS : Maps.Keyed Tryz.prog 9 := Maps.string_keyed Tryz.underlying9
theorem key_s (s : ByteArray) (hs : s.size ≤ maxLen) : keyOf Tryz.prog 9 (.string s) = some (.string s.data.toList) := Go.WideMaps.keyOf_string_mk Tryz.underlying9 hs
end Fl
end Go.Proofs.YtlgocfgnfdnloaaGreatDoor
end
section
namespace Go.Proofs.YtlgocfgnfdnloaaGreatDoor
set_option maxRecDepth 100000
namespace Fl
open Go.RowKit Go.Sort Go.Shelf Go.Maps
open En (Fi Fls Ints fval Row freeL allC need nameB filled)
open Vl
theorem next_ss {P : Program} (w : World) {ops : Array Oper} {rest : List Oper} {o : Oper} {a : Act} {Q : Exit → Act → World → Prop}
    (hg : o.guard = none) (it : Operand) (hop : o.op = Op.next it false) (k e : TypeId) (K : Keyed P k) (hk : P.underlying k = some .string) (he : P.underlying e = some .string)
    (b r n : Nat) (D : DataW Unit) (left : Lit → Bool) (cnt : Nat) (hit : a.eval it = .pointer (some ⟨r, 0, none⟩)) (h : w.ranges P k (plainElem P e) b r n D left cnt)
    (hDone : cnt = 0 → (∀ kl, left kl = false) → wpList P ops Q rest (a.put o.dst (.tuple #[.bool false])) w)
    (hMore : ∀ (x c : ByteArray) (w' : World) (cnt' : Nat), x.size ≤ maxLen → c.size ≤ maxLen → (∀ zd, D.atKey (.string x.data.toList) zd = .lit (.string c.data.toList)) → w'.ranges P k (plainElem P e) b r n D (fun z => left z && !z.sameKey (.string x.data.toList)) cnt' → cnt' < cnt →
      w.grownBy w' (some r) → w'.heap.size = w.heap.size → (Instr.entry (.pointer (some ⟨r, 0, none⟩))).run P w' = .ok (.tuple #[.string x, .string c]) w' → wpList P ops Q rest (a.put o.dst (.tuple #[.bool true, .string x, .string c])) w') :
    wpList P ops Q (o :: rest) a w :=
  wpList_next_ranges w hg it hop k K (plainElem P e) Value.string Value.string (fun key kl hkey => by obtain ⟨x, rfl, _⟩ := Go.WideMaps.string_of_keyOf hk hkey; exact ⟨x, rfl⟩) (fun v y hv => by obtain ⟨c, rfl, _⟩ := plainElem_string_inv he hv; exact ⟨c, rfl⟩)
    b r n D left cnt hit h hDone (fun x c kl y w' cnt' hkey hlk hv hat hrg hlt hgr hsz hen => by
      obtain ⟨x', ex, rfl, hwx⟩ := Go.WideMaps.string_of_keyOf hk hkey
      cases ex
      obtain ⟨c', ec, rfl, hwc⟩ := plainElem_string_inv he hv
      cases ec
      exact hMore x c w' cnt' hwx hwc hat hrg hlt hgr hsz hen)
theorem look_ss {P : Program} (w : World) {ops : Array Oper} {rest : List Oper} {o : Oper} {a : Act} {Q : Exit → Act → World → Prop} (hg : o.guard = none) (m x : Operand) (t : TypeId) (hop : o.op = Op.lookup t m x true)
    (k e : TypeId) (K : Keyed P k) (ht : P.underlying t = some (.map k e)) (he : P.underlying e = some .string) (hz : (zeroValue e).run P w = .ok (.string ⟨#[]⟩) w) (b n : Nat) (D : DataW Unit)
    (hm : a.eval m = .map (some b)) (hown : w.ownsMap P k (plainElem P e) b n D) (key : Value) (kl : Lit) (hx : a.eval x = key) (hkey : keyOf P k key = some kl)
    (hK : ∀ c : ByteArray, D.atKey kl (.lit (.string [])) = .lit (.string c.data.toList) → wpList P ops Q rest (a.put o.dst (.tuple #[.string c, .bool (Maps.has D kl)])) w) :
    wpList P ops Q (o :: rest) a w :=
  wpList_lookup_own_ok w hg m x t hop k e K ht (plainElem P e) hz (.lit (.string [])) [] (plainElem_string he (by decide)) b n D hm hown key kl hx hkey (fun v ps hv => by
    obtain ⟨c, rfl, hc, hwc⟩ := plainElem_string_inv he hv
    exact hK c (congrArg Prod.fst hc))
structure Ms (w : World) (b : Nat) (g : ByteArray → Option (List UInt8)) (D : DataW Unit) (N : Nat) : Prop where
  own : w.ownsMap Tryz.prog 9 (plainElem Tryz.prog 9) b N D
  key : ∀ kl, Maps.has D kl = true → ∃ u : ByteArray, kl = .string u.data.toList
  has : ∀ u : ByteArray, Maps.has D (.string u.data.toList) = (g u).isSome
  at_ : ∀ (u : ByteArray) (t : List UInt8) (z : DataW Unit), g u = some t → D.atKey (.string u.data.toList) z = .lit (.string t)
theorem own_block {w w' : World} {P : Program} {k : TypeId} {R : Value → Option (DataW Unit × List MemPlace)} {b n : Nat} {D : DataW Unit} (h : w.ownsMap P k R b n D) (hb : w'.heap[b]? = w.heap[b]?) : w'.ownsMap P k R b n D := by
  obtain ⟨es, clock, h1, h2, h3, h4⟩ := h
  exact ⟨es, clock, hb.trans h1, h2, h3, h4⟩
theorem Ms.lt {w : World} {b : Nat} {g : ByteArray → Option (List UInt8)} {D : DataW Unit} {N : Nat} (h : Ms w b g D N) : b < w.heap.size := h.own.lt
theorem Ms.fs {P : Nat → Prop} {w w' : World} {b : Nat} {g : ByteArray → Option (List UInt8)} {D : DataW Unit} {N : Nat} (h : Ms w b g D N) (hf : Fs P w w') (hb : ¬ P b) : Ms w' b g D N :=
  ⟨own_block h.own (hf.block b h.lt hb), h.key, h.has, h.at_⟩
theorem Ms.since {w w' : World} {b : Nat} {g : ByteArray → Option (List UInt8)} {D : DataW Unit} {N : Nat} (h : Ms w b g D N) (hs : Since w w') : Ms w' b g D N := h.fs (P := fun _ => False) (Fs.of_since hs) (fun h => h)
theorem lit_inj {u v : ByteArray} (h : Lit.string u.data.toList = Lit.string v.data.toList) : u = v := by
  injection h with h
  exact ByteArray.ext (Array.toList_inj.1 h)
def wth (g : ByteArray → Option (List UInt8)) (s t : ByteArray) (b : Bool) : ByteArray → Option (List UInt8) := fun u => if u = s then (if b then some t.data.toList else none) else g u
theorem same_start (D : DataW Unit) (s : Lit) (h0 : WideAt.IsKeyLit s) : Maps.Agree (.map []) (D.del s) (Maps.has D) := by
  refine ⟨fun k => ?_, fun k z h => by cases h⟩
  have e : Maps.has (.map [] : DataW Unit) k = false := rfl
  rw [e]
  by_cases hk : k = s
  · subst hk
    rw [Maps.has_del_same]
    rfl
  · rw [Maps.has_del_other hk]
    cases Maps.has D k <;> rfl
theorem same_skip {Dout D : DataW Unit} {left : Lit → Bool} {s : Lit} (h : Maps.Agree Dout (D.del s) left) : Maps.Agree Dout (D.del s) (fun z => left z && !z.sameKey s) := by
  refine ⟨fun k => ?_, h.2⟩
  rw [h.1 k]
  by_cases hk : k = s
  · subst hk
    rw [Maps.has_del_same]
    rfl
  · dsimp only
    rw [Maps.sameKey_ne hk]
    simp
theorem ms_out {D Dout : DataW Unit} {w w' : World} {b b' : Nat} {g : ByteArray → Option (List UInt8)} {N N' : Nat} {s : ByteArray} {left : Lit → Bool} (h : Ms w b g D N) (hA : Maps.Agree Dout (D.del (.string s.data.toList)) left) (hl : ∀ k, left k = false) (hown : w'.ownsMap Tryz.prog 9 (plainElem Tryz.prog 9) b' N' Dout) : Ms w' b' (wth g s ⟨#[]⟩ false) Dout N' := by
  have hh : ∀ k, Maps.has Dout k = Maps.has (D.del (.string s.data.toList)) k := fun k => by rw [hA.1 k, hl k]; simp
  refine ⟨hown, fun kl hk => ?_, fun u => ?_, fun u t z ht => ?_⟩
  · rw [hh] at hk
    by_cases e : kl = .string s.data.toList
    · exact ⟨s, e⟩
    · rw [Maps.has_del_other e] at hk
      exact h.key kl hk
  · rw [hh]
    unfold wth
    by_cases e : u = s
    · subst e
      rw [Maps.has_del_same, if_pos rfl]
      rfl
    · rw [Maps.has_del_other (fun e' => e (lit_inj e')), if_neg e]
      exact h.has u
  · unfold wth at ht
    by_cases e : u = s
    · rw [if_pos e] at ht
      cases ht
    · rw [if_neg e] at ht
      have e' : Lit.string u.data.toList ≠ Lit.string s.data.toList := fun e' => e (lit_inj e')
      rw [hA.2 _ z (by rw [hh, Maps.has_del_other e', h.has u, ht]; rfl), Maps.atKey_del_other e']
      exact h.at_ u t z ht
theorem ms_put {D : DataW Unit} {w w' : World} {b : Nat} {g : ByteArray → Option (List UInt8)} {N N' : Nat} {s t : ByteArray} (h : Ms w b (wth g s ⟨#[]⟩ false) D N) (hown : w'.ownsMap Tryz.prog 9 (plainElem Tryz.prog 9) b N' (D.put (.string s.data.toList) (.lit (.string t.data.toList)))) : Ms w' b (wth g s t true) (D.put (.string s.data.toList) (.lit (.string t.data.toList))) N' := by
  have hm := h.own.isMap
  have hk : WideAt.IsKeyLit (.string s.data.toList) := trivial
  refine ⟨hown, fun kl hkl => ?_, fun u => ?_, fun u x z hx => ?_⟩
  · by_cases e : kl = .string s.data.toList
    · exact ⟨s, e⟩
    · rw [Maps.has_put_other e] at hkl
      exact h.key kl hkl
  · unfold wth
    by_cases e : u = s
    · subst e
      rw [Maps.has_put_same hm hk, if_pos rfl]
      rfl
    · rw [Maps.has_put_other (fun e' => e (lit_inj e')), if_neg e]
      have := h.has u
      unfold wth at this
      rw [if_neg e] at this
      exact this
  · unfold wth at hx
    by_cases e : u = s
    · subst e
      rw [if_pos rfl, if_pos rfl] at hx
      injection hx with hx
      rw [Maps.atKey_put_same hm hk, hx]
    · rw [if_neg e] at hx
      rw [Maps.atKey_put_other (fun e' => e (lit_inj e'))]
      refine h.at_ u x z ?_
      unfold wth
      rw [if_neg e]
      exact hx
theorem ms_new (w : World) : Ms (w.alloc (.map #[] 0)) w.heap.size (fun _ => none) (.map []) 0 :=
  ⟨World.ownsMap_made _ _ _ _, (fun kl h => by cases h), fun u => rfl, (fun u t z h => by cases h)⟩
theorem neq_list' {a b : ByteArray} (h : a ≠ b) : (a.toList == b.toList) = false := by
  rw [Lib.toList_data, Lib.toList_data]
  have : a.data.toList ≠ b.data.toList := fun e => h (ByteArray.ext (Array.toList_inj.1 e))
  simpa using this
set_option maxHeartbeats 4000000 in
theorem with_any (s t : ByteArray) (bo : Bool) (w : World) (b : Nat) (g : ByteArray → Option (List UInt8)) (D : DataW Unit) (N : Nat) (hm : Ms w b g D N) (hN : N ≤ 1000) (hs : s.size ≤ 1000000) (ht : t.size ≤ 1000000) :
    Calls Tryz.prog 42 #[.map (some b), .string s, .string t, .bool bo] w fun e w' => ∃ D', e = .returned (.map (some w.heap.size)) ∧ Ms w' w.heap.size (wth g s t bo) D' (N + 1) ∧ Since w w' := by
  have HM : Hid (Ms w b g D N) := hm
  have hmm := @run_makeMap Tryz.prog
  have hown := hm.own
  have hbl := hown.lt
  have HSZ : Hid (Maps.size D ≤ N ∧ N ≤ 1000 ∧ b < w.heap.size) := ⟨hown.size_le, hN, hbl⟩
  have e1 : (w.alloc (.map #[] 0)).heap.size = w.heap.size + 1 := by simp
  have HK : Hid (keyOf Tryz.prog 9 (.string s) = some (.string s.data.toList) ∧ plainElem (H := Unit) Tryz.prog 9 (.string t) = some (.lit (.string t.data.toList), [])) := ⟨key_s s (by unfold maxLen; omega), plainElem_string Tryz.underlying9 (by unfold maxLen; omega)⟩
  clear hm hs ht hN hbl
  go_enter Tryz.func42, Tryz.ntmps42
  go_wp2_with (first
    | (at_range; refine wpList_range_own _ rfl _ 84 rfl 9 9 keyS Tryz.underlying84 _ b N _ rfl (hown.alloc _) ?_; intro w0 hrg0 hg0 hs0)
    | go_in)
  go_frame
  rw [e1] at hrg0 hs0 ⊢
  clear hown
  go_loopw [10] (fun _ wr => ∃ (left : Lit → Bool) (cnt : Nat) (Dout : DataW Unit), wr.ranges Tryz.prog 9 (plainElem Tryz.prog 9) b (w.heap.size + 1) N D left cnt ∧ cnt ≤ Maps.size D ∧
      wr.ownsMap Tryz.prog 9 (plainElem Tryz.prog 9) w.heap.size (Maps.size D - cnt) Dout ∧ Maps.Agree Dout (D.del (.string s.data.toList)) left ∧ Below w.heap.size w wr)
    (fun _ wr => wr.rangeLeft b (w.heap.size + 1))
  case atStart =>
    exact ⟨_, _, .map [], hrg0, Nat.le_refl _, ((World.ownsMap_made _ _ _ _).kept hg0 (by simp)).mono (Nat.zero_le _), same_start D _ trivial, ((Below.refl _ _).alloc (Nat.le_refl _) _).grown hg0 (by simp) (fun j hj => by cases hj)⟩
  case round =>
    clear hrg0 hg0 hs0
    obtain ⟨left, cnt, Dout, hrg, hcs, hout, hA, hnx⟩ := hrel
    go_wp2_with (first
      | (at_next; refine next_ss _ rfl _ rfl 9 9 keyS Tryz.underlying9 Tryz.underlying9 b (w.heap.size + 1) N _ _ _ rfl hrg ?_ ?_)
      | go_in)
    · intro hc0 hl0
      have HO : Hid (Ms wr w.heap.size (wth g s ⟨#[]⟩ false) Dout (Maps.size D - cnt) ∧ Below w.heap.size w wr) := ⟨ms_out HM.out hA hl0 hout, hnx⟩
      have HCN : Hid (Maps.size D - cnt < maxLen ∧ Maps.size D - cnt + 1 ≤ N + 1) := by
        have h1 := HSZ.out
        refine ⟨?_, ?_⟩
        · unfold maxLen; omega
        · omega
      clear hc0 hl0 hA hout hrg hcs hnx
      cases bo with
      | false =>
        go_wp2
        go_ret
        refine ⟨_, rfl, ⟨HO.out.1.own.mono (by have := HCN.out.2; omega), HO.out.1.key, ?_, ?_⟩, HO.out.2⟩
        · intro u
          have := HO.out.1.has u
          unfold wth at this ⊢
          exact this
        · intro u x z hx
          refine HO.out.1.at_ u x z ?_
          unfold wth at hx ⊢
          exact hx
      | true =>
        go_wp2_with (first
          | (at_mapUpdate; refine wpList_mapUpdate_own _ rfl _ _ _ 84 rfl 9 9 keyS Tryz.underlying84 _ w.heap.size _ _ rfl HO.out.1.own HCN.out.1 _ _ _ rfl rfl HK.out.1 _ [] HK.out.2 ?_; intro w2 hout2 hg2; go_frame)
          | go_in)
        have HO2 : Hid (Ms w2 w.heap.size (wth g s t true) (Dout.put (.string s.data.toList) (.lit (.string t.data.toList))) (N + 1) ∧ Since w w2) := ⟨ms_put HO.out.1 (hout2.mono HCN.out.2), Below.grown HO.out.2 hg2 HO.out.2.size (fun j hj => by cases hj; exact Nat.le_refl _)⟩
        clear hout2 hg2
        go_wp2
        go_ret
        exact ⟨_, rfl, HO2.out.1, HO2.out.2⟩
    · intro x c w1 cnt1 hwx hwc hat hrg1 hlt hg1 hs1 hen
      have hout1 := hout.kept hg1 (by simp)
      by_cases hxs : x = s
      · subst hxs
        go_wp2_with fail
        go_roundw
        case rel =>
          exact ⟨_, cnt1, Dout, hrg1, by omega, hout1.mono (by omega), same_skip hA, hnx.grown hg1 hnx.size (fun j hj => by cases hj; exact Nat.le_succ _)⟩
        case measure => rw [hrg1.left_eq, hrg.left_eq]; exact hlt
      · have hne := neq_list' hxs
        have HXS : Hid (¬ x = s) := hxs
        clear hxs
        go_wp2_with (first
          | (at_mapUpdate; refine wpList_mapUpdate_own _ rfl _ _ _ 84 rfl 9 9 keyS Tryz.underlying84 _ w.heap.size _ _ rfl hout1 (by have := HSZ.out; unfold maxLen; omega) _ _ _ rfl rfl (key_s x hwx) _ [] (plainElem_string Tryz.underlying9 hwc) ?_; intro w2 hout2 hg2; go_frame)
          | go_in)
        have hrg2 := hrg1.kept hg2 (fun e => by have := Option.some.inj e; have := HSZ.out.2.2; omega) (fun e => by have := Option.some.inj e; omega)
        go_roundw
        case rel =>
          exact ⟨_, cnt1, _, hrg2, by omega, hout2.mono (by omega), Maps.agree_step hA hout.isMap trivial (fun zd => by rw [Maps.atKey_del_other (fun e => HXS.out (lit_inj e))]; exact hat zd),
            (hnx.grown hg1 hnx.size (fun j hj => by cases hj; exact Nat.le_succ _)).grown hg2 (by have := hnx.size; omega) (fun j hj => by cases hj; exact Nat.le_refl _)⟩
        case measure => rw [hrg2.left_eq, hrg.left_eq]; exact hlt
end Fl
end Go.Proofs.YtlgocfgnfdnloaaGreatDoor
end
section
namespace Go.Proofs.YtlgocfgnfdnloaaGreatDoor
set_option maxRecDepth 100000
namespace Fl
open Go.RowKit Go.Sort Go.Shelf Go.Maps
open En (Fi Fls Ints fval Row freeL allC need nameB filled)
open Vl
def Txs (w : World) (v : Value) (l : List ByteArray) : Prop := ∃ a c, v = .slice a l.length c ∧ (0 < l.length → ∃ k o, a = some ⟨k, o, none⟩ ∧ k < w.heap.size ∧ ∀ j x, l[j]? = some x → w.cell? ⟨k, o + j, none⟩ = some (.string x))
theorem Txs.since {w w' : World} {v : Value} {l : List ByteArray} (h : Txs w v l) (hs : Since w w') : Txs w' v l := by
  obtain ⟨a, c, hv, h⟩ := h
  refine ⟨a, c, hv, fun hn => ?_⟩
  obtain ⟨k, o, ha, hk, hc⟩ := h hn
  exact ⟨k, o, ha, Nat.lt_of_lt_of_le hk hs.size, fun j x hj => (hs.cell (p := ⟨k, o + j, none⟩) hk).trans (hc j x hj)⟩
theorem Txs.at_ {w : World} {a : Option Addr} {c : Nat} {l : List ByteArray} (h : Txs w (.slice a l.length c) l) {j : Nat} {x : ByteArray} (hj : l[j]? = some x) : ∃ k o, a = some ⟨k, o, none⟩ ∧ w.cell? ⟨k, o + j, none⟩ = some (.string x) := by
  obtain ⟨a', c', hv, h⟩ := h
  injection hv with e1 e2 e3
  subst e1 e3
  have hl := (List.getElem?_eq_some_iff.1 hj).1
  obtain ⟨k, o, ha, hk, hc⟩ := h (by omega)
  exact ⟨k, o, ha, hc j x hj⟩
theorem own_txs {w : World} {N : Nat} {v : Value} {l : List Fi} (ho : w.ownsRow N 9 1 v l.length (nmV l)) : Txs w v (l.map Fi.nm) := by
  rcases ho.2 with ⟨h', h0⟩ | ⟨g, cap, cur, h', hb, hg, hnc, _⟩
  · subst h'
    have : l = [] := List.length_eq_zero_iff.1 h0
    subst this
    exact ⟨none, 0, rfl, fun h => by simp at h⟩
  · subst h'
    refine ⟨some ⟨g, 0, none⟩, cap, by simp, fun _ => ⟨g, 0, rfl, (ho.lt g rfl).2, fun j x hj => ?_⟩⟩
    have hjl := (List.getElem?_eq_some_iff.1 hj).1
    rw [List.length_map] at hjl
    rw [Nat.zero_add, ho.cellAt j (by omega)]
    unfold nmV
    rw [List.getElem?_map] at hj ⊢
    cases e : l[j]? with
    | none => rw [e] at hj; cases hj
    | some f =>
      rw [e] at hj
      simp only [Option.map_some, Option.some.injEq] at hj
      subst hj
      rfl
theorem lessS_any (a b : ByteArray) (w : World) (h : Op.bytesLess a.toList b.toList = false) : Calls Tryz.prog 170 #[.string a, .string b] w fun e w' => e = .returned (.bool false) ∧ w' = w := by
  go_enter Tryz.func170, Tryz.ntmps170
  go_wp2_with fail
  refine (isNaNs_any a w).mono ?_
  rintro e w1 ⟨rfl, hw⟩
  subst hw
  go_wp2_with fail
  go_ret
  exact ⟨rfl, rfl⟩
set_option maxHeartbeats 1000000 in
theorem sortedS_any (l : List ByteArray) (v : Value) (w : World) (h : Txs w v l) (hn : l.length ≤ 1000) (hf : l.Pairwise (fun a b => Op.bytesLess b.toList a.toList = false)) :
    Calls Tryz.prog 106 #[v] w fun e w' => e = .returned (.bool true) ∧ Since w w' := by
  obtain ⟨a, c, rfl⟩ : ∃ a c, v = .slice a l.length c := by
    obtain ⟨a, c, h1, _⟩ := h
    exact ⟨a, c, h1⟩
  have HL : Hid (Txs w (.slice a l.length c) l) := h
  have HF : Hid (∀ (i : Nat) (h1 : i + 1 < l.length), Op.bytesLess (l[i + 1]).toList (l[i]).toList = false) := fun i h1 => List.pairwise_iff_getElem.1 hf i (i + 1) (by omega) h1 (by omega)
  clear h hf
  go_enter Tryz.func106, Tryz.ntmps106
  go_wp2_with fail
  go_loopw [3] (fun i wr => ∃ k : Int, -1 ≤ k ∧ k < l.length ∧ i = .int .i64 k ∧ Since w wr) (fun i _ => (intOf i).toNat)
  case atStart => exact ⟨(l.length : Int) - 1, by omega, by omega, rfl, Since.refl _⟩
  case round =>
    obtain ⟨k, hk1, hk2, rfl, hs⟩ := hrel
    have HS : Hid (Since w wr) := hs
    clear hs
    by_cases hlt : 0 < k
    · obtain ⟨j, rfl⟩ : ∃ j : Nat, k = (j : Int) + 1 := ⟨(k - 1).toNat, by omega⟩
      obtain ⟨lk, lo, rfl, q⟩ := (HL.out.since HS.out).at_ (List.getElem?_eq_getElem (show j < l.length by omega))
      obtain ⟨lk2, lo2, he, q2⟩ := (HL.out.since HS.out).at_ (List.getElem?_eq_getElem (show j + 1 < l.length by omega))
      injection he with he
      injection he with he1 he2
      subst he1 he2
      have hle := HF.out j (by omega)
      generalize l[j] = x at *
      generalize l[j + 1] = y at *
      have HLE : Hid (Op.bytesLess y.toList x.toList = false) := hle
      clear hle
      go_wp2_with fail
      go_quiet ((go_at_call 170; exact Calls.quiet_of_same (lessS_any _ _ _ HLE.out)))
      go_wp2_with fail
      go_roundw
      case rel => exact ⟨(j : Int), by omega, by omega, by go_num, HS.out.drewN _⟩
      case measure => simp [intOf]
    · go_wp2_with fail
      go_ret
      exact ⟨rfl, HS.out⟩
theorem ms_size {w : World} {b : Nat} {g : ByteArray → Option (List UInt8)} {D : DataW Unit} {N : Nat} (h : Ms w b g D N) {X : Nat → ByteArray} {l : List Fi} (hr : En.right l = true) (hg : ∀ u, txtOf X l u = g u) : Maps.size D = l.length := by
  obtain ⟨es, rfl, hp, hk⟩ := h.own.entries keyS
  have hsame : ∀ k : Lit, k ∈ es.map Prod.fst ↔ Maps.has (.map es : DataW Unit) k = true := fun k => by
    show _ ↔ es.any (fun p => p.1.sameKey k) = true
    rw [List.any_eq_true, List.mem_map]
    constructor
    · rintro ⟨p, hm, rfl⟩
      exact ⟨p, hm, WideAt.sameKey_self (hk p hm)⟩
    · rintro ⟨p, hm, hs⟩
      refine ⟨p, hm, ?_⟩
      by_cases e : p.1 = k
      · exact e
      · rw [Maps.sameKey_ne e] at hs; cases hs
  have h1 : (es.map Prod.fst).Nodup := List.pairwise_map.2 hp
  have h2 : (l.map (fun f => Lit.string f.nm.data.toList)).Nodup := List.pairwise_map.2 ((dif_right hr).imp (fun {f f'} hne e => hne (lit_inj e)))
  have hperm : (es.map Prod.fst).Perm (l.map (fun f => Lit.string f.nm.data.toList)) := (List.perm_ext_iff_of_nodup h1 h2).2 (fun k => by
    rw [hsame k]
    constructor
    · intro hh
      obtain ⟨u, rfl⟩ := h.key k hh
      rw [h.has u, ← hg u] at hh
      have : txtOf X l u ≠ none := fun e => by rw [e] at hh; cases hh
      obtain ⟨f, hf, rfl⟩ := List.mem_map.1 (txtOf_some.1 this)
      exact List.mem_map.2 ⟨f, hf, rfl⟩
    · intro hh
      obtain ⟨f, hf, rfl⟩ := List.mem_map.1 hh
      rw [h.has f.nm, ← hg f.nm]
      have : txtOf X l f.nm ≠ none := txtOf_some.2 (List.mem_map.2 ⟨f, hf, rfl⟩)
      cases e : txtOf X l f.nm with
      | none => exact absurd e this
      | some _ => rfl)
  have := hperm.length_eq
  rw [List.length_map, List.length_map] at this
  exact this
section
variable {w0 w w' : World} {fb vb db cb : Nat} {kb kt : ByteArray} {S : Vs} {v lv : Value} {d d0 : List Fv} {l l0 : List Fi}
set_option maxHeartbeats 8000000 in
theorem says_any (h : Fm w0 w fb vb db cb kb kt S v lv d l) (hr : En.right l = true) (hx : ∀ i, (S.X i).size ≤ 80) (b : Nat) (g : ByteArray → Option (List UInt8)) (D : DataW Unit) (N : Nat) (hm : Ms w b g D N) :
    Calls Tryz.prog 38 #[.pointer (some ⟨fb, 0, none⟩), .map (some b)] w fun e w' => (∃ q : Bool, e = .returned (.bool q) ∧ ((∀ u, txtOf S.X l u = g u) → q = true)) ∧ Since w w' := by
  have hl8 : l.length ≤ 8 := ((right_iff l).1 hr).1.len
  have HNN : Hid (Calls Tryz.prog 28 #[.pointer (some ⟨fb, 0, none⟩)] w fun e w' => ∃ x, e = .returned x ∧ w'.ownsRow w.heap.size 9 1 x l.length (nmV l) ∧ Since w w') := fnames_any h (by omega)
  have HG : Hid (∀ W s, Since w W → Calls Tryz.prog 34 #[.pointer (some ⟨fb, 0, none⟩), .string s] W fun e w' => e = .returned (getV (txtOf S.X l s)) ∧ Since W w') := fun W s hW => fget_any (h.since hW) hr hx s
  have HM : Hid (Ms w b g D N) := hm
  have HR : Hid (En.right l = true ∧ l.length ≤ 8) := ⟨hr, hl8⟩
  have HSZ : Hid ((∀ u, txtOf S.X l u = g u) → Maps.size D = l.length) := fun hg => ms_size hm hr hg
  have hzs : ∀ W : World, (zeroValue 9).run Tryz.prog W = .ok (.string ⟨#[]⟩) W := fun W => by
    first | exact Tryz.zeroValue9 W | (have := Tryz.zeroValue9; simpa using this W) | rfl
  have HZ : Hid (∀ W : World, (zeroValue 9).run Tryz.prog W = .ok (.string ⟨#[]⟩) W) := hzs
  have hml := hm.own.size_le
  clear h hr hx hm hl8 hzs
  go_enter Tryz.func38, Tryz.ntmps38
  go_wp2_with fail
  refine HNN.out.mono ?_
  rintro e w1 ⟨nv, rfl, hno, hs1⟩
  have HS1 : Hid (Since w w1) := hs1
  have HT : Hid (Txs w1 nv (l.map Fi.nm)) := own_txs hno
  obtain ⟨na, nc, rfl⟩ : ∃ a c, nv = .slice a l.length c := by
    obtain ⟨a, c, h1, _⟩ := HT.out
    rw [List.length_map] at h1
    exact ⟨a, c, h1⟩
  have HM1 : Hid (Ms w1 b g D N) := HM.out.since hs1
  clear hs1 hno
  have HIS : Hid (Calls Tryz.prog 106 #[.slice na l.length nc] w1 fun e w' => e = .returned (.bool true) ∧ Since w1 w') := sortedS_any (l.map Fi.nm) _ w1 HT.out (by rw [List.length_map]; have := HR.out.2; omega) (List.pairwise_map.2 (rise_right HR.out.1))
  obtain ⟨q, hq⟩ : ∃ q, Maps.size D = q := ⟨_, rfl⟩
  have HQ : Hid (Maps.size D = q) := hq
  clear hq hml
  by_cases hlen : l.length = q
  · subst hlen
    go_wp2_with (first
      | (at_len; refine wpList_len_own _ rfl _ 84 rfl 9 9 Tryz.underlying84 _ b N D rfl HM1.out.own ?_; rw [HQ.out])
      | fail)
    refine HIS.out.mono ?_
    rintro e w2 ⟨rfl, hs2⟩
    have HS2 : Hid (Since w1 w2) := hs2
    clear hs2
    go_wp2_with fail
    go_loopw [6] (fun i wr => ∃ k : Nat, k ≤ l.length ∧ i = .int .i64 k ∧ Since w1 wr) (fun i _ => l.length - (intOf i).toNat)
    case atStart => exact ⟨0, by omega, rfl, HS2.out⟩
    case round =>
      obtain ⟨k, hk, rfl, hs⟩ := hrel
      have HS : Hid (Since w1 wr) := hs
      have hl8 : l.length ≤ 8 := HR.out.2
      clear hs
      by_cases hlt : k < l.length
      · have hlt2 : (k : Int) < l.length := by omega
        have hE : Hid (l[k]? = some l[k]) := List.getElem?_eq_getElem hlt
        have hmem : l[k] ∈ l := List.getElem_mem hlt
        have htx : txtOf S.X l (l[k]).nm = some (catL S.X (l[k]).cs) := by
          unfold txtOf
          rw [find_of (dif_right HR.out.1) hmem]
          rfl
        have hnz : (l[k]).nm.size ≤ 10 := (En.name_free (((right_iff l).1 HR.out.1).1.good _ hmem).1).2.2.2
        generalize l[k] = f at *
        have hT' := HT.out.since HS.out
        obtain ⟨k1, o1, rfl, q0⟩ : ∃ k1 o1, na = some ⟨k1, o1, none⟩ ∧ wr.cell? ⟨k1, o1 + k, none⟩ = some (.string f.nm) := by
          have hT2 : Txs wr (.slice na (l.map Fi.nm).length nc) (l.map Fi.nm) := by rw [List.length_map]; exact hT'
          exact hT2.at_ (by rw [List.getElem?_map, hE.out]; rfl)
        have hgg := HG.out wr f.nm (HS1.out.trans HS.out)
        rw [htx] at hgg
        have HGG : Hid (Calls Tryz.prog 34 #[.pointer (some ⟨fb, 0, none⟩), .string f.nm] wr fun e w' => e = .returned (.tuple #[.string ⟨(catL S.X f.cs).toArray⟩, .nilIface]) ∧ Since wr w') := hgg
        have HTX : Hid (txtOf S.X l f.nm = some (catL S.X f.cs)) := htx
        have HKY : Hid (keyOf Tryz.prog 9 (.string f.nm) = some (.string f.nm.data.toList)) := key_s f.nm (by unfold maxLen; omega)
        clear hT' hgg htx hnz hmem
        generalize hct : (⟨(catL S.X f.cs).toArray⟩ : ByteArray) = ct at *
        have HCT : Hid ((⟨(catL S.X f.cs).toArray⟩ : ByteArray) = ct) := hct
        clear hct
        go_wp2_with fail
        refine HGG.out.mono ?_
        rintro e w3 ⟨rfl, hs3⟩
        have HS3 : Hid (Since w1 w3) := HS.out.trans hs3
        have q3 := (hs3.cell (p := ⟨k1, o1 + k, none⟩) (World.block_lt_of_cell? _ _ q0)).trans q0
        have HM3 : Hid (Ms w3 b g D N) := HM1.out.since HS3.out
        clear hs3 q0
        go_upto_region 9 with (first
          | (at_lookup; refine look_ss _ rfl _ _ 84 rfl 9 9 keyS Tryz.underlying84 Tryz.underlying9 (HZ.out _) b N D rfl HM3.out.own _ _ rfl HKY.out ?_; intro c hat)
          | fail)
        have HAT : Hid (D.atKey (.string f.nm.data.toList) (.lit (.string [])) = .lit (.string c.data.toList)) := hat
        clear hat q3
        cases hh : Maps.has D (.string f.nm.data.toList) with
        | false =>
          have HH : Hid (Maps.has D (.string f.nm.data.toList) = false) := hh
          clear hh
          go_wp2_with fail
          go_ret
          refine ⟨⟨false, rfl, fun hg => ?_⟩, HS1.out.trans HS3.out⟩
          have h1 := HM.out.has f.nm
          rw [HH.out, ← hg f.nm, HTX.out] at h1
          cases h1
        | true =>
          clear hh
          by_cases hc : ct = c
          · subst hc
            go_wp2_with fail
            go_roundw
            case rel => exact ⟨k + 1, by omega, by go_num, HS3.out⟩
            case measure => simp [intOf]; omega
          · have hne := neq_list' hc
            have HC : Hid (¬ ct = c) := hc
            clear hc
            go_wp2_with fail
            go_ret
            refine ⟨⟨false, rfl, fun hg => ?_⟩, HS1.out.trans HS3.out⟩
            have h1 := HM.out.at_ f.nm (catL S.X f.cs) (.lit (.string [])) (by rw [← hg f.nm]; exact HTX.out)
            rw [HAT.out] at h1
            injection h1 with h1
            injection h1 with h1
            refine absurd ?_ HC.out
            rw [← HCT.out]
            apply ByteArray.ext
            rw [← h1]
      · have hke : k = l.length := by omega
        subst hke
        go_wp2_with fail
        go_ret
        exact ⟨⟨true, rfl, fun _ => rfl⟩, HS1.out.trans HS.out⟩
  · have hni : ¬ (l.length : Int) = (q : Int) := by omega
    have HL : Hid (¬ l.length = q) := hlen
    clear hlen
    go_wp2_with (first
      | (at_len; refine wpList_len_own _ rfl _ 84 rfl 9 9 Tryz.underlying84 _ b N D rfl HM1.out.own ?_; rw [HQ.out])
      | fail)
    go_ret
    refine ⟨⟨false, rfl, fun hg => ?_⟩, HS1.out⟩
    have := HSZ.out hg
    rw [HQ.out] at this
    exact absurd this.symm HL.out
end
end Fl
end Go.Proofs.YtlgocfgnfdnloaaGreatDoor
end
section
namespace Go.Proofs.YtlgocfgnfdnloaaGreatDoor
set_option maxRecDepth 100000
namespace Fl
open Go.RowKit Go.Sort Go.Shelf
open En (Fi Fls Ints fval Row freeL allC need nameB filled)
open Vl
open Tw (Tb)
def stp (f : ByteArray → Option (List UInt8)) (x : Dd) : ByteArray → Option (List UInt8) := fun u => if u = x.nm then (if x.what = 0 then some x.tx.data.toList else none) else f u
def fin (l : List Dd) : ByteArray → Option (List UInt8) := l.foldl stp (fun _ => none)
structure Abd (x : Dd) : Prop where
  nm : x.nm = nmA ∨ x.nm = nmB'
  what : x.what = 0 ∨ x.what = 1
  tx : x.tx.size ≤ 400
theorem Abd.name {x : Dd} (h : Abd x) : nameB x.nm.data.toList = true ∧ x.nm.size ≤ 1 := by
  rcases h.nm with e | e <;> rw [e]
  · exact ⟨nameA, by decide⟩
  · exact ⟨nameBb, by decide⟩
def Sma (l : List Fi) : Prop := ∀ f ∈ l, (f.nm = nmA ∨ f.nm = nmB') ∧ f.cs.length ≤ 5
section
variable {w0 w w' : World} {fb vb db cb : Nat} {kb kt : ByteArray} {S : Vs} {v lv : Value} {d d0 : List Fv} {l l0 : List Fi} {n : Int} {k : Nat}
def Done (w0 w' : World) (fb vb db cb : Nat) (kb kt : ByteArray) (n : Int) (k : Nat) (g : ByteArray → Option (List UInt8)) : Prop := ∃ S' l' v' lv' d', Fm w0 w' fb vb db cb kb kt S' v' lv' d' l' ∧ Fok kb kt S' l' n k ∧ Sma l' ∧ ∀ u, txtOf S'.X l' u = g u
theorem Done.since {g : ByteArray → Option (List UInt8)} (h : Done w0 w fb vb db cb kb kt n k g) (hs : Since w w') : Done w0 w' fb vb db cb kb kt n k g := by
  obtain ⟨S', l', v', lv', d', h1, h2, h3, h4⟩ := h
  exact ⟨S', l', v', lv', d', h1.since hs, h2, h3, h4⟩
end
end Fl
end Go.Proofs.YtlgocfgnfdnloaaGreatDoor
end
section
namespace Go.Proofs.YtlgocfgnfdnloaaGreatDoor
set_option maxRecDepth 100000
namespace Fl
open Go.RowKit Go.Sort Go.Shelf
open En (Fi Fls Ints fval Row freeL allC need nameB filled)
open Vl
open Tw (Tb)
theorem joinTail_len : ∀ (xs : List (List UInt8)), (∀ x ∈ xs, x.length ≤ 10) → (Lib.joinTail [32] xs).length ≤ 11 * xs.length
  | [], _ => by simp [Lib.joinTail]
  | x :: r, h => by
    have ih := joinTail_len r (fun y hy => h y (List.mem_cons_of_mem _ hy))
    have h1 := h x List.mem_cons_self
    simp only [Lib.joinTail, List.map_cons, List.flatten_cons, List.length_append, List.length_cons, List.length_nil] at ih ⊢
    omega
end Fl
end Go.Proofs.YtlgocfgnfdnloaaGreatDoor
end
