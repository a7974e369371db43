import Derived.Test.YtbfjklpoheooaaaGreatDoorJ14
import Derived.Test.YtbfjklpoheooaaaGreatDoorJ16
set_option linter.unusedSimpArgs false
set_option linter.unusedVariables false
namespace Go.Proofs.YtbfjklpoheooaaaGreatDoor
set_option maxRecDepth 100000
namespace Sm
theorem ror_rol (x : BitVec 32) (n : Nat) (h1 : n < 32) : ror x n = rol x (32 - n) := by
  unfold ror rol
  rw [show 32 - (32 - n) = n by omega, BitVec.or_comm]
  apply BitVec.add_eq_or_of_and_eq_zero
  apply BitVec.eq_of_getLsbD_eq
  intro i hi
  simp only [BitVec.getLsbD_and, BitVec.getLsbD_ushiftRight, BitVec.getLsbD_shiftLeft, BitVec.getLsbD_zero]
  by_cases h : i < 32 - n
  · simp [h]
  · have : x.getLsbD (n + i) = false := BitVec.getLsbD_of_ge x (n + i) (by omega)
    simp [this]
theorem choice_eq (e f g : BitVec 32) : g ^^^ e &&& (f ^^^ g) = e &&& f ^^^ ~~~e &&& g := by
  apply BitVec.eq_of_getLsbD_eq
  intro i hi
  simp only [BitVec.getLsbD_and, BitVec.getLsbD_xor, BitVec.getLsbD_not, hi]
  cases e.getLsbD i <;> cases f.getLsbD i <;> cases g.getLsbD i <;> rfl
theorem most_eq (a b c : BitVec 32) : a &&& b ||| c &&& (a ||| b) = a &&& b ^^^ a &&& c ^^^ b &&& c := by
  apply BitVec.eq_of_getLsbD_eq
  intro i hi
  simp only [BitVec.getLsbD_and, BitVec.getLsbD_xor, BitVec.getLsbD_or]
  cases a.getLsbD i <;> cases b.getLsbD i <;> cases c.getLsbD i <;> rfl
theorem horner (x : BitVec 32) (d : UInt8) : x * BitVec.ofInt 32 256 + BitVec.ofNat 32 d.toNat = x <<< 8 ||| BitVec.ofNat 32 d.toNat := by
  have e : x * BitVec.ofInt 32 256 = x <<< 8 := by
    apply BitVec.eq_of_toNat_eq
    have h : (BitVec.ofInt 32 256).toNat = 256 := by decide
    rw [BitVec.toNat_mul, BitVec.toNat_shiftLeft, Nat.shiftLeft_eq, h]
  rw [e]
  apply BitVec.add_eq_or_of_and_eq_zero
  apply BitVec.eq_of_getLsbD_eq
  intro i hi
  simp only [BitVec.getLsbD_and, BitVec.getLsbD_shiftLeft, BitVec.getLsbD_zero]
  by_cases h : i < 8
  · simp [h]
  · have hd := d.toNat_lt
    have : (BitVec.ofNat 32 d.toNat).getLsbD i = false := by
      rw [BitVec.getLsbD_ofNat, Nat.testBit_lt_two_pow (Nat.lt_of_lt_of_le hd (Nat.pow_le_pow_right (by decide) (show 8 ≤ i by omega)))]
      simp
    simp [this]
theorem word_horner (a b c d : UInt8) : (((0 * BitVec.ofInt 32 256 + BitVec.ofNat 32 a.toNat) * BitVec.ofInt 32 256 + BitVec.ofNat 32 b.toNat) * BitVec.ofInt 32 256 + BitVec.ofNat 32 c.toNat) * BitVec.ofInt 32 256 + BitVec.ofNat 32 d.toNat = word4 a b c d := by
  rw [horner, horner, horner, horner]
  unfold word4
  simp only [BitVec.shiftLeft_or_distrib, ← BitVec.shiftLeft_add]
  have e0 : (0 : BitVec 32) <<< (8 + 8 + 8 + 8) = 0#32 := by decide
  rw [e0, BitVec.zero_or]
def msg (s : ByteArray) : ByteArray := s ++ strOfNums (pad s.size)
theorem msg_size (s : ByteArray) : (msg s).size = s.size + (72 - (s.size + 8) % 64) := by
  unfold msg; rw [ByteArray.size_append, strOfNums_size, pad_length]
theorem msg_mod (s : ByteArray) : (msg s).size % 64 = 0 := by rw [msg_size]; omega
theorem ext_left (a b : ByteArray) (i j : Nat) (h : j ≤ a.size) : (a ++ b).extract i j = a.extract i j := by
  apply ByteArray.ext
  rw [ByteArray.data_extract, ByteArray.data_extract, ByteArray.data_append, Array.extract_append]
  have e : a.data.size = a.size := rfl
  have : (b.data.extract (i - a.data.size) (j - a.data.size)) = #[] := by
    apply Array.eq_empty_of_size_eq_zero; simp; omega
  rw [this, Array.append_empty]
theorem ext_right (a b : ByteArray) (i j : Nat) (h : a.size ≤ i) : (a ++ b).extract i j = b.extract (i - a.size) (j - a.size) := by
  apply ByteArray.ext
  rw [ByteArray.data_extract, ByteArray.data_extract, ByteArray.data_append, Array.extract_append]
  have e : a.data.size = a.size := rfl
  have : (a.data.extract i j) = #[] := by
    apply Array.eq_empty_of_size_eq_zero; simp; omega
  rw [this, Array.empty_append]
  rfl
theorem ext_whole (s : ByteArray) (i : Nat) (h : i ≤ s.size) : s.extract 0 i ++ s.extract i s.size = s := by
  apply ByteArray.ext
  rw [ByteArray.data_append, ByteArray.data_extract, ByteArray.data_extract]
  have e : s.data.size = s.size := rfl
  rw [← e, Array.extract_append_extract]
  simp; omega
theorem head_size (s : ByteArray) : (headOf s).size = s.size - s.size % 64 := by unfold headOf; simp [ByteArray.size_extract]
theorem head_tail (s : ByteArray) : headOf s ++ tailOf s = msg s := by
  unfold headOf tailOf msg
  rw [← ByteArray.append_assoc, ext_whole s _ (by omega)]
theorem mixTo_left (st : St) (a b : ByteArray) : ∀ n, n * 64 ≤ a.size → mixTo st (a ++ b) n = mixTo st a n := by
  intro n
  induction n with
  | zero => intro _; rfl
  | succ n ih =>
    intro h
    unfold mixTo
    rw [ih (by omega)]
    unfold blk
    rw [ext_left a b _ _ (by omega)]
theorem mixTo_right (st : St) (a b : ByteArray) (k : Nat) (hk : a.size = k * 64) : ∀ n, mixTo st (a ++ b) (k + n) = mixTo (mixTo st a k) b n := by
  intro n
  induction n with
  | zero => exact mixTo_left st a b k (by omega)
  | succ n ih =>
    show (mixTo st (a ++ b) (k + n)).mix (blk (a ++ b) (k + n)) = (mixTo (mixTo st a k) b n).mix (blk b n)
    rw [ih]
    unfold blk
    rw [ext_right a b _ _ (by omega), hk, show (k + n) * 64 - k * 64 = n * 64 by omega, show (k + n + 1) * 64 - k * 64 = (n + 1) * 64 by omega]
theorem sum_msg (s : ByteArray) : sumSt s = mixTo H0 (msg s) ((msg s).size / 64) := by
  have h1 := head_size s
  have h2 : (headOf s).size = (headOf s).size / 64 * 64 := by omega
  have h3 : (msg s).size / 64 = (headOf s).size / 64 + (tailOf s).size / 64 := by
    have e := congrArg ByteArray.size (head_tail s)
    rw [ByteArray.size_append] at e
    omega
  rw [← head_tail s] at h3 ⊢
  rw [h3, mixTo_right H0 _ _ _ h2]
  rfl
theorem byAt_left (a b : ByteArray) (j : Nat) (h : j < a.size) : byAt (a ++ b) j = byAt a j := by
  unfold byAt
  have e : (a ++ b).data.toList = a.data.toList ++ b.data.toList := by rw [ByteArray.data_append]; simp
  have h' : j < a.data.toList.length := by simpa using h
  rw [e, List.getD_eq_getElem?_getD, List.getElem?_append_left h', ← List.getD_eq_getElem?_getD]
theorem byAt_right (a b : ByteArray) (j : Nat) : byAt (a ++ b) (a.size + j) = byAt b j := by
  unfold byAt
  have e : (a ++ b).data.toList = a.data.toList ++ b.data.toList := by rw [ByteArray.data_append]; simp
  have h' : a.data.toList.length = a.size := by simp
  rw [e, List.getD_eq_getElem?_getD, List.getElem?_append_right (by omega), h', show a.size + j - a.size = j by omega, ← List.getD_eq_getElem?_getD]
theorem byAt_nums (l : List Int) (j : Nat) (hj : j < l.length) (h : ∀ x ∈ l, 0 ≤ x ∧ x < 256) : byAt (strOfNums l) j = l.getD j 0 := by
  unfold byAt
  rw [strOfNums_data, List.getD_eq_getElem?_getD, List.getElem?_map, List.getElem?_eq_getElem hj, List.getD_eq_getElem?_getD, List.getElem?_eq_getElem hj]
  have hx := h l[j] (List.getElem_mem hj)
  simp
  omega
theorem be8_bd (n : Int) (h0 : 0 ≤ n) (h1 : n < 18446744073709551616) : ∀ x ∈ be8 n, 0 ≤ x ∧ x < 256 := by
  intro x hx
  simp only [be8, List.mem_cons, List.not_mem_nil, or_false] at hx
  omega
theorem pad_bd (n : Nat) (h : n ≤ 1000000) : ∀ x ∈ pad n, 0 ≤ x ∧ x < 256 := by
  intro x hx
  unfold pad at hx
  rcases List.mem_append.1 hx with hx | hx
  · rcases List.mem_append.1 hx with hx | hx
    · simp at hx; omega
    · rw [List.eq_of_mem_replicate hx]; omega
  · exact be8_bd _ (by omega) (by omega) x hx
def zend (n : Nat) : Nat := n + 1 + (63 - (n + 8) % 64)
theorem msg_at (s : ByteArray) (j : Nat) (h : s.size ≤ 1000000) (h1 : s.size ≤ j) (h2 : j < zend s.size + 8) : byAt (msg s) j = (pad s.size).getD (j - s.size) 0 := by
  obtain ⟨k, rfl⟩ := Nat.exists_eq_add_of_le h1
  unfold msg
  rw [byAt_right, byAt_nums _ _ (by rw [pad_length]; unfold zend at h2; omega) (pad_bd _ h), show s.size + k - s.size = k by omega]
theorem msg_128 (s : ByteArray) (h : s.size ≤ 1000000) : byAt (msg s) s.size = 128 := by
  rw [msg_at s _ h (Nat.le_refl _) (by unfold zend; omega), Nat.sub_self]; rfl
theorem msg_0 (s : ByteArray) (j : Nat) (h : s.size ≤ 1000000) (h1 : s.size < j) (h2 : j < zend s.size) : byAt (msg s) j = 0 := by
  rw [msg_at s _ h (by omega) (by omega)]
  unfold zend at h2
  unfold pad
  rw [List.getD_eq_getElem?_getD, List.getElem?_append_left (by simp; omega), List.getElem?_append_right (by simp; omega), List.getElem?_replicate, if_pos (by simp; omega)]
  rfl
theorem msg_8 (s : ByteArray) (t : Nat) (h : s.size ≤ 1000000) (ht : t < 8) : byAt (msg s) (zend s.size + t) = (be8 (8 * s.size)).getD t 0 := by
  rw [msg_at s _ h (by unfold zend; omega) (by omega)]
  unfold pad
  have e : zend s.size + t - s.size = ([128] ++ List.replicate (63 - (s.size + 8) % 64) (0 : Int)).length + t := by unfold zend; simp; omega
  rw [e, List.getD_eq_getElem?_getD, List.getElem?_append_right (by omega), Nat.add_sub_cancel_left, ← List.getD_eq_getElem?_getD]
theorem msg_end (s : ByteArray) : (msg s).size = zend s.size + 8 := by rw [msg_size]; unfold zend; omega
theorem Bs.congr {w : World} {B g n cap : Nat} {f f' : Nat → Int} (h : Bs w B g n cap f) (e : ∀ j, j < n → f j = f' j) : Bs w B g n cap f' :=
  ⟨h.new, h.le, h.lt, fun j hj => by rw [← e j hj]; exact h.holds j hj, h.there⟩
theorem Bs.more {w : World} {B g n cap : Nat} {f : Nat → Int} {d : Int} (h : Bs w B g (n + 1) cap (snocf f n d)) (hd : f n = d) : Bs w B g (n + 1) cap f :=
  h.congr (fun j hj => by
    unfold snocf
    by_cases h1 : j < n
    · rw [if_pos h1]
    · rw [if_neg h1, show j = n by omega, hd])
theorem word_h (a b c d : UInt8) : ((BitVec.ofInt 32 (a.toNat : Int) * 256#32 + BitVec.ofInt 32 (b.toNat : Int)) * 256#32 + BitVec.ofInt 32 (c.toNat : Int)) * 256#32 + BitVec.ofInt 32 (d.toNat : Int) = word4 a b c d := by
  rw [← word_horner a b c d]
  have e : BitVec.ofInt 32 256 = 256#32 := by decide
  simp only [BitVec.ofInt_natCast, e]
  congr 6
  have z : (0 : BitVec 32) * 256#32 = 0#32 := by decide
  rw [z, BitVec.zero_add]
theorem byte_blk (M : ByteArray) (t i : Nat) (h : (t + 1) * 64 ≤ M.size) (hi : i < 64) : byteAt (blk M t) i = byteAt M (64 * t + i) := by
  have h1 : i < (blk M t).size := by unfold blk; simp [ByteArray.size_extract]; omega
  have e : byteAt (blk M t) i = (blk M t)[i] := by
    unfold byteAt; rw [List.getD_eq_getElem?_getD, List.getElem?_eq_getElem (by simpa using h1)]; rfl
  rw [e]
  exact (ext_byte M (t * 64) ((t + 1) * 64) i h1 h).trans (by rw [Nat.mul_comm t 64])
theorem word_blk (M : ByteArray) (t k : Nat) (h : (t + 1) * 64 ≤ M.size) (hk : k < 16) :
    ((BitVec.ofInt 32 (byAt M (64 * t + 4 * k)) * 256#32 + BitVec.ofInt 32 (byAt M (64 * t + 4 * k + 1))) * 256#32 + BitVec.ofInt 32 (byAt M (64 * t + 4 * k + 2))) * 256#32 + BitVec.ofInt 32 (byAt M (64 * t + 4 * k + 3)) = wordAt (blk M t) k := by
  unfold wordAt
  rw [byte_blk M t _ h (by omega), byte_blk M t _ h (by omega), byte_blk M t _ h (by omega), byte_blk M t _ h (by omega)]
  exact word_h (byteAt M (64 * t + 4 * k)) (byteAt M (64 * t + (4 * k + 1))) (byteAt M (64 * t + (4 * k + 2))) (byteAt M (64 * t + (4 * k + 3)))
def schU (b : ByteArray) (k : Nat) : Nat → BitVec 32 := if k ≤ 16 then fstTo b k else schTo b (k - 16)
theorem schU_fst {w : World} {b : Nat} {M : ByteArray} {t k : Nat} (hA : Arr w b 0 64 (schU (blk M t) k)) (h : (t + 1) * 64 ≤ M.size) (hk : k < 16) :
    Arr (w.setCell ⟨b, k, none⟩ (U (((BitVec.ofInt 32 (byAt M (64 * t + 4 * k)) * 256#32 + BitVec.ofInt 32 (byAt M (64 * t + 4 * k + 1))) * 256#32 + BitVec.ofInt 32 (byAt M (64 * t + 4 * k + 2))) * 256#32 + BitVec.ofInt 32 (byAt M (64 * t + 4 * k + 3))))) b 0 64 (schU (blk M t) (k + 1)) := by
  rw [word_blk M t k h hk]
  have h3 := hA.set k (by omega) (wordAt (blk M t) k)
  rw [Nat.zero_add] at h3
  refine h3.congr (fun j hj => ?_)
  unfold schU
  rw [if_pos (by omega), if_pos (by omega)]
  exact fst_step _ k j
theorem schU_late (b : ByteArray) (k : Nat) (h : 16 ≤ k) : schU b k = schTo b (k - 16) := by
  unfold schU
  by_cases e : k = 16
  · subst e; rw [if_pos (by omega)]; rfl
  · rw [if_neg (by omega)]
theorem schU_arr {wr : World} {b : Nat} {s : ByteArray} {k : Nat} (h : Arr wr b 0 64 (schTo s (k - 16))) (hk : 16 ≤ k) (hlt : k < 64) :
    Arr (wr.setCell ⟨b, k, none⟩ (U ((ror (schTo s (k - 16) (k - 2)) 17 ^^^ ror (schTo s (k - 16) (k - 2)) 19 ^^^ schTo s (k - 16) (k - 2) >>> 10) + schTo s (k - 16) (k - 7) + (ror (schTo s (k - 16) (k - 15)) 7 ^^^ ror (schTo s (k - 16) (k - 15)) 18 ^^^ schTo s (k - 16) (k - 15) >>> 3) + schTo s (k - 16) (k - 16)))) b 0 64 (schU s (k + 1)) := by
  rw [schU_late s (k + 1) (by omega), ror_rol _ 17 (by decide), ror_rol _ 19 (by decide), ror_rol _ 7 (by decide), ror_rol _ 18 (by decide)]
  exact sch_arr h hk hlt
theorem round_eq (r : St) (k w : BitVec 32) :
    (⟨(r.h + (ror r.e 6 ^^^ ror r.e 11 ^^^ ror r.e 25) + (r.g ^^^ r.e &&& (r.f ^^^ r.g)) + k + w) + ((ror r.a 2 ^^^ ror r.a 13 ^^^ ror r.a 22) + (r.a &&& r.b ||| r.c &&& (r.a ||| r.b))), r.a, r.b, r.c,
      r.d + (r.h + (ror r.e 6 ^^^ ror r.e 11 ^^^ ror r.e 25) + (r.g ^^^ r.e &&& (r.f ^^^ r.g)) + k + w), r.e, r.f, r.g⟩ : St) = r.step k w := by
  unfold St.step St.one St.two
  rw [ror_rol _ 6 (by decide), ror_rol _ 11 (by decide), ror_rol _ 25 (by decide), ror_rol _ 2 (by decide), ror_rol _ 13 (by decide), ror_rol _ 22 (by decide), choice_eq, most_eq]
theorem slice_next (g t T cap : Nat) : Value.slice (if cap - 64 * t = 64 then some ⟨g, 64 * t, none⟩ else some ⟨g, 64 * t + 64, none⟩) (64 * T - 64 * t - 64) (cap - 64 * t - 64) = .slice (some ⟨g, if cap - 64 * t = 64 then 64 * t else 64 * t + 64, none⟩) (64 * T - 64 * (t + 1)) (cap - 64 * (t + 1)) := by
  rw [show 64 * T - 64 * (t + 1) = 64 * T - 64 * t - 64 by omega, show cap - 64 * (t + 1) = cap - 64 * t - 64 by omega]
  split <;> rfl
theorem cell_set8 (w : World) (b g j : Nat) (t : St) (h : g ≠ b) :
    ((((((((w.setCell ⟨b, 0, none⟩ (U t.a)).setCell ⟨b, 1, none⟩ (U t.b)).setCell ⟨b, 2, none⟩ (U t.c)).setCell ⟨b, 3, none⟩ (U t.d)).setCell ⟨b, 4, none⟩ (U t.e)).setCell ⟨b, 5, none⟩ (U t.f)).setCell ⟨b, 6, none⟩ (U t.g)).setCell ⟨b, 7, none⟩ (U t.h)).cell? ⟨g, j, none⟩ = w.cell? ⟨g, j, none⟩ := by
  have e : ∀ (w : World) (o : Nat) (v : Value), (w.setCell ⟨b, o, none⟩ v).cell? ⟨g, j, none⟩ = w.cell? ⟨g, j, none⟩ := fun w o v =>
    World.cell?_setCell_other _ _ _ _ (by intro hc; injection hc with h1 _; exact h h1.symm)
  rw [e, e, e, e, e, e, e, e]
theorem size_set8 (w : World) (b : Nat) (t : St) :
    ((((((((w.setCell ⟨b, 0, none⟩ (U t.a)).setCell ⟨b, 1, none⟩ (U t.b)).setCell ⟨b, 2, none⟩ (U t.c)).setCell ⟨b, 3, none⟩ (U t.d)).setCell ⟨b, 4, none⟩ (U t.e)).setCell ⟨b, 5, none⟩ (U t.f)).setCell ⟨b, 6, none⟩ (U t.g)).setCell ⟨b, 7, none⟩ (U t.h)).heap.size = w.heap.size := by
  simp [World.setCell]
end Sm
end Go.Proofs.YtbfjklpoheooaaaGreatDoor
