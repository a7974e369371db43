import Derived.Test.YtjfhggcjdckfgaaDoorD2
import Derived.Test.YtjfhggcjdckfgaaDoorD3
namespace Go.Proofs.YtjfhggcjdckfgaaDoor
set_option maxRecDepth 100000
namespace Sm.Sr
set_option linter.unusedSimpArgs false
set_option linter.unusedVariables false
open Go.RowKit
attribute [local go_sem ↓] U_add U_mulc U_xor U_and U_or U_shr U_shl U_not U_conv U_byte U_cells U_match U_oneCell

theorem in_any (n : Int) (w : World) : Calls Tryd.prog 87 #[.int .i64 n, .int .i64 0, .int .i64 4294967295] w fun e w' => e = .returned (.bool (decide (0 ≤ n) && decide (n ≤ 4294967295))) ∧ w' = w := by
  by_cases h : 0 ≤ n
  · go_enter Tryd.func87, Tryd.ntmps87
    go_wp2_with fail
    go_ret
    exact ⟨by simp [h], rfl⟩
  · go_enter Tryd.func87, Tryd.ntmps87
    go_wp2_with fail
    go_ret
    exact ⟨by simp [h]; intro h2; omega, rfl⟩

/-- the four words that are always laid -/
def expand : ByteArray := ⟨#[101, 120, 112, 97, 110, 100, 32, 51, 50, 45, 98, 121, 116, 101, 32, 107]⟩
theorem byteAt_left (a b : ByteArray) (j : Nat) (h : j < a.size) : byteAt (a ++ b) j = byteAt a j := by
  unfold byteAt
  have e : (a ++ b).data.toList = a.data.toList ++ b.data.toList := by rw [ByteArray.data_append]; simp
  have h' : j < a.data.toList.length := by simpa using h
  rw [e, List.getD_eq_getElem?_getD, List.getElem?_append_left h', ← List.getD_eq_getElem?_getD]
theorem byteAt_right (a b : ByteArray) (j : Nat) : byteAt (a ++ b) (a.size + j) = byteAt b j := by
  unfold byteAt
  have e : (a ++ b).data.toList = a.data.toList ++ b.data.toList := by rw [ByteArray.data_append]; simp
  have h' : a.data.toList.length = a.size := by simp
  rw [e, List.getD_eq_getElem?_getD, List.getElem?_append_right (by omega), h', show a.size + j - a.size = j by omega, ← List.getD_eq_getElem?_getD]
theorem wordAt_left (b : ByteArray) (i : Nat) (h : i < 4) : wordAt (expand ++ b) i = wordAt expand i := by
  have hs : expand.size = 16 := rfl
  unfold wordAt
  rw [byteAt_left _ _ _ (by omega), byteAt_left _ _ _ (by omega), byteAt_left _ _ _ (by omega), byteAt_left _ _ _ (by omega)]
theorem wordAt_right (b : ByteArray) (i : Nat) : wordAt (expand ++ b) (4 + i) = wordAt b i := by
  have hs : expand.size = 16 := rfl
  unfold wordAt
  rw [show 4 * (4 + i) = expand.size + 4 * i by omega, show expand.size + 4 * i + 1 = expand.size + (4 * i + 1) by omega, show expand.size + 4 * i + 2 = expand.size + (4 * i + 2) by omega, show expand.size + 4 * i + 3 = expand.size + (4 * i + 3) by omega, byteAt_right, byteAt_right, byteAt_right, byteAt_right]
theorem laid_row (key nonce : ByteArray) (n : BitVec 32) : row 12 (wordAt (expand ++ key)) ++ [U n] ++ row 3 (wordAt nonce) = row 16 (laidF key nonce n) := by
  have h0 := wordAt_left key 0 (by omega)
  have h1 := wordAt_left key 1 (by omega)
  have h2 := wordAt_left key 2 (by omega)
  have h3 := wordAt_left key 3 (by omega)
  have r0 := wordAt_right key 0
  have r1 := wordAt_right key 1
  have r2 := wordAt_right key 2
  have r3 := wordAt_right key 3
  have r4 := wordAt_right key 4
  have r5 := wordAt_right key 5
  have r6 := wordAt_right key 6
  have r7 := wordAt_right key 7
  have e0 : wordAt expand 0 = 1634760805#32 := by decide
  have e1 : wordAt expand 1 = 857760878#32 := by decide
  have e2 : wordAt expand 2 = 2036477234#32 := by decide
  have e3 : wordAt expand 3 = 1797285236#32 := by decide
  show [U (wordAt (expand ++ key) 0), U (wordAt (expand ++ key) 1), U (wordAt (expand ++ key) 2), U (wordAt (expand ++ key) 3), U (wordAt (expand ++ key) (4 + 0)), U (wordAt (expand ++ key) (4 + 1)), U (wordAt (expand ++ key) (4 + 2)), U (wordAt (expand ++ key) (4 + 3)), U (wordAt (expand ++ key) (4 + 4)), U (wordAt (expand ++ key) (4 + 5)), U (wordAt (expand ++ key) (4 + 6)), U (wordAt (expand ++ key) (4 + 7)), U n, U (wordAt nonce 0), U (wordAt nonce 1), U (wordAt nonce 2)] = _
  rw [h0, h1, h2, h3, r0, r1, r2, r3, r4, r5, r6, r7, e0, e1, e2, e3]
  rfl
theorem _root_.Go.Proofs.YtjfhggcjdckfgaaDoor.Sm.Row.arr {w : World} {B : Nat} {e : TypeId} {g cap n : Nat} {f : Nat → BitVec 32} (h : Row w B e (.slice (some ⟨g, 0, none⟩) n cap) (row n f)) : Arr w g 0 n f where
  cell j hj := by
    rw [Nat.zero_add, h.cell (by rw [row_length]) j (by rw [row_length]; exact hj)]
    have := row_get n f j hj
    rw [List.getElem?_eq_some_iff] at this
    obtain ⟨_, h2⟩ := this
    rw [h2]
  frozen j hj := by
    rw [Nat.zero_add]
    unfold Row at h
    rw [row_length] at h
    exact World.ownsRow.frozenAt h j

/-- k single rounds -/
def rr (f : Nat → BitVec 32) : Nat → Nat → BitVec 32
  | 0 => f
  | k + 1 => rnd (k % 2) (rr f k)
theorem rr_two (f : Nat → BitVec 32) : ∀ n, rr f (2 * n) = rnds f n := by
  intro n
  induction n with
  | zero => rfl
  | succ n ih =>
    rw [show 2 * (n + 1) = 2 * n + 1 + 1 by omega]
    show rnd ((2 * n + 1) % 2) (rnd (2 * n % 2) (rr f (2 * n))) = rnd 1 (rnd 0 (rnds f n))
    rw [ih, show (2 * n + 1) % 2 = 1 by omega, show 2 * n % 2 = 0 by omega]
theorem mx_step (sh : Nat) (f : Nat → BitVec 32) (hsh : sh < 2) (k : Nat) (hk : k < 4) (j : Nat) (hj : j < 16) :
    mx (rndTo sh f k) k (4 + (k + sh) % 4) (8 + (k + 2 * sh) % 4) (12 + (k + 3 * sh) % 4) 2 j = rndTo sh f (k + 1) j := by
  have all : ∀ sh, sh < 2 → ∀ k, k < 4 → ∀ j, j < 16 → mx (rndTo sh f k) k (4 + (k + sh) % 4) (8 + (k + 2 * sh) % 4) (12 + (k + 3 * sh) % 4) 2 j = rndTo sh f (k + 1) j := by
    intro sh hsh k hk
    rcases sh with _ | _ | sh
    all_goals first | omega | skip
    all_goals rcases k with _ | _ | _ | _ | k
    all_goals first | omega | skip
    all_goals
      intro j hj
      rcases j with _ | _ | _ | _ | _ | _ | _ | _ | _ | _ | _ | _ | _ | _ | _ | _ | j
      all_goals first | omega | rfl
  exact all sh hsh k hk j hj
end Sm.Sr
end Go.Proofs.YtjfhggcjdckfgaaDoor
