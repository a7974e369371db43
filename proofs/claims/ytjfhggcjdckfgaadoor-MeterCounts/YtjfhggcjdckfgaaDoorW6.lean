import Derived.Test.YtjfhggcjdckfgaaDoorW5
import Derived.Test.YtjfhggcjdckfgaaDoorW2
namespace Go.Proofs.YtjfhggcjdckfgaaDoor
set_option linter.unusedSimpArgs false
set_option linter.unusedVariables false
set_option maxRecDepth 100000
namespace Sm
open Go.RowKit
attribute [local go_sem] U_add U_mulc U_xor U_and U_or U_shr U_shl U_not U_conv U_byte U_cells U_match U_oneCell U_store U_store1

def wb (x : BitVec 32) : List Int := [lowb (x >>> 24), lowb (x >>> 16), lowb (x >>> 8), lowb x]
def St.bytes (s : St) : List Int := wb s.a ++ wb s.b ++ wb s.c ++ wb s.d ++ wb s.e ++ wb s.f ++ wb s.g ++ wb s.h
set_option maxHeartbeats 1000000 in
set_option maxRecDepth 100000 in
theorem join_any (st : St) (w : World) :
    Calls Tryd.prog 80 #[st.val] w fun e w' => e = .returned (.string (strOfNums st.bytes)) ∧ Since w w' := by
  have hmk : ∀ w, (Instr.makeSlice 120 (.int .i64 0) (.int .i64 32)).run Tryd.prog w = .ok (.slice (some ⟨w.heap.size, 0, none⟩) 0 32) (w.alloc (.cells #[.int .u8 0, .int .u8 0, .int .u8 0, .int .u8 0, .int .u8 0, .int .u8 0, .int .u8 0, .int .u8 0, .int .u8 0, .int .u8 0, .int .u8 0, .int .u8 0, .int .u8 0, .int .u8 0, .int .u8 0, .int .u8 0, .int .u8 0, .int .u8 0, .int .u8 0, .int .u8 0, .int .u8 0, .int .u8 0, .int .u8 0, .int .u8 0, .int .u8 0, .int .u8 0, .int .u8 0, .int .u8 0, .int .u8 0, .int .u8 0, .int .u8 0, .int .u8 0] 5)) := fun _ => by kernel_rfl
  have i0 : ∀ w, (Instr.index 110 (.agg #[U st.a, U st.b, U st.c, U st.d, U st.e, U st.f, U st.g, U st.h]) (.int .i64 0)).run Tryd.prog w = .ok (U st.a) w := fun _ => by kernel_rfl
  have i1 : ∀ w, (Instr.index 110 (.agg #[U st.a, U st.b, U st.c, U st.d, U st.e, U st.f, U st.g, U st.h]) (.int .i64 1)).run Tryd.prog w = .ok (U st.b) w := fun _ => by kernel_rfl
  have i2 : ∀ w, (Instr.index 110 (.agg #[U st.a, U st.b, U st.c, U st.d, U st.e, U st.f, U st.g, U st.h]) (.int .i64 2)).run Tryd.prog w = .ok (U st.c) w := fun _ => by kernel_rfl
  have i3 : ∀ w, (Instr.index 110 (.agg #[U st.a, U st.b, U st.c, U st.d, U st.e, U st.f, U st.g, U st.h]) (.int .i64 3)).run Tryd.prog w = .ok (U st.d) w := fun _ => by kernel_rfl
  have i4 : ∀ w, (Instr.index 110 (.agg #[U st.a, U st.b, U st.c, U st.d, U st.e, U st.f, U st.g, U st.h]) (.int .i64 4)).run Tryd.prog w = .ok (U st.e) w := fun _ => by kernel_rfl
  have i5 : ∀ w, (Instr.index 110 (.agg #[U st.a, U st.b, U st.c, U st.d, U st.e, U st.f, U st.g, U st.h]) (.int .i64 5)).run Tryd.prog w = .ok (U st.f) w := fun _ => by kernel_rfl
  have i6 : ∀ w, (Instr.index 110 (.agg #[U st.a, U st.b, U st.c, U st.d, U st.e, U st.f, U st.g, U st.h]) (.int .i64 6)).run Tryd.prog w = .ok (U st.g) w := fun _ => by kernel_rfl
  have i7 : ∀ w, (Instr.index 110 (.agg #[U st.a, U st.b, U st.c, U st.d, U st.e, U st.f, U st.g, U st.h]) (.int .i64 7)).run Tryd.prog w = .ok (U st.h) w := fun _ => by kernel_rfl
  unfold St.val
  go_enter Tryd.func80, Tryd.ntmps80
  go_wp2_with fail
  refine wp_loop_rounds 9 ?_
  iterate 9 (rw [rounds_succ]; go_wp2)
  rw [conv_cells _ st.bytes (w.heap.size + 1) 32 32 rfl ?hb]
  case hb =>
    intro i hi
    iterate 8 rw [World.cell?_alloc_past _ _ _ (by simp <;> omega)]
    rw [World.cell?_alloc_at _ _ _ _ (by simp)]
    have e : ∀ l : List Int, i < l.length → (l.map (Value.int .u8)).toArray[i]? = some (.int .u8 (l.getD i 0)) := by
      intro l hl; simp [hl]
    exact e st.bytes hi
  go_wp2
  go_ret
  exact ⟨rfl, by repeat (first | exact Since.refl _ | refine Since.alloc ?_ _)⟩
end Sm
end Go.Proofs.YtjfhggcjdckfgaaDoor
