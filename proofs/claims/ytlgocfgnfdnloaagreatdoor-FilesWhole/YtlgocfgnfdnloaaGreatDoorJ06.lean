import Derived.Deep.QuietTactic
import Derived.BigQuiet
import Derived.Deep.RegionWith
import Derived.Test.YtlgocfgnfdnloaaGreatDoorJ01
set_option linter.unusedSimpArgs false
set_option linter.unusedVariables false
namespace Go.Proofs.YtlgocfgnfdnloaaGreatDoor
set_option maxRecDepth 100000
namespace Sm
open Go.RowKit
theorem cell_new (w : World) (cs : Array Value) (t : TypeId) (i : Nat) (h : i < cs.size) : (w.alloc (.cells cs t)).cell? ⟨w.heap.size, i, none⟩ = some cs[i] := by
  rw [World.cell?_alloc_new]; simp [h]
theorem conv_new (w : World) (xs : List Int) (t : TypeId) (k m cap : Nat) (hk : k = w.heap.size) (hm : m = xs.length) :
    (convert 187 9 (.slice (some ⟨k, 0, none⟩) m cap)).run Tryz.prog (w.alloc (.cells (xs.map (Value.int .u8)).toArray t)) = .ok (.string (strOfNums xs)) (w.alloc (.cells (xs.map (Value.int .u8)).toArray t)) := by
  subst hk hm
  refine run_convert_bytes_arg _ 187 5 Tryz.underlying187 Tryz.underlying5 w.heap.size 0 xs.length cap xs rfl (fun i hi => ?_) 9 Tryz.underlying9
  rw [Nat.zero_add, cell_new _ _ _ _ (by simpa using hi)]
  simp [hi]
theorem conv_cells (w : World) (xs : List Int) (k m cap : Nat) (hm : m = xs.length) (hb : ∀ i, i < xs.length → w.cell? ⟨k, i, none⟩ = some (.int .u8 (xs.getD i 0))) :
    (convert 187 9 (.slice (some ⟨k, 0, none⟩) m cap)).run Tryz.prog w = .ok (.string (strOfNums xs)) w := by
  subst hm
  exact run_convert_bytes_arg _ 187 5 Tryz.underlying187 Tryz.underlying5 k 0 xs.length cap xs rfl (fun i hi => by rw [Nat.zero_add]; exact hb i hi) 9 Tryz.underlying9
theorem conv1 (w : World) (a : Int) (t : TypeId) (k cap : Nat) (hk : k = w.heap.size) :
    (convert 187 9 (.slice (some ⟨k, 0, none⟩) 1 cap)).run Tryz.prog (w.alloc (.cells #[.int .u8 a] t)) = .ok (.string (strOfNums [a])) (w.alloc (.cells #[.int .u8 a] t)) :=
  conv_new w [a] t k 1 cap hk rfl
theorem conv4 (w : World) (a b c d : Int) (t : TypeId) (k cap : Nat) (hk : k = w.heap.size) :
    (convert 187 9 (.slice (some ⟨k, 0, none⟩) 4 cap)).run Tryz.prog (w.alloc (.cells #[.int .u8 a, .int .u8 b, .int .u8 c, .int .u8 d] t)) = .ok (.string (strOfNums [a, b, c, d])) (w.alloc (.cells #[.int .u8 a, .int .u8 b, .int .u8 c, .int .u8 d] t)) :=
  conv_new w [a, b, c, d] t k 4 cap hk rfl
theorem conv8 (w : World) (a b c d a' b' c' d' : Int) (t : TypeId) (k cap : Nat) (hk : k = w.heap.size) :
    (convert 187 9 (.slice (some ⟨k, 0, none⟩) 8 cap)).run Tryz.prog (w.alloc (.cells #[.int .u8 a, .int .u8 b, .int .u8 c, .int .u8 d, .int .u8 a', .int .u8 b', .int .u8 c', .int .u8 d'] t)) = .ok (.string (strOfNums [a, b, c, d, a', b', c', d'])) (w.alloc (.cells #[.int .u8 a, .int .u8 b, .int .u8 c, .int .u8 d, .int .u8 a', .int .u8 b', .int .u8 c', .int .u8 d'] t)) :=
  conv_new w [a, b, c, d, a', b', c', d'] t k 8 cap hk rfl
def be8 (n : Int) : List Int := [n / 72057594037927936, n / 281474976710656 % 256, n / 1099511627776 % 256, n / 4294967296 % 256, n / 16777216 % 256, n / 65536 % 256, n / 256 % 256, n % 256]
theorem son_append (xs ys : List Int) : strOfNums xs ++ strOfNums ys = strOfNums (xs ++ ys) := by
  apply ByteArray.ext
  simp [strOfNums, ByteArray.data_append]
theorem son_nil (xs : List Int) : strOfNums xs ++ (⟨#[]⟩ : ByteArray) = strOfNums xs := by
  have e : (⟨#[]⟩ : ByteArray) = strOfNums [] := rfl
  rw [e, son_append, List.append_nil]
theorem nil_son (xs : List Int) : (⟨#[]⟩ : ByteArray) ++ strOfNums xs = strOfNums xs := by
  have e : (⟨#[]⟩ : ByteArray) = strOfNums [] := rfl
  rw [e, son_append, List.nil_append]
attribute [local go_sem ↓] conv1 conv4 conv8 son_append son_nil nil_son strOfNums_size
set_option maxHeartbeats 1000000 in
theorem eight_any (n : Int) (w : World) (h0 : 0 ≤ n) (h1 : n < 18446744073709551616) :
    Calls Tryz.prog 307 #[.int .u64 n] w fun e w' => e = .returned (.string (strOfNums (be8 n))) ∧ Since w w' := by
  go_enter Tryz.func307, Tryz.ntmps307
  go_wp2_with fail
  refine wp_loop_rounds 9 ?_
  iterate 9 (rw [rounds_succ]; go_wp2)
  go_ret
  exact ⟨rfl, (Since.refl _).alloc _⟩
theorem u64_wrap (n : Int) : IntKind.u64.wrap n = n % 18446744073709551616 := by simp [IntKind.wrap, IntKind.bits, IntKind.signed]
set_option maxHeartbeats 1000000 in
theorem num_any (n : Int) (w : World) :
    Calls Tryz.prog 275 #[.int .i64 n] w fun e w' => e = .returned (.string (strOfNums (be8 (n % 18446744073709551616)))) ∧ Since w w' := by
  have e := u64_wrap n
  go_enter Tryz.func275, Tryz.ntmps275
  go_wp2_with fail
  refine (eight_any _ _ (by omega) (by omega)).mono ?_; rintro e w' ⟨rfl, hb⟩
  go_wp2_with fail
  go_ret
  exact ⟨rfl, hb⟩
theorem ret_son {a b : List Int} (h : a = b) : Ending.returned (.string (strOfNums a)) = .returned (.string (strOfNums b)) := by rw [h]
end Sm
end Go.Proofs.YtlgocfgnfdnloaaGreatDoor
