import Derived.WalkKit
import Derived.LaidEql
import Derived.Stop.Asserts
import Derived.RowKitTokens
import Derived.Test.YtlgocfgnfdnloaaGreatDoorJ01
set_option linter.unusedSimpArgs false
set_option linter.unusedVariables false
namespace Go.Proofs.YtlgocfgnfdnloaaGreatDoor
open Go.RowKit Go.Extern.Stop Go.Stop Go.Extern
theorem AS.typeOf25 (v : Value) (w : World) : (ReflectliteType.typeOf #[.iface 32 v]).run Tryz.prog w = .ok (.iface 279 (.agg #[.pointer (some ⟨10, 32, none⟩)])) w := by kernel_rfl
end Go.Proofs.YtlgocfgnfdnloaaGreatDoor
