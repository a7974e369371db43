import Derived.WalkKit
import Derived.LaidEql
import Derived.Stop.Asserts
import Derived.RowKitTokens
import Derived.Test.YtifnhnfjelfddaaGreatDoorJ01
set_option linter.unusedSimpArgs false
set_option linter.unusedVariables false
namespace Go.Proofs.YtifnhnfjelfddaaGreatDoor
open Go.RowKit Go.Extern.Stop Go.Stop Go.Extern
theorem AS.typeOf25 (v : Value) (w : World) : (ReflectliteType.typeOf #[.iface 45 v]).run Tryz.prog w = .ok (.iface 163 (.agg #[.pointer (some ⟨6, 45, none⟩)])) w := by kernel_rfl
end Go.Proofs.YtifnhnfjelfddaaGreatDoor
