import Derived.BigQuiet
import Derived.Test.YtmhcfaaggkidjaaGreatDoorJ24
import Derived.Test.YtmhcfaaggkidjaaGreatDoorJ25
set_option linter.unusedSimpArgs false
set_option linter.unusedVariables false
section
namespace Go.Proofs.YtmhcfaaggkidjaaGreatDoor
set_option maxRecDepth 100000
namespace Sm
open Go.RowKit
end Sm
end Go.Proofs.YtmhcfaaggkidjaaGreatDoor
end
section
namespace Go.Proofs.YtmhcfaaggkidjaaGreatDoor
set_option maxRecDepth 100000
namespace Sm
open Go.RowKit
end Sm
end Go.Proofs.YtmhcfaaggkidjaaGreatDoor
end
section
namespace Go.Proofs.YtmhcfaaggkidjaaGreatDoor
set_option maxRecDepth 100000
namespace Sm
open Go.RowKit
attribute [local go_sem] jr fO jw jy pK jA jB jC fP fQ dU fo bI fe dE
end Sm
end Go.Proofs.YtmhcfaaggkidjaaGreatDoor
end
section
namespace Go.Proofs.YtmhcfaaggkidjaaGreatDoor
set_option maxRecDepth 100000
namespace Sm
open Go.RowKit
def iv (d:Nat):Value:=.int .i64 (d:Int)
end Sm
end Go.Proofs.YtmhcfaaggkidjaaGreatDoor
end
