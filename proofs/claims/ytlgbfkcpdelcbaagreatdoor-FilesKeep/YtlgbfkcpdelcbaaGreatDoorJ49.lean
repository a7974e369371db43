import Derived.Maps.Ext
import Derived.Test.YtlgbfkcpdelcbaaGreatDoorJ37
set_option linter.unusedSimpArgs false
set_option linter.unusedVariables false
set_option maxHeartbeats 8000000
set_option maxRecDepth 100000
namespace Go.Proofs.YtlgbfkcpdelcbaaGreatDoor
namespace Fl
open Go.RowKit Go.Sort Go.Shelf
open En (Fi fA Ints dF Row bD bi need aI filled)
open Vl
open Tw (Tb)
structure Dd where
 what:Int
 nm:ByteArray
 tx:ByteArray
end Fl
end Go.Proofs.YtlgbfkcpdelcbaaGreatDoor
