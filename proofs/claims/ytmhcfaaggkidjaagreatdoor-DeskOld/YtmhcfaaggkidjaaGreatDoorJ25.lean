
set_option linter.unusedSimpArgs false
set_option linter.unusedVariables false
/- Plain arithmetic: numbers by digits of 2^16,the least first. -/
namespace Go.Proofs.YtmhcfaaggkidjaaGreatDoor
set_option maxRecDepth 100000
namespace Sm
def val:List Nat→Nat
 | []=>0
 | d::r=>d+65536*val r
end Sm
end Go.Proofs.YtmhcfaaggkidjaaGreatDoor
