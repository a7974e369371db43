import Derived.Test.YtlgbfkcpdelcbaaGreatDoorJ03
import Derived.Test.YtlgbfkcpdelcbaaGreatDoorJ06
set_option linter.unusedSimpArgs false
set_option linter.unusedVariables false
set_option maxHeartbeats 8000000
set_option maxRecDepth 100000
namespace Go.Proofs.YtlgbfkcpdelcbaaGreatDoor
namespace Sm
open Go.RowKit
attribute [local go_sem ↓] uz QO QP fo Bf Bg strOfNums_size
theorem CP (c:Nat):(⟨(Lib.repeatL (⟨#[0]⟩:ByteArray).data.toList c).toArray⟩:ByteArray)=strOfNums (List.replicate c 0):=by
 apply ByteArray.ext
 show (Lib.repeatL [0] c).toArray=((List.replicate c 0).map fun n:Int=>UInt8.ofNat n.toNat).toArray
 congr 1
 induction c with
 | zero=>rfl
 | succ c ih=>simp[Lib.repeatL,List.replicate_succ] at ih ⊢;exact ih
theorem Zp (xs:List Int):(⟨#[128]⟩:ByteArray)++strOfNums xs=strOfNums (128::xs):=by
 have e:(⟨#[128]⟩:ByteArray)=strOfNums [128]:=rfl;rw[e,fo];rfl
attribute [local go_sem ↓] Zp
def pad (n:Nat):List Int:=[128]++List.replicate (63-(n+8) % 64) 0++lZ (8*n)
theorem mi (n:Nat):(pad n).length=72-(n+8) % 64:=by simp[pad,lZ];omega
theorem Ia (n:Nat)(w:World)(hn:n≤1000000) :
  Calls Tryz.prog 268 #[.int .i64 n] w fun e w'=>e=.returned (.string (strOfNums (pad n)))∧Since w w':=by
 have e1:(63:Int)-((n:Int)+8) % 64=((63-(n+8) % 64:Nat):Int):=by omega
 have E1:=hid e1;clear e1;go_enter Tryz.func268,Tryz.ntmps268
 go_wp2_with fail
 rw[E1.out];refine(qy ⟨#[0]⟩ _ _ (by omega) (by show 1*_≤_;omega)).mono ?_;rintro e w1 ⟨rfl,h1⟩;rw[CP];go_wp2_with fail
 refine(zF _ _ (by omega) (by omega)).mono ?_;rintro e w2 ⟨rfl,h2⟩;have l8:(lZ (8*(n:Int))).length=8:=rfl;go_wp2_with fail
 go_ret;refine⟨Bh ?_,Since.trans h1 h2⟩;show (128::List.replicate _ 0)++lZ _=_
 rfl
end Sm
end Go.Proofs.YtlgbfkcpdelcbaaGreatDoor
