import Derived.Test.YtmhcfaaggkidjaaGreatDoorJ04
import Derived.Test.YtmhcfaaggkidjaaGreatDoorJ07
set_option linter.unusedSimpArgs false
set_option linter.unusedVariables false
namespace Go.Proofs.YtmhcfaaggkidjaaGreatDoor
set_option maxRecDepth 100000
namespace Sm
open Go.RowKit
attribute [local go_sem ↓] NL VT VU jH Jj Jk strOfNums_size
theorem CK (c:Nat):(⟨(Lib.repeatL (⟨#[0]⟩:ByteArray).data.toList c).toArray⟩:ByteArray)=strOfNums (List.replicate c 0):=by
 apply ByteArray.ext
 show (Lib.repeatL [0] c).toArray=((List.replicate c 0).map fun n:Int=>UInt8.ofNat n.toNat).toArray
 congr 1
 induction c with
 | zero=>rfl
 | succ c ih=>simp[Lib.repeatL,List.replicate_succ] at ih ⊢;exact ih
theorem WU (xs:List Int):(⟨#[128]⟩:ByteArray)++strOfNums xs=strOfNums (128::xs):=by
 have e:(⟨#[128]⟩:ByteArray)=strOfNums [128]:=rfl;rw[e,jH];rfl
attribute [local go_sem ↓] WU
def pad (n:Nat):List Int:=[128]++List.replicate (63-(n+8) % 64) 0++uB (8*n)
theorem wF (n:Nat):(pad n).length=72-(n+8) % 64:=by simp[pad,uB];omega
set_option maxHeartbeats 1000000 in
theorem FJ (n:Nat) (w:World) (hn:n≤1000000) :
  Calls Tryz.prog 149 #[.int .i64 n] w fun e w'=>e=.returned (.string (strOfNums (pad n)))∧Since w w':=by
 have e1:(63:Int)-((n:Int)+8) % 64=((63-(n+8) % 64:Nat):Int):=by omega
 have E1:Hid ((63:Int)-((n:Int)+8) % 64=((63-(n+8) % 64:Nat):Int)):=e1;clear e1;go_enter Tryz.func149,Tryz.ntmps149
 go_wp2_with fail
 rw[E1.out];refine(ww ⟨#[0]⟩ _ _ (by omega) (by show 1*_≤_;omega)).mono ?_;rintro e w1 ⟨rfl,h1⟩;rw[CK];go_wp2_with fail
 refine(zF _ _ (by omega) (by omega)).mono ?_;rintro e w2 ⟨rfl,h2⟩;have l8:(uB (8*(n:Int))).length=8:=rfl;go_wp2_with fail
 go_ret;refine⟨Tc ?_,Since.trans h1 h2⟩;show (128::List.replicate _ 0)++uB _=_
 rfl
end Sm
end Go.Proofs.YtmhcfaaggkidjaaGreatDoor
