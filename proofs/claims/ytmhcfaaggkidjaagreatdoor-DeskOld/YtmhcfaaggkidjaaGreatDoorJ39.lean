import Derived.Lib.ItoaLen
import Derived.Test.YtmhcfaaggkidjaaGreatDoorJ32
import Derived.Test.YtmhcfaaggkidjaaGreatDoorJ38
set_option linter.unusedSimpArgs false
set_option linter.unusedVariables false
namespace Go.Proofs.YtmhcfaaggkidjaaGreatDoor
set_option maxRecDepth 100000
namespace Dk
open Go.RowKit
def ul (n:Int):Value:=.iface 84 (.agg #[.int .i64 n])
def thrown (n:Int):Ending:=.panicked [{ v:=ul n,recovered:=false }]
theorem bW (n:Int) (w:World):Calls Tryz.prog 60 #[.int .i64 n] w fun e w'=>e=thrown n∧w'=w:=by
 unfold thrown ul;go_enter Tryz.func60,Tryz.ntmps60
 go_wp2_with fail
 exact⟨rfl,rfl,rfl⟩
theorem um (w:World):Calls Tryz.prog 92 #[.nilIface] w fun e w'=>e=.returned (.tuple #[])∧w'=w:=by
 go_enter Tryz.func92,Tryz.ntmps92
 go_wp2_with fail
 go_end0
 exact⟨rfl,rfl⟩
theorem uo (n:Int) (w:World) (hg:Et w):Calls Tryz.prog 92 #[.iface 32 (.int .i64 n)] w fun e w'=>e=thrown n∧Since w w':=by
 have HT:Hid (Calls Tryz.prog 147 #[.iface 32 (.int .i64 n)] w fun e w'=>e=.returned (.int .i64 n)∧Since w w'):=Qn n w hg;clear hg;go_enter Tryz.func92,Tryz.ntmps92
 go_wp2_with fail
 refine HT.out.mono ?_;rintro e w1 ⟨rfl,h1⟩;go_wp2_with fail
 refine(bW n w1).mono ?_;rintro e w2 ⟨rfl,rfl⟩;exact⟨rfl,rfl,h1⟩
theorem gP (s:ByteArray) (n:Int) (w:World) (hs:s.size≤1000) (hn:-9223372036854775808≤n∧n≤9223372036854775807) (hL:En.Lb w):Calls Tryz.prog 34 #[.string s,.int .i64 n] w fun e w'=>e=.returned (.string (s++⟨#[32]⟩++⟨(Lib.itoa n).toArray⟩))∧Since w w':=by
 have HI:Hid (Calls Tryz.prog 9 #[.int .i64 n] w fun e w'=>e=.returned (.string ⟨(Lib.itoa n).toArray⟩)∧∃k os,w'=Go.Sort.grow (w.drewN k) os):=Tryz.strconv_Itoa n hn.1 hn.2 w hL.tab;have hz:(⟨(Lib.itoa n).toArray⟩:ByteArray).size≤21:=Lib.itoa_length_le n hn.1 hn.2;generalize (⟨(Lib.itoa n).toArray⟩:ByteArray)=t at *;clear hn hL;go_enter Tryz.func34,Tryz.ntmps34
 go_wp2_with fail
 refine HI.out.mono ?_;rintro e w1 ⟨rfl,k,os,rfl⟩;have H1:Hid (Since w (Go.Sort.grow (w.drewN k) os)):=En.qp k os;go_wp2_with fail
 go_ret;exact⟨rfl,H1.out⟩
def lX:ByteArray:=⟨#[101,114,114,111,114]⟩
def told (s:ByteArray) (n:Int):ByteArray:=s++⟨#[32]⟩++⟨(Lib.itoa n).toArray⟩
theorem EC (n:Int) (w:World) (hn:-9223372036854775808≤n∧n≤9223372036854775807) (hL:En.Lb w):Calls Tryz.prog 11 #[.int .i64 n] w fun e w'=>e=.returned (.string (told lX n))∧Since w w':=by
 have HI:Hid (Calls Tryz.prog 34 #[.string lX,.int .i64 n] w fun e w'=>e=.returned (.string (told lX n))∧Since w w'):=gP lX n w (by decide) hn hL;unfold lX at HI;unfold lX;generalize told (⟨#[101,114,114,111,114]⟩:ByteArray) n=t at *;clear hn hL;go_enter Tryz.func11,Tryz.ntmps11
 go_wp2_with fail
 refine HI.out.mono ?_;rintro e w1 ⟨rfl,h1⟩;go_wp2_with fail
 go_ret;exact⟨rfl,h1⟩
end Dk
end Go.Proofs.YtmhcfaaggkidjaaGreatDoor
