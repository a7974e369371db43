import Derived.Shelf.SlSortCmp.SmallK
import Derived.Test.YtlgbfkcpdelcbaaGreatDoorProg
set_option linter.unusedSimpArgs false
set_option linter.unusedVariables false
set_option maxHeartbeats 8000000
set_option maxRecDepth 100000
namespace Go.Proofs
open Go.Shelf Go.RowKit Go.Lib Go.Sort
theorem zb {n:Nat}{a b:Go.Func}(h:Go.Proofs.Tryz.prog.funcs[n]?=some a)(e:a=b:=by kernel_rfl):Go.Proofs.Tryz.prog.funcs[n]?=some b:=h.trans (congrArg some e)
def Tryz.EO:Go.Shelf.Ren:=⟨fun | 125=>115 | 128=>180 | 129=>181 | n=>n,fun | 46=>200 | 3=>3 | 51=>81 | 53=>88 | 4=>4 | 5=>5 | 9=>9 | n=>n,fun | n=>n⟩
theorem Tryz.Xz:Go.Proofs.Lays.n125 Tryz.prog Tryz.EO:={
 mixed:=by kernel_rfl
 f125:=zb Tryz.func115
 f128:=zb Tryz.func180
 f129:=zb Tryz.func181
 t3:=Tryz.underlying3
 a3:=Tryz.isAgg3
 z3:=Tryz.sizeOf3
 v3:=Tryz.zeroValue3
 t4:=Tryz.underlying4
 a4:=Tryz.isAgg4
 z4:=Tryz.sizeOf4
 v4:=Tryz.zeroValue4
 t5:=Tryz.underlying5
 a5:=Tryz.isAgg5
 z5:=Tryz.sizeOf5
 v5:=Tryz.zeroValue5
 t9:=Tryz.underlying9
 a9:=Tryz.isAgg9
 z9:=Tryz.sizeOf9
 v9:=Tryz.zeroValue9
 t46:=Tryz.underlying200
 a46:=Tryz.isAgg200
 z46:=Tryz.sizeOf200
 v46:=Tryz.zeroValue200
 t51:=Tryz.underlying81
 a51:=Tryz.isAgg81
 z51:=Tryz.sizeOf81
 v51:=Tryz.zeroValue81
 t53:=Tryz.underlying88
 a53:=Tryz.isAgg88
 z53:=Tryz.sizeOf88
 v53:=Tryz.zeroValue88 }
theorem Tryz.bits_Len (x:Int)(w:World)(h0:0≤x)(h1:x≤18446744073709551615) :
  Calls Tryz.prog 115 #[.int .u64 x] w fun e w'=>e=.returned (.int .i64 (Lib.bitLen x.toNat))∧w'=w:=Any.bits_Len Tryz.Xz x w h0 h1
def Tryz.Py:Go.Shelf.Ren:=⟨fun | 6=>106 | 15=>115 | 14=>169 | 28=>180 | 29=>181 | 20=>234 | 21=>235 | 22=>236 | 23=>237 | 24=>238 | 25=>239 | 26=>240 | 27=>241 | 46=>277 | 47=>278 | 48=>279 | 49=>280 | 50=>281 | 57=>306 | n=>n,fun | 22=>52 | 24=>129 | 25=>189 | 3=>3 | 39=>200 | 0=>0 | 53=>81 | 55=>88 | 4=>4 | 46=>304 | 45=>303 | 50=>141 | 5=>5 | 9=>9 | 66=>346 | 70=>35 | 76=>380 | 77=>350 | n=>n,fun | n=>n⟩
theorem Tryz.a4K:Go.Proofs.SlLaysF0.n6 Tryz.prog Tryz.Py:={
 mixed:=by kernel_rfl
 f6:=⟨Tryz.f106.name,by decide,zb Tryz.func106⟩
 f14:=⟨Tryz.f169.name,by decide,zb Tryz.func169⟩
 f15:=zb Tryz.func115
 f20:=⟨Tryz.f234.name,by decide,zb Tryz.func234⟩
 f21:=⟨Tryz.f235.name,by decide,zb Tryz.func235⟩
 f22:=⟨Tryz.f236.name,by decide,zb Tryz.func236⟩
 f23:=⟨Tryz.f237.name,by decide,zb Tryz.func237⟩
 f24:=⟨Tryz.f238.name,by decide,zb Tryz.func238⟩
 f25:=⟨Tryz.f239.name,by decide,zb Tryz.func239⟩
 f26:=⟨Tryz.f240.name,by decide,zb Tryz.func240⟩
 f27:=⟨Tryz.f241.name,by decide,zb Tryz.func241⟩
 f28:=zb Tryz.func180
 f29:=zb Tryz.func181
 f46:=⟨Tryz.f277.name,by decide,zb Tryz.func277⟩
 f47:=zb Tryz.func278
 f48:=zb Tryz.func279
 f49:=⟨Tryz.f280.name,by decide,zb Tryz.func280⟩
 f50:=⟨Tryz.f281.name,by decide,zb Tryz.func281⟩
 f57:=⟨Tryz.f306.name,by decide,zb Tryz.func306⟩
 t0:=Tryz.underlying0
 a0:=Tryz.isAgg0
 z0:=Tryz.sizeOf0
 v0:=Tryz.zeroValue0
 t3:=Tryz.underlying3
 a3:=Tryz.isAgg3
 z3:=Tryz.sizeOf3
 v3:=Tryz.zeroValue3
 t4:=Tryz.underlying4
 a4:=Tryz.isAgg4
 z4:=Tryz.sizeOf4
 v4:=Tryz.zeroValue4
 t5:=Tryz.underlying5
 a5:=Tryz.isAgg5
 z5:=Tryz.sizeOf5
 v5:=Tryz.zeroValue5
 t9:=Tryz.underlying9
 a9:=Tryz.isAgg9
 z9:=Tryz.sizeOf9
 v9:=Tryz.zeroValue9
 t22:=Tryz.underlying52
 a22:=Tryz.isAgg52
 z22:=Tryz.sizeOf52
 v22:=Tryz.zeroValue52
 t25:=Tryz.underlying189
 a25:=Tryz.isAgg189
 z25:=Tryz.sizeOf189
 v25:=Tryz.zeroValue189
 t39:=Tryz.underlying200
 a39:=Tryz.isAgg200
 z39:=Tryz.sizeOf200
 v39:=Tryz.zeroValue200
 t45:=Tryz.underlying303
 a45:=Tryz.isAgg303
 z45:=Tryz.sizeOf303
 v45:=Tryz.zeroValue303
 t46:=Tryz.underlying304
 a46:=Tryz.isAgg304
 z46:=Tryz.sizeOf304
 v46:=Tryz.zeroValue304
 t50:=Tryz.underlying141
 a50:=Tryz.isAgg141
 z50:=Tryz.sizeOf141
 v50:=Tryz.zeroValue141
 t53:=Tryz.underlying81
 a53:=Tryz.isAgg81
 z53:=Tryz.sizeOf81
 v53:=Tryz.zeroValue81
 t55:=Tryz.underlying88
 a55:=Tryz.isAgg88
 z55:=Tryz.sizeOf88
 v55:=Tryz.zeroValue88
 t66:=Tryz.underlying346
 a66:=Tryz.isAgg346
 z66:=Tryz.sizeOf346
 v66:=Tryz.zeroValue346
 t70:=Tryz.underlying35
 a70:=Tryz.isAgg35
 z70:=Tryz.sizeOf35
 v70:=Tryz.zeroValue35
 t76:=Tryz.underlying380
 a76:=Tryz.isAgg380
 z76:=Tryz.sizeOf380
 v76:=Tryz.zeroValue380
 t77:=Tryz.underlying350
 a77:=Tryz.isAgg350
 z77:=Tryz.sizeOf350
 v77:=Tryz.zeroValue350 }
end Go.Proofs
