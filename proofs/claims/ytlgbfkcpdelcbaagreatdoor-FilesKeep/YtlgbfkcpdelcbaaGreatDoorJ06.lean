import Derived.BigQuiet
import Derived.Deep.RegionWith
import Derived.Test.YtlgbfkcpdelcbaaGreatDoorJ01
set_option linter.unusedSimpArgs false
set_option linter.unusedVariables false
set_option maxHeartbeats 8000000
set_option maxRecDepth 100000
namespace Go.Proofs.YtlgbfkcpdelcbaaGreatDoor
namespace Sm
open Go.RowKit
theorem QN (w:World)(cs:Array Value)(t:TypeId)(i:Nat)(h:i<cs.size):(w.alloc (.cells cs t)).cell? ⟨w.heap.size,i,none⟩=some cs[i]:=by
 rw[World.cell?_alloc_new];simp[h]
theorem wP (w:World)(xs:List Int)(t:TypeId)(k m cap:Nat)(hk:k=w.heap.size)(hm:m=xs.length) :
  (convert 159 9 (.slice (some ⟨k,0,none⟩) m cap)).run Tryz.prog (w.alloc (.cells (xs.map (Value.int .u8)).toArray t))=.ok (.string (strOfNums xs)) (w.alloc (.cells (xs.map (Value.int .u8)).toArray t)):=by
 subst hk hm;refine run_convert_bytes_arg _ 159 5 Tryz.underlying159 Tryz.underlying5 w.heap.size 0 xs.length cap xs rfl (fun i hi=>?_) 9 Tryz.underlying9;rw[Nat.zero_add,QN _ _ _ _ (by simpa using hi)];simp[hi]
theorem dV (w:World)(xs:List Int)(k m cap:Nat)(hm:m=xs.length)(hb:∀i,i<xs.length→w.cell? ⟨k,i,none⟩=some (.int .u8 (xs.getD i 0))) :
  (convert 159 9 (.slice (some ⟨k,0,none⟩) m cap)).run Tryz.prog w=.ok (.string (strOfNums xs)) w:=by
 subst hm;exact run_convert_bytes_arg _ 159 5 Tryz.underlying159 Tryz.underlying5 k 0 xs.length cap xs rfl (fun i hi=>by rw[Nat.zero_add];exact hb i hi) 9 Tryz.underlying9
theorem uz (w:World)(a:Int)(t:TypeId)(k cap:Nat)(hk:k=w.heap.size) :
  (convert 159 9 (.slice (some ⟨k,0,none⟩) 1 cap)).run Tryz.prog (w.alloc (.cells #[.int .u8 a] t))=.ok (.string (strOfNums [a])) (w.alloc (.cells #[.int .u8 a] t)):=
 wP w [a] t k 1 cap hk rfl
theorem QO (w:World)(a b c d:Int)(t:TypeId)(k cap:Nat)(hk:k=w.heap.size) :
  (convert 159 9 (.slice (some ⟨k,0,none⟩) 4 cap)).run Tryz.prog (w.alloc (.cells #[.int .u8 a,.int .u8 b,.int .u8 c,.int .u8 d] t))=.ok (.string (strOfNums [a,b,c,d])) (w.alloc (.cells #[.int .u8 a,.int .u8 b,.int .u8 c,.int .u8 d] t)):=
 wP w [a,b,c,d] t k 4 cap hk rfl
theorem QP (w:World)(a b c d a' b' c' d':Int)(t:TypeId)(k cap:Nat)(hk:k=w.heap.size) :
  (convert 159 9 (.slice (some ⟨k,0,none⟩) 8 cap)).run Tryz.prog (w.alloc (.cells #[.int .u8 a,.int .u8 b,.int .u8 c,.int .u8 d,.int .u8 a',.int .u8 b',.int .u8 c',.int .u8 d'] t))=.ok (.string (strOfNums [a,b,c,d,a',b',c',d'])) (w.alloc (.cells #[.int .u8 a,.int .u8 b,.int .u8 c,.int .u8 d,.int .u8 a',.int .u8 b',.int .u8 c',.int .u8 d'] t)):=
 wP w [a,b,c,d,a',b',c',d'] t k 8 cap hk rfl
def lZ (n:Int):List Int:=[n / 72057594037927936,n / 281474976710656 % 256,n / 1099511627776 % 256,n / 4294967296 % 256,n / 16777216 % 256,n / 65536 % 256,n / 256 % 256,n % 256]
theorem fo (xs ys:List Int):strOfNums xs++strOfNums ys=strOfNums (xs++ys):=by
 apply ByteArray.ext
 simp[strOfNums,ByteArray.data_append]
theorem Bf (xs:List Int):strOfNums xs++(⟨#[]⟩:ByteArray)=strOfNums xs:=by
 have e:(⟨#[]⟩:ByteArray)=strOfNums []:=rfl;rw[e,fo,List.append_nil]
theorem Bg (xs:List Int):(⟨#[]⟩:ByteArray)++strOfNums xs=strOfNums xs:=by
 have e:(⟨#[]⟩:ByteArray)=strOfNums []:=rfl;rw[e,fo,List.nil_append]
attribute [local go_sem ↓] uz QO QP fo Bf Bg strOfNums_size
theorem zF (n:Int)(w:World)(h0:0≤n)(h1:n<18446744073709551616) :
  Calls Tryz.prog 284 #[.int .u64 n] w fun e w'=>e=.returned (.string (strOfNums (lZ n)))∧Since w w':=by
 go_enter Tryz.func284,Tryz.ntmps284
 go_wp2_with fail
 refine wp_loop_rounds 9 ?_;iterate 9 (rw[rounds_succ];go_wp2)
 go_ret;exact⟨rfl,(Since.refl _).alloc _⟩
theorem CL (n:Int):IntKind.u64.wrap n=n % 18446744073709551616:=by simp[IntKind.wrap,IntKind.bits,IntKind.signed]
theorem pE (n:Int)(w:World) :
  Calls Tryz.prog 250 #[.int .i64 n] w fun e w'=>e=.returned (.string (strOfNums (lZ (n % 18446744073709551616))))∧Since w w':=by
 have e:=CL n;go_enter Tryz.func250,Tryz.ntmps250
 go_wp2_with fail
 refine(zF _ _ (by omega) (by omega)).mono ?_;rintro e w' ⟨rfl,hb⟩;go_wp2_with fail
 go_ret;exact⟨rfl,hb⟩
theorem Bh {a b:List Int}(h:a=b):Ending.returned (.string (strOfNums a))=.returned (.string (strOfNums b)):=by rw[h]
theorem dW (n:Int)(w:World) :
  Calls Tryz.prog 124 #[.int .i64 n] w fun e w'=>e=.returned (.string (strOfNums (lZ (n % 18446744073709551616))))∧Since w w':=by
 have e:=CL n;go_enter Tryz.func124,Tryz.ntmps124
 go_wp2_with fail
 refine wp_loop_rounds 9 ?_;iterate 9 (rw[rounds_succ];go_wp2)
 go_ret;refine⟨Bh ?_,?_⟩
 ·show [_,_,_,_,_,_,_,_]=_
  unfold lZ;simp only[List.cons.injEq,and_true];refine⟨?_,?_,?_,?_,?_,?_,?_,?_⟩<;>first | trivial | omega
 repeat (first | exact Since.refl _ | refine Since.alloc ?_ _)
end Sm
end Go.Proofs.YtlgbfkcpdelcbaaGreatDoor
