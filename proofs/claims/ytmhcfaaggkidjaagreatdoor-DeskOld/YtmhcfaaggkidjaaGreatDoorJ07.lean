import Derived.BigQuiet
import Derived.Deep.RegionWith
import Derived.Test.YtmhcfaaggkidjaaGreatDoorJ02
set_option linter.unusedSimpArgs false
set_option linter.unusedVariables false
namespace Go.Proofs.YtmhcfaaggkidjaaGreatDoor
set_option maxRecDepth 100000
namespace Sm
open Go.RowKit
theorem NK (w:World) (cs:Array Value) (t:TypeId) (i:Nat) (h:i<cs.size):(w.alloc (.cells cs t)).cell? ⟨w.heap.size,i,none⟩=some cs[i]:=by
 rw[World.cell?_alloc_new];simp[h]
theorem wD (w:World) (xs:List Int) (t:TypeId) (k m cap:Nat) (hk:k=w.heap.size) (hm:m=xs.length) :
  (convert 38 9 (.slice (some ⟨k,0,none⟩) m cap)).run Tryz.prog (w.alloc (.cells (xs.map (Value.int .u8)).toArray t))=.ok (.string (strOfNums xs)) (w.alloc (.cells (xs.map (Value.int .u8)).toArray t)):=by
 subst hk hm;refine run_convert_bytes_arg _ 38 5 Tryz.underlying38 Tryz.underlying5 w.heap.size 0 xs.length cap xs rfl (fun i hi=>?_) 9 Tryz.underlying9;rw[Nat.zero_add,NK _ _ _ _ (by simpa using hi)];simp[hi]
theorem jG (w:World) (xs:List Int) (k m cap:Nat) (hm:m=xs.length) (hb:∀i,i<xs.length→w.cell? ⟨k,i,none⟩=some (.int .u8 (xs.getD i 0))) :
  (convert 38 9 (.slice (some ⟨k,0,none⟩) m cap)).run Tryz.prog w=.ok (.string (strOfNums xs)) w:=by
 subst hm;exact run_convert_bytes_arg _ 38 5 Tryz.underlying38 Tryz.underlying5 k 0 xs.length cap xs rfl (fun i hi=>by rw[Nat.zero_add];exact hb i hi) 9 Tryz.underlying9
theorem NL (w:World) (a:Int) (t:TypeId) (k cap:Nat) (hk:k=w.heap.size) :
  (convert 38 9 (.slice (some ⟨k,0,none⟩) 1 cap)).run Tryz.prog (w.alloc (.cells #[.int .u8 a] t))=.ok (.string (strOfNums [a])) (w.alloc (.cells #[.int .u8 a] t)):=
 wD w [a] t k 1 cap hk rfl
theorem VT (w:World) (a b c d:Int) (t:TypeId) (k cap:Nat) (hk:k=w.heap.size) :
  (convert 38 9 (.slice (some ⟨k,0,none⟩) 4 cap)).run Tryz.prog (w.alloc (.cells #[.int .u8 a,.int .u8 b,.int .u8 c,.int .u8 d] t))=.ok (.string (strOfNums [a,b,c,d])) (w.alloc (.cells #[.int .u8 a,.int .u8 b,.int .u8 c,.int .u8 d] t)):=
 wD w [a,b,c,d] t k 4 cap hk rfl
theorem VU (w:World) (a b c d a' b' c' d':Int) (t:TypeId) (k cap:Nat) (hk:k=w.heap.size) :
  (convert 38 9 (.slice (some ⟨k,0,none⟩) 8 cap)).run Tryz.prog (w.alloc (.cells #[.int .u8 a,.int .u8 b,.int .u8 c,.int .u8 d,.int .u8 a',.int .u8 b',.int .u8 c',.int .u8 d'] t))=.ok (.string (strOfNums [a,b,c,d,a',b',c',d'])) (w.alloc (.cells #[.int .u8 a,.int .u8 b,.int .u8 c,.int .u8 d,.int .u8 a',.int .u8 b',.int .u8 c',.int .u8 d'] t)):=
 wD w [a,b,c,d,a',b',c',d'] t k 8 cap hk rfl
def uB (n:Int):List Int:=[n / 72057594037927936,n / 281474976710656 % 256,n / 1099511627776 % 256,n / 4294967296 % 256,n / 16777216 % 256,n / 65536 % 256,n / 256 % 256,n % 256]
theorem jH (xs ys:List Int):strOfNums xs++strOfNums ys=strOfNums (xs++ys):=by
 apply ByteArray.ext
 simp[strOfNums,ByteArray.data_append]
theorem Jj (xs:List Int):strOfNums xs++(⟨#[]⟩:ByteArray)=strOfNums xs:=by
 have e:(⟨#[]⟩:ByteArray)=strOfNums []:=rfl;rw[e,jH,List.append_nil]
theorem Jk (xs:List Int):(⟨#[]⟩:ByteArray)++strOfNums xs=strOfNums xs:=by
 have e:(⟨#[]⟩:ByteArray)=strOfNums []:=rfl;rw[e,jH,List.nil_append]
attribute [local go_sem ↓] NL VT VU jH Jj Jk strOfNums_size
set_option maxHeartbeats 1000000 in
theorem zF (n:Int) (w:World) (h0:0≤n) (h1:n<18446744073709551616) :
  Calls Tryz.prog 201 #[.int .u64 n] w fun e w'=>e=.returned (.string (strOfNums (uB n)))∧Since w w':=by
 go_enter Tryz.func201,Tryz.ntmps201
 go_wp2_with fail
 refine wp_loop_rounds 9 ?_;iterate 9 (rw[rounds_succ];go_wp2)
 go_ret;exact⟨rfl,(Since.refl _).alloc _⟩
theorem NM (n:Int):IntKind.u64.wrap n=n % 18446744073709551616:=by simp[IntKind.wrap,IntKind.bits,IntKind.signed]
set_option maxHeartbeats 1000000 in
theorem lG (n:Int) (w:World) :
  Calls Tryz.prog 146 #[.int .i64 n] w fun e w'=>e=.returned (.string (strOfNums (uB (n % 18446744073709551616))))∧Since w w':=by
 have e:=NM n;go_enter Tryz.func146,Tryz.ntmps146
 go_wp2_with fail
 refine(zF _ _ (by omega) (by omega)).mono ?_;rintro e w' ⟨rfl,hb⟩;go_wp2_with fail
 go_ret;exact⟨rfl,hb⟩
theorem Tc {a b:List Int} (h:a=b):Ending.returned (.string (strOfNums a))=.returned (.string (strOfNums b)):=by rw[h]
end Sm
end Go.Proofs.YtmhcfaaggkidjaaGreatDoor
