import Derived.WalkSpells
import Derived.WalkLawsBesides
import Derived.Test.YtmhcfaaggkidjaaGreatDoorRows
set_option linter.unusedSimpArgs false
set_option linter.unusedVariables false
section
namespace Go.Proofs.YtmhcfaaggkidjaaGreatDoor
open Go.RowKit
def Since (w w':World):Prop:=Below w.heap.size w w'
theorem Since.refl (w:World):Since w w:=Below.refl _ _
theorem Since.alloc {a w:World} (h:Since a w) (o:Obj):Since a (w.alloc o):=Below.alloc h h.size o
theorem Since.drew {a w:World} (h:Since a w):Since a w.drew:=Below.drew h
theorem Since.drewN {a w:World} (h:Since a w) (n:Nat):Since a (w.drewN n):=below_drewN h n
theorem Since.trans {a b c:World} (h:Since a b) (k:Since b c):Since a c:=Below.trans h (Below.mono k h.size)
theorem Since.setCell {a w:World} (h:Since a w) {p:Addr} (hp:a.heap.size≤p.block) (u:Value):Since a (w.setCell p u):=Below.setCell h hp u
theorem Since.size {a b:World} (h:Since a b):a.heap.size≤b.heap.size:=Below.size h
theorem Since.cell {a b:World} (h:Since a b) {p:Addr} (hp:p.block<a.heap.size):b.cell? p=a.cell? p:=Below.cell h hp
theorem Since.frozen {a b:World} (h:Since a b) {p:Addr} (hp:p.block<a.heap.size):b.frozen? p=a.frozen? p:=Below.frozen h hp
theorem Since.setCells {a w:World} (h:Since a w) {b:Nat} (hb:a.heap.size≤b):∀(vs:List Value) (o:Nat),Since a (w.setCells b o vs):=by
 intro vs;induction vs generalizing w with
 | nil=>intro o;exact h
 | cons v r ih=>intro o;exact ih (h.setCell (p:=⟨b,o,none⟩) hb v) (o+1)
end Go.Proofs.YtmhcfaaggkidjaaGreatDoor
end
section
namespace Go.Proofs.YtmhcfaaggkidjaaGreatDoor
set_option maxRecDepth 100000
namespace Sm
open Go.RowKit
def U (x:BitVec 32):Value:=.int .u32 (x.toNat:Int)
theorem wrap_u32 (n:Int):IntKind.u32.wrap n=((BitVec.ofInt 32 n).toNat:Int):=by
 simp[IntKind.wrap,IntKind.bits,IntKind.signed,BitVec.toNat_ofInt];omega
theorem eH (x:BitVec 32):BitVec.ofInt 32 (x.toNat:Int)=x:=by
 apply BitVec.eq_of_toNat_eq
 simp
section
variable (P:Program) (t:TypeId) (w:World) (x y:BitVec 32)
theorem jr:binOp .add t (U x) (U y)=pure (U (x+y)):=by
 simp only[U,binOp_add,Op.intArith,wrap_u32];rw[BitVec.ofInt_add,eH,eH]
theorem fO (c:Int):binOp .mul t (U x) (.int .u32 c)=pure (U (x*BitVec.ofInt 32 c)):=by
 simp only[U,binOp_mul,Op.intArith,wrap_u32];rw[BitVec.ofInt_mul,eH]
theorem jw:binOp .xor t (U x) (U y)=pure (U (x ^^^ y)):=by
 simp only[U,binOp_xor,Op.intBits,wrap_u32,IntKind.bits,eH];rfl
theorem jy:binOp .and t (U x) (U y)=pure (U (x &&& y)):=by
 simp only[U,binOp_and,Op.intBits,wrap_u32,IntKind.bits,eH];rfl
theorem pK:binOp .or t (U x) (U y)=pure (U (x ||| y)):=by
 simp only[U,binOp_or,Op.intBits,wrap_u32,IntKind.bits,eH];rfl
theorem SV (a:Nat) (n:Nat) (ha:a<2 ^ 32):a / 2 ^ (min n 32)=a / 2 ^ n:=by
 rcases Nat.le_total n 32 with h | h
 ·rw[Nat.min_eq_left h]
 rw[Nat.min_eq_right h,Nat.div_eq_of_lt ha,Nat.div_eq_of_lt];exact Nat.lt_of_lt_of_le ha (Nat.pow_le_pow_right (by decide) h)
theorem jA (k:IntKind) (n:Int) (hn:0≤n):binOp .shr t (U x) (.int k n)=pure (U (x >>> n.toNat)):=by
 obtain⟨m,rfl⟩:=Int.eq_ofNat_of_zero_le hn;simp only[U,binOp_shr,Op.shift];rw[if_neg (by omega)];simp only[IntKind.bits,Int.toNat_natCast]
 congr 2
 rw[Int.fdiv_eq_ediv_of_nonneg _ (by exact Int.le_of_lt (Int.pow_pos (by decide))),BitVec.toNat_ushiftRight,Nat.shiftRight_eq_div_pow];rw[←SV _ _ x.isLt]
 norm_cast
theorem jB (k:IntKind) (n:Int) (hn:0≤n):binOp .shl t (U x) (.int k n)=pure (U (x <<< n.toNat)):=by
 obtain⟨m,rfl⟩:=Int.eq_ofNat_of_zero_le hn;simp only[U,binOp_shl,Op.shift];rw[if_neg (by omega)];simp only[IntKind.bits,Int.toNat_natCast,wrap_u32]
 congr 4
 apply BitVec.eq_of_toNat_eq
 rw[BitVec.toNat_ofInt,BitVec.toNat_shiftLeft,Nat.shiftLeft_eq];have e:((x.toNat:Int)*2 ^ (min m 32))=((x.toNat*2 ^ (min m 32):Nat):Int):=by norm_cast
 rw[e,←Int.natCast_emod,Int.toNat_natCast];rcases Nat.le_total m 32 with h | h
 ·rw[Nat.min_eq_left h]
 rw[Nat.min_eq_right h];obtain⟨d,rfl⟩:=Nat.exists_eq_add_of_le h;rw[Nat.pow_add,Nat.mul_left_comm,Nat.mul_mod_right,Nat.mul_mod_left]
theorem jC:Op.unary .xor (U x)=pure (U (~~~x)):=by
 have e:Op.unary .xor (U x)=Op.intBits .xor .u32 4294967295 x.toNat:=rfl;rw[e];simp only[U,Op.intBits,IntKind.bits,eH,wrap_u32];have e2:BitVec.ofInt 32 4294967295=BitVec.allOnes 32:=by decide
 rw[e2];show pure (U (BitVec.allOnes 32 ^^^ x))=_
 rw[BitVec.allOnes_xor];rfl
theorem fP (src dst:TypeId) (k:IntKind) (n:Int) (hs:(P.underlying src).isSome=true) (hd:P.underlying dst=some (.int .u32)) :
  (convert src dst (.int k n)).run P w=.ok (U (BitVec.ofInt 32 n)) w:=by
 have hk:P.intKind dst=.u32:=by simp[Program.intKind,hd]
 rw[run_convert_int (P:=P) w src dst k n hs (by rw[hk];exact hd),hk,wrap_u32,U]
def FC (x:BitVec 32):Int:=((x.toNat % 256:Nat):Int)
theorem fQ (src dst:TypeId) (hs:(P.underlying src).isSome=true) (hd:P.underlying dst=some (.int .u8)) :
  (convert src dst (U x)).run P w=.ok (.int .u8 (FC x)) w:=by
 have hk:P.intKind dst=.u8:=by simp[Program.intKind,hd]
 rw[U,run_convert_int (P:=P) w src dst _ _ hs (by rw[hk];exact hd),hk];simp[IntKind.wrap,IntKind.bits,IntKind.signed,FC]
theorem fe (a:Addr) (h:(w.cell? a).isSome=true) (hf:w.frozen? a=false):(storeCells a [U x]).run P w=.ok () (w.setCell a (U x)):=by
 obtain⟨u,hu⟩:=Option.isSome_iff_exists.1 h;simp[U,go_sem,hu,hf]
theorem dE (a:Addr) (h:(w.cell? a).isSome=true) (hf:w.frozen? a=false):(store a (U x)).run P w=.ok () (w.setCell a (U x)):=by
 obtain⟨u,hu⟩:=Option.isSome_iff_exists.1 h;simp[U,go_sem,hu,hf]
theorem fo (f:Array Value→Array Value) (g:Value→Array Value):@Value.cells.match_1 (fun _=>Array Value) (U x) f g=g (U x):=rfl
theorem dU:(U x).cells=#[U x]:=rfl
theorem bI:(U x).oneCell'=true:=rfl
end
end Sm
end Go.Proofs.YtmhcfaaggkidjaaGreatDoor
end
section
namespace Go.Proofs.YtmhcfaaggkidjaaGreatDoor
set_option maxRecDepth 100000
namespace Mt
open Go.RowKit
theorem aO (b:Nat) (w:World):Calls Tryz.prog 219 #[.pointer (some ⟨b,0,none⟩)] w fun e w'=>e=.returned (.pointer (some ⟨b,0,none⟩))∧w'=w:=by
 go_enter Tryz.func219,Tryz.ntmps219
 go_wp2_with fail
 go_ret;exact⟨rfl,rfl⟩
theorem YJ (b:Nat) (c n:Int) (w:World) (hc:w.cell? ⟨b,0,none⟩=some (.int .i64 c)) (h:n≤c) :
  Calls Tryz.prog 170 #[.pointer (some ⟨b,0,none⟩),.int .i64 n] w fun e w'=>e=.returned (.iface 32 (.int .i64 10))∧w'=w:=by
 go_enter Tryz.func170,Tryz.ntmps170
 go_wp2_with fail
 refine(aO _ _).mono ?_;rintro e w' ⟨rfl,rfl⟩;go_wp2_with fail
 go_ret;exact⟨rfl,rfl⟩
theorem CB (b:Nat) (c n:Int) (w:World) (hc:w.cell? ⟨b,0,none⟩=some (.int .i64 c)) (hf:w.frozen? ⟨b,0,none⟩=false) (h:¬n≤c) :
  Calls Tryz.prog 170 #[.pointer (some ⟨b,0,none⟩),.int .i64 n] w fun e w'=>e=.returned .nilIface∧w'=w.setCell ⟨b,0,none⟩ (.int .i64 n):=by
 go_enter Tryz.func170,Tryz.ntmps170
 go_wp2_with fail
 refine(aO _ _).mono ?_;rintro e w' ⟨rfl,rfl⟩;go_wp2_with fail
 go_ret;exact⟨rfl,rfl⟩
theorem AJ (b:Nat) (c:Int) (w:World) (hc:w.cell? ⟨b,0,none⟩=some (.int .i64 c)) :
  Calls Tryz.prog 168 #[.pointer (some ⟨b,0,none⟩)] w fun e w'=>e=.returned (.int .i64 c)∧w'=w:=by
 go_enter Tryz.func168,Tryz.ntmps168
 go_wp2_with fail
 refine(aO _ _).mono ?_;rintro e w' ⟨rfl,rfl⟩;go_wp2_with fail
 go_ret;exact⟨rfl,rfl⟩
theorem Jg (w:World) (es:Array MapEntry) (c:Nat) (k:Int) (v:Value) (hf:Instr.findNow (.int .u8) (.int .u8 k) es.toList 0=some none) :
  (Instr.mapUpdate 253 (.map (some w.heap.size)) (.int .u8 k) v).run Tryz.prog (w.alloc (.map es c))=.ok () (w.alloc (.map (es.push { key:=.int .u8 k,val:=v,born:=c }) (c+1))):=by
 have hb:(w.alloc (.map es c)).heap[w.heap.size]?=some (.map es c):=by show (w.heap.push _)[w.heap.size]?=_;simp
 have hc:(Instr.checkKey false 10000 5 (.int .u8 k)).run Tryz.prog (w.alloc (.map es c))=.ok () (w.alloc (.map es c)):=MapKept.run_checkKey Tryz.underlying5 (by simp[MapKept.IsKey]) false 9999;simp[Instr.mapUpdate,run_underlying Tryz.underlying253,MapKept.run_getObj_map hb,hc,MapKept.run_findKey Tryz.underlying5 hf,MapKept.run_setObj_map _ hb,Result.andThen];simp[World.alloc,-World.alloc_eq];apply Array.ext_getElem?
 intro i;by_cases hi:i=w.heap.size
 ·subst hi;simp
 rw[Array.getElem?_setIfInBounds_ne (Ne.symm hi),Array.getElem?_push,Array.getElem?_push,if_neg hi,if_neg hi]
theorem Jh (w:World) (es:Array MapEntry) (c r:Nat) (k:Int) (a:Option (Nat × Value)) (hb:w.heap[r]?=some (.map es c)) (hf:Instr.findNow (.int .u8) (.int .u8 k) es.toList 0=some a) :
  (Instr.lookup 253 (.map (some r)) (.int .u8 k) true).run Tryz.prog w=.ok (.tuple (match a with | some (_,v)=>#[v,.bool true] | none=>#[.agg #[.string ⟨#[]⟩],.bool false])) w:=by
 have hc:(Instr.checkKey es.isEmpty 10000 5 (.int .u8 k)).run Tryz.prog w=.ok () w:=MapKept.run_checkKey Tryz.underlying5 (by simp[MapKept.IsKey]) _ 9999;have hz:(zeroValue 251).run Tryz.prog w=.ok (.agg #[.string ⟨#[]⟩]) w:=by kernel_rfl
 rcases a with _ | ⟨i,v⟩
 ·simp[Instr.lookup,run_underlying Tryz.underlying253,MapKept.run_getObj_map hb,hc,MapKept.run_findKey Tryz.underlying5 hf,hz,Result.andThen]
 simp[Instr.lookup,run_underlying Tryz.underlying253,MapKept.run_getObj_map hb,hc,MapKept.run_findKey Tryz.underlying5 hf,hz,Result.andThen]
def lD:ByteArray:=⟨#[98,108,111,99,107,115]⟩
def nW:ByteArray:=⟨#[116,97,98,108,101,115]⟩
def uses:Array MapEntry:=#[{ key:=.int .u8 98,val:=.agg #[.string lD],born:=0 },{ key:=.int .u8 116,val:=.agg #[.string nW],born:=1 }]
theorem qN (w:World):Calls Tryz.prog 218 #[] w fun e w'=>e=.returned (.map (some w.heap.size))∧w'=w.alloc (.map uses 2):=by
 have hmm:=@run_makeMap Tryz.prog;have p1:=Jg w #[] 0 98 (.agg #[.string lD]) rfl;have p2:=Jg w #[{ key:=.int .u8 98,val:=.agg #[.string lD],born:=0 }] 1 116 (.agg #[.string nW]) rfl;simp only[lD,nW,List.push_toArray,List.nil_append,List.cons_append,Nat.zero_add] at p1 p2;go_enter Tryz.func218,Tryz.ntmps218
 go_wp2_with fail
 go_ret;exact⟨rfl,rfl⟩
end Mt
end Go.Proofs.YtmhcfaaggkidjaaGreatDoor
end
