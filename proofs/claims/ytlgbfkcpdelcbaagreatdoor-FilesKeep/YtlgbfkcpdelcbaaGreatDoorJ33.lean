import Derived.Lib.AppendIntMem
import Derived.Deep.AppendLies
import Derived.Deep.AppendSrc
import Derived.Test.YtlgbfkcpdelcbaaGreatDoorJ31
import Derived.Test.YtlgbfkcpdelcbaaGreatDoorJ32
set_option linter.unusedSimpArgs false
set_option linter.unusedVariables false
set_option maxHeartbeats 8000000
set_option maxRecDepth 100000
namespace Go.Proofs.YtlgbfkcpdelcbaaGreatDoor
section
namespace En
open Go.RowKit
def Xr:String:=(Rows.filesKeepRow.laid.map (fun p=>p.1)).getD 2 (String.ofList [])
def Tz (v:Value):Prop:=v=.nilIface∨∃te pe,v=.iface te pe
structure Lb (w:World):Prop where
 tab:Lib.TabIs Tryz.prog w Xr .u64 Lib.pow10Tab
 max:∃m,w.cell? ⟨3,0,none⟩=some (.int .i64 m)
 syn:∃v,w.cell? ⟨1,0,none⟩=some v∧Tz v
 ran:∃v,w.cell? ⟨2,0,none⟩=some v∧Tz v
theorem Lb.since {w w':World}(h:Lb w)(hs:Since w w'):Lb w':=by
 refine⟨Lib.tabBelow_of_tabIs h.tab w' hs,?_,?_,?_⟩
 ·obtain⟨m,hm⟩:=h.max;exact⟨m,(hs.cell (p:=⟨3,0,none⟩) (World.block_lt_of_cell? w _ hm)).trans hm⟩
 ·obtain⟨m,hm,h2⟩:=h.syn;exact⟨m,(hs.cell (p:=⟨1,0,none⟩) (World.block_lt_of_cell? w _ hm)).trans hm,h2⟩
 obtain⟨m,hm,h2⟩:=h.ran;exact⟨m,(hs.cell (p:=⟨2,0,none⟩) (World.block_lt_of_cell? w _ hm)).trans hm,h2⟩
theorem Jv {w:World}(k:Nat)(os:Array Obj):Since w (Go.Sort.grow (w.drewN k) os):=by
 have h:=(Since.refl w).drewN k;refine Below.trans (show Below w.heap.size w _ from h) ⟨rfl,rfl,rfl,by simp[Go.Sort.grow],fun j hj=>?_⟩;show ((w.drewN k).heap++os)[j]?=_
 rw[Array.getElem?_append_left (Nat.lt_of_lt_of_le hj h.size)]
theorem sI (n:Int)(h0:-9223372036854775808≤n)(h1:n≤9223372036854775807)(w:World)(h:Lb w) :
  Calls Tryz.prog 154 #[.int .i64 n] w fun e w'=>e=.returned (.string ⟨(Lib.itoa n).toArray⟩)∧Since w w':=by
 refine(Tryz.strconv_Itoa n h0 h1 w h.tab).mono ?_;rintro e w' ⟨rfl,k,os,rfl⟩;exact⟨rfl,Jv k os⟩
theorem Ey {w:World}(t:ByteArray)(ty:TypeId):Since w (Lib.bytesWorld w ty t):=
 ⟨rfl,rfl,rfl,by rw[Lib.bytesWorld_size];omega,fun k hk=>Lib.bytesWorld_at_old w ty t k hk⟩
theorem yj (s:ByteArray)(hs:s.size≤100000)(w:World)(h:Lb w) :
  Calls Tryz.prog 88 #[.string s] w fun e w'=>(∃er,e=.returned (.tuple #[.int .i64 (gN s.data.toList),er])∧((∃v,oG s.data.toList=some v∧er=.nilIface)∨(oG s.data.toList=none∧∃t p,er=.iface t p)))∧Since w w':=by
 cases hn:Lib.atoiAll s.data.toList with
 | ok v=>
  refine(Tryz.strconv_Atoi_ok s (by omega) v hn w).mono ?_;rintro e w' ⟨rfl,h2⟩;refine⟨⟨.nilIface,by simp[gN,hn],Or.inl ⟨v,by simp[oG,hn],rfl⟩⟩,?_⟩;rcases h2 with rfl | ⟨t,rfl⟩
  ·exact Since.refl _
  exact Ey t _
 | «syntax»=>
  obtain⟨ev,h1,h2⟩:=h.syn;refine(Tryz.strconv_Atoi_syntax s (by omega) hn ev w h1 h2).mono ?_;rintro e w' ⟨N,rfl,_,_,h3⟩;exact⟨⟨.iface 279 (.pointer (some ⟨N,0,none⟩)),by simp only[gN,hn],Or.inr ⟨by simp only[oG,hn],_,_,rfl⟩⟩,h3⟩
 | range=>
  obtain⟨ev,h1,h2⟩:=h.ran;refine(Tryz.strconv_Atoi_range s (by omega) hn ev w h1 h2).mono ?_;rintro e w' ⟨N,rfl,_,_,h3⟩;exact⟨⟨.iface 279 (.pointer (some ⟨N,0,none⟩)),by simp only[gN,hn],Or.inr ⟨by simp only[oG,hn],_,_,rfl⟩⟩,h3⟩
theorem fI (s:ByteArray)(hs:s.size≤100000)(w:World):Calls Tryz.prog 49 #[.string s] w fun e w'=>e=.returned (.string s)∧Since w w':=by
 go_enter Tryz.func49,Tryz.ntmps49
 go_wp2_with fail
 refine(Tryz.stringslite_Clone s w (by omega)).mono ?_;rintro e w' ⟨rfl,h⟩;go_wp2_with fail
 go_ret;exact⟨rfl,h⟩
theorem bP (B b:Nat)(bs:List Value)(s:ByteArray)(w:World)(h:Lib.IsBuilderF 161 5 B b bs w)(hl:bs.length+s.size≤140737488355328)(hB:B≤w.heap.size) :
  Calls Tryz.prog 91 #[.pointer (some ⟨b,0,none⟩),.string s] w fun e w'=>e=.returned (.tuple #[.int .i64 s.size,.nilIface])∧Lib.BuilderAtF 161 5 B b (.pointer (some ⟨b,0,none⟩)) (bs++Lib.strCells s) w'∧Below B w w'∧Lib.OthersKept 5 (some b) w w':=
 Any.Builder_WriteString_k { Tryz.MS with } Tryz.kW B b bs s w h hl hB
theorem bO {w:World}{k:Nat}{o:Obj}(h:w.heap[k]?=some o):k<w.heap.size:=(Array.getElem?_eq_some_iff.1 h).1
theorem fC {B b:Nat}{p:Value}{bs:List Value}{w w':World}(h:Lib.BuilderAtF 161 5 B b p bs w)(hs:Since w w'):Lib.BuilderAtF 161 5 B b p bs w':=by
 obtain⟨h1,v,hb,hown,hne⟩:=h;refine⟨h1,v,by rw[Below.block hs b (bO hb)];exact hb,?_,hne⟩;obtain⟨o1,o2⟩:=hown;refine⟨o1,?_⟩;rcases o2 with o2 | ⟨g,cap,cur,o2⟩
 ·exact Or.inl o2
 obtain⟨fz,hv,hg,hh,r⟩:=o2;exact Or.inr ⟨g,cap,cur,fz,hv,hg,by rw[Below.block hs g (bO hh)];exact hh,r⟩
theorem bW {B b:Nat}{bs:List Value}{w w':World}(h:Lib.IsBuilderF 161 5 B b bs w)(hs:Since w w'):Lib.IsBuilderF 161 5 B b bs w':=by
 rcases h with h | h
 ·exact Or.inl (fC h hs)
 exact Or.inr (fC h hs)
def kP (l:List (List UInt8)):List Value:=l.map (fun t=>.string ⟨t.toArray⟩)
theorem rD (x:Value)(B:Nat)(l:List (List UInt8))(w:World)(h:w.ownsRow B 9 1 x l.length (kP l))(hne:l≠[])(hl:(Lib.join l [32]).length≤100000)(hn:l.length≤100000) :
  Calls Tryz.prog 36 #[x,.string ⟨#[32]⟩] w fun e w'=>e=.returned (.string ⟨(Lib.join l [32]).toArray⟩)∧Since w w':=by
 have hpos:=List.length_pos_iff.2 hne;have h0:=h;rcases h.2 with⟨_,h1⟩ | ⟨g,cap,cur,rfl,hb,hg,hc,hm,hs,ht⟩
 ·omega
 have e1:(l.map (fun t=>(⟨t.toArray⟩:ByteArray))).map (fun x=>x.data.toList)=l:=by
  rw[List.map_map];exact List.map_id'' (fun t=>by simp) l
 have:=Tryz.strings_Join g 0 cap (l.map (fun t=>(⟨t.toArray⟩:ByteArray))) ⟨#[32]⟩ w (fun j x hx=>by
  have hj:j<l.length:=by have:=(List.getElem?_eq_some_iff.1 hx).1;simpa using this
  have h2:=h0.cellAt j (by omega);rw[Nat.zero_add,h2];rw[List.getElem?_map] at hx;simp only[kP,List.getElem?_map];cases hq:l[j]? with
  | none=>rw[hq] at hx;cases hx
  | some y=>rw[hq] at hx;simp at hx;subst hx;rfl) (bO hg) (by simp;omega) (by simp;omega) (by rw[e1];exact Nat.le_trans hl (by decide))
 rw[List.length_map] at this;refine this.mono ?_;rintro e w' ⟨rfl,h3⟩;rw[e1];exact⟨rfl,h3⟩
end En
end
section
namespace En
open Go.RowKit
def Bx (w:World)(b:Nat)(f:Fi)(cv:Value):Prop:=aA w b 3 (fun j=>(#[.string f.nm,.int .i64 f.sz,cv]:Array Value).getD j undef)
theorem Bx.new (w:World)(f:Fi)(cv:Value):Bx (w.alloc (.cells #[.string f.nm,.int .i64 f.sz,cv] 129)) w.heap.size f cv:=aA.new w 3 _ _ _ (fun j hj=>by
  obtain rfl | rfl | rfl:j=0∨j=1∨j=2:=by omega
  all_goals rfl) _ rfl
theorem Bx.since {w w':World}{b:Nat}{f:Fi}{cv:Value}(h:Bx w b f cv)(hs:Since w w'):Bx w' b f cv:=aA.since h hs
theorem Ez {w:World}{b:Nat}{f:Fi}{cv:Value}(h:Bx w b f cv):w.cell? ⟨b,0,none⟩=some (.string f.nm)∧w.cell? ⟨b,1,none⟩=some (.int .i64 f.sz):=⟨aA.cell h 0 (by omega),aA.cell h 1 (by omega)⟩
theorem YW:(Tryz.prog.info? 9).map (fun i=>(i.zero,i.size,i.bytes))=some (some (.string ByteArray.empty),1,16):=by kernel_rfl
theorem info_parts {P:Program}{t:TypeId}{z:Value}{s y:Nat}(h:(P.info? t).map (fun i=>(i.zero,i.size,i.bytes))=some (some z,s,y)):∃i,P.info? t=some i∧i.zero=some z∧i.size=s∧i.bytes=y:=by
 cases hi:P.info? t with
 | none=>rw[hi] at h;cases h
 | some i=>rw[hi] at h;simp at h;exact⟨i,rfl,h.1,h.2.1,h.2.2⟩
theorem bf {w w':World}{B:Nat}{t:TypeId}{sz n:Nat}{v:Value}{xs:List Value}(h:w.ownsRow B t sz v n xs)(hs:Since w w'):w'.ownsRow B t sz v n xs:=by
 refine⟨h.1,?_⟩;rcases h.2 with h2 | ⟨g,cap,cur,hv,hb,hg,rest⟩
 ·exact .inl h2
 exact .inr ⟨g,cap,cur,hv,hb,by rw[hs.block g (bO hg)];exact hg,rest⟩
theorem yl (f:Fi)(k:Nat)(hk:k<f.cs.length):(words f).take (2+(k+1))=(words f).take (2+k)++[Lib.itoa f.cs[k]]:=by
 rw[show 2+(k+1)=(2+k)+1 by omega,List.take_add_one]
 congr 1
 rw[show 2+k=k+1+1 by omega];simp[words,hk]
theorem TA (f:Fi)(cv:Value)(w:World)(hg:Good f)(hc:Ints w cv f.cs)(hb:Lb w) :
  Calls Tryz.prog 166 #[dF f cv] w fun e w'=>e=.returned (.string ⟨(line f).toArray⟩)∧Since w w':=by
 have HG:=hid hg;have HC:=hid hc;have HL:=hid hb;obtain⟨ca,cc,rfl⟩:∃ca cc,cv=.slice ca f.cs.length cc:=by
  obtain⟨ca,cc,h,_⟩:=hc;exact⟨ca,cc,h⟩
 clear hg hc hb;have hbx:=Bx.new w f (.slice ca f.cs.length cc);have cK:Hid (Since w (w.alloc (.cells #[.string f.nm,.int .i64 f.sz,.slice ca f.cs.length cc] 129))):=(Since.refl w).alloc _;unfold dF;go_enter Tryz.func166,Tryz.ntmps166
 go_upto_region 1 with fail
 have jm:=hid hbx;have x0:=aA.cell hbx 0 (by omega);have x1:=aA.cell hbx 1 (by omega);clear hbx;generalize w.alloc (.cells #[.string f.nm,.int .i64 f.sz,.slice ca f.cs.length cc] 129)=w1 at *;go_cut [3] (fun t3 wx=>wx.ownsRow w.heap.size 9 1 t3 2 (kP ((words f).take 2))∧Since w1 wx)
 case first=>
  have hit:=fun W (hW:Since w1 W)=>sI f.sz (by have:=HG.o.YV;omega) (by have:=HG.o.sz1;omega) W (HL.o.since (cK.o.trans hW))
  have HIT:=hid hit;clear hit;go_region_held3 (fun W=>W.cell? ⟨w.heap.size,0,none⟩=some (.string f.nm)∧W.cell? ⟨w.heap.size,1,none⟩=some (.int .i64 f.sz)) (first | exact Ez jm.o | exact Ez (jm.o.since (Since.refl _).drew) | exact Ez (jm.o.since (((Since.refl _).drew).trans h2)) | exact Ez (jm.o.since ((((Since.refl _).drew).trans h2).alloc _))) (first
   | (go_simp;go_at_call 154;refine(HIT.o _ (Since.refl _).drew).mono ?_;rintro e w2 ⟨rfl,h2⟩;dsimp only))
  go_wp2_with fail
  go_meet
  refine⟨?_,(((Since.refl _).drew).trans h2).alloc _⟩;have:=World.ownsRow_lit (base:=w.heap.size) (e:=9) (size:=1) w2 #[Value.string f.nm,Value.string ⟨(Lib.itoa f.sz).toArray⟩] 2 (by have:=cK.o.size;have:=h2.size;simp at this;omega) (by decide) (by rfl)
  simpa [kP,words] using this
 case rest=>
 obtain⟨hrow,hs2⟩:=hcut;have HR:=hid hrow;have HS2:=hid (cK.o.trans hs2);have x2:=aA.cell (jm.o.since hs2) 2 (by omega);clear hrow hs2 x0 x1 jm cK;obtain⟨i0,hi,hz0,hz1,hz2⟩:=info_parts YW;have HI:=hid (an hi (an hz0 (an hz1 hz2)));clear hi hz0 hz1 hz2;go_wp2_with fail
 clear x2;go_loopw [15,3,5] (fun i x _ wr=>∃k:Nat,k≤f.cs.length∧i=.int .i64 k∧wr.ownsRow w.heap.size 9 1 x (2+k) (kP ((words f).take (2+k)))∧Since w wr) (fun i _ _ _=>f.cs.length-(intOf i).toNat)
 case atStart=>exact⟨0,by omega,rfl,HR.o,HS2.o⟩
 obtain⟨k,hk,rfl,hx,hs⟩:=hrel;have HX:=hid hx;have ed:=hid hs;clear hx hs;have hcl:=HG.o.Am;by_cases hlt:k<f.cs.length
 ·have hlt2:(k:Int)<f.cs.length:=by omega
  obtain⟨a',c',hv,_,h2⟩:=HC.o.since ed.o;obtain⟨kb,ko,ha,_,hcell⟩:=h2 (by omega);injection hv with e1 e2 e3
  subst e1;subst ha;have q:=hcell k f.cs[k] (List.getElem?_eq_getElem hlt);have HW:=hid (yl f k hlt);have hrg:=HG.o.cell f.cs[k] (List.getElem_mem hlt);clear hcell h2 e2 e3;generalize f.cs[k]=c at *;go_wp2_with fail
  refine(sI c (by omega) (by omega) _ (HL.o.since ed.o)).mono ?_;rintro e w2 ⟨rfl,h2⟩;have zt:Hid (w2.ownsRow w.heap.size 9 1 u3 (2+k) (kP ((words f).take (2+k)))):=bf HX.o h2;have dZ:=hid (ed.o.trans h2);clear h2 q;go_wp2_with (at_builtin;refine wpList_append_own _ (by rfl) _ _ _ (by rfl) w.heap.size 9 i0 _ 1 16 Tryz.underlying65 HI.o.1 HI.o.2.1 HI.o.2.2.1 HI.o.2.2.2 (by rfl) (by decide) _ (2+k) (kP ((words f).take (2+k))) (by rfl) (World.ownsRow.alloc zt.o _) ⟨w2.heap.size,0,none⟩ 1 1 [.string ⟨(Lib.itoa c).toArray⟩] (by rfl) (by rfl) (World.news_of_block (heap_alloc_new w2 _)) (by simp[Value.oneCell']) (by unfold maxLen;omega) (by omega) (by have:=dZ.o.size;simp;omega) ?_;intro x' w3 hown1 hgrow _)
  have pK:Hid (w3.ownsRow w.heap.size 9 1 x' (2+(k+1)) (kP ((words f).take (2+(k+1))))):=by
   show World.ownsRow _ _ _ _ _ _ _
   rw[HW.o,show kP ((words f).take (2+k)++[Lib.itoa c])=kP ((words f).take (2+k))++[.string ⟨(Lib.itoa c).toArray⟩] from by simp[kP],show 2+(k+1)=2+k+1 by omega];exact hown1
  have rq:Hid (Since w w3):=Below.grown (Since.alloc dZ.o _) hgrow (by have:=dZ.o.size;simp;omega) (fun j hj=>(zt.o.lt j hj).1);clear hown1 hgrow;go_roundw
  case rel=>exact⟨k+1,by omega,by go_num,pK.o,rq.o⟩
  case measure=>simp[intOf];omega
 have hke:k=f.cs.length:=by omega
 have HE:Hid ((words f).take (2+k)=words f):=List.take_of_length_le (by simp[words];omega);have HLEN:Hid ((words f).length=2+k):=by show (words f).length=2+k;simp[words];omega
 have zt:Hid (wr.ownsRow w.heap.size 9 1 u3 (words f).length (kP (words f))):=by
  show World.ownsRow _ _ _ _ _ _ _
  have:=HX.o;rw[HE.o] at this;rw[HLEN.o];exact this
 have TB:Hid ((Lib.join (words f) [32]).length≤100):=by
  have h1:=HG.o.xS;have h2:(line f).length=(Lib.join (words f) [32]).length+1:=by simp[line]
  show (Lib.join (words f) [32]).length≤100
  omega
 have He:Hid (line f=Lib.join (words f) [32]++[10]):=rfl;subst hke;go_wp2_with fail
 refine(rD _ w.heap.size (words f) _ zt.o (by simp[words]) (by have:=TB.o;omega) (by have:=HLEN.o;omega)).mono ?_;rintro e w2 ⟨rfl,h2⟩;have dZ:=hid (ed.o.trans h2);clear h2;have HJ:Hid ((⟨(Lib.join (words f) [32]).toArray⟩:ByteArray).size≤100):=by
  show (⟨(Lib.join (words f) [32]).toArray⟩:ByteArray).size≤100
  rw[show (⟨(Lib.join (words f) [32]).toArray⟩:ByteArray).size=(Lib.join (words f) [32]).length from List.size_toArray];exact TB.o
 have HV:Hid ((⟨(Lib.join (words f) [32]).toArray⟩:ByteArray)++⟨#[10]⟩=⟨(line f).toArray⟩):=by
  show (⟨(Lib.join (words f) [32]).toArray⟩:ByteArray)++⟨#[10]⟩=⟨(line f).toArray⟩
  rw[He.o];apply ByteArray.ext
  simp[ByteArray.data_append]
 clear TB He;generalize (⟨(Lib.join (words f) [32]).toArray⟩:ByteArray)=J at *;have hj:=HJ.o;go_wp2_with fail
 go_ret;exact⟨by rw[←HV.o];rfl,dZ.o⟩
end En
end
section
namespace En
open Go.RowKit
def fF (n:Int):Value:=.iface 32 (.int .i64 n)
theorem TC (l:List Fi)(v:Value)(w:World)(hl:fA w v l)(hz:lV l)(hr:right l=false) :
  Calls Tryz.prog 98 #[v] w fun e w'=>e=.returned (.tuple #[.string ⟨#[]⟩,fF 1])∧Since w w':=by
 have hra:=lI l v w hl hz;rw[hr] at hra;go_enter Tryz.func98,Tryz.ntmps98
 go_wp2_with fail
 refine hra.mono ?_;rintro e w1 ⟨rfl,h1⟩;go_wp2_with fail
 go_ret2;exact⟨rfl,h1⟩
theorem ym (l:List Fi)(k:Nat)(f:Fi)(h:l[k]?=some f):print (l.take (k+1))=print (l.take k)++line f:=by
 rw[List.take_add_one,h];simp[print]
theorem qm (l:List Fi)(k:Nat):(print (l.take k)).length≤(print l).length:=by
 have:print l=print (l.take k)++print (l.drop k):=by
  unfold print;rw[←List.flatten_append,←List.map_append,List.take_append_drop]
 rw[this,List.length_append];omega
theorem Aq (l:List Fi)(v:Value)(w:World)(hl:fA w v l)(hz:lV l)(hb:Lb w)(hr:right l=true) :
  Calls Tryz.prog 98 #[v] w fun e w'=>e=.returned (.tuple #[.string ⟨(print l).toArray⟩,.nilIface])∧Since w w':=by
 have hra:=lI l v w hl hz;rw[hr] at hra;obtain⟨a,c,rfl,hcap,hrest⟩:=hl;have HL:Hid (fA w (.slice a l.length c) l):=⟨a,c,rfl,hcap,hrest⟩
 have HB:Hid (Lb w):=hb;have HP:Hid ((print l).length≤200):=xU hr;have HG:Hid (∀f,f ∈ l→Good f):=fw hr;have hn8:l.length≤8:=by
  rw[right,Bool.and_eq_true,decide_eq_true_eq] at hr;exact hr.1
 clear hrest hb hz hr;go_enter Tryz.func98,Tryz.ntmps98
 go_wp2_with fail
 refine hra.mono ?_;rintro e w1 ⟨rfl,h1⟩;have cK:Hid (Since w w1):=h1;clear h1 hra;go_upto_region 4 with fail
 have hb0:Lib.IsBuilderF 161 5 w1.heap.size w1.heap.size [] (w1.alloc (.cells #[.pointer none,.slice none 0 0] 161)):=Lib.IsBuilderF.of (Lib.fresh_isBuilder 161 5 w1);have HB0:Hid (Lib.IsBuilderF 161 5 w1.heap.size w1.heap.size [] (w1.alloc (.cells #[.pointer none,.slice none 0 0] 161))):=hb0;have HS2:Hid (Since w1 (w1.alloc (.cells #[.pointer none,.slice none 0 0] 161))):=(Since.refl _).alloc _;clear hb0;generalize w1.alloc (.cells #[.pointer none,.slice none 0 0] 161)=w2 at *;go_wp2_with fail
 go_loopw [13,6] (fun i _ wr=>∃k:Nat,k≤l.length∧i=.int .i64 k∧Lib.IsBuilderF 161 5 w1.heap.size w1.heap.size (Lib.byteCells (print (l.take k))) wr∧Since w1 wr) (fun i _ _=>l.length-(intOf i).toNat)
 case atStart=>exact⟨0,by omega,rfl,by simpa [print,Lib.byteCells] using HB0.o,HS2.o⟩
 obtain⟨k,hk,rfl,hbk,hs⟩:=hrel;have VB:Hid (Lib.IsBuilderF 161 5 w1.heap.size w1.heap.size (Lib.byteCells (print (l.take k))) wr):=hbk;have ed:Hid (Since w1 wr):=hs;clear hbk hs;by_cases hlt:k<l.length
 ·have hlt2:(k:Int)<l.length:=by omega
  have hE:Hid (l[k]?=some l[k]):=List.getElem?_eq_getElem hlt;have Pn:Hid (Good l[k]):=HG.o l[k] (List.getElem_mem hlt);have EA:Hid (print (l.take (k+1))=print (l.take k)++line l[k]):=ym l k l[k] hE.out;have BZ:Hid ((print (l.take (k+1))).length≤200):=Nat.le_trans (qm l (k+1)) HP.o;generalize l[k]=f at *;obtain⟨kb,ko,cv,rfl,hi,hkb,q0,q1,q2⟩:=(HL.o.since (cK.o.trans ed.o)).at_ hE.out;have HI:Hid (Ints wr cv f.cs):=hi;clear hi;obtain⟨ca,cc,rfl⟩:∃ca cc,cv=.slice ca f.cs.length cc:=by
   obtain⟨ca,cc,h,_⟩:=HI.o;exact⟨ca,cc,h⟩
  have kN:Hid (Since wr (wr.alloc (.cells #[.string f.nm,.int .i64 f.sz,.slice ca f.cs.length cc] 129))):=(Since.refl _).alloc _;go_wp2_with fail
  refine(TA f (.slice ca f.cs.length cc) _ Pn.o (HI.o.since kN.o) (HB.o.since ((cK.o.trans ed.o).trans kN.o))).mono ?_;rintro e w3 ⟨rfl,h3⟩;have HB3:Hid (Lib.IsBuilderF 161 5 w1.heap.size w1.heap.size (Lib.byteCells (print (l.take k))) w3):=bW VB.o (kN.o.trans h3);have dZ:Hid (Since w1 w3):=(ed.o.trans kN.o).trans h3;clear h3 q0 q1 q2;have HLS:Hid ((⟨(line f).toArray⟩:ByteArray).size=(line f).length):=List.size_toArray;have hll:(Lib.byteCells (print (l.take k))).length+(⟨(line f).toArray⟩:ByteArray).size≤140737488355328:=by
   rw[Lib.byteCells_length,HLS.o];have:=BZ.o;rw[EA.o,List.length_append] at this;omega
  have TB:Hid ((Lib.byteCells (print (l.take k))).length+(⟨(line f).toArray⟩:ByteArray).size≤140737488355328):=hll;clear hll;go_wp2_with fail
  refine(bP w1.heap.size w1.heap.size _ ⟨(line f).toArray⟩ _ HB3.o TB.o dZ.o.size).mono ?_;rintro e w4 ⟨rfl,h4,b4,_⟩;have fO:Hid (Since w1 w4):=Below.trans dZ.o b4;have Dk:Hid (Lib.IsBuilderF 161 5 w1.heap.size w1.heap.size (Lib.byteCells (print (l.take (k+1)))) w4):=by
   refine Or.inr ?_;rw[Lib.strCells_eq] at h4;rw[EA.o]
   simpa [Lib.byteCells] using h4
  clear h4 b4;go_wp2_with fail
  go_roundw
  case rel=>exact⟨k+1,by omega,by go_num,Dk.o,fO.o⟩
  case measure=>simp[intOf];omega
 have hke:k=l.length:=by omega
 subst hke;rw[List.take_length] at VB;go_wp2_with fail
 refine(Tryz.Builder_String_any_k w1.heap.size w1.heap.size _ _ VB.o ed.o.size).mono ?_;rintro e w3 ⟨rfl,_,b3,_⟩;have dZ:Hid (Since w1 w3):=Below.trans ed.o b3;clear b3;go_wp2_with fail
 go_ret2;exact⟨rfl,cK.o.trans dZ.o⟩
end En
end
section
namespace En
open Go.RowKit
theorem aR {fn:Func}{p q:Tmp}{ty:TypeId}(h:fn.results=#[.cell p ty,.tmp q])(tmps:Array Value)(P:Program)(w:World)(b:Nat)(cs:List Value)(d:TypeDesc)(v:Value)(hx:tmps.getD p undef=.pointer (some ⟨b,0,none⟩))(hc:w.rangeAt b 0 cs)(hu:P.underlying ty=some d)(hd:d.isRow=true)(hi:(P.info? ty).map (·.size)=some cs.length)(hq:tmps.getD q undef=v) :
  (results fn tmps).run P w=.ok (.tuple #[.agg cs.toArray,v]) w:=by
 simp only[results,h];have h1:=run_loadVar_mid (P:=P) w b 0 ty cs d hc hu hd hi;have h2:tmps[p]?.getD undef=.pointer (some ⟨b,0,none⟩):=by simpa using hx
 have h3:tmps[q]?.getD undef=v:=by simpa using hq
 simp[asAddr,h2,h1,h3]
theorem uo:∀(l:List (List UInt8)) (t:List UInt8),eZ (l++[t])=(match eZ l,oG t with | some L,some v=>some (L++[v]) | _,_=>none)
 | [],t=>by
  simp only[List.nil_append,eZ];cases oG t<;>rfl
 | a::r,t=>by
  rw[List.cons_append,eZ,uo r t];simp only[eZ];cases oG a with
  | none=>cases eZ r<;>cases oG t<;>rfl
  | some v=>cases eZ r<;>cases oG t<;>rfl
theorem EB:∀(l:List (List UInt8)) (k:Nat),eZ (l.take k)=none→eZ l=none
 | [],k,h=>by simpa using h
 | a::r,0,h=>by simp[eZ] at h
 | a::r,k+1,h=>by
  rw[List.take_succ_cons,eZ] at h;rw[eZ];cases hn:oG a with
  | none=>rfl
  | some v=>
   rw[hn] at h;cases hr:eZ (r.take k) with
   | none=>rw[EB r k hr]
   | some L=>rw[hr] at h;cases h
def bV (L:List Int):List Value:=L.map (fun x=>.int .i64 x)
def gu (t:ByteArray):List ByteArray:=Lib.splitB ⟨#[32]⟩ 0 (min 26 (t.size+1)-1) t
theorem EC (t:ByteArray):(gu t).map (fun x=>x.data.toList)=Lib.splitK [32] 0 (min 26 (t.data.toList.length+1)-1) t.data.toList:=by
 unfold gu;rw[Lib.splitB_data]
 congr 3
theorem TD (t:ByteArray):gJ t.data.toList=qj ((gu t).map (fun x=>x.data.toList)):=by
 unfold gJ;rw[EC]
theorem Jw (t:ByteArray):((gu t).length:Int)≤(min 26 (t.size+1):Nat):=by
 have:=Lib.splitB_length_le ⟨#[32]⟩ 0 (min 26 (t.size+1)-1) t;unfold gu;omega
theorem Jy (t:ByteArray):(gu t).length≤26∧1≤(gu t).length:=by
 unfold gu;constructor
 ·have:=Lib.splitB_length_le ⟨#[32]⟩ 0 (min 26 (t.size+1)-1) t;omega
 generalize min 26 (t.size+1)-1=k;cases k with
 | zero=>rw[Lib.splitB_zero];simp
 | succ k=>unfold Lib.splitB;split<;>simp
theorem ng (sep:ByteArray):∀(k:Nat) (s:ByteArray) (n:Nat),s.size≤n→∀x,x ∈ Lib.splitB sep 0 k s→x.size≤n
 | 0,s,n,h,x,hx=>by rw[Lib.splitB_zero,List.mem_singleton] at hx;subst hx;exact h
 | k+1,s,n,h,x,hx=>by
  unfold Lib.splitB at hx;split at hx
  ·rw[List.mem_singleton] at hx;subst hx;exact h
  rcases List.mem_cons.1 hx with rfl | hx
  ·rw[ByteArray.size_extract];omega
  exact ng sep k _ n (by rw[ByteArray.size_extract];omega) x hx
theorem info3':(Tryz.prog.info? 3).map (fun i=>(i.zero,i.size,i.bytes))=some (some (.int .i64 0),1,8):=by kernel_rfl
theorem yn {w:World}{b:Nat}{g:Nat→Value}(h:aA w b 3 g)(x y z:Value):aA (((w.setCell ⟨b,0,none⟩ x).setCell ⟨b,1,none⟩ y).setCell ⟨b,2,none⟩ z) b 3 (fun j=>(#[x,y,z]:Array Value).getD j undef):=
 (((h.set 0 (by omega) x).set 1 (by omega) y).set 2 (by omega) z).congr (fun j hj=>by
  obtain rfl | rfl | rfl:j=0∨j=1∨j=2:=by omega
  all_goals rfl)
theorem oK {w:World}{b:Nat}{x y z:Value}(h:aA w b 3 (fun j=>(#[x,y,z]:Array Value).getD j undef)):w.rangeAt b 0 [x,y,z]:=by
 have:=h.range 0 3 (by omega);exact this
theorem pM (w:World):(Instr.makeSlice 61 (.int .i64 0) (.int .i64 24)).run Tryz.prog w=.ok (.slice (some ⟨w.heap.size,0,none⟩) 0 24) (w.alloc (.cells (madeCells #[Value.int .i64 0] 24) 3)):=by
 obtain⟨i,hi,hz,hs,hb⟩:=info_parts info3';have h:=run_makeSlice (P:=Tryz.prog) w 61 3 i _ Tryz.underlying61 hi hz .i64 .i64 0 24 (by omega) (by omega) (by rw[hs];omega) (by rw[hb];omega) (by omega);rw[hs,Nat.mul_one] at h
 simpa [Value.cells] using h
theorem lW {α:Type}(l:List α)(k:Nat)(h:k<l.length):l.take (k+1)=l.take k++[l[k]]:=by
 rw[List.take_add_one,List.getElem?_eq_getElem h]
 rfl
def TE:Value:=.agg #[.string ⟨#[]⟩,.int .i64 0,.slice none 0 0]
theorem nY (t:ByteArray)(ht:t.size≤1000)(w:World)(hb:Lb w) :
  Calls Tryz.prog 97 #[.string t] w fun e w'=>((∃f cv,gJ t.data.toList=some f∧e=.returned (.tuple #[dF f cv,.bool true])∧Ints w' cv f.cs∧∀k o n c,cv=.slice (some ⟨k,o,none⟩) n c→w.heap.size≤k∧∃cur fz,w'.heap[k]?=some (.cells cur 3 fz))∨(gJ t.data.toList=none∧e=.returned (.tuple #[TE,.bool false])))∧Since w w':=by
 obtain⟨a7y,hw1⟩:=Jy t;have HRP:=hid (TD t);have HSM:Hid (∀x,x ∈ gu t→x.size≤1000):=ng _ _ t 1000 ht;have HB:=hid hb;have hsp:=fun W (hW:Lb W) (m:Int) (hm:W.cell? ⟨3,0,none⟩=some (.int .i64 m))=>Tryz.strings_SplitN t ⟨#[32]⟩ 26 m W (by omega) hm (by decide) (by omega) (by omega)
 have hcs:Lib.cellsOf (gu t) (min 26 (t.size+1))=Lib.cellsOf (gu t) (min 26 (t.size+1)):=rfl;have HSP:Hid (∀W,Lb W→Calls Tryz.prog 164 #[.string t,.string ⟨#[32]⟩,.int .i64 26] W fun e w'=>e=.returned (.slice (some ⟨W.heap.size,0,none⟩) (gu t).length (min 26 (t.size+1)))∧w'=W.alloc (.cells (Lib.cellsOf (gu t) (min 26 (t.size+1))) 9)):=fun W hW=>by
  obtain⟨m,hm⟩:=hW.max;exact hsp W hW m hm
 clear hsp hcs hb;have TF:Hid (∀j (h:j<(gu t).length),(Lib.cellsOf (gu t) (min 26 (t.size+1)))[j]?=some (.string (gu t)[j])):=fun j h=>by
  unfold Lib.cellsOf;rw[List.getElem?_toArray,List.getElem?_append_left (by simpa using h),List.getElem?_map,List.getElem?_eq_getElem h]
  rfl
 have HMN:=hid (Jw t);generalize gu t=W at *;generalize Lib.cellsOf W (min 26 (t.size+1))=cs at *;generalize min 26 (t.size+1)=cp at *;have hbx:aA (w.alloc (.cells #[.string ⟨#[]⟩,.int .i64 0,.slice none 0 0] 129)) w.heap.size 3 (fun j=>(#[.string ⟨#[]⟩,.int .i64 0,.slice none 0 0]:Array Value).getD j undef):=aA.new w 3 _ _ _ (fun j hj=>by
  obtain rfl | rfl | rfl:j=0∨j=1∨j=2:=by omega
  all_goals rfl) _ rfl
 have jm:=hid hbx;have cK:Hid (Since w (w.alloc (.cells #[.string ⟨#[]⟩,.int .i64 0,.slice none 0 0] 129))):=(Since.refl w).alloc _;clear hbx;go_enter Tryz.func97,Tryz.ntmps97
 go_upto_region 1 with fail
 generalize w.alloc (.cells #[.string ⟨#[]⟩,.int .i64 0,.slice none 0 0] 129)=w1 at *;go_wp2_with fail
 refine(HSP.o _ (HB.o.since cK.o)).mono ?_;rintro e w2 ⟨rfl,hw2⟩;have HS2:Hid (Since w1 w2):=by show Since w1 w2;rw[hw2];exact(Since.refl _).alloc _
 have HW2:Hid (∀j (h:j<W.length),w2.cell? ⟨w1.heap.size,j,none⟩=some (.string W[j])):=fun j h=>by
  rw[hw2,World.cell?_alloc_new];exact TF.o j h
 clear hw2 HSP TF;have b0:=(jm.o.since HS2.o).cell 0 (by omega);have b1:=(jm.o.since HS2.o).cell 1 (by omega);have b2:=(jm.o.since HS2.o).cell 2 (by omega);have f0:=(jm.o.since HS2.o).frozen 0 (by omega);have f1:=(jm.o.since HS2.o).frozen 1 (by omega);have f2:=(jm.o.since HS2.o).frozen 2 (by omega);by_cases h2:W.length<2
 ·have h2':(W.length:Int)<2:=by omega
  have h2d:decide ((W.length:Int)<2)=true:=decide_eq_true h2';have HN:Hid (gJ t.data.toList=none):=by
   show gJ t.data.toList=none
   rw[HRP.o]
   match W,h2,hw1 with
   | [x],_,_=>rfl
  have HF:Hid (aA (((w2.setCell ⟨w.heap.size,0,none⟩ (.string ⟨#[]⟩)).setCell ⟨w.heap.size,1,none⟩ (.int .i64 0)).setCell ⟨w.heap.size,2,none⟩ (.slice none 0 0)) w.heap.size 3 (fun j=>(#[.string ⟨#[]⟩,.int .i64 0,.slice none 0 0]:Array Value).getD j undef)):=yn (jm.o.since HS2.o) _ _ _;go_wp2_with fail
  refine bodyPost_ret (aR Tryz.results97 _ _ _ w.heap.size _ _ _ (by rfl) (oK HF.o) Tryz.underlying129 (by rfl) (by kernel_rfl) rfl) rfl ?_;exact⟨Or.inr ⟨HN.o,rfl⟩,(((cK.o.trans HS2.o).setCell (p:=⟨w.heap.size,0,none⟩) (Nat.le_refl _) _).setCell (p:=⟨w.heap.size,1,none⟩) (Nat.le_refl _) _).setCell (p:=⟨w.heap.size,2,none⟩) (Nat.le_refl _) _⟩
 have h2':2≤(W.length:Int):=by omega
 have h2d:decide ((W.length:Int)<2)=false:=decide_eq_false (by omega);have q0:=HW2.o 0 (by omega);obtain⟨x,R,rfl⟩:∃x R,W=x::R:=by
  cases W with
  | nil=>simp at hw1
  | cons x R=>exact⟨x,R,rfl⟩
 have hx:x.size≤1000:=HSM.o x (by simp);have q0:w2.cell? ⟨w1.heap.size,0,none⟩=some (.string x):=q0;have hnm:=xW x;have HR1:Hid (1≤R.length):=by show 1≤R.length;simp at h2;omega
 cases hn:aI x.data.toList with
 | false=>
  rw[hn] at hnm;have HN:Hid (gJ t.data.toList=none):=by
   show gJ t.data.toList=none
   rw[HRP.o]
   match R,HR1.o with
   | y::r,_=>simp only[List.map_cons,qj,hn];rfl
  have HF:Hid (aA (((w2.setCell ⟨w.heap.size,0,none⟩ (.string ⟨#[]⟩)).setCell ⟨w.heap.size,1,none⟩ (.int .i64 0)).setCell ⟨w.heap.size,2,none⟩ (.slice none 0 0)) w.heap.size 3 (fun j=>(#[.string ⟨#[]⟩,.int .i64 0,.slice none 0 0]:Array Value).getD j undef)):=yn (jm.o.since HS2.o) _ _ _;go_wp2_with (go_at_call 43;refine(hnm _).mono ?_;rintro e w' ⟨rfl,rfl⟩)
  refine bodyPost_ret (aR Tryz.results97 _ _ _ w.heap.size _ _ _ (by rfl) (oK HF.o) Tryz.underlying129 (by rfl) (by kernel_rfl) rfl) rfl ?_;exact⟨Or.inr ⟨HN.o,rfl⟩,(((cK.o.trans HS2.o).setCell (p:=⟨w.heap.size,0,none⟩) (Nat.le_refl _) _).setCell (p:=⟨w.heap.size,1,none⟩) (Nat.le_refl _) _).setCell (p:=⟨w.heap.size,2,none⟩) (Nat.le_refl _) _⟩
 | true=>
  rw[hn] at hnm;clear b0 b1 b2 f0 f1 f2;have HNM:=hid hn;clear hn;have h3d:decide ((R.length:Int)+1<2)=false:=decide_eq_false (by have:=HR1.o;omega);have hcap:(R.length:Int)+1≤cp:=by have:=HMN.o;simp at this;omega
  have hcap2:(1:Int)≤(R.length:Int)+1:=by omega
  have hrl:R.length≤25:=by simp at a7y;omega
  have hcp1:¬cp=1:=by have:=HR1.o;omega
  go_wp2_with fail
  refine(hnm _).mono ?_;rintro e wy ⟨rfl,hwy⟩;rw[hwy];clear hwy wy hnm;have hmk:=pM w2;go_upto_region 5 with fail
  have HM3:Hid ((w2.alloc (.cells (madeCells #[Value.int .i64 0] 24) 3)).ownsRow w2.heap.size 3 1 (.slice (some ⟨w2.heap.size,0,none⟩) 0 24) 0 []):=World.ownsRow_made w2 _ 24 (Nat.le_refl _) (by decide) (by simp[madeCells]);have dZ:Hid (Since w2 (w2.alloc (.cells (madeCells #[Value.int .i64 0] 24) 3))):=(Since.refl _).alloc _;clear hmk;generalize w2.alloc (.cells (madeCells #[Value.int .i64 0] 24) 3)=w3 at *;go_wp2_with fail
  obtain⟨i0,hi,hz0,hz1,hz2⟩:=info_parts info3';have HI:=hid (an hi (an hz0 (an hz1 hz2)));clear hi hz0 hz1 hz2;go_loopw [27,5,7,8,9] (fun i x _ _ _ wr=>∃(k:Nat) (L:List Int),k≤R.length∧i=.int .i64 k∧eZ ((R.take k).map (fun x=>x.data.toList))=some L∧L.length=k∧wr.ownsRow w2.heap.size 3 1 x k (bV L)∧Since w2 wr) (fun i _ _ _ _ _=>R.length-(intOf i).toNat)
  case atStart=>exact⟨0,[],by omega,rfl,rfl,rfl,HM3.o,dZ.o⟩
  obtain⟨k,L,hk,rfl,hnu,hLk,hown,hs⟩:=hrel;have HNU:=hid hnu;have HLK:=hid hLk;have HOW:=hid hown;have ed:=hid hs;clear hnu hLk hown hs;by_cases hlt:k<R.length
  ·have hlt2:(k:Int)<R.length:=by omega
   have q1:wr.cell? ⟨w1.heap.size,1+k,none⟩=some (.string R[k]):=by
    have:=HW2.o (k+1) (by simp;omega);rw[Nat.add_comm,ed.o.cell (p:=⟨w1.heap.size,k+1,none⟩) (World.block_lt_of_cell? _ _ this),this]
    rfl
   have HT:Hid ((R.take (k+1)).map (fun x=>x.data.toList)=(R.take k).map (fun x=>x.data.toList)++[R[k].data.toList]):=by
    show (R.take (k+1)).map (fun x=>x.data.toList)=_
    rw[lW R k hlt,List.map_append]
    rfl
   have IZ:Hid (R[k].size≤1000):=HSM.o R[k] (List.mem_cons_of_mem _ (List.getElem_mem hlt));generalize R[k]=y at *;clear q0;go_wp2_with fail
   refine(yj y (by have:=IZ.o;omega) _ (HB.o.since ((cK.o.trans HS2.o).trans ed.o))).mono ?_;rintro e w4 ⟨⟨er,rfl,her⟩,h4⟩;have fO:=hid (ed.o.trans h4);have a4w:=hid (bf HOW.o h4);clear h4 q1;rcases her with⟨v,hv,rfl⟩ | ⟨hv,te,pe,rfl⟩
   ·have HE:Hid (eZ ((R.take (k+1)).map (fun x=>x.data.toList))=some (L++[v])):=by
     show eZ ((R.take (k+1)).map (fun x=>x.data.toList))=_
     rw[HT.o,uo,HNU.o,hv]
    have HVN:Hid (gN y.data.toList=v):=by
     show gN y.data.toList=v
     unfold oG at hv;unfold gN;cases h:Lib.atoiAll y.data.toList with
     | ok u=>rw[h] at hv;injection hv
     | «syntax»=>rw[h] at hv;cases hv
     | range=>rw[h] at hv;cases hv
    rw[HVN.o];clear hv HVN;go_wp2_with (at_builtin;refine wpList_append_own _ (by rfl) _ _ _ (by rfl) w2.heap.size 3 i0 _ 1 8 Tryz.underlying61 HI.o.1 HI.o.2.1 HI.o.2.2.1 HI.o.2.2.2 (by rfl) (by decide) _ k (bV L) (by rfl) (World.ownsRow.alloc a4w.o _) ⟨w4.heap.size,0,none⟩ 1 1 [.int .i64 v] (by rfl) (by rfl) (World.news_of_block (heap_alloc_new w4 _)) (by simp[Value.oneCell']) (by unfold maxLen;omega) (by omega) (by have:=fO.o.size;simp;omega) ?_;intro x' w5 hown1 hgrow _)
    have pK:Hid (w5.ownsRow w2.heap.size 3 1 x' (k+1) (bV (L++[v]))):=by
     show World.ownsRow _ _ _ _ _ _ _
     rw[show bV (L++[v])=bV L++[.int .i64 v] from by simp[bV]];exact hown1
    have rq:Hid (Since w2 w5):=Below.grown (Since.alloc fO.o _) hgrow (by have:=fO.o.size;simp;omega) (fun j hj=>(a4w.o.lt j hj).1);clear hown1 hgrow;go_roundw
    case rel=>exact⟨k+1,L++[v],by omega,by go_num,HE.o,by simp[HLK.o],pK.o,rq.o⟩
    case measure=>simp[intOf];omega
   have HN:Hid (gJ t.data.toList=none):=by
    have h1:eZ (R.map (fun x=>x.data.toList))=none:=EB _ (k+1) (by
     rw[←List.map_take,HT.o,uo,HNU.o,hv])
    show gJ t.data.toList=none
    rw[HRP.o]
    match R,HR1.o,h1 with
    | z::r,_,h1=>
     rw[List.map_cons] at h1;simp only[List.map_cons,qj,HNM.o,if_true,h1]
   have VH:Hid (aA w4 w.heap.size 3 (fun j=>(#[.string ⟨#[]⟩,.int .i64 0,.slice none 0 0]:Array Value).getD j undef)):=jm.o.since (HS2.o.trans fO.o);have b0:=VH.o.cell 0 (by omega);have b1:=VH.o.cell 1 (by omega);have b2:=VH.o.cell 2 (by omega);have f0:=VH.o.frozen 0 (by omega);have f1:=VH.o.frozen 1 (by omega);have f2:=VH.o.frozen 2 (by omega);have HF:Hid (aA (((w4.setCell ⟨w.heap.size,0,none⟩ (.string ⟨#[]⟩)).setCell ⟨w.heap.size,1,none⟩ (.int .i64 0)).setCell ⟨w.heap.size,2,none⟩ (.slice none 0 0)) w.heap.size 3 (fun j=>(#[.string ⟨#[]⟩,.int .i64 0,.slice none 0 0]:Array Value).getD j undef)):=yn VH.o _ _ _;clear hv;go_wp2_with fail
   refine bodyPost_ret (aR Tryz.results97 _ _ _ w.heap.size _ _ _ (by rfl) (oK HF.o) Tryz.underlying129 (by rfl) (by kernel_rfl) rfl) rfl ?_;exact⟨Or.inr ⟨HN.o,rfl⟩,(((cK.o.trans (HS2.o.trans fO.o)).setCell (p:=⟨w.heap.size,0,none⟩) (Nat.le_refl _) _).setCell (p:=⟨w.heap.size,1,none⟩) (Nat.le_refl _) _).setCell (p:=⟨w.heap.size,2,none⟩) (Nat.le_refl _) _⟩
  have hke:k=R.length:=by omega
  subst hke;have hnu:=HNU.o;rw[List.take_length] at hnu;obtain⟨v,M,hLM⟩:∃v M,L=v::M:=by
   cases L with
   | nil=>have:=HLK.o;have:=HR1.o;simp at *;omega
   | cons v M=>exact⟨v,M,rfl⟩
  subst hLM;have HN:Hid (gJ t.data.toList=some ⟨x,v,M⟩):=by
   show gJ t.data.toList=_
   rw[HRP.o]
   match R,HR1.o,hnu with
   | z::r,_,h1=>
    rw[List.map_cons] at h1;simp only[List.map_cons,qj,HNM.o,if_true,h1]
  clear hnu;obtain⟨g,cap,rfl⟩:∃g cap,u5=.slice (some ⟨g,0,none⟩) R.length cap:=by
   rcases HOW.o.2 with⟨_,h⟩ | ⟨g,cap,cur,h,_⟩
   ·have:=HR1.o;omega
   exact⟨g,cap,h⟩
  have HCG:Hid (R.length≤cap):=by
   rcases HOW.o.2 with⟨_,h⟩ | ⟨g',cap',cur,h,_,_,h3,_⟩
   ·have:=HR1.o;show R.length≤cap;omega
   injection h with _ _ h;show R.length≤cap;omega
  have Zy:Hid (∀W,Since wr W→∀(j:Nat) (y:Int),(v::M)[j]?=some y→W.cell? ⟨g,j,none⟩=some (.int .i64 y)):=fun W hW j y hy=>by
   have hj:=(List.getElem?_eq_some_iff.1 hy).1;have h1:=(bf HOW.o hW).cellAt j (by have:=HLK.o;omega);rw[h1];simp only[bV,List.getElem?_map,hy]
   rfl
  have HQ0:Hid (wr.cell? ⟨w1.heap.size,0,none⟩=some (.string x)):=(ed.o.cell (p:=⟨w1.heap.size,0,none⟩) (World.block_lt_of_cell? _ _ q0)).trans q0;have VH:Hid (aA wr w.heap.size 3 (fun j=>(#[.string ⟨#[]⟩,.int .i64 0,.slice none 0 0]:Array Value).getD j undef)):=jm.o.since (HS2.o.trans ed.o);have a4x:=fI x (by omega);have TF:=hid a4x;clear a4x q0;have g1:(0:Int)<R.length:=by have:=HR1.o;omega
  have hRn:¬R=[]:=by intro e;have:=HR1.o;rw[e] at this;simp at this
  have b3C:R.length≠0:=by have:=HR1.o;omega
  have b3D:0<R.length:=by have:=HR1.o;omega
  have g2:(1:Int)≤R.length:=by have:=HR1.o;omega
  have g3:(R.length:Int)≤cap:=by have:=HCG.o;omega
  have g4:(1:Int)≤cap:=by omega
  have hgw:w2.heap.size≤g:=by
   rcases HOW.o.2 with⟨h,_⟩ | ⟨g',cap',cur,h,h2,_⟩
   ·cases h
   injection h with h;injection h with h;injection h with h;omega
  have b3E:w.heap.size<w1.heap.size:=jm.o.lt (by omega);have kQ:Hid (∀W,Since wr W→W.cell? ⟨w1.heap.size,0,none⟩=some (.string x)∧W.cell? ⟨g,0,none⟩=some (.int .i64 v)):=fun W hW=>⟨(hW.cell (p:=⟨w1.heap.size,0,none⟩) (World.block_lt_of_cell? _ _ HQ0.o)).trans HQ0.o,Zy.o W hW 0 v rfl⟩
  have Ca:=HS2.o.size;have HST:Hid (∀W a b c,Since wr W→(((W.setCell ⟨w.heap.size,0,none⟩ a).setCell ⟨w.heap.size,1,none⟩ b).setCell ⟨w.heap.size,2,none⟩ c).cell? ⟨w1.heap.size,0,none⟩=some (.string x)∧(((W.setCell ⟨w.heap.size,0,none⟩ a).setCell ⟨w.heap.size,1,none⟩ b).setCell ⟨w.heap.size,2,none⟩ c).cell? ⟨g,0,none⟩=some (.int .i64 v)):=fun W a b c hW=>by
   have h:=kQ.o W hW;constructor
   ·rw[World.cell?_setCell_other _ _ _ _ (by intro e;injection e with e1;omega),World.cell?_setCell_other _ _ _ _ (by intro e;injection e with e1;omega),World.cell?_setCell_other _ _ _ _ (by intro e;injection e with e1;omega)];exact h.1
   rw[World.cell?_setCell_other _ _ _ _ (by intro e;injection e with e1;omega),World.cell?_setCell_other _ _ _ _ (by intro e;injection e with e1;omega),World.cell?_setCell_other _ _ _ _ (by intro e;injection e with e1;omega)];exact h.2
  have HGB:Hid (∀W a b c,Since wr W→∃cur fz,(((W.setCell ⟨w.heap.size,0,none⟩ a).setCell ⟨w.heap.size,1,none⟩ b).setCell ⟨w.heap.size,2,none⟩ c).heap[g]?=some (.cells cur 3 fz)):=fun W a b c hW=>by
   rcases HOW.o.2 with⟨h,_⟩ | ⟨g',cap',cur,h,_,h3,_⟩
   ·cases h
   injection h with h
   injection h with h
   injection h with h
   subst h;refine⟨cur,(0,0),?_⟩;rw[Below.heap_setCell _ _ _ _ (by show g≠w.heap.size;omega),Below.heap_setCell _ _ _ _ (by show g≠w.heap.size;omega),Below.heap_setCell _ _ _ _ (by show g≠w.heap.size;omega),hW.block g (bO h3)];exact h3
  have hML:M.length=R.length-1:=by have:=HLK.o;simp at this;omega
  have hgs:g<wr.heap.size:=World.block_lt_of_cell? _ _ (kQ.o wr (Since.refl _)).2;by_cases hc1:cap=1
  ·have DY:Hid (∀W a b c,Since wr W→Ints (((W.setCell ⟨w.heap.size,0,none⟩ a).setCell ⟨w.heap.size,1,none⟩ b).setCell ⟨w.heap.size,2,none⟩ c) (.slice (some ⟨g,0,none⟩) (R.length-1) 0) M):=fun W a b c hW=>⟨_,_,by rw[hML],by have:=HCG.o;omega,fun h=>by have:=HCG.o;omega⟩
   clear hML;go_upto_region 13 with fail
   go_region_held3 (fun W=>W.cell? ⟨w1.heap.size,0,none⟩=some (.string x)∧W.cell? ⟨g,0,none⟩=some (.int .i64 v)) (first | exact kQ.o _ (Since.refl _) | exact kQ.o _ (Since.refl _).drew | exact kQ.o _ (((Since.refl _).drew).trans h5) | exact HST.o _ _ _ _ (((Since.refl _).drew).trans h5)) (first
    | (go_simp;go_at_call 49;refine(TF.o _).mono ?_;rintro e w5 ⟨rfl,h5⟩;have zN:=VH.o.since (((Since.refl _).drew).trans h5);have b0:=zN.cell 0 (by omega);have b1:=zN.cell 1 (by omega);have b2:=zN.cell 2 (by omega);have f0:=zN.frozen 0 (by omega);have f1:=zN.frozen 1 (by omega);have f2:=zN.frozen 2 (by omega);dsimp only))
   all_goals
    have HF:=yn zN (.string x) (.int .i64 v) (.slice (some ⟨g,0,none⟩) (R.length-1) 0);have jX:Since w w5:=(cK.o.trans (HS2.o.trans ed.o)).trans (((Since.refl _).drew).trans h5);have HI5:=DY.o w5 (.string x) (.int .i64 v) (.slice (some ⟨g,0,none⟩) (R.length-1) 0) (((Since.refl _).drew).trans h5);clear b0 b1 b2 f0 f1 f2;go_wp2_with fail
    refine bodyPost_ret (aR Tryz.results97 _ _ _ w.heap.size _ _ _ (by rfl) (oK HF) Tryz.underlying129 (by rfl) (by kernel_rfl) rfl) rfl ?_;exact⟨Or.inl ⟨⟨x,v,M⟩,_,HN.o,rfl,HI5,fun k o n c e=>by injection e with e;injection e with e;injection e with e;subst e;exact⟨by omega,HGB.o _ _ _ _ (((Since.refl _).drew).trans h5)⟩⟩,((jX.setCell (p:=⟨w.heap.size,0,none⟩) (Nat.le_refl _) _).setCell (p:=⟨w.heap.size,1,none⟩) (Nat.le_refl _) _).setCell (p:=⟨w.heap.size,2,none⟩) (Nat.le_refl _) _⟩
  have DY:Hid (∀W a b c,Since wr W→Ints (((W.setCell ⟨w.heap.size,0,none⟩ a).setCell ⟨w.heap.size,1,none⟩ b).setCell ⟨w.heap.size,2,none⟩ c) (.slice (some ⟨g,1,none⟩) (R.length-1) (cap-1)) M):=fun W a b c hW=>⟨_,_,by rw[hML],by have:=HCG.o;omega,fun h=>⟨g,1,rfl,by have:=hW.size;simp;omega,fun j y hy=>by
   rw[World.cell?_setCell_other _ _ _ _ (by intro e;injection e with e1;omega),World.cell?_setCell_other _ _ _ _ (by intro e;injection e with e1;omega),World.cell?_setCell_other _ _ _ _ (by intro e;injection e with e1;omega)];rw[Nat.add_comm];exact Zy.o W hW (j+1) y (by simpa using hy)⟩⟩
  clear hML;go_upto_region 13 with fail
  go_region_held3 (fun W=>W.cell? ⟨w1.heap.size,0,none⟩=some (.string x)∧W.cell? ⟨g,0,none⟩=some (.int .i64 v)) (first | exact kQ.o _ (Since.refl _) | exact kQ.o _ (Since.refl _).drew | exact kQ.o _ (((Since.refl _).drew).trans h5) | exact HST.o _ _ _ _ (((Since.refl _).drew).trans h5)) (first
   | (go_simp;go_at_call 49;refine(TF.o _).mono ?_;rintro e w5 ⟨rfl,h5⟩;have zN:=VH.o.since (((Since.refl _).drew).trans h5);have b0:=zN.cell 0 (by omega);have b1:=zN.cell 1 (by omega);have b2:=zN.cell 2 (by omega);have f0:=zN.frozen 0 (by omega);have f1:=zN.frozen 1 (by omega);have f2:=zN.frozen 2 (by omega);dsimp only))
  all_goals
   have HF:=yn zN (.string x) (.int .i64 v) (.slice (some ⟨g,1,none⟩) (R.length-1) (cap-1));have jX:Since w w5:=(cK.o.trans (HS2.o.trans ed.o)).trans (((Since.refl _).drew).trans h5);have HI5:=DY.o w5 (.string x) (.int .i64 v) (.slice (some ⟨g,1,none⟩) (R.length-1) (cap-1)) (((Since.refl _).drew).trans h5);clear b0 b1 b2 f0 f1 f2;go_wp2_with fail
   refine bodyPost_ret (aR Tryz.results97 _ _ _ w.heap.size _ _ _ (by rfl) (oK HF) Tryz.underlying129 (by rfl) (by kernel_rfl) rfl) rfl ?_;exact⟨Or.inl ⟨⟨x,v,M⟩,_,HN.o,rfl,HI5,fun k o n c e=>by injection e with e;injection e with e;injection e with e;subst e;exact⟨by omega,HGB.o _ _ _ _ (((Since.refl _).drew).trans h5)⟩⟩,((jX.setCell (p:=⟨w.heap.size,0,none⟩) (Nat.le_refl _) _).setCell (p:=⟨w.heap.size,1,none⟩) (Nat.le_refl _) _).setCell (p:=⟨w.heap.size,2,none⟩) (Nat.le_refl _) _⟩
end En
end
section
namespace En
open Go.RowKit
theorem ED {w:World}{b b':Nat}{t:TypeId}{sz n:Nat}{v:Value}{xs:List Value}(h:w.ownsRow b t sz v n xs)(hb:b'≤b):w.ownsRow b' t sz v n xs:=by
 refine⟨h.1,?_⟩;rcases h.2 with h2 | ⟨g,cap,cur,hv,h3,rest⟩
 ·exact .inl h2
 exact .inr ⟨g,cap,cur,hv,Nat.le_trans hb h3,rest⟩
theorem Jz:mZ=(List.range 21).map (fun (i:Nat)=>(i:Int)+3):=by decide
def eD (A:List Int)(k:Nat):List Int:=((List.range k).map (fun (i:Nat)=>(i:Int)+3)).filter (fun c=>!(decide (c ∈ A)))
theorem Ar (l:List Fi):eD (bi l) 21=bD l:=by
 unfold eD bD;rw[Jz]
theorem EE {A:List Int}{k:Nat}(h:(k:Int)+3 ∈ A):eD A (k+1)=eD A k:=by
 unfold eD;rw[List.range_succ,List.map_append,List.filter_append];simp[h]
theorem Au {A:List Int}{k:Nat}(h:(k:Int)+3 ∉ A):eD A (k+1)=eD A k++[(k:Int)+3]:=by
 unfold eD;rw[List.range_succ,List.map_append,List.filter_append];simp[h]
theorem Av (A:List Int)(k:Nat):(eD A k).length≤k:=by
 unfold eD;refine Nat.le_trans (List.length_filter_le _ _) (by simp)
theorem Aw (l:List Fi)(k:Nat)(f:Fi)(h:l[k]?=some f):bi (l.take (k+1))=bi (l.take k)++f.cs:=by
 rw[List.take_add_one,h];simp[bi]
theorem JA (l:List Fi)(k:Nat)(f:Fi)(h:l[k]?=some f):bi l=bi (l.take k)++(f.cs++bi (l.drop (k+1))):=by
 have hk:=(List.getElem?_eq_some_iff.1 h).1;have e:l=l.take k++(f::l.drop (k+1)):=by
  rw[←(List.getElem?_eq_some_iff.1 h).2,List.getElem_cons_drop];exact(List.take_append_drop k l).symm
 have:bi (l.take k++(f::l.drop (k+1)))=bi (l.take k)++(f.cs++bi (l.drop (k+1))):=by simp[bi]
 rw[←e] at this;exact this
theorem yo {l:List Fi}(hn:(bi l).Nodup){k j:Nat}{f:Fi}{c:Int}(h:l[k]?=some f)(hj:f.cs[j]?=some c):c ∉ bi (l.take k)++f.cs.take j:=by
 have e:=JA l k f h;rw[e] at hn;have hjl:=(List.getElem?_eq_some_iff.1 hj).1;have e2:f.cs=f.cs.take j++(c::f.cs.drop (j+1)):=by
  rw[←(List.getElem?_eq_some_iff.1 hj).2,List.getElem_cons_drop];exact(List.take_append_drop j _).symm
 rw[e2,←List.append_assoc,←List.append_assoc] at hn;have h1:=(List.nodup_append.1 ((List.nodup_append.1 hn).1)).2.2;intro hm;exact h1 c hm c (by simp) rfl
theorem lM (l:List Fi)(v:Value)(w:World)(hl:fA w v l)(hr:right l=true) :
  Calls Tryz.prog 45 #[v] w fun e w'=>∃x,e=.returned x∧w'.ownsRow w.heap.size 3 1 x (bD l).length (bV (bD l))∧Since w w':=by
 obtain⟨a,c,rfl,hcap,hrest⟩:=hl;have HL:Hid (fA w (.slice a l.length c) l):=⟨a,c,rfl,hcap,hrest⟩
 have hr2:=hr;rw[right,Bool.and_eq_true,decide_eq_true_eq] at hr2;have Cw:=hr2.1;have HN:Hid ((∀c,c ∈ bi l→3≤c∧c<24)∧(bi l).Nodup):=by
  obtain⟨h1,h2,_⟩:=gZ l _ _ hr2.2;exact⟨h1,h2⟩
 have HG:=hid (fw hr);clear hrest hr hr2;have hmm:=@run_makeMap Tryz.prog;have HM:=hid ((MapKept.heap_alloc w (.map #[] 0)).1);have qI:Hid (Since w (w.alloc (.map #[] 0))):=(Since.refl _).alloc _;go_enter Tryz.func45,Tryz.ntmps45
 go_upto_region 2 with fail
 clear hmm;generalize w.alloc (.map #[] 0)=w0 at *;go_wp2_with fail
 go_loopw [15,5,7] (fun i _ _ wr=>∃k:Nat,k≤l.length∧i=.int .i64 k∧aS wr w.heap.size (.agg #[]) (bi (l.take k))∧Since w wr) (fun i _ _ _=>l.length-(intOf i).toNat)
 case atStart=>exact⟨0,by omega,rfl,HM.o,qI.o⟩
 obtain⟨k,hk,rfl,hset,hs⟩:=hrel;have jl:=hid hset;have HS:=hid hs;clear hset hs;by_cases hlt:k<l.length
 ·have hlt2:(k:Int)<l.length:=by omega
  have hE:Hid (l[k]?=some l[k]):=List.getElem?_eq_getElem hlt;have Pn:=hid (HG.o l[k] (List.getElem_mem hlt));have HAT:=hid (Aw l k l[k] hE.out);have Qz:Hid (∀j c,l[k].cs[j]?=some c→c ∉ bi (l.take k)++l[k].cs.take j):=fun j c hj=>yo HN.o.2 hE.out hj
  generalize l[k]=f at *;obtain⟨kb,ko,cv,rfl,hi,hkb,q0,q1,q2⟩:=(HL.o.since HS.o).at_ hE.out;have HI:=hid hi;clear hi;obtain⟨ca,cc,rfl⟩:∃ca cc,cv=.slice ca f.cs.length cc:=by
   obtain⟨ca,cc,h,_⟩:=HI.o;exact⟨ca,cc,h⟩
  have kN:Hid (Since wr (wr.alloc (.cells #[.string f.nm,.int .i64 f.sz,.slice ca f.cs.length cc] 129))):=(Since.refl _).alloc _;have hcl:=Pn.o.Am;go_wp2_with fail
  have EF:=hid (jl.o.since kN.o);have HI1:=hid (HI.o.since kN.o);have cK:=hid (HS.o.trans kN.o);clear q0 q1 q2 kN HI jl HS;generalize wr.alloc (.cells #[.string f.nm,.int .i64 f.sz,.slice ca f.cs.length cc] 129)=w1 at *;go_loopw [22,7] (fun i _ wq=>∃j:Nat,j≤f.cs.length∧i=.int .i64 j∧aS wq w.heap.size (.agg #[]) (bi (l.take k)++f.cs.take j)∧Ints wq (.slice ca f.cs.length cc) f.cs∧Since w wq) (fun i _ _=>f.cs.length-(intOf i).toNat)
  case atStart=>exact⟨0,by omega,rfl,by simpa using EF.o,HI1.o,cK.o⟩
  obtain⟨j,hj,rfl,hset,hi,hs⟩:=hrel;have jl:=hid hset;have HI:=hid hi;have HS:=hid hs;clear hset hi hs;by_cases hjl:j<f.cs.length
  ·have Xt:(j:Int)<f.cs.length:=by omega
   obtain⟨a',c',hv,_,h2⟩:=HI.o;obtain⟨ib,io,ha,_,hcell⟩:=h2 (by omega);injection hv with e1 e2 e3
   subst e1;subst ha;have q:=hcell j f.cs[j] (List.getElem?_eq_getElem hjl);have TG:=Qz.o j f.cs[j] (List.getElem?_eq_getElem hjl);have hrg:=Pn.o.cell f.cs[j] (List.getElem_mem hjl);have HE:Hid (bi (l.take k)++f.cs.take (j+1)=bi (l.take k)++f.cs.take j++[f.cs[j]]):=by
    show bi (l.take k)++f.cs.take (j+1)=_
    rw[lW _ _ hjl];simp
   clear hcell h2 e2 e3;generalize f.cs[j]=x at *;have hfc:=sF x;rw[show fV x=true by unfold fV;simp;omega] at hfc;have hup:=xZ wr w.heap.size _ x jl.o TG;clear TG;go_wp2_with (go_at_call 104;refine(hfc _).mono ?_;rintro e w' ⟨rfl,rfl⟩)
   go_roundw
   case rel=>exact⟨j+1,by omega,by go_num,by rw[HE.o];simp only[List.append_assoc];exact sG jl.o,HI.o.fr jl.o (jM _ _ _ _),Fr.since (jM _ _ _ _) HS.o (Nat.le_refl _) (fun k e=>by cases e)⟩
   case measure=>simp[intOf];omega
  have JB:j=f.cs.length:=by omega
  subst JB;rw[List.take_length] at jl;have TH:Hid (aS wr w.heap.size (.agg #[]) (bi (l.take (k+1)))):=by
   show aS wr _ _ (bi (l.take (k+1)))
   rw[HAT.o];exact jl.o
  go_wp2_with fail
  go_roundw
  case rel=>exact⟨k+1,by omega,by go_num,TH.o,HS.o⟩
  case measure=>simp[intOf];omega
 have hke:k=l.length:=by omega
 subst hke;rw[List.take_length] at jl;obtain⟨i0,hi,hz0,hz1,hz2⟩:=info_parts info3';have HI:=hid (an hi (an hz0 (an hz1 hz2)));clear hi hz0 hz1 hz2;have Oj:=hid (Ar l);have TI:=hid jl.o;generalize bi l=A at *;go_wp2_with fail
 go_loopw [9,8,10,11] (fun i x _ _ wq=>∃k:Nat,k≤21∧i=.int .i64 ((k:Int)+3)∧wq.ownsRow (w.heap.size+1) 3 1 x (eD A k).length (bV (eD A k))∧aS wq w.heap.size (.agg #[]) A∧Since w wq) (fun i _ _ _ _=>24-(intOf i).toNat)
 case atStart=>exact⟨0,by omega,rfl,World.ownsRow_nil _ _ _ _,TI.o,HS.o⟩
 obtain⟨k,hk,rfl,hown,hset,hs⟩:=hrel;have HOW:=hid hown;have yt:=hid hset;have HSk:=hid hs;clear hown hset hs;have hfl:=Av A k;by_cases h21:k<21
 ·have a7B:(k:Int)+3<24:=by omega
  have Xm:=xY wr w.heap.size A ((k:Int)+3) yt.o;by_cases hin:(k:Int)+3 ∈ A
  ·rw[decide_eq_true hin] at Xm;have HE:=hid (EE hin);clear hin;go_wp2_with fail
   go_roundw
   case rel=>exact⟨k+1,by omega,by go_num,by rw[HE.o];exact HOW.o.alloc _,yt.o.since ((Since.refl _).alloc _),HSk.o.alloc _⟩
   case measure=>simp[intOf];omega
  rw[decide_eq_false hin] at Xm;have HE:=hid (Au hin);have HOA:Hid ((wr.alloc (.cells #[] 184)).ownsRow (w.heap.size+1) 3 1 u8 (eD A k).length (bV (eD A k))):=HOW.o.alloc _;have kN:Hid (Since w (wr.alloc (.cells #[] 184))):=HSk.o.alloc _;have HSE:Hid (aS (wr.alloc (.cells #[] 184)) w.heap.size (.agg #[]) A):=yt.o.since ((Since.refl _).alloc _);clear hin;go_upto_region 18 with fail
  generalize wr.alloc (.cells #[] 184)=wa at *;clear Xm;have hsl:=HSE.o.lt;go_wp2_with (at_builtin;refine wpList_append_own _ (by rfl) _ _ _ (by rfl) (w.heap.size+1) 3 i0 _ 1 8 Tryz.underlying61 HI.o.1 HI.o.2.1 HI.o.2.2.1 HI.o.2.2.2 (by rfl) (by decide) _ (eD A k).length (bV (eD A k)) (by rfl) (World.ownsRow.alloc HOA.o _) ⟨wa.heap.size,0,none⟩ 1 1 [.int .i64 ((k:Int)+3)] (by rfl) (by rfl) (World.news_of_block (heap_alloc_new wa _)) (by simp[Value.oneCell']) (by unfold maxLen;omega) (by omega) (by simp;omega) ?_;intro x' w3 hown1 hgrow _)
  have pK:Hid (w3.ownsRow (w.heap.size+1) 3 1 x' (eD A (k+1)).length (bV (eD A (k+1)))):=by
   show World.ownsRow _ _ _ _ _ _ _
   rw[HE.o,List.length_append,show bV (eD A k++[(k:Int)+3])=bV (eD A k)++[.int .i64 ((k:Int)+3)] from by simp[bV]];exact hown1
  have HB1:Hid (Below (w.heap.size+1) wa w3):=Below.grown (Below.alloc (Below.refl _ wa) (by omega) _) hgrow (by simp;omega) (fun j hj=>(HOA.o.lt j hj).1);have rq:Hid (Since w w3):=Below.trans (show Below w.heap.size w wa from kN.o) (Below.mono HB1.o (Nat.le_succ _));have a0s:Hid (aS w3 w.heap.size (.agg #[]) A):=(HB1.o.block w.heap.size (Nat.lt_succ_self _)).trans HSE.o;clear hown1 hgrow;go_roundw
  case rel=>exact⟨k+1,by omega,by go_num,pK.o,a0s.o,rq.o⟩
  case measure=>simp[intOf];omega
 have hke:k=21:=by omega
 subst hke;rw[Oj.o] at HOW;go_wp2_with fail
 go_ret;exact⟨_,rfl,ED HOW.o (Nat.le_succ _),HSk.o⟩
end En
end
section
namespace En
open Go.RowKit
theorem Ints.form' {w:World}{v:Value}{l:List Int}(h:Ints w v l):∃a c,v=.slice a l.length c:=by
 obtain⟨a,c,h,_⟩:=h;exact⟨a,c,h⟩
theorem fA.form {w:World}{v:Value}{l:List Fi}(h:fA w v l):∃a c,v=.slice a l.length c∧l.length≤c:=by
 obtain⟨a,c,h,h2,_⟩:=h;exact⟨a,c,h,h2⟩
theorem fq (n lo hi:Int)(w:World):Calls Tryz.prog 110 #[.int .i64 n,.int .i64 lo,.int .i64 hi] w fun e w'=>e=.returned (.bool (decide (lo≤n)&&decide (n≤hi)))∧w'=w:=by
 by_cases h:lo≤n
 ·go_enter Tryz.func110,Tryz.ntmps110
  go_wp2_with fail
  go_ret;exact⟨by simp[h],rfl⟩
 go_enter Tryz.func110,Tryz.ntmps110
 go_wp2_with fail
 go_ret;exact⟨by simp[h];intro h2;omega,rfl⟩
theorem Ay (n:Int)(h:-9223372036854775808≤n∧n≤9223372036854775807)(w:World):Calls Tryz.prog 53 #[.int .i64 n] w fun e w'=>e=.returned (.int .i64 (need n))∧w'=w:=by
 unfold need;by_cases h0:n≤0
 ·rw[if_pos h0];go_enter Tryz.func53,Tryz.ntmps53
  go_wp2_with fail
  go_ret;exact⟨rfl,rfl⟩
 rw[if_neg h0];go_enter Tryz.func53,Tryz.ntmps53
 go_wp2_with fail
 go_ret;exact⟨rfl,rfl⟩
def yu (i:Nat)(b:UInt8):Bool:=isLet b||(decide (i≠0)&&gI b)
theorem TJ (s:ByteArray)(h:∀(i:Nat) (hi:i<s.size),yu i s[i]=true):aI s.data.toList=(decide ((1:Int)≤(s.size:Nat))&&decide (((s.size:Nat):Int)≤10)):=by
 by_cases h0:1≤s.size∧s.size≤10
 ·have h1:aI s.data.toList=true:=(pU s).2 ⟨by omega,by omega,by simpa [yu] using h 0 (by omega),fun i hi=>by
   have:=h i hi;unfold yu at this;cases hl:isLet s[i] with
   | true=>rfl
   | false=>
    rw[hl,Bool.false_or,Bool.and_eq_true] at this;rw[this.2]
    rfl⟩
  rw[h1,decide_eq_true (by omega),decide_eq_true (by omega)];rfl
 have h1:aI s.data.toList=false:=by
  cases hq:aI s.data.toList with
  | false=>rfl
  | true=>
   obtain⟨a,b,_⟩:=(pU s).1 hq;omega
 rw[h1];by_cases h2:1≤s.size
 ·rw[decide_eq_true (show (1:Int)≤(s.size:Nat) by omega),decide_eq_false (by omega)];rfl
 rw[decide_eq_false (show ¬(1:Int)≤(s.size:Nat) by omega)];rfl
theorem Po (s:ByteArray)(i:Nat)(hi:i<s.size)(h:yu i s[i]=false):aI s.data.toList=false:=by
 cases hq:aI s.data.toList with
 | false=>rfl
 | true=>
  obtain⟨a,b,c,d⟩:=(pU s).1 hq;unfold yu at h;have h1:=d i hi;by_cases h0:i=0
  ·subst h0;rw[c] at h;cases h
  rw[decide_eq_true h0,Bool.true_and,h1] at h;cases h
theorem Az (s:ByteArray)(hs:s.size≤100000)(w:World):Calls Tryz.prog 50 #[.string s] w fun e w'=>e=.returned (.bool (aI s.data.toList))∧w'=w:=by
 go_enter Tryz.func50,Tryz.ntmps50
 go_wp2_with fail
 go_loopw [7,3,4] (fun i _ _ wr=>∃k:Nat,k≤s.size∧i=.int .i64 k∧(∀(j:Nat) (hj:j<s.size),j<k→yu j s[j]=true)∧wr=w) (fun i _ _ _=>s.size-(intOf i).toNat)
 case atStart=>exact⟨0,by omega,rfl,fun j _ hj=>by omega,rfl⟩
 obtain⟨k,hk,rfl,ha,rfl⟩:=hrel;have HA:=hid ha;clear ha;by_cases hlt:k<s.size
 ·have hlt2:(k:Int)<(s.size:Nat):=by omega
  have HBAD:=hid (Po s k hlt);have HNX:Hid (yu k s[k]=true→∀(j:Nat) (hj:j<s.size),j<k+1→yu j s[j]=true):=fun h j hj hjk=>by
   by_cases e:j=k
   ·subst e;exact h
   exact HA.o j hj (by omega)
  have cO:Hid (yu k s[k]=(isLet s[k]||(decide (k≠0)&&gI s[k]))):=rfl;generalize hb:s[k]=b at *;by_cases h1:97≤b.toNat
  ·have h1I:(97:Int)≤(b.toNat:Int):=by omega
   by_cases h2:b.toNat≤122
   ·have h2I:(b.toNat:Int)≤122:=by omega
    have hok:yu k b=true:=by rw[cO.o];simp[isLet,h1,h2]
    have HN2:=HNX.o hok;have HN3:=hid HN2;clear HN2 hok;go_wp2_with fail
    go_roundw
    case rel=>exact⟨k+1,by omega,by go_num,HN3.o,trivial⟩
    case measure=>simp[intOf];omega
   have h2I:¬(b.toNat:Int)≤122:=by omega
   by_cases hk0:k=0
   ·subst hk0;have HF:Hid (aI s.data.toList=false):=HBAD.o (by rw[cO.o];simp[isLet,h2]);go_wp2_with fail
    go_ret;exact⟨by rw[HF.o];rfl,rfl⟩
   have a7D:((k:Int)==0)=false:=beq_false_of_ne (by omega);have h3I:(48:Int)≤(b.toNat:Int):=by omega
   have h4I:¬(b.toNat:Int)≤57:=by omega
   have h4:¬b.toNat≤57:=by omega
   have HF:Hid (aI s.data.toList=false):=HBAD.o (by rw[cO.o];simp[isLet,gI,h2,h4]);go_wp2_with fail
   go_ret;exact⟨by rw[HF.o];rfl,rfl⟩
  have h1I:¬(97:Int)≤(b.toNat:Int):=by omega
  by_cases hk0:k=0
  ·subst hk0;have HF:Hid (aI s.data.toList=false):=HBAD.o (by rw[cO.o];simp[isLet,h1]);go_wp2_with fail
   go_ret;exact⟨by rw[HF.o];rfl,rfl⟩
  have a7D:((k:Int)==0)=false:=beq_false_of_ne (by omega);by_cases h3:48≤b.toNat
  ·have h3I:(48:Int)≤(b.toNat:Int):=by omega
   by_cases h4:b.toNat≤57
   ·have h4I:(b.toNat:Int)≤57:=by omega
    have HN3:Hid (∀(j:Nat) (hj:j<s.size),j<k+1→yu j s[j]=true):=HNX.o (by rw[cO.o];simp[isLet,gI,h1,h3,h4,hk0]);go_wp2_with fail
    go_roundw
    case rel=>exact⟨k+1,by omega,by go_num,HN3.o,trivial⟩
    case measure=>simp[intOf];omega
   have h4I:¬(b.toNat:Int)≤57:=by omega
   have HF:Hid (aI s.data.toList=false):=HBAD.o (by rw[cO.o];simp[isLet,gI,h1,h4]);go_wp2_with fail
   go_ret;exact⟨by rw[HF.o];rfl,rfl⟩
  have h3I:¬(48:Int)≤(b.toNat:Int):=by omega
  have HF:Hid (aI s.data.toList=false):=HBAD.o (by rw[cO.o];simp[isLet,gI,h1,h3]);go_wp2_with fail
  go_ret;exact⟨by rw[HF.o];rfl,rfl⟩
 have hke:k=s.size:=by omega
 have HB:=hid (TJ s (fun i hi=>HA.o i hi (by omega)));subst hke;go_wp2_with fail
 refine(fq _ _ _ _).mono ?_;rintro e w1 ⟨rfl,hw⟩;subst hw;go_wp2_with fail
 go_ret;exact⟨by rw[HB.o];rfl,rfl⟩
theorem Pp (w:World)(r:Nat)(L:List Int)(p:Int)(hb:aS w r (.bool true) L) :
  (Instr.lookup 191 (.map (some r)) (.int .i64 p) false).run Tryz.prog w=.ok (.bool (decide (p ∈ L))) w:=by
 unfold aS at hb;obtain⟨a,h1,h2,h4⟩:=oJ (.bool true) p L 0 0;have hc:∀em,(Instr.checkKey em 10000 3 (.int .i64 p)).run Tryz.prog w=.ok () w:=fun em=>MapKept.run_checkKey Tryz.underlying3 (by simp[MapKept.IsKey]) em 9999
 have hz:(zeroValue 4).run Tryz.prog w=.ok (.bool false) w:=Tryz.zeroValue4 w;by_cases h:p ∈ L
 ·obtain⟨n,rfl,_⟩:=h2 h;simp[Instr.lookup,run_underlying Tryz.underlying191,MapKept.run_getObj_map hb,hc,MapKept.run_findKey Tryz.underlying3 h1,h,hz,Result.andThen]
 obtain rfl:=h4 h;simp[Instr.lookup,run_underlying Tryz.underlying191,MapKept.run_getObj_map hb,hc,MapKept.run_findKey Tryz.underlying3 h1,h,hz,Result.andThen]
theorem MU (v:Value):∀(L:List Int) (i n:Nat) (p:Int),L[n]?=some p→(Eu v L i)[n]?=some { key:=.int .i64 p,val:=v,born:=i+n }
 | [],i,n,p,h=>by simp at h
 | q::r,i,0,p,h=>by simp at h;subst h;rfl
 | q::r,i,n+1,p,h=>by
  have:=MU v r (i+1) n p (by simpa using h);simp only[Eu,List.getElem?_cons_succ,this]
  congr 2
  omega
theorem AA (w:World)(r:Nat)(L:List Int)(p:Int)(hb:aS w r (.bool true) L) :
  (Instr.mapUpdate 191 (.map (some r)) (.int .i64 p) (.bool true)).run Tryz.prog w=.ok () (uQ w r (.bool true) (put L p)):=by
 unfold aS at hb;obtain⟨a,h1,h2,h4⟩:=oJ (.bool true) p L 0 0;have hc:∀em,(Instr.checkKey em 10000 3 (.int .i64 p)).run Tryz.prog w=.ok () w:=fun em=>MapKept.run_checkKey Tryz.underlying3 (by simp[MapKept.IsKey]) em 9999
 by_cases h:p ∈ L
 ·obtain⟨n,rfl,hn⟩:=h2 h;have hg:=MU (.bool true) L 0 n p hn;have hks:(Instr.keyThatStays (.int .i64 p) (.int .i64 p)).run Tryz.prog w=.ok (.int .i64 p) w:=by
   have hsb:Instr.sameBits 10000 (.int .i64 p) (.int .i64 p)=true:=by simp[Instr.sameBits]
   simp[Instr.keyThatStays,hsb]
  have hmod:(Eu (.bool true) L 0).modify n (fun e=>{ key:=.int .i64 p,val:=.bool true,born:=e.born })=Eu (.bool true) L 0:=by
   apply List.ext_getElem?
   intro i;rw[List.getElem?_modify];by_cases hi:n=i
   ·subst hi;simp[hg]
   simp[hi]
  simp[Instr.mapUpdate,run_underlying Tryz.underlying191,MapKept.run_getObj_map hb,hc,MapKept.run_findKey Tryz.underlying3 h1,MapKept.run_setObj_map _ hb,Result.andThen,uQ,put,h,hg,hks,hmod]
 obtain rfl:=h4 h;simp[Instr.mapUpdate,run_underlying Tryz.underlying191,MapKept.run_getObj_map hb,hc,MapKept.run_findKey Tryz.underlying3 h1,MapKept.run_setObj_map _ hb,Result.andThen,xX,uQ,put,h]
end En
end
section
namespace En
open Go.RowKit
theorem TK {b:Option ByteArray}{L:List Int}{n k:Nat}{l:List Fi}{f:Fi}(h:l[k]?=some f):vH b L n (l.drop k)=(if Qy b f=true∧f.cs.all fV=true then vH (some f.nm) (dN L f.cs) (n+f.cs.length) (l.drop (k+1)) else none):=by
 have hk:=(List.getElem?_eq_some_iff.1 h).1;have e:l.drop k=f::l.drop (k+1):=by
  rw[List.drop_eq_getElem_cons hk]
  congr 1
  exact(List.getElem?_eq_some_iff.1 h).2
 rw[e];rfl
theorem Ints.at' {w:World}{a:Option Addr}{c:Nat}{l:List Int}(h:Ints w (.slice a l.length c) l){j:Nat}{x:Int}(hj:l[j]?=some x):∃k o,a=some ⟨k,o,none⟩∧w.cell? ⟨k,o+j,none⟩=some (.int .i64 x):=by
 obtain⟨a',c',hv,hc,h⟩:=h;injection hv with e1 e2 e3
 subst e1 e3;have hjl:=(List.getElem?_eq_some_iff.1 hj).1;obtain⟨k,o,ha,hk,hh⟩:=h (by omega);exact⟨k,o,ha,hh j x hj⟩
def gP (l:List Fi)(k:Nat):Option ByteArray:=if k=0 then none else (l[k-1]?).map Fi.nm
theorem EG (L cs:List Int)(j:Nat)(c:Int)(h:cs[j]?=some c):dN L (cs.take (j+1))=put (dN L (cs.take j)) c:=by
 rw[List.take_add_one,h];unfold dN;rw[List.foldl_append]
 rfl
theorem yw (v:Value):∀(L:List Int) (i:Nat),(Eu v L i).length=L.length
 | [],_=>rfl
 | _::r,i=>by simp[Eu,yw v r (i+1)]
theorem a0t (w:World)(r:Nat)(L:List Int)(hb:aS w r (.bool true) L):(Builtin.len_ #[191] 3 #[.map (some r)]).run Tryz.prog w=.ok (.int .i64 L.length) w:=by
 unfold aS at hb;simp[Builtin.len_,run_underlying Tryz.underlying191,MapKept.run_getObj_map hb,yw,Result.andThen,go_sem]
theorem kE (l:List Fi)(v:Value)(w:World)(hl:fA w v l)(hz:lV l)(hn:l.length≤1000)(hcs:∀f,f ∈ l→f.cs.length≤1000∧f.nm.size≤100000) :
  Calls Tryz.prog 153 #[v] w fun e w'=>e=.returned (.bool (right l))∧Since w w':=by
 rw[←Js];obtain⟨a,c,rfl,hcap⟩:=hl.form;have HL:Hid (fA w (.slice a l.length c) l):=hl;have HZ:Hid (lV l):=hz;have BN:Hid (∀f,f ∈ l→f.cs.length≤1000∧f.nm.size≤100000):=hcs;clear hl hz hcs;have hmm:=@run_makeMap Tryz.prog;have HM:Hid (aS (w.alloc (.map #[] 0)) w.heap.size (.bool true) []):=(MapKept.heap_alloc w (.map #[] 0)).1;have qI:Hid (Since w (w.alloc (.map #[] 0))):=(Since.refl _).alloc _;have NN:Hid (mY l=(match vH none [] 0 l with | some (L,n)=>decide (L.length=n)&&decide (l.length≤8) | none=>false)):=rfl;go_enter Tryz.func153,Tryz.ntmps153
 go_upto_region 2 with fail
 clear hmm;generalize w.alloc (.map #[] 0)=w0 at *;go_wp2_with fail
 go_loopw [12,4,5,6,8] (fun i n _ _ _ wr=>∃(k N:Nat) (L:List Int),k≤l.length∧i=.int .i64 k∧n=.int .i64 N∧N≤1000*k∧vH none [] 0 l=vH (gP l k) L N (l.drop k)∧aS wr w.heap.size (.bool true) L∧Since w wr) (fun i _ _ _ _ _=>l.length-(intOf i).toNat)
 case atStart=>exact⟨0,0,[],by omega,rfl,rfl,by omega,by rw[List.drop_zero];rfl,HM.o,qI.o⟩
 obtain⟨k,N,L,hk,rfl,rfl,hN,hrr,hset,hs⟩:=hrel;have HRR:Hid (vH none [] 0 l=vH (gP l k) L N (l.drop k)):=hrr;have jl:Hid (aS wr w.heap.size (.bool true) L):=hset;have HS:Hid (Since w wr):=hs;clear hrr hset hs;by_cases hlt:k<l.length
 ·have hlt2:(k:Int)<l.length:=by omega
  have hE:Hid (l[k]?=some l[k]):=List.getElem?_eq_getElem hlt;have HCF:Hid (l[k].cs.length≤1000∧l[k].nm.size≤100000):=BN.o l[k] (List.getElem_mem hlt);have HZF:Hid (-9223372036854775808≤l[k].sz∧l[k].sz≤9223372036854775807):=HZ.o l[k] (List.getElem_mem hlt);have HST:Hid (vH (gP l k) L N (l.drop k)=(if Qy (gP l k) l[k]=true∧l[k].cs.all fV=true then vH (some l[k].nm) (dN L l[k].cs) (N+l[k].cs.length) (l.drop (k+1)) else none)):=TK hE.out;have HPV:Hid (gP l (k+1)=some l[k].nm):=by
   show gP l (k+1)=_
   unfold gP;rw[if_neg (by omega),Nat.add_sub_cancel,hE.out]
   rfl
  generalize l[k]=f at *;obtain⟨kb,ko,cv,rfl,hi,hkb,q0,q1,q2⟩:=(HL.o.since HS.o).at_ hE.out;have HI:Hid (Ints wr cv f.cs):=hi;clear hi;obtain⟨ca,cc,rfl⟩:∃ca cc,cv=.slice ca f.cs.length cc:=HI.o.form';have kN:Hid (Since wr (wr.alloc (.cells #[.string f.nm,.int .i64 f.sz,.slice ca f.cs.length cc] 129))):=(Since.refl _).alloc _;go_upto_region 6 with fail
  have jm:Hid (Bx (wr.alloc (.cells #[.string f.nm,.int .i64 f.sz,.slice ca f.cs.length cc] 129)) wr.heap.size f (.slice ca f.cs.length cc)):=Bx.new wr f _;have EF:Hid (aS (wr.alloc (.cells #[.string f.nm,.int .i64 f.sz,.slice ca f.cs.length cc] 129)) w.heap.size (.bool true) L):=jl.o.since kN.o;have HI1:Hid (Ints (wr.alloc (.cells #[.string f.nm,.int .i64 f.sz,.slice ca f.cs.length cc] 129)) (.slice ca f.cs.length cc) f.cs):=HI.o.since kN.o;have cK:Hid (Since w (wr.alloc (.cells #[.string f.nm,.int .i64 f.sz,.slice ca f.cs.length cc] 129))):=HS.o.trans kN.o;clear q0 q1 q2 kN HI jl HS;generalize wr.alloc (.cells #[.string f.nm,.int .i64 f.sz,.slice ca f.cs.length cc] 129)=w1 at *;go_cut [50] (fun t wx=>t=.bool (!(Qy (gP l k) f))∧∃n,wx=w1.drewN n)
  case first=>
   have x0:=aA.cell jm.o 0 (by omega);have x1:=aA.cell jm.o 1 (by omega);have x2:=aA.cell jm.o 2 (by omega);have hnm:=Az f.nm HCF.o.2;have hin:=fq f.sz 0 1920;have hnd:=Ay f.sz HZF.o;have cO:Hid (Qy (gP l k) f=(aI f.nm.data.toList&&(match gP l k with | none=>true | some x=>kL f.nm x)&&filled f)):=rfl;cases hn:aI f.nm.data.toList with
   | false=>
    rw[hn] at hnm;go_quiet ((first | (go_at_call 50;exact Calls.quiet_of_same (hnm _)) | (go_at_call 110;exact Calls.quiet_of_same (hin _)) | (go_at_call 53;exact Calls.quiet_of_same (hnd _))))
    go_wp2_with fail
    go_meet
    case rel=>exact⟨by rw[cO.o];rw[hn];rfl,_,rfl⟩
   | true=>
    rw[hn] at hnm;by_cases hk0:k=0
    ·have hkd:decide (0<k)=false:=decide_eq_false (by omega);have hpv:gP l k=none:=by unfold gP;rw[if_pos hk0]
     clear hk0;cases hrg:(decide (0≤f.sz)&&decide (f.sz≤1920)) with
     | false=>
      rw[hrg] at hin;go_quiet ((first | (go_at_call 50;exact Calls.quiet_of_same (hnm _)) | (go_at_call 110;exact Calls.quiet_of_same (hin _)) | (go_at_call 53;exact Calls.quiet_of_same (hnd _))))
      go_wp2_with fail
      go_meet
      case rel=>exact⟨by rw[cO.o];rw[hn,hpv,show filled f=(decide (0≤f.sz)&&decide (f.sz≤1920)&&decide ((f.cs.length:Int)=need f.sz)) from rfl,hrg];rfl,_,rfl⟩
     | true=>
      rw[hrg] at hin;by_cases hlen:(f.cs.length:Int)=need f.sz
      ·have hlb:(((f.cs.length:Nat):Int) != need f.sz)=false:=by simp[hlen]
       go_quiet ((first | (go_at_call 50;exact Calls.quiet_of_same (hnm _)) | (go_at_call 110;exact Calls.quiet_of_same (hin _)) | (go_at_call 53;exact Calls.quiet_of_same (hnd _))))
       go_wp2_with fail
       go_meet
       case rel=>exact⟨by rw[cO.o];rw[hn,hpv,show filled f=(decide (0≤f.sz)&&decide (f.sz≤1920)&&decide ((f.cs.length:Int)=need f.sz)) from rfl,hrg,decide_eq_true hlen];rfl,_,rfl⟩
      have hlb:(((f.cs.length:Nat):Int) != need f.sz)=true:=by simpa using hlen
      go_quiet ((first | (go_at_call 50;exact Calls.quiet_of_same (hnm _)) | (go_at_call 110;exact Calls.quiet_of_same (hin _)) | (go_at_call 53;exact Calls.quiet_of_same (hnd _))))
      go_wp2_with fail
      go_meet
      case rel=>exact⟨by rw[cO.o];rw[hn,hpv,show filled f=(decide (0≤f.sz)&&decide (f.sz≤1920)&&decide ((f.cs.length:Int)=need f.sz)) from rfl,hrg,decide_eq_false hlen];rfl,_,rfl⟩
    obtain⟨j,rfl⟩:∃j,k=j+1:=⟨k-1,by omega⟩
    have hkd:decide (0<j+1)=true:=decide_eq_true (by omega);have hE2:l[j]?=some l[j]:=List.getElem?_eq_getElem (by omega);have hpv:gP l (j+1)=some l[j].nm:=by
     unfold gP;rw[if_neg hk0,Nat.add_sub_cancel,hE2]
     rfl
    obtain⟨kb',ko',cv',he',_,_,y0,_⟩:=(HL.o.since cK.o).at_ hE2;injection he' with he'
    injection he' with ea eb
    subst ea eb;have hjl:(j:Int)<l.length:=by omega
    generalize l[j].nm=p at *;clear hk0 hE2;have HGT:Hid (kL f.nm p=!(Op.bytesLess f.nm.toList p.toList||f.nm.toList==p.toList)):=rfl;cases hbl:Op.bytesLess f.nm.toList p.toList with
    | true=>
     go_quiet ((first | (go_at_call 50;exact Calls.quiet_of_same (hnm _)) | (go_at_call 110;exact Calls.quiet_of_same (hin _)) | (go_at_call 53;exact Calls.quiet_of_same (hnd _))))
     go_wp2_with fail
     go_meet
     case rel=>exact⟨by rw[cO.o];rw[hn,hpv];dsimp only;rw[HGT.o,hbl];rfl,_,rfl⟩
    | false=>
     cases hbe:f.nm.toList==p.toList with
     | true=>
      go_quiet ((first | (go_at_call 50;exact Calls.quiet_of_same (hnm _)) | (go_at_call 110;exact Calls.quiet_of_same (hin _)) | (go_at_call 53;exact Calls.quiet_of_same (hnd _))))
      go_wp2_with fail
      go_meet
      case rel=>exact⟨by rw[cO.o];rw[hn,hpv];dsimp only;rw[HGT.o,hbl,hbe];rfl,_,rfl⟩
     | false=>
      cases hrg:(decide (0≤f.sz)&&decide (f.sz≤1920)) with
      | false=>
       rw[hrg] at hin;go_quiet ((first | (go_at_call 50;exact Calls.quiet_of_same (hnm _)) | (go_at_call 110;exact Calls.quiet_of_same (hin _)) | (go_at_call 53;exact Calls.quiet_of_same (hnd _))))
       go_wp2_with fail
       go_meet
       case rel=>exact⟨by rw[cO.o];rw[hn,hpv,show (match (some p:Option ByteArray) with | none=>true | some x=>kL f.nm x)=kL f.nm p from rfl,HGT.o,hbl,hbe,show filled f=(decide (0≤f.sz)&&decide (f.sz≤1920)&&decide ((f.cs.length:Int)=need f.sz)) from rfl,hrg];rfl,_,rfl⟩
      | true=>
       rw[hrg] at hin;by_cases hlen:(f.cs.length:Int)=need f.sz
       ·have hlb:(((f.cs.length:Nat):Int) != need f.sz)=false:=by simp[hlen]
        go_quiet ((first | (go_at_call 50;exact Calls.quiet_of_same (hnm _)) | (go_at_call 110;exact Calls.quiet_of_same (hin _)) | (go_at_call 53;exact Calls.quiet_of_same (hnd _))))
        go_wp2_with fail
        go_meet
        case rel=>exact⟨by rw[cO.o];rw[hn,hpv,show (match (some p:Option ByteArray) with | none=>true | some x=>kL f.nm x)=kL f.nm p from rfl,HGT.o,hbl,hbe,show filled f=(decide (0≤f.sz)&&decide (f.sz≤1920)&&decide ((f.cs.length:Int)=need f.sz)) from rfl,hrg,decide_eq_true hlen];rfl,_,rfl⟩
       have hlb:(((f.cs.length:Nat):Int) != need f.sz)=true:=by simpa using hlen
       go_quiet ((first | (go_at_call 50;exact Calls.quiet_of_same (hnm _)) | (go_at_call 110;exact Calls.quiet_of_same (hin _)) | (go_at_call 53;exact Calls.quiet_of_same (hnd _))))
       go_wp2_with fail
       go_meet
       case rel=>exact⟨by rw[cO.o];rw[hn,hpv,show (match (some p:Option ByteArray) with | none=>true | some x=>kL f.nm x)=kL f.nm p from rfl,HGT.o,hbl,hbe,show filled f=(decide (0≤f.sz)&&decide (f.sz≤1920)&&decide ((f.cs.length:Int)=need f.sz)) from rfl,hrg,decide_eq_false hlen];rfl,_,rfl⟩
  case rest=>
  obtain⟨rfl,nd,rfl⟩:=hcut;have x2:=aA.cell jm.o 2 (by omega);cases hok:Qy (gP l k) f with
  | false=>
   have HF:Hid (mY l=false):=by
    show mY l=false
    rw[NN.o,HRR.o,HST.o,hok,if_neg (by simp)]
   go_wp2_with fail
   go_ret;exact⟨by rw[HF.o];rfl,cK.o.drewN _⟩
  | true=>
   rw[hok] at HST;have a4A:Hid (vH none [] 0 l=(if f.cs.all fV=true then vH (some f.nm) (dN L f.cs) (N+f.cs.length) (l.drop (k+1)) else none)):=by
    show vH none [] 0 l=_
    rw[HRR.o,HST.o];simp
   clear hok HST HRR;have hcl:=HCF.o.1;go_wp2_with fail
   go_loopw [54,4,8] (fun i n _ wq=>∃j:Nat,j≤f.cs.length∧i=.int .i64 j∧n=.int .i64 ((N+j:Nat):Int)∧(∀(c:Int),c ∈ f.cs.take j→fV c=true)∧aS wq w.heap.size (.bool true) (dN L (f.cs.take j))∧Ints wq (.slice ca f.cs.length cc) f.cs∧Since w wq) (fun i _ _ _=>f.cs.length-(intOf i).toNat)
   case atStart=>exact⟨0,by omega,rfl,rfl,(fun c hc=>by simp at hc),EF.o.since ((Since.refl _).drewN _),HI1.o.since ((Since.refl _).drewN _),cK.o.drewN _⟩
   obtain⟨j,hj,rfl,rfl,hall,hset,hi,hs⟩:=hrel;have Pq:Hid (∀(c:Int),c ∈ f.cs.take j→fV c=true):=hall;have EH:Hid (aS wr w.heap.size (.bool true) (dN L (f.cs.take j))):=hset;have HIj:Hid (Ints wr (.slice ca f.cs.length cc) f.cs):=hi;have HSj:Hid (Since w wr):=hs;clear hall hset hi hs;by_cases hjl:j<f.cs.length
   ·have Xt:(j:Int)<f.cs.length:=by omega
    obtain⟨ib,io,rfl,q⟩:=HIj.o.at' (List.getElem?_eq_getElem hjl);have EA:Hid (dN L (f.cs.take (j+1))=put (dN L (f.cs.take j)) f.cs[j]):=EG L f.cs j _ (List.getElem?_eq_getElem hjl);have a7F:Hid (f.cs[j] ∈ f.cs):=List.getElem_mem hjl;have HTN:Hid (f.cs.take (j+1)=f.cs.take j++[f.cs[j]]):=lW _ _ hjl;generalize f.cs[j]=x at *;have hin:=fq x 3 23;cases hcb:(decide (3≤x)&&decide (x≤23)) with
    | false=>
     rw[hcb] at hin;have HF:Hid (mY l=false):=by
      show mY l=false
      rw[NN.o,a4A.o,if_neg (fun h=>by
       have h1:=List.all_eq_true.1 h x a7F.o;unfold fV at h1;rw[Bool.and_eq_true,decide_eq_true_eq,decide_eq_true_eq] at h1;rw[decide_eq_true h1.1,decide_eq_true (by omega)] at hcb;cases hcb)]
     go_wp2_with (go_at_call 110;refine(hin _).mono ?_;rintro e w' ⟨rfl,rfl⟩)
     go_ret;exact⟨by rw[HF.o];rfl,HSj.o⟩
    | true=>
     rw[hcb] at hin;have Pk:Hid (fV x=true):=by
      rw[Bool.and_eq_true,decide_eq_true_eq,decide_eq_true_eq] at hcb;show fV x=true
      unfold fV;rw[decide_eq_true hcb.1,decide_eq_true (by omega)]
      rfl
     have hup:=AA wr w.heap.size _ x EH.o;clear hcb;go_wp2_with (go_at_call 110;refine(hin _).mono ?_;rintro e w' ⟨rfl,rfl⟩)
     go_roundw
     case rel=>(repeat apply Exists.intro);exact⟨⟨j+1,by omega,by go_num,by congr 1,(fun c hc=>by
      rw[HTN.o,List.mem_append] at hc;rcases hc with hc | hc
      ·exact Pq.o c hc
      rw[List.mem_singleton] at hc;subst hc;exact Pk.o),by rw[EA.o];exact sG EH.o,HIj.o.fr EH.o (jM _ _ _ _),Fr.since (jM _ _ _ _) HSj.o (Nat.le_refl _) (fun k e=>by cases e)⟩,rfl⟩
     case measure=>simp[intOf];omega
   have JB:j=f.cs.length:=by omega
   subst JB;rw[List.take_length] at EH Pq;have HNX:Hid (vH none [] 0 l=vH (gP l (k+1)) (dN L f.cs) (N+f.cs.length) (l.drop (k+1))):=by
    show vH none [] 0 l=_
    rw[a4A.o,if_pos (List.all_eq_true.2 Pq.o),HPV.o]
   go_wp2_with fail
   go_roundw
   case rel=>exact⟨k+1,N+f.cs.length,dN L f.cs,by omega,by go_num,rfl,by omega,HNX.o,EH.o,HSj.o⟩
   case measure=>simp[intOf];omega
 have hke:k=l.length:=by omega
 have HF:Hid (mY l=(decide (L.length=N)&&decide (l.length≤8))):=by
  show mY l=_
  rw[NN.o,HRR.o,hke,List.drop_length]
  rfl
 subst hke;have Qt:=a0t wr w.heap.size L jl.o;by_cases hLN:L.length=N
 ·have hb1:((L.length:Int)==(N:Int))=true:=by simp[hLN]
  rw[decide_eq_true hLN,Bool.true_and] at HF;clear hLN;go_wp2_with fail
  go_ret;refine⟨?_,HS.o⟩;rw[HF.o];show Ending.returned (.bool (decide ((l.length:Int)≤8)))=_
  by_cases h8:l.length≤8
  ·rw[decide_eq_true h8,decide_eq_true (by omega)]
  rw[decide_eq_false h8,decide_eq_false (by omega)]
 have hb1:((L.length:Int)==(N:Int))=false:=beq_false_of_ne (by omega);rw[decide_eq_false hLN,Bool.false_and] at HF;clear hLN;go_wp2_with fail
 go_ret;exact⟨by rw[HF.o];rfl,HS.o⟩
end En
end
section
namespace En
open Go.RowKit
theorem Ps (l:List Fi)(v:Value)(w:World)(hl:fA w v l)(hz:lV l)(hn:l.length≤1000)(hcs:∀f,f ∈ l→f.cs.length≤1000∧f.nm.size≤100000)(hr:right l=false) :
  Calls Tryz.prog 89 #[v] w fun e w'=>e=.returned (.tuple #[.string ⟨#[]⟩,.int .i64 1])∧Since w w':=by
 have hra:=kE l v w hl hz hn hcs;rw[hr] at hra;go_enter Tryz.func89,Tryz.ntmps89
 go_wp2_with fail
 refine hra.mono ?_;rintro e w1 ⟨rfl,h1⟩;go_wp2_with fail
 go_ret2;exact⟨rfl,h1⟩
theorem qP (l:List Fi)(v:Value)(w:World)(hl:fA w v l)(hb:Lb w)(hr:right l=true) :
  Calls Tryz.prog 89 #[v] w fun e w'=>e=.returned (.tuple #[.string ⟨(print l).toArray⟩,.int .i64 0])∧Since w w':=by
 have HG:=hid (fw hr);have hn8:l.length≤8:=by
  rw[right,Bool.and_eq_true,decide_eq_true_eq] at hr;exact hr.1
 have hra:=kE l v w hl (fun f hf=>⟨by have:=(HG.o f hf).YV;omega,by have:=(HG.o f hf).sz1;omega⟩) (by omega) (fun f hf=>⟨by have:=(HG.o f hf).Am;omega,by
  have h1:=(lU (HG.o f hf).name).2.2.2;rw[Array.length_toList] at h1;have:f.nm.size=f.nm.data.size:=rfl;omega⟩)
 rw[hr] at hra;obtain⟨a,c,rfl,hcap⟩:=hl.form;have HL:=hid hl;have HB:=hid hb;have HP:=hid (xU hr);obtain⟨i0,hi,hz0,hz1,hz2⟩:=info_parts YW;have HI9:=hid (an hi (an hz0 (an hz1 hz2)));clear hi hz0 hz1 hz2 hl hb hr;go_enter Tryz.func89,Tryz.ntmps89
 go_wp2_with fail
 refine hra.mono ?_;rintro e w1 ⟨rfl,h1⟩;have cK:=hid h1;clear h1 hra;go_wp2_with fail
 go_loopw [15,4,6,7,9] (fun i s _ _ _ wr=>∃k:Nat,k≤l.length∧i=.int .i64 k∧s=.string ⟨(print (l.take k)).toArray⟩∧Since w wr) (fun i _ _ _ _ _=>l.length-(intOf i).toNat)
 case atStart=>exact⟨0,by omega,rfl,rfl,cK.o⟩
 obtain⟨k,hk,rfl,rfl,hs⟩:=hrel;have HS:=hid hs;clear hs;by_cases hlt:k<l.length
 ·have hlt2:(k:Int)<l.length:=by omega
  have hE:Hid (l[k]?=some l[k]):=List.getElem?_eq_getElem hlt;have Pn:=hid (HG.o l[k] (List.getElem_mem hlt));have EA:=hid (ym l k l[k] hE.out);have BZ:=hid (Nat.le_trans (qm l (k+1)) HP.o);generalize l[k]=f at *;obtain⟨kb,ko,cv,rfl,hi,hkb,q0,q1,q2⟩:=(HL.o.since HS.o).at_ hE.out;have HI:=hid hi;clear hi;obtain⟨ca,cc,rfl⟩:=HI.o.form';have kN:Hid (Since wr (wr.alloc (.cells #[.string f.nm,.int .i64 f.sz,.slice ca f.cs.length cc] 129))):=(Since.refl _).alloc _;go_upto_region 7 with fail
  have jm:Hid (Bx (wr.alloc (.cells #[.string f.nm,.int .i64 f.sz,.slice ca f.cs.length cc] 129)) wr.heap.size f (.slice ca f.cs.length cc)):=Bx.new wr f _;have HC:=hid (HI.o.since kN.o);have Pm:=hid (HS.o.trans kN.o);have HLB:=hid (HB.o.since Pm.o);clear q0 q1 q2 kN HI;have hbl:=aA.lt jm.o (by omega);have HBL:=hid hbl;clear hbl;generalize wr.alloc (.cells #[.string f.nm,.int .i64 f.sz,.slice ca f.cs.length cc] 129)=wb at *;have x0:=aA.cell jm.o 0 (by omega);have x1:=aA.cell jm.o 1 (by omega);go_cut [7] (fun t3 wx=>wx.ownsRow wb.heap.size 9 1 t3 2 (kP ((words f).take 2))∧Since wb wx)
  case first=>
   have hit:=fun W (hW:Since wb W)=>sI f.sz (by have:=Pn.o.YV;omega) (by have:=Pn.o.sz1;omega) W (HLB.o.since hW)
   have HIT:=hid hit;clear hit;go_region_held3 (fun W=>W.cell? ⟨wr.heap.size,0,none⟩=some (.string f.nm)∧W.cell? ⟨wr.heap.size,1,none⟩=some (.int .i64 f.sz)) (first | exact Ez jm.o | exact Ez (jm.o.since (Since.refl _).drew) | exact Ez (jm.o.since (((Since.refl _).drew).trans h2)) | exact Ez (jm.o.since ((((Since.refl _).drew).trans h2).alloc _))) (first
    | (go_simp;go_at_call 154;refine(HIT.o _ (Since.refl _).drew).mono ?_;rintro e w2 ⟨rfl,h2⟩;dsimp only))
   go_wp2_with fail
   go_meet
   refine⟨?_,(((Since.refl _).drew).trans h2).alloc _⟩;have:=World.ownsRow_lit (base:=wb.heap.size) (e:=9) (size:=1) w2 #[Value.string f.nm,Value.string ⟨(Lib.itoa f.sz).toArray⟩] 2 (by have:=h2.size;simpa using this) (by decide) (by rfl)
   simpa [kP,words] using this
  case rest=>
  obtain⟨hrow,hs2⟩:=hcut;have HR:=hid hrow;have HS2:=hid hs2;have x2:=aA.cell (jm.o.since hs2) 2 (by omega);clear hrow hs2 x0 x1;have hcl:=Pn.o.Am;go_wp2_with fail
  clear x2;go_loopw [28,7,9] (fun i x _ wq=>∃j:Nat,j≤f.cs.length∧i=.int .i64 j∧wq.ownsRow wb.heap.size 9 1 x (2+j) (kP ((words f).take (2+j)))∧Since wb wq) (fun i _ _ _=>f.cs.length-(intOf i).toNat)
  case atStart=>exact⟨0,by omega,rfl,HR.o,HS2.o⟩
  obtain⟨j,hj,rfl,hx,hs⟩:=hrel;have HX:=hid hx;have ed:=hid hs;clear hx hs;by_cases hjl:j<f.cs.length
  ·have Xt:(j:Int)<f.cs.length:=by omega
   obtain⟨ib,io,rfl,q⟩:=(HC.o.since ed.o).at' (List.getElem?_eq_getElem hjl);have HW:=hid (yl f j hjl);have hrg:=Pn.o.cell f.cs[j] (List.getElem_mem hjl);generalize f.cs[j]=x at *;go_wp2_with fail
   refine(sI x (by omega) (by omega) _ (HLB.o.since ed.o)).mono ?_;rintro e w2 ⟨rfl,h2⟩;have zt:Hid (w2.ownsRow wb.heap.size 9 1 u7 (2+j) (kP ((words f).take (2+j)))):=bf HX.o h2;have dZ:=hid (ed.o.trans h2);clear h2 q;go_wp2_with (at_builtin;refine wpList_append_own _ (by rfl) _ _ _ (by rfl) wb.heap.size 9 i0 _ 1 16 Tryz.underlying65 HI9.o.1 HI9.o.2.1 HI9.o.2.2.1 HI9.o.2.2.2 (by rfl) (by decide) _ (2+j) (kP ((words f).take (2+j))) (by rfl) (World.ownsRow.alloc zt.o _) ⟨w2.heap.size,0,none⟩ 1 1 [.string ⟨(Lib.itoa x).toArray⟩] (by rfl) (by rfl) (World.news_of_block (heap_alloc_new w2 _)) (by simp[Value.oneCell']) (by unfold maxLen;omega) (by omega) (by have:=dZ.o.size;simp;omega) ?_;intro x' w3 hown1 hgrow _)
   have pK:Hid (w3.ownsRow wb.heap.size 9 1 x' (2+(j+1)) (kP ((words f).take (2+(j+1))))):=by
    show World.ownsRow _ _ _ _ _ _ _
    rw[HW.o,show kP ((words f).take (2+j)++[Lib.itoa x])=kP ((words f).take (2+j))++[.string ⟨(Lib.itoa x).toArray⟩] from by simp[kP],show 2+(j+1)=2+j+1 by omega];exact hown1
   have rq:Hid (Since wb w3):=Below.grown (Since.alloc dZ.o _) hgrow (by have:=dZ.o.size;simp;omega) (fun j hj=>(zt.o.lt j hj).1);clear hown1 hgrow;go_roundw
   case rel=>exact⟨j+1,by omega,by go_num,pK.o,rq.o⟩
   case measure=>simp[intOf];omega
  have JB:j=f.cs.length:=by omega
  have HE:Hid ((words f).take (2+j)=words f):=List.take_of_length_le (by simp[words];omega);have HLEN:Hid ((words f).length=2+j):=by show (words f).length=2+j;simp[words];omega
  have zt:Hid (wr.ownsRow wb.heap.size 9 1 u7 (words f).length (kP (words f))):=by
   show World.ownsRow _ _ _ _ _ _ _
   have:=HX.o;rw[HE.o] at this;rw[HLEN.o];exact this
  have TB:Hid ((Lib.join (words f) [32]).length≤100):=by
   have h1:=Pn.o.xS;have h2:(line f).length=(Lib.join (words f) [32]).length+1:=by simp[line]
   show (Lib.join (words f) [32]).length≤100
   omega
  have He:Hid (line f=Lib.join (words f) [32]++[10]):=rfl;subst JB;go_wp2_with fail
  refine(rD _ wb.heap.size (words f) _ zt.o (by simp[words]) (by have:=TB.o;omega) (by have:=HLEN.o;omega)).mono ?_;rintro e w2 ⟨rfl,h2⟩;have dZ:=hid (Pm.o.trans (ed.o.trans h2));clear h2;have hJ:(⟨(Lib.join (words f) [32]).toArray⟩:ByteArray).size≤100:=by
   rw[show (⟨(Lib.join (words f) [32]).toArray⟩:ByteArray).size=(Lib.join (words f) [32]).length from List.size_toArray];exact TB.o
  have hA:(⟨(print (l.take k)).toArray⟩:ByteArray).size≤200:=by
   rw[show (⟨(print (l.take k)).toArray⟩:ByteArray).size=(print (l.take k)).length from List.size_toArray];have:=BZ.o;rw[EA.o,List.length_append] at this;omega
  have HV:Hid ((⟨(print (l.take k)).toArray⟩:ByteArray)++((⟨(Lib.join (words f) [32]).toArray⟩:ByteArray)++⟨#[10]⟩)=⟨(print (l.take (k+1))).toArray⟩):=by
   show (⟨(print (l.take k)).toArray⟩:ByteArray)++((⟨(Lib.join (words f) [32]).toArray⟩:ByteArray)++⟨#[10]⟩)=⟨(print (l.take (k+1))).toArray⟩
   rw[EA.o,He.o];apply ByteArray.ext
   simp[ByteArray.data_append]
  clear TB He EA BZ;generalize (⟨(Lib.join (words f) [32]).toArray⟩:ByteArray)=J at *;generalize (⟨(print (l.take k)).toArray⟩:ByteArray)=A at *;have hJ1:(J++(⟨#[10]⟩:ByteArray)).size≤101:=by
   rw[ByteArray.size_append];have:(⟨#[10]⟩:ByteArray).size=1:=rfl;omega
  go_wp2_with fail
  go_roundw
  case rel=>exact⟨k+1,by omega,by go_num,by rw[←HV.o],dZ.o⟩
  case measure=>simp[intOf];omega
 have hke:k=l.length:=by omega
 subst hke;rw[List.take_length];go_wp2_with fail
 go_ret2;exact⟨rfl,HS.o⟩
end En
end
end Go.Proofs.YtlgbfkcpdelcbaaGreatDoor
