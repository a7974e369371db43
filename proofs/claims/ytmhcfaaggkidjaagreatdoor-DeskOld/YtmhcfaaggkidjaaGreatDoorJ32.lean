import Derived.Lib.AppendIntMem
import Derived.Deep.AppendLies
import Derived.Deep.AppendSrc
import Derived.Test.YtmhcfaaggkidjaaGreatDoorJ01
import Derived.Test.YtmhcfaaggkidjaaGreatDoorJ31
set_option linter.unusedSimpArgs false
set_option linter.unusedVariables false
section
namespace Go.Proofs.YtmhcfaaggkidjaaGreatDoor
set_option maxRecDepth 100000
namespace En
open Go.RowKit
def Ue:String:=(Rows.deskPiecesRow.laid.map (fun p=>p.1)).getD 2 (String.ofList [])
def PL (v:Value):Prop:=v=.nilIface∨∃te pe,v=.iface te pe
structure Lb (w:World):Prop where
 tab:Lib.TabIs Tryz.prog w Ue .u64 Lib.pow10Tab
 max:∃m,w.cell? ⟨1,0,none⟩=some (.int .i64 m)
 syn:∃v,w.cell? ⟨8,0,none⟩=some v∧PL v
 ran:∃v,w.cell? ⟨9,0,none⟩=some v∧PL v
theorem Lb.since {w w':World} (h:Lb w) (hs:Since w w'):Lb w':=by
 refine⟨Lib.tabBelow_of_tabIs h.tab w' hs,?_,?_,?_⟩
 ·obtain⟨m,hm⟩:=h.max;exact⟨m,(hs.cell (p:=⟨1,0,none⟩) (World.block_lt_of_cell? w _ hm)).trans hm⟩
 ·obtain⟨m,hm,h2⟩:=h.syn;exact⟨m,(hs.cell (p:=⟨8,0,none⟩) (World.block_lt_of_cell? w _ hm)).trans hm,h2⟩
 obtain⟨m,hm,h2⟩:=h.ran;exact⟨m,(hs.cell (p:=⟨9,0,none⟩) (World.block_lt_of_cell? w _ hm)).trans hm,h2⟩
theorem qp {w:World} (k:Nat) (os:Array Obj):Since w (Go.Sort.grow (w.drewN k) os):=by
 have h:=(Since.refl w).drewN k;refine Below.trans (show Below w.heap.size w _ from h) ⟨rfl,rfl,rfl,by simp[Go.Sort.grow],fun j hj=>?_⟩;show ((w.drewN k).heap++os)[j]?=_
 rw[Array.getElem?_append_left (Nat.lt_of_lt_of_le hj h.size)]
theorem Ej (n:Int) (h0:-9223372036854775808≤n) (h1:n≤9223372036854775807) (w:World) (h:Lb w) :
  Calls Tryz.prog 9 #[.int .i64 n] w fun e w'=>e=.returned (.string ⟨(Lib.itoa n).toArray⟩)∧Since w w':=by
 refine(Tryz.strconv_Itoa n h0 h1 w h.tab).mono ?_;rintro e w' ⟨rfl,k,os,rfl⟩;exact⟨rfl,qp k os⟩
theorem kw {w:World} (t:ByteArray) (ty:TypeId):Since w (Lib.bytesWorld w ty t):=
 ⟨rfl,rfl,rfl,by rw[Lib.bytesWorld_size];omega,fun k hk=>Lib.bytesWorld_at_old w ty t k hk⟩
theorem PM (s:ByteArray) (hs:s.size≤100000) (w:World) (h:Lb w) :
  Calls Tryz.prog 175 #[.string s] w fun e w'=>(∃er,e=.returned (.tuple #[.int .i64 (zf s.data.toList),er])∧((∃v,nD s.data.toList=some v∧er=.nilIface)∨(nD s.data.toList=none∧∃t p,er=.iface t p)))∧Since w w':=by
 cases hn:Lib.atoiAll s.data.toList with
 | ok v=>
  refine(Tryz.strconv_Atoi_ok s (by omega) v hn w).mono ?_;rintro e w' ⟨rfl,h2⟩;refine⟨⟨.nilIface,by simp[zf,hn],Or.inl ⟨v,by simp[nD,hn],rfl⟩⟩,?_⟩;rcases h2 with rfl | ⟨t,rfl⟩
  ·exact Since.refl _
  exact kw t _
 | «syntax»=>
  obtain⟨ev,h1,h2⟩:=h.syn;refine(Tryz.strconv_Atoi_syntax s (by omega) hn ev w h1 h2).mono ?_;rintro e w' ⟨N,rfl,_,_,h3⟩;exact⟨⟨.iface 304 (.pointer (some ⟨N,0,none⟩)),by simp only[zf,hn],Or.inr ⟨by simp only[nD,hn],_,_,rfl⟩⟩,h3⟩
 | range=>
  obtain⟨ev,h1,h2⟩:=h.ran;refine(Tryz.strconv_Atoi_range s (by omega) hn ev w h1 h2).mono ?_;rintro e w' ⟨N,rfl,_,_,h3⟩;exact⟨⟨.iface 304 (.pointer (some ⟨N,0,none⟩)),by simp only[zf,hn],Or.inr ⟨by simp only[nD,hn],_,_,rfl⟩⟩,h3⟩
theorem ed (s:ByteArray) (hs:s.size≤100000) (w:World):Calls Tryz.prog 72 #[.string s] w fun e w'=>e=.returned (.string s)∧Since w w':=by
 go_enter Tryz.func72,Tryz.ntmps72
 go_wp2_with fail
 refine(Tryz.stringslite_Clone s w (by omega)).mono ?_;rintro e w' ⟨rfl,h⟩;go_wp2_with fail
 go_ret;exact⟨rfl,h⟩
theorem bq (B b:Nat) (bs:List Value) (s:ByteArray) (w:World) (h:Lib.IsBuilderF 40 5 B b bs w) (hl:bs.length+s.size≤140737488355328) (hB:B≤w.heap.size) :
  Calls Tryz.prog 16 #[.pointer (some ⟨b,0,none⟩),.string s] w fun e w'=>e=.returned (.tuple #[.int .i64 s.size,.nilIface])∧Lib.BuilderAtF 40 5 B b (.pointer (some ⟨b,0,none⟩)) (bs++Lib.strCells s) w'∧Below B w w'∧Lib.OthersKept 5 (some b) w w':=
 Any.Builder_WriteString_k { Tryz.BJ with } Tryz.gQ B b bs s w h hl hB
theorem df {w:World} {k:Nat} {o:Obj} (h:w.heap[k]?=some o):k<w.heap.size:=(Array.getElem?_eq_some_iff.1 h).1
theorem dX {B b:Nat} {p:Value} {bs:List Value} {w w':World} (h:Lib.BuilderAtF 40 5 B b p bs w) (hs:Since w w'):Lib.BuilderAtF 40 5 B b p bs w':=by
 obtain⟨h1,v,hb,hown,hne⟩:=h;refine⟨h1,v,by rw[Below.block hs b (df hb)];exact hb,?_,hne⟩;obtain⟨o1,o2⟩:=hown;refine⟨o1,?_⟩;rcases o2 with o2 | ⟨g,cap,cur,o2⟩
 ·exact Or.inl o2
 obtain⟨fz,hv,hg,hh,r⟩:=o2;exact Or.inr ⟨g,cap,cur,fz,hv,hg,by rw[Below.block hs g (df hh)];exact hh,r⟩
theorem bD {B b:Nat} {bs:List Value} {w w':World} (h:Lib.IsBuilderF 40 5 B b bs w) (hs:Since w w'):Lib.IsBuilderF 40 5 B b bs w':=by
 rcases h with h | h
 ·exact Or.inl (dX h hs)
 exact Or.inr (dX h hs)
def rV (l:List (List UInt8)):List Value:=l.map (fun t=>.string ⟨t.toArray⟩)
theorem mU (x:Value) (B:Nat) (l:List (List UInt8)) (w:World) (h:w.ownsRow B 9 1 x l.length (rV l)) (hne:l≠[]) (hl:(Lib.join l [32]).length≤100000) (hn:l.length≤100000) :
  Calls Tryz.prog 96 #[x,.string ⟨#[32]⟩] w fun e w'=>e=.returned (.string ⟨(Lib.join l [32]).toArray⟩)∧Since w w':=by
 have hpos:=List.length_pos_iff.2 hne;have h0:=h;rcases h.2 with⟨_,h1⟩ | ⟨g,cap,cur,rfl,hb,hg,hc,hm,hs,ht⟩
 ·omega
 have e1:(l.map (fun t=>(⟨t.toArray⟩:ByteArray))).map (fun x=>x.data.toList)=l:=by
  rw[List.map_map];exact List.map_id'' (fun t=>by simp) l
 have:=Tryz.strings_Join g 0 cap (l.map (fun t=>(⟨t.toArray⟩:ByteArray))) ⟨#[32]⟩ w (fun j x hx=>by
  have hj:j<l.length:=by have:=(List.getElem?_eq_some_iff.1 hx).1;simpa using this
  have h2:=h0.cellAt j (by omega);rw[Nat.zero_add,h2];rw[List.getElem?_map] at hx;simp only[rV,List.getElem?_map];cases hq:l[j]? with
  | none=>rw[hq] at hx;cases hx
  | some y=>rw[hq] at hx;simp at hx;subst hx;rfl) (df hg) (by simp;omega) (by simp;omega) (by rw[e1];exact Nat.le_trans hl (by decide))
 rw[List.length_map] at this;refine this.mono ?_;rintro e w' ⟨rfl,h3⟩;rw[e1];exact⟨rfl,h3⟩
end En
end Go.Proofs.YtmhcfaaggkidjaaGreatDoor
end
section
namespace Go.Proofs.YtmhcfaaggkidjaaGreatDoor
set_option maxRecDepth 100000
namespace En
open Go.RowKit
def Bx (w:World) (b:Nat) (f:Fi) (cv:Value):Prop:=ak w b 3 (fun j=>(#[.string f.nm,.int .i64 f.sz,cv]:Array Value).getD j undef)
theorem Bx.new (w:World) (f:Fi) (cv:Value):Bx (w.alloc (.cells #[.string f.nm,.int .i64 f.sz,cv] 122)) w.heap.size f cv:=ak.new w 3 _ _ _ (fun j hj=>by
  obtain rfl | rfl | rfl:j=0∨j=1∨j=2:=by omega
  all_goals rfl) _ rfl
theorem Bx.since {w w':World} {b:Nat} {f:Fi} {cv:Value} (h:Bx w b f cv) (hs:Since w w'):Bx w' b f cv:=ak.since h hs
theorem Uf {w:World} {b:Nat} {f:Fi} {cv:Value} (h:Bx w b f cv):w.cell? ⟨b,0,none⟩=some (.string f.nm)∧w.cell? ⟨b,1,none⟩=some (.int .i64 f.sz):=⟨ak.cell h 0 (by omega),ak.cell h 1 (by omega)⟩
theorem a0c:(Tryz.prog.info? 9).map (fun i=>(i.zero,i.size,i.bytes))=some (some (.string ByteArray.empty),1,16):=by kernel_rfl
theorem info_parts {P:Program} {t:TypeId} {z:Value} {s y:Nat} (h:(P.info? t).map (fun i=>(i.zero,i.size,i.bytes))=some (some z,s,y)):∃i,P.info? t=some i∧i.zero=some z∧i.size=s∧i.bytes=y:=by
 cases hi:P.info? t with
 | none=>rw[hi] at h;cases h
 | some i=>rw[hi] at h;simp at h;exact⟨i,rfl,h.1,h.2.1,h.2.2⟩
theorem bi {w w':World} {B:Nat} {t:TypeId} {sz n:Nat} {v:Value} {xs:List Value} (h:w.ownsRow B t sz v n xs) (hs:Since w w'):w'.ownsRow B t sz v n xs:=by
 refine⟨h.1,?_⟩;rcases h.2 with h2 | ⟨g,cap,cur,hv,hb,hg,rest⟩
 ·exact .inl h2
 exact .inr ⟨g,cap,cur,hv,hb,by rw[hs.block g (df hg)];exact hg,rest⟩
theorem Hg (f:Fi) (k:Nat) (hk:k<f.cs.length):(words f).take (2+(k+1))=(words f).take (2+k)++[Lib.itoa f.cs[k]]:=by
 rw[show 2+(k+1)=(2+k)+1 by omega,List.take_add_one]
 congr 1
 rw[show 2+k=k+1+1 by omega];simp[words,hk]
set_option maxHeartbeats 4000000 in
theorem PN (f:Fi) (cv:Value) (w:World) (hg:Good f) (hc:Ints w cv f.cs) (hb:Lb w) :
  Calls Tryz.prog 177 #[fZ f cv] w fun e w'=>e=.returned (.string ⟨(line f).toArray⟩)∧Since w w':=by
 have HG:Hid (Good f):=hg;have HC:Hid (Ints w cv f.cs):=hc;have HL:Hid (Lb w):=hb;obtain⟨ca,cc,rfl⟩:∃ca cc,cv=.slice ca f.cs.length cc:=by
  obtain⟨ca,cc,h,_⟩:=hc;exact⟨ca,cc,h⟩
 clear hg hc hb;have hbx:=Bx.new w f (.slice ca f.cs.length cc);have bY:Hid (Since w (w.alloc (.cells #[.string f.nm,.int .i64 f.sz,.slice ca f.cs.length cc] 122))):=(Since.refl w).alloc _;unfold fZ;go_enter Tryz.func177,Tryz.ntmps177
 go_upto_region 1 with fail
 have ma:Hid (Bx (w.alloc (.cells #[.string f.nm,.int .i64 f.sz,.slice ca f.cs.length cc] 122)) w.heap.size f (.slice ca f.cs.length cc)):=hbx;have x0:=ak.cell hbx 0 (by omega);have x1:=ak.cell hbx 1 (by omega);clear hbx;generalize w.alloc (.cells #[.string f.nm,.int .i64 f.sz,.slice ca f.cs.length cc] 122)=w1 at *;go_cut [3] (fun t3 wx=>wx.ownsRow w.heap.size 9 1 t3 2 (rV ((words f).take 2))∧Since w1 wx)
 case first=>
  have hit:=fun W (hW:Since w1 W)=>Ej f.sz (by have:=HG.out.nz;omega) (by have:=HG.out.sz1;omega) W (HL.out.since (bY.out.trans hW))
  have HIT:Hid (∀W,Since w1 W→Calls Tryz.prog 9 #[.int .i64 f.sz] W fun e w'=>e=.returned (.string ⟨(Lib.itoa f.sz).toArray⟩)∧Since W w'):=hit;clear hit;go_region_held3 (fun W=>W.cell? ⟨w.heap.size,0,none⟩=some (.string f.nm)∧W.cell? ⟨w.heap.size,1,none⟩=some (.int .i64 f.sz)) (first | exact Uf ma.out | exact Uf (ma.out.since (Since.refl _).drew) | exact Uf (ma.out.since (((Since.refl _).drew).trans h2)) | exact Uf (ma.out.since ((((Since.refl _).drew).trans h2).alloc _))) (first
   | (go_simp;go_at_call 9;refine(HIT.out _ (Since.refl _).drew).mono ?_;rintro e w2 ⟨rfl,h2⟩;dsimp only))
  go_wp2_with fail
  go_meet
  refine⟨?_,(((Since.refl _).drew).trans h2).alloc _⟩;have:=World.ownsRow_lit (base:=w.heap.size) (e:=9) (size:=1) w2 #[Value.string f.nm,Value.string ⟨(Lib.itoa f.sz).toArray⟩] 2 (by have:=bY.out.size;have:=h2.size;simp at this;omega) (by decide) (by rfl)
  simpa [rV,words] using this
 case rest=>
 obtain⟨hrow,hs2⟩:=hcut;have HR:Hid (wc.ownsRow w.heap.size 9 1 u3 2 (rV ((words f).take 2))):=hrow;have HS2:Hid (Since w wc):=bY.out.trans hs2;have x2:=ak.cell (ma.out.since hs2) 2 (by omega);clear hrow hs2 x0 x1 ma bY;obtain⟨i0,hi,hz0,hz1,hz2⟩:=info_parts a0c;have HI:Hid (Tryz.prog.info? 9=some i0∧i0.zero=some (.string ByteArray.empty)∧i0.size=1∧i0.bytes=16):=⟨hi,hz0,hz1,hz2⟩
 clear hi hz0 hz1 hz2;go_wp2_with fail
 clear x2;go_loopw [15,3,5] (fun i x _ wr=>∃k:Nat,k≤f.cs.length∧i=.int .i64 k∧wr.ownsRow w.heap.size 9 1 x (2+k) (rV ((words f).take (2+k)))∧Since w wr) (fun i _ _ _=>f.cs.length-(intOf i).toNat)
 case atStart=>exact⟨0,by omega,rfl,HR.out,HS2.out⟩
 obtain⟨k,hk,rfl,hx,hs⟩:=hrel;have HX:Hid (wr.ownsRow w.heap.size 9 1 u3 (2+k) (rV ((words f).take (2+k)))):=hx;have jV:Hid (Since w wr):=hs;clear hx hs;have hcl:=HG.out.Pz;by_cases hlt:k<f.cs.length
 ·have hlt2:(k:Int)<f.cs.length:=by omega
  obtain⟨a',c',hv,_,h2⟩:=HC.out.since jV.out;obtain⟨kb,ko,ha,_,hcell⟩:=h2 (by omega);injection hv with e1 e2 e3
  subst e1;subst ha;have q:=hcell k f.cs[k] (List.getElem?_eq_getElem hlt);have HW:Hid ((words f).take (2+(k+1))=(words f).take (2+k)++[Lib.itoa f.cs[k]]):=Hg f k hlt;have hrg:=HG.out.cell f.cs[k] (List.getElem_mem hlt);clear hcell h2 e2 e3;generalize f.cs[k]=c at *;go_wp2_with fail
  refine(Ej c (by omega) (by omega) _ (HL.out.since jV.out)).mono ?_;rintro e w2 ⟨rfl,h2⟩;have Lj:Hid (w2.ownsRow w.heap.size 9 1 u3 (2+k) (rV ((words f).take (2+k)))):=bi HX.out h2;have iw:Hid (Since w w2):=jV.out.trans h2;clear h2 q;go_wp2_with (at_builtin;refine wpList_append_own _ (by rfl) _ _ _ (by rfl) w.heap.size 9 i0 _ 1 16 Tryz.underlying28 HI.out.1 HI.out.2.1 HI.out.2.2.1 HI.out.2.2.2 (by rfl) (by decide) _ (2+k) (rV ((words f).take (2+k))) (by rfl) (World.ownsRow.alloc Lj.out _) ⟨w2.heap.size,0,none⟩ 1 1 [.string ⟨(Lib.itoa c).toArray⟩] (by rfl) (by rfl) (World.news_of_block (heap_alloc_new w2 _)) (by simp[Value.oneCell']) (by unfold maxLen;omega) (by omega) (by have:=iw.out.size;simp;omega) ?_;intro x' w3 hown1 hgrow _)
  have Jz:Hid (w3.ownsRow w.heap.size 9 1 x' (2+(k+1)) (rV ((words f).take (2+(k+1))))):=by
   show World.ownsRow _ _ _ _ _ _ _
   rw[HW.out,show rV ((words f).take (2+k)++[Lib.itoa c])=rV ((words f).take (2+k))++[.string ⟨(Lib.itoa c).toArray⟩] from by simp[rV],show 2+(k+1)=2+k+1 by omega];exact hown1
  have Fx:Hid (Since w w3):=Below.grown (Since.alloc iw.out _) hgrow (by have:=iw.out.size;simp;omega) (fun j hj=>(Lj.out.lt j hj).1);clear hown1 hgrow;go_roundw
  case rel=>exact⟨k+1,by omega,by go_num,Jz.out,Fx.out⟩
  case measure=>simp[intOf];omega
 have hke:k=f.cs.length:=by omega
 have HE:Hid ((words f).take (2+k)=words f):=List.take_of_length_le (by simp[words];omega);have HLEN:Hid ((words f).length=2+k):=by show (words f).length=2+k;simp[words];omega
 have Lj:Hid (wr.ownsRow w.heap.size 9 1 u3 (words f).length (rV (words f))):=by
  show World.ownsRow _ _ _ _ _ _ _
  have:=HX.out;rw[HE.out] at this;rw[HLEN.out];exact this
 have XM:Hid ((Lib.join (words f) [32]).length≤100):=by
  have h1:=HG.out.Ed;have h2:(line f).length=(Lib.join (words f) [32]).length+1:=by simp[line]
  show (Lib.join (words f) [32]).length≤100
  omega
 have Gb:Hid (line f=Lib.join (words f) [32]++[10]):=rfl;subst hke;go_wp2_with fail
 refine(mU _ w.heap.size (words f) _ Lj.out (by simp[words]) (by have:=XM.out;omega) (by have:=HLEN.out;omega)).mono ?_;rintro e w2 ⟨rfl,h2⟩;have iw:Hid (Since w w2):=jV.out.trans h2;clear h2;have HJ:Hid ((⟨(Lib.join (words f) [32]).toArray⟩:ByteArray).size≤100):=by
  show (⟨(Lib.join (words f) [32]).toArray⟩:ByteArray).size≤100
  rw[show (⟨(Lib.join (words f) [32]).toArray⟩:ByteArray).size=(Lib.join (words f) [32]).length from List.size_toArray];exact XM.out
 have HV:Hid ((⟨(Lib.join (words f) [32]).toArray⟩:ByteArray)++⟨#[10]⟩=⟨(line f).toArray⟩):=by
  show (⟨(Lib.join (words f) [32]).toArray⟩:ByteArray)++⟨#[10]⟩=⟨(line f).toArray⟩
  rw[Gb.out];apply ByteArray.ext
  simp[ByteArray.data_append]
 clear XM Gb;generalize (⟨(Lib.join (words f) [32]).toArray⟩:ByteArray)=J at *;have hj:=HJ.out;go_wp2_with fail
 go_ret;exact⟨by rw[←HV.out];rfl,iw.out⟩
end En
end Go.Proofs.YtmhcfaaggkidjaaGreatDoor
end
section
namespace Go.Proofs.YtmhcfaaggkidjaaGreatDoor
set_option maxRecDepth 100000
namespace En
open Go.RowKit
def dM (n:Int):Value:=.iface 32 (.int .i64 n)
theorem PO (l:List Fi) (v:Value) (w:World) (hl:iX w v l) (hz:pz l) (hr:right l=false) :
  Calls Tryz.prog 119 #[v] w fun e w'=>e=.returned (.tuple #[.string ⟨#[]⟩,dM 1])∧Since w w':=by
 have hra:=kQ l v w hl hz;rw[hr] at hra;go_enter Tryz.func119,Tryz.ntmps119
 go_wp2_with fail
 refine hra.mono ?_;rintro e w1 ⟨rfl,h1⟩;go_wp2_with fail
 go_ret2;exact⟨rfl,h1⟩
theorem Hl (l:List Fi) (k:Nat) (f:Fi) (h:l[k]?=some f):print (l.take (k+1))=print (l.take k)++line f:=by
 rw[List.take_add_one,h];simp[print]
theorem zh (l:List Fi) (k:Nat):(print (l.take k)).length≤(print l).length:=by
 have:print l=print (l.take k)++print (l.drop k):=by
  unfold print;rw[←List.flatten_append,←List.map_append,List.take_append_drop]
 rw[this,List.length_append];omega
set_option maxHeartbeats 4000000 in
theorem Ad (l:List Fi) (v:Value) (w:World) (hl:iX w v l) (hz:pz l) (hb:Lb w) (hr:right l=true) :
  Calls Tryz.prog 119 #[v] w fun e w'=>e=.returned (.tuple #[.string ⟨(print l).toArray⟩,.nilIface])∧Since w w':=by
 have hra:=kQ l v w hl hz;rw[hr] at hra;obtain⟨a,c,rfl,hcap,hrest⟩:=hl;have HL:Hid (iX w (.slice a l.length c) l):=⟨a,c,rfl,hcap,hrest⟩
 have HB:Hid (Lb w):=hb;have HP:Hid ((print l).length≤200):=xE hr;have HG:Hid (∀f,f ∈ l→Good f):=jO hr;have hn8:l.length≤8:=by
  rw[right,Bool.and_eq_true,decide_eq_true_eq] at hr;exact hr.1
 clear hrest hb hz hr;go_enter Tryz.func119,Tryz.ntmps119
 go_wp2_with fail
 refine hra.mono ?_;rintro e w1 ⟨rfl,h1⟩;have bY:Hid (Since w w1):=h1;clear h1 hra;go_upto_region 4 with fail
 have hb0:Lib.IsBuilderF 40 5 w1.heap.size w1.heap.size [] (w1.alloc (.cells #[.pointer none,.slice none 0 0] 40)):=Lib.IsBuilderF.of (Lib.fresh_isBuilder 40 5 w1);have HB0:Hid (Lib.IsBuilderF 40 5 w1.heap.size w1.heap.size [] (w1.alloc (.cells #[.pointer none,.slice none 0 0] 40))):=hb0;have HS2:Hid (Since w1 (w1.alloc (.cells #[.pointer none,.slice none 0 0] 40))):=(Since.refl _).alloc _;clear hb0;generalize w1.alloc (.cells #[.pointer none,.slice none 0 0] 40)=w2 at *;go_wp2_with fail
 go_loopw [13,6] (fun i _ wr=>∃k:Nat,k≤l.length∧i=.int .i64 k∧Lib.IsBuilderF 40 5 w1.heap.size w1.heap.size (Lib.byteCells (print (l.take k))) wr∧Since w1 wr) (fun i _ _=>l.length-(intOf i).toNat)
 case atStart=>exact⟨0,by omega,rfl,by simpa [print,Lib.byteCells] using HB0.out,HS2.out⟩
 obtain⟨k,hk,rfl,hbk,hs⟩:=hrel;have Sq:Hid (Lib.IsBuilderF 40 5 w1.heap.size w1.heap.size (Lib.byteCells (print (l.take k))) wr):=hbk;have jV:Hid (Since w1 wr):=hs;clear hbk hs;by_cases hlt:k<l.length
 ·have hlt2:(k:Int)<l.length:=by omega
  have hE:Hid (l[k]?=some l[k]):=List.getElem?_eq_getElem hlt;have HGF:Hid (Good l[k]):=HG.out l[k] (List.getElem_mem hlt);have Za:Hid (print (l.take (k+1))=print (l.take k)++line l[k]):=Hl l k l[k] hE.out;have Zb:Hid ((print (l.take (k+1))).length≤200):=Nat.le_trans (zh l (k+1)) HP.out;generalize l[k]=f at *;obtain⟨kb,ko,cv,rfl,hi,hkb,q0,q1,q2⟩:=(HL.out.since (bY.out.trans jV.out)).at_ hE.out;have HI:Hid (Ints wr cv f.cs):=hi;clear hi;obtain⟨ca,cc,rfl⟩:∃ca cc,cv=.slice ca f.cs.length cc:=by
   obtain⟨ca,cc,h,_⟩:=HI.out;exact⟨ca,cc,h⟩
  have lC:Hid (Since wr (wr.alloc (.cells #[.string f.nm,.int .i64 f.sz,.slice ca f.cs.length cc] 122))):=(Since.refl _).alloc _;go_wp2_with fail
  refine(PN f (.slice ca f.cs.length cc) _ HGF.out (HI.out.since lC.out) (HB.out.since ((bY.out.trans jV.out).trans lC.out))).mono ?_;rintro e w3 ⟨rfl,h3⟩;have HB3:Hid (Lib.IsBuilderF 40 5 w1.heap.size w1.heap.size (Lib.byteCells (print (l.take k))) w3):=bD Sq.out (lC.out.trans h3);have iw:Hid (Since w1 w3):=(jV.out.trans lC.out).trans h3;clear h3 q0 q1 q2;have HLS:Hid ((⟨(line f).toArray⟩:ByteArray).size=(line f).length):=List.size_toArray;have hll:(Lib.byteCells (print (l.take k))).length+(⟨(line f).toArray⟩:ByteArray).size≤140737488355328:=by
   rw[Lib.byteCells_length,HLS.out];have:=Zb.out;rw[Za.out,List.length_append] at this;omega
  have XM:Hid ((Lib.byteCells (print (l.take k))).length+(⟨(line f).toArray⟩:ByteArray).size≤140737488355328):=hll;clear hll;go_wp2_with fail
  refine(bq w1.heap.size w1.heap.size _ ⟨(line f).toArray⟩ _ HB3.out XM.out iw.out.size).mono ?_;rintro e w4 ⟨rfl,h4,b4,_⟩;have iY:Hid (Since w1 w4):=Below.trans iw.out b4;have Ny:Hid (Lib.IsBuilderF 40 5 w1.heap.size w1.heap.size (Lib.byteCells (print (l.take (k+1)))) w4):=by
   refine Or.inr ?_;rw[Lib.strCells_eq] at h4;rw[Za.out]
   simpa [Lib.byteCells] using h4
  clear h4 b4;go_wp2_with fail
  go_roundw
  case rel=>exact⟨k+1,by omega,by go_num,Ny.out,iY.out⟩
  case measure=>simp[intOf];omega
 have hke:k=l.length:=by omega
 subst hke;rw[List.take_length] at Sq;go_wp2_with fail
 refine(Tryz.Builder_String_any_k w1.heap.size w1.heap.size _ _ Sq.out jV.out.size).mono ?_;rintro e w3 ⟨rfl,_,b3,_⟩;have iw:Hid (Since w1 w3):=Below.trans jV.out b3;clear b3;go_wp2_with fail
 go_ret2;exact⟨rfl,bY.out.trans iw.out⟩
end En
end Go.Proofs.YtmhcfaaggkidjaaGreatDoor
end
section
namespace Go.Proofs.YtmhcfaaggkidjaaGreatDoor
set_option maxRecDepth 100000
namespace En
open Go.RowKit
theorem aY {fn:Func} {p q:Tmp} {ty:TypeId} (h:fn.results=#[.cell p ty,.tmp q]) (tmps:Array Value) (P:Program) (w:World) (b:Nat) (cs:List Value) (d:TypeDesc) (v:Value)
  (hx:tmps.getD p undef=.pointer (some ⟨b,0,none⟩)) (hc:w.rangeAt b 0 cs) (hu:P.underlying ty=some d) (hd:d.isRow=true) (hi:(P.info? ty).map (·.size)=some cs.length) (hq:tmps.getD q undef=v) :
  (results fn tmps).run P w=.ok (.tuple #[.agg cs.toArray,v]) w:=by
 simp only[results,h];have h1:=run_loadVar_mid (P:=P) w b 0 ty cs d hc hu hd hi;have h2:tmps[p]?.getD undef=.pointer (some ⟨b,0,none⟩):=by simpa using hx
 have h3:tmps[q]?.getD undef=v:=by simpa using hq
 simp[asAddr,h2,h1,h3]
theorem uh:∀(l:List (List UInt8)) (t:List UInt8),dJ (l++[t])=(match dJ l,nD t with | some L,some v=>some (L++[v]) | _,_=>none)
 | [],t=>by
  simp only[List.nil_append,dJ];cases nD t<;>rfl
 | a::r,t=>by
  rw[List.cons_append,dJ,uh r t];simp only[dJ];cases nD a with
  | none=>cases dJ r<;>cases nD t<;>rfl
  | some v=>cases dJ r<;>cases nD t<;>rfl
theorem El:∀(l:List (List UInt8)) (k:Nat),dJ (l.take k)=none→dJ l=none
 | [],k,h=>by simpa using h
 | a::r,0,h=>by simp[dJ] at h
 | a::r,k+1,h=>by
  rw[List.take_succ_cons,dJ] at h;rw[dJ];cases hn:nD a with
  | none=>rfl
  | some v=>
   rw[hn] at h;cases hr:dJ (r.take k) with
   | none=>rw[El r k hr]
   | some L=>rw[hr] at h;cases h
def eX (L:List Int):List Value:=L.map (fun x=>.int .i64 x)
def dV (t:ByteArray):List ByteArray:=Lib.splitB ⟨#[32]⟩ 0 (min 26 (t.size+1)-1) t
theorem Em (t:ByteArray):(dV t).map (fun x=>x.data.toList)=Lib.splitK [32] 0 (min 26 (t.data.toList.length+1)-1) t.data.toList:=by
 unfold dV;rw[Lib.splitB_data]
 congr 3
theorem PP (t:ByteArray):eU t.data.toList=nG ((dV t).map (fun x=>x.data.toList)):=by
 unfold eU;rw[Em]
theorem Ho (t:ByteArray):((dV t).length:Int)≤(min 26 (t.size+1):Nat):=by
 have:=Lib.splitB_length_le ⟨#[32]⟩ 0 (min 26 (t.size+1)-1) t;unfold dV;omega
theorem Ht (t:ByteArray):(dV t).length≤26∧1≤(dV t).length:=by
 unfold dV;constructor
 ·have:=Lib.splitB_length_le ⟨#[32]⟩ 0 (min 26 (t.size+1)-1) t;omega
 generalize min 26 (t.size+1)-1=k;cases k with
 | zero=>rw[Lib.splitB_zero];simp
 | succ k=>unfold Lib.splitB;split<;>simp
theorem rW (sep:ByteArray):∀(k:Nat) (s:ByteArray) (n:Nat),s.size≤n→∀x,x ∈ Lib.splitB sep 0 k s→x.size≤n
 | 0,s,n,h,x,hx=>by rw[Lib.splitB_zero,List.mem_singleton] at hx;subst hx;exact h
 | k+1,s,n,h,x,hx=>by
  unfold Lib.splitB at hx;split at hx
  ·rw[List.mem_singleton] at hx;subst hx;exact h
  rcases List.mem_cons.1 hx with rfl | hx
  ·rw[ByteArray.size_extract];omega
  exact rW sep k _ n (by rw[ByteArray.size_extract];omega) x hx
theorem info3':(Tryz.prog.info? 3).map (fun i=>(i.zero,i.size,i.bytes))=some (some (.int .i64 0),1,8):=by kernel_rfl
theorem xP {w:World} {b:Nat} {g:Nat→Value} (h:ak w b 3 g) (x y z:Value):ak (((w.setCell ⟨b,0,none⟩ x).setCell ⟨b,1,none⟩ y).setCell ⟨b,2,none⟩ z) b 3 (fun j=>(#[x,y,z]:Array Value).getD j undef):=
 (((h.set 0 (by omega) x).set 1 (by omega) y).set 2 (by omega) z).congr (fun j hj=>by
  obtain rfl | rfl | rfl:j=0∨j=1∨j=2:=by omega
  all_goals rfl)
theorem nK {w:World} {b:Nat} {x y z:Value} (h:ak w b 3 (fun j=>(#[x,y,z]:Array Value).getD j undef)):w.rangeAt b 0 [x,y,z]:=by
 have:=h.range 0 3 (by omega);exact this
theorem ou (w:World):(Instr.makeSlice 90 (.int .i64 0) (.int .i64 24)).run Tryz.prog w=.ok (.slice (some ⟨w.heap.size,0,none⟩) 0 24) (w.alloc (.cells (madeCells #[Value.int .i64 0] 24) 3)):=by
 obtain⟨i,hi,hz,hs,hb⟩:=info_parts info3';have h:=run_makeSlice (P:=Tryz.prog) w 90 3 i _ Tryz.underlying90 hi hz .i64 .i64 0 24 (by omega) (by omega) (by rw[hs];omega) (by rw[hb];omega) (by omega);rw[hs,Nat.mul_one] at h
 simpa [Value.cells] using h
theorem Ae {α:Type} (l:List α) (k:Nat) (h:k<l.length):l.take (k+1)=l.take k++[l[k]]:=by
 rw[List.take_add_one,List.getElem?_eq_getElem h]
 rfl
def PQ:Value:=.agg #[.string ⟨#[]⟩,.int .i64 0,.slice none 0 0]
set_option maxHeartbeats 8000000 in
theorem jK (t:ByteArray) (ht:t.size≤1000) (w:World) (hb:Lb w) :
  Calls Tryz.prog 118 #[.string t] w fun e w'=>((∃f cv,eU t.data.toList=some f∧e=.returned (.tuple #[fZ f cv,.bool true])∧Ints w' cv f.cs∧∀k o n c,cv=.slice (some ⟨k,o,none⟩) n c→w.heap.size≤k∧∃cur fz,w'.heap[k]?=some (.cells cur 3 fz))∨(eU t.data.toList=none∧e=.returned (.tuple #[PQ,.bool false])))∧Since w w':=by
 obtain⟨a2S,hw1⟩:=Ht t;have HRP:Hid (eU t.data.toList=nG ((dV t).map (fun x=>x.data.toList))):=PP t;have HSM:Hid (∀x,x ∈ dV t→x.size≤1000):=rW _ _ t 1000 ht;have HB:Hid (Lb w):=hb;have hsp:=fun W (hW:Lb W) (m:Int) (hm:W.cell? ⟨1,0,none⟩=some (.int .i64 m))=>Tryz.strings_SplitN t ⟨#[32]⟩ 26 m W (by omega) hm (by decide) (by omega) (by omega)
 have hcs:Lib.cellsOf (dV t) (min 26 (t.size+1))=Lib.cellsOf (dV t) (min 26 (t.size+1)):=rfl;have HSP:Hid (∀W,Lb W→Calls Tryz.prog 174 #[.string t,.string ⟨#[32]⟩,.int .i64 26] W fun e w'=>e=.returned (.slice (some ⟨W.heap.size,0,none⟩) (dV t).length (min 26 (t.size+1)))∧w'=W.alloc (.cells (Lib.cellsOf (dV t) (min 26 (t.size+1))) 9)):=fun W hW=>by
  obtain⟨m,hm⟩:=hW.max;exact hsp W hW m hm
 clear hsp hcs hb;have Ug:Hid (∀j (h:j<(dV t).length),(Lib.cellsOf (dV t) (min 26 (t.size+1)))[j]?=some (.string (dV t)[j])):=fun j h=>by
  unfold Lib.cellsOf;rw[List.getElem?_toArray,List.getElem?_append_left (by simpa using h),List.getElem?_map,List.getElem?_eq_getElem h]
  rfl
 have HMN:Hid (((dV t).length:Int)≤(min 26 (t.size+1):Nat)):=Ho t;generalize dV t=W at *;generalize Lib.cellsOf W (min 26 (t.size+1))=cs at *;generalize min 26 (t.size+1)=cp at *;have hbx:ak (w.alloc (.cells #[.string ⟨#[]⟩,.int .i64 0,.slice none 0 0] 122)) w.heap.size 3 (fun j=>(#[.string ⟨#[]⟩,.int .i64 0,.slice none 0 0]:Array Value).getD j undef):=ak.new w 3 _ _ _ (fun j hj=>by
  obtain rfl | rfl | rfl:j=0∨j=1∨j=2:=by omega
  all_goals rfl) _ rfl
 have ma:Hid (ak (w.alloc (.cells #[.string ⟨#[]⟩,.int .i64 0,.slice none 0 0] 122)) w.heap.size 3 (fun j=>(#[.string ⟨#[]⟩,.int .i64 0,.slice none 0 0]:Array Value).getD j undef)):=hbx;have bY:Hid (Since w (w.alloc (.cells #[.string ⟨#[]⟩,.int .i64 0,.slice none 0 0] 122))):=(Since.refl w).alloc _;clear hbx;go_enter Tryz.func118,Tryz.ntmps118
 go_upto_region 1 with fail
 generalize w.alloc (.cells #[.string ⟨#[]⟩,.int .i64 0,.slice none 0 0] 122)=w1 at *;go_wp2_with fail
 refine(HSP.out _ (HB.out.since bY.out)).mono ?_;rintro e w2 ⟨rfl,hw2⟩;have HS2:Hid (Since w1 w2):=by show Since w1 w2;rw[hw2];exact(Since.refl _).alloc _
 have HW2:Hid (∀j (h:j<W.length),w2.cell? ⟨w1.heap.size,j,none⟩=some (.string W[j])):=fun j h=>by
  rw[hw2,World.cell?_alloc_new];exact Ug.out j h
 clear hw2 HSP Ug;have b0:=(ma.out.since HS2.out).cell 0 (by omega);have b1:=(ma.out.since HS2.out).cell 1 (by omega);have b2:=(ma.out.since HS2.out).cell 2 (by omega);have f0:=(ma.out.since HS2.out).frozen 0 (by omega);have f1:=(ma.out.since HS2.out).frozen 1 (by omega);have f2:=(ma.out.since HS2.out).frozen 2 (by omega);by_cases h2:W.length<2
 ·have h2':(W.length:Int)<2:=by omega
  have h2d:decide ((W.length:Int)<2)=true:=decide_eq_true h2';have HN:Hid (eU t.data.toList=none):=by
   show eU t.data.toList=none
   rw[HRP.out]
   match W,h2,hw1 with
   | [x],_,_=>rfl
  have HF:Hid (ak (((w2.setCell ⟨w.heap.size,0,none⟩ (.string ⟨#[]⟩)).setCell ⟨w.heap.size,1,none⟩ (.int .i64 0)).setCell ⟨w.heap.size,2,none⟩ (.slice none 0 0)) w.heap.size 3 (fun j=>(#[.string ⟨#[]⟩,.int .i64 0,.slice none 0 0]:Array Value).getD j undef)):=xP (ma.out.since HS2.out) _ _ _;go_wp2_with fail
  refine bodyPost_ret (aY Tryz.results118 _ _ _ w.heap.size _ _ _ (by rfl) (nK HF.out) Tryz.underlying122 (by rfl) (by kernel_rfl) rfl) rfl ?_;exact⟨Or.inr ⟨HN.out,rfl⟩,(((bY.out.trans HS2.out).setCell (p:=⟨w.heap.size,0,none⟩) (Nat.le_refl _) _).setCell (p:=⟨w.heap.size,1,none⟩) (Nat.le_refl _) _).setCell (p:=⟨w.heap.size,2,none⟩) (Nat.le_refl _) _⟩
 have h2':2≤(W.length:Int):=by omega
 have h2d:decide ((W.length:Int)<2)=false:=decide_eq_false (by omega);have q0:=HW2.out 0 (by omega);obtain⟨x,R,rfl⟩:∃x R,W=x::R:=by
  cases W with
  | nil=>simp at hw1
  | cons x R=>exact⟨x,R,rfl⟩
 have hx:x.size≤1000:=HSM.out x (by simp);have q0:w2.cell? ⟨w1.heap.size,0,none⟩=some (.string x):=q0;have hnm:=xH x;have HR1:Hid (1≤R.length):=by show 1≤R.length;simp at h2;omega
 cases hn:aP x.data.toList with
 | false=>
  rw[hn] at hnm;have HN:Hid (eU t.data.toList=none):=by
   show eU t.data.toList=none
   rw[HRP.out]
   match R,HR1.out with
   | y::r,_=>simp only[List.map_cons,nG,hn];rfl
  have HF:Hid (ak (((w2.setCell ⟨w.heap.size,0,none⟩ (.string ⟨#[]⟩)).setCell ⟨w.heap.size,1,none⟩ (.int .i64 0)).setCell ⟨w.heap.size,2,none⟩ (.slice none 0 0)) w.heap.size 3 (fun j=>(#[.string ⟨#[]⟩,.int .i64 0,.slice none 0 0]:Array Value).getD j undef)):=xP (ma.out.since HS2.out) _ _ _;go_wp2_with (go_at_call 7;refine(hnm _).mono ?_;rintro e w' ⟨rfl,rfl⟩)
  refine bodyPost_ret (aY Tryz.results118 _ _ _ w.heap.size _ _ _ (by rfl) (nK HF.out) Tryz.underlying122 (by rfl) (by kernel_rfl) rfl) rfl ?_;exact⟨Or.inr ⟨HN.out,rfl⟩,(((bY.out.trans HS2.out).setCell (p:=⟨w.heap.size,0,none⟩) (Nat.le_refl _) _).setCell (p:=⟨w.heap.size,1,none⟩) (Nat.le_refl _) _).setCell (p:=⟨w.heap.size,2,none⟩) (Nat.le_refl _) _⟩
 | true=>
  rw[hn] at hnm;clear b0 b1 b2 f0 f1 f2;have JL:Hid (aP x.data.toList=true):=hn;clear hn;have h3d:decide ((R.length:Int)+1<2)=false:=decide_eq_false (by have:=HR1.out;omega);have hcap:(R.length:Int)+1≤cp:=by have:=HMN.out;simp at this;omega
  have hcap2:(1:Int)≤(R.length:Int)+1:=by omega
  have hrl:R.length≤25:=by simp at a2S;omega
  have hcp1:¬cp=1:=by have:=HR1.out;omega
  go_wp2_with fail
  refine(hnm _).mono ?_;rintro e wy ⟨rfl,hwy⟩;rw[hwy];clear hwy wy hnm;have hmk:=ou w2;go_upto_region 5 with fail
  have HM3:Hid ((w2.alloc (.cells (madeCells #[Value.int .i64 0] 24) 3)).ownsRow w2.heap.size 3 1 (.slice (some ⟨w2.heap.size,0,none⟩) 0 24) 0 []):=World.ownsRow_made w2 _ 24 (Nat.le_refl _) (by decide) (by simp[madeCells]);have iw:Hid (Since w2 (w2.alloc (.cells (madeCells #[Value.int .i64 0] 24) 3))):=(Since.refl _).alloc _;clear hmk;generalize w2.alloc (.cells (madeCells #[Value.int .i64 0] 24) 3)=w3 at *;go_wp2_with fail
  obtain⟨i0,hi,hz0,hz1,hz2⟩:=info_parts info3';have HI:Hid (Tryz.prog.info? 3=some i0∧i0.zero=some (.int .i64 0)∧i0.size=1∧i0.bytes=8):=⟨hi,hz0,hz1,hz2⟩
  clear hi hz0 hz1 hz2;go_loopw [27,5,7,8,9] (fun i x _ _ _ wr=>∃(k:Nat) (L:List Int),k≤R.length∧i=.int .i64 k∧dJ ((R.take k).map (fun x=>x.data.toList))=some L∧L.length=k∧wr.ownsRow w2.heap.size 3 1 x k (eX L)∧Since w2 wr) (fun i _ _ _ _ _=>R.length-(intOf i).toNat)
  case atStart=>exact⟨0,[],by omega,rfl,rfl,rfl,HM3.out,iw.out⟩
  obtain⟨k,L,hk,rfl,hnu,hLk,hown,hs⟩:=hrel;have HNU:Hid (dJ ((R.take k).map (fun x=>x.data.toList))=some L):=hnu;have HLK:Hid (L.length=k):=hLk;have HOW:Hid (wr.ownsRow w2.heap.size 3 1 u5 k (eX L)):=hown;have jV:Hid (Since w2 wr):=hs;clear hnu hLk hown hs;by_cases hlt:k<R.length
  ·have hlt2:(k:Int)<R.length:=by omega
   have q1:wr.cell? ⟨w1.heap.size,1+k,none⟩=some (.string R[k]):=by
    have:=HW2.out (k+1) (by simp;omega);rw[Nat.add_comm,jV.out.cell (p:=⟨w1.heap.size,k+1,none⟩) (World.block_lt_of_cell? _ _ this),this]
    rfl
   have HT:Hid ((R.take (k+1)).map (fun x=>x.data.toList)=(R.take k).map (fun x=>x.data.toList)++[R[k].data.toList]):=by
    show (R.take (k+1)).map (fun x=>x.data.toList)=_
    rw[Ae R k hlt,List.map_append]
    rfl
   have Sw:Hid (R[k].size≤1000):=HSM.out R[k] (List.mem_cons_of_mem _ (List.getElem_mem hlt));generalize R[k]=y at *;clear q0;go_wp2_with fail
   refine(PM y (by have:=Sw.out;omega) _ (HB.out.since ((bY.out.trans HS2.out).trans jV.out))).mono ?_;rintro e w4 ⟨⟨er,rfl,her⟩,h4⟩;have iY:Hid (Since w2 w4):=jV.out.trans h4;have a0d:Hid (w4.ownsRow w2.heap.size 3 1 u5 k (eX L)):=bi HOW.out h4;clear h4 q1;rcases her with⟨v,hv,rfl⟩ | ⟨hv,te,pe,rfl⟩
   ·have HE:Hid (dJ ((R.take (k+1)).map (fun x=>x.data.toList))=some (L++[v])):=by
     show dJ ((R.take (k+1)).map (fun x=>x.data.toList))=_
     rw[HT.out,uh,HNU.out,hv]
    have HVN:Hid (zf y.data.toList=v):=by
     show zf y.data.toList=v
     unfold nD at hv;unfold zf;cases h:Lib.atoiAll y.data.toList with
     | ok u=>rw[h] at hv;injection hv
     | «syntax»=>rw[h] at hv;cases hv
     | range=>rw[h] at hv;cases hv
    rw[HVN.out];clear hv HVN;go_wp2_with (at_builtin;refine wpList_append_own _ (by rfl) _ _ _ (by rfl) w2.heap.size 3 i0 _ 1 8 Tryz.underlying90 HI.out.1 HI.out.2.1 HI.out.2.2.1 HI.out.2.2.2 (by rfl) (by decide) _ k (eX L) (by rfl) (World.ownsRow.alloc a0d.out _) ⟨w4.heap.size,0,none⟩ 1 1 [.int .i64 v] (by rfl) (by rfl) (World.news_of_block (heap_alloc_new w4 _)) (by simp[Value.oneCell']) (by unfold maxLen;omega) (by omega) (by have:=iY.out.size;simp;omega) ?_;intro x' w5 hown1 hgrow _)
    have Jz:Hid (w5.ownsRow w2.heap.size 3 1 x' (k+1) (eX (L++[v]))):=by
     show World.ownsRow _ _ _ _ _ _ _
     rw[show eX (L++[v])=eX L++[.int .i64 v] from by simp[eX]];exact hown1
    have Fx:Hid (Since w2 w5):=Below.grown (Since.alloc iY.out _) hgrow (by have:=iY.out.size;simp;omega) (fun j hj=>(a0d.out.lt j hj).1);clear hown1 hgrow;go_roundw
    case rel=>exact⟨k+1,L++[v],by omega,by go_num,HE.out,by simp[HLK.out],Jz.out,Fx.out⟩
    case measure=>simp[intOf];omega
   have HN:Hid (eU t.data.toList=none):=by
    have h1:dJ (R.map (fun x=>x.data.toList))=none:=El _ (k+1) (by
     rw[←List.map_take,HT.out,uh,HNU.out,hv])
    show eU t.data.toList=none
    rw[HRP.out]
    match R,HR1.out,h1 with
    | z::r,_,h1=>
     rw[List.map_cons] at h1;simp only[List.map_cons,nG,JL.out,if_true,h1]
   have SB:Hid (ak w4 w.heap.size 3 (fun j=>(#[.string ⟨#[]⟩,.int .i64 0,.slice none 0 0]:Array Value).getD j undef)):=ma.out.since (HS2.out.trans iY.out);have b0:=SB.out.cell 0 (by omega);have b1:=SB.out.cell 1 (by omega);have b2:=SB.out.cell 2 (by omega);have f0:=SB.out.frozen 0 (by omega);have f1:=SB.out.frozen 1 (by omega);have f2:=SB.out.frozen 2 (by omega);have HF:Hid (ak (((w4.setCell ⟨w.heap.size,0,none⟩ (.string ⟨#[]⟩)).setCell ⟨w.heap.size,1,none⟩ (.int .i64 0)).setCell ⟨w.heap.size,2,none⟩ (.slice none 0 0)) w.heap.size 3 (fun j=>(#[.string ⟨#[]⟩,.int .i64 0,.slice none 0 0]:Array Value).getD j undef)):=xP SB.out _ _ _;clear hv;go_wp2_with fail
   refine bodyPost_ret (aY Tryz.results118 _ _ _ w.heap.size _ _ _ (by rfl) (nK HF.out) Tryz.underlying122 (by rfl) (by kernel_rfl) rfl) rfl ?_;exact⟨Or.inr ⟨HN.out,rfl⟩,(((bY.out.trans (HS2.out.trans iY.out)).setCell (p:=⟨w.heap.size,0,none⟩) (Nat.le_refl _) _).setCell (p:=⟨w.heap.size,1,none⟩) (Nat.le_refl _) _).setCell (p:=⟨w.heap.size,2,none⟩) (Nat.le_refl _) _⟩
  have hke:k=R.length:=by omega
  subst hke;have hnu:=HNU.out;rw[List.take_length] at hnu;obtain⟨v,M,hLM⟩:∃v M,L=v::M:=by
   cases L with
   | nil=>have:=HLK.out;have:=HR1.out;simp at *;omega
   | cons v M=>exact⟨v,M,rfl⟩
  subst hLM;have HN:Hid (eU t.data.toList=some ⟨x,v,M⟩):=by
   show eU t.data.toList=_
   rw[HRP.out]
   match R,HR1.out,hnu with
   | z::r,_,h1=>
    rw[List.map_cons] at h1;simp only[List.map_cons,nG,JL.out,if_true,h1]
  clear hnu;obtain⟨g,cap,rfl⟩:∃g cap,u5=.slice (some ⟨g,0,none⟩) R.length cap:=by
   rcases HOW.out.2 with⟨_,h⟩ | ⟨g,cap,cur,h,_⟩
   ·have:=HR1.out;omega
   exact⟨g,cap,h⟩
  have HCG:Hid (R.length≤cap):=by
   rcases HOW.out.2 with⟨_,h⟩ | ⟨g',cap',cur,h,_,_,h3,_⟩
   ·have:=HR1.out;show R.length≤cap;omega
   injection h with _ _ h;show R.length≤cap;omega
  have Zl:Hid (∀W,Since wr W→∀(j:Nat) (y:Int),(v::M)[j]?=some y→W.cell? ⟨g,j,none⟩=some (.int .i64 y)):=fun W hW j y hy=>by
   have hj:=(List.getElem?_eq_some_iff.1 hy).1;have h1:=(bi HOW.out hW).cellAt j (by have:=HLK.out;omega);rw[h1];simp only[eX,List.getElem?_map,hy]
   rfl
  have ZF:Hid (wr.cell? ⟨w1.heap.size,0,none⟩=some (.string x)):=(jV.out.cell (p:=⟨w1.heap.size,0,none⟩) (World.block_lt_of_cell? _ _ q0)).trans q0;have SB:Hid (ak wr w.heap.size 3 (fun j=>(#[.string ⟨#[]⟩,.int .i64 0,.slice none 0 0]:Array Value).getD j undef)):=ma.out.since (HS2.out.trans jV.out);have a0e:=ed x (by omega);have Ug:Hid (∀W,Calls Tryz.prog 72 #[.string x] W fun e w'=>e=.returned (.string x)∧Since W w'):=a0e;clear a0e q0;have g1:(0:Int)<R.length:=by have:=HR1.out;omega
  have hRn:¬R=[]:=by intro e;have:=HR1.out;rw[e] at this;simp at this
  have a5U:R.length≠0:=by have:=HR1.out;omega
  have a5V:0<R.length:=by have:=HR1.out;omega
  have g2:(1:Int)≤R.length:=by have:=HR1.out;omega
  have g3:(R.length:Int)≤cap:=by have:=HCG.out;omega
  have g4:(1:Int)≤cap:=by omega
  have hgw:w2.heap.size≤g:=by
   rcases HOW.out.2 with⟨h,_⟩ | ⟨g',cap',cur,h,h2,_⟩
   ·cases h
   injection h with h;injection h with h;injection h with h;omega
  have hw12:w.heap.size<w1.heap.size:=ma.out.lt (by omega);have LD:Hid (∀W,Since wr W→W.cell? ⟨w1.heap.size,0,none⟩=some (.string x)∧W.cell? ⟨g,0,none⟩=some (.int .i64 v)):=fun W hW=>⟨(hW.cell (p:=⟨w1.heap.size,0,none⟩) (World.block_lt_of_cell? _ _ ZF.out)).trans ZF.out,Zl.out W hW 0 v rfl⟩
  have XN:=HS2.out.size;have HST:Hid (∀W a b c,Since wr W→(((W.setCell ⟨w.heap.size,0,none⟩ a).setCell ⟨w.heap.size,1,none⟩ b).setCell ⟨w.heap.size,2,none⟩ c).cell? ⟨w1.heap.size,0,none⟩=some (.string x)∧(((W.setCell ⟨w.heap.size,0,none⟩ a).setCell ⟨w.heap.size,1,none⟩ b).setCell ⟨w.heap.size,2,none⟩ c).cell? ⟨g,0,none⟩=some (.int .i64 v)):=fun W a b c hW=>by
   have h:=LD.out W hW;constructor
   ·rw[World.cell?_setCell_other _ _ _ _ (by intro e;injection e with e1;omega),World.cell?_setCell_other _ _ _ _ (by intro e;injection e with e1;omega),World.cell?_setCell_other _ _ _ _ (by intro e;injection e with e1;omega)];exact h.1
   rw[World.cell?_setCell_other _ _ _ _ (by intro e;injection e with e1;omega),World.cell?_setCell_other _ _ _ _ (by intro e;injection e with e1;omega),World.cell?_setCell_other _ _ _ _ (by intro e;injection e with e1;omega)];exact h.2
  have HGB:Hid (∀W a b c,Since wr W→∃cur fz,(((W.setCell ⟨w.heap.size,0,none⟩ a).setCell ⟨w.heap.size,1,none⟩ b).setCell ⟨w.heap.size,2,none⟩ c).heap[g]?=some (.cells cur 3 fz)):=fun W a b c hW=>by
   rcases HOW.out.2 with⟨h,_⟩ | ⟨g',cap',cur,h,_,h3,_⟩
   ·cases h
   injection h with h
   injection h with h
   injection h with h
   subst h;refine⟨cur,(0,0),?_⟩;rw[Below.heap_setCell _ _ _ _ (by show g≠w.heap.size;omega),Below.heap_setCell _ _ _ _ (by show g≠w.heap.size;omega),Below.heap_setCell _ _ _ _ (by show g≠w.heap.size;omega),hW.block g (df h3)];exact h3
  have hML:M.length=R.length-1:=by have:=HLK.out;simp at this;omega
  have hgs:g<wr.heap.size:=World.block_lt_of_cell? _ _ (LD.out wr (Since.refl _)).2;by_cases hc1:cap=1
  ·have Ws:Hid (∀W a b c,Since wr W→Ints (((W.setCell ⟨w.heap.size,0,none⟩ a).setCell ⟨w.heap.size,1,none⟩ b).setCell ⟨w.heap.size,2,none⟩ c) (.slice (some ⟨g,0,none⟩) (R.length-1) 0) M):=fun W a b c hW=>⟨_,_,by rw[hML],by have:=HCG.out;omega,fun h=>by have:=HCG.out;omega⟩
   clear hML;go_upto_region 13 with fail
   go_region_held3 (fun W=>W.cell? ⟨w1.heap.size,0,none⟩=some (.string x)∧W.cell? ⟨g,0,none⟩=some (.int .i64 v)) (first | exact LD.out _ (Since.refl _) | exact LD.out _ (Since.refl _).drew | exact LD.out _ (((Since.refl _).drew).trans h5) | exact HST.out _ _ _ _ (((Since.refl _).drew).trans h5)) (first
    | (go_simp;go_at_call 72;refine(Ug.out _).mono ?_;rintro e w5 ⟨rfl,h5⟩;have De:=SB.out.since (((Since.refl _).drew).trans h5);have b0:=De.cell 0 (by omega);have b1:=De.cell 1 (by omega);have b2:=De.cell 2 (by omega);have f0:=De.frozen 0 (by omega);have f1:=De.frozen 1 (by omega);have f2:=De.frozen 2 (by omega);dsimp only))
   all_goals
    have HF:=xP De (.string x) (.int .i64 v) (.slice (some ⟨g,0,none⟩) (R.length-1) 0);have qL:Since w w5:=(bY.out.trans (HS2.out.trans jV.out)).trans (((Since.refl _).drew).trans h5);have HI5:=Ws.out w5 (.string x) (.int .i64 v) (.slice (some ⟨g,0,none⟩) (R.length-1) 0) (((Since.refl _).drew).trans h5);clear b0 b1 b2 f0 f1 f2;go_wp2_with fail
    refine bodyPost_ret (aY Tryz.results118 _ _ _ w.heap.size _ _ _ (by rfl) (nK HF) Tryz.underlying122 (by rfl) (by kernel_rfl) rfl) rfl ?_;exact⟨Or.inl ⟨⟨x,v,M⟩,_,HN.out,rfl,HI5,fun k o n c e=>by injection e with e;injection e with e;injection e with e;subst e;exact⟨by omega,HGB.out _ _ _ _ (((Since.refl _).drew).trans h5)⟩⟩,((qL.setCell (p:=⟨w.heap.size,0,none⟩) (Nat.le_refl _) _).setCell (p:=⟨w.heap.size,1,none⟩) (Nat.le_refl _) _).setCell (p:=⟨w.heap.size,2,none⟩) (Nat.le_refl _) _⟩
  have Ws:Hid (∀W a b c,Since wr W→Ints (((W.setCell ⟨w.heap.size,0,none⟩ a).setCell ⟨w.heap.size,1,none⟩ b).setCell ⟨w.heap.size,2,none⟩ c) (.slice (some ⟨g,1,none⟩) (R.length-1) (cap-1)) M):=fun W a b c hW=>⟨_,_,by rw[hML],by have:=HCG.out;omega,fun h=>⟨g,1,rfl,by have:=hW.size;simp;omega,fun j y hy=>by
   rw[World.cell?_setCell_other _ _ _ _ (by intro e;injection e with e1;omega),World.cell?_setCell_other _ _ _ _ (by intro e;injection e with e1;omega),World.cell?_setCell_other _ _ _ _ (by intro e;injection e with e1;omega)];rw[Nat.add_comm];exact Zl.out W hW (j+1) y (by simpa using hy)⟩⟩
  clear hML;go_upto_region 13 with fail
  go_region_held3 (fun W=>W.cell? ⟨w1.heap.size,0,none⟩=some (.string x)∧W.cell? ⟨g,0,none⟩=some (.int .i64 v)) (first | exact LD.out _ (Since.refl _) | exact LD.out _ (Since.refl _).drew | exact LD.out _ (((Since.refl _).drew).trans h5) | exact HST.out _ _ _ _ (((Since.refl _).drew).trans h5)) (first
   | (go_simp;go_at_call 72;refine(Ug.out _).mono ?_;rintro e w5 ⟨rfl,h5⟩;have De:=SB.out.since (((Since.refl _).drew).trans h5);have b0:=De.cell 0 (by omega);have b1:=De.cell 1 (by omega);have b2:=De.cell 2 (by omega);have f0:=De.frozen 0 (by omega);have f1:=De.frozen 1 (by omega);have f2:=De.frozen 2 (by omega);dsimp only))
  all_goals
   have HF:=xP De (.string x) (.int .i64 v) (.slice (some ⟨g,1,none⟩) (R.length-1) (cap-1));have qL:Since w w5:=(bY.out.trans (HS2.out.trans jV.out)).trans (((Since.refl _).drew).trans h5);have HI5:=Ws.out w5 (.string x) (.int .i64 v) (.slice (some ⟨g,1,none⟩) (R.length-1) (cap-1)) (((Since.refl _).drew).trans h5);clear b0 b1 b2 f0 f1 f2;go_wp2_with fail
   refine bodyPost_ret (aY Tryz.results118 _ _ _ w.heap.size _ _ _ (by rfl) (nK HF) Tryz.underlying122 (by rfl) (by kernel_rfl) rfl) rfl ?_;exact⟨Or.inl ⟨⟨x,v,M⟩,_,HN.out,rfl,HI5,fun k o n c e=>by injection e with e;injection e with e;injection e with e;subst e;exact⟨by omega,HGB.out _ _ _ _ (((Since.refl _).drew).trans h5)⟩⟩,((qL.setCell (p:=⟨w.heap.size,0,none⟩) (Nat.le_refl _) _).setCell (p:=⟨w.heap.size,1,none⟩) (Nat.le_refl _) _).setCell (p:=⟨w.heap.size,2,none⟩) (Nat.le_refl _) _⟩
end En
end Go.Proofs.YtmhcfaaggkidjaaGreatDoor
end
section
namespace Go.Proofs.YtmhcfaaggkidjaaGreatDoor
set_option maxRecDepth 100000
namespace En
open Go.RowKit
theorem PR {w:World} {b b':Nat} {t:TypeId} {sz n:Nat} {v:Value} {xs:List Value} (h:w.ownsRow b t sz v n xs) (hb:b'≤b):w.ownsRow b' t sz v n xs:=by
 refine⟨h.1,?_⟩;rcases h.2 with h2 | ⟨g,cap,cur,hv,h3,rest⟩
 ·exact .inl h2
 exact .inr ⟨g,cap,cur,hv,Nat.le_trans hb h3,rest⟩
theorem Hu:lV=(List.range 21).map (fun (i:Nat)=>(i:Int)+3):=by decide
def dK (A:List Int) (k:Nat):List Int:=((List.range k).map (fun (i:Nat)=>(i:Int)+3)).filter (fun c=>!(decide (c ∈ A)))
theorem LF (l:List Fi):dK (bu l) 21=bS l:=by
 unfold dK bS;rw[Hu]
theorem PS {A:List Int} {k:Nat} (h:(k:Int)+3 ∈ A):dK A (k+1)=dK A k:=by
 unfold dK;rw[List.range_succ,List.map_append,List.filter_append];simp[h]
theorem LG {A:List Int} {k:Nat} (h:(k:Int)+3 ∉ A):dK A (k+1)=dK A k++[(k:Int)+3]:=by
 unfold dK;rw[List.range_succ,List.map_append,List.filter_append];simp[h]
theorem LH (A:List Int) (k:Nat):(dK A k).length≤k:=by
 unfold dK;refine Nat.le_trans (List.length_filter_le _ _) (by simp)
theorem LJ (l:List Fi) (k:Nat) (f:Fi) (h:l[k]?=some f):bu (l.take (k+1))=bu (l.take k)++f.cs:=by
 rw[List.take_add_one,h];simp[bu]
theorem Hw (l:List Fi) (k:Nat) (f:Fi) (h:l[k]?=some f):bu l=bu (l.take k)++(f.cs++bu (l.drop (k+1))):=by
 have hk:=(List.getElem?_eq_some_iff.1 h).1;have e:l=l.take k++(f::l.drop (k+1)):=by
  rw[←(List.getElem?_eq_some_iff.1 h).2,List.getElem_cons_drop];exact(List.take_append_drop k l).symm
 have:bu (l.take k++(f::l.drop (k+1)))=bu (l.take k)++(f.cs++bu (l.drop (k+1))):=by simp[bu]
 rw[←e] at this;exact this
theorem Hy {l:List Fi} (hn:(bu l).Nodup) {k j:Nat} {f:Fi} {c:Int} (h:l[k]?=some f) (hj:f.cs[j]?=some c):c ∉ bu (l.take k)++f.cs.take j:=by
 have e:=Hw l k f h;rw[e] at hn;have hjl:=(List.getElem?_eq_some_iff.1 hj).1;have e2:f.cs=f.cs.take j++(c::f.cs.drop (j+1)):=by
  rw[←(List.getElem?_eq_some_iff.1 hj).2,List.getElem_cons_drop];exact(List.take_append_drop j _).symm
 rw[e2,←List.append_assoc,←List.append_assoc] at hn;have h1:=(List.nodup_append.1 ((List.nodup_append.1 hn).1)).2.2;intro hm;exact h1 c hm c (by simp) rfl
set_option maxHeartbeats 8000000 in
theorem kV (l:List Fi) (v:Value) (w:World) (hl:iX w v l) (hr:right l=true) :
  Calls Tryz.prog 68 #[v] w fun e w'=>∃x,e=.returned x∧w'.ownsRow w.heap.size 3 1 x (bS l).length (eX (bS l))∧Since w w':=by
 obtain⟨a,c,rfl,hcap,hrest⟩:=hl;have HL:Hid (iX w (.slice a l.length c) l):=⟨a,c,rfl,hcap,hrest⟩
 have hr2:=hr;rw[right,Bool.and_eq_true,decide_eq_true_eq] at hr2;have LK:=hr2.1;have HN:Hid ((∀c,c ∈ bu l→3≤c∧c<24)∧(bu l).Nodup):=by
  obtain⟨h1,h2,_⟩:=iZ l _ _ hr2.2;exact⟨h1,h2⟩
 have HG:Hid (∀f,f ∈ l→Good f):=jO hr;clear hrest hr hr2;have hmm:=@run_makeMap Tryz.prog;have HM:Hid (aN (w.alloc (.map #[] 0)) w.heap.size (.agg #[]) []):=(MapKept.heap_alloc w (.map #[] 0)).1;have Js:Hid (Since w (w.alloc (.map #[] 0))):=(Since.refl _).alloc _;go_enter Tryz.func68,Tryz.ntmps68
 go_upto_region 2 with fail
 clear hmm;generalize w.alloc (.map #[] 0)=w0 at *;go_wp2_with fail
 go_loopw [15,5,7] (fun i _ _ wr=>∃k:Nat,k≤l.length∧i=.int .i64 k∧aN wr w.heap.size (.agg #[]) (bu (l.take k))∧Since w wr) (fun i _ _ _=>l.length-(intOf i).toNat)
 case atStart=>exact⟨0,by omega,rfl,HM.out,Js.out⟩
 obtain⟨k,hk,rfl,hset,hs⟩:=hrel;have vI:Hid (aN wr w.heap.size (.agg #[]) (bu (l.take k))):=hset;have HS:Hid (Since w wr):=hs;clear hset hs;by_cases hlt:k<l.length
 ·have hlt2:(k:Int)<l.length:=by omega
  have hE:Hid (l[k]?=some l[k]):=List.getElem?_eq_getElem hlt;have HGF:Hid (Good l[k]):=HG.out l[k] (List.getElem_mem hlt);have HAT:Hid (bu (l.take (k+1))=bu (l.take k)++l[k].cs):=LJ l k l[k] hE.out;have XO:Hid (∀j c,l[k].cs[j]?=some c→c ∉ bu (l.take k)++l[k].cs.take j):=fun j c hj=>Hy HN.out.2 hE.out hj
  generalize l[k]=f at *;obtain⟨kb,ko,cv,rfl,hi,hkb,q0,q1,q2⟩:=(HL.out.since HS.out).at_ hE.out;have HI:Hid (Ints wr cv f.cs):=hi;clear hi;obtain⟨ca,cc,rfl⟩:∃ca cc,cv=.slice ca f.cs.length cc:=by
   obtain⟨ca,cc,h,_⟩:=HI.out;exact⟨ca,cc,h⟩
  have lC:Hid (Since wr (wr.alloc (.cells #[.string f.nm,.int .i64 f.sz,.slice ca f.cs.length cc] 122))):=(Since.refl _).alloc _;have hcl:=HGF.out.Pz;go_wp2_with fail
  have a0f:Hid (aN (wr.alloc (.cells #[.string f.nm,.int .i64 f.sz,.slice ca f.cs.length cc] 122)) w.heap.size (.agg #[]) (bu (l.take k))):=vI.out.since lC.out;have HI1:Hid (Ints (wr.alloc (.cells #[.string f.nm,.int .i64 f.sz,.slice ca f.cs.length cc] 122)) (.slice ca f.cs.length cc) f.cs):=HI.out.since lC.out;have bY:Hid (Since w (wr.alloc (.cells #[.string f.nm,.int .i64 f.sz,.slice ca f.cs.length cc] 122))):=HS.out.trans lC.out;clear q0 q1 q2 lC HI vI HS;generalize wr.alloc (.cells #[.string f.nm,.int .i64 f.sz,.slice ca f.cs.length cc] 122)=w1 at *;go_loopw [22,7] (fun i _ wq=>∃j:Nat,j≤f.cs.length∧i=.int .i64 j∧aN wq w.heap.size (.agg #[]) (bu (l.take k)++f.cs.take j)∧Ints wq (.slice ca f.cs.length cc) f.cs∧Since w wq) (fun i _ _=>f.cs.length-(intOf i).toNat)
  case atStart=>exact⟨0,by omega,rfl,by simpa using a0f.out,HI1.out,bY.out⟩
  obtain⟨j,hj,rfl,hset,hi,hs⟩:=hrel;have vI:Hid (aN wr w.heap.size (.agg #[]) (bu (l.take k)++f.cs.take j)):=hset;have HI:Hid (Ints wr (.slice ca f.cs.length cc) f.cs):=hi;have HS:Hid (Since w wr):=hs;clear hset hi hs;by_cases hjl:j<f.cs.length
  ·have a5W:(j:Int)<f.cs.length:=by omega
   obtain⟨a',c',hv,_,h2⟩:=HI.out;obtain⟨ib,io,ha,_,hcell⟩:=h2 (by omega);injection hv with e1 e2 e3
   subst e1;subst ha;have q:=hcell j f.cs[j] (List.getElem?_eq_getElem hjl);have a0g:=XO.out j f.cs[j] (List.getElem?_eq_getElem hjl);have hrg:=HGF.out.cell f.cs[j] (List.getElem_mem hjl);have HE:Hid (bu (l.take k)++f.cs.take (j+1)=bu (l.take k)++f.cs.take j++[f.cs[j]]):=by
    show bu (l.take k)++f.cs.take (j+1)=_
    rw[Ae _ _ hjl];simp
   clear hcell h2 e2 e3;generalize f.cs[j]=x at *;have hfc:=rR x;rw[show mV x=true by unfold mV;simp;omega] at hfc;have hup:=xK wr w.heap.size _ x vI.out a0g;clear a0g;go_wp2_with (go_at_call 122;refine(hfc _).mono ?_;rintro e w' ⟨rfl,rfl⟩)
   go_roundw
   case rel=>exact⟨j+1,by omega,by go_num,by rw[HE.out];simp only[List.append_assoc];exact Eg vI.out,HI.out.fr vI.out (rT _ _ _ _),Fr.since (rT _ _ _ _) HS.out (Nat.le_refl _) (fun k e=>by cases e)⟩
   case measure=>simp[intOf];omega
  have Wv:j=f.cs.length:=by omega
  subst Wv;rw[List.take_length] at vI;have a0h:Hid (aN wr w.heap.size (.agg #[]) (bu (l.take (k+1)))):=by
   show aN wr _ _ (bu (l.take (k+1)))
   rw[HAT.out];exact vI.out
  go_wp2_with fail
  go_roundw
  case rel=>exact⟨k+1,by omega,by go_num,a0h.out,HS.out⟩
  case measure=>simp[intOf];omega
 have hke:k=l.length:=by omega
 subst hke;rw[List.take_length] at vI;obtain⟨i0,hi,hz0,hz1,hz2⟩:=info_parts info3';have HI:Hid (Tryz.prog.info? 3=some i0∧i0.zero=some (.int .i64 0)∧i0.size=1∧i0.bytes=8):=⟨hi,hz0,hz1,hz2⟩
 clear hi hz0 hz1 hz2;have Fw:Hid (dK (bu l) 21=bS l):=LF l;have a0i:Hid (aN wr w.heap.size (.agg #[]) (bu l)):=vI.out;generalize bu l=A at *;go_wp2_with fail
 go_loopw [9,8,10,11] (fun i x _ _ wq=>∃k:Nat,k≤21∧i=.int .i64 ((k:Int)+3)∧wq.ownsRow (w.heap.size+1) 3 1 x (dK A k).length (eX (dK A k))∧aN wq w.heap.size (.agg #[]) A∧Since w wq) (fun i _ _ _ _=>24-(intOf i).toNat)
 case atStart=>exact⟨0,by omega,rfl,World.ownsRow_nil _ _ _ _,a0i.out,HS.out⟩
 obtain⟨k,hk,rfl,hown,hset,hs⟩:=hrel;have HOW:Hid (wr.ownsRow (w.heap.size+1) 3 1 u8 (dK A k).length (eX (dK A k))):=hown;have PT:Hid (aN wr w.heap.size (.agg #[]) A):=hset;have HSk:Hid (Since w wr):=hs;clear hown hset hs;have hfl:=LH A k;by_cases h21:k<21
 ·have a5X:(k:Int)+3<24:=by omega
  have YZ:=xJ wr w.heap.size A ((k:Int)+3) PT.out;by_cases hin:(k:Int)+3 ∈ A
  ·rw[decide_eq_true hin] at YZ;have HE:Hid (dK A (k+1)=dK A k):=PS hin;clear hin;go_wp2_with fail
   go_roundw
   case rel=>exact⟨k+1,by omega,by go_num,by rw[HE.out];exact HOW.out.alloc _,PT.out.since ((Since.refl _).alloc _),HSk.out.alloc _⟩
   case measure=>simp[intOf];omega
  rw[decide_eq_false hin] at YZ;have HE:Hid (dK A (k+1)=dK A k++[(k:Int)+3]):=LG hin;have SC:Hid ((wr.alloc (.cells #[] 175)).ownsRow (w.heap.size+1) 3 1 u8 (dK A k).length (eX (dK A k))):=HOW.out.alloc _;have lC:Hid (Since w (wr.alloc (.cells #[] 175))):=HSk.out.alloc _;have Ww:Hid (aN (wr.alloc (.cells #[] 175)) w.heap.size (.agg #[]) A):=PT.out.since ((Since.refl _).alloc _);clear hin;go_upto_region 18 with fail
  generalize wr.alloc (.cells #[] 175)=wa at *;clear YZ;have hsl:=Ww.out.lt;go_wp2_with (at_builtin;refine wpList_append_own _ (by rfl) _ _ _ (by rfl) (w.heap.size+1) 3 i0 _ 1 8 Tryz.underlying90 HI.out.1 HI.out.2.1 HI.out.2.2.1 HI.out.2.2.2 (by rfl) (by decide) _ (dK A k).length (eX (dK A k)) (by rfl) (World.ownsRow.alloc SC.out _) ⟨wa.heap.size,0,none⟩ 1 1 [.int .i64 ((k:Int)+3)] (by rfl) (by rfl) (World.news_of_block (heap_alloc_new wa _)) (by simp[Value.oneCell']) (by unfold maxLen;omega) (by omega) (by simp;omega) ?_;intro x' w3 hown1 hgrow _)
  have Jz:Hid (w3.ownsRow (w.heap.size+1) 3 1 x' (dK A (k+1)).length (eX (dK A (k+1)))):=by
   show World.ownsRow _ _ _ _ _ _ _
   rw[HE.out,List.length_append,show eX (dK A k++[(k:Int)+3])=eX (dK A k)++[.int .i64 ((k:Int)+3)] from by simp[eX]];exact hown1
  have HB1:Hid (Below (w.heap.size+1) wa w3):=Below.grown (Below.alloc (Below.refl _ wa) (by omega) _) hgrow (by simp;omega) (fun j hj=>(SC.out.lt j hj).1);have Fx:Hid (Since w w3):=Below.trans (show Below w.heap.size w wa from lC.out) (Below.mono HB1.out (Nat.le_succ _));have a2W:Hid (aN w3 w.heap.size (.agg #[]) A):=(HB1.out.block w.heap.size (Nat.lt_succ_self _)).trans Ww.out;clear hown1 hgrow;go_roundw
  case rel=>exact⟨k+1,by omega,by go_num,Jz.out,a2W.out,Fx.out⟩
  case measure=>simp[intOf];omega
 have hke:k=21:=by omega
 subst hke;rw[Fw.out] at HOW;go_wp2_with fail
 go_ret;exact⟨_,rfl,PR HOW.out (Nat.le_succ _),HSk.out⟩
end En
end Go.Proofs.YtmhcfaaggkidjaaGreatDoor
end
