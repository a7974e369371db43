import Derived.Test.YtlgbfkcpdelcbaaGreatDoorJ03
import Derived.Test.YtlgbfkcpdelcbaaGreatDoorJ19
set_option linter.unusedSimpArgs false
set_option linter.unusedVariables false
set_option maxHeartbeats 8000000
set_option maxRecDepth 100000
namespace Go.Proofs.YtlgbfkcpdelcbaaGreatDoor
section
open Go.RowKit
def Dv.fz (D:Dv):Int:=if D.fused then D.left else -1
def bS (D:Dv)(lv:Nat→Value)(av wv:Value)(j:Nat):Value:=
 if j<8 then lv j else if j<16 then .int .i64 (D.sure (j-8)) else if j=16 then .string (txt 500 (D.slot 0)) else if j=17 then .string (txt 500 (D.slot 1))
 else if j=18 then av else if j=19 then wv else .int .i64 D.fz
theorem ic (D:Dv)(lv:Nat→Value)(av wv:Value)(z:Nat)(hz:z<8):bS D lv av wv z=lv z:=by unfold bS;rw[if_pos hz]
theorem JR (D:Dv)(lv:Nat→Value)(av wv:Value)(z:Nat)(hz:z<8):bS D lv av wv (8+z)=.int .i64 (D.sure z):=by
 unfold bS;rw[if_neg (by omega),if_pos (by omega),show 8+z-8=z by omega]
theorem JS (D:Dv)(lv:Nat→Value)(av wv:Value)(k:Nat)(hk:k<2):bS D lv av wv (16+k)=.string (txt 500 (D.slot k)):=by
 match k,hk with
 | 0,_=>rfl
 | 1,_=>rfl
theorem yK (D:Dv)(lv:Nat→Value)(av wv:Value):bS D lv av wv 18=av:=rfl
theorem qV (D:Dv)(lv:Nat→Value)(av wv:Value):bS D lv av wv 19=wv:=rfl
theorem Cf (D:Dv)(lv:Nat→Value)(av wv:Value):bS D lv av wv 20=.int .i64 D.fz:=rfl
def QB (ws:List (Nat × ByteArray)):List Value:=ws.map fun p=>.int .i64 (p.1:Int)
def lX (ws:List (Nat × ByteArray)):List Value:=ws.map fun p=>.string (txt 500 (sb p.2))
structure Ref (w:World)(rb N:Nat)(D:Dv)(lv:Nat→Value)(av wv:Value):Prop where
 aQ:aA w rb 21 (bS D lv av wv)
 row:∀z,z<8→w.ownsRow N 9 1 (lv z) (D.cnt z) (lm (D.blk z) (D.cnt z))
 at_:w.ownsRow N 3 1 av D.ws.length (QB D.ws)
 what:w.ownsRow N 9 1 wv D.ws.length (lX D.ws)
 apart:∀z,z<8→(lv z).ownBlock=none∨(lv z).ownBlock≠wv.ownBlock
 lt:rb<N
 le:N≤w.heap.size
theorem Ref.since {w w':World}{rb N:Nat}{D:Dv}{lv:Nat→Value}{av wv:Value}(h:Ref w rb N D lv av wv)(hs:Since w w'):Ref w' rb N D lv av wv:=
 ⟨h.aQ.since hs,fun z hz=>aP (h.row z hz) hs,aP h.at_ hs,aP h.what hs,h.apart,h.lt,Nat.le_trans h.le hs.size⟩
theorem jw {w:World}{N b e s n:Nat}{v:Value}{xs:List Value}(h:w.ownsRow N e s v n xs)(hb:b<N):v.ownBlock≠some b:=fun e=>by have:=(h.lt _ e).1;omega
theorem jV (x:Option Nat):x=none∨x≠none:=by cases x<;>simp
theorem Ref.turn {w:World}{rb N:Nat}{D D':Dv}{lv:Nat→Value}{av wv:Value}(h:Ref w rb N D lv av wv)(hc:aA w rb 21 (bS D' lv av wv))(h1:∀z,z<8→D'.cnt z=D.cnt z)(h2:∀z j,z<8→j<D.cnt z→D'.blk z j=D.blk z j)(h3:D'.ws=D.ws):Ref w rb N D' lv av wv where
 aQ:=hc
 row z hz:=by
  rw[h1 z hz];have e:lm (D'.blk z) (D.cnt z)=lm (D.blk z) (D.cnt z):=by
   unfold lm;exact List.map_congr_left (fun j hj=>by rw[h2 z j hz (List.mem_range.1 hj)])
  rw[e];exact h.row z hz
 at_:=by rw[h3];exact h.at_
 what:=by rw[h3];exact h.what
 apart:=h.apart
 lt:=h.lt
 le:=h.le
theorem fu (n lo hi:Int)(w:World):Calls Tryz.prog 110 #[.int .i64 n,.int .i64 lo,.int .i64 hi] w fun e w'=>e=.returned (.bool (decide (lo≤n)&&decide (n≤hi)))∧w'=w:=by
 by_cases h:lo≤n
 ·by_cases h2:n≤hi
  ·go_enter Tryz.func110,Tryz.ntmps110
   go_wp2_with fail
   go_ret;exact⟨by simp[h,h2],rfl⟩
  go_enter Tryz.func110,Tryz.ntmps110
  go_wp2_with fail
  go_ret;exact⟨by simp[h,h2],rfl⟩
 go_enter Tryz.func110,Tryz.ntmps110
 go_wp2_with fail
 go_ret;exact⟨by simp;omega,rfl⟩
theorem Zl (n:Nat):(⟨(Lib.repeatL (⟨#[0]⟩:ByteArray).data.toList n).toArray⟩:ByteArray)=txt n (fun _=>0):=by
 have e:∀n,Lib.repeatL [0] n=List.replicate n 0:=fun n=>by
  induction n with
  | zero=>rfl
  | succ n ih=>simp[Lib.repeatL,List.replicate_succ] at ih ⊢;exact ih
 unfold txt
 congr 2
 show Lib.repeatL [0] n=_
 rw[e];apply List.ext_getElem?
 intro i;by_cases h:i<n
 ·simp[h]
 simp[h]
theorem eH (n:Nat)(w:World)(hn:n≤1000):Calls Tryz.prog 33 #[.int .i64 (n:Int)] w fun e w'=>e=.returned (.string (txt n (fun _=>0)))∧Since w w':=by
 go_enter Tryz.func33,Tryz.ntmps33
 go_wp2_with fail
 refine(qy ⟨#[0]⟩ n _ (by omega) (by show 1*n≤_;omega)).mono ?_;rintro e w' ⟨rfl,hS⟩;rw[Zl];have hS2:Since w w':=hS;clear hS;go_wp2_with fail
 go_ret;exact⟨rfl,hS2⟩
theorem Zm (s:ByteArray)(m:Nat)(h:s.size≤m):s++txt (m-s.size) (fun _=>0)=txt m (sb s):=by
 have hsz:s.data.size=s.size:=rfl;apply ByteArray.ext
 apply Array.ext_getElem?
 intro i;have e1:(txt m (sb s)).data[i]?=((List.range m).map (sb s))[i]?:=by unfold txt;exact List.getElem?_toArray ..
 rw[e1,ByteArray.data_append,Array.getElem?_append,List.getElem?_map];by_cases h1:i<s.size
 ·rw[if_pos (by omega),List.getElem?_range (by omega)];simp only[Option.map_some];unfold sb;rw[Array.getElem?_eq_getElem (by omega)]
  rfl
 rw[if_neg (by omega)];have e2:(txt (m-s.size) (fun _=>0)).data[i-s.data.size]?=((List.range (m-s.size)).map (fun _=>(0:UInt8)))[i-s.data.size]?:=by unfold txt;exact List.getElem?_toArray ..
 rw[e2,List.getElem?_map];by_cases h2:i<m
 ·rw[List.getElem?_range (by omega),List.getElem?_range (by omega)];simp only[Option.map_some];rw[kS s i (by omega)]
 rw[List.getElem?_eq_none (by simp;omega),List.getElem?_eq_none (by simp;omega)]
 rfl
theorem QL (s:ByteArray)(m:Nat)(h:m≤s.size):s.extract 0 m=txt m (sb s):=by
 have hsz:s.data.size=s.size:=rfl;apply ByteArray.ext
 apply Array.ext_getElem?
 intro i;have e1:(txt m (sb s)).data[i]?=((List.range m).map (sb s))[i]?:=by unfold txt;exact List.getElem?_toArray ..
 rw[e1,List.getElem?_map,ByteArray.data_extract,Array.getElem?_extract];by_cases h1:i<m
 ·rw[if_pos (by omega),List.getElem?_range (by omega),Nat.zero_add];simp only[Option.map_some];unfold sb;rw[Array.getElem?_eq_getElem (by omega)]
  rfl
 rw[if_neg (by omega),List.getElem?_eq_none (by simp;omega)]
 rfl
theorem pu (s:ByteArray)(m:Nat)(w:World)(hm:m≤1000):Calls Tryz.prog 130 #[.string s,.int .i64 (m:Int)] w fun e w'=>e=.returned (.string (txt m (sb s)))∧Since w w':=by
 by_cases h:s.size<m
 ·have h2:(s.size:Int)<m:=by omega
  have E1:Hid ((m:Int)-s.size=((m-s.size:Nat):Int)):=show (m:Int)-s.size=((m-s.size:Nat):Int) by omega
  have HP:=hid (Zm s m (by omega));go_enter Tryz.func130,Tryz.ntmps130
  go_wp2_with fail
  rw[E1.out];refine(eH _ _ (by omega)).mono ?_;rintro e w' ⟨rfl,hS⟩;have hz:(txt (m-s.size) (fun _=>0)).size=m-s.size:=bG _ _;have hz2:(txt m (sb s)).size=m:=bG _ _;have hcut:(txt m (sb s)).extract 0 m=txt m (sb s):=by rw[QL _ m (by rw[bG];omega)];exact pq (fun i hi=>ma m _ i hi)
  have hsum:s.size+(txt (m-s.size) (fun _=>0)).size≤9223372036854775807:=by omega
  go_wp2_with fail
  rw[HP.o];go_wp2_with fail
  rw[hcut];go_ret;exact⟨rfl,hS⟩
 have h2:¬(s.size:Int)<m:=by omega
 have hc:=QL s m (by omega);go_enter Tryz.func130,Tryz.ntmps130
 go_wp2_with fail
 go_ret;first | exact⟨rfl,Since.refl _⟩ | exact⟨by rw[hc],Since.refl _⟩
end
section
open Go.RowKit
def XK:Nat→Value:=fun _=>.slice none 0 0
def Nf:Array Value:=#[.slice none 0 0,.slice none 0 0,.slice none 0 0,.slice none 0 0,.slice none 0 0,.slice none 0 0,.slice none 0 0,.slice none 0 0,.int .i64 0,.int .i64 0,.int .i64 0,.int .i64 0,.int .i64 0,.int .i64 0,.int .i64 0,.int .i64 0,.string (txt 500 (fun _=>0)),.string (txt 500 (fun _=>0)),.slice none 0 0,.slice none 0 0,.int .i64 (-1)]
theorem a0H:∀j,j<21→Nf[j]?=some (bS sW XK (.slice none 0 0) (.slice none 0 0) j):=by
 intro j hj
 match j,hj with
 | 0,_=>rfl
 | 1,_=>rfl
 | 2,_=>rfl
 | 3,_=>rfl
 | 4,_=>rfl
 | 5,_=>rfl
 | 6,_=>rfl
 | 7,_=>rfl
 | 8,_=>rfl
 | 9,_=>rfl
 | 10,_=>rfl
 | 11,_=>rfl
 | 12,_=>rfl
 | 13,_=>rfl
 | 14,_=>rfl
 | 15,_=>rfl
 | 16,_=>rfl
 | 17,_=>rfl
 | 18,_=>rfl
 | 19,_=>rfl
 | 20,_=>rfl
 | n+21,h=>exact absurd h (by omega)
theorem Uk (w:World):Calls Tryz.prog 5 #[] w fun e w'=>∃rb,e=.returned (.pointer (some ⟨rb,0,none⟩))∧w.heap.size≤rb∧w'.heap.size=rb+1∧aA w' rb 21 (bS sW XK (.slice none 0 0) (.slice none 0 0))∧Since w w':=by
 go_enter Tryz.func5,Tryz.ntmps5
 go_wp2_with fail
 refine(eH 500 _ (by omega)).mono ?_;rintro e w1 ⟨rfl,h1⟩;go_wp2_with fail
 refine(eH 500 _ (by omega)).mono ?_;rintro e w2 ⟨rfl,h2⟩;have hS:=h1.trans h2;clear h1 h2;go_wp2_with fail
 go_ret;refine⟨w2.heap.size,rfl,hS.size,by simp,?_,hS.alloc _⟩;exact aA.new w2 21 _ _ Nf a0H _ rfl
theorem Ref.start {w:World}{rb N:Nat}(h:aA w rb 21 (bS sW XK (.slice none 0 0) (.slice none 0 0)))(h1:rb<N)(h2:N≤w.heap.size):Ref w rb N sW XK (.slice none 0 0) (.slice none 0 0):=
 ⟨h,fun z _=>World.ownsRow_nil _ _ _ _,World.ownsRow_nil _ _ _ _,World.ownsRow_nil _ _ _ _,fun _ _=>Or.inl rfl,h1,h2⟩
theorem nu (D D':Dv)(lv:Nat→Value)(av wv:Value)(h1:D'.sure=D.sure)(h2:D'.slot=D.slot)(j:Nat)(hj:j<21):aJ (bS D lv av wv) 20 (.int .i64 D'.fz) j=bS D' lv av wv j:=by
 unfold aJ;by_cases h:j=20
 ·subst h;rw[if_pos rfl,Cf]
 rw[if_neg h];unfold bS;rw[h1,h2];split
 ·rfl
 split
 ·rfl
 split
 ·rfl
 split
 ·rfl
 split
 ·rfl
 split
 ·rfl
 exfalso;omega
theorem iJ (D:Dv)(lv:Nat→Value)(av wv:Value)(rb N:Nat)(w:World)(hd:Ref w rb N D lv av wv)(hl:0≤D.left∧D.left≤9223372036854775807) :
  Calls Tryz.prog 127 #[.pointer (some ⟨rb,0,none⟩)] w fun e w'=>e=.returned (.bool (!D.may))∧(D.may=false→w'=w)∧(D.may=true→Ref w' rb N D.ai lv av wv∧Fr rb none w w'):=by
 have c1:=hd.aQ.cell 20 (by omega);have f1:=hd.aQ.frozen 20 (by omega);rw[Cf] at c1;have HD:=hid hd;clear hd;by_cases hf:D.fused=true
 ·have hz:D.fz=D.left:=by unfold Dv.fz;rw[if_pos hf]
  rw[hz] at c1;have HF:=hid hf;have HZ:=hid hz;clear hf hz;by_cases h0:D.left=0
  ·have hm:D.may=false:=by unfold Dv.may;rw[HF.o,h0];rfl
   rw[h0] at c1;rw[hm];clear h0 hm;go_enter Tryz.func127,Tryz.ntmps127
   go_wp2_with fail
   go_ret;exact⟨rfl,fun _=>rfl,fun h=>by cases h⟩
  have hm:D.may=true:=by unfold Dv.may;rw[HF.o];simp[h0]
  rw[hm];obtain⟨l0,l1⟩:=hl;have hp:(0:Int)<D.left:=by omega
  have hbz:D.ai.fz=D.left-1:=by unfold Dv.ai Dv.fz;rw[if_pos HF.o,if_pos HF.o]
  have hc:=(HD.o.aQ.set 20 (by omega) (.int .i64 (D.left-1))).congr (g:=bS D.ai lv av wv) (fun j hj=>by rw[←hbz];exact nu D D.ai lv av wv (by unfold Dv.ai;rw[if_pos HF.o]) (by unfold Dv.ai;rw[if_pos HF.o]) j hj);have hr:Ref (w.setCell ⟨rb,20,none⟩ (.int .i64 (D.left-1))) rb N D.ai lv av wv:=by
   refine⟨hc,fun z hz=>?_,?_,?_,HD.o.apart,HD.o.lt,by have:=HD.o.le;simpa [World.setCell] using this⟩
   ·have e1:D.ai.cnt=D.cnt:=by unfold Dv.ai;rw[if_pos HF.o]
    have e2:D.ai.blk=D.blk:=by unfold Dv.ai;rw[if_pos HF.o]
    rw[e1,e2];exact ownsRow_setCell_below (HD.o.row z hz) HD.o.lt _
   ·have e1:D.ai.ws=D.ws:=by unfold Dv.ai;rw[if_pos HF.o]
    rw[e1];exact ownsRow_setCell_below HD.o.at_ HD.o.lt _
   have e1:D.ai.ws=D.ws:=by unfold Dv.ai;rw[if_pos HF.o]
   rw[e1];exact ownsRow_setCell_below HD.o.what HD.o.lt _
  have HR:=hid hr;clear hm hbz hc hr h0;go_enter Tryz.func127,Tryz.ntmps127
  go_wp2_with fail
  go_ret;exact⟨rfl,fun h=>(by cases h),fun _=>⟨HR.o,Fr.setCell _ _ _ _ _⟩⟩
 have hf':D.fused=false:=by simpa using hf
 have hz:D.fz=-1:=by unfold Dv.fz;rw[if_neg hf]
 have hm:D.may=true:=by unfold Dv.may;rw[hf'];rfl
 have hb:D.ai=D:=by unfold Dv.ai;rw[if_neg hf]
 rw[hz] at c1;rw[hm,hb];clear hf hf' hz hm hb;go_enter Tryz.func127,Tryz.ntmps127
 go_wp2_with fail
 go_ret;exact⟨rfl,fun h=>(by cases h),fun _=>⟨HD.o,Fr.refl _ _ _⟩⟩
theorem ny {z:Nat}(h:z<8):(decide ((0:Int)≤(z:Int))&&decide ((z:Int)≤7))=true:=by simp;omega
theorem Ul {z:Int}(h:¬(0≤z∧z<8)):(decide (0≤z)&&decide (z≤7))=false:=by simp;omega
theorem Cg {z:Nat}(h:z<2):(decide ((0:Int)≤(z:Int))&&decide ((z:Int)≤1))=true:=by simp;omega
theorem PM (rb:Nat)(z k:Int)(w:World)(hz:¬(0≤z∧z<8)) :
  Calls Tryz.prog 148 #[.pointer (some ⟨rb,0,none⟩),.int .i64 z,.int .i64 k] w fun e w'=>e=.returned (.tuple #[.string ⟨#[]⟩,.int .i64 2])∧w'=w:=by
 have hh:=Ul hz;go_enter Tryz.func148,Tryz.ntmps148
 go_wp2_with fail
 refine(fu _ _ _ _).mono ?_;rintro e w' ⟨rfl,rfl⟩;rw[hh];go_wp2_with fail
 go_ret2;exact⟨rfl,rfl⟩
theorem PN (D:Dv)(lv:Nat→Value)(av wv:Value)(rb N z k:Nat)(w:World)(hd:Ref w rb N D lv av wv)(hz:z<8)(hk:k<D.cnt z)(h16:D.cnt z≤16) :
  Calls Tryz.prog 148 #[.pointer (some ⟨rb,0,none⟩),.int .i64 z,.int .i64 k] w fun e w'=>e=.returned (.tuple #[.string (txt 128 (D.blk z k)),.int .i64 0])∧w'=w:=by
 have hh:=ny hz;have hz2:(z:Int)<8:=by omega
 have c1:=hd.aQ.cell z (by omega);rw[ic _ _ _ _ z hz] at c1;obtain⟨g,cap,e,c2⟩:∃g cap,lv z=.slice (some ⟨g,0,none⟩) (D.cnt z) cap∧w.cell? ⟨g,k,none⟩=some (.string (txt 128 (D.blk z k))):=by
  rcases (hd.row z hz).2 with⟨_,h0⟩ | ⟨g,cap,cur,h1,h2,h3,h4,h5,h6,h7⟩
  ·omega
  refine⟨g,cap,h1,?_⟩;have e:(lm (D.blk z) (D.cnt z))[k]?=some (.string (txt 128 (D.blk z k))):=by simp[lm,hk]
  rw[←h7,List.getElem?_take_of_lt (by omega),Array.getElem?_toList] at e;simp[World.cell?,h3,e]
 rw[e] at c1;clear e hd;have hk2:(k:Int)<D.cnt z:=by omega
 have hin:(decide ((0:Int)≤(k:Int))&&decide ((k:Int)≤(D.cnt z:Int)-1))=true:=by simp;omega
 go_enter Tryz.func148,Tryz.ntmps148
 go_wp2_with fail
 refine(fu _ _ _ _).mono ?_;rintro e w' ⟨rfl,rfl⟩;rw[hh];go_wp2_with fail
 refine(fu _ _ _ _).mono ?_;rintro e w' ⟨rfl,rfl⟩;rw[hin];go_wp2_with fail
 go_ret2;exact⟨rfl,rfl⟩
theorem JU (D:Dv)(lv:Nat→Value)(av wv:Value)(rb N z:Nat)(k:Int)(w:World)(hd:Ref w rb N D lv av wv)(hz:z<8)(hk:¬(0≤k∧k<D.cnt z))(h16:D.cnt z≤16) :
  Calls Tryz.prog 148 #[.pointer (some ⟨rb,0,none⟩),.int .i64 z,.int .i64 k] w fun e w'=>e=.returned (.tuple #[.string ⟨#[]⟩,.int .i64 7])∧w'=w:=by
 have hh:=ny hz;have hz2:(z:Int)<8:=by omega
 have c1:=hd.aQ.cell z (by omega);rw[ic _ _ _ _ z hz] at c1;obtain⟨a,c,e,_⟩:∃a c,lv z=.slice a (D.cnt z) c∧True:=by
  rcases (hd.row z hz).2 with⟨h1,h0⟩ | ⟨g,cap,cur,h1,_⟩
  ·exact⟨none,0,by rw[h1,h0],trivial⟩
  exact⟨_,_,h1,trivial⟩
 rw[e] at c1;clear e hd;have hin:(decide ((0:Int)≤k)&&decide (k≤(D.cnt z:Int)-1))=false:=by simp;omega
 go_enter Tryz.func148,Tryz.ntmps148
 go_wp2_with fail
 refine(fu _ _ _ _).mono ?_;rintro e w' ⟨rfl,rfl⟩;rw[hh];go_wp2_with fail
 refine(fu _ _ _ _).mono ?_;rintro e w' ⟨rfl,rfl⟩;rw[hin];go_wp2_with fail
 go_ret2;exact⟨rfl,rfl⟩
end
section
open Go.RowKit
theorem Ref.cells {w w':World}{rb N:Nat}{D D':Dv}{lv:Nat→Value}{av wv:Value}(h:Ref w rb N D lv av wv)(hf:Fr rb none w w')(hc:aA w' rb 21 (bS D' lv av wv))(h1:∀z,z<8→D'.cnt z=D.cnt z)(h2:∀z j,z<8→j<D.cnt z→D'.blk z j=D.blk z j)(h3:D'.ws=D.ws):Ref w' rb N D' lv av wv where
 aQ:=hc
 row z hz:=by
  rw[h1 z hz];have e:lm (D'.blk z) (D.cnt z)=lm (D.blk z) (D.cnt z):=by
   unfold lm;exact List.map_congr_left (fun j hj=>by rw[h2 z j hz (List.mem_range.1 hj)])
  rw[e];exact dh (h.row z hz) hf (jw (h.row z hz) h.lt) (jV _)
 at_:=by rw[h3];exact dh h.at_ hf (jw h.at_ h.lt) (jV _)
 what:=by rw[h3];exact dh h.what hf (jw h.what h.lt) (jV _)
 apart:=h.apart
 lt:=h.lt
 le:=Nat.le_trans h.le hf.size
theorem PO (D:Dv)(lv:Nat→Value)(av wv:Value)(rb N:Nat)(n:Int)(w:World)(hd:Ref w rb N D lv av wv) :
  Calls Tryz.prog 22 #[.pointer (some ⟨rb,0,none⟩),.int .i64 n] w fun e w'=>e=.returned (.tuple #[])∧Ref w' rb N (D.nL n) lv av wv∧Fr rb none w w':=by
 have c1:=hd.aQ.cell 20 (by omega);have f1:=hd.aQ.frozen 20 (by omega);rw[Cf] at c1;have HD:=hid hd;clear hd;by_cases h0:n<0
 ·have hz:(D.nL n).fz=-1:=by unfold Dv.nL Dv.fz;rw[if_neg (by simp;omega)]
  have hr:Ref ((w.setCell ⟨rb,20,none⟩ (.int .i64 n)).setCell ⟨rb,20,none⟩ (.int .i64 (-1))) rb N (D.nL n) lv av wv:=by
   refine HD.o.cells ((Fr.setCell _ _ _ _ _).trans' (Fr.setCell _ _ _ _ _)) (((HD.o.aQ.set 20 (by omega) _).set 20 (by omega) _).congr (fun j hj=>?_)) (fun _ _=>rfl) (fun _ _ _ _=>rfl) rfl;have:=nu D (D.nL n) lv av wv rfl rfl j hj;rw[hz] at this;rw[←this];unfold aJ;by_cases h:j=20
   ·rw[if_pos h,if_pos h]
   rw[if_neg h,if_neg h,if_neg h]
  have HR:=hid hr;clear hz hr;go_enter Tryz.func22,Tryz.ntmps22
  go_wp2_with fail
  go_end0
  exact⟨rfl,HR.o,(Fr.setCell _ _ _ _ _).trans' (Fr.setCell _ _ _ _ _)⟩
 have hz:(D.nL n).fz=n:=by unfold Dv.nL Dv.fz;rw[if_pos (by simp;omega)];show max n 0=n;omega
 have hr:Ref (w.setCell ⟨rb,20,none⟩ (.int .i64 n)) rb N (D.nL n) lv av wv:=by
  refine HD.o.cells (Fr.setCell _ _ _ _ _) ((HD.o.aQ.set 20 (by omega) _).congr (fun j hj=>?_)) (fun _ _=>rfl) (fun _ _ _ _=>rfl) rfl;have:=nu D (D.nL n) lv av wv rfl rfl j hj;rw[hz] at this;exact this
 have HR:=hid hr;clear hz hr;go_enter Tryz.func22,Tryz.ntmps22
 go_wp2_with fail
 go_end0
 exact⟨rfl,HR.o,Fr.setCell _ _ _ _ _⟩
theorem Ch (D:Dv)(lv:Nat→Value)(av wv:Value)(rb N z:Nat)(w:World)(hd:Ref w rb N D lv av wv)(hl:0≤D.left∧D.left≤9223372036854775807)(hz:z<8)(hm:D.may=false) :
  Calls Tryz.prog 71 #[.pointer (some ⟨rb,0,none⟩),.int .i64 z] w fun e w'=>e=.returned (.int .i64 14)∧w'=w:=by
 have hh:=ny hz;go_enter Tryz.func71,Tryz.ntmps71
 go_wp2_with fail
 refine(fu _ _ _ _).mono ?_;rintro e w' ⟨rfl,rfl⟩;rw[hh];go_wp2_with fail
 refine(iJ D lv av wv rb N _ hd hl).mono ?_;rintro e w1 ⟨rfl,h1,_⟩;obtain rfl:=h1 hm;rw[hm];go_wp2_with fail
 go_ret;exact⟨rfl,rfl⟩
theorem JV {w:World}{rb N z:Nat}{D:Dv}{lv:Nat→Value}{av wv:Value}(h:Ref w rb N D lv av wv)(hz:z<8) :
  Ref ((w.setCell ⟨rb,z,none⟩ (.slice none 0 0)).setCell ⟨rb,8+z,none⟩ (.int .i64 0)) rb N (D.reset z) (aJ lv z (.slice none 0 0)) av wv where
 aQ:=by
  refine((h.aQ.set z (by omega) _).set (8+z) (by omega) _).congr (fun j hj=>?_);unfold aJ bS;by_cases h1:j=8+z
  ·rw[if_pos h1,if_neg (by omega),if_pos (by omega)];simp[Dv.reset,show j-8=z by omega]
  rw[if_neg h1];by_cases h2:j=z
  ·rw[if_pos h2,if_pos (by omega)];dsimp only;rw[if_pos h2]
  rw[if_neg h2];by_cases h3:j<8
  ·rw[if_pos h3,if_pos h3];dsimp only;rw[if_neg h2]
  rw[if_neg h3,if_neg h3];by_cases h4:j<16
  ·rw[if_pos h4,if_pos h4];simp[Dv.reset,show ¬j-8=z by omega]
  rw[if_neg h4,if_neg h4]
  rfl
 row y hy:=by
  by_cases e:y=z
  ·subst e;have e1:(D.reset y).cnt y=0:=by simp[Dv.reset]
   rw[e1,show aJ lv y (.slice none 0 0) y=.slice none 0 0 by unfold aJ;rw[if_pos rfl]];exact World.ownsRow_nil _ _ _ _
  have e1:(D.reset z).cnt y=D.cnt y:=by simp[Dv.reset,e]
  have e2:(D.reset z).blk y=D.blk y:=by funext k i;simp[Dv.reset,e]
  rw[e1,e2,show aJ lv z (.slice none 0 0) y=lv y by unfold aJ;rw[if_neg e]];exact ownsRow_setCell_below (ownsRow_setCell_below (h.row y hy) h.lt _) h.lt _
 at_:=ownsRow_setCell_below (ownsRow_setCell_below h.at_ h.lt _) h.lt _
 what:=ownsRow_setCell_below (ownsRow_setCell_below h.what h.lt _) h.lt _
 apart y hy:=by
  by_cases e:y=z
  ·subst e;rw[show aJ lv y (.slice none 0 0) y=.slice none 0 0 by unfold aJ;rw[if_pos rfl]];exact Or.inl rfl
  rw[show aJ lv z (.slice none 0 0) y=lv y by unfold aJ;rw[if_neg e]];exact h.apart y hy
 lt:=h.lt
 le:=by have:=h.le;simpa [World.setCell] using this
theorem JW (D:Dv)(lv:Nat→Value)(av wv:Value)(rb N z:Nat)(w:World)(hd:Ref w rb N D lv av wv)(hl:0≤D.left∧D.left≤9223372036854775807)(hz:z<8)(hm:D.may=true) :
  Calls Tryz.prog 71 #[.pointer (some ⟨rb,0,none⟩),.int .i64 z] w fun e w'=>e=.returned (.int .i64 0)∧(∃dK,Ref w' rb N (D.ai.reset z) dK av wv)∧Fr rb none w w':=by
 have hh:=ny hz;have hz2:(z:Int)<8:=by omega
 have HD:=hid hd;clear hd;go_enter Tryz.func71,Tryz.ntmps71
 go_wp2_with fail
 refine(fu _ _ _ _).mono ?_;rintro e w' ⟨rfl,rfl⟩;rw[hh];go_wp2_with fail
 refine(iJ D lv av wv rb N _ HD.o hl).mono ?_;rintro e w1 ⟨rfl,_,h1⟩;obtain⟨hd1,hf1⟩:=h1 hm;rw[hm];have c1:=hd1.aQ.cell z (by omega);have f1:=hd1.aQ.frozen z (by omega);have c2:=hd1.aQ.cell (8+z) (by omega);have f2:=hd1.aQ.frozen (8+z) (by omega);have hne:¬8+z=z:=by omega
 have HR:=hid (JV hd1 hz);have HF:Hid (Fr rb none w' ((w1.setCell ⟨rb,z,none⟩ (.slice none 0 0)).setCell ⟨rb,8+z,none⟩ (.int .i64 0))):=(hf1.trans' (Fr.setCell _ _ _ _ _)).trans' (Fr.setCell _ _ _ _ _);clear h1 hd1 hf1;go_wp2_with fail
 go_region
 all_goals
  go_wp2_with fail
  go_ret;refine⟨rfl,⟨aJ lv z (.slice none 0 0),?_⟩,?_⟩
  ·first
   | exact HR.o
   | exact HR.o.since (Since.refl _).drew
  first
  | exact HF.o
  | exact HF.o.trans' (Fr.ag (Since.refl _).drew)
theorem JX (D:Dv)(lv:Nat→Value)(av wv:Value)(rb N k:Nat)(s:ByteArray)(w:World)(hd:Ref w rb N D lv av wv)(hl:0≤D.left∧D.left≤9223372036854775807)(hk:k<2)(hs:s.size≤500)(hm:D.may=false) :
  Calls Tryz.prog 64 #[.pointer (some ⟨rb,0,none⟩),.int .i64 k,.string s] w fun e w'=>e=.returned (.int .i64 14)∧w'=w:=by
 have hh:=Cg hk;have hs2:¬(500:Int)<s.size:=by omega
 go_enter Tryz.func64,Tryz.ntmps64
 go_wp2_with fail
 refine(fu _ _ _ _).mono ?_;rintro e w' ⟨rfl,rfl⟩;rw[hh];go_wp2_with fail
 refine(iJ D lv av wv rb N _ hd hl).mono ?_;rintro e w1 ⟨rfl,h1,_⟩;obtain rfl:=h1 hm;rw[hm];go_wp2_with fail
 go_ret;exact⟨rfl,rfl⟩
end
end Go.Proofs.YtlgbfkcpdelcbaaGreatDoor
