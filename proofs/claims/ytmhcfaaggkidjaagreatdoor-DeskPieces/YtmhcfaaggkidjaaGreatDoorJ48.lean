import Derived.Test.YtmhcfaaggkidjaaGreatDoorJ46
import Derived.Test.YtmhcfaaggkidjaaGreatDoorJ47
set_option linter.unusedSimpArgs false
set_option linter.unusedVariables false
section
namespace Go.Proofs.YtmhcfaaggkidjaaGreatDoor
set_option maxRecDepth 100000
namespace Dk
open Go.RowKit Go.Sort
open Vl
def mh:List (List UInt8):=[[98,108,111,99,107],[99,111,117,110,116],[99,114,97,115,104],[100,101,108],[102,108,117,115,104],[102,114,101,101],[102,117,115,101],[103,101,116],[104,101,108,112],[105,109,97,103,101],[108,97,121],[108,105,115,116],[110,101,119],[111,112,101,110],[112,117,116],[114,101,99,108,97,105,109],[115,112,111,105,108],[115,117,109]]
def EY:List ByteArray:=mh.map (fun l=>⟨l.toArray⟩)
def EZ:ByteArray:=dm EY
def Aw (Z Z':Sn) (a:qM):Prop:=Z'=Z∧a=(0,EZ)
def RH:Value→Option (DataW Unit × List MemPlace):=fun _=>some (.lit (.bool true),[])
theorem Cj:∀(L:List (ByteArray × Value)) (n:Nat),(mG n L).length=L.length
 | [],n=>rfl
 | x::r,n=>by show (mG (n+1) r).length+1=r.length+1;rw[Cj r (n+1)]
theorem yE:∀(L:List (ByteArray × Value)) (n:Nat),(∀x ∈ mG n L,n≤x.born∧x.born<n+L.length)∧((mG n L).map (·.born)).Nodup
 | [],n=>⟨fun x hx=>absurd hx List.not_mem_nil,List.nodup_nil⟩
 | y::r,n=>by
  obtain⟨h1,h2⟩:=yE r (n+1);refine⟨fun x hx=>?_,?_⟩
  ·rcases List.mem_cons.1 hx with rfl | hx
   ·exact⟨Nat.le_refl _,by show n<n+(r.length+1);omega⟩
   have:=h1 x hx;exact⟨by omega,by show x.born<n+(r.length+1);omega⟩
  show (n::(mG (n+1) r).map (·.born)).Nodup
  refine List.nodup_cons.2 ⟨fun hm=>?_,h2⟩;obtain⟨x,hx,e⟩:=List.mem_map.1 hm;have:=(h1 x hx).1;omega
theorem Fa:∀(L:List (ByteArray × Value)) (n:Nat),(mG n L).map (·.key)=L.map (fun x=>Value.string x.1)
 | [],n=>rfl
 | y::r,n=>by show _::(mG (n+1) r).map (·.key)=_::_;rw[Fa r (n+1)]
theorem Ka:∀(L:List (ByteArray × Value)) (n:Nat) (x:MapEntry),x ∈ mG n L→∃y ∈ L,x.key=.string y.1
 | [],n,x,h=>by cases h
 | y::r,n,x,h=>by
  rcases List.mem_cons.1 h with rfl | h
  ·exact⟨y,List.mem_cons_self,rfl⟩
  obtain⟨z,h1,h2⟩:=Ka r (n+1) x h;exact⟨z,List.mem_cons_of_mem _ h1,h2⟩
theorem IC (sb:Nat):((dx sb).map (fun x=>Value.string x.1)).Nodup:=by
 have h:((dx sb).map (fun x=>x.1.data.toList)).Nodup:=by
  have e:(dx sb).map (fun x=>x.1.data.toList)=(dx 0).map (fun x=>x.1.data.toList):=rfl;rw[e];decide
 rw[List.nodup_iff_pairwise_ne,List.pairwise_map] at h ⊢;exact h.imp (fun hne e=>hne (by injection e with e;rw[e]))
theorem Va (sb r:Nat) (w:World) (h:w.heap[r]?=some (.map (mG 0 (dx sb)).toArray 18)):∃D0:DataW Unit,w.ownsMap Tryz.prog 9 RH r 18 D0∧Maps.size D0=18∧(strKeys D0).isPerm mh=true:=by
 refine⟨.map (((mG 0 (dx sb)).toArray.toList.map (WideElems.rg Tryz.prog 9 RH)).foldr DataW.insert []),⟨_,_,h,⟨?_,⟨?_,?_,?_⟩,?_⟩,?_,rfl⟩,by kernel_rfl,by kernel_rfl⟩
 ·rw[List.size_toArray,Cj];show 18≤maxLen;unfold maxLen;omega
 ·intro x hx;have:=(yE (dx sb) 0).1 x (by simpa using hx);have e:(dx sb).length=18:=rfl;omega
 ·exact(yE (dx sb) 0).2
 ·show ((mG 0 (dx sb)).map (·.key)).Nodup
  rw[Fa];exact IC sb
 ·intro x hx;obtain⟨y,hy,hk⟩:=Ka (dx sb) 0 x (by simpa using hx);have hz:y.1.size≤maxLen:=by
   have:∀z ∈ (dx sb).map (fun x=>x.1.size),z≤100:=by
    have e:(dx sb).map (fun x=>x.1.size)=(dx 0).map (fun x=>x.1.size):=rfl;rw[e];decide
   have:=this y.1.size (List.mem_map.2 ⟨y,hy,rfl⟩);unfold maxLen;omega
  refine⟨(.string y.1.data.toList,.lit (.bool true)),?_⟩;unfold WideElems.rd RH;rw[hk,WideMaps.keyOf_string_mk Tryz.underlying9 hz]
  rfl
 rw[List.size_toArray,Cj];exact Nat.le_refl 18
theorem MH {D0:DataW Unit} {ss:List (List UInt8)} (h:ss.Perm (strKeys D0)) (h2:(strKeys D0).isPerm mh=true):ss.mergeSort (fun x y=>decide (x≤y))=mh:=by
 have hp:(ss.mergeSort (fun x y=>decide (x≤y))).Perm mh:=(List.mergeSort_perm ss _).trans (h.trans (List.isPerm_iff.1 h2));have hs:(ss.mergeSort (fun x y=>decide (x≤y))).Pairwise (fun x y=>decide (x≤y)=true):=List.pairwise_mergeSort (fun a b c h1 h2=>by
  simp only[decide_eq_true_eq] at *;exact List.le_trans h1 h2) (fun a b=>by
  simp only[Bool.or_eq_true,decide_eq_true_eq];exact List.le_total a b) ss
 refine List.Perm.eq_of_pairwise (le:=fun (x y:List UInt8)=>decide (x≤y)=true) (fun a b _ _ h1 h2=>?_) hs (by decide) hp;simp only[decide_eq_true_eq] at h1 h2;exact List.le_antisymm h1 h2
section
variable {w0 w w':World} {P:Nat→Prop} {sb:Nat} {Z:Sn} {n:Int}
set_option maxHeartbeats 8000000 in
theorem Yx (G:Gr w0) (h:eu w0 w P sb Z n) (x y:Value):Calls Tryz.prog 53 #[.pointer (some ⟨sb,0,none⟩),.agg #[x,y]] w (Does w0 P sb Z n Aw w):=by
 have hs1:Since w (w.alloc (.cells #[x,y] 92)):=(Since.refl w).alloc _;have HS:Hid (eu w0 w P sb Z n∧Since w (w.alloc (.cells #[x,y] 92))):=⟨h,hs1⟩
 have HC:Hid (Calls Tryz.prog 13 #[.pointer (some ⟨sb,0,none⟩)] (w.alloc (.cells #[x,y] 92)) fun e w'=>∃r,e=.returned (.map (some r))∧(w.alloc (.cells #[x,y] 92)).heap.size≤r∧w'.heap[r]?=some (.map (mG 0 (dx sb)).toArray 18)∧Since (w.alloc (.cells #[x,y] 92)) w'):=sM sb _;have HJ:Hid (∀(W:World) (v:Value) (ss:List (List UInt8)),(∃b,W.ownsRow b 9 1 v ss.length (mh.map encStr)∧ss.mergeSort (fun x y=>decide (x≤y))=mh)→Calls Tryz.prog 96 #[v,.string ⟨#[32]⟩] W fun e w'=>e=.returned (.string EZ)∧Since W w'):=fun W v ss hv=>by
  obtain⟨b,h1,h2⟩:=hv;have hl:ss.length=18:=by rw[←List.length_mergeSort (le:=fun x y=>decide (x≤y)) ss,h2];rfl
  rw[hl] at h1;have hw:Wd W (fun _=>False) v EY:=by
   rcases h1.2 with⟨hv,h0⟩ | ⟨g,cap,cur,hv,hb,hg,hc,_⟩
   ·cases h0
   refine⟨some ⟨g,0,none⟩,cap,hv,hc,fun _=>⟨g,0,rfl,fun e=>e,fun j x hx=>?_⟩⟩;have hj:=(List.getElem?_eq_some_iff.1 hx).1;rw[hv] at h1;have hj2:j<18:=hj;rw[Nat.zero_add,h1.cellAt j (by omega)];unfold EY at hx;rw[List.getElem?_map] at hx ⊢;cases hk:mh[j]? with
   | none=>rw[hk] at hx;cases hx
   | some l=>rw[hk] at hx;injection hx with hx;subst hx;rfl
  exact Aq v EY W hw (by decide) (by decide)
 have HD:Hid (Aw Z Z (0,EZ)):=⟨rfl,rfl⟩
 generalize EZ=ht at *;clear h hs1 G;go_enter Tryz.func53,Tryz.ntmps53
 go_wp2_with fail
 refine HC.out.mono ?_;rintro e w1 ⟨r,rfl,hr,hm,hs⟩;have bY:Hid (Since w w1):=HS.out.2.trans hs;obtain⟨D0,ho,hz,hp⟩:=Va sb r w1 hm;have HK:Hid (Calls Tryz.prog 108 #[.map (some r)] w1 fun e w'=>e=.returned (.func (.func 163) #[] #[.pointer (some ⟨w1.heap.size,0,none⟩)])∧w'=w1.alloc (.cells #[.map (some r)] 33)):=(callsIn_wide (n:=5)).1 (Tryz.zt (some r) w1);have HO:Hid (Calls Tryz.prog 107 #[.func (.func 163) #[] #[.pointer (some ⟨w1.heap.size,0,none⟩)]] (w1.alloc (.cells #[.map (some r)] 33)) fun e w'=>∃(v:Value) (ss:List (List UInt8)),e=.returned v∧(∃b,w'.ownsRow b 9 1 v ss.length (mh.map encStr)∧ss.mergeSort (fun x y=>decide (x≤y))=mh)∧Since (w1.alloc (.cells #[.map (some r)] 33)) w'):=((callsIn_wide (n:=5)).1 (Tryz.jU r 18 D0 RH w1 ho (by rw[hz];unfold maxLen;omega) (by rw[hz];omega))).mono (by
  rintro e w' ⟨v,ss,rfl,h1,h2,_,h3⟩;have h4:=MH h1 hp;rw[h4] at h2;exact⟨v,ss,rfl,⟨_,h2,h4⟩,h3⟩)
 clear hr hm hs ho hz hp;go_wp2_with fail
 refine HK.out.mono ?_;rintro e w2 ⟨rfl,hw2⟩;rw[hw2];clear hw2 w2;go_wp2_with fail
 refine HO.out.mono ?_;rintro e w3 ⟨v,ss,rfl,hv,hs3⟩;have HV:Hid (∃b,w3.ownsRow b 9 1 v ss.length (mh.map encStr)∧ss.mergeSort (fun x y=>decide (x≤y))=mh):=hv;have iw:Hid (Since w w3):=bY.out.trans (((Since.refl _).alloc _).trans hs3);clear hv hs3;go_wp2_with fail
 refine(HJ.out w3 v ss HV.out).mono ?_;rintro e w4 ⟨rfl,hs4⟩;have iY:Hid (Since w w4):=iw.out.trans hs4;clear hs4;go_wp2_with fail
 go_ret;exact⟨Z,_,rfl,HD.out,(HS.out.1.stay iY.out).le (by omega)⟩
end
end Dk
end Go.Proofs.YtmhcfaaggkidjaaGreatDoor
end
section
namespace Go.Proofs.YtmhcfaaggkidjaaGreatDoor
set_option maxRecDepth 100000
namespace Dk
open Go.RowKit
open Vl
abbrev Dn:=Sn→Sn→qM→Prop
abbrev Dw:=List ByteArray→List Int→Dn
def d0 (d:Dn):Dw
 | [],[]=>d
 | _,_=>fun _ _ _=>False
def SN (d:ByteArray→Dn):Dw
 | [s],[]=>d s
 | _,_=>fun _ _ _=>False
def Ze (d:Int→Dn):Dw
 | [],[m]=>d m
 | _,_=>fun _ _ _=>False
def Zf (d:Int→Int→Int→Dn):Dw
 | [],[a,b,c]=>d a b c
 | _,_=>fun _ _ _=>False
def ve (d:ByteArray→Int→Dn):Dw
 | [s],[m]=>d s m
 | _,_=>fun _ _ _=>False
def Ay (d:ByteArray→ByteArray→Int→Dn):Dw
 | [s,t],[m]=>d s t m
 | _,_=>fun _ _ _=>False
def a0N:Dw:=fun av _=>Qy av
structure Cm where
 nm:ByteArray
 fm:ByteArray
 ks:Option (List Bool)
 F:Nat
 d:Dw
def tab:List Cm:=[
 ⟨⟨#[110,101,119]⟩,⟨#[84]⟩,some [true],36,SN Iq⟩,
 ⟨⟨#[112,117,116]⟩,⟨#[84,78,84]⟩,some [true,false,true],37,Ay vK⟩,
 ⟨⟨#[100,101,108]⟩,⟨#[84]⟩,some [true],38,SN sJ⟩,
 ⟨⟨#[103,101,116]⟩,⟨#[84]⟩,some [true],39,SN oV⟩,
 ⟨⟨#[108,105,115,116]⟩,⟨#[]⟩,some [],40,d0 kC⟩,
 ⟨⟨#[102,108,117,115,104]⟩,⟨#[]⟩,some [],41,d0 gW⟩,
 ⟨⟨#[114,101,99,108,97,105,109]⟩,⟨#[]⟩,some [],42,d0 di⟩,
 ⟨⟨#[99,111,117,110,116]⟩,⟨#[]⟩,some [],43,d0 iL⟩,
 ⟨⟨#[102,114,101,101]⟩,⟨#[]⟩,some [],44,d0 kz⟩,
 ⟨⟨#[111,112,101,110]⟩,⟨#[]⟩,some [],45,d0 Am⟩,
 ⟨⟨#[102,117,115,101]⟩,⟨#[78]⟩,some [false],46,Ze EL⟩,
 ⟨⟨#[99,114,97,115,104]⟩,⟨#[78,84]⟩,some [false,true],47,ve qF⟩,
 ⟨⟨#[105,109,97,103,101]⟩,⟨#[]⟩,some [],48,d0 ut⟩,
 ⟨⟨#[108,97,121]⟩,⟨#[]⟩,some [],49,d0 Mv⟩,
 ⟨⟨#[115,112,111,105,108]⟩,⟨#[78,78,78]⟩,some [false,false,false],50,Zf kH⟩,
 ⟨⟨#[98,108,111,99,107]⟩,⟨#[84,78]⟩,some [true,false],51,ve qE⟩,
 ⟨⟨#[115,117,109]⟩,⟨#[46,46]⟩,none,52,a0N⟩,
 ⟨⟨#[104,101,108,112]⟩,⟨#[]⟩,some [],53,d0 Aw⟩]
def vg (s:ByteArray):List Cm→Option Cm
 | []=>none
 | m::r=>if s=m.nm then some m else vg s r
theorem oI {s:ByteArray}:∀{l:List Cm} {m:Cm},vg s l=some m→m ∈ l
 | [],m,h=>by cases h
 | x::r,m,h=>by
  unfold vg at h;split at h
  ·injection h with h;subst h;exact List.mem_cons_self
  exact List.mem_cons_of_mem _ (oI h)
def Yy (sb:Nat) (m:Cm):Value:=.agg #[.string m.fm,.func (.func m.F) #[.pointer (some ⟨sb,0,none⟩)] #[]]
theorem Vb (sb:Nat):dx sb=tab.map (fun m=>(m.nm,Yy sb m)):=rfl
theorem Az (sb:Nat) (s:ByteArray):∀l:List Cm,jS s (l.map (fun m=>(m.nm,Yy sb m)))=(vg s l).map (Yy sb)
 | []=>rfl
 | x::r=>by
  show (if s=x.nm then some (Yy sb x) else jS s (r.map (fun m=>(m.nm,Yy sb m))))=(if s=x.nm then some x else vg s r).map (Yy sb)
  split
  ·rfl
  exact Az sb s r
def Vd (m:Cm):Prop:=match m.ks with
 | none=>m.fm=⟨#[46,46]⟩
 | some ks=>jT m.fm ks
theorem IE:jT ⟨#[84]⟩ [true]:=⟨rfl,by decide,by kernel_rfl,fun j b h=>by
 match j,h with
 | 0,h=>(injection h with h;subst h;rfl)⟩
theorem Yz:jT ⟨#[78]⟩ [false]:=⟨rfl,by decide,by kernel_rfl,fun j b h=>by
 match j,h with
 | 0,h=>(injection h with h;subst h;rfl)⟩
theorem lZ:jT ⟨#[]⟩ []:=⟨rfl,by decide,by kernel_rfl,fun j b h=>by simp at h⟩
theorem Ve:jT ⟨#[84,78]⟩ [true,false]:=⟨rfl,by decide,by kernel_rfl,fun j b h=>by
 match j,h with
 | 0,h=>(injection h with h;subst h;rfl)
 | 1,h=>(injection h with h;subst h;rfl)⟩
theorem Vf:jT ⟨#[78,84]⟩ [false,true]:=⟨rfl,by decide,by kernel_rfl,fun j b h=>by
 match j,h with
 | 0,h=>(injection h with h;subst h;rfl)
 | 1,h=>(injection h with h;subst h;rfl)⟩
theorem QK:jT ⟨#[84,78,84]⟩ [true,false,true]:=⟨rfl,by decide,by kernel_rfl,fun j b h=>by
 match j,h with
 | 0,h=>(injection h with h;subst h;rfl)
 | 1,h=>(injection h with h;subst h;rfl)
 | 2,h=>(injection h with h;subst h;rfl)⟩
theorem QL:jT ⟨#[78,78,78]⟩ [false,false,false]:=⟨rfl,by decide,by kernel_rfl,fun j b h=>by
 match j,h with
 | 0,h=>(injection h with h;subst h;rfl)
 | 1,h=>(injection h with h;subst h;rfl)
 | 2,h=>(injection h with h;subst h;rfl)⟩
def yF (m:Cm) (av:List ByteArray) (bv:List Int):Prop:=match m.ks with
 | none=>bv=[]
 | some ks=>av.length=(ks.filter id).length∧bv.length=(ks.filter not).length
theorem uw:∀(ks:List Bool) (ws:List ByteArray) p,fI ks ws=some p→p.1.length=(ks.filter id).length∧p.2.length=(ks.filter not).length
 | [],[],p,h=>by simp only[fI] at h;injection h with h;subst h;exact⟨rfl,rfl⟩
 | true::ks,s::r,p,h=>by
  rw[fI] at h;cases h1:fI ks r with
  | none=>rw[h1] at h;cases h
  | some q=>
   rw[h1] at h;injection h with h;subst h
   have ih:=uw ks r q h1;exact⟨by simp[ih.1],by simp[ih.2]⟩
 | false::ks,s::r,p,h=>by
  rw[fI] at h;cases h1:fI ks r with
  | none=>rw[h1] at h;revert h;cases numOf s.data.toList<;>(intro h;cases h)
  | some q=>
   cases h2:numOf s.data.toList with
   | none=>rw[h2] at h;cases h
   | some u=>
    rw[h1,h2] at h;injection h with h
    subst h;have ih:=uw ks r q h1;exact⟨by simp[ih.1],by simp[ih.2]⟩
 | [],_::_,p,h=>by cases h
 | true::_,[],p,h=>by cases h
 | false::_,[],p,h=>by cases h
def lq (w0:World) (sb:Nat) (m:Cm):Prop:=∀(w:World) (P:Nat→Prop) (Z:Sn) (n:Int) (x y:Value) (av:List ByteArray) (bv:List Int),eu w0 w P sb Z n→0≤n→n<800000000→Wd w P x av→Nd w P y bv→(∀s ∈ av,s.size≤9000)→(dm av).size≤9000→av.length≤9000→(∀v ∈ bv,-9223372036854775808≤v∧v≤9223372036854775807)→yF m av bv→
 Calls Tryz.prog m.F #[.pointer (some ⟨sb,0,none⟩),.agg #[x,y]] w (Does w0 P sb Z n (m.d av bv) w)
theorem Ck {α:Type} {l:List α} (h:l.length=1):∃a,l=[a]:=by
 match l,h with
 | [a],_=>exact⟨a,rfl⟩
theorem a3E {α:Type} {l:List α} (h:l.length=2):∃a b,l=[a,b]:=by
 match l,h with
 | [a,b],_=>exact⟨a,b,rfl⟩
theorem a3F {α:Type} {l:List α} (h:l.length=3):∃a b c,l=[a,b,c]:=by
 match l,h with
 | [a,b,c],_=>exact⟨a,b,c,rfl⟩
theorem Vg {w0:World} {sb:Nat} (G:Gr w0):lq w0 sb ⟨⟨#[110,101,119]⟩,⟨#[84]⟩,some [true],36,SN Iq⟩:=fun w P Z n x y av bv h h0 hn hx hy hz hj hl hb hk=>by
  obtain⟨s,rfl⟩:=Ck hk.1;obtain rfl:=List.length_eq_zero_iff.1 hk.2;exact Yk G h h0 x y s (hz s (by simp)) hx
theorem Vh {w0:World} {sb:Nat} (G:Gr w0):lq w0 sb ⟨⟨#[112,117,116]⟩,⟨#[84,78,84]⟩,some [true,false,true],37,Ay vK⟩:=fun w P Z n x y av bv h h0 hn hx hy hz hj hl hb hk=>by
  obtain⟨s,t,rfl⟩:=a3E hk.1;obtain⟨m,rfl⟩:=Ck hk.2;exact a0F G h hn x y s t m hx hy (Nat.le_trans (hz s (by simp)) (by omega)) (Nat.le_trans (hz t (by simp)) (by omega))
theorem Vi {w0:World} {sb:Nat} (G:Gr w0):lq w0 sb ⟨⟨#[100,101,108]⟩,⟨#[84]⟩,some [true],38,SN sJ⟩:=fun w P Z n x y av bv h h0 hn hx hy hz hj hl hb hk=>by
  obtain⟨s,rfl⟩:=Ck hk.1;obtain rfl:=List.length_eq_zero_iff.1 hk.2;exact a0C G h hn x y s hx
theorem Vj {w0:World} {sb:Nat} (G:Gr w0):lq w0 sb ⟨⟨#[103,101,116]⟩,⟨#[84]⟩,some [true],39,SN oV⟩:=fun w P Z n x y av bv h h0 hn hx hy hz hj hl hb hk=>by
  obtain⟨s,rfl⟩:=Ck hk.1;obtain rfl:=List.length_eq_zero_iff.1 hk.2;exact a0D G h hn x y s hx
theorem QM {w0:World} {sb:Nat} (G:Gr w0):lq w0 sb ⟨⟨#[108,105,115,116]⟩,⟨#[]⟩,some [],40,d0 kC⟩:=fun w P Z n x y av bv h h0 hn hx hy hz hj hl hb hk=>by
  obtain rfl:=List.length_eq_zero_iff.1 hk.1;obtain rfl:=List.length_eq_zero_iff.1 hk.2;exact Yf G h hn x y
theorem MI {w0:World} {sb:Nat} (G:Gr w0):lq w0 sb ⟨⟨#[102,108,117,115,104]⟩,⟨#[]⟩,some [],41,d0 gW⟩:=fun w P Z n x y av bv h h0 hn hx hy hz hj hl hb hk=>by
  obtain rfl:=List.length_eq_zero_iff.1 hk.1;obtain rfl:=List.length_eq_zero_iff.1 hk.2;exact UH G h hn x y
theorem Fb {w0:World} {sb:Nat} (G:Gr w0):lq w0 sb ⟨⟨#[114,101,99,108,97,105,109]⟩,⟨#[]⟩,some [],42,d0 di⟩:=fun w P Z n x y av bv h h0 hn hx hy hz hj hl hb hk=>by
  obtain rfl:=List.length_eq_zero_iff.1 hk.1;obtain rfl:=List.length_eq_zero_iff.1 hk.2;exact Mq G h hn x y
theorem MJ {w0:World} {sb:Nat} (G:Gr w0):lq w0 sb ⟨⟨#[99,111,117,110,116]⟩,⟨#[]⟩,some [],43,d0 iL⟩:=fun w P Z n x y av bv h h0 hn hx hy hz hj hl hb hk=>by
  obtain rfl:=List.length_eq_zero_iff.1 hk.1;obtain rfl:=List.length_eq_zero_iff.1 hk.2;exact UI G h hn x y
theorem QN {w0:World} {sb:Nat} (G:Gr w0):lq w0 sb ⟨⟨#[102,114,101,101]⟩,⟨#[]⟩,some [],44,d0 kz⟩:=fun w P Z n x y av bv h h0 hn hx hy hz hj hl hb hk=>by
  obtain rfl:=List.length_eq_zero_iff.1 hk.1;obtain rfl:=List.length_eq_zero_iff.1 hk.2;exact Ye G h hn x y
theorem QO {w0:World} {sb:Nat} (G:Gr w0):lq w0 sb ⟨⟨#[111,112,101,110]⟩,⟨#[]⟩,some [],45,d0 Am⟩:=fun w P Z n x y av bv h h0 hn hx hy hz hj hl hb hk=>by
  obtain rfl:=List.length_eq_zero_iff.1 hk.1;obtain rfl:=List.length_eq_zero_iff.1 hk.2;exact Yd G h hn x y
theorem QP {w0:World} {sb:Nat} (G:Gr w0):lq w0 sb ⟨⟨#[102,117,115,101]⟩,⟨#[78]⟩,some [false],46,Ze EL⟩:=fun w P Z n x y av bv h h0 hn hx hy hz hj hl hb hk=>by
  obtain rfl:=List.length_eq_zero_iff.1 hk.1;obtain⟨m,rfl⟩:=Ck hk.2;exact Yg G h x y m (hb m (by simp)).2 hy
theorem MK {w0:World} {sb:Nat} (G:Gr w0):lq w0 sb ⟨⟨#[99,114,97,115,104]⟩,⟨#[78,84]⟩,some [false,true],47,ve qF⟩:=fun w P Z n x y av bv h h0 hn hx hy hz hj hl hb hk=>by
  obtain⟨s,rfl⟩:=Ck hk.1;obtain⟨m,rfl⟩:=Ck hk.2;exact UW G h hn x y s m (Nat.le_trans (hz s (by simp)) (by omega)) hx hy
theorem ML {w0:World} {sb:Nat} (G:Gr w0):lq w0 sb ⟨⟨#[105,109,97,103,101]⟩,⟨#[]⟩,some [],48,d0 ut⟩:=fun w P Z n x y av bv h h0 hn hx hy hz hj hl hb hk=>by
  obtain rfl:=List.length_eq_zero_iff.1 hk.1;obtain rfl:=List.length_eq_zero_iff.1 hk.2;exact Yi G h x y
theorem Vk {w0:World} {sb:Nat} (G:Gr w0):lq w0 sb ⟨⟨#[108,97,121]⟩,⟨#[]⟩,some [],49,d0 Mv⟩:=fun w P Z n x y av bv h h0 hn hx hy hz hj hl hb hk=>by
  obtain rfl:=List.length_eq_zero_iff.1 hk.1;obtain rfl:=List.length_eq_zero_iff.1 hk.2;exact a0G G h hn x y
theorem MM {w0:World} {sb:Nat} (G:Gr w0):lq w0 sb ⟨⟨#[115,112,111,105,108]⟩,⟨#[78,78,78]⟩,some [false,false,false],50,Zf kH⟩:=fun w P Z n x y av bv h h0 hn hx hy hz hj hl hb hk=>by
  obtain rfl:=List.length_eq_zero_iff.1 hk.1;obtain⟨a,b,c,rfl⟩:=a3F hk.2;exact UY G h hn x y a b c hy
theorem MN {w0:World} {sb:Nat} (G:Gr w0):lq w0 sb ⟨⟨#[98,108,111,99,107]⟩,⟨#[84,78]⟩,some [true,false],51,ve qE⟩:=fun w P Z n x y av bv h h0 hn hx hy hz hj hl hb hk=>by
  obtain⟨s,rfl⟩:=Ck hk.1;obtain⟨m,rfl⟩:=Ck hk.2;exact UT G h x y s m (hb m (by simp)) (Nat.le_trans (hz s (by simp)) (by omega)) hx hy
theorem Vm {w0:World} {sb:Nat} (G:Gr w0):lq w0 sb ⟨⟨#[115,117,109]⟩,⟨#[46,46]⟩,none,52,a0N⟩:=fun w P Z n x y av bv h h0 hn hx hy hz hj hl hb hk=>by
  skip
  exact a0I G h x y av (by omega) (by omega) hx
theorem QQ {w0:World} {sb:Nat} (G:Gr w0):lq w0 sb ⟨⟨#[104,101,108,112]⟩,⟨#[]⟩,some [],53,d0 Aw⟩:=fun w P Z n x y av bv h h0 hn hx hy hz hj hl hb hk=>by
  obtain rfl:=List.length_eq_zero_iff.1 hk.1;obtain rfl:=List.length_eq_zero_iff.1 hk.2;exact Yx G h x y
theorem YA {w0:World} {sb:Nat} (G:Gr w0):∀m ∈ tab,lq w0 sb m∧Vd m∧(∀(args:Array Value) (w:World),(callFunc m.F args).run Tryz.prog w=.ok (.enter m.F args) w):=by
 intro m hm;unfold tab at hm;simp only[List.mem_cons,List.not_mem_nil,or_false] at hm;rcases hm with rfl | rfl | rfl | rfl | rfl | rfl | rfl | rfl | rfl | rfl | rfl | rfl | rfl | rfl | rfl | rfl | rfl | rfl
 ·exact⟨Vg G,IE,enters_of Tryz.func36 (by kernel_rfl) rfl⟩
 ·exact⟨Vh G,QK,enters_of Tryz.func37 (by kernel_rfl) rfl⟩
 ·exact⟨Vi G,IE,enters_of Tryz.func38 (by kernel_rfl) rfl⟩
 ·exact⟨Vj G,IE,enters_of Tryz.func39 (by kernel_rfl) rfl⟩
 ·exact⟨QM G,lZ,enters_of Tryz.func40 (by kernel_rfl) rfl⟩
 ·exact⟨MI G,lZ,enters_of Tryz.func41 (by kernel_rfl) rfl⟩
 ·exact⟨Fb G,lZ,enters_of Tryz.func42 (by kernel_rfl) rfl⟩
 ·exact⟨MJ G,lZ,enters_of Tryz.func43 (by kernel_rfl) rfl⟩
 ·exact⟨QN G,lZ,enters_of Tryz.func44 (by kernel_rfl) rfl⟩
 ·exact⟨QO G,lZ,enters_of Tryz.func45 (by kernel_rfl) rfl⟩
 ·exact⟨QP G,Yz,enters_of Tryz.func46 (by kernel_rfl) rfl⟩
 ·exact⟨MK G,Vf,enters_of Tryz.func47 (by kernel_rfl) rfl⟩
 ·exact⟨ML G,lZ,enters_of Tryz.func48 (by kernel_rfl) rfl⟩
 ·exact⟨Vk G,lZ,enters_of Tryz.func49 (by kernel_rfl) rfl⟩
 ·exact⟨MM G,QL,enters_of Tryz.func50 (by kernel_rfl) rfl⟩
 ·exact⟨MN G,Ve,enters_of Tryz.func51 (by kernel_rfl) rfl⟩
 ·exact⟨Vm G,rfl,enters_of Tryz.func52 (by kernel_rfl) rfl⟩
 exact⟨QQ G,lZ,enters_of Tryz.func53 (by kernel_rfl) rfl⟩
end Dk
end Go.Proofs.YtmhcfaaggkidjaaGreatDoor
end
section
namespace Go.Proofs.YtmhcfaaggkidjaaGreatDoor
set_option maxRecDepth 100000
namespace Dk
open Go.RowKit
open En (Fi)
open Vl
open Fl (bR bT bf)
def Er (r:Int):Prop:=0≤r∧r≤100
theorem lu:Er 0:=⟨by decide,by decide⟩
theorem vo:Er 1:=⟨by decide,by decide⟩
theorem uy:Er 2:=⟨by decide,by decide⟩
theorem vw:Er 3:=⟨by decide,by decide⟩
theorem vz:Er 4:=⟨by decide,by decide⟩
theorem vB:Er 5:=⟨by decide,by decide⟩
theorem vC:Er 6:=⟨by decide,by decide⟩
theorem vD:Er 7:=⟨by decide,by decide⟩
theorem uz:Er 8:=⟨by decide,by decide⟩
theorem iU:Er 12:=⟨by decide,by decide⟩
theorem iV:Er 14:=⟨by decide,by decide⟩
theorem iW:Er 15:=⟨by decide,by decide⟩
theorem Cn (kb:ByteArray) (S:Vs) (i:Nat) (but:Int) (t:ByteArray):Er (S.put kb i but t).1:=by
 unfold Vs.put;split
 ·(first | exact lu | exact vo | exact uy | exact vw | exact vz | exact vB | exact vC | exact vD | exact uz | exact iU | exact iV | exact iW)
 split<;>(first | exact lu | exact vo | exact uy | exact vw | exact vz | exact vB | exact vC | exact vD | exact uz | exact iU | exact iV | exact iW)
theorem Vn (kt:ByteArray) (S:Vs) (U:Tw.Tb):Er (S.tell kt U).1:=by
 unfold Vs.tell;split
 ·(first | exact lu | exact vo | exact uy | exact vw | exact vz | exact vB | exact vC | exact vD | exact uz | exact iU | exact iV | exact iW)
 split<;>(first | exact lu | exact vo | exact uy | exact vw | exact vz | exact vB | exact vC | exact vD | exact uz | exact iU | exact iV | exact iW)
theorem Fe (kt:ByteArray) (S:Vs):Er (S.flush kt).1:=by
 unfold Vs.flush;split
 ·(first | exact lu | exact vo | exact uy | exact vw | exact vz | exact vB | exact vC | exact vD | exact uz | exact iU | exact iV | exact iW)
 split
 ·(first | exact lu | exact vo | exact uy | exact vw | exact vz | exact vB | exact vC | exact vD | exact uz | exact iU | exact iV | exact iW)
 split
 ·(first | exact lu | exact vo | exact uy | exact vw | exact vz | exact vB | exact vC | exact vD | exact uz | exact iU | exact iV | exact iW)
 exact Vn _ _ _
theorem Ff (kb:ByteArray) (z:Int):∀(l:List Nat) (S:Vs),Er (S.moves kb z l).1
 | [],S=>lu
 | i::r,S=>by
  unfold Vs.moves;split
  ·exact Ff kb z r _
  exact Cn _ _ _ _ _
theorem yG (kb kt:ByteArray) (S:Vs):Er (S.ae kb kt).1.2.2:=by
 unfold Vs.ae;split
 ·(first | exact lu | exact vo | exact uy | exact vw | exact vz | exact vB | exact vC | exact vD | exact uz | exact iU | exact iV | exact iW)
 split
 ·(first | exact lu | exact vo | exact uy | exact vw | exact vz | exact vB | exact vC | exact vD | exact uz | exact iU | exact iV | exact iW)
 dsimp only;split
 ·exact Ff _ _ _ _
 split
 ·exact Fe _ _
 split<;>(first | exact lu | exact vo | exact uy | exact vw | exact vz | exact vB | exact vC | exact vD | exact uz | exact iU | exact iV | exact iW)
theorem QR (kb kt:ByteArray) (S:Vs) (i:Int) (t:ByteArray):Er (S.write kb kt i t).1:=by
 unfold Vs.write;split
 ·(first | exact lu | exact vo | exact uy | exact vw | exact vz | exact vB | exact vC | exact vD | exact uz | exact iU | exact iV | exact iW)
 split
 ·(first | exact lu | exact vo | exact uy | exact vw | exact vz | exact vB | exact vC | exact vD | exact uz | exact iU | exact iV | exact iW)
 split
 ·(first | exact lu | exact vo | exact uy | exact vw | exact vz | exact vB | exact vC | exact vD | exact uz | exact iU | exact iV | exact iW)
 split
 ·(first | exact lu | exact vo | exact uy | exact vw | exact vz | exact vB | exact vC | exact vD | exact uz | exact iU | exact iV | exact iW)
 split
 ·(first | exact lu | exact vo | exact uy | exact vw | exact vz | exact vB | exact vC | exact vD | exact uz | exact iU | exact iV | exact iW)
 split
 ·split
  ·exact yG _ _ _
  exact Cn _ _ _ _ _
 exact Cn _ _ _ _ _
theorem Co (kb kt:ByteArray):∀(cs:List Int) (t:ByteArray) (S:Vs),Er (Fl.eZ kb kt cs t S).1
 | [],t,S=>lu
 | c::r,t,S=>by
  unfold Fl.eZ;split
  ·exact QR _ _ _ _ _
  exact Co kb kt r _ _
theorem bR.er {kb kt:ByteArray} {S:Vs} {l:List Fi} {z t:ByteArray} {r:Int} {S':Vs} {l':List Fi} (h:bR kb kt S l z t r S' l'):Er r:=by
 rcases h with⟨_,h,_⟩ | ⟨_,_,h,_⟩ | ⟨_,_,_,h,_⟩ | ⟨_,_,_,l1,_,_,h,_⟩
 ·rw[h];(first | exact lu | exact vo | exact uy | exact vw | exact vz | exact vB | exact vC | exact vD | exact uz | exact iU | exact iV | exact iW)
 ·rw[h];(first | exact lu | exact vo | exact uy | exact vw | exact vz | exact vB | exact vC | exact vD | exact uz | exact iU | exact iV | exact iW)
 ·rw[h];exact Co _ _ _ _ _
 rw[h];exact Co _ _ _ _ _
theorem bT.er {kb kt:ByteArray} {S:Vs} {l:List Fi} {z:ByteArray} {r:Int} {S':Vs} {l':List Fi} (h:bT kb kt S l z r S' l'):Er r:=by
 rcases h with⟨_,h,_⟩ | ⟨_,h,_⟩
 ·rw[h];(first | exact lu | exact vo | exact uy | exact vw | exact vz | exact vB | exact vC | exact vD | exact uz | exact iU | exact iV | exact iW)
 rw[h];exact Co _ _ _ _ _
theorem dL.er {ay:ByteArray} {D:Dv} {c:Int} {f:uT} {r:Int} (h:dL ay D c f r):Er r:=by
 obtain⟨r0,S,h0,⟨_,h1,_⟩ | ⟨_,_,h1,_⟩ | ⟨_,l,_,h1,_⟩⟩:=h
 ·rw[h1];rcases h0 with⟨_,h,_⟩ | ⟨_,_,h,_⟩ | ⟨_,_,_,h,_⟩ | ⟨_,_,_,h,_⟩<;>rw[h]<;>(first | exact lu | exact vo | exact uy | exact vw | exact vz | exact vB | exact vC | exact vD | exact uz | exact iU | exact iV | exact iW)
 ·rw[h1];(first | exact lu | exact vo | exact uy | exact vw | exact vz | exact vB | exact vC | exact vD | exact uz | exact iU | exact iV | exact iW)
 rw[h1];(first | exact lu | exact vo | exact uy | exact vw | exact vz | exact vB | exact vC | exact vD | exact uz | exact iU | exact iV | exact iW)
theorem eB.one {kb kt:ByteArray} {S S1 S2:Vs} {r1 r2:Int} (h1:eB kb kt S r1 S1) (h2:eB kb kt S r2 S2):r1=r2∧S1=S2:=by
 rcases h1 with⟨a,b,c⟩ | ⟨a,a1,b,c⟩ | ⟨a,a1,a2,b,c⟩ | ⟨a,a1,a2,b,c⟩<;>rcases h2 with⟨d,e,f⟩ | ⟨d,d1,e,f⟩ | ⟨d,d1,d2,e,f⟩ | ⟨d,d1,d2,e,f⟩
 ·exact⟨b.trans e.symm,c.trans f.symm⟩
 ·exact absurd a d
 ·exact absurd a d
 ·exact absurd a d
 ·exact absurd d a
 ·exact⟨b.trans e.symm,c.trans f.symm⟩
 ·exact absurd a1 d1
 ·exact absurd a1 d1
 ·exact absurd d a
 ·exact absurd d1 a1
 ·exact⟨b.trans e.symm,c.trans f.symm⟩
 ·exact absurd a2 d2
 ·exact absurd d a
 ·exact absurd d1 a1
 ·exact absurd d2 a2
 exact⟨b.trans e.symm,c.trans f.symm⟩
theorem dL.one {ay:ByteArray} {D:Dv} {c:Int} {f1 f2:uT} {r1 r2:Int} (h1:dL ay D c f1 r1) (h2:dL ay D c f2 r2):f1=f2∧r1=r2:=by
 obtain⟨s1,S1,h0,hA⟩:=h1;obtain⟨s2,S2,g0,hB⟩:=h2;obtain⟨rfl,rfl⟩:=eB.one h0 g0;rcases hA with⟨a,b,c⟩ | ⟨a,a1,b,c⟩ | ⟨a,l,a1,b,c⟩<;>rcases hB with⟨d,e,f⟩ | ⟨d,d1,e,f⟩ | ⟨d,m,d1,e,f⟩
 ·exact⟨c.trans f.symm,b.trans e.symm⟩
 ·exact absurd d a
 ·exact absurd d a
 ·exact absurd a d
 ·exact⟨c.trans f.symm,b.trans e.symm⟩
 ·rw[a1] at d1;cases d1
 ·exact absurd a d
 ·rw[a1] at d1;cases d1
 rw[a1] at d1;injection d1 with d1
 subst d1;exact⟨c.trans f.symm,b.trans e.symm⟩
def Fr' (f:uT):Prop:=match f with
 | ⟨.inl (_,l)⟩=>En.right l=true
 | ⟨.inr (_,_)⟩=>True
def Zr (Z:Sn):Prop:=Fr' Z.f∧ES Z.im
theorem dL.zr {ay:ByteArray} {D:Dv} {c:Int} {f:uT} {r:Int} (h:dL ay D c f r):Fr' f:=by
 obtain⟨r0,S,h0,⟨_,_,h1⟩ | ⟨_,_,_,h1⟩ | ⟨_,l,hp,_,h1⟩⟩:=h
 ·rw[h1];trivial
 ·rw[h1];trivial
 rw[h1];exact((En.oG _ _).1 hp).1
def eG (d:Dn):Prop:=(∀Z Z1 Z2 a1 a2,Zr Z→d Z Z1 a1→d Z Z2 a2→Z1=Z2∧a1=a2)∧∀Z Z1 a,Zr Z→d Z Z1 a→Zr Z1∧Er a.1
theorem oJ:eG (fun _ _ _=>False):=⟨fun _ _ _ _ _ _ h=>h.elim,fun _ _ _ _ h=>h.elim⟩
theorem je {F:Sn→Sn} {A:Sn→qM} {d:Dn} (hd:∀Z Z1 a,d Z Z1 a→Z1=F Z∧a=A Z) (hz:∀Z,Zr Z→Zr (F Z)) (he:∀Z,Er (A Z).1):eG d:=
 ⟨fun Z Z1 Z2 a1 a2 _ h1 h2=>⟨(hd _ _ _ h1).1.trans (hd _ _ _ h2).1.symm,(hd _ _ _ h1).2.trans (hd _ _ _ h2).2.symm⟩,fun Z Z1 a hr h=>by
  obtain⟨rfl,rfl⟩:=hd _ _ _ h;exact⟨hz Z hr,he Z⟩⟩
theorem vU {R:Sn→uT→Int→Prop} {s:Sn→ByteArray} {i:Sn→Im} {A:uT→Int→qM} {d:Dn} (hd:∀Z Z1 a,d Z Z1 a→∃f r,R Z f r∧Z1=⟨s Z,i Z,f⟩∧a=A f r) (h1:∀Z f1 r1 f2 r2,R Z f1 r1→R Z f2 r2→f1=f2∧r1=r2) (h2:∀Z f r,R Z f r→Fr' f∧Er (A f r).1) (h3:∀Z,Zr Z→ES (i Z)):eG d:=
 ⟨fun Z Z1 Z2 a1 a2 _ g1 g2=>by
  obtain⟨f1,r1,k1,rfl,rfl⟩:=hd _ _ _ g1;obtain⟨f2,r2,k2,rfl,rfl⟩:=hd _ _ _ g2;obtain⟨rfl,rfl⟩:=h1 _ _ _ _ _ k1 k2;exact⟨rfl,rfl⟩,fun Z Z1 a hr g=>by
  obtain⟨f,r,k,rfl,rfl⟩:=hd _ _ _ g;exact⟨⟨(h2 _ _ _ k).1,h3 Z hr⟩,(h2 _ _ _ k).2⟩⟩
theorem QS (s:ByteArray):eG (Iq s):=vU (R:=fun _ f r=>dL (dw s) mr 0 f r) (s:=fun _=>dw s) (i:=fun _=>sS) (A:=fun _ _=>(0,Qw)) (fun Z Z1 a h=>h) (fun _ _ _ _ _ h1 h2=>h1.one h2) (fun _ _ _ h=>⟨h.zr,lu⟩) (fun _ _=>Iy)
theorem MO:eG Am:=vU (R:=fun Z f r=>dL Z.ay Z.f.D Z.f.c f r) (s:=fun Z=>Z.ay) (i:=fun Z=>Z.im) (A:=fun f r=>(r,told sH f.count)) (fun Z Z1 a h=>h) (fun _ _ _ _ _ h1 h2=>h1.one h2) (fun _ _ _ h=>⟨h.zr,h.er⟩) (fun _ h=>h.2)
theorem IG (s:ByteArray) (m:Int):eG (qF s m):=vU (R:=fun Z f r=>dL Z.ay (iM Z.f.D m s) Z.f.c f r) (s:=fun Z=>Z.ay) (i:=fun Z=>Z.im) (A:=fun f r=>(r,told kG f.count)) (fun Z Z1 a h=>h) (fun _ _ _ _ _ h1 h2=>h1.one h2) (fun _ _ _ h=>⟨h.zr,h.er⟩) (fun _ h=>h.2)
theorem QT:eG Mv:=vU (R:=fun Z f r=>dL Z.ay (yz Z.f.D Z.im) Z.f.c f r) (s:=fun Z=>Z.ay) (i:=fun Z=>Z.im) (A:=fun _ _=>(0,UO)) (fun Z Z1 a h=>h) (fun _ _ _ _ _ h1 h2=>h1.one h2) (fun _ _ _ h=>⟨h.zr,lu⟩) (fun _ h=>h.2)
theorem II (x y z:Int):eG (kH x y z):=by
 refine⟨fun Z Z1 Z2 a1 a2 _ h1 h2=>?_,fun Z Z1 a hr h=>?_⟩
 ·rcases h1 with⟨n1,rfl,rfl⟩ | ⟨n1,f1,r1,k1,rfl,rfl⟩<;>rcases h2 with⟨n2,rfl,rfl⟩ | ⟨n2,f2,r2,k2,rfl,rfl⟩
  ·exact⟨rfl,rfl⟩
  ·exact absurd n2 n1
  ·exact absurd n1 n2
  obtain⟨rfl,rfl⟩:=k1.one k2;exact⟨rfl,rfl⟩
 rcases h with⟨n1,rfl,rfl⟩ | ⟨n1,f1,r1,k1,rfl,rfl⟩
 ·exact⟨hr,uy⟩
 exact⟨⟨k1.zr,hr.2⟩,lu⟩
theorem MP (m:Int):eG (EL m):=je (F:=fun Z=>⟨Z.ay,Z.im,Z.f.tF m⟩) (A:=fun _=>(0,WF)) (fun _ _ _ h=>h) (fun Z hr=>by
 refine⟨?_,hr.2⟩;have h1:=hr.1;show Fr' (Z.f.tF m)
 cases hf:Z.f using uT.cs with
 | op S l=>rw[hf] at h1;exact h1
 | no D c=>trivial) (fun _=>lu)
theorem IJ:eG ut:=je (F:=fun Z=>⟨Z.ay,Mk Z.f.D,Z.f⟩) (A:=fun _=>(0,Cc)) (fun _ _ _ h=>h) (fun Z hr=>⟨hr.1,UZ _⟩) (fun _=>lu)
theorem QU (ws:List ByteArray):eG (Qy ws):=je (F:=fun Z=>Z) (A:=fun _=>(0,Qx++lg (gq (dm ws)))) (fun _ _ _ h=>h) (fun Z hr=>hr) (fun _=>lu)
theorem MQ:eG Aw:=je (F:=fun Z=>Z) (A:=fun _=>(0,EZ)) (fun _ _ _ h=>h) (fun Z hr=>hr) (fun _=>lu)
theorem IK (s:ByteArray) (m:Int):eG (qE s m):=je (F:=fun Z=>Z) (A:=fun _=>if 0≤m∧m<4294967296 then (0,uu++lg (gY s m)) else (1,⟨#[]⟩)) (fun _ _ _ h=>h) (fun Z hr=>hr) (fun _=>by
 split
 ·exact lu
 (first | exact lu | exact vo | exact uy | exact vw | exact vz | exact vB | exact vC | exact vD | exact uz | exact iU | exact iV | exact iW))
theorem kD {d:Dn} {F:Sn→Vs→List Fi→uT→qM→Prop} (hn:∀Z D c Z1 a,Z.f=.no D c→d Z Z1 a→Z1=Z∧a=(8,⟨#[]⟩)) (ho:∀Z S l Z1 a,Z.f=.op S l→d Z Z1 a→∃f,Z1=⟨Z.ay,Z.im,f⟩∧F Z S l f a)
  (h1:∀Z S l f1 f2 a1 a2,En.right l=true→F Z S l f1 a1→F Z S l f2 a2→f1=f2∧a1=a2) (h2:∀Z S l f a,En.right l=true→F Z S l f a→Fr' f∧Er a.1):eG d:=by
 refine⟨fun Z Z1 Z2 a1 a2 hr g1 g2=>?_,fun Z Z1 a hr g=>?_⟩
 ·cases hf:Z.f using uT.cs with
  | no D c=>
   obtain⟨rfl,rfl⟩:=hn _ _ _ _ _ hf g1;obtain⟨rfl,rfl⟩:=hn _ _ _ _ _ hf g2;exact⟨rfl,rfl⟩
  | op S l=>
   obtain⟨f1,rfl,k1⟩:=ho _ _ _ _ _ hf g1;obtain⟨f2,rfl,k2⟩:=ho _ _ _ _ _ hf g2;have hr1:=hr.1;rw[hf] at hr1;obtain⟨rfl,rfl⟩:=h1 _ _ _ _ _ _ _ hr1 k1 k2;exact⟨rfl,rfl⟩
 cases hf:Z.f using uT.cs with
 | no D c=>
  obtain⟨rfl,rfl⟩:=hn _ _ _ _ _ hf g;exact⟨hr,uz⟩
 | op S l=>
  obtain⟨f1,rfl,k1⟩:=ho _ _ _ _ _ hf g;have hr1:=hr.1;rw[hf] at hr1;exact⟨⟨(h2 _ _ _ _ _ hr1 k1).1,hr.2⟩,(h2 _ _ _ _ _ hr1 k1).2⟩
theorem Cq (Z:Sn) {S:Vs} {l:List Fi} (h:Z.f=.op S l):Z=⟨Z.ay,Z.im,.op S l⟩:=by rw[←h]
theorem IL:eG gW:=kD (F:=fun Z S l f a=>f=.op (S.flush (aT Z.ay)).2 l∧a=((S.flush (aT Z.ay)).1,told lY (S.flush (aT Z.ay)).2.T.count)) (fun Z D c Z1 a hf h=>by unfold gW at h;rw[hf] at h;exact h) (fun Z S l Z1 a hf h=>by unfold gW at h;rw[hf] at h;exact⟨_,h.1,rfl,h.2⟩) (fun Z S l f1 f2 a1 a2 _ h1 h2=>⟨h1.1.trans h2.1.symm,h1.2.trans h2.2.symm⟩) (fun Z S l f a hr h=>by obtain⟨rfl,rfl⟩:=h;exact⟨hr,Fe _ _⟩)
theorem Cr:eG di:=kD (F:=fun Z S l f a=>f=.op (S.ae (bz Z.ay) (aT Z.ay)).2 l∧a=((S.ae (bz Z.ay) (aT Z.ay)).1.2.2,qC (S.ae (bz Z.ay) (aT Z.ay)).1)) (fun Z D c Z1 a hf h=>by unfold di at h;rw[hf] at h;exact h) (fun Z S l Z1 a hf h=>by unfold di at h;rw[hf] at h;exact⟨_,h.1,rfl,h.2⟩) (fun Z S l f1 f2 a1 a2 _ h1 h2=>⟨h1.1.trans h2.1.symm,h1.2.trans h2.2.symm⟩) (fun Z S l f a hr h=>by obtain⟨rfl,rfl⟩:=h;exact⟨hr,yG _ _ _⟩)
theorem IM:eG iL:=kD (F:=fun Z S l f a=>f=.op S l∧a=(0,told nT S.T.count)) (fun Z D c Z1 a hf h=>by unfold iL at h;rw[hf] at h;exact h) (fun Z S l Z1 a hf h=>by unfold iL at h;rw[hf] at h;exact⟨_,h.1.trans (Cq Z hf),rfl,h.2⟩) (fun Z S l f1 f2 a1 a2 _ h1 h2=>⟨h1.1.trans h2.1.symm,h1.2.trans h2.2.symm⟩) (fun Z S l f a hr h=>by obtain⟨rfl,rfl⟩:=h;exact⟨hr,lu⟩)
theorem MR:eG kz:=kD (F:=fun Z S l f a=>f=.op S l∧a=(0,told sG S.free)) (fun Z D c Z1 a hf h=>by unfold kz at h;rw[hf] at h;exact h) (fun Z S l Z1 a hf h=>by unfold kz at h;rw[hf] at h;exact⟨_,h.1.trans (Cq Z hf),rfl,h.2⟩) (fun Z S l f1 f2 a1 a2 _ h1 h2=>⟨h1.1.trans h2.1.symm,h1.2.trans h2.2.symm⟩) (fun Z S l f a hr h=>by obtain⟨rfl,rfl⟩:=h;exact⟨hr,lu⟩)
theorem MS:eG kC:=kD (F:=fun Z S l f a=>f=.op S l∧a=(0,dm (ik::l.map Fi.nm))) (fun Z D c Z1 a hf h=>by unfold kC at h;rw[hf] at h;exact h) (fun Z S l Z1 a hf h=>by unfold kC at h;rw[hf] at h;exact⟨_,h.1.trans (Cq Z hf),rfl,h.2⟩) (fun Z S l f1 f2 a1 a2 _ h1 h2=>⟨h1.1.trans h2.1.symm,h1.2.trans h2.2.symm⟩) (fun Z S l f a hr h=>by obtain⟨rfl,rfl⟩:=h;exact⟨hr,lu⟩)
theorem QV (s:ByteArray):eG (oV s):=kD (F:=fun Z S l f a=>f=.op S l∧a=(match Fl.aV S.X l s with | none=>(7,⟨#[]⟩) | some t=>(0,jd ⟨t.toArray⟩))) (fun Z D c Z1 a hf h=>by unfold oV at h;rw[hf] at h;exact h) (fun Z S l Z1 a hf h=>by unfold oV at h;rw[hf] at h;exact⟨_,h.1.trans (Cq Z hf),rfl,h.2⟩) (fun Z S l f1 f2 a1 a2 _ h1 h2=>⟨h1.1.trans h2.1.symm,h1.2.trans h2.2.symm⟩) (fun Z S l f a hr h=>by
 obtain⟨rfl,rfl⟩:=h;refine⟨hr,?_⟩;split
 ·(first | exact lu | exact vo | exact uy | exact vw | exact vz | exact vB | exact vC | exact vD | exact uz | exact iU | exact iV | exact iW)
 exact lu)
theorem QW (s:ByteArray):eG (sJ s):=kD (F:=fun Z S l f a=>∃r S' l',bT (bz Z.ay) (aT Z.ay) S l s r S' l'∧f=.op S' l'∧a=(r,Qs)) (fun Z D c Z1 a hf h=>by unfold sJ at h;rw[hf] at h;exact h) (fun Z S l Z1 a hf h=>by unfold sJ at h;rw[hf] at h;obtain⟨r,S',l',h1,h2,h3⟩:=h;exact⟨_,h2,r,S',l',h1,rfl,h3⟩) (fun Z S l f1 f2 a1 a2 _ h1 h2=>by
 obtain⟨r,S',l',h1,rfl,rfl⟩:=h1;obtain⟨r2,S2,l2,h2,rfl,rfl⟩:=h2;obtain⟨rfl,rfl,rfl⟩:=h1.one h2;exact⟨rfl,rfl⟩) (fun Z S l f a hr h=>by obtain⟨r,S',l',h1,rfl,rfl⟩:=h;exact⟨h1.right hr,bT.er h1⟩)
theorem QX (s t:ByteArray) (k:Int):eG (vK s t k):=by
 by_cases hb:eY t k
 ·refine je (F:=fun Z=>Z) (A:=fun _=>(2,⟨#[]⟩)) (fun Z Z1 a h=>?_) (fun Z hr=>hr) (fun _=>by (first | exact lu | exact vo | exact uy | exact vw | exact vz | exact vB | exact vC | exact vD | exact uz | exact iU | exact iV | exact iW));rcases h with⟨_,h⟩ | ⟨h,_⟩
  ·exact h
  exact absurd hb h
 refine kD (F:=fun Z S l f a=>∃r S' l',bR (bz Z.ay) (aT Z.ay) S l s (ll t k) r S' l'∧f=.op S' l'∧a=(r,EK)) (fun Z D c Z1 a hf h=>?_) (fun Z S l Z1 a hf h=>?_) (fun Z S l f1 f2 a1 a2 hr h1 h2=>?_) (fun Z S l f a hr h=>?_)
 ·rcases h with⟨h,_⟩ | ⟨_,h⟩
  ·exact absurd h hb
  rw[hf] at h;exact h
 ·rcases h with⟨h,_⟩ | ⟨_,h⟩
  ·exact absurd h hb
  rw[hf] at h;obtain⟨r,S',l',h1,h2,h3⟩:=h;exact⟨_,h2,r,S',l',h1,rfl,h3⟩
 ·obtain⟨r,S',l',h1,rfl,rfl⟩:=h1;obtain⟨r2,S2,l2,h2,rfl,rfl⟩:=h2;obtain⟨rfl,rfl,rfl⟩:=h1.one hr h2;exact⟨rfl,rfl⟩
 obtain⟨r,S',l',h1,rfl,rfl⟩:=h;exact⟨h1.right hr,bR.er h1⟩
theorem jf {d:Dn} (h:eG d):∀av bv,eG (d0 d av bv):=fun av bv=>by
 unfold d0;split
 ·exact h
 exact oJ
theorem yH {d:ByteArray→Dn} (h:∀s,eG (d s)):∀av bv,eG (SN d av bv):=fun av bv=>by
 unfold SN;split
 ·exact h _
 exact oJ
theorem QY {d:Int→Dn} (h:∀s,eG (d s)):∀av bv,eG (Ze d av bv):=fun av bv=>by
 unfold Ze;split
 ·exact h _
 exact oJ
theorem QZ {d:Int→Int→Int→Dn} (h:∀a b c,eG (d a b c)):∀av bv,eG (Zf d av bv):=fun av bv=>by
 unfold Zf;split
 ·exact h _ _ _
 exact oJ
theorem yI {d:ByteArray→Int→Dn} (h:∀s m,eG (d s m)):∀av bv,eG (ve d av bv):=fun av bv=>by
 unfold ve;split
 ·exact h _ _
 exact oJ
theorem IP {d:ByteArray→ByteArray→Int→Dn} (h:∀s t m,eG (d s t m)):∀av bv,eG (Ay d av bv):=fun av bv=>by
 unfold Ay;split
 ·exact h _ _ _
 exact oJ
theorem Ra:∀m ∈ tab,∀av bv,eG (m.d av bv):=by
 intro m hm;unfold tab at hm;simp only[List.mem_cons,List.not_mem_nil,or_false] at hm;rcases hm with rfl | rfl | rfl | rfl | rfl | rfl | rfl | rfl | rfl | rfl | rfl | rfl | rfl | rfl | rfl | rfl | rfl | rfl
 ·exact yH QS
 ·exact IP QX
 ·exact yH QW
 ·exact yH QV
 ·exact jf MS
 ·exact jf IL
 ·exact jf Cr
 ·exact jf IM
 ·exact jf MR
 ·exact jf MO
 ·exact QY MP
 ·exact yI IG
 ·exact jf IJ
 ·exact jf QT
 ·exact QZ II
 ·exact yI IK
 ·exact fun av bv=>QU av
 exact jf MQ
def WL (r:Nat):Bool:=r==32
def eF (s:ByteArray):List ByteArray:=Lib.goFieldsP WL s
def sOk:ByteArray:=⟨#[111,107]⟩
def Line (line:ByteArray):Dn:=match eF line with
 | []=>fun Z Z' a=>Z'=Z∧a=(0,sOk)
 | c::r=>match vg c tab with
  | none=>fun Z Z' a=>Z'=Z∧a=(3,⟨#[]⟩)
  | some m=>match m.ks with
   | none=>m.d r []
   | some ks=>match fI ks r with
    | none=>fun Z Z' a=>Z'=Z∧a=(3,⟨#[]⟩)
    | some p=>m.d p.1 p.2
theorem lw (line:ByteArray):eG (Line line):=by
 unfold Line;split
 ·exact je (F:=fun Z=>Z) (A:=fun _=>(0,sOk)) (fun _ _ _ h=>h) (fun Z hr=>hr) (fun _=>lu)
 split
 ·exact je (F:=fun Z=>Z) (A:=fun _=>(3,⟨#[]⟩)) (fun _ _ _ h=>h) (fun Z hr=>hr) (fun _=>by (first | exact lu | exact vo | exact uy | exact vw | exact vz | exact vB | exact vC | exact vD | exact uz | exact iU | exact iV | exact iW))
 rename_i m hm
 have hn:=Ra m (oI hm);split
 ·exact hn _ _
 split
 ·exact je (F:=fun Z=>Z) (A:=fun _=>(3,⟨#[]⟩)) (fun _ _ _ h=>h) (fun Z hr=>hr) (fun _=>by (first | exact lu | exact vo | exact uy | exact vw | exact vz | exact vB | exact vC | exact vD | exact uz | exact iU | exact iV | exact iW))
 exact hn _ _
def fw (a:qM):ByteArray:=if a.1=0 then a.2 else told lX a.1
def nl:ByteArray:=⟨#[10]⟩
def mi:List ByteArray→Sn→Sn→ByteArray→Prop
 | [],Z,Z',t=>Z'=Z∧t=⟨#[]⟩
 | x::r,Z,Z',t=>∃Z1 a t1,Line x Z Z1 a∧mi r Z1 Z' t1∧t=fw a++nl++t1
theorem oK:∀(l1 l2:List ByteArray) (Z Z':Sn) (t:ByteArray),mi (l1++l2) Z Z' t↔∃Z1 t1 t2,mi l1 Z Z1 t1∧mi l2 Z1 Z' t2∧t=t1++t2
 | [],l2,Z,Z',t=>by
  constructor
  ·intro h;exact⟨Z,⟨#[]⟩,t,⟨rfl,rfl⟩,h,(ByteArray.empty_append).symm⟩
  rintro ⟨Z1,t1,t2,⟨rfl,rfl⟩,h,rfl⟩;rw[show (⟨#[]⟩:ByteArray)++t2=t2 from ByteArray.empty_append];exact h
 | x::r,l2,Z,Z',t=>by
  constructor
  ·rintro ⟨Z1,a,t1,h1,h2,rfl⟩;obtain⟨Z2,u1,u2,h3,h4,rfl⟩:=(oK r l2 Z1 Z' t1).1 h2;exact⟨Z2,fw a++nl++u1,u2,⟨Z1,a,u1,h1,h3,rfl⟩,h4,by simp only[ByteArray.append_assoc]⟩
  rintro ⟨Z1,t1,t2,⟨Z2,a,u,h1,h2,rfl⟩,h3,rfl⟩;exact⟨Z2,a,u++t2,h1,(oK r l2 Z2 Z' (u++t2)).2 ⟨Z1,u,t2,h2,h3,rfl⟩,by simp only[ByteArray.append_assoc]⟩
theorem IQ {l:List ByteArray} {x:ByteArray} {Z Z1 Z2:Sn} {t:ByteArray} {a:qM} (h:mi l Z Z1 t) (h2:Line x Z1 Z2 a):mi (l++[x]) Z Z2 (t++(fw a++nl)):=
 (oK l [x] Z Z2 _).2 ⟨Z1,t,fw a++nl,h,⟨Z2,a,⟨#[]⟩,h2,⟨rfl,rfl⟩,(ByteArray.append_empty).symm⟩,rfl⟩
theorem AA:∀(l:List ByteArray) (Z Z1 Z2:Sn) (t1 t2:ByteArray),Zr Z→mi l Z Z1 t1→mi l Z Z2 t2→Z1=Z2∧t1=t2∧Zr Z1
 | [],Z,Z1,Z2,t1,t2,hr,⟨h1,h2⟩,⟨h3,h4⟩=>⟨h1.trans h3.symm,h2.trans h4.symm,by rw[h1];exact hr⟩
 | x::r,Z,Z1,Z2,t1,t2,hr,⟨Y1,a1,u1,g1,g2,g3⟩,⟨Y2,a2,u2,k1,k2,k3⟩=>by
  obtain⟨e1,e2⟩:=(lw x).1 Z Y1 Y2 a1 a2 hr g1 k1;subst e1;subst e2;obtain⟨e3,e4,e5⟩:=AA r Y1 Z1 Z2 u1 u2 ((lw x).2 Z Y1 a1 hr g1).1 g2 k2;exact⟨e3,by rw[g3,k3,e4],e5⟩
end Dk
end Go.Proofs.YtmhcfaaggkidjaaGreatDoor
end
section
namespace Go.Proofs.YtmhcfaaggkidjaaGreatDoor
set_option maxRecDepth 100000
namespace Dk
open Go.RowKit
open Vl
theorem MU (x:Nat) (W:World):Calls Tryz.prog 59 #[.int .i32 (x:Int)] W fun e w'=>e=.returned (.bool (WL x))∧w'=W:=by
 have e1:WL x=((x:Int)==32):=by
  unfold WL;by_cases h:x=32
  ·subst h;rfl
  rw[beq_false_of_ne h,beq_false_of_ne (by omega)]
 rw[e1];go_enter Tryz.func59,Tryz.ntmps59
 go_wp2_with fail
 go_ret;exact⟨rfl,rfl⟩
theorem MV (line:ByteArray) (hl:line.size≤100000) (w:World):Calls Tryz.prog 58 #[.string line,.func (.func 59) #[] #[]] w fun e w'=>∃A,e=.returned (.slice (some ⟨A,0,none⟩) (eF line).length (eF line).length)∧w.heap.size≤A∧(∀j x,(eF line)[j]?=some x→w'.cell? ⟨A,j,none⟩=some (.string x))∧Since w w':=by
 refine(Tryz.strings_FieldsFunc 59 #[] (enters_of Tryz.func59 (by kernel_rfl) rfl) WL line w (by omega) (fun W x _=>(MU x W).mono (by
  rintro e w' ⟨rfl,rfl⟩;exact⟨rfl,0,rfl⟩))).mono ?_
 rintro e w' ⟨A,rfl,hA,ho,hb⟩;refine⟨A,rfl,hA,fun j x hx=>?_,hb⟩;have hj:=(List.getElem?_eq_some_iff.1 hx).1;rw[ho.cellAt j (by unfold eF at hj;omega),List.getElem?_map];unfold eF at hx;rw[hx]
 rfl
def wt (l:List (Nat × Nat)):Nat:=(l.map (fun x=>x.2-x.1+1)).sum
theorem Kb (l:List (Nat × Nat)) (a b:Nat):wt (l++[(a,b)])=wt l+(b-a+1):=by simp[wt]
theorem nU (p:Nat→Bool) (s:ByteArray):∀(f pos:Nat) (st:Option Nat) (acc:List (Nat × Nat)),(∀a,st=some a→a≤pos∧wt acc≤a)→wt acc≤pos→pos≤s.size→
  (∀a,(Lib.spansFromP p s f pos st acc).2=some a→a≤s.size∧wt (Lib.spansFromP p s f pos st acc).1≤a)∧wt (Lib.spansFromP p s f pos st acc).1≤s.size
 | 0,pos,st,acc,h1,h2,h3=>⟨fun a ha=>⟨Nat.le_trans (h1 a ha).1 h3,(h1 a ha).2⟩,Nat.le_trans h2 h3⟩
 | f+1,pos,st,acc,h1,h2,h3=>by
  unfold Lib.spansFromP;by_cases hlt:pos<s.size
  ·rw[if_pos hlt];have hwd:=Lib.width_pos s pos;have hwn:pos+(Utf8.decode s pos).2≤s.size:=by
    have:=Lib.decodeN_le_n' (s.size-pos) (s.get! pos).toNat (s.get! (pos+1)).toNat (s.get! (pos+2)).toNat (s.get! (pos+3)).toNat (by omega);rw[←Lib.decode_at] at this;omega
   split
   ·cases st with
    | none=>exact nU p s f _ none acc (fun a e=>by cases e) (by omega) hwn
    | some a=>
     obtain⟨g1,g2⟩:=h1 a rfl;exact nU p s f _ none _ (fun a e=>by cases e) (by rw[Kb];omega) hwn
   cases st with
   | none=>exact nU p s f _ (some pos) acc (fun a e=>by injection e with e;subst e;exact⟨by omega,h2⟩) (by omega) hwn
   | some a=>
    obtain⟨g1,g2⟩:=h1 a rfl;exact nU p s f _ (some a) acc (fun b e=>by injection e with e;subst e;exact⟨by omega,g2⟩) (by omega) hwn
  rw[if_neg hlt];exact⟨fun a ha=>⟨Nat.le_trans (h1 a ha).1 h3,(h1 a ha).2⟩,Nat.le_trans h2 h3⟩
def wl (l:List ByteArray):Nat:=(l.map (fun x=>x.size+1)).sum
theorem kE (x:ByteArray) (l:List ByteArray):wl (x::l)=x.size+1+wl l:=by simp[wl]
theorem Rb (line:ByteArray):wl (eF line)≤line.size+1:=by
 have h:=nU WL line line.size 0 none [] (fun a e=>by cases e) (Nat.le_refl _) (Nat.zero_le _);have h2:wt (Lib.spansOfP WL line)≤line.size+1:=by
  unfold Lib.spansOfP Lib.closeSpans;split
  ·rename_i a ha
   obtain⟨g1,g2⟩:=h.1 a ha;rw[Kb];omega
  have:=h.2;omega
 refine Nat.le_trans ?_ h2;unfold eF Lib.goFieldsP wl wt;generalize Lib.spansOfP WL line=l;induction l with
 | nil=>exact Nat.le_refl _
 | cons x r ih=>
  simp only[List.map_cons,List.sum_cons];have:(line.extract x.1 x.2).size≤x.2-x.1:=by rw[ByteArray.size_extract];omega
  omega
theorem IR:∀l:List ByteArray,l.length≤wl l
 | []=>Nat.le_refl _
 | x::r=>by rw[kE,List.length_cons];have:=IR r;omega
theorem IU:∀(l:List ByteArray) (x:ByteArray),x ∈ l→x.size+1≤wl l
 | y::r,x,h=>by
  rw[kE];rcases List.mem_cons.1 h with rfl | h
  ·omega
  have:=IU r x h;omega
theorem Kc:∀l:List ByteArray,(Lib.joinTail [32] (l.map (·.data.toList))).length=wl l
 | []=>rfl
 | x::r=>by
  have ih:=Kc r;unfold Lib.joinTail at *;rw[kE,←ih];simp;omega
theorem Vo (l:List ByteArray):(dm l).size≤wl l:=by
 show (Lib.join (l.map (·.data.toList)) [32]).toArray.size≤wl l
 rw[List.size_toArray];cases l with
 | nil=>exact Nat.zero_le _
 | cons x r=>
  rw[List.map_cons,Lib.join_cons,List.length_append,Kc,kE,Array.length_toList];show x.data.size+wl r≤x.data.size+1+wl r
  omega
theorem IV:∀(ks:List Bool) (ws:List ByteArray) p,fI ks ws=some p→wl p.1≤wl ws
 | [],[],p,h=>by simp only[fI] at h;injection h with h;subst h;exact Nat.le_refl _
 | true::ks,s::r,p,h=>by
  rw[fI] at h;cases h1:fI ks r with
  | none=>rw[h1] at h;cases h
  | some q=>
   rw[h1] at h;injection h with h;subst h
   have:=IV ks r q h1;show wl (s::q.1)≤wl (s::r)
   rw[kE,kE];omega
 | false::ks,s::r,p,h=>by
  rw[fI] at h;cases h1:fI ks r with
  | none=>rw[h1] at h;revert h;cases numOf s.data.toList<;>(intro h;cases h)
  | some q=>
   cases h2:numOf s.data.toList with
   | none=>rw[h2] at h;cases h
   | some u=>
    rw[h1,h2] at h;injection h with h
    subst h;have:=IV ks r q h1;show wl q.1≤wl (s::r)
    rw[kE];omega
 | [],_::_,p,h=>by cases h
 | true::_,[],p,h=>by cases h
 | false::_,[],p,h=>by cases h
theorem IW {P:Program} {w:World} {a:Addr} {m:Mode} (fn:Fn) (first cap:Array Value):(store a (.func fn first cap) m).run P w=stored P w a (.func fn first cap) m:=run_store P w a _ m rfl
theorem zu {P:Program} {w:World} {a:Addr} {m:Mode}:(store a .nilFunc m).run P w=stored P w a .nilFunc m:=run_store P w a _ m rfl
attribute [local go_sem] IW zu
theorem YB {m:Cm} (hfm:Vd m) (ws:List ByteArray) (x:Value) (W:World) (P:Nat→Prop) (hx:Wd W P x ws) (hP:∀k,P k→k<W.heap.size) (hwl:wl ws≤5001) (hL:En.Lb W) :
  Calls Tryz.prog 61 #[.string m.fm,x] W fun e w'=>((e=thrown 3∧∃ks,m.ks=some ks∧fI ks ws=none)∨∃av bv xv yv,e=.returned (.agg #[xv,yv])∧Wd w' P xv av∧Nd w' P yv bv∧yF m av bv∧wl av≤5001∧(∀v ∈ bv,-9223372036854775808≤v∧v≤9223372036854775807)∧((m.ks=none∧av=ws∧bv=[])∨∃ks,m.ks=some ks∧fI ks ws=some (av,bv)))∧Since W w':=by
 unfold Vd at hfm;cases hk:m.ks with
 | none=>
  rw[hk] at hfm;refine(QE m.fm ws x W P hx hfm).mono ?_;rintro e w' ⟨rfl,hs⟩;refine⟨.inr ⟨ws,[],_,_,rfl,hx.go hs,⟨none,0,rfl,fun h=>absurd rfl h⟩,?_,hwl,fun v hv=>absurd hv List.not_mem_nil,.inl ⟨rfl,rfl,rfl⟩⟩,hs⟩;unfold yF;rw[hk]
 | some ks=>
  rw[hk] at hfm;refine(jK m.fm ks hfm ws x W P hx (fun s hs=>by have:=IU ws s hs;omega) hL).mono ?_;rintro e w' ⟨⟨h1,rfl⟩ | ⟨av,bv,xv,yv,h1,rfl,h2,h3⟩,hs⟩
  ·exact⟨.inl ⟨rfl,ks,rfl,h1⟩,hs⟩
  refine⟨.inr ⟨av,bv,xv,yv,rfl,?_,?_,?_,Nat.le_trans (IV _ _ _ h1) hwl,qG _ _ _ h1,.inr ⟨ks,rfl,h1⟩⟩,hs⟩
  ·obtain⟨a,c,g1,g2,g3⟩:=h2;refine⟨a,c,g1,g2,fun hn=>?_⟩;obtain⟨k,o,g4,g5,g6⟩:=g3 hn;exact⟨k,o,g4,fun hp=>g5 (hP k hp),g6⟩
  ·obtain⟨a,c,g1,g3⟩:=h3;refine⟨a,c,g1,fun hn=>?_⟩;obtain⟨k,o,g4,g5,g6⟩:=g3 hn;exact⟨k,o,g4,fun hp=>g5 (hP k hp),g6⟩
  unfold yF;rw[hk];exact uw _ _ _ h1
theorem qH {P:Program} {fn:Func} {R:Ending→World→Prop} {T T':Array Value} (h:results fn T=results fn T'):∀(ds:List Deferred) (u:FrameMode) (w:World),Leaves P fn T R ds u w→Leaves P fn T' R ds u w
 | [],.returning,w,hl=>by
  unfold Leaves at *;rw[←h];exact hl
 | [],.panicking c,w,hl=>hl
 | [],.run,w,hl=>hl
 | d::ds,u,w,hl=>by
  unfold Leaves at *;obtain⟨h1,fv,cap,f,args,h2,h3,h4⟩:=hl;refine⟨h1,fv,cap,f,args,h2,h3,h4.mono ?_⟩;intro e u' w' he;cases e with
  | returned v=>exact qH h ds _ _ he
  | panicked c=>exact qH h ds _ _ he
  | outgrown=>exact he
theorem oL {R:Ending→World→Prop} {c:List PanicEntry} {a:Act} {d:Nat} {v:Value} {w:World} (hd:d≠4) (h:bodyPostD Tryz.prog Tryz.f17 R (.panic c) (a.put (some d) v) w):bodyPostD Tryz.prog Tryz.f17 R (.panic c) a w:=by
 have hr:results Tryz.f17 (a.put (some d) v).tmps=results Tryz.f17 a.tmps:=by
  have e:(a.put (some d) v).tmps[4]?=a.tmps[4]?:=by
   simp[Act.put,Array.getElem?_setIfInBounds,hd]
  simp[results,Tryz.results17,e]
 exact qH hr a.defers _ w h
theorem Fg {R:Ending→World→Prop} {T:Array Value} {b:Nat} {W:World} {t:ByteArray} (hT:T.getD 4 undef=.pointer (some ⟨b,0,none⟩)) (hc:W.cell? ⟨b,0,none⟩=some (.string t)) (hR:R (.returned (.string t)) W) :
  bodyPostD Tryz.prog Tryz.f17 R Exit.ret { tmps:=T,defers:=[{ target:=Target.fn (Fn.func 57) #[.pointer (some ⟨b,0,none⟩)],args:=#[] }] } W:=by
 refine leaves_cons (f:=57) (args:=#[.pointer (some ⟨b,0,none⟩)]) (by simp) (by simp[go_sem]) ?_;refine(Iu ⟨b,0,none⟩ _).mono ?_;rintro e u' w2 ⟨rfl,rfl,rfl⟩;have YM:T[4]?.getD undef=.pointer (some ⟨b,0,none⟩):=by simpa using hT
 simp[Leaves,settle,results,Tryz.results17,go_sem,hc,YM,asAddr];exact hR
theorem qI {R:Ending→World→Prop} {T:Array Value} {b:Nat} {W:World} {x:ByteArray} {r:Int} (hT:T.getD 4 undef=.pointer (some ⟨b,0,none⟩)) (hb:b<W.heap.size) (hc:W.cell? ⟨b,0,none⟩=some (.string x)) (hf:W.frozen? ⟨b,0,none⟩=false) (hr:-9223372036854775808≤r∧r≤9223372036854775807) (hL:En.Lb W) (hR:∀W',Since W W'→R (.returned (.string (told lX r))) (W'.setCell ⟨b,0,none⟩ (.string (told lX r)))) :
  bodyPostD Tryz.prog Tryz.f17 R (Exit.panic [{ v:=ul r,recovered:=false }]) { tmps:=T,defers:=[{ target:=Target.fn (Fn.func 57) #[.pointer (some ⟨b,0,none⟩)],args:=#[] }] } W:=by
 refine leaves_cons (f:=57) (args:=#[.pointer (some ⟨b,0,none⟩)]) (by simp) (by simp[go_sem]) ?_;refine(EQ ⟨b,0,none⟩ x r [] W hb hc hf hr hL).mono ?_;rintro e u' w2 ⟨rfl,rfl,w3,hs,rfl⟩;have YM:T[4]?.getD undef=.pointer (some ⟨b,0,none⟩):=by simpa using hT
 have h5:(w3.setCell ⟨b,0,none⟩ (.string (told lX r))).cell? ⟨b,0,none⟩=some (.string (told lX r)):=World.cell?_setCell_same _ _ _ ((hs.cell (p:=⟨b,0,none⟩) hb).trans hc);generalize told lX r=t at *;simp[Leaves,settle,results,Tryz.results17,go_sem,h5,YM,asAddr];exact hR w3 hs
section
variable {w0 w w':World} {P:Nat→Prop} {sb:Nat} {Z:Sn} {n:Int}
theorem Vp (b:Nat):¬WK ⟨b,0,none⟩ (.string ⟨#[]⟩):=fun h=>by
 rcases h with⟨s,e,hs⟩ | ⟨x,e⟩ | ⟨⟨p,n,c,e⟩,_⟩
 ·injection e with e;subst e;exact hs rfl
 ·cases e
 cases e
theorem aG.res {w2 w3 w4:World} {Z':Sn} {m:Int} (h:eu w0 w P sb Z n) (hs:Since w w2) (hb:Boxed w2 w.heap.size 9 (.string ⟨#[]⟩)) (hto:aG w0 w2 w3 P sb Z' m) (him:ES Z'.im) (hs4:Since w3 w4):Boxed w4 w.heap.size 9 (.string ⟨#[]⟩)∧∀t,aG w0 w (w4.setCell ⟨w.heap.size,0,none⟩ t) P sb Z' m:=by
 obtain⟨P',hse,hfs,Mm⟩:=hto.go hs4;have Uz:¬P w.heap.size:=fun hp=>Nat.lt_irrefl _ (h.oU _ hp)
 have hb4:Boxed w4 w.heap.size 9 (.string ⟨#[]⟩):=(hfs.block _ hb.lt Uz).trans hb;refine⟨hb4,fun t=>⟨P',hse.els him (JV hb4.cell (Vp _) t) (fun k hk e=>by rw[e];exact Mm _ hb.lt Uz) (fun k e=>by rw[e];exact h.gp.size),?_,fun k hk hn=>Mm k (Nat.lt_of_lt_of_le hk hs.size) hn⟩⟩;have h1:Fs P w w4:=(Fs.ah hs).trans hfs;have hsz:(w4.setCell ⟨w.heap.size,0,none⟩ t).heap.size=w4.heap.size:=by simp[World.setCell]
 exact⟨h1.os,h1.tape,h1.output,by rw[hsz];exact h1.size,fun k hk hn=>(Below.heap_setCell _ _ _ _ (by show k≠w.heap.size;omega)).trans (h1.block k hk hn)⟩
set_option maxHeartbeats 8000000 in
theorem IX (G:Gr w0) (h:eu w0 w P sb Z n) (WM:Zr Z) (h0:0≤n) (hn:n<700000000) (r:Nat) (hm:w.heap[r]?=some (.map (mG 0 (dx sb)).toArray 18)) (line:ByteArray) (hl:line.size≤5000) :
  Calls Tryz.prog 17 #[.map (some r),.string line] w fun e w'=>∃Z' a,Line line Z Z' a∧e=.returned (.string (fw a))∧aG w0 w w' P sb Z' (n+30):=by
 have hmf:∀(fn:Fn) (first cap:Array Value) (w:World),(Instr.makeFunc fn first cap).run Tryz.prog w=.ok (.func fn first cap) w:=fun _ _ _ _=>rfl
 have HW:Hid (∀W,Calls Tryz.prog 58 #[.string line,.func (.func 59) #[] #[]] W fun e w'=>∃A,e=.returned (.slice (some ⟨A,0,none⟩) (eF line).length (eF line).length)∧W.heap.size≤A∧(∀j x,(eF line)[j]?=some x→w'.cell? ⟨A,j,none⟩=some (.string x))∧Since W w'):=fun W=>MV line (by omega) W
 have HWL:Hid (wl (eF line)≤5001):=Nat.le_trans (Rb line) (by omega);have hs1:Since w (w.alloc (.cells #[.string ⟨#[]⟩] 9)):=(Since.refl w).alloc _;have HS:Hid (eu w0 w P sb Z n∧Gr w0∧0≤n∧n<700000000∧w.heap[r]?=some (.map (mG 0 (dx sb)).toArray 18)∧Since w (w.alloc (.cells #[.string ⟨#[]⟩] 9))):=⟨h,G,h0,hn,hm,hs1⟩
 have hb4:=Boxed.new w 9 (.string ⟨#[]⟩);have Ny:Hid (Boxed (w.alloc (.cells #[.string ⟨#[]⟩] 9)) w.heap.size 9 (.string ⟨#[]⟩)):=hb4;have HZR:Hid (Zr Z):=WM;clear h G h0 hn hm hs1 hl hb4 WM;go_enter_defers Tryz.func17,Tryz.ntmps17
 go_wp2_with fail
 refine(HW.out _).mono ?_;rintro e w1 ⟨A,rfl,hA,hc,hs⟩;cases hw:eF line with
 | nil=>
  have hb:Boxed w1 w.heap.size 9 (.string ⟨#[]⟩):=(hs.block _ Ny.out.lt).trans Ny.out;have c4:=hb.cell;have f4:=hb.frozen;have hE:Line line Z Z (0,sOk):=by unfold Line;rw[hw];exact⟨rfl,rfl⟩
  have HE:Hid (Line line Z Z (0,sOk)∧aG w0 w (w1.setCell ⟨w.heap.size,0,none⟩ (.string ⟨#[111,107]⟩)) P sb Z (n+30)):=⟨hE,(HS.out.1.stay ((HS.out.2.2.2.2.2.trans hs).setCell (p:=⟨w.heap.size,0,none⟩) (Nat.le_refl _) _)).le (by omega)⟩
  have ma:Hid (Boxed (w1.setCell ⟨w.heap.size,0,none⟩ (.string ⟨#[111,107]⟩)) w.heap.size 9 (.string ⟨#[111,107]⟩)):=hb.set _;simp only[List.length_nil];clear hb hE hs hc hA hw HW HWL;go_wp2_with fail
  exact Fg (b:=w.heap.size) rfl ma.out.cell ⟨Z,_,HE.out.1,rfl,HE.out.2⟩
 | cons c ws=>
  have hb:Boxed w1 w.heap.size 9 (.string ⟨#[]⟩):=(hs.block _ Ny.out.lt).trans Ny.out;have ca:=hc 0 c (by rw[hw];rfl);have hmap:w1.heap[r]?=some (.map (mG 0 (dx sb)).toArray 18):=((HS.out.2.2.2.2.2.trans hs).block r (Array.getElem?_eq_some_iff.1 HS.out.2.2.2.2.1).1).trans HS.out.2.2.2.2.1;have hlk:=Qz (P:=Tryz.prog) Tryz.underlying9 Tryz.underlying33 (z:=.agg #[.string ⟨#[]⟩,.nilFunc]) (fun w=>by kernel_rfl) w1 r 18 (dx sb) c hmap;rw[Vb,Az] at hlk;have hz:∀j,j<2→(#[.string ⟨#[]⟩,.nilFunc]:Array Value)[j]?=some (ab (.string ⟨#[]⟩) .nilFunc j):=fun j hj=>by
   have:j=0∨j=1:=by omega
   rcases this with rfl | rfl<;>rfl
  have hB:=ak.new w1 2 _ 81 _ hz _ rfl;have JK:Hid ((w1.alloc (.cells #[.string ⟨#[]⟩,.nilFunc] 81)).there w1.heap.size 0 2):=hB.there 0 2 (by omega);have SA:Hid (ak (w1.alloc (.cells #[.string ⟨#[]⟩,.nilFunc] 81)) w1.heap.size 2 (ab (.string ⟨#[]⟩) .nilFunc)):=hB;have ma:Hid (∀W,Since w1 W→Boxed W w.heap.size 9 (.string ⟨#[]⟩)):=fun W hW=>(hW.block _ hb.lt).trans hb
  have bY:Hid (Since w w1):=HS.out.2.2.2.2.2.trans hs;have HCC:Hid (∀j x,(c::ws)[j]?=some x→w1.cell? ⟨A,j,none⟩=some (.string x)):=fun j x hx=>hc j x (by rw[hw];exact hx)
  have HAA:Hid (w.heap.size<A∧A<w1.heap.size):=⟨by rw[World.size_alloc] at hA;omega,World.block_lt_of_cell? _ _ ca⟩
  have HWW:Hid (eF line=c::ws∧wl (c::ws)≤5001):=⟨hw,by rw[←hw];exact HWL.out⟩
  have hw4:ws.length≤5001:=by have:=IR (c::ws);rw[List.length_cons] at this;have:=HWW.out.2;omega
  clear hB hz hb hs hc hA hw HW HWL hmap;simp only[List.length_cons];cases hk:vg c tab with
  | none=>
   rw[hk] at hlk;simp only[Option.map_none] at hlk;have Gb:Hid (Line line Z Z (3,⟨#[]⟩)):=by show Line line Z Z (3,⟨#[]⟩);unfold Line;rw[HWW.out.1];simp only[];rw[hk];exact⟨rfl,rfl⟩
   clear hk;go_wp2_with fail
   refine(bW 3 _).mono ?_;rintro e w5 ⟨rfl,hw5⟩;have hs5:Since w1 w5:=by rw[hw5];exact(Since.refl w1).alloc _
   have hb5:=ma.out w5 hs5;refine qI (b:=w.heap.size) (r:=3) rfl hb5.lt hb5.cell hb5.frozen ⟨by decide,by decide⟩ (HS.out.2.1.lb.since ((HS.out.1.go bY.out).gp.trans hs5)) (fun W' hW'=>⟨Z,_,Gb.out,rfl,(HS.out.1.stay (((bY.out.trans hs5).trans hW').setCell (p:=⟨w.heap.size,0,none⟩) (Nat.le_refl _) _)).le (by omega)⟩)
  | some m=>
   rw[hk] at hlk;simp only[Option.map_some,Yy] at hlk;have hmt:=oI hk;obtain⟨ho,hfm,hen⟩:=YA (w0:=w0) (sb:=sb) HS.out.2.1 m hmt;have HM:Hid (lq w0 sb m∧Vd m∧m ∈ tab∧vg c tab=some m):=⟨ho,hfm,hmt,hk⟩
   clear ho hfm hmt hk;go_wp2_with fail
   have hq1:ak (w1.alloc (.cells #[.string m.fm,.func (.func m.F) #[.pointer (some ⟨sb,0,none⟩)] #[]] 81)) w1.heap.size 2 (ab (.string m.fm) (.func (.func m.F) #[.pointer (some ⟨sb,0,none⟩)] #[])):=ak.new w1 2 _ _ _ (fun j hj=>by
    have:j=0∨j=1:=by omega
    rcases this with rfl | rfl<;>rfl) _ rfl
   have HQ:Hid (∀W,Fs P (w1.alloc (.cells #[.string m.fm,.func (.func m.F) #[.pointer (some ⟨sb,0,none⟩)] #[]] 81)) W→W.cell? ⟨w1.heap.size,1,none⟩=some (.func (.func m.F) #[.pointer (some ⟨sb,0,none⟩)] #[])∧W.cell? ⟨w1.heap.size,0,none⟩=some (.string m.fm)):=fun W hW=>by
    have Uz:¬P w1.heap.size:=fun hp=>by have:=HS.out.1.oU _ hp;have:=bY.out.size;omega
    have hl:w1.heap.size<(w1.alloc (.cells #[.string m.fm,.func (.func m.F) #[.pointer (some ⟨sb,0,none⟩)] #[]] 81)).heap.size:=by rw[World.size_alloc];omega
    exact⟨(hW.cell (p:=⟨w1.heap.size,1,none⟩) hl Uz).trans (hq1.cell 1 (by omega)),(hW.cell (p:=⟨w1.heap.size,0,none⟩) hl Uz).trans (hq1.cell 0 (by omega))⟩
   have HSC:Hid (Since w1 (w1.alloc (.cells #[.string m.fm,.func (.func m.F) #[.pointer (some ⟨sb,0,none⟩)] #[]] 81))):=(Since.refl w1).alloc _;clear hq1 hlk ca;generalize w1.alloc (.cells #[.string m.fm,.func (.func m.F) #[.pointer (some ⟨sb,0,none⟩)] #[]] 81)=W at *;have hS1:(fun V:World=>V.cell? ⟨w1.heap.size,1,none⟩=some (.func (.func m.F) #[.pointer (some ⟨sb,0,none⟩)] #[])∧V.cell? ⟨w1.heap.size,0,none⟩=some (.string m.fm)) W.drew:=HQ.out _ (Fs.ah (Since.refl _).drew);refine wp_region_held (S:=fun V:World=>V.cell? ⟨w1.heap.size,1,none⟩=some (.func (.func m.F) #[.pointer (some ⟨sb,0,none⟩)] #[])∧V.cell? ⟨w1.heap.size,0,none⟩=some (.string m.fm)) (by kernel_rfl) ?_;refine Tw.takeD (i:=0) (d:=25) (v:=?v1) rfl rfl (by kernel_rfl) (by kernel_rfl) (by kernel_rfl) (fun _ _ _ h=>oL (by decide) h) (Or.inl ⟨by rfl,?hw1⟩) hS1 ?q1
   case hw1=>(intro w hSw;obtain⟨s0,s1⟩:=hSw;go_simp;try with_reducible rfl)
   simp only[Act.put,List.setIfInBounds_toArray,List.set_cons_zero,List.set_cons_succ];refine Tw.takeD (i:=1) (d:=26) (v:=?v2) rfl rfl (by kernel_rfl) (by kernel_rfl) (by kernel_rfl) (fun _ _ _ h=>oL (by decide) h) (Or.inl ⟨by rfl,?hw2⟩) hS1 ?q2
   case hw2=>(intro w hSw;obtain⟨s0,s1⟩:=hSw;go_simp;try with_reducible rfl)
   simp only[Act.put,List.setIfInBounds_toArray,List.set_cons_zero,List.set_cons_succ];refine Tw.takeD (i:=2) (d:=27) (v:=?v3) rfl rfl (by kernel_rfl) (by kernel_rfl) (by kernel_rfl) (fun _ _ _ h=>oL (by decide) h) (Or.inl ⟨by rfl,?hw3⟩) hS1 ?q3
   case hw3=>(intro w hSw;obtain⟨s0,s1⟩:=hSw;go_simp;try with_reducible rfl)
   simp only[Act.put,List.setIfInBounds_toArray,List.set_cons_zero,List.set_cons_succ];refine Tw.takeD (i:=3) (d:=28) (v:=?v4) rfl rfl (by kernel_rfl) (by kernel_rfl) (by kernel_rfl) (fun _ _ _ h=>oL (by decide) h) (Or.inl ⟨by rfl,?hw4⟩) hS1 ?q4
   case hw4=>(intro w hSw;obtain⟨s0,s1⟩:=hSw;go_simp;try with_reducible rfl)
   simp only[Act.put,List.setIfInBounds_toArray,List.set_cons_zero,List.set_cons_succ];refine Tw.takeD (i:=4) (d:=29) (v:=?v5) rfl rfl (by kernel_rfl) (by kernel_rfl) (by kernel_rfl) (fun _ _ _ h=>oL (by decide) h) (Or.inl ⟨by rfl,?hw5⟩) hS1 ?q5
   case hw5=>(intro w hSw;obtain⟨s0,s1⟩:=hSw;go_simp;try with_reducible rfl)
   simp only[Act.put,List.setIfInBounds_toArray,List.set_cons_zero,List.set_cons_succ];have h5a:(0:Int)≤1∧(1:Int)≤(ws.length:Int)+1:=⟨by omega,by omega⟩
   refine Tw.takeD (i:=5) (d:=30) (v:=?v6) rfl rfl (by kernel_rfl) (by kernel_rfl) (by kernel_rfl) (fun _ _ _ h=>oL (by decide) h) (Or.inl ⟨by rfl,?hw6⟩) hS1 ?q6
   case hw6=>(intro w hSw;obtain⟨s0,s1⟩:=hSw;go_simp;try with_reducible rfl)
   simp only[Act.put,List.setIfInBounds_toArray,List.set_cons_zero,List.set_cons_succ];have JU:Hid (Since w W.drew∧Since w1 W.drew):=⟨bY.out.trans (HSC.out.trans (Since.refl _).drew),HSC.out.trans (Since.refl _).drew⟩
   have hx5:Wd W.drew P (.slice (if ws=[] then some ⟨A,0,none⟩ else some ⟨A,1,none⟩) ws.length ws.length) ws:=⟨_,_,rfl,Nat.le_refl _,fun hn=>⟨A,1,if_neg hn,fun hp=>by have:=HS.out.1.oU _ hp;have:=HAA.out.1;omega,fun j x hx=>by
    rw[Nat.add_comm 1 j];exact(JU.out.2.cell (p:=⟨A,j+1,none⟩) HAA.out.2).trans (HCC.out (j+1) x (by simpa using hx))⟩⟩
   have Sv:Hid (∀x5,x5=(.slice (if ws=[] then some ⟨A,0,none⟩ else some ⟨A,1,none⟩) ws.length ws.length:Value)→Calls Tryz.prog 61 #[.string m.fm,x5] W.drew fun e w'=>((e=thrown 3∧∃ks,m.ks=some ks∧fI ks ws=none)∨∃av bv xv yv,e=.returned (.agg #[xv,yv])∧Wd w' P xv av∧Nd w' P yv bv∧yF m av bv∧wl av≤5001∧(∀v ∈ bv,-9223372036854775808≤v∧v≤9223372036854775807)∧((m.ks=none∧av=ws∧bv=[])∨∃ks,m.ks=some ks∧fI ks ws=some (av,bv)))∧Since W.drew w'):=fun x5 e5=>by
    rw[e5];exact YB HM.out.2.1 ws _ W.drew P hx5 (fun k hk=>Nat.lt_of_lt_of_le (HS.out.1.oU k hk) JU.out.1.size) (by have:=HWW.out.2;rw[kE] at this;omega) (HS.out.2.1.lb.since (HS.out.1.gp.trans JU.out.1))
   have Gb:Hid (∀d:Dn,((∃ks,m.ks=some ks∧fI ks ws=none∧d=fun Z Z' a=>Z'=Z∧a=(3,⟨#[]⟩))∨∃av bv,((m.ks=none∧av=ws∧bv=[])∨∃ks,m.ks=some ks∧fI ks ws=some (av,bv))∧d=m.d av bv)→Line line=d):=fun d hd=>by
    unfold Line;rw[HWW.out.1];simp only[];rw[HM.out.2.2.2];simp only[];rcases hd with⟨ks,h1,h2,h3⟩ | ⟨av,bv,⟨h1,rfl,rfl⟩ | ⟨ks,h1,h2⟩,h3⟩
    ·rw[h1];simp only[];rw[h2,h3]
    ·rw[h1,h3]
    rw[h1];simp only[];rw[h2,h3]
   clear hx5 h5a;generalize hxe:(Value.slice (if ws=[] then some ⟨A,0,none⟩ else some ⟨A,1,none⟩) ws.length ws.length)=x5 at *;refine wpAnyH_ready (rs:=[6]) (by kernel_rfl) (by simp) (AllReadyH.cons rfl (fun K hK=>?_) AllReadyH.nil);rw[if_pos (by rfl)];go_simp
   refine(Sv.out x5 rfl).mono ?_;rintro e w2 ⟨⟨rfl,ks,hk1,hk2⟩ | ⟨av,bv,x2,y2,rfl,hx2,hy2,hsh,a3I,hbd,hln⟩,hs2⟩
   ·have hl3:Line line Z Z (3,⟨#[]⟩):=by rw[Gb.out _ (.inl ⟨ks,hk1,hk2,rfl⟩)];exact⟨rfl,rfl⟩
    have hb5:=ma.out w2 (JU.out.2.trans hs2);exact qI (b:=w.heap.size) (r:=3) rfl hb5.lt hb5.cell hb5.frozen ⟨by decide,by decide⟩ (HS.out.2.1.lb.since (HS.out.1.gp.trans (JU.out.1.trans hs2))) (fun W' hW'=>⟨Z,_,hl3,rfl,(HS.out.1.stay (((JU.out.1.trans hs2).trans hW').setCell (p:=⟨w.heap.size,0,none⟩) (Nat.le_refl _) _)).le (by omega)⟩)
   have HL2:Hid (Line line=m.d av bv):=Gb.out _ (.inr ⟨av,bv,hln,rfl⟩);have hS2:(fun V:World=>V.cell? ⟨w1.heap.size,1,none⟩=some (.func (.func m.F) #[.pointer (some ⟨sb,0,none⟩)] #[])∧V.cell? ⟨w1.heap.size,0,none⟩=some (.string m.fm)) w2:=HQ.out _ (Fs.ah ((Since.refl _).drew.trans hs2));have HCM:Hid (Calls Tryz.prog m.F #[.pointer (some ⟨sb,0,none⟩),.agg #[x2,y2]] w2 (Does w0 P sb Z n (m.d av bv) w2)):=HM.out.1 w2 P Z n x2 y2 av bv (HS.out.1.go (JU.out.1.trans hs2)) HS.out.2.2.1 (by have:=HS.out.2.2.2.1;omega) hx2 hy2 (fun s hs=>by have:=IU av s hs;omega) (Nat.le_trans (Vo av) (by omega)) (Nat.le_trans (IR av) (by omega)) hbd hsh;have HS2:Hid (Since w w2∧Boxed w2 w.heap.size 9 (.string ⟨#[]⟩)∧Since W w2):=⟨JU.out.1.trans hs2,ma.out w2 (JU.out.2.trans hs2),(Since.refl _).drew.trans hs2⟩
   simp only[];refine hK.out _ _ hS2 (fun _=>?_);clear hK K hx2 hy2 hsh a3I hbd hln hs2
   (try simp only[Act.put,List.setIfInBounds_toArray,List.set_cons_zero,List.set_cons_succ])
   refine wpAnyH_ready (rs:=[7]) (by kernel_rfl) (by simp) (AllReadyH.cons rfl (fun K hK=>?_) AllReadyH.nil);rw[if_pos (by rfl)];go_simp
   refine HCM.out.mono ?_;rintro e w3 ⟨Z',a,he,hd,hto⟩;have hL3:Line line Z Z' a:=by rw[HL2.out];exact hd
   obtain⟨WM,her⟩:=(lw line).2 Z Z' a HZR.out hL3;have Fy:Hid (aG w0 w2 w3 P sb Z' (n+30)∧Line line Z Z' a∧Zr Z'∧Er a.1):=⟨hto,hL3,WM,her⟩
   have fu:(fun V:World=>V.cell? ⟨w1.heap.size,1,none⟩=some (.func (.func m.F) #[.pointer (some ⟨sb,0,none⟩)] #[])∧V.cell? ⟨w1.heap.size,0,none⟩=some (.string m.fm)) w3:=by
    obtain⟨P',_,hfs,_⟩:=hto;exact HQ.out _ ((Fs.ah HS2.out.2.2).trans hfs)
   clear hL3 WM her hto hd;unfold gV at he;by_cases ha:a.1=0
   ·rw[if_pos ha] at he;subst he;obtain⟨hb3,a0P⟩:=aG.res HS.out.1 HS2.out.1 HS2.out.2.1 Fy.out.1 Fy.out.2.2.1.2 (Since.refl w3);have c3:=hb3.cell;have f3:=hb3.frozen;have HAN:Hid (a.2=fw a):=(if_pos ha).symm;generalize a.2=t at *;simp only[];refine hK.out _ _ fu (fun _=>?_);clear hK K
    (try simp only[Act.put,List.setIfInBounds_toArray,List.set_cons_zero,List.set_cons_succ])
    refine wpAnyH_ready (rs:=[8]) (by kernel_rfl) (by simp) (AllReadyH.cons rfl (fun K hK=>?_) AllReadyH.nil);rw[if_pos (by rfl)];go_simp
    have hne:∀j:Nat,(⟨w.heap.size,0,none⟩:Addr)≠⟨w1.heap.size,j,none⟩:=fun j e=>by
     injection e with e1
     have:=HAA.out;omega
    have jX:(fun V:World=>V.cell? ⟨w1.heap.size,1,none⟩=some (.func (.func m.F) #[.pointer (some ⟨sb,0,none⟩)] #[])∧V.cell? ⟨w1.heap.size,0,none⟩=some (.string m.fm)) (w3.setCell ⟨w.heap.size,0,none⟩ (.string t)):=⟨(World.cell?_setCell_other _ _ _ _ (hne 1)).trans fu.1,(World.cell?_setCell_other _ _ _ _ (hne 0)).trans fu.2⟩
    refine hK.out _ _ jX (fun _=>?_);clear hK K
    (try simp only[Act.put,List.setIfInBounds_toArray,List.set_cons_zero,List.set_cons_succ])
    refine wpAnyH_done (by kernel_rfl) ?_ _;have HF:Hid (Boxed (w3.setCell ⟨w.heap.size,0,none⟩ (.string t)) w.heap.size 9 (.string t)∧aG w0 w (w3.setCell ⟨w.heap.size,0,none⟩ (.string t)) P sb Z' (n+30)):=⟨hb3.set _,a0P _⟩
    clear jX fu hS2 hS1 c3 f3 hb3 a0P hne;go_wp2_with fail
    exact Fg (b:=w.heap.size) rfl HF.out.1.cell ⟨Z',a,Fy.out.2.1,by rw[HAN.out],HF.out.2⟩
   rw[if_neg ha] at he;subst he;have hb3:=fun W' hW'=>aG.res HS.out.1 HS2.out.1 HS2.out.2.1 Fy.out.1 Fy.out.2.2.1.2 (w4:=W') hW'
   have hb5:=(hb3 w3 (Since.refl _)).1;have her:=Fy.out.2.2.2;unfold Er at her;refine qI (b:=w.heap.size) (r:=a.1) rfl hb5.lt hb5.cell hb5.frozen ⟨by omega,by omega⟩ (HS.out.2.1.lb.since ?_) (fun W' hW'=>⟨Z',a,Fy.out.2.1,by unfold fw;rw[if_neg ha],(hb3 W' hW').2 _⟩);obtain⟨P',hse,_,_⟩:=Fy.out.1;exact hse.gp
end
end Dk
end Go.Proofs.YtmhcfaaggkidjaaGreatDoor
end
