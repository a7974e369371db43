import Derived.Test.YtmhcfaaggkidjaaGreatDoorJ48
set_option linter.unusedSimpArgs false
set_option linter.unusedVariables false
section
namespace Go.Proofs.YtmhcfaaggkidjaaGreatDoor
set_option maxRecDepth 100000
namespace Dk
open Go.RowKit Go.Shelf
attribute [local go_sem] Oper.semAt_some
def aL:List UInt8→List (List UInt8)
 | []=>[[]]
 | c::r=>if c=10 then []::aL r else match aL r with
  | h::t=>(c::h)::t
  | []=>[[c]]
theorem nV (c:UInt8) (r:List UInt8):aL (c::r)=if c=10 then []::aL r else (match aL r with | h::t=>(c::h)::t | []=>[[c]]):=rfl
theorem MW:∀s,aL s≠[]
 | []=>by simp[aL]
 | c::r=>by
  unfold aL;split
  ·simp
  split<;>simp
theorem vF:∀s:List UInt8,(Lib.index s [10]=-1∧aL s=[s])∨∃i:Nat,Lib.index s [10]=i∧i<s.length∧aL s=s.take i::aL (s.drop (i+1))
 | []=>.inl ⟨rfl,rfl⟩
 | b::l=>by
  by_cases hb:b=10
  ·subst hb;refine .inr ⟨0,?_,by simp,?_⟩
   ·unfold Lib.index;simp[List.isPrefixOf]
   conv=>lhs;unfold aL
   simp
  have hp:([10]:List UInt8).isPrefixOf (b::l)=false:=by
   have:((10:UInt8)==b)=false:=beq_false_of_ne (fun e=>hb e.symm);simp[List.isPrefixOf,this]
  have hi:Lib.index (b::l) [10]=if Lib.index l [10]==-1 then -1 else Lib.index l [10]+1:=by
   conv=>lhs;unfold Lib.index
   rw[hp]
   rfl
  have hs:aL (b::l)=(match aL l with | h::t=>(b::h)::t | []=>[[b]]):=by
   conv=>lhs;unfold aL
   rw[if_neg hb]
  rcases vF l with⟨h1,h2⟩ | ⟨i,h1,h2,h3⟩
  ·refine .inl ⟨by rw[hi,h1];rfl,by rw[hs,h2]⟩
  refine .inr ⟨i+1,?_,Nat.succ_lt_succ h2,by rw[hs,h3];rfl⟩;rw[hi,h1,if_neg (by simp)]
  rfl
theorem qJ:∀(a b:List UInt8),aL (a++10::b)=aL a++aL b
 | [],b=>by
  show aL (10::b)=[[]]++aL b
  rw[nV,if_pos rfl]
  rfl
 | c::r,b=>by
  have ih:=qJ r b;rw[List.cons_append,nV,nV,ih];by_cases hc:c=10
  ·rw[if_pos hc,if_pos hc]
   rfl
  rw[if_neg hc,if_neg hc];cases h:aL r with
  | nil=>exact absurd h (MW r)
  | cons x t=>rfl
theorem sP:∀(s:List UInt8),(aL s).length≤s.length+1
 | []=>by simp[aL]
 | c::r=>by
  have ih:=sP r;unfold aL;split
  ·simp;omega
  split
  ·rename_i h;rw[h] at ih;simp at ih ⊢;omega
  simp
def SQ (Bp Bs Bv:Nat) (W W':World):Prop:=W'.heap[Bp]?=W.heap[Bp]?∧W'.heap[Bs]?=W.heap[Bs]?∧W'.heap[Bv]?=W.heap[Bv]?∧W'.heap[1]?=W.heap[1]?
structure IY (Bp Bs Bv:Nat) (m:Int) (W:World) (r:List UInt8):Prop where
 p:Boxed W Bp 9 (.string ⟨#[10]⟩)
 s:Boxed W Bs 9 (.string ⟨r.toArray⟩)
 v:Boxed W Bv 3 (.int .i64 0)
 ne:Bs≠Bp∧Bs≠Bv∧Bs≠1
 mx:W.cell? ⟨1,0,none⟩=some (.int .i64 m)
theorem IY.keep {Bp Bs Bv:Nat} {m:Int} {W W':World} {r:List UInt8} (h:IY Bp Bs Bv m W r) (hk:SQ Bp Bs Bv W W'):IY Bp Bs Bv m W' r:=
 ⟨hk.1.trans h.p,hk.2.1.trans h.s,hk.2.2.1.trans h.v,h.ne,(World.cell?_of_block (w:=W) (a:=⟨1,0,none⟩) hk.2.2.2).trans h.mx⟩
theorem IY.set {Bp Bs Bv:Nat} {m:Int} {W:World} {r:List UInt8} (h:IY Bp Bs Bv m W r) (q:List UInt8):IY Bp Bs Bv m (W.setCell ⟨Bs,0,none⟩ (.string ⟨q.toArray⟩)) q:=
 ⟨h.p.other (fun e=>h.ne.1 e.symm) _,h.s.set _,h.v.other (fun e=>h.ne.2.1 e.symm) _,h.ne,(World.cell?_setCell_other _ _ _ _ (fun e=>h.ne.2.2 (by injection e))).trans h.mx⟩
theorem nI (r:List UInt8) (hr:r.length≤5000) (W:World) (m:Int) (hm:W.cell? ⟨1,0,none⟩=some (.int .i64 m)):Calls Tryz.prog 89 #[.string ⟨r.toArray⟩,.string ⟨#[10]⟩] W fun e w'=>e=.returned (.int .i64 (Lib.index r [10]))∧w'=W:=by
 have hsz:(⟨r.toArray⟩:ByteArray).size=r.length:=List.size_toArray;have h:=Tryz.strings_Index ⟨r.toArray⟩ ⟨#[10]⟩ m W (by omega) hm;rw[show (⟨r.toArray⟩:ByteArray).data.toList=r by simp] at h;exact h
theorem Rc (r:List UInt8) (i:Nat):(⟨r.toArray⟩:ByteArray).extract 0 i=⟨(r.take i).toArray⟩:=by
 apply ByteArray.ext
 rw[ByteArray.data_extract];simp
theorem Re (r:List UInt8) (i:Nat):(⟨r.toArray⟩:ByteArray).extract i r.length=⟨(r.drop i).toArray⟩:=by
 apply ByteArray.ext
 rw[ByteArray.data_extract];simp;rw[List.take_of_length_le (by rw[List.length_drop];exact Nat.le_refl _)]
def IZ (W:World) (b:Nat):Nat:=match W.cell? ⟨b,0,none⟩ with
 | some v=>En.PV v
 | none=>0
theorem IY.len {Bp Bs Bv:Nat} {m:Int} {W:World} {r:List UInt8} (h:IY Bp Bs Bv m W r):IZ W Bs=r.length:=by
 unfold IZ;rw[h.s.cell];exact List.size_toArray
set_option maxHeartbeats 4000000 in
theorem MX (n:Nat) (hn:1≤n) (l Bp Bs Bv:Nat) (s:List UInt8) (hs:s.length≤5000) (J:List (List UInt8)→World→Prop) (hJ:∀pre W (q:ByteArray),J pre W→J pre (W.setCell ⟨Bs,0,none⟩ (.string q))) (m:Int)
  (hY:∀pre x W,J pre W→pre.length<(aL s).length→x.length≤5000→YieldAt Fence.wide (n-1) Tryz.prog l #[.string ⟨x.toArray⟩] W fun e W'=>e=.returned (.bool true)∧J (pre++[x]) W'∧SQ Bp Bs Bv W W')
  (W:World) (hB:IY Bp Bs Bv m W s) (h0:J [] W) :
  CallsIn Fence.wide n Tryz.prog 109 #[.func (.yield l) #[] #[],.pointer (some ⟨Bp,0,none⟩),.pointer (some ⟨Bs,0,none⟩),.pointer (some ⟨Bv,0,none⟩)] W fun e W'=>(∃v,e=.returned v)∧J (aL s) W':=by
 have HY:Hid (∀pre x W,J pre W→pre.length<(aL s).length→x.length≤5000→YieldAt Fence.wide (n-1) Tryz.prog l #[.string ⟨x.toArray⟩] W fun e W'=>e=.returned (.bool true)∧J (pre++[x]) W'∧SQ Bp Bs Bv W W'):=hY;have HJ:Hid (∀pre W (q:ByteArray),J pre W→J pre (W.setCell ⟨Bs,0,none⟩ (.string q))):=hJ;clear hY hJ;have c1:=hB.p.cell;have HB:Hid (IY Bp Bs Bv m W s):=hB;clear hB;refine callsIn_of_wp Tryz.func109 rfl trivial ?_ rfl;simp only[Tryz.ntmps109,List.size_toArray,List.length_cons,List.length_nil,Nat.reduceAdd,Nat.reduceSub,Array.replicate_succ,Array.replicate_zero,List.push_toArray,List.append_toArray,List.nil_append,List.cons_append]
 gi_wp2
 gi_loopw [7] (fun _ wr=>∃(pre:List (List UInt8)) (r:List UInt8),IY Bp Bs Bv m wr r∧r.length≤5000∧pre++aL r=aL s∧J pre wr) (fun _ wr=>IZ wr Bs)
 case atStart=>exact⟨[],s,HB.out,hs,rfl,h0⟩
 obtain⟨pre,r,hb,hr,hl,hJ⟩:=hrel;have q1:=hb.p.cell;have q2:=hb.s.cell;have q3:=hb.v.cell;have ma:Hid (IY Bp Bs Bv m wr r):=hb;have Nw:Hid (Calls Tryz.prog 89 #[.string ⟨r.toArray⟩,.string ⟨#[10]⟩] wr fun e w'=>e=.returned (.int .i64 (Lib.index r [10]))∧w'=wr):=nI r hr wr m hb.mx;have HJ0:Hid (J pre wr):=hJ;have hsz:(⟨r.toArray⟩:ByteArray).size=r.length:=List.size_toArray;have HLP:Hid (pre++aL r=aL s):=hl;clear hb hl hJ;rcases vF r with⟨h1,h2⟩ | ⟨i,h1,h2,h3⟩
 ·rw[h1] at Nw;have hlt:pre.length<(aL s).length:=by rw[←HLP.out,List.length_append,h2];simp
  have HEN:Hid (pre++[r]=aL s):=by show pre++[r]=aL s;rw[←HLP.out,h2]
  obtain⟨fn,tmps,assign,body,hy,hR⟩:=HY.out pre r wr HJ0.out hlt hr;clear h1 h2 hlt
  gi_wp2
  refine⟨trivial,?_⟩;refine(callsIn_wide.2 Nw.out).mono ?_;rintro e w1 ⟨rfl,hw1⟩;rw[hw1];clear hw1 w1
  gi_wp2
  refine hR.mono ?_;rintro e W3 ⟨rfl,hJ3,hk3⟩
  gi_wp2
  go_end0
  exact⟨⟨_,rfl⟩,by rw[←HEN.out];exact hJ3⟩
 rw[h1] at Nw;have hlt:pre.length<(aL s).length:=by rw[←HLP.out,List.length_append,h3];simp
 have HEN:Hid (pre++[r.take i]++aL (r.drop (i+1))=aL s):=by show pre++[r.take i]++aL (r.drop (i+1))=aL s;rw[←HLP.out,h3];simp
 obtain⟨fn,tmps,assign,body,hy,hR⟩:=HY.out pre (r.take i) wr HJ0.out hlt (by rw[List.length_take];omega);rw[←Rc r i] at hy;have hi2:(i:Int)<(r.length:Int):=by omega
 have hi3:(i:Int)≤(r.length:Int):=by omega
 have hi4:(i:Int)+1≤(r.length:Int):=by omega
 have HE2:Hid ((⟨r.toArray⟩:ByteArray).extract (i+1) r.length=⟨(r.drop (i+1)).toArray⟩):=Re r (i+1);have h5:i<5000:=by omega
 clear h1 h3 hlt
 gi_wp2
 refine⟨trivial,?_⟩;refine(callsIn_wide.2 Nw.out).mono ?_;rintro e w1 ⟨rfl,hw1⟩;rw[hw1];clear hw1 w1
 gi_wp2
 refine hR.mono ?_;rintro e W3 ⟨rfl,hJ3,hk3⟩;have hb3:=ma.out.keep hk3;have p1:=hb3.p.cell;have p2:=hb3.s.cell;have p3:=hb3.s.frozen;have HB3:Hid (IY Bp Bs Bv m W3 r):=hb3;clear hb3 hk3 q1 q2 q3
 gi_wp2
 go_roundw
 case rel=>exact⟨pre++[r.take i],r.drop (i+1),by rw[HE2.out];exact HB3.out.set _,by rw[List.length_drop];omega,HEN.out,HJ.out _ _ _ hJ3⟩
 rw[HE2.out,(HB3.out.set _).len,ma.out.len,List.length_drop];omega
end Dk
end Go.Proofs.YtmhcfaaggkidjaaGreatDoor
end
section
namespace Go.Proofs.YtmhcfaaggkidjaaGreatDoor
set_option maxRecDepth 100000
namespace Dk
open Go.RowKit
open En (Fi)
open Vl
open Fl (bR bT)
theorem yJ (s:ByteArray) (n:Int) (hn:-9223372036854775808≤n∧n≤9223372036854775807):(told s n).size≤s.size+22:=by
 unfold told;rw[ByteArray.size_append,ByteArray.size_append];have h1:(⟨(Lib.itoa n).toArray⟩:ByteArray).size≤21:=Lib.itoa_length_le n hn.1 hn.2;have h2:(⟨#[32]⟩:ByteArray).size=1:=rfl;omega
def Zk (n:Int) (Z:Sn):Prop:=∀S l,Z.f=.op S l→S.ok n∧En.right l=true
theorem Zk.count {n:Int} {Z:Sn} (h:Zk n Z) (hn:n<900000000):-9223372036854775808≤Z.f.count∧Z.f.count≤9223372036854775807:=by
 cases hf:Z.f using uT.cs with
 | no D c=>exact⟨(by decide:(-9223372036854775808:Int)≤0),(by decide:(0:Int)≤9223372036854775807)⟩
 | op S l=>
  obtain⟨ho,_⟩:=h S l hf;have h1:=ho.cnt;have h2:=ho.c0;have h3:=ho.cn;show -9223372036854775808≤S.T.count∧S.T.count≤9223372036854775807
  omega
theorem eu.zk {w0 w:World} {P:Nat→Prop} {sb:Nat} {Z:Sn} {n:Int} (h:eu w0 w P sb Z n):Zk n Z:=fun S l hf=>by
 obtain⟨fb,vb,db,cb,v,lv,d,o⟩:=h.op hf;exact⟨o.ok,o.right⟩
def oM (d:Dn):Prop:=∀Z Z' a n,Zk n Z→Zk n Z'→n<900000000→d Z Z' a→a.2.size≤1000
theorem uA:oM (fun _ _ _=>False):=fun _ _ _ _ _ _ _ h=>h.elim
theorem qK {d:Dn} {F:Sn→Sn→Vs→List Fi→ByteArray→Prop} (hn:∀Z D c Z1 a,Z.f=.no D c→d Z Z1 a→a.2=⟨#[]⟩) (ho:∀Z S l Z1 a,Z.f=.op S l→d Z Z1 a→F Z Z1 S l a.2) (hF:∀n Z Z1 S l t,n<900000000→Zk n Z→Zk n Z1→Z.f=.op S l→F Z Z1 S l t→t.size≤1000):oM d:=fun Z Z' a n h1 h2 hN hd=>by
 cases hf:Z.f using uT.cs with
 | no D c=>rw[hn _ _ _ _ _ hf hd];exact Nat.zero_le _
 | op S l=>exact hF n Z Z' S l a.2 hN h1 h2 hf (ho _ _ _ _ _ hf hd)
theorem Zg {s:ByteArray} {n:Int} (hs:s.size≤10) (hn:-9223372036854775808≤n∧n≤9223372036854775807):(told s n).size≤1000:=Nat.le_trans (yJ s n hn) (by omega)
theorem MZ:oM gW:=qK (F:=fun Z Z1 S l t=>t=told lY Z1.f.count) (fun Z D c Z1 a hf h=>by unfold gW at h;rw[hf] at h;rw[h.2]) (fun Z S l Z1 a hf h=>by
 unfold gW at h;rw[hf] at h;rw[h.1,h.2]
 rfl) (fun n Z Z1 S l t hn h1 h2 hf h=>by rw[h];exact Zg (by decide) (h2.count hn))
theorem Na:oM iL:=qK (F:=fun Z Z1 S l t=>t=told nT Z.f.count) (fun Z D c Z1 a hf h=>by unfold iL at h;rw[hf] at h;rw[h.2]) (fun Z S l Z1 a hf h=>by
 unfold iL at h;rw[hf] at h;rw[h.2,hf]
 rfl) (fun n Z Z1 S l t hn h1 h2 hf h=>by rw[h];exact Zg (by decide) (h1.count hn))
theorem Rf:oM kz:=qK (F:=fun Z Z1 S l t=>t=told sG S.free) (fun Z D c Z1 a hf h=>by unfold kz at h;rw[hf] at h;rw[h.2]) (fun Z S l Z1 a hf h=>by
 unfold kz at h;rw[hf] at h;rw[h.2]) (fun n Z Z1 S l t hn h1 h2 hf h=>by rw[h];exact Zg (by decide) (EI S))
theorem Fh:oM di:=qK (F:=fun Z Z1 S l t=>∃kb kt,t=qC (S.ae kb kt).1) (fun Z D c Z1 a hf h=>by unfold di at h;rw[hf] at h;rw[h.2]) (fun Z S l Z1 a hf h=>by
 unfold di at h;rw[hf] at h;exact⟨_,_,by rw[h.2]⟩) (fun n Z Z1 S l t hn h1 h2 hf h=>by
 obtain⟨kb,kt,rfl⟩:=h;have h3:=uU S kb kt;unfold qC;rw[ByteArray.size_append,ByteArray.size_append];have h4:=yJ fH (S.ae kb kt).1.1 (by omega);have h5:(⟨(Lib.formatBool (S.ae kb kt).1.2.1).toArray⟩:ByteArray).size≤5:=by
  cases (S.ae kb kt).1.2.1<;>decide
 have h6:fH.size=7:=rfl;have h7:dW.size=1:=rfl;omega)
theorem Rh:oM kC:=qK (F:=fun Z Z1 S l t=>t=dm (ik::l.map Fi.nm)) (fun Z D c Z1 a hf h=>by unfold kC at h;rw[hf] at h;rw[h.2]) (fun Z S l Z1 a hf h=>by
 unfold kC at h;rw[hf] at h;rw[h.2]) (fun n Z Z1 S l t hn h1 h2 hf h=>by
 subst h;obtain⟨_,hr⟩:=h1 S l hf;have hfit:=((Fl.aX l).1 hr).1;have h3:=JQ 10 ((ik::l.map Fi.nm).map (·.data.toList)) (fun x hx=>by
  obtain⟨y,hy,rfl⟩:=List.mem_map.1 hx;rcases List.mem_cons.1 hy with rfl | hy
  ·decide
  obtain⟨f,hf,rfl⟩:=List.mem_map.1 hy;exact JR (hfit.good f hf).1)
 have h4:l.length≤8:=by
  have:=hr;unfold En.right at this;rw[Bool.and_eq_true] at this
  simpa using this.1
 show (Lib.join ((ik::l.map Fi.nm).map (·.data.toList)) [32]).toArray.size≤1000
 rw[List.size_toArray];simp only[List.length_map,List.length_cons] at h3;omega)
theorem Vq (s:ByteArray):oM (oV s):=qK (F:=fun Z Z1 S l t=>t=⟨#[]⟩∨∃u,Fl.aV S.X l s=some u∧t=jd ⟨u.toArray⟩) (fun Z D c Z1 a hf h=>by unfold oV at h;rw[hf] at h;rw[h.2]) (fun Z S l Z1 a hf h=>by
 unfold oV at h;rw[hf] at h;rw[h.2];cases hx:Fl.aV S.X l s with
 | none=>exact .inl rfl
 | some u=>exact .inr ⟨u,rfl,rfl⟩) (fun n Z Z1 S l t hn h1 h2 hf h=>by
 obtain⟨ho,hr⟩:=h1 S l hf;rcases h with rfl | ⟨u,hu,rfl⟩
 ·exact Nat.zero_le _
 have h3:=Qt hr ho.txt hu;have h4:(⟨u.toArray⟩:ByteArray).size=u.length:=List.size_toArray;unfold jd;rw[ByteArray.size_append,ByteArray.size_append,jo,ByteArray.size_extract];have h5:=yJ zm ((⟨u.toArray⟩:ByteArray).size:Int) (by omega);have h6:zm.size=3:=rfl;have h7:dW.size=1:=rfl;omega)
theorem Vr (s t:ByteArray) (k:Int):oM (vK s t k):=fun Z Z' a n h1 h2 hN hd=>by
 rcases hd with⟨_,_,rfl⟩ | ⟨_,hd⟩
 ·exact Nat.zero_le _
 cases hf:Z.f using uT.cs with
 | no D c=>rw[hf] at hd;rw[hd.2];exact Nat.zero_le _
 | op S l=>rw[hf] at hd;obtain⟨r,S',l',_,_,h3⟩:=hd;rw[h3];exact(by decide:EK.size≤1000)
theorem Vt (s:ByteArray):oM (sJ s):=qK (F:=fun Z Z1 S l t=>t=Qs) (fun Z D c Z1 a hf h=>by unfold sJ at h;rw[hf] at h;rw[h.2]) (fun Z S l Z1 a hf h=>by
 unfold sJ at h;rw[hf] at h;obtain⟨r,S',l',_,_,h3⟩:=h;rw[h3]) (fun n Z Z1 S l t hn h1 h2 hf h=>by rw[h];decide)
theorem Vu (s:ByteArray):oM (Iq s):=fun Z Z' a n h1 h2 hN hd=>by obtain⟨f,r,_,_,h3⟩:=hd;rw[h3];decide
theorem Ri:oM Am:=fun Z Z' a n h1 h2 hN hd=>by
 obtain⟨f,r,_,h4,h3⟩:=hd;rw[h3];have:=h2.count hN;rw[h4] at this;exact Zg (by decide) this
theorem Nb (s:ByteArray) (m:Int):oM (qF s m):=fun Z Z' a n h1 h2 hN hd=>by
 obtain⟨f,r,_,h4,h3⟩:=hd;rw[h3];have:=h2.count hN;rw[h4] at this;exact Zg (by decide) this
theorem Rj (m:Int):oM (EL m):=fun Z Z' a n h1 h2 hN hd=>by rw[hd.2];decide
theorem Nc:oM ut:=fun Z Z' a n h1 h2 hN hd=>by rw[hd.2];decide
theorem Vv:oM Mv:=fun Z Z' a n h1 h2 hN hd=>by obtain⟨f,r,_,_,h3⟩:=hd;rw[h3];decide
theorem Nf (x y z:Int):oM (kH x y z):=fun Z Z' a n h1 h2 hN hd=>by
 rcases hd with⟨_,_,h3⟩ | ⟨_,f,r,_,_,h3⟩<;>rw[h3]<;>decide
theorem Vw (ws:List ByteArray):oM (Qy ws):=fun Z Z' a n h1 h2 hN hd=>by
 rw[hd.2];show (Qx++lg (gq (dm ws))).size≤1000
 rw[ByteArray.size_append,jo,lh];decide
theorem Ng (s:ByteArray) (m:Int):oM (qE s m):=fun Z Z' a n h1 h2 hN hd=>by
 rw[hd.2];split
 ·show (uu++lg (gY s m)).size≤1000
  rw[ByteArray.size_append,jo];have:(gY s m).size≤64:=by unfold gY;rw[strOfNums_size];exact Nat.le_of_eq rfl
  have h2:uu.size=6:=rfl;omega
 exact Nat.zero_le _
theorem Rk:oM Aw:=fun Z Z' a n h1 h2 hN hd=>by
 rw[hd.2];show (dm EY).size≤1000
 decide
theorem Vx:∀m ∈ tab,∀av bv,oM (m.d av bv):=by
 have z0:∀{d:Dn},oM d→∀av bv,oM (d0 d av bv):=fun h av bv=>by
  unfold d0;split
  ·exact h
  exact uA
 have w1:∀{d:ByteArray→Dn},(∀s,oM (d s))→∀av bv,oM (SN d av bv):=fun h av bv=>by
  unfold SN;split
  ·exact h _
  exact uA
 have n1:∀{d:Int→Dn},(∀s,oM (d s))→∀av bv,oM (Ze d av bv):=fun h av bv=>by
  unfold Ze;split
  ·exact h _
  exact uA
 have n3:∀{d:Int→Int→Int→Dn},(∀a b c,oM (d a b c))→∀av bv,oM (Zf d av bv):=fun h av bv=>by
  unfold Zf;split
  ·exact h _ _ _
  exact uA
 have a0Q:∀{d:ByteArray→Int→Dn},(∀s m,oM (d s m))→∀av bv,oM (ve d av bv):=fun h av bv=>by
  unfold ve;split
  ·exact h _ _
  exact uA
 have a3K:∀{d:ByteArray→ByteArray→Int→Dn},(∀s t m,oM (d s t m))→∀av bv,oM (Ay d av bv):=fun h av bv=>by
  unfold Ay;split
  ·exact h _ _ _
  exact uA
 intro m hm;unfold tab at hm;simp only[List.mem_cons,List.not_mem_nil,or_false] at hm;rcases hm with rfl | rfl | rfl | rfl | rfl | rfl | rfl | rfl | rfl | rfl | rfl | rfl | rfl | rfl | rfl | rfl | rfl | rfl
 ·exact w1 Vu
 ·exact a3K Vr
 ·exact w1 Vt
 ·exact w1 Vq
 ·exact z0 Rh
 ·exact z0 MZ
 ·exact z0 Fh
 ·exact z0 Na
 ·exact z0 Rf
 ·exact z0 Ri
 ·exact n1 Rj
 ·exact a0Q Nb
 ·exact z0 Nc
 ·exact z0 Vv
 ·exact n3 Nf
 ·exact a0Q Ng
 ·exact fun av bv=>Vw av
 exact z0 Rk
theorem Rl (line:ByteArray):oM (Line line):=by
 unfold Line;split
 ·exact fun Z Z' a n _ _ _ h=>by rw[h.2];decide
 split
 ·exact fun Z Z' a n _ _ _ h=>by rw[h.2];decide
 rename_i m hm
 have hn:=Vx m (oI hm);split
 ·exact hn _ _
 split
 ·exact fun Z Z' a n _ _ _ h=>by rw[h.2];decide
 exact hn _ _
theorem Nh {line:ByteArray} {Z Z':Sn} {a:qM} {n:Int} (h1:Zk n Z) (h2:Zk n Z') (hn:n<900000000) (hz:Zr Z) (h:Line line Z Z' a):(fw a).size≤1000:=by
 unfold fw;split
 ·exact Rl line Z Z' a n h1 h2 hn h
 have:=((lw line).2 Z Z' a hz h).2;unfold Er at this;exact Zg (by decide) (by omega)
end Dk
end Go.Proofs.YtmhcfaaggkidjaaGreatDoor
end
section
namespace Go.Proofs.YtmhcfaaggkidjaaGreatDoor
set_option maxRecDepth 100000
namespace Dk
open Go.RowKit Go.Shelf
attribute [local go_sem] Oper.semAt_some
open Vl
theorem zw (s p:ByteArray) (W:World):Calls Tryz.prog 54 #[.string s,.string p,.int .i64 0] W fun e w'=>e=.returned (.func (.func 109) #[] #[.pointer (some ⟨W.heap.size+1,0,none⟩),.pointer (some ⟨W.heap.size,0,none⟩),.pointer (some ⟨W.heap.size+1+1,0,none⟩)])∧w'=((W.alloc (.cells #[.string s] 9)).alloc (.cells #[.string p] 9)).alloc (.cells #[.int .i64 0] 3):=by
 have hmf:∀(fn:Fn) (first cap:Array Value) (w:World),(Instr.makeFunc fn first cap).run Tryz.prog w=.ok (.func fn first cap) w:=fun _ _ _ _=>rfl
 go_enter Tryz.func54,Tryz.ntmps54
 go_wp2_with fail
 go_ret;exact⟨rfl,rfl⟩
theorem Cs (s p:ByteArray) (W:World):Calls Tryz.prog 14 #[.string s,.string p] W fun e w'=>e=.returned (.func (.func 109) #[] #[.pointer (some ⟨W.heap.size+1,0,none⟩),.pointer (some ⟨W.heap.size,0,none⟩),.pointer (some ⟨W.heap.size+1+1,0,none⟩)])∧w'=((W.alloc (.cells #[.string s] 9)).alloc (.cells #[.string p] 9)).alloc (.cells #[.int .i64 0] 3):=by
 go_enter Tryz.func14,Tryz.ntmps14
 go_wp2_with fail
 refine(zw s p W).mono ?_;rintro e w' ⟨rfl,rfl⟩;go_wp2_with fail
 go_ret;exact⟨rfl,rfl⟩
def vM (l0 Bp Bs Bv:Nat) (I:World→Prop) (W:World):Exit→Act→World→Prop
 | .normal,_,W'=>(W'.heap[l0]?=W.heap[l0]?∧W'.heap[l0+1]?=W.heap[l0+1]?)∧SQ Bp Bs Bv W W'∧I W'
 | _,_,_=>False
theorem Ke {Bp Bs Bv:Nat} {W:World} {l:Nat} {o:Obj} (h:Bp<l∧Bs<l∧Bv<l∧1<l):SQ Bp Bs Bv W (W.putObj l o):=⟨World.putObj_heap_other (by omega),World.putObj_heap_other (by omega),World.putObj_heap_other (by omega),World.putObj_heap_other (by omega)⟩
theorem SQ.trans {Bp Bs Bv:Nat} {A B C:World} (h:SQ Bp Bs Bv A B) (k:SQ Bp Bs Bv B C):SQ Bp Bs Bv A C:=⟨k.1.trans h.1,k.2.1.trans h.2.1,k.2.2.1.trans h.2.2.1,k.2.2.2.trans h.2.2.2⟩
theorem Fj {g:Operand} {ps:Array Tmp} {assign body:Code} {Q:Exit→Act→World→Prop} {a:Act} {w:World} {n:Nat} {gf:Nat} {lb:Array Value} {xs:List (List UInt8)} {Bp Bs Bv:Nat}
  (h1:1≤n) (hg:a.eval g=.func (.func gf) #[] lb) (eg:∀args w,(callFunc gf args).run Tryz.prog w=.ok (.enter gf args) w) (hps:ps.size=1)
  (hseq:∀(l:Nat) (J:List (List UInt8)→World→Prop) (W:World),(∀pre W (q:ByteArray),J pre W→J pre (W.setCell ⟨Bs,0,none⟩ (.string q)))→(∀pre x W,J pre W→pre.length<xs.length→x.length≤5000→YieldAt Fence.wide (n-1-1) Tryz.prog l #[.string ⟨x.toArray⟩] W fun e W'=>e=.returned (.bool true)∧J (pre++[x]) W'∧SQ Bp Bs Bv W W')→Since w W→J [] W→CallsIn Fence.wide (n-1) Tryz.prog gf (#[.func (.yield l) #[] #[]]++lb) W fun e W'=>(∃v,e=.returned v)∧J xs W')
  (hlt:Bp<w.heap.size∧Bs<w.heap.size∧Bv<w.heap.size∧1<w.heap.size)
  (I:List (List UInt8)→World→Prop) (hIa:∀pre W o,I pre W→I pre (W.alloc o)) (hIp:∀pre W l o o',I pre W→w.heap.size≤l→l<w.heap.size+2→W.heap[l]?=some o→o.isCells=false→I pre (W.putObj l o')) (hIs:∀pre W (q:ByteArray),I pre W→w.heap.size+1<W.heap.size→I pre (W.setCell ⟨Bs,0,none⟩ (.string q))) (h0:I [] w) (a₁:List UInt8→Act)
  (hassign:∀(l:Nat) (x:List UInt8) (W:World) (K:Act→World→Prop),K (a₁ x) W→assign.wpIn (Fence.wide.inRound l) (n-1-1) Tryz.prog (Exit.then K (fun _ _ _=>False)) { tmps:=(ps.zip #[.string ⟨x.toArray⟩]).foldl (fun t (p,v)=>t.setIfInBounds p v) a.tmps,defers:=[] } W)
  (hbody:∀(l:Nat) (pre:List (List UInt8)) (x:List UInt8) (W:World),I pre W→w.heap.size+1<W.heap.size→pre.length<xs.length→x.length≤5000→body.wpIn (Fence.wide.inRound l) (n-1-1) Tryz.prog (vM w.heap.size Bp Bs Bv (I (pre++[x])) W) (a₁ x) W)
  (hdone:∀(D:Nat) (W:World),w.heap.size≤D→D<w.heap.size+2→I xs W→W.heap[D]?=some (.deferred (some []))→Q .normal { a with defers:={ target:=.collected D,args:=#[] }::a.defers } W) :
  (Code.rangeFunc g ps assign body).wpIn Fence.wide n Tryz.prog Q a w:=by
 refine wpIn_rangeFunc ?_;intro fn hfn;obtain⟨rec,hrec⟩:∃rec:LoopState→Option Code→Loop,rec=fun st pe=>{ state:=st,pending:=pe,fn,tmps:=a.tmps,params:=ps,assign,body,defers:=w.heap.size }:=⟨_,rfl⟩
 obtain⟨W1,hW1⟩:∃W1,(w.alloc (.deferred (some []))).alloc (.loop (rec .ready none))=W1:=⟨_,rfl⟩
 have hL1:W1.heap[w.heap.size+1]?=some (.loop (rec .ready none)):=by
  have:=World.alloc_heap_new (w.alloc (.deferred (some []))) (.loop (rec .ready none));rw[World.size_alloc,hW1] at this;exact this
 have hK1:W1.heap[w.heap.size]?=some (.deferred (some [])):=by
  rw[←hW1];exact(Below.heap_alloc _ _ _ (by simp)).trans (World.alloc_heap_new w _)
 have hI1:I [] W1:=by rw[←hW1];exact hIa _ _ _ (hIa _ _ _ h0)
 have hS1:Since w W1:=by rw[←hW1];exact((Since.refl w).alloc _).alloc _
 refine⟨w.heap.size+1,[{ target:=.collected w.heap.size,args:=#[] }],W1,{ target:=.fn (.func gf) lb,args:=#[.func (.yield (w.heap.size+1)) #[] #[]] },W1,gf,#[.func (.yield (w.heap.size+1)) #[] #[]]++lb,W1,?_,?_,fun f' hf'=>trivial,?_,fun _=>h1,?_⟩
 ·rw[←hW1,hrec];exact run_enterLoop_outer _ _ _ _ _
 ·simp only[resolve,hg];simp[go_sem]
 ·simp[invoke,go_sem,eg]
 refine(hseq (w.heap.size+1) (fun pre W=>I pre W∧W.heap[w.heap.size+1]?=some (.loop (rec .ready none))∧W.heap[w.heap.size]?=some (.deferred (some []))) W1 (fun pre W v hJ=>?_) (fun pre x W hJ hlen hx=>?_) hS1 ⟨hI1,hL1,hK1⟩).mono ?_
 ·obtain⟨hi,hl,hk⟩:=hJ;have hwl:w.heap.size+1<W.heap.size:=(Array.getElem?_eq_some_iff.1 hl).1;exact⟨hIs pre W v hi hwl,(Below.heap_setCell _ _ _ _ (by show w.heap.size+1≠Bs;omega)).trans hl,(Below.heap_setCell _ _ _ _ (by show w.heap.size≠Bs;omega)).trans hk⟩
 ·obtain⟨hi,hl,hk⟩:=hJ;have hwl:w.heap.size+1<W.heap.size:=(Array.getElem?_eq_some_iff.1 hl).1;have hy:=run_yield (P:=Tryz.prog) (args:=#[.string ⟨x.toArray⟩]) hl (by rw[hrec];exact hps.symm);rw[hrec] at hy;refine⟨fn,_,assign,body,hy,roundIn_of_wpIn hfn (hassign _ x W _ ⟨_,run_beginRound hl (by rw[hrec]),?_⟩)⟩;have hl2:(W.putObj (w.heap.size+1) (.loop { rec .ready none with state:=.busy })).heap[w.heap.size+1]?=some (.loop { rec .ready none with state:=.busy }):=World.putObj_heap_same hwl;have hk2:(W.putObj (w.heap.size+1) (.loop { rec .ready none with state:=.busy })).heap[w.heap.size]?=some (.deferred (some [])):=(World.putObj_heap_other (by omega)).trans hk;have hw2:w.heap.size+1<(W.putObj (w.heap.size+1) (.loop { rec .ready none with state:=.busy })).heap.size:=(Array.getElem?_eq_some_iff.1 hl2).1
  refine wpIn_mono (hbody _ pre x _ (hIp pre W _ _ _ hi (by omega) (by omega) hl rfl) hw2 hlen hx) ?_;rintro e a3 W3 hp;cases e with
  | normal=>
   obtain⟨⟨g1,g2⟩,hkp,hi3⟩:=hp;have hl3:=g2.trans hl2;have hk3:=g1.trans hk2;have hr:=run_endRound (P:=Tryz.prog) none hl3;have hl4:(W3.putObj (w.heap.size+1) (.loop (rec .ready none))).heap[w.heap.size+1]?=some (.loop (rec .ready none)):=World.putObj_heap_same (Array.getElem?_eq_some_iff.1 hl3).1;refine⟨.bool true,W3.putObj (w.heap.size+1) (.loop (rec .ready none)),?_,rfl,⟨hIp _ W3 _ _ _ hi3 (by omega) (by omega) hl3 rfl,hl4,(World.putObj_heap_other (by omega)).trans hk3⟩,((Ke (by omega)).trans hkp).trans (Ke (by omega))⟩;rw[hrec] at hr ⊢;exact hr
  | ret=>exact hp.elim
  | exit id=>exact hp.elim
  | goto t=>exact hp.elim
  | panic c=>exact hp.elim
  | outgrown=>exact hp.elim
 rintro e W2 ⟨⟨v,rfl⟩,hi,hl,hk⟩;refine⟨none,W2.putObj (w.heap.size+1) (.loop { rec .ready none with state:=.exhausted }),?_,?_⟩
 ·have:=run_endLoop (P:=Tryz.prog) hl (by rw[hrec];simp);rw[hrec] at this ⊢;exact this
 exact hdone w.heap.size _ (Nat.le_refl _) (by omega) (hIp _ W2 _ _ _ hi (by omega) (by omega) hl rfl) ((World.putObj_heap_other (by omega)).trans hk)
end Dk
end Go.Proofs.YtmhcfaaggkidjaaGreatDoor
end
section
namespace Go.Proofs.YtmhcfaaggkidjaaGreatDoor
set_option maxRecDepth 100000
namespace Dk
open Go.RowKit Go.Shelf
attribute [local go_sem] Oper.semAt_some
open Vl
def Zh (l:List UInt8):ByteArray:=⟨l.toArray⟩
def zx (text t:ByteArray):Prop:=∃f r Z',dL (dw ⟨#[]⟩) mr 0 f r∧mi ((aL (Lib.trimSuffix text.data.toList [10])).map Zh) ⟨dw ⟨#[]⟩,sS,f⟩ Z' t
structure SIx (w0:World) (sb r C3 b Bs lo hi:Nat) (Z0:Sn) (pre:List (List UInt8)) (W:World) (Z:Sn) (t:ByteArray) (P:Nat→Prop) (n:Int) (v:Value):Prop where
 lines:mi (pre.map Zh) Z0 Z t
 zr:Zr Z
 se:eu w0 W P sb Z n
 n0:0≤n∧n≤1+30*(pre.length:Int)
 bl:Bl W lo b v t.data.toList
 len:t.size≤1001*pre.length
 box:Boxed W C3 33 (.map (some r))
 map:W.heap[r]?=some (.map (mG 0 (dx sb)).toArray 18)
 out:∀k,lo≤k→k<hi+2→¬P k
 buf:∀k,v.ownBlock=some k→hi+2≤k∧¬P k
 bs:∃s:ByteArray,Boxed W Bs 9 (.string s)
 num:w0.heap.size≤lo∧lo≤r∧lo≤C3∧lo≤b∧lo≤Bs∧r<hi∧C3<hi∧b<hi∧Bs<hi∧C3≠b∧C3≠Bs∧b≠Bs∧r≠Bs∧w0.drawn=hi
def SI (w0:World) (sb r C3 b Bs lo hi:Nat) (Z0:Sn) (pre:List (List UInt8)) (W:World):Prop:=∃Z t P n v,SIx w0 sb r C3 b Bs lo hi Z0 pre W Z t P n v
section
variable {w0:World} {sb r C3 b Bs lo hi:Nat} {Z0:Sn} {pre:List (List UInt8)} {W W':World}
theorem SI.since (h:SI w0 sb r C3 b Bs lo hi Z0 pre W) (hs:Since W W'):SI w0 sb r C3 b Bs lo hi Z0 pre W':=by
 obtain⟨Z,t,P,n,v,h⟩:=h;obtain⟨s,hb⟩:=h.bs;exact⟨Z,t,P,n,v,h.lines,h.zr,h.se.go hs,h.n0,h.bl.fs (Fs.ah (S:=fun _=>False) hs) (fun e=>e) (fun _ _ e=>e),h.len,(hs.block _ h.box.lt).trans h.box,(hs.block _ (Array.getElem?_eq_some_iff.1 h.map).1).trans h.map,h.out,h.buf,⟨s,(hs.block _ hb.lt).trans hb⟩,h.num⟩
theorem Vy {l:Nat} {o:Obj} (o':Obj) (hl:W.heap[l]?=some o) (ho:o.isCells=false):sO (fun k=>k=l) W (W.putObj l o'):=by
 refine⟨⟨rfl,rfl,rfl,by simp[World.putObj],fun k hk hn=>World.putObj_heap_other hn⟩,fun a u ha _=>?_⟩;have hne:a.block≠l:=fun e=>by
  unfold World.cell? at ha;rw[e,hl] at ha;cases o<;>simp_all [Obj.isCells]
 rw[World.cell?_of_block (w:=W) (a:=a) (World.putObj_heap_other hne)];exact ha
theorem SI.put (h:SI w0 sb r C3 b Bs lo hi Z0 pre W) {l:Nat} {o:Obj} (o':Obj) (h1:hi≤l) (h2:l<hi+2) (hl:W.heap[l]?=some o) (ho:o.isCells=false):SI w0 sb r C3 b Bs lo hi Z0 pre (W.putObj l o'):=by
 obtain⟨Z,t,P,n,v,h⟩:=h;obtain⟨s,hb⟩:=h.bs;have hn:=h.num;have he:=Vy o' hl ho;refine⟨Z,t,P,n,v,h.lines,h.zr,h.se.els h.zr.2 he (fun k _ e=>by rw[e];exact h.out l (by omega) h2) (fun k e=>by rw[e];omega),h.n0,h.bl.fs he.fs (by show ¬b=l;omega) (fun k hk e=>by have:=(h.buf k hk).1;have e':k=l:=e;omega),h.len,?_,?_,h.out,h.buf,⟨s,?_⟩,h.num⟩
 ·exact(World.putObj_heap_other (by omega)).trans h.box
 ·exact(World.putObj_heap_other (by omega)).trans h.map
 exact(World.putObj_heap_other (by omega)).trans hb
theorem SI.box (h:SI w0 sb r C3 b Bs lo hi Z0 pre W) (q:ByteArray):SI w0 sb r C3 b Bs lo hi Z0 pre (W.setCell ⟨Bs,0,none⟩ (.string q)):=by
 obtain⟨Z,t,P,n,v,h⟩:=h;obtain⟨s,hb⟩:=h.bs;have hn:=h.num;have hf:Fs (fun k=>k=Bs) W (W.setCell ⟨Bs,0,none⟩ (.string q)):=⟨rfl,rfl,rfl,by simp[World.setCell],fun k hk hn=>Below.heap_setCell _ _ _ _ hn⟩
 refine⟨Z,t,P,n,v,h.lines,h.zr,h.se.box h.zr.2 hb (h.out Bs (by omega) (by omega)) (by omega) (by omega) _,h.n0,h.bl.fs hf (by show ¬b=Bs;omega) (fun k hk e=>by have:=(h.buf k hk).1;have e':k=Bs:=e;omega),h.len,?_,?_,h.out,h.buf,⟨q,hb.set _⟩,h.num⟩
 ·exact(Below.heap_setCell _ _ _ _ (by show C3≠Bs;omega)).trans h.box
 exact(Below.heap_setCell _ _ _ _ (by show r≠Bs;omega)).trans h.map
theorem SIx.step {Z Z':Sn} {t:ByteArray} {P:Nat→Prop} {n:Int} {v v1 v2:Value} {W1 W2 W3:World} {x:List UInt8} {a:qM} (h:SIx w0 sb r C3 b Bs lo hi Z0 pre W Z t P n v) (hw:hi+1<W.heap.size) (hL:Line (Zh x) Z Z' a) (hto:aG w0 W W1 P sb Z' (n+30)) (hsz:(fw a).size≤1000) (hz:Zr Z')
  (b2:Bl W2 lo b v1 (t.data.toList++(fw a).data.toList)) (e2:sO (fun k=>k=b∨v.ownBlock=some k) W1 W2) (o2:∀k,v1.ownBlock=some k→v.ownBlock=some k∨W1.heap.size≤k)
  (b3:Bl W3 lo b v2 (t.data.toList++(fw a).data.toList++[10])) (e3:sO (fun k=>k=b∨v1.ownBlock=some k) W2 W3) (o3:∀k,v2.ownBlock=some k→v1.ownBlock=some k∨W2.heap.size≤k) :
  SI w0 sb r C3 b Bs lo hi Z0 (pre++[x]) W3∧∀k,k<W.heap.size→¬P k→k≠b→v.ownBlock≠some k→W3.heap[k]?=W.heap[k]?:=by
 obtain⟨P',hse,hfs,Mm⟩:=hto;obtain⟨s,hb⟩:=h.bs;have hn:=h.num;have hbl:=h.bl.lt;have hpb:¬P b:=h.out b (by omega) (by omega);have a0R:¬P' b:=Mm b hbl hpb;have hown:∀k,v.ownBlock=some k→k<W.heap.size:=fun k hk=>(h.bl.Zd.own.lt k hk).2
 have hsz1:W.heap.size≤W1.heap.size:=hfs.size;have hsz2:W1.heap.size≤W2.heap.size:=e2.fs.size;have YC:∀k,v1.ownBlock=some k→hi+2≤k∧¬P' k:=fun k hk=>by
  rcases o2 k hk with h1 | h1
  ·exact⟨(h.buf k h1).1,Mm k (hown k h1) (h.buf k h1).2⟩
  exact⟨by omega,fun hp=>by have:=hse.oU k hp;omega⟩
 have hs2:=hse.els hz.2 e2 (fun k _ hk=>by
  rcases hk with rfl | hk
  ·exact a0R
  ·exact Mm k (hown k hk) (h.buf k hk).2) (fun k hk=>by
  rcases hk with rfl | hk
  ·omega
  have:=(h.buf k hk).1;omega)
 have hs3:=hs2.els hz.2 e3 (fun k _ hk=>by
  rcases hk with rfl | hk
  ·exact a0R
  ·exact(YC k hk).2) (fun k hk=>by
  rcases hk with rfl | hk
  ·omega
  have:=(YC k hk).1;omega)
 have hkeep:∀k,k<W.heap.size→¬P k→k≠b→v.ownBlock≠some k→W3.heap[k]?=W.heap[k]?:=fun k hk hp hkb hko=>by
  have h1:v1.ownBlock≠some k:=fun e=>by
   rcases o2 k e with h1 | h1
   ·exact hko h1
   omega
  rw[e3.fs.block k (by omega) (fun e=>by rcases e with e | e;exact hkb e;exact h1 e),e2.fs.block k (by omega) (fun e=>by rcases e with e | e;exact hkb e;exact hko e),hfs.block k hk hp]
 have hw2:∀k,lo≤k→k<hi+2→¬P' k:=fun k h1 h2=>Mm k (by omega) (h.out k h1 h2)
 have hno:∀k,k<hi→v.ownBlock≠some k:=fun k hk e=>by have:=(h.buf k e).1;omega
 have hda:∀p q:ByteArray,(p++q).data.toList=p.data.toList++q.data.toList:=fun p q=>by rw[ByteArray.data_append,Array.toList_append]
 refine⟨⟨Z',t++(fw a++nl),P',n+30,v2,?_,hz,hs3,⟨by have:=h.n0;omega,by have:=h.n0;rw[List.length_append,List.length_singleton];push_cast;omega⟩,?_,?_,?_,?_,hw2,fun k hk=>?_,⟨s,?_⟩,h.num⟩,hkeep⟩
 ·rw[List.map_append];exact IQ h.lines hL
 ·rw[hda,hda,←List.append_assoc];exact b3
 ·have hl:=h.len;have hnl:nl.size=1:=rfl;rw[ByteArray.size_append,ByteArray.size_append,List.length_append,List.length_singleton];omega
 ·exact(hkeep C3 (by have:=h.box.lt;omega) (h.out C3 (by omega) (by omega)) (by omega) (hno C3 (by omega))).trans h.box
 ·exact(hkeep r (Array.getElem?_eq_some_iff.1 h.map).1 (h.out r (by omega) (by omega)) (fun e=>by
   have h1:=h.map;obtain⟨p,_,h2⟩:=h.bl.blk;rw[e,h2] at h1;cases h1) (hno r (by omega))).trans h.map
 ·rcases o3 k hk with h1 | h1
  ·exact YC k h1
  exact⟨by omega,fun hp=>by have:=hse.oU k hp;omega⟩
 exact(hkeep Bs (by have:=hb.lt;omega) (h.out Bs (by omega) (by omega)) (by omega) (hno Bs (by omega))).trans hb
end
end Dk
end Go.Proofs.YtmhcfaaggkidjaaGreatDoor
end
section
namespace Go.Proofs.YtmhcfaaggkidjaaGreatDoor
set_option maxRecDepth 100000
namespace Dk
open Go.RowKit Go.Shelf
open En (Fi)
open Vl
open Fl (bR bT bf)
def c0:ByteArray:=⟨#[48]⟩
end Dk
end Go.Proofs.YtmhcfaaggkidjaaGreatDoor
end
section
namespace Go.Proofs.YtmhcfaaggkidjaaGreatDoor
set_option maxRecDepth 100000
namespace Dk
open Go.RowKit Go.Shelf
open En (Fi)
open Vl
open Tw (Tb Same)
open Fl (bR bT bf Me eZ vJ ax iK aH dQ aV gH bC)
def oW:List Int→ByteArray→(Nat→ByteArray)→Nat
 | [],_,_=>0
 | c::r,t,X=>(if t.extract 0 (min t.size 80)=X c.toNat∨t.extract 0 (min t.size 80)=⟨#[]⟩ then 0 else 1)+oW r (t.extract (min t.size 80) t.size) (fq X c.toNat (t.extract 0 (min t.size 80)))
section
variable {kb kt:ByteArray} {S S':Vs} {l l':List Fi} {n:Int} {k:Nat} {c:Int} {T:Tb} {X:Nat→ByteArray} {r:Int}
theorem Nn (h:S.on) (ht:tot S.D<108) (i:Nat) (hi:i<24) (t:ByteArray) (h80:t.size≤80):tot (S.write kb kt i t).2.D=tot S.D+(if t=S.X i∨t=⟨#[]⟩ then 0 else 1):=by
 have he:S.write kb kt i t=if t=S.X i then (0,S) else if t=⟨#[]⟩ then (0,S.set i 0 0 ⟨#[]⟩ ⟨#[]⟩) else if S.free≤20 then (if (S.ae kb kt).1.2.2≠0 then ((S.ae kb kt).1.2.2,(S.ae kb kt).2) else (S.ae kb kt).2.put kb i (-1) t) else S.put kb i (-1) t:=by
  unfold Vs.write;rw[if_neg (by rw[h.dead];decide),if_neg (by omega),if_neg (by omega),Int.toNat_natCast]
 rw[he];by_cases h1:t=S.X i
 ·rw[if_pos h1,if_pos (Or.inl h1)];rfl
 rw[if_neg h1];by_cases h2:t=⟨#[]⟩
 ·rw[if_pos h2,if_pos (Or.inr h2)];rfl
 rw[if_neg h2,a0s h.c16,if_neg (by omega),if_neg (fun e=>e.elim h1 h2)];obtain⟨z,_,wJ,KV,_,hp⟩:=tK h (by omega) kb i (-1) (Or.inl (by omega)) t;rw[hp];exact rC _ _ _ wJ
theorem Cw:∀(cs:List Int) (t:ByteArray) (S:Vs) (n:Int) (k:Nat),Vl.Good kb kt S n→Ph S k→k+cs.length<108→n+cs.length<1000000000→(∀c ∈ cs,0≤c∧c<24)→tot (eZ kb kt cs t S).2.D=tot S.D+oW cs t S.X
 | [],t,S,n,k,hg,hp,_,_,_=>rfl
 | c'::r,t,S,n,k,hg,hp,hk,hn,hc=>by
  rw[List.length_cons] at hk hn;have h0:=hc c' List.mem_cons_self;obtain⟨j,rfl⟩:∃j:Nat,c'=j:=⟨c'.toNat,by omega⟩
  have htt:=Fl.Ph.Qm hp;obtain⟨a1,a2,a3,a4,a5⟩:=qh hg (by omega) hp (by omega) j (by omega) (t.extract 0 (min t.size 80)) (Fl.jR t);have b:=Nn (kb:=kb) (kt:=kt) hg.on (by omega) j (by omega) (t.extract 0 (min t.size 80)) (Fl.jR t);rw[Fl.ym kb kt _ r t S a1,Cw r _ _ (n+1) (k+1) a2 a3 (by omega) (by omega) (fun c'' hc''=>hc c'' (List.mem_cons_of_mem _ hc'')),b,a4,oW,Int.toNat_natCast];omega
structure Rn (kb kt:ByteArray) (S:Vs) (l:List Fi) (n:Int) (k:Nat) (c:Int) (T:Tb) (X:Nat→ByteArray):Prop where
 FB:Me kb kt S l n k
 su:rO kb kt S.D c T X
 ws:S.D.ws=[]
 sc:S.c=c
 le:∀z,z<8→S.D.sure z≤S.D.cnt z
theorem Kh (cs:List Int) (t:ByteArray) (h:Vl.Good kb kt S n) (hp:Ph S k) (hk:k+cs.length<108) (hn:n+cs.length<1000000000) (hc:∀c ∈ cs,0≤c∧c<24) (hsu:rO kb kt S.D c T X) (hw:S.D.ws=[]) (hs:∀z,z<8→S.D.sure z≤S.D.cnt z) :
  (eZ kb kt cs t S).1=0∧Vl.Good kb kt (eZ kb kt cs t S).2 (n+cs.length)∧Ph (eZ kb kt cs t S).2 (k+cs.length)∧(eZ kb kt cs t S).2.X=vJ cs t S.X∧tot (eZ kb kt cs t S).2.D=tot S.D+oW cs t S.X∧rO kb kt (eZ kb kt cs t S).2.D c T X∧(eZ kb kt cs t S).2.D.ws=[]∧(eZ kb kt cs t S).2.c=S.c∧∀z,z<8→(eZ kb kt cs t S).2.D.sure z≤(eZ kb kt cs t S).2.D.cnt z:=by
 obtain⟨a1,a2,a3,a4,_⟩:=Fl.nQ cs t S n k h hp (by omega) hn hc;obtain⟨b1,b2,b3,b4⟩:=Fl.EB cs t S n k h hp hk hn hc hs hsu hw;exact⟨a1,a2,a3,a4,Cw cs t S n k h hp hk hn hc,b1,b2,b3,b4⟩
theorem VA:∀c ∈ ([0,1,2]:List Int),0≤c∧c<24:=by decide
theorem Np (h:Rn kb kt S l n k c T X) (hn:n+24<900000000):(S.flush kt).1=0∧Rn kb kt (S.flush kt).2 l (n+1) k (c+1) (S.flush kt).2.T (S.flush kt).2.X∧(S.flush kt).2.T.count=c+1∧(S.flush kt).2.X=S.X∧tot (S.flush kt).2.D=tot S.D:=by
 obtain⟨h1,h2,h3,h4,h5,h6⟩:=OX h.FB.good (by omega) h.FB.ph;obtain⟨s1,s2⟩:=GY h.FB.good (by omega);have hcn:=(iC h.FB.good.on kt).2.2.1;have hc:(S.flush kt).2.c=c+1:=by rw[h5,h.sc]
 refine⟨h1,⟨⟨h2,h3,h.FB.right,by rw[h4];exact h.FB.dir⟩,by rw[←hc];exact s1,s2,hc,fun z hz=>?_⟩,by rw[h2.ok.cnt,hc],h4,by unfold tot;rw[hcn]⟩;rw[rE h.FB.good.on kt];exact Nat.le_of_eq ((rG _).2.2.2.2 z hz)
theorem Nq {ay:ByteArray} {f:uT} (h:dL ay mr 0 f r):f=.op (fresh mr 0) []:=by
 obtain⟨r0,S,ho,hx⟩:=h;have ho':Br (bz ay) (aT ay) mr 0 r0 S:=ho;have hg:=qi (bz ay) (aT ay);obtain⟨h0,_,_,_,h4,_,_⟩:=tL hg.2.2 hg.1.low ho';obtain rfl:=h4 rfl;have hp:En.parse (bf (fresh mr 0).X [0,1,2])=some []:=(En.oG _ _).2 ⟨rfl,rfl⟩;rcases hx with⟨h1,_⟩ | ⟨_,h1,_⟩ | ⟨_,l,h1,_,h2⟩
 ·exact absurd h0 h1
 ·rw[hp] at h1;cases h1
 rw[hp] at h1;injection h1 with h1
 subst h1;exact h2
theorem Rs (kb kt:ByteArray):Rn kb kt (fresh mr 0) [] 0 0 0 Tb.zero (fun _=>⟨#[]⟩):=⟨Fl.Mh kb kt,⟨Or.inl ⟨rfl,fun _ _=>rfl⟩,fun k hk=>by
 have e:(fresh mr 0).D.slot k=fun _=>0:=rfl
 rw[e,JE];exact Int.le_refl 0⟩,rfl,rfl,fun z hz=>Nat.le_refl 0⟩
end
end Dk
end Go.Proofs.YtmhcfaaggkidjaaGreatDoor
end
section
namespace Go.Proofs.YtmhcfaaggkidjaaGreatDoor
set_option maxRecDepth 100000
namespace Dk
open Go.RowKit Go.Sort Go.Shelf
open En (Fi)
open Vl
open Tw (Tb Same)
open Fl (bR bT bf Me eZ vJ ax iK aH dQ aV gH bC)
theorem Cy {ay:ByteArray} {im:Im} {S:Vs} {l:List Fi} {s t:ByteArray} {k:Int} {Z':Sn} {a:qM} (hb:¬eY t k) (h:vK s t k ⟨ay,im,.op S l⟩ Z' a):∃r S' l',bR (bz ay) (aT ay) S l s (ll t k) r S' l'∧Z'=⟨ay,im,.op S' l'⟩∧a=(r,EK):=by
 rcases h with⟨h,_⟩ | ⟨_,h⟩
 ·exact absurd h hb
 exact h
theorem VE (a:List UInt8):Lib.hasSuffix (a++[10]) [10]=true:=by
 rw[←Lib.hasSuffix_of_drop];simp
theorem Fp (a:List UInt8):Lib.trimSuffix (a++[10]) [10]=a:=by
 unfold Lib.trimSuffix;rw[VE,if_pos rfl];simp
end Dk
end Go.Proofs.YtmhcfaaggkidjaaGreatDoor
end
section
namespace Go.Proofs.YtmhcfaaggkidjaaGreatDoor
set_option maxRecDepth 100000
namespace Dk
open Go.RowKit Go.Shelf
def inW (b:UInt8):Prop:=b.toNat<128∧b≠32
def isW (w:List UInt8):Prop:=w≠[]∧∀b ∈ w,inW b
theorem Jb {s:ByteArray} {pos:Nat} (h:pos<s.size) (ha:s[pos].toNat<128) (f:Nat) (st:Option Nat) (acc:List (Nat × Nat)) :
  Lib.spansFromP WL s (f+1) pos st acc=if s[pos]=32 then (match st with | some a=>Lib.spansFromP WL s f (pos+1) none (acc++[(a,pos)]) | none=>Lib.spansFromP WL s f (pos+1) none acc) else (match st with | some a=>Lib.spansFromP WL s f (pos+1) (some a) acc | none=>Lib.spansFromP WL s f (pos+1) (some pos) acc):=by
 conv=>lhs;rw[Lib.spansFromP.eq_def]
 dsimp only;rw[if_pos h,decode_ascii s pos h ha];by_cases e:s[pos]=32
 ·have:WL s[pos].toNat=true:=by rw[e];rfl
  rw[if_pos this,if_pos e];cases st<;>rfl
 have:WL s[pos].toNat=false:=by
  unfold WL;refine beq_false_of_ne (fun h2=>e ?_);exact UInt8.toNat_inj.1 h2
 rw[if_neg (by rw[this];decide),if_neg e];cases st<;>rfl
theorem a1a {s:ByteArray}:∀(w:List UInt8) (pos f a:Nat) (acc:List (Nat × Nat)),(∀b ∈ w,inW b)→(∀j (h:j<w.length),∃h2:pos+j<s.size,s[pos+j]=w[j])→Lib.spansFromP WL s (f+w.length) pos (some a) acc=Lib.spansFromP WL s f (pos+w.length) (some a) acc
 | [],pos,f,a,acc,_,_=>rfl
 | b::r,pos,f,a,acc,hb,hs=>by
  obtain⟨h0,e0⟩:=hs 0 (by simp);have h0':pos<s.size:=h0;have e0':s[pos]'h0'=b:=e0;have hb0:=hb b List.mem_cons_self;rw[List.length_cons,show f+(r.length+1)=(f+r.length)+1 by omega,Jb h0' (by rw[e0'];exact hb0.1),if_neg (by rw[e0'];exact hb0.2)];show Lib.spansFromP WL s (f+r.length) (pos+1) (some a) acc=_
  rw[a1a r (pos+1) f a acc (fun b' h'=>hb b' (List.mem_cons_of_mem _ h')) (fun j hj=>by
   obtain⟨h2,e2⟩:=hs (j+1) (by simpa using hj);have e:pos+1+j=pos+(j+1):=by omega
   refine⟨by omega,?_⟩;simp only[e]
   simpa using e2),show pos+1+r.length=pos+(r.length+1) by omega]
theorem WP {s:ByteArray} (w:List UInt8) (hw:isW w) (pos f:Nat) (acc:List (Nat × Nat)) (hs:∀j (h:j<w.length),∃h2:pos+j<s.size,s[pos+j]=w[j]):Lib.spansFromP WL s (f+w.length) pos none acc=Lib.spansFromP WL s f (pos+w.length) (some pos) acc:=by
 cases w with
 | nil=>exact absurd rfl hw.1
 | cons b r=>
  obtain⟨h0,e0⟩:=hs 0 (by simp);have h0':pos<s.size:=h0;have e0':s[pos]'h0'=b:=e0;have hb0:=hw.2 b List.mem_cons_self;rw[List.length_cons,show f+(r.length+1)=(f+r.length)+1 by omega,Jb h0' (by rw[e0'];exact hb0.1),if_neg (by rw[e0'];exact hb0.2)];show Lib.spansFromP WL s (f+r.length) (pos+1) (some pos) acc=_
  rw[a1a r (pos+1) f pos acc (fun b' h'=>hw.2 b' (List.mem_cons_of_mem _ h')) (fun j hj=>by
   obtain⟨h2,e2⟩:=hs (j+1) (by simpa using hj);have e:pos+1+j=pos+(j+1):=by omega
   refine⟨by omega,?_⟩;simp only[e]
   simpa using e2),show pos+1+r.length=pos+(r.length+1) by omega]
def jn:List (List UInt8)→List UInt8
 | []=>[]
 | [w]=>w
 | w::x::r=>w++32::jn (x::r)
theorem VB {s:ByteArray} {pre w post:List UInt8} (h:s.data.toList=pre++(w++post)):∀j (hj:j<w.length),∃h2:pre.length+j<s.size,s[pre.length+j]=w[j]:=fun j hj=>by
 have hl:s.data.toList.length=s.size:=by rw[Array.length_toList];rfl
 have h2:pre.length+j<s.size:=by rw[←hl,h];simp;omega
 refine⟨h2,?_⟩;have e1:s.data.toList[pre.length+j]'(by rw[hl];exact h2)=s[pre.length+j]:=by rw[Array.getElem_toList];rfl
 rw[←e1];simp only[h];rw[List.getElem_append_right (by omega),List.getElem_append_left (by omega)]
 congr 1
 omega
theorem YD {s:ByteArray} {pre w post:List UInt8} (h:s.data.toList=pre++(w++post)):s.extract pre.length (pre.length+w.length)=Zh w:=by
 apply ByteArray.ext
 apply Array.toList_inj.1
 rw[ByteArray.data_extract,Array.toList_extract,List.extract_eq_take_drop,h];simp[Zh]
theorem Nj {s:ByteArray}:∀(ws:List (List UInt8)) (pre:List UInt8) (acc:List (Nat × Nat)),ws≠[]→(∀w ∈ ws,isW w)→s.data.toList=pre++jn ws→
  (Lib.closeSpans s (Lib.spansFromP WL s (jn ws).length pre.length none acc)).map (fun x=>s.extract x.1 x.2)=acc.map (fun x=>s.extract x.1 x.2)++ws.map Zh
 | [],_,_,h,_,_=>absurd rfl h
 | [w],pre,acc,_,hw,h=>by
  have h':s.data.toList=pre++(w++[]):=by rw[h];simp[jn]
  have hl:s.data.toList.length=s.size:=by rw[Array.length_toList];rfl
  have hsz:s.size=pre.length+w.length:=by rw[←hl,h'];simp
  have e:=WP (s:=s) w (hw w List.mem_cons_self) pre.length 0 acc (VB h');rw[Nat.zero_add] at e;show (Lib.closeSpans s (Lib.spansFromP WL s w.length pre.length none acc)).map _=_
  rw[e,Lib.spansFromP.eq_def];dsimp only;unfold Lib.closeSpans;simp only[List.map_append,List.map_cons,List.map_nil];rw[hsz,YD h']
 | w::x::r,pre,acc,_,hw,h=>by
  have h':s.data.toList=pre++(w++32::jn (x::r)):=h;have h'':s.data.toList=(pre++w++[32])++jn (x::r):=by rw[h'];simp
  have hb:=VB (s:=s) (pre:=pre++w) (w:=[32]) (post:=jn (x::r)) (by rw[h'];simp);obtain⟨hb0,eb0⟩:=hb 0 (by simp);simp only[Nat.add_zero,List.length_append] at hb0 eb0;have e:=WP (s:=s) w (hw w List.mem_cons_self) pre.length ((jn (x::r)).length+1) acc (VB h');have el:(jn (w::x::r)).length=(jn (x::r)).length+1+w.length:=by
   show (w++32::jn (x::r)).length=_
   simp;omega
  have eb:s[pre.length+w.length]'hb0=32:=by simpa using eb0
  rw[el,e,Jb hb0 (by rw[eb];decide),if_pos eb];show (Lib.closeSpans s (Lib.spansFromP WL s (jn (x::r)).length (pre.length+w.length+1) none (acc++[(pre.length,pre.length+w.length)]))).map _=_
  have ih:=Nj (s:=s) (x::r) (pre++w++[32]) (acc++[(pre.length,pre.length+w.length)]) (by simp) (fun y hy=>hw y (List.mem_cons_of_mem _ hy)) h'';simp only[List.length_append,List.length_cons,List.length_nil] at ih;rw[ih];simp only[List.map_append,List.map_cons,List.map_nil,List.append_assoc,List.cons_append,List.nil_append];rw[YD h']
theorem a1b (ws:List (List UInt8)) (hn:ws≠[]) (hw:∀w ∈ ws,isW w):eF (Zh (jn ws))=ws.map Zh:=by
 have h:=Nj (s:=Zh (jn ws)) ws [] [] hn hw (by simp[Zh]);exact h
def tx:List (List UInt8)→List UInt8
 | []=>[]
 | x::r=>x++10::tx r
theorem Kg:∀(a b:List (List UInt8)),tx (a++b)=tx a++tx b
 | [],_=>rfl
 | x::r,b=>by
  show x++10::tx (r++b)=(x++10::tx r)++tx b
  rw[Kg r b];simp
theorem AB:∀(x:List UInt8),(10:UInt8) ∉ x→aL x=[x]
 | [],_=>rfl
 | c::r,h=>by
  have h1:¬c=10:=fun e=>h (by rw[e];exact List.mem_cons_self)
  have h2:=AB r (fun e=>h (List.mem_cons_of_mem _ e));rw[nV,if_neg h1,h2]
theorem Nk:∀(a:List (List UInt8)) (y:List UInt8),(∀x ∈ a,(10:UInt8) ∉ x)→(10:UInt8) ∉ y→aL (tx a++y)=a++[y]
 | [],y,_,hy=>AB y hy
 | x::r,y,ha,hy=>by
  show aL ((x++10::tx r)++y)=_
  rw[List.append_assoc,List.cons_append,qJ,AB x (ha x List.mem_cons_self),Nk r y (fun z hz=>ha z (List.mem_cons_of_mem _ hz)) hy]
  rfl
theorem a1c (a:List (List UInt8)) (y:List UInt8) (ha:∀x ∈ a,(10:UInt8) ∉ x) (hy:(10:UInt8) ∉ y):aL (Lib.trimSuffix (tx (a++[y])) [10])=a++[y]:=by
 have e:tx (a++[y])=(tx a++y)++[10]:=by rw[Kg];simp[tx]
 rw[e,Fp,Nk a y ha hy]
end Dk
end Go.Proofs.YtmhcfaaggkidjaaGreatDoor
end
section
namespace Go.Proofs.YtmhcfaaggkidjaaGreatDoor
set_option linter.constructorNameAsVariable false
set_option maxRecDepth 100000
namespace Dk
open Go.RowKit Go.Sort Go.Shelf
open En (Fi)
open Vl
open Tw (Tb Same)
open Fl (bR bT bf Me eZ vJ ax iK aH dQ aV gH bC)
section
variable {kb kt:ByteArray} {S S':Vs} {l l':List Fi} {n:Int} {k:Nat} {c:Int} {T:Tb} {X:Nat→ByteArray} {r:Int}
theorem a1d (n:Nat) (f:Nat→UInt8):txt n (sb (txt n f))=txt n f:=a0j (fun i hi=>vW n f i hi)
theorem a1e (D E:Dv) (k:Nat) (hk:k<2):(yz D (Mk E)).aJ k (fun _=>true)=sb (txt 500 (E.slot k)):=by
 rw[qd _ rfl];have:k=0∨k=1:=by omega
 rcases this with rfl | rfl<;>rfl
theorem a1u {D E:Dv} (h:rO kb kt E c T X):low (yz D (Mk E)) c:=fun k hk=>by
 rw[a1e D E k hk,a1d];exact h.2 k hk
theorem Nr {ay:ByteArray} {D:Dv} {f:uT} {e:Int} (hl:low D e) (h0:0≤e) (he:e<c) (h:dL ay D c f r):r=15∧f=.no D c:=by
 obtain⟨r0,S,ho,hx⟩:=h;have ho':Br (bz ay) (aT ay) D c r0 S:=ho;have hn1:¬whole (bz ay) (aT ay) D (c+1):=hl.not (by omega);have hn2:¬whole (bz ay) (aT ay) D c:=hl.not he;rcases ho' with⟨h1,_⟩ | ⟨_,h1,_⟩ | ⟨_,_,h1,_⟩ | ⟨_,_,_,h1,h2⟩
 ·exact absurd h1 hn1
 ·omega
 ·exact absurd h1 hn2
 subst h2;rcases hx with⟨_,h3,h4⟩ | ⟨h3,_⟩ | ⟨h3,_⟩
 ·exact⟨h3.trans h1,h4⟩
 ·omega
 omega
theorem Ja {s t:ByteArray} (h:Rn kb kt S l n k c T X) (hk:k+28<108) (hn:n+24<900000000) (hnm:En.aP s.data.toList=true) (hb:aH l s=[]) (ht:1≤t.size∧t.size≤80) (hp:bR kb kt S l s t r S' l') :
  r=0∧Rn kb kt S' l' (n+24) (k+4) c T X∧aH l' s=[]:=by
 have hne:En.need t.size=1:=by
  unfold En.need;rw[if_neg (by omega)];omega
 have h21:(En.bS []).length=21:=by kernel_rfl
 have hf:dQ l s t=false:=by
  unfold dQ;rw[hb,hne,h21]
  rfl
 have hcl:(ax l s t).length=1:=by
  unfold ax;rw[hb,hne,List.length_take,h21]
  rfl
 have hcs:∀c ∈ ax l s t,0≤c∧c<24:=fun c hc=>by have:=(Fl.oH hc).1;omega
 obtain⟨a1,a2,a3,a4,a5,a6,a7,a8,a9⟩:=Kh (ax l s t) t h.FB.good h.FB.ph (by omega) (by omega) hcs h.su h.ws h.le;rcases hp with⟨h1,_⟩ | ⟨_,h1,_⟩ | ⟨_,_,h1,_⟩ | ⟨_,_,_,l1,p1,p2,p3,p4,p5,p6⟩
 ·rw[hnm] at h1;cases h1
 ·rw[hf] at h1;cases h1
 ·exact absurd a1 h1
 obtain⟨q1,q2,q3,q4,q5⟩:=Fl.Uv h.FB (by omega) (by omega) hnm hf p1 p2;rw[q2] at p3;obtain rfl:=p5 p3;unfold Fl.bC at *;obtain⟨b1,b2,b3,b4,b5,b6,b7,b8,b9⟩:=Kh (c:=c) (T:=T) (X:=X) [0,1,2] ⟨(En.print l').toArray⟩ a2 a3 (by simp;omega) (by simp;omega) VA a6 a7 a9;rw[←p4] at *;refine⟨p3,⟨q3.le (by omega) (by omega),b6,b7,b8.trans (a8.trans h.sc),b9⟩,?_⟩;rw[hb] at p1;have e:l'=[iK l s t]:=List.perm_singleton.1 p1.symm;rw[e];unfold aH;rw[List.filter_cons_of_neg (by simp[iK])]
 rfl
end
def yL:List UInt8:=[112,117,116]
def fB:List UInt8:=[102,108,117,115,104]
theorem a1f:vg ⟨#[112,117,116]⟩ tab=some ⟨⟨#[112,117,116]⟩,⟨#[84,78,84]⟩,some [true,false,true],37,Ay vK⟩:=by kernel_rfl
theorem Ns {s k t:List UInt8} {v:Int} (hs:isW s) (hk:isW k) (ht:isW t) (hv:numOf k=some v):Line (Zh (jn [yL,s,k,t]))=vK (Zh s) (Zh t) v:=by
 unfold Line;rw[a1b [yL,s,k,t] (by simp) (fun w hw=>by
  simp only[List.mem_cons,List.not_mem_nil,or_false] at hw;rcases hw with rfl | rfl | rfl | rfl
  ·exact⟨by decide,by unfold inW yL;decide⟩
  ·exact hs
  ·exact hk
  exact ht)]
 have hmap:[yL,s,k,t].map Zh=[⟨#[112,117,116]⟩,Zh s,Zh k,Zh t]:=rfl;rw[hmap];dsimp only;rw[a1f];have hr:fI [true,false,true] [Zh s,Zh k,Zh t]=some ([Zh s,Zh t],[v]):=by
  have e:(Zh k).data.toList=k:=by simp[Zh]
  simp only[fI,e,hv]
 dsimp only;rw[hr]
 rfl
theorem AA {s:ByteArray} (h:En.aP s.data.toList=true):isW s.data.toList∧(10:UInt8) ∉ s.data.toList∧s.size≤10:=by
 obtain⟨h0,h1,h2,h3⟩:=(En.LC s).1 h;have hl:s.data.toList.length=s.size:=by rw[Array.length_toList];rfl
 have hb:∀b ∈ s.data.toList,48≤b.toNat∧b.toNat≤122:=fun b hb=>by
  obtain⟨i,hi,rfl⟩:=List.getElem_of_mem hb;have:=h3 i (by omega);have e:s.data.toList[i]=s[i]:=by rw[Array.getElem_toList];rfl
  rw[e];simp only[Bool.or_eq_true,En.isLet,En.ig,Bool.and_eq_true,decide_eq_true_eq] at this;omega
 refine⟨⟨fun e=>by rw[e] at hl;simp at hl;omega,fun b hb'=>⟨by have:=hb b hb';omega,fun e=>?_⟩⟩,fun hm=>?_,h1⟩
 ·have:=hb b hb';rw[e] at this;exact absurd this.1 (by decide)
 have:=hb 10 hm;exact absurd this.1 (by decide)
def rdL (s:List UInt8):Nat→Nat→List (List UInt8)
 | _,0=>[]
 | j,m+1=>jn [yL,s,[50],Lib.itoa j]::fB::rdL s (j+1) m
def rdA:Nat→Nat→List ByteArray
 | _,0=>[]
 | j,m+1=>EK::told lY ((j:Int)+2)::rdA (j+1) m
def mq:List ByteArray→ByteArray
 | []=>⟨#[]⟩
 | a::r=>a++nl++mq r
theorem NC:∀(a b:List ByteArray),mq (a++b)=mq a++mq b
 | [],b=>(ByteArray.empty_append).symm
 | x::r,b=>by
  show x++nl++mq (r++b)=(x++nl++mq r)++mq b
  rw[NC r b];simp only[ByteArray.append_assoc]
theorem nA (j:Nat) (hj:j<4):isW (Lib.itoa j)∧(Zh (Lib.itoa j)).size=1∧(10:UInt8) ∉ Lib.itoa j:=by
 match j,hj with
 | 0,_=>rw[show Lib.itoa ((0:Nat):Int)=[48] by kernel_rfl];exact⟨⟨by decide,by unfold inW;decide⟩,by decide,by decide⟩
 | 1,_=>rw[show Lib.itoa ((1:Nat):Int)=[49] by kernel_rfl];exact⟨⟨by decide,by unfold inW;decide⟩,by decide,by decide⟩
 | 2,_=>rw[show Lib.itoa ((2:Nat):Int)=[50] by kernel_rfl];exact⟨⟨by decide,by unfold inW;decide⟩,by decide,by decide⟩
 | 3,_=>rw[show Lib.itoa ((3:Nat):Int)=[51] by kernel_rfl];exact⟨⟨by decide,by unfold inW;decide⟩,by decide,by decide⟩
theorem a5j:numOf [50]=some 2:=by kernel_rfl
theorem a5k:numOf [49]=some 1:=by kernel_rfl
theorem w2:isW [50]:=⟨by decide,by unfold inW;decide⟩
theorem w1:isW [49]:=⟨by decide,by unfold inW;decide⟩
theorem wx:isW [120]:=⟨by decide,by unfold inW;decide⟩
theorem a0a:Line (Zh fB)=gW:=by kernel_rfl
theorem Rm (t:ByteArray) (k:Nat):(ll t k).size=k*t.size:=by
 show (Lib.repeatL t.data.toList ((k:Int).toNat)).length=_
 rw[Lib.repeatL_length,Int.toNat_natCast]
 rfl
theorem a1g {t:ByteArray} (ht:t.size=1) (k:Nat) (hk:k≤2):¬eY t k:=by
 unfold eY;rw[ht];omega
set_option maxHeartbeats 2000000 in
theorem Cv {ay:ByteArray} {s:ByteArray} (hnm:En.aP s.data.toList=true) {im:Im} {Z':Sn}:∀(m j:Nat) (S:Vs) (l:List Fi) (n:Int) (k:Nat) (T:Tb) (X:Nat→ByteArray) (t:ByteArray),j+m≤4→Rn (bz ay) (aT ay) S l n k ((j:Int)+1) T X→aH l s=[]→k+4*m+30<108→n+30*m+30<900000000→
  mi ((rdL s.data.toList j m).map Zh) ⟨ay,im,.op S l⟩ Z' t→t=mq (rdA j m)∧∃S' l' c,Z'=⟨ay,im,.op S' l'⟩∧S'.c=c∧c=(j:Int)+m+1
 | 0,j,S,l,n,k,T,X,t,_,hR,_,_,_,h=>by
  obtain⟨h1,h2⟩:=h;exact⟨h2,S,l,_,h1,rfl,by rw[hR.sc];simp⟩
 | m+1,j,S,l,n,k,T,X,t,hj,hR,hb,hk,hn,h=>by
  obtain⟨Z1,a1,t1,g1,h,rfl⟩:=h;obtain⟨i1,i2,i3⟩:=nA j (by omega);rw[Ns (AA hnm).1 w2 i1 a5j] at g1;have hs:Zh s.data.toList=s:=rfl;rw[hs] at g1;obtain⟨r1,S1,l1,p1,rfl,rfl⟩:=Cy (a1g i2 2 (by omega)) g1;obtain⟨rfl,R1,hb1⟩:=Ja hR (by omega) (by omega) hnm hb (by
   have:=Rm (Zh (Lib.itoa j)) 2;rw[i2] at this;rw[this];omega) p1
  obtain⟨Z2,a2,t2,g2,h,rfl⟩:=h;rw[a0a] at g2;obtain⟨rfl,rfl⟩:=g2;obtain⟨e1,R2,e2,e3,e4⟩:=Np R1 (by omega);have R2':Rn (bz ay) (aT ay) (S1.flush (aT ay)).2 l1 (n+24+1) (k+4) (((j+1:Nat):Int)+1) (S1.flush (aT ay)).2.T (S1.flush (aT ay)).2.X:=by
   have:((j+1:Nat):Int)+1=(j:Int)+1+1:=by omega
   rw[this];exact R2
  obtain⟨q1,S',l',c,q2,q3,q4⟩:=Cv hnm m (j+1) _ l1 (n+24+1) (k+4) _ _ t2 (by omega) R2' hb1 (by omega) (by omega) h;refine⟨?_,S',l',c,q2,q3,by rw[q4];omega⟩;have e1':(S1.flush (aT (⟨ay,im,.op S1 l1⟩:Sn).ay)).1=0:=e1;have e2':(S1.flush (aT (⟨ay,im,.op S1 l1⟩:Sn).ay)).2.T.count=(j:Int)+2:=by
   have e:(S1.flush (aT ay)).2.T.count=(j:Int)+2:=by rw[e2];omega
   exact e
  rw[e1',e2',q1];show fw (0,EK)++nl++(fw (0,told lY ((j:Int)+2))++nl++mq (rdA (j+1) m))=EK++nl++(told lY ((j:Int)+2)++nl++mq (rdA (j+1) m))
  rfl
def yK:List UInt8:=[105,109,97,103,101]
def a1m:List UInt8:=[108,97,121]
def Ro:List UInt8:=[111,112,101,110]
def Rp:List UInt8:=[108,105,115,116]
theorem a1v:Line (Zh yK)=ut:=by kernel_rfl
theorem a2w:Line (Zh a1m)=Mv:=by kernel_rfl
theorem a1M:Line (Zh Ro)=Am:=by kernel_rfl
theorem a1N:Line (Zh Rp)=kC:=by kernel_rfl
def Cx (s:List UInt8) (n:Nat):List (List UInt8):=(jn [yL,s,[49],[120]]::fB::yK::rdL s 0 n)++[a1m,Ro]++[Rp]
def VC (n:Nat):List ByteArray:=EK::told lY 1::Cc::(rdA 0 n++[UO,told lX 15,told lX 8])
theorem a1D {s:List UInt8} (hs:(10:UInt8) ∉ s) {k t:List UInt8} (hk:(10:UInt8) ∉ k) (ht:(10:UInt8) ∉ t):(10:UInt8) ∉ jn [yL,s,k,t]:=by
 show (10:UInt8) ∉ yL++32::(s++32::(k++32::t))
 simp only[List.mem_append,List.mem_cons,not_or];exact⟨by decide,by decide,hs,by decide,hk,by decide,ht⟩
theorem a1n {s:List UInt8} (hs:(10:UInt8) ∉ s):∀(m j:Nat),j+m≤4→∀x ∈ rdL s j m,(10:UInt8) ∉ x
 | 0,_,_,x,h=>by cases h
 | m+1,j,hj,x,h=>by
  have h':x ∈ jn [yL,s,[50],Lib.itoa j]::fB::rdL s (j+1) m:=h;rcases List.mem_cons.1 h' with rfl | h'
  ·exact a1D hs (by decide) (nA j (by omega)).2.2
  rcases List.mem_cons.1 h' with rfl | h'
  ·decide
  exact a1n hs m (j+1) (by omega) x h'
theorem VD {s:ByteArray} (hnm:En.aP s.data.toList=true) {n:Nat} (hn:n≤4):aL (Lib.trimSuffix (tx (Cx s.data.toList n)) [10])=Cx s.data.toList n:=by
 refine a1c _ _ (fun x hx=>?_) (by decide);have hs:=(AA hnm).2.1;rw[List.mem_append] at hx;rcases hx with hx | hx
 ·rcases List.mem_cons.1 hx with rfl | hx
  ·exact a1D hs (by decide) (by decide)
  rcases List.mem_cons.1 hx with rfl | hx
  ·decide
  rcases List.mem_cons.1 hx with rfl | hx
  ·decide
  exact a1n hs n 0 (by omega) x hx
 simp only[List.mem_cons,List.not_mem_nil,or_false] at hx;rcases hx with rfl | rfl<;>decide
set_option maxHeartbeats 2000000 in
theorem a1w {s t:ByteArray} (hnm:En.aP s.data.toList=true) {n:Nat} (hn:1≤n∧n≤4) (h:zx (Zh (tx (Cx s.data.toList n))) t):t=mq (VC n):=by
 obtain⟨f,r,Z',hre,hL⟩:=h;have e:(Zh (tx (Cx s.data.toList n))).data.toList=tx (Cx s.data.toList n):=by simp[Zh]
 rw[e,VD hnm hn.2] at hL;generalize dw ⟨#[]⟩=ay at *;obtain rfl:=Nq hre;have R0:=Rs (bz ay) (aT ay);have hL2:mi (Zh (jn [yL,s.data.toList,[49],[120]])::Zh fB::Zh yK::((rdL s.data.toList 0 n).map Zh++[Zh a1m,Zh Ro,Zh Rp])) ⟨ay,sS,.op (fresh mr 0) []⟩ Z' t:=by
  have e2:(Cx s.data.toList n).map Zh=Zh (jn [yL,s.data.toList,[49],[120]])::Zh fB::Zh yK::((rdL s.data.toList 0 n).map Zh++[Zh a1m,Zh Ro,Zh Rp]):=by
   unfold Cx;simp
  rw[←e2];exact hL
 clear hL hre;obtain⟨Z1,a1,t1,g1,hL,rfl⟩:=hL2;rw[Ns (AA hnm).1 w1 wx a5k] at g1;have hs:Zh s.data.toList=s:=rfl;rw[hs] at g1;obtain⟨r1,S1,l1,p1,rfl,rfl⟩:=Cy (a1g (t:=Zh [120]) rfl 1 (by omega)) g1;obtain⟨rfl,R1,hb1⟩:=Ja R0 (by omega) (by omega) hnm rfl (by
  have:=Rm (Zh [120]) 1;rw[this];exact⟨by decide,by decide⟩) p1
 obtain⟨Z2,a2,t2,g2,hL,rfl⟩:=hL;rw[a0a] at g2;obtain⟨rfl,rfl⟩:=g2;obtain⟨e1,R2,e2,e3,e4⟩:=Np R1 (by omega);have e1':(S1.flush (aT (⟨ay,sS,.op S1 l1⟩:Sn).ay)).1=0:=e1;have e2':(S1.flush (aT (⟨ay,sS,.op S1 l1⟩:Sn).ay)).2.T.count=1:=e2;rw[e1',e2'];clear e1' e2';obtain⟨Z3,a3,t3,g3,hL,rfl⟩:=hL;rw[a1v] at g3;obtain⟨rfl,rfl⟩:=g3;obtain⟨Z4,u1,u2,k1,k2,rfl⟩:=(oK _ _ _ _ _).1 hL;clear hL;obtain⟨rfl,S3,l3,c3,q1,q2,q3⟩:=Cv (s:=s) hnm n 0 _ l1 (0+24+1) (0+4) _ _ u1 (by omega) R2 hb1 (by omega) (by omega) k1;subst q1;obtain⟨Z5,a5,t5,g5,hL,rfl⟩:=k2;rw[a2w] at g5;obtain⟨f5,r5,w5,rfl,rfl⟩:=g5;have hlow:low (yz S3.D (Mk (S1.flush (aT ay)).2.D)) (0+1):=a1u R2.su;obtain⟨rfl,rfl⟩:=Nr (ay:=ay) (c:=S3.c) hlow (by omega) (by omega) w5;obtain⟨Z6,a6,t6,g6,hL,rfl⟩:=hL;rw[a1M] at g6;obtain⟨f6,r6,w6,rfl,rfl⟩:=g6
 obtain⟨rfl,rfl⟩:=Nr (ay:=ay) (c:=S3.c) hlow (by omega) (by omega) w6;obtain⟨Z7,a7,t7,g7,hL,rfl⟩:=hL;rw[a1N] at g7;obtain⟨rfl,rfl⟩:=g7;obtain⟨rfl,rfl⟩:=hL;have e7:mq (VC n)=EK++nl++(told lY 1++nl++(Cc++nl++(mq (rdA 0 n)++(UO++nl++(told lX 15++nl++(told lX 8++nl++⟨#[]⟩)))))):=by
  show EK++nl++(told lY 1++nl++(Cc++nl++mq (rdA 0 n++[UO,told lX 15,told lX 8])))=_
  rw[NC]
  rfl
 rw[e7]
 rfl
end Dk
end Go.Proofs.YtmhcfaaggkidjaaGreatDoor
end
section
namespace Go.Proofs.YtmhcfaaggkidjaaGreatDoor
set_option maxRecDepth 100000
namespace Dk
open Go.RowKit Go.Shelf
attribute [local go_sem] Oper.semAt_some
open Vl
theorem VF (s:List UInt8):(Lib.trimSuffix s [10]).length≤s.length:=by
 unfold Lib.trimSuffix;split
 ·rw[List.length_take];omega
 exact Nat.le_refl _
theorem Rw (s:ByteArray) (hs:s.size≤100000) (w:World):Calls Tryz.prog 15 #[.string s,.string ⟨#[10]⟩] w fun e w'=>e=.returned (.string ⟨(Lib.trimSuffix s.data.toList [10]).toArray⟩)∧w'=w:=Tryz.strings_TrimSuffix s ⟨#[10]⟩ w (by omega)
set_option maxHeartbeats 8000000 in
theorem Fq (w:World) (G:Gr w) (text:ByteArray) (ht:text.size≤4000):Calls Tryz.prog 5 #[.string text] w fun e w'=>∃t,zx text t∧e=.returned (.string t)∧Since w w':=by
 have HG:Hid (Gr w):=G;have hlen:decide ((20000:Int)<(text.size:Int))=false:=decide_eq_false (by omega);have a5h:decide ((text.size:Int) > 20000)=false:=decide_eq_false (by omega);obtain⟨m,hm⟩:=G.lb.max;have hgl:=World.block_lt_of_cell? _ _ hm;have SE:Hid (w.cell? ⟨1,0,none⟩=some (.int .i64 m)∧1<w.heap.size):=⟨hm,hgl⟩
 have hrl:(Lib.trimSuffix text.data.toList [10]).length≤4000:=by
  have:=VF text.data.toList;rw[Array.length_toList] at this;exact Nat.le_trans this ht
 have Xp:Hid (∀W,Calls Tryz.prog 15 #[.string text,.string ⟨#[10]⟩] W fun e w'=>e=.returned (.string ⟨(Lib.trimSuffix text.data.toList [10]).toArray⟩)∧w'=W):=fun W=>Rw text (by omega) W
 have Xe:Hid (∀t,(∃f r Z',dL (dw ⟨#[]⟩) mr 0 f r∧mi ((aL (Lib.trimSuffix text.data.toList [10])).map Zh) ⟨dw ⟨#[]⟩,sS,f⟩ Z' t)→zx text t):=fun t h=>h
 generalize Lib.trimSuffix text.data.toList [10]=rs at *;have ZP:Hid (rs.length≤4000):=hrl;clear G hm hgl hrl ht;refine(callsIn_wide (n:=6)).1 ?_;refine callsIn_of_wp_marks Tryz.func5 rfl trivial ?_ rfl;simp only[Tryz.ntmps5,List.size_toArray,List.length_cons,List.length_nil,Nat.reduceAdd,Nat.reduceSub,Array.replicate_succ,Array.replicate_zero,List.push_toArray,List.append_toArray,List.nil_append,List.cons_append]
 gi_wp2
 refine⟨trivial,?_⟩;refine(callsIn_wide.2 (EO w HG.out)).mono ?_;rintro e w1 ⟨sb,f,r0,P,rfl,hre,hse,hlo⟩;have Ww:Hid (dL (dw ⟨#[]⟩) mr 0 f r0∧eu (num w 0) w1 P sb ⟨dw ⟨#[]⟩,sS,f⟩ 1):=⟨hre,hse⟩
 clear hre hse hlo
 gi_wp2
 refine⟨trivial,?_⟩;refine(callsIn_wide.2 (sM sb w1)).mono ?_;rintro e w2 ⟨r,rfl,hr,hmap,XN⟩;have HR:Hid (w1.heap.size≤r∧w2.heap[r]?=some (.map (mG 0 (dx sb)).toArray 18)∧Since w1 w2∧r<w2.heap.size):=⟨hr,hmap,XN,(Array.getElem?_eq_some_iff.1 hmap).1⟩
 clear hr hmap XN
 gi_wp2
 refine⟨trivial,?_⟩;refine(callsIn_wide.2 (Xp.out _)).mono ?_;rintro e w3 ⟨rfl,hw3⟩;rw[hw3];clear hw3 w3
 gi_wp2
 refine⟨trivial,?_⟩;refine(callsIn_wide.2 (Cs ⟨rs.toArray⟩ ⟨#[10]⟩ _)).mono ?_;rintro e w4 ⟨rfl,hw4⟩;rw[hw4];clear hw4 w4;have b1:=Boxed.new w2 33 (.map (some r));obtain⟨Wa,hWa⟩:∃Wa,w2.alloc (.cells #[.map (some r)] 33)=Wa:=⟨_,rfl⟩
 have za:Wa.heap.size=w2.heap.size+1:=by rw[←hWa];exact World.size_alloc _ _
 have b2:(Wa.alloc (.cells #[.pointer none,.slice none 0 0] 40)).heap[w2.heap.size+1]?=some (.cells #[.pointer none,.slice none 0 0] 40 (0,0)):=by rw[←za];exact heap_alloc_new _ _
 have sa:Since w2 Wa:=by rw[←hWa];exact(Since.refl _).alloc _
 rw[hWa] at b1;simp only[hWa];obtain⟨Wb,hWb⟩:∃Wb,Wa.alloc (.cells #[.pointer none,.slice none 0 0] 40)=Wb:=⟨_,rfl⟩
 have zb:Wb.heap.size=w2.heap.size+1+1:=by rw[←hWb,World.size_alloc,za]
 have sb2:Since Wa Wb:=by rw[←hWb];exact(Since.refl _).alloc _
 rw[hWb] at b2;simp only[hWb];have b3:=Boxed.new Wb 9 (.string ⟨rs.toArray⟩);obtain⟨Wc,hWc⟩:∃Wc,Wb.alloc (.cells #[.string ⟨rs.toArray⟩] 9)=Wc:=⟨_,rfl⟩
 have zc:Wc.heap.size=Wb.heap.size+1:=by rw[←hWc];exact World.size_alloc _ _
 have sc:Since Wb Wc:=by rw[←hWc];exact(Since.refl _).alloc _
 rw[hWc] at b3;simp only[hWc];have b4:=Boxed.new Wc 9 (.string ⟨#[10]⟩);obtain⟨Wd,hWd⟩:∃Wd,Wc.alloc (.cells #[.string ⟨#[10]⟩] 9)=Wd:=⟨_,rfl⟩
 have zd:Wd.heap.size=Wc.heap.size+1:=by rw[←hWd];exact World.size_alloc _ _
 have sd:Since Wc Wd:=by rw[←hWd];exact(Since.refl _).alloc _
 rw[hWd] at b4;simp only[hWd];have b5:=Boxed.new Wd 3 (.int .i64 0);obtain⟨We,VX⟩:∃We,Wd.alloc (.cells #[.int .i64 0] 3)=We:=⟨_,rfl⟩
 have ze:We.heap.size=Wd.heap.size+1:=by rw[←VX];exact World.size_alloc _ _
 have se:Since Wd We:=by rw[←VX];exact(Since.refl _).alloc _
 rw[VX] at b5;simp only[VX];rw[zc] at b4;rw[zd,zc] at b5;have c1:Boxed We w2.heap.size 33 (.map (some r)):=(se.block _ (by omega)).trans ((sd.block _ (by omega)).trans ((sc.block _ (by omega)).trans ((sb2.block _ (by omega)).trans b1)));have c2:We.heap[w2.heap.size+1]?=some (.cells #[.pointer none,.slice none 0 0] 40 (0,0)):=(se.block _ (by omega)).trans ((sd.block _ (by omega)).trans ((sc.block _ (by omega)).trans b2));have c3:Boxed We Wb.heap.size 9 (.string ⟨rs.toArray⟩):=(se.block _ (by omega)).trans ((sd.block _ (by omega)).trans b3);have c4:Boxed We (Wb.heap.size+1) 9 (.string ⟨#[10]⟩):=(se.block _ (by omega)).trans b4;have s2e:Since w2 We:=sa.trans (sb2.trans (sc.trans (sd.trans se)));have s1e:Since w1 We:=HR.out.2.2.1.trans s2e;have s0:Since w w1:=(lm w 0).trans Ww.out.2.gp
 have hbx:IY (Wb.heap.size+1) Wb.heap.size (Wb.heap.size+1+1) m We rs:=⟨c4,c3,b5,⟨by omega,by omega,by have:=SE.out.2;have:=s0.size;have:=HR.out.2.2.1.size;omega⟩,((s0.trans s1e).cell (p:=⟨1,0,none⟩) SE.out.2).trans SE.out.1⟩
 have hsi:SI (num w We.heap.size) sb r w2.heap.size (w2.heap.size+1) Wb.heap.size w1.heap.size We.heap.size ⟨dw ⟨#[]⟩,sS,f⟩ [] We:=by
  have hr4:=HR.out;have hz:=hr4.2.2.1.size;refine⟨_,⟨#[]⟩,P,1,.slice none 0 0,⟨rfl,rfl⟩,⟨Ww.out.1.zr,Iy⟩,(Ww.out.2.go s1e).num (Nat.le_refl _),⟨by decide,by decide⟩,⟨by omega,⟨_,.inl rfl,c2⟩,zq.nil _ _,by simp[Value.ownBlock]⟩,Nat.le_refl _,c1,(s2e.block r hr4.2.2.2).trans hr4.2.1,fun k h1 _ hp=>by have:=Ww.out.2.oU k hp;omega,fun k hk=>by simp[Value.ownBlock] at hk,⟨_,c3⟩,?_⟩;have:=s0.size;exact⟨this,hr4.1,hz,by omega,by omega,by omega,by omega,by omega,by omega,by omega,by omega,by omega,by omega,rfl⟩
 have ma:Hid (IY (Wb.heap.size+1) Wb.heap.size (Wb.heap.size+1+1) m We rs∧SI (num w We.heap.size) sb r w2.heap.size (w2.heap.size+1) Wb.heap.size w1.heap.size We.heap.size ⟨dw ⟨#[]⟩,sS,f⟩ [] We):=⟨hbx,hsi⟩
 have JL:Hid (We.heap.size=Wb.heap.size+1+1+1∧Wb.heap.size=w2.heap.size+1+1∧w.heap.size≤w1.heap.size∧w1.heap.size≤w2.heap.size∧1<We.heap.size):=⟨by omega,by omega,s0.size,HR.out.2.2.1.size,by have:=SE.out.2;have:=s0.size;have:=HR.out.2.2.1.size;omega⟩
 clear hbx hsi b1 b2 b3 b4 b5 c1 c2 c3 c4 hWa hWb hWc hWd VX sa sb2 sc sd se za zc zd ze s2e s1e s0;rw[zb] at ma JL ⊢
 gi_wp2
 refine Fj (n:=6) (xs:=aL rs) (Bp:=w2.heap.size+1+1+1) (Bs:=w2.heap.size+1+1) (Bv:=w2.heap.size+1+1+1+1) (gf:=109) (lb:=#[.pointer (some ⟨w2.heap.size+1+1+1,0,none⟩),.pointer (some ⟨w2.heap.size+1+1,0,none⟩),.pointer (some ⟨w2.heap.size+1+1+1+1,0,none⟩)]) (by omega) rfl (enters_of Tryz.func109 (by kernel_rfl) rfl) rfl ?hseq ?hlt (SI (num w We.heap.size) sb r w2.heap.size (w2.heap.size+1) (w2.heap.size+1+1) w1.heap.size We.heap.size ⟨dw ⟨#[]⟩,sS,f⟩) ?ha ?hp ?hs ma.out.2
  (fun x=>{ tmps:=#[.string text,undef,.string ⟨#[]⟩,.pointer (some ⟨w2.heap.size,0,none⟩),.pointer (some ⟨w2.heap.size+1,0,none⟩),.string ⟨x.toArray⟩,.string text,.int .i64 text.size,.bool false,undef,undef,.pointer (some ⟨sb,0,none⟩),.map (some r),.string text,.string ⟨rs.toArray⟩,.func (.func 109) #[] #[.pointer (some ⟨w2.heap.size+1+1+1,0,none⟩),.pointer (some ⟨w2.heap.size+1+1,0,none⟩),.pointer (some ⟨w2.heap.size+1+1+1+1,0,none⟩)],.string ⟨x.toArray⟩,undef,undef,undef,undef,undef,undef],defers:=[] }) ?assign ?body ?done
 case hseq=>
  intro l J W hJs hY hs h0;exact MX 5 (by omega) l _ _ _ rs (by have:=ZP.out;omega) J hJs m hY W (ma.out.1.keep ⟨hs.block _ ma.out.1.p.lt,hs.block _ ma.out.1.s.lt,hs.block _ ma.out.1.v.lt,hs.block _ JL.out.2.2.2.2⟩) h0
 case hlt=>have:=JL.out;omega
 case ha=>exact fun pre W o h=>h.since ((Since.refl W).alloc o)
 case hp=>exact fun pre W l o o' h h1 h2 hl ho=>h.put o' h1 h2 hl ho
 case hs=>exact fun pre W q h _=>h.box q
 case assign=>
  intro l x W K hK
  gi_wp2
  exact hK
 case body=>
  rintro l pre x W ⟨Z,t,Q,n,v,hI⟩ hW hlen hx;have HI:Hid (SIx (num w We.heap.size) sb r w2.heap.size (w2.heap.size+1) (w2.heap.size+1+1) w1.heap.size We.heap.size ⟨dw ⟨#[]⟩,sS,f⟩ pre W Z t Q n v):=hI;have hpl:pre.length≤4000:=by have:=sP rs;have:=ZP.out;omega
  have hn0:=hI.n0;have HA:Hid (Calls Tryz.prog 17 #[.map (some r),.string ⟨x.toArray⟩] W fun e w'=>∃Z' a,Line ⟨x.toArray⟩ Z Z' a∧e=.returned (.string (fw a))∧aG (num w We.heap.size) W w' Q sb Z' (n+30)):=IX (HG.out.since (lm w _)) hI.se hI.zr hn0.1 (by omega) r hI.map ⟨x.toArray⟩ (by rw[show (⟨x.toArray⟩:ByteArray).size=x.length from List.size_toArray];exact hx);have Oo:Hid (n≤200000∧pre.length≤4000∧We.heap.size+1<W.heap.size):=⟨by omega,hpl,hW⟩
  have cb:=hI.box.cell;clear hI hn0 hpl hW hlen hx
  gi_wp2
  refine⟨trivial,?_⟩;refine(CallsIn.inRound l (callsIn_wide.2 HA.out)).mono ?_;rintro e W1 ⟨Z',a,hL,rfl,hto⟩;have WM:=((lw _).2 Z Z' a HI.out.zr hL).1;have hsz:(fw a).size≤1000:=by
   obtain⟨P',hse,_,_⟩:=id hto;exact Nh (HI.out.se.le (m:=n+30) (by omega)).zk hse.zk (by have:=Oo.out.1;omega) HI.out.zr hL
  have a1h:Bl W1 w1.heap.size (w2.heap.size+1) v t.data.toList:=by
   obtain⟨P',_,hfs,_⟩:=id hto;have hn:=HI.out.num;exact HI.out.bl.fs hfs (HI.out.out _ (by omega) (by omega)) (fun k hk=>(HI.out.buf k hk).2)
  have hW1:W.heap.size≤W1.heap.size:=by
   obtain⟨P',_,hfs,_⟩:=id hto;exact hfs.size
  have htl:t.data.toList.length=t.size:=by rw[Array.length_toList];rfl
  have hlw:w1.heap.size≤We.heap.size:=by have:=JL.out;omega
  have HWS:Hid (Calls Tryz.prog 16 #[.pointer (some ⟨w2.heap.size+1,0,none⟩),.string (fw a)] W1 fun e w'=>∃v',e=.returned (.tuple #[.int .i64 (fw a).size,.nilIface])∧Bl w' w1.heap.size (w2.heap.size+1) v' (t.data.toList++(fw a).data.toList)∧sO (fun k=>k=w2.heap.size+1∨v.ownBlock=some k) W1 w'∧∀k,v'.ownBlock=some k→v.ownBlock=some k∨W1.heap.size≤k):=Yu a1h (fw a) (by have:=HI.out.len;have:=Oo.out;omega) (by have:=Oo.out;omega);have HZ:Hid (Line (Zh x) Z Z' a∧aG (num w We.heap.size) W W1 Q sb Z' (n+30)∧(fw a).size≤1000∧Zr Z'∧W.heap.size≤W1.heap.size):=⟨hL,hto,hsz,WM,hW1⟩
  have yQ:Hid (t.data.toList.length=t.size∧w1.heap.size≤We.heap.size):=⟨htl,hlw⟩
  clear hL hto WM a1h hW1 hsz htl hlw;generalize hat:fw a=ta at *
  gi_wp2
  refine⟨trivial,?_⟩;refine(CallsIn.inRound l (callsIn_wide.2 HWS.out)).mono ?_;rintro e W2 ⟨v1,rfl,hb2,he2,ho2⟩;have hl2:(t.data.toList++ta.data.toList).length≤1001*4000+1000:=by
   rw[List.length_append,yQ.out.1,show ta.data.toList.length=ta.size by rw[Array.length_toList];rfl];have:=HI.out.len;have:=Oo.out;have:=HZ.out.2.2.1;omega
  have HWB:Hid (Calls Tryz.prog 18 #[.pointer (some ⟨w2.heap.size+1,0,none⟩),.int .u8 10] W2 fun e w'=>∃v',e=.returned .nilIface∧Bl w' w1.heap.size (w2.heap.size+1) v' (t.data.toList++ta.data.toList++[10])∧sO (fun k=>k=w2.heap.size+1∨v1.ownBlock=some k) W2 w'∧∀k,v'.ownBlock=some k→v1.ownBlock=some k∨W2.heap.size≤k):=Yw hb2 (by omega) (by have:=he2.fs.size;have:=HZ.out.2.2.2.2;have:=Oo.out;have:=yQ.out;omega);have H2:Hid (Bl W2 w1.heap.size (w2.heap.size+1) v1 (t.data.toList++ta.data.toList)∧sO (fun k=>k=w2.heap.size+1∨v.ownBlock=some k) W1 W2∧∀k,v1.ownBlock=some k→v.ownBlock=some k∨W1.heap.size≤k):=⟨hb2,he2,ho2⟩
  clear hb2 he2 ho2 hl2
  gi_wp2
  refine⟨trivial,?_⟩;refine(CallsIn.inRound l (callsIn_wide.2 HWB.out)).mono ?_;rintro e W3 ⟨v2,rfl,hb3,YP,ho3⟩;subst hat;obtain⟨hs1,hs2⟩:=HI.out.step Oo.out.2.2 HZ.out.1 HZ.out.2.1 HZ.out.2.2.1 HZ.out.2.2.2.1 H2.out.1 H2.out.2.1 H2.out.2.2 hb3 YP ho3;have hn:=HI.out.num;have hnm:=JL.out;have hww:=Oo.out.2.2;have hnq:∀k,k<w.heap.size→¬Q k:=fun k hk hp=>by
   obtain⟨db,cb,fp,v',g1,_⟩:=HI.out.se;have h1:w.heap.size≤k:=g1.yu k hp;omega
  have YE:∀k,k<We.heap.size+2→v.ownBlock≠some k:=fun k hk e=>by have:=(HI.out.buf k e).1;omega
  have HF:Hid (vM We.heap.size (w2.heap.size+1+1+1) (w2.heap.size+1+1) (w2.heap.size+1+1+1+1) (SI (num w We.heap.size) sb r w2.heap.size (w2.heap.size+1) (w2.heap.size+1+1) w1.heap.size We.heap.size ⟨dw ⟨#[]⟩,sS,f⟩ (pre++[x])) W .normal { tmps:=#[],defers:=[] } W3):=by
   refine⟨⟨hs2 _ (by omega) (HI.out.out _ (by omega) (by omega)) (by omega) (YE _ (by omega)),hs2 _ (by omega) (HI.out.out _ (by omega) (by omega)) (by omega) (YE _ (by omega))⟩,⟨hs2 _ (by omega) (HI.out.out _ (by omega) (by omega)) (by omega) (YE _ (by omega)),hs2 _ (by omega) (HI.out.out _ (by omega) (by omega)) (by omega) (YE _ (by omega)),hs2 _ (by omega) (HI.out.out _ (by omega) (by omega)) (by omega) (YE _ (by omega)),hs2 _ (by omega) (hnq _ SE.out.2) (by have:=SE.out.2;omega) (YE _ (by have:=SE.out.2;omega))⟩,hs1⟩
  clear hs1 hs2 hn hnm hww hnq YE hb3 YP ho3
  gi_wp2
  exact HF.out
 rintro Dd W hD1 hD2 ⟨Z,t,Q,n,v,hI⟩ hK;have hn:=hI.num;have hnm:=JL.out;have hbd:Lib.IsBuilderF 40 5 w1.heap.size (w2.heap.size+1) (Lib.byteCells t.data.toList) W:=by
  obtain⟨p,hp,hh⟩:=hI.bl.blk;rcases hp with rfl | rfl
  ·exact .inl ⟨hI.bl.lo,v,hh,World.ownsRowF_of hI.bl.Zd.own,hI.bl.ne⟩
  exact .inr ⟨hI.bl.lo,v,hh,World.ownsRowF_of hI.bl.Zd.own,hI.bl.ne⟩
 have hsw:Since w W:=(lm w We.heap.size).trans hI.se.gp;have hwl:w1.heap.size≤W.heap.size:=by have:=hI.bl.lt;omega
 have HSG:Hid (Calls Tryz.prog 19 #[.pointer (some ⟨w2.heap.size+1,0,none⟩)] W fun e w'=>e=.returned (.string t)∧Since w w'∧w'.heap[Dd]?=some (.deferred (some []))):=(jF w1.heap.size (w2.heap.size+1) t.data.toList W hbd hwl).mono (by
  rintro e w' ⟨rfl,_,hb,ho⟩;refine⟨rfl,Below.trans hsw (Below.mono hb hnm.2.2.1),ho Dd _ hK (fun e=>by injection e with e;omega) (fun c fz e=>by cases e)⟩)
 have LD:Hid (zx text t):=Xe.out t ⟨f,r0,Z,Ww.out.1,hI.lines⟩;have HD:Hid (We.heap.size≤Dd∧w.heap.size≤We.heap.size):=⟨hD1,by omega⟩
 clear hI hn hnm hbd hsw hwl hK hD1 hD2
 gi_wp2
 refine⟨trivial,?_⟩;refine(callsIn_wide.2 HSG.out).mono ?_;rintro e W' ⟨rfl,hs',hk'⟩;have HK:Hid (W'.heap[Dd]?=some (.deferred (some []))∧Since w W'):=⟨hk',hs'⟩
 clear hs' hk'
 gi_wp2
 refine⟨by simp,.inl ⟨_,_,rfl,run_takeDeferred HK.out.1,?_⟩⟩;refine⟨_,results_tmp rfl _ _ _,?_⟩;exact⟨t,LD.out,rfl,Below.trans HK.out.2 (belowK_b (w:=We) HD.out.2 _ Dd _ _ HD.out.1 HK.out.1 rfl rfl)⟩
end Dk
end Go.Proofs.YtmhcfaaggkidjaaGreatDoor
end
section
namespace Go.Proofs.YtmhcfaaggkidjaaGreatDoor
set_option maxRecDepth 100000
namespace Dk
open Go.RowKit Go.Shelf
attribute [local go_sem] Oper.semAt_some
def pk4 (a:Int):Nat:=(a % 18446744073709551616).toNat % 4
theorem a1p (a:Int):pk4 a<4:=by unfold pk4;omega
theorem a0S (a:Int) (w:World) (h0:-9223372036854775808≤a) (h1:a≤9223372036854775807) :
  Calls Tryz.prog 8 #[.int .i64 a,.int .i64 4] w fun e w'=>e=.returned (.int .i64 (pk4 a))∧w'=w:=by
 go_enter Tryz.func8,Tryz.ntmps8
 go_wp2_with fail
 go_ret;have e1:IntKind.u64.wrap a=a % 18446744073709551616:=by simp[IntKind.wrap,IntKind.bits,IntKind.signed]
 have e2:(IntKind.u64.wrap a).tmod 4=((pk4 a:Nat):Int):=by
  rw[e1,Int.tmod_eq_emod_of_nonneg (by omega)];unfold pk4;omega
 have e3:wrap64 ((IntKind.u64.wrap a).tmod 4)=((pk4 a:Nat):Int):=by
  rw[e2];have:=a1p a;unfold wrap64;omega
 exact⟨congrArg (fun x=>Ending.returned (Value.int .i64 x)) e3,rfl⟩
def zy (s:ByteArray) (j:Nat):ByteArray:=Zh (tx (jn [yL,s.data.toList,[49],[120]]::fB::yK::rdL s.data.toList 0 j))
theorem Rq (s:List UInt8):∀(m j:Nat),rdL s j (m+1)=rdL s j m++[jn [yL,s,[50],Lib.itoa ((j+m:Nat):Int)],fB]
 | 0,j=>rfl
 | m+1,j=>by
  have ih:=Rq s m (j+1);rw[rdL,ih,rdL,show j+1+m=j+(m+1) by omega]
  rfl
theorem Ru (s:ByteArray):(⟨#[112,117,116,32]⟩++s++⟨#[32,49,32,120,10,102,108,117,115,104,10,105,109,97,103,101,10]⟩:ByteArray)=zy s 0:=by
 apply ByteArray.ext
 apply Array.toList_inj.1
 simp[zy,Zh,tx,jn,yL,fB,yK,rdL]
theorem Rv (s:ByteArray) (j:Nat):zy s j++(⟨#[112,117,116,32]⟩++s++⟨#[32,50,32]⟩++⟨(Lib.itoa (j:Int)).toArray⟩++⟨#[10,102,108,117,115,104,10]⟩:ByteArray)=zy s (j+1):=by
 apply ByteArray.ext
 apply Array.toList_inj.1
 unfold zy;rw[Rq,Nat.zero_add];simp[Zh,tx,Kg,jn,yL,fB,yK]
theorem a1y (s:ByteArray) (j:Nat):zy s j++(⟨#[108,97,121,10,111,112,101,110,10,108,105,115,116,10]⟩:ByteArray)=Zh (tx (Cx s.data.toList j)):=by
 apply ByteArray.ext
 apply Array.toList_inj.1
 unfold zy Cx;simp[Zh,tx,Kg,jn,yL,fB,yK,a1m,Ro,Rp]
theorem Vz (s:ByteArray) (hs:s.size≤10):∀j,j≤4→(zy s j).size≤40+40*j
 | 0,_=>by
  rw[←Ru,ByteArray.size_append,ByteArray.size_append];have e1:(⟨#[112,117,116,32]⟩:ByteArray).size=4:=rfl;have e2:(⟨#[32,49,32,120,10,102,108,117,115,104,10,105,109,97,103,101,10]⟩:ByteArray).size=17:=rfl;omega
 | j+1,hj=>by
  have ih:=Vz s hs j (by omega);have hi:=(nA j (by omega)).2.1;have hi':(⟨(Lib.itoa (j:Int)).toArray⟩:ByteArray).size=1:=hi;rw[←Rv,ByteArray.size_append,ByteArray.size_append,ByteArray.size_append,ByteArray.size_append,ByteArray.size_append];have e1:(⟨#[112,117,116,32]⟩:ByteArray).size=4:=rfl;have e2:(⟨#[32,50,32]⟩:ByteArray).size=3:=rfl;have e3:(⟨#[10,102,108,117,115,104,10]⟩:ByteArray).size=7:=rfl;omega
def VG (p:Nat):List ByteArray:=Lib.splitB ⟨#[10]⟩ 0 (Lib.countB (mq (VC (1+p))) ⟨#[10]⟩) (mq (VC (1+p)))
def a1E (p:Nat):Prop:=Lib.countB (mq (VC (1+p))) ⟨#[10]⟩+1=2*p+9∧(VG p)[1]?=some ⟨#[102,108,117,115,104,32,49]⟩∧(VG p)[2*p+4]?=some (⟨#[102,108,117,115,104,32]⟩++⟨(Lib.itoa (1+(p:Int)+1)).toArray⟩)∧(VG p)[2*p+5]?=some ⟨#[108,97,121]⟩∧(VG p)[2*p+6]?=some ⟨#[101,114,114,111,114,32,49,53]⟩∧(VG p)[2*p+7]?=some ⟨#[101,114,114,111,114,32,56]⟩
theorem a1O (p:Nat) (hp:p<4):a1E p:=by
 unfold a1E
 match p,hp with
 | 0,_=>exact⟨by kernel_rfl,by kernel_rfl,by kernel_rfl,by kernel_rfl,by kernel_rfl,by kernel_rfl⟩
 | 1,_=>exact⟨by kernel_rfl,by kernel_rfl,by kernel_rfl,by kernel_rfl,by kernel_rfl,by kernel_rfl⟩
 | 2,_=>exact⟨by kernel_rfl,by kernel_rfl,by kernel_rfl,by kernel_rfl,by kernel_rfl,by kernel_rfl⟩
 | 3,_=>exact⟨by kernel_rfl,by kernel_rfl,by kernel_rfl,by kernel_rfl,by kernel_rfl,by kernel_rfl⟩
theorem a0T (w:World) (p:Nat) (hp:p<4) (t:ByteArray) (ht:t=mq (VC (1+p))):∃L kb m5 m4 m3 m2:Nat,Value.slice (some ⟨w.heap.size,0,none⟩) (Lib.countB t ⟨#[10]⟩+1) (Lib.countB t ⟨#[10]⟩+1)=Value.slice (some ⟨kb,0,none⟩) L L∧L=2*p+9∧m5=2*p+4∧m4=2*p+5∧m3=2*p+6∧m2=2*p+7∧
  (w.alloc (.cells ((Lib.splitB ⟨#[10]⟩ 0 (Lib.countB t ⟨#[10]⟩) t).map Value.string).toArray 9)).cell? ⟨kb,1,none⟩=some (.string ⟨#[102,108,117,115,104,32,49]⟩)∧(w.alloc (.cells ((Lib.splitB ⟨#[10]⟩ 0 (Lib.countB t ⟨#[10]⟩) t).map Value.string).toArray 9)).cell? ⟨kb,m5,none⟩=some (.string (⟨#[102,108,117,115,104,32]⟩++⟨(Lib.itoa (1+(p:Int)+1)).toArray⟩))∧(w.alloc (.cells ((Lib.splitB ⟨#[10]⟩ 0 (Lib.countB t ⟨#[10]⟩) t).map Value.string).toArray 9)).cell? ⟨kb,m4,none⟩=some (.string ⟨#[108,97,121]⟩)∧(w.alloc (.cells ((Lib.splitB ⟨#[10]⟩ 0 (Lib.countB t ⟨#[10]⟩) t).map Value.string).toArray 9)).cell? ⟨kb,m3,none⟩=some (.string ⟨#[101,114,114,111,114,32,49,53]⟩)∧(w.alloc (.cells ((Lib.splitB ⟨#[10]⟩ 0 (Lib.countB t ⟨#[10]⟩) t).map Value.string).toArray 9)).cell? ⟨kb,m2,none⟩=some (.string ⟨#[101,114,114,111,114,32,56]⟩):=by
 subst ht;obtain⟨h0,h1,h2,h3,h4,h5⟩:=a1O p hp;have hg:∀(i:Nat) (x:ByteArray),(VG p)[i]?=some x→(w.alloc (.cells ((VG p).map Value.string).toArray 9)).cell? ⟨w.heap.size,i,none⟩=some (.string x):=fun i x h=>by
  rw[World.cell?_alloc_new,List.getElem?_toArray,List.getElem?_map,h]
  rfl
 exact⟨2*p+9,w.heap.size,_,_,_,_,by rw[h0],rfl,rfl,rfl,rfl,rfl,hg _ _ h1,hg _ _ h2,hg _ _ h3,hg _ _ h4,hg _ _ h5⟩
end Dk
end Go.Proofs.YtmhcfaaggkidjaaGreatDoor
end
section
namespace Go.Proofs.YtmhcfaaggkidjaaGreatDoor
set_option maxRecDepth 100000
namespace Dk
open Go.RowKit Go.Shelf
attribute [local go_sem] Oper.semAt_some
set_option maxHeartbeats 8000000 in
theorem WN (w:World) (G:Gr w) (s:ByteArray) (n:Int) (h0:-9223372036854775808≤n) (h1:n≤9223372036854775807):Calls Tryz.prog 4 #[.string s,.int .i64 n] w fun e w'=>e=.returned (.bool true)∧Since w w':=by
 have HG:Hid (Gr w):=G;have HN:Hid (-9223372036854775808≤n∧n≤9223372036854775807):=⟨h0,h1⟩
 clear G h0 h1;go_enter Tryz.func4,Tryz.ntmps4
 go_wp2_with fail
 refine(Fl.a0E w HG.out.tab HG.out.lb).mono ?_;rintro e w1 ⟨rfl,hs1⟩;have Fx:Hid (Gr w1∧Since w w1):=⟨HG.out.since hs1,hs1⟩
 clear hs1;go_wp2_with fail
 refine(En.xH s w1).mono ?_;rintro e w2 ⟨rfl,rfl⟩;cases hnm:En.aP s.data.toList with
 | false=>
  clear hnm;go_wp2_with fail
  go_ret;exact⟨rfl,Fx.out.2⟩
 | true=>
 have JL:Hid (En.aP s.data.toList=true):=hnm;have hsz:s.size≤10:=(AA hnm).2.2;clear hnm;go_wp2_with fail
 refine(a0S n _ HN.out.1 HN.out.2).mono ?_;rintro e w3 ⟨rfl,rfl⟩;have hp4:=a1p n;have hwr:wrap64 (1+(pk4 n:Int))=((1+pk4 n:Nat):Int):=by unfold wrap64;omega
 generalize pk4 n=p at *;go_wp2_with fail
 go_loopw [6,5] (fun i x wr=>∃j:Nat,j≤1+p∧i=.int .i64 j∧x=.string (zy s j)∧Since w wr) (fun i _ _=>(1+p)-(intOf i).toNat)
 case atStart=>exact⟨0,by omega,rfl,by rw[←Ru],Fx.out.2⟩
 obtain⟨j,hj,rfl,rfl,hs⟩:=hrel;have HS:Hid (Since w wr):=hs;clear hs;have hps:=Vz s hsz j (by omega);by_cases hlt:j<1+p
 ·have hlt2:(j:Int)<1+(p:Int):=by omega
  go_wp2_with fail
  refine(En.Ej (j:Int) (by omega) (by omega) wr (HG.out.lb.since HS.out)).mono ?_;rintro e w4 ⟨rfl,hs4⟩;have iY:Hid (Since w w4):=HS.out.trans hs4;clear hs4;have hi1:(⟨(Lib.itoa (j:Int)).toArray⟩:ByteArray).size=1:=(nA j (by omega)).2.1;have HST:Hid (zy s j++(⟨#[112,117,116,32]⟩++s++⟨#[32,50,32]⟩++⟨(Lib.itoa (j:Int)).toArray⟩++⟨#[10,102,108,117,115,104,10]⟩:ByteArray)=zy s (j+1)):=Rv s j;generalize (⟨(Lib.itoa (j:Int)).toArray⟩:ByteArray)=it at *;go_wp2_with fail
  refine⟨⟨j+1,by omega,by simp,by rw[HST.out],iY.out⟩,?_⟩;simp only[intOf];omega
 obtain rfl:j=1+p:=by omega
 clear hj hlt;have hen:(zy s (1+p)++⟨#[108,97,121,10,111,112,101,110,10,108,105,115,116,10]⟩:ByteArray).size≤4000:=by
  rw[ByteArray.size_append];have:(⟨#[108,97,121,10,111,112,101,110,10,108,105,115,116,10]⟩:ByteArray).size=14:=rfl;omega
 have HEN:Hid ((zy s (1+p)++(⟨#[108,97,121,10,111,112,101,110,10,108,105,115,116,10]⟩:ByteArray)=Zh (tx (Cx s.data.toList (1+p))))∧(zy s (1+p)++⟨#[108,97,121,10,111,112,101,110,10,108,105,115,116,10]⟩:ByteArray).size≤4000):=⟨a1y s (1+p),hen⟩
 have a8s:(zy s (1+p)).size≤200:=by omega
 clear hen hps;generalize zy s (1+p)=pt at *;have hcast:((1+p:Nat):Int)=1+(p:Int):=by omega
 have hfl:decide (1+(p:Int)<1+(p:Int))=false:=by simp
 rw[hcast];go_wp2_with fail
 refine(Fq wr (HG.out.since HS.out) _ HEN.out.2).mono ?_;rintro e w5 ⟨t,ht,rfl,hs5⟩;rw[HEN.out.1] at ht;have HT:Hid (t=mq (VC (1+p))):=a1w JL.out ⟨by omega,by omega⟩ ht;have qL:Hid (Since w w5):=HS.out.trans hs5;clear ht hs5;obtain⟨m,hm⟩:=(HG.out.lb.since qL.out).max;have HM:Hid (w5.cell? ⟨1,0,none⟩=some (.int .i64 m)):=hm;clear hm;go_wp2_with fail
 have hts:t.size<4294967281:=by
  rw[HT.out];have hp:p=0∨p=1∨p=2∨p=3:=by omega
  rcases hp with rfl | rfl | rfl | rfl<;>(apply of_decide_eq_true;kernel_rfl)
 refine(Tryz.strings_Split t ⟨#[10]⟩ m w5 hts HM.out (by decide)).mono ?_;rintro e w6 ⟨rfl,hw6⟩;have uH:Hid (Since w w6):=by rw[hw6];exact qL.out.alloc _
 obtain⟨L,kb,m5,m4,m3,m2,hLk,hL,hm5,hm4,YK,hm2,hc⟩:∃L kb m5 m4 m3 m2:Nat,Value.slice (some ⟨w5.heap.size,0,none⟩) (Lib.countB t ⟨#[10]⟩+1) (Lib.countB t ⟨#[10]⟩+1)=Value.slice (some ⟨kb,0,none⟩) L L∧L=2*p+9∧m5=2*p+4∧m4=2*p+5∧m3=2*p+6∧m2=2*p+7∧w6.cell? ⟨kb,1,none⟩=some (.string ⟨#[102,108,117,115,104,32,49]⟩)∧w6.cell? ⟨kb,m5,none⟩=some (.string (⟨#[102,108,117,115,104,32]⟩++⟨(Lib.itoa (1+(p:Int)+1)).toArray⟩))∧w6.cell? ⟨kb,m4,none⟩=some (.string ⟨#[108,97,121]⟩)∧w6.cell? ⟨kb,m3,none⟩=some (.string ⟨#[101,114,114,111,114,32,49,53]⟩)∧w6.cell? ⟨kb,m2,none⟩=some (.string ⟨#[101,114,114,111,114,32,56]⟩):=by
  rw[hw6];exact a0T w5 p hp4 t HT.out
 rw[hLk];clear hw6 hLk hts;have LD:Hid (∀W:World,Since w6 W→W.cell? ⟨kb,1,none⟩=some (.string ⟨#[102,108,117,115,104,32,49]⟩)∧W.cell? ⟨kb,m5,none⟩=some (.string (⟨#[102,108,117,115,104,32]⟩++⟨(Lib.itoa (1+(p:Int)+1)).toArray⟩))∧W.cell? ⟨kb,m4,none⟩=some (.string ⟨#[108,97,121]⟩)∧W.cell? ⟨kb,m3,none⟩=some (.string ⟨#[101,114,114,111,114,32,49,53]⟩)∧W.cell? ⟨kb,m2,none⟩=some (.string ⟨#[101,114,114,111,114,32,56]⟩)):=fun W hW=>by
  have hl:=World.block_lt_of_cell? _ _ hc.1;exact⟨(hW.cell (p:=⟨kb,1,none⟩) hl).trans hc.1,(hW.cell (p:=⟨kb,m5,none⟩) hl).trans hc.2.1,(hW.cell (p:=⟨kb,m4,none⟩) hl).trans hc.2.2.1,(hW.cell (p:=⟨kb,m3,none⟩) hl).trans hc.2.2.2.1,(hW.cell (p:=⟨kb,m2,none⟩) hl).trans hc.2.2.2.2⟩
 have HIT:Hid (∀W:World,Since w6 W→Calls Tryz.prog 9 #[.int .i64 (1+(p:Int)+1)] W fun e w'=>e=.returned (.string ⟨(Lib.itoa (1+(p:Int)+1)).toArray⟩)∧Since W w'):=fun W hW=>En.Ej _ (by omega) (by omega) W ((HG.out.lb.since uH.out).since hW)
 have wr_:∀x:Int,0≤x→x≤1000→IntKind.i64.wrap x=x:=fun x h1 h2=>by
  simp only[IntKind.wrap,IntKind.bits,IntKind.signed];simp;omega
 have y1:IntKind.i64.wrap (2*(1+(p:Int)))=2*(1+(p:Int)):=wr_ _ (by omega) (by omega);have y2:IntKind.i64.wrap (3+2*(1+(p:Int)))=3+2*(1+(p:Int)):=wr_ _ (by omega) (by omega);have y3:IntKind.i64.wrap (3+2*(1+(p:Int))+4)=(L:Int):=(wr_ _ (by omega) (by omega)).trans (by omega);have y4:IntKind.i64.wrap (1+(p:Int)+1)=1+(p:Int)+1:=wr_ _ (by omega) (by omega);have z5:IntKind.i64.wrap ((L:Int)-5)=(m5:Int):=(wr_ _ (by omega) (by omega)).trans (by omega);have z4:IntKind.i64.wrap ((L:Int)-4)=(m4:Int):=(wr_ _ (by omega) (by omega)).trans (by omega);have z3:IntKind.i64.wrap ((L:Int)-3)=(m3:Int):=(wr_ _ (by omega) (by omega)).trans (by omega);have z2:IntKind.i64.wrap ((L:Int)-2)=(m2:Int):=(wr_ _ (by omega) (by omega)).trans (by omega);have b1:(1:Int)<(L:Int):=by omega
 have u5:(m5:Int)<(L:Int):=by omega
 have u4:(m4:Int)<(L:Int):=by omega
 have u3:(m3:Int)<(L:Int):=by omega
 have u2:(m2:Int)<(L:Int):=by omega
 have hits:(⟨(Lib.itoa (1+(p:Int)+1)).toArray⟩:ByteArray).size≤5:=by
  have hp:p=0∨p=1∨p=2∨p=3:=by omega
  rcases hp with rfl | rfl | rfl | rfl<;>(apply of_decide_eq_true;kernel_rfl)
 clear hc hL hm5 hm4 YK hm2 wr_;generalize (⟨(Lib.itoa (1+(p:Int)+1)).toArray⟩:ByteArray)=it at *;go_wp2_with fail
 have hn6:¬9223372036854775807<6+it.size:=by omega
 go_region_held3 (fun W=>W.cell? ⟨kb,1,none⟩=some (.string ⟨#[102,108,117,115,104,32,49]⟩)∧W.cell? ⟨kb,m5,none⟩=some (.string (⟨#[102,108,117,115,104,32]⟩++it))∧W.cell? ⟨kb,m4,none⟩=some (.string ⟨#[108,97,121]⟩)∧W.cell? ⟨kb,m3,none⟩=some (.string ⟨#[101,114,114,111,114,32,49,53]⟩)∧W.cell? ⟨kb,m2,none⟩=some (.string ⟨#[101,114,114,111,114,32,56]⟩)) (first | exact LD.out _ (Since.refl _) | exact LD.out _ (Since.refl _).drew | exact LD.out _ H7.out) (first
  | (go_simp;go_at_call 9;refine(HIT.out _ (Since.refl w6).drew).mono ?_;rintro e w7 ⟨rfl,hs7⟩;have H7:Hid (Since w6 w7):=(Since.refl w6).drew.trans hs7;clear hs7;dsimp only))
 go_wp2_with fail
 go_ret;exact⟨rfl,uH.out.trans H7.out⟩
end Dk
end Go.Proofs.YtmhcfaaggkidjaaGreatDoor
end
section
namespace Go.Proofs.YtmhcfaaggkidjaaGreatDoor
set_option maxRecDepth 100000
namespace Dk
open Go.RowKit Go.Shelf
attribute [local go_sem] Oper.semAt_some
end Dk
end Go.Proofs.YtmhcfaaggkidjaaGreatDoor
end
