import Derived.Test.YtmhcfaaggkidjaaGreatDoorJ48
set_option linter.unusedSimpArgs false
set_option linter.unusedVariables false
section
namespace Go.Proofs.YtmhcfaaggkidjaaGreatDoor
set_option maxRecDepth 100000
namespace Dk
open Go.RowKit Go.Shelf
attribute [local go_sem] Oper.semAt_some
def aL:List UInt8→List (List UInt8)
 | []=>[[]]
 | c::r=>if c=10 then []::aL r else match aL r with
  | h::t=>(c::h)::t
  | []=>[[c]]
theorem nV (c:UInt8) (r:List UInt8):aL (c::r)=if c=10 then []::aL r else (match aL r with | h::t=>(c::h)::t | []=>[[c]]):=rfl
theorem MW:∀s,aL s≠[]
 | []=>by simp[aL]
 | c::r=>by
  unfold aL;split
  ·simp
  split<;>simp
theorem vF:∀s:List UInt8,(Lib.index s [10]=-1∧aL s=[s])∨∃i:Nat,Lib.index s [10]=i∧i<s.length∧aL s=s.take i::aL (s.drop (i+1))
 | []=>.inl ⟨rfl,rfl⟩
 | b::l=>by
  by_cases hb:b=10
  ·subst hb;refine .inr ⟨0,?_,by simp,?_⟩
   ·unfold Lib.index;simp[List.isPrefixOf]
   conv=>lhs;unfold aL
   simp
  have hp:([10]:List UInt8).isPrefixOf (b::l)=false:=by
   have:((10:UInt8)==b)=false:=beq_false_of_ne (fun e=>hb e.symm);simp[List.isPrefixOf,this]
  have hi:Lib.index (b::l) [10]=if Lib.index l [10]==-1 then -1 else Lib.index l [10]+1:=by
   conv=>lhs;unfold Lib.index
   rw[hp]
   rfl
  have hs:aL (b::l)=(match aL l with | h::t=>(b::h)::t | []=>[[b]]):=by
   conv=>lhs;unfold aL
   rw[if_neg hb]
  rcases vF l with⟨h1,h2⟩ | ⟨i,h1,h2,h3⟩
  ·refine .inl ⟨by rw[hi,h1];rfl,by rw[hs,h2]⟩
  refine .inr ⟨i+1,?_,Nat.succ_lt_succ h2,by rw[hs,h3];rfl⟩;rw[hi,h1,if_neg (by simp)]
  rfl
theorem qJ:∀(a b:List UInt8),aL (a++10::b)=aL a++aL b
 | [],b=>by
  show aL (10::b)=[[]]++aL b
  rw[nV,if_pos rfl]
  rfl
 | c::r,b=>by
  have ih:=qJ r b;rw[List.cons_append,nV,nV,ih];by_cases hc:c=10
  ·rw[if_pos hc,if_pos hc]
   rfl
  rw[if_neg hc,if_neg hc];cases h:aL r with
  | nil=>exact absurd h (MW r)
  | cons x t=>rfl
theorem sP:∀(s:List UInt8),(aL s).length≤s.length+1
 | []=>by simp[aL]
 | c::r=>by
  have ih:=sP r;unfold aL;split
  ·simp;omega
  split
  ·rename_i h;rw[h] at ih;simp at ih ⊢;omega
  simp
def SQ (Bp Bs Bv:Nat) (W W':World):Prop:=W'.heap[Bp]?=W.heap[Bp]?∧W'.heap[Bs]?=W.heap[Bs]?∧W'.heap[Bv]?=W.heap[Bv]?∧W'.heap[1]?=W.heap[1]?
structure IY (Bp Bs Bv:Nat) (m:Int) (W:World) (r:List UInt8):Prop where
 p:Boxed W Bp 9 (.string ⟨#[10]⟩)
 s:Boxed W Bs 9 (.string ⟨r.toArray⟩)
 v:Boxed W Bv 3 (.int .i64 0)
 ne:Bs≠Bp∧Bs≠Bv∧Bs≠1
 mx:W.cell? ⟨1,0,none⟩=some (.int .i64 m)
theorem IY.keep {Bp Bs Bv:Nat} {m:Int} {W W':World} {r:List UInt8} (h:IY Bp Bs Bv m W r) (hk:SQ Bp Bs Bv W W'):IY Bp Bs Bv m W' r:=
 ⟨hk.1.trans h.p,hk.2.1.trans h.s,hk.2.2.1.trans h.v,h.ne,(World.cell?_of_block (w:=W) (a:=⟨1,0,none⟩) hk.2.2.2).trans h.mx⟩
theorem IY.set {Bp Bs Bv:Nat} {m:Int} {W:World} {r:List UInt8} (h:IY Bp Bs Bv m W r) (q:List UInt8):IY Bp Bs Bv m (W.setCell ⟨Bs,0,none⟩ (.string ⟨q.toArray⟩)) q:=
 ⟨h.p.other (fun e=>h.ne.1 e.symm) _,h.s.set _,h.v.other (fun e=>h.ne.2.1 e.symm) _,h.ne,(World.cell?_setCell_other _ _ _ _ (fun e=>h.ne.2.2 (by injection e))).trans h.mx⟩
theorem nI (r:List UInt8) (hr:r.length≤5000) (W:World) (m:Int) (hm:W.cell? ⟨1,0,none⟩=some (.int .i64 m)):Calls Tryz.prog 89 #[.string ⟨r.toArray⟩,.string ⟨#[10]⟩] W fun e w'=>e=.returned (.int .i64 (Lib.index r [10]))∧w'=W:=by
 have hsz:(⟨r.toArray⟩:ByteArray).size=r.length:=List.size_toArray;have h:=Tryz.strings_Index ⟨r.toArray⟩ ⟨#[10]⟩ m W (by omega) hm;rw[show (⟨r.toArray⟩:ByteArray).data.toList=r by simp] at h;exact h
theorem Rc (r:List UInt8) (i:Nat):(⟨r.toArray⟩:ByteArray).extract 0 i=⟨(r.take i).toArray⟩:=by
 apply ByteArray.ext
 rw[ByteArray.data_extract];simp
theorem Re (r:List UInt8) (i:Nat):(⟨r.toArray⟩:ByteArray).extract i r.length=⟨(r.drop i).toArray⟩:=by
 apply ByteArray.ext
 rw[ByteArray.data_extract];simp;rw[List.take_of_length_le (by rw[List.length_drop];exact Nat.le_refl _)]
def IZ (W:World) (b:Nat):Nat:=match W.cell? ⟨b,0,none⟩ with
 | some v=>En.PV v
 | none=>0
theorem IY.len {Bp Bs Bv:Nat} {m:Int} {W:World} {r:List UInt8} (h:IY Bp Bs Bv m W r):IZ W Bs=r.length:=by
 unfold IZ;rw[h.s.cell];exact List.size_toArray
set_option maxHeartbeats 4000000 in
theorem MX (n:Nat) (hn:1≤n) (l Bp Bs Bv:Nat) (s:List UInt8) (hs:s.length≤5000) (J:List (List UInt8)→World→Prop) (hJ:∀pre W (q:ByteArray),J pre W→J pre (W.setCell ⟨Bs,0,none⟩ (.string q))) (m:Int)
  (hY:∀pre x W,J pre W→pre.length<(aL s).length→x.length≤5000→YieldAt Fence.wide (n-1) Tryz.prog l #[.string ⟨x.toArray⟩] W fun e W'=>e=.returned (.bool true)∧J (pre++[x]) W'∧SQ Bp Bs Bv W W')
  (W:World) (hB:IY Bp Bs Bv m W s) (h0:J [] W) :
  CallsIn Fence.wide n Tryz.prog 109 #[.func (.yield l) #[] #[],.pointer (some ⟨Bp,0,none⟩),.pointer (some ⟨Bs,0,none⟩),.pointer (some ⟨Bv,0,none⟩)] W fun e W'=>(∃v,e=.returned v)∧J (aL s) W':=by
 have HY:Hid (∀pre x W,J pre W→pre.length<(aL s).length→x.length≤5000→YieldAt Fence.wide (n-1) Tryz.prog l #[.string ⟨x.toArray⟩] W fun e W'=>e=.returned (.bool true)∧J (pre++[x]) W'∧SQ Bp Bs Bv W W'):=hY;have HJ:Hid (∀pre W (q:ByteArray),J pre W→J pre (W.setCell ⟨Bs,0,none⟩ (.string q))):=hJ;clear hY hJ;have c1:=hB.p.cell;have HB:Hid (IY Bp Bs Bv m W s):=hB;clear hB;refine callsIn_of_wp Tryz.func109 rfl trivial ?_ rfl;simp only[Tryz.ntmps109,List.size_toArray,List.length_cons,List.length_nil,Nat.reduceAdd,Nat.reduceSub,Array.replicate_succ,Array.replicate_zero,List.push_toArray,List.append_toArray,List.nil_append,List.cons_append]
 gi_wp2
 gi_loopw [7] (fun _ wr=>∃(pre:List (List UInt8)) (r:List UInt8),IY Bp Bs Bv m wr r∧r.length≤5000∧pre++aL r=aL s∧J pre wr) (fun _ wr=>IZ wr Bs)
 case atStart=>exact⟨[],s,HB.out,hs,rfl,h0⟩
 obtain⟨pre,r,hb,hr,hl,hJ⟩:=hrel;have q1:=hb.p.cell;have q2:=hb.s.cell;have q3:=hb.v.cell;have ma:Hid (IY Bp Bs Bv m wr r):=hb;have Nw:Hid (Calls Tryz.prog 89 #[.string ⟨r.toArray⟩,.string ⟨#[10]⟩] wr fun e w'=>e=.returned (.int .i64 (Lib.index r [10]))∧w'=wr):=nI r hr wr m hb.mx;have HJ0:Hid (J pre wr):=hJ;have hsz:(⟨r.toArray⟩:ByteArray).size=r.length:=List.size_toArray;have HLP:Hid (pre++aL r=aL s):=hl;clear hb hl hJ;rcases vF r with⟨h1,h2⟩ | ⟨i,h1,h2,h3⟩
 ·rw[h1] at Nw;have hlt:pre.length<(aL s).length:=by rw[←HLP.out,List.length_append,h2];simp
  have HEN:Hid (pre++[r]=aL s):=by show pre++[r]=aL s;rw[←HLP.out,h2]
  obtain⟨fn,tmps,assign,body,hy,hR⟩:=HY.out pre r wr HJ0.out hlt hr;clear h1 h2 hlt
  gi_wp2
  refine⟨trivial,?_⟩;refine(callsIn_wide.2 Nw.out).mono ?_;rintro e w1 ⟨rfl,hw1⟩;rw[hw1];clear hw1 w1
  gi_wp2
  refine hR.mono ?_;rintro e W3 ⟨rfl,hJ3,hk3⟩
  gi_wp2
  go_end0
  exact⟨⟨_,rfl⟩,by rw[←HEN.out];exact hJ3⟩
 rw[h1] at Nw;have hlt:pre.length<(aL s).length:=by rw[←HLP.out,List.length_append,h3];simp
 have HEN:Hid (pre++[r.take i]++aL (r.drop (i+1))=aL s):=by show pre++[r.take i]++aL (r.drop (i+1))=aL s;rw[←HLP.out,h3];simp
 obtain⟨fn,tmps,assign,body,hy,hR⟩:=HY.out pre (r.take i) wr HJ0.out hlt (by rw[List.length_take];omega);rw[←Rc r i] at hy;have hi2:(i:Int)<(r.length:Int):=by omega
 have hi3:(i:Int)≤(r.length:Int):=by omega
 have hi4:(i:Int)+1≤(r.length:Int):=by omega
 have HE2:Hid ((⟨r.toArray⟩:ByteArray).extract (i+1) r.length=⟨(r.drop (i+1)).toArray⟩):=Re r (i+1);have h5:i<5000:=by omega
 clear h1 h3 hlt
 gi_wp2
 refine⟨trivial,?_⟩;refine(callsIn_wide.2 Nw.out).mono ?_;rintro e w1 ⟨rfl,hw1⟩;rw[hw1];clear hw1 w1
 gi_wp2
 refine hR.mono ?_;rintro e W3 ⟨rfl,hJ3,hk3⟩;have hb3:=ma.out.keep hk3;have p1:=hb3.p.cell;have p2:=hb3.s.cell;have p3:=hb3.s.frozen;have HB3:Hid (IY Bp Bs Bv m W3 r):=hb3;clear hb3 hk3 q1 q2 q3
 gi_wp2
 go_roundw
 case rel=>exact⟨pre++[r.take i],r.drop (i+1),by rw[HE2.out];exact HB3.out.set _,by rw[List.length_drop];omega,HEN.out,HJ.out _ _ _ hJ3⟩
 rw[HE2.out,(HB3.out.set _).len,ma.out.len,List.length_drop];omega
end Dk
end Go.Proofs.YtmhcfaaggkidjaaGreatDoor
end
section
namespace Go.Proofs.YtmhcfaaggkidjaaGreatDoor
set_option maxRecDepth 100000
namespace Dk
open Go.RowKit
open En (Fi)
open Vl
open Fl (bR bT)
theorem yJ (s:ByteArray) (n:Int) (hn:-9223372036854775808≤n∧n≤9223372036854775807):(told s n).size≤s.size+22:=by
 unfold told;rw[ByteArray.size_append,ByteArray.size_append];have h1:(⟨(Lib.itoa n).toArray⟩:ByteArray).size≤21:=Lib.itoa_length_le n hn.1 hn.2;have h2:(⟨#[32]⟩:ByteArray).size=1:=rfl;omega
def Zk (n:Int) (Z:Sn):Prop:=∀S l,Z.f=.op S l→S.ok n∧En.right l=true
theorem Zk.count {n:Int} {Z:Sn} (h:Zk n Z) (hn:n<900000000):-9223372036854775808≤Z.f.count∧Z.f.count≤9223372036854775807:=by
 cases hf:Z.f using uT.cs with
 | no D c=>exact⟨(by decide:(-9223372036854775808:Int)≤0),(by decide:(0:Int)≤9223372036854775807)⟩
 | op S l=>
  obtain⟨ho,_⟩:=h S l hf;have h1:=ho.cnt;have h2:=ho.c0;have h3:=ho.cn;show -9223372036854775808≤S.T.count∧S.T.count≤9223372036854775807
  omega
theorem eu.zk {w0 w:World} {P:Nat→Prop} {sb:Nat} {Z:Sn} {n:Int} (h:eu w0 w P sb Z n):Zk n Z:=fun S l hf=>by
 obtain⟨fb,vb,db,cb,v,lv,d,o⟩:=h.op hf;exact⟨o.ok,o.right⟩
def oM (d:Dn):Prop:=∀Z Z' a n,Zk n Z→Zk n Z'→n<900000000→d Z Z' a→a.2.size≤1000
theorem uA:oM (fun _ _ _=>False):=fun _ _ _ _ _ _ _ h=>h.elim
theorem qK {d:Dn} {F:Sn→Sn→Vs→List Fi→ByteArray→Prop} (hn:∀Z D c Z1 a,Z.f=.no D c→d Z Z1 a→a.2=⟨#[]⟩) (ho:∀Z S l Z1 a,Z.f=.op S l→d Z Z1 a→F Z Z1 S l a.2) (hF:∀n Z Z1 S l t,n<900000000→Zk n Z→Zk n Z1→Z.f=.op S l→F Z Z1 S l t→t.size≤1000):oM d:=fun Z Z' a n h1 h2 hN hd=>by
 cases hf:Z.f using uT.cs with
 | no D c=>rw[hn _ _ _ _ _ hf hd];exact Nat.zero_le _
 | op S l=>exact hF n Z Z' S l a.2 hN h1 h2 hf (ho _ _ _ _ _ hf hd)
theorem Zg {s:ByteArray} {n:Int} (hs:s.size≤10) (hn:-9223372036854775808≤n∧n≤9223372036854775807):(told s n).size≤1000:=Nat.le_trans (yJ s n hn) (by omega)
theorem MZ:oM gW:=qK (F:=fun Z Z1 S l t=>t=told lY Z1.f.count) (fun Z D c Z1 a hf h=>by unfold gW at h;rw[hf] at h;rw[h.2]) (fun Z S l Z1 a hf h=>by
 unfold gW at h;rw[hf] at h;rw[h.1,h.2]
 rfl) (fun n Z Z1 S l t hn h1 h2 hf h=>by rw[h];exact Zg (by decide) (h2.count hn))
theorem Na:oM iL:=qK (F:=fun Z Z1 S l t=>t=told nT Z.f.count) (fun Z D c Z1 a hf h=>by unfold iL at h;rw[hf] at h;rw[h.2]) (fun Z S l Z1 a hf h=>by
 unfold iL at h;rw[hf] at h;rw[h.2,hf]
 rfl) (fun n Z Z1 S l t hn h1 h2 hf h=>by rw[h];exact Zg (by decide) (h1.count hn))
theorem Rf:oM kz:=qK (F:=fun Z Z1 S l t=>t=told sG S.free) (fun Z D c Z1 a hf h=>by unfold kz at h;rw[hf] at h;rw[h.2]) (fun Z S l Z1 a hf h=>by
 unfold kz at h;rw[hf] at h;rw[h.2]) (fun n Z Z1 S l t hn h1 h2 hf h=>by rw[h];exact Zg (by decide) (EI S))
theorem Fh:oM di:=qK (F:=fun Z Z1 S l t=>∃kb kt,t=qC (S.ae kb kt).1) (fun Z D c Z1 a hf h=>by unfold di at h;rw[hf] at h;rw[h.2]) (fun Z S l Z1 a hf h=>by
 unfold di at h;rw[hf] at h;exact⟨_,_,by rw[h.2]⟩) (fun n Z Z1 S l t hn h1 h2 hf h=>by
 obtain⟨kb,kt,rfl⟩:=h;have h3:=uU S kb kt;unfold qC;rw[ByteArray.size_append,ByteArray.size_append];have h4:=yJ fH (S.ae kb kt).1.1 (by omega);have h5:(⟨(Lib.formatBool (S.ae kb kt).1.2.1).toArray⟩:ByteArray).size≤5:=by
  cases (S.ae kb kt).1.2.1<;>decide
 have h6:fH.size=7:=rfl;have h7:dW.size=1:=rfl;omega)
theorem Rh:oM kC:=qK (F:=fun Z Z1 S l t=>t=dm (ik::l.map Fi.nm)) (fun Z D c Z1 a hf h=>by unfold kC at h;rw[hf] at h;rw[h.2]) (fun Z S l Z1 a hf h=>by
 unfold kC at h;rw[hf] at h;rw[h.2]) (fun n Z Z1 S l t hn h1 h2 hf h=>by
 subst h;obtain⟨_,hr⟩:=h1 S l hf;have hfit:=((Fl.aX l).1 hr).1;have h3:=JQ 10 ((ik::l.map Fi.nm).map (·.data.toList)) (fun x hx=>by
  obtain⟨y,hy,rfl⟩:=List.mem_map.1 hx;rcases List.mem_cons.1 hy with rfl | hy
  ·decide
  obtain⟨f,hf,rfl⟩:=List.mem_map.1 hy;exact JR (hfit.good f hf).1)
 have h4:l.length≤8:=by
  have:=hr;unfold En.right at this;rw[Bool.and_eq_true] at this
  simpa using this.1
 show (Lib.join ((ik::l.map Fi.nm).map (·.data.toList)) [32]).toArray.size≤1000
 rw[List.size_toArray];simp only[List.length_map,List.length_cons] at h3;omega)
theorem Vq (s:ByteArray):oM (oV s):=qK (F:=fun Z Z1 S l t=>t=⟨#[]⟩∨∃u,Fl.aV S.X l s=some u∧t=jd ⟨u.toArray⟩) (fun Z D c Z1 a hf h=>by unfold oV at h;rw[hf] at h;rw[h.2]) (fun Z S l Z1 a hf h=>by
 unfold oV at h;rw[hf] at h;rw[h.2];cases hx:Fl.aV S.X l s with
 | none=>exact .inl rfl
 | some u=>exact .inr ⟨u,rfl,rfl⟩) (fun n Z Z1 S l t hn h1 h2 hf h=>by
 obtain⟨ho,hr⟩:=h1 S l hf;rcases h with rfl | ⟨u,hu,rfl⟩
 ·exact Nat.zero_le _
 have h3:=Qt hr ho.txt hu;have h4:(⟨u.toArray⟩:ByteArray).size=u.length:=List.size_toArray;unfold jd;rw[ByteArray.size_append,ByteArray.size_append,jo,ByteArray.size_extract];have h5:=yJ zm ((⟨u.toArray⟩:ByteArray).size:Int) (by omega);have h6:zm.size=3:=rfl;have h7:dW.size=1:=rfl;omega)
theorem Vr (s t:ByteArray) (k:Int):oM (vK s t k):=fun Z Z' a n h1 h2 hN hd=>by
 rcases hd with⟨_,_,rfl⟩ | ⟨_,hd⟩
 ·exact Nat.zero_le _
 cases hf:Z.f using uT.cs with
 | no D c=>rw[hf] at hd;rw[hd.2];exact Nat.zero_le _
 | op S l=>rw[hf] at hd;obtain⟨r,S',l',_,_,h3⟩:=hd;rw[h3];exact(by decide:EK.size≤1000)
theorem Vt (s:ByteArray):oM (sJ s):=qK (F:=fun Z Z1 S l t=>t=Qs) (fun Z D c Z1 a hf h=>by unfold sJ at h;rw[hf] at h;rw[h.2]) (fun Z S l Z1 a hf h=>by
 unfold sJ at h;rw[hf] at h;obtain⟨r,S',l',_,_,h3⟩:=h;rw[h3]) (fun n Z Z1 S l t hn h1 h2 hf h=>by rw[h];decide)
theorem Vu (s:ByteArray):oM (Iq s):=fun Z Z' a n h1 h2 hN hd=>by obtain⟨f,r,_,_,h3⟩:=hd;rw[h3];decide
theorem Ri:oM Am:=fun Z Z' a n h1 h2 hN hd=>by
 obtain⟨f,r,_,h4,h3⟩:=hd;rw[h3];have:=h2.count hN;rw[h4] at this;exact Zg (by decide) this
theorem Nb (s:ByteArray) (m:Int):oM (qF s m):=fun Z Z' a n h1 h2 hN hd=>by
 obtain⟨f,r,_,h4,h3⟩:=hd;rw[h3];have:=h2.count hN;rw[h4] at this;exact Zg (by decide) this
theorem Rj (m:Int):oM (EL m):=fun Z Z' a n h1 h2 hN hd=>by rw[hd.2];decide
theorem Nc:oM ut:=fun Z Z' a n h1 h2 hN hd=>by rw[hd.2];decide
theorem Vv:oM Mv:=fun Z Z' a n h1 h2 hN hd=>by obtain⟨f,r,_,_,h3⟩:=hd;rw[h3];decide
theorem Nf (x y z:Int):oM (kH x y z):=fun Z Z' a n h1 h2 hN hd=>by
 rcases hd with⟨_,_,h3⟩ | ⟨_,f,r,_,_,h3⟩<;>rw[h3]<;>decide
theorem Vw (ws:List ByteArray):oM (Qy ws):=fun Z Z' a n h1 h2 hN hd=>by
 rw[hd.2];show (Qx++lg (gq (dm ws))).size≤1000
 rw[ByteArray.size_append,jo,lh];decide
theorem Ng (s:ByteArray) (m:Int):oM (qE s m):=fun Z Z' a n h1 h2 hN hd=>by
 rw[hd.2];split
 ·show (uu++lg (gY s m)).size≤1000
  rw[ByteArray.size_append,jo];have:(gY s m).size≤64:=by unfold gY;rw[strOfNums_size];exact Nat.le_of_eq rfl
  have h2:uu.size=6:=rfl;omega
 exact Nat.zero_le _
theorem Rk:oM Aw:=fun Z Z' a n h1 h2 hN hd=>by
 rw[hd.2];show (dm EY).size≤1000
 decide
theorem Vx:∀m ∈ tab,∀av bv,oM (m.d av bv):=by
 have z0:∀{d:Dn},oM d→∀av bv,oM (d0 d av bv):=fun h av bv=>by
  unfold d0;split
  ·exact h
  exact uA
 have w1:∀{d:ByteArray→Dn},(∀s,oM (d s))→∀av bv,oM (SN d av bv):=fun h av bv=>by
  unfold SN;split
  ·exact h _
  exact uA
 have n1:∀{d:Int→Dn},(∀s,oM (d s))→∀av bv,oM (Ze d av bv):=fun h av bv=>by
  unfold Ze;split
  ·exact h _
  exact uA
 have n3:∀{d:Int→Int→Int→Dn},(∀a b c,oM (d a b c))→∀av bv,oM (Zf d av bv):=fun h av bv=>by
  unfold Zf;split
  ·exact h _ _ _
  exact uA
 have a0Q:∀{d:ByteArray→Int→Dn},(∀s m,oM (d s m))→∀av bv,oM (ve d av bv):=fun h av bv=>by
  unfold ve;split
  ·exact h _ _
  exact uA
 have a3K:∀{d:ByteArray→ByteArray→Int→Dn},(∀s t m,oM (d s t m))→∀av bv,oM (Ay d av bv):=fun h av bv=>by
  unfold Ay;split
  ·exact h _ _ _
  exact uA
 intro m hm;unfold tab at hm;simp only[List.mem_cons,List.not_mem_nil,or_false] at hm;rcases hm with rfl | rfl | rfl | rfl | rfl | rfl | rfl | rfl | rfl | rfl | rfl | rfl | rfl | rfl | rfl | rfl | rfl | rfl
 ·exact w1 Vu
 ·exact a3K Vr
 ·exact w1 Vt
 ·exact w1 Vq
 ·exact z0 Rh
 ·exact z0 MZ
 ·exact z0 Fh
 ·exact z0 Na
 ·exact z0 Rf
 ·exact z0 Ri
 ·exact n1 Rj
 ·exact a0Q Nb
 ·exact z0 Nc
 ·exact z0 Vv
 ·exact n3 Nf
 ·exact a0Q Ng
 ·exact fun av bv=>Vw av
 exact z0 Rk
theorem Rl (line:ByteArray):oM (Line line):=by
 unfold Line;split
 ·exact fun Z Z' a n _ _ _ h=>by rw[h.2];decide
 split
 ·exact fun Z Z' a n _ _ _ h=>by rw[h.2];decide
 rename_i m hm
 have hn:=Vx m (oI hm);split
 ·exact hn _ _
 split
 ·exact fun Z Z' a n _ _ _ h=>by rw[h.2];decide
 exact hn _ _
theorem Nh {line:ByteArray} {Z Z':Sn} {a:qM} {n:Int} (h1:Zk n Z) (h2:Zk n Z') (hn:n<900000000) (hz:Zr Z) (h:Line line Z Z' a):(fw a).size≤1000:=by
 unfold fw;split
 ·exact Rl line Z Z' a n h1 h2 hn h
 have:=((lw line).2 Z Z' a hz h).2;unfold Er at this;exact Zg (by decide) (by omega)
end Dk
end Go.Proofs.YtmhcfaaggkidjaaGreatDoor
end
section
namespace Go.Proofs.YtmhcfaaggkidjaaGreatDoor
set_option maxRecDepth 100000
namespace Dk
open Go.RowKit Go.Shelf
attribute [local go_sem] Oper.semAt_some
open Vl
theorem zw (s p:ByteArray) (W:World):Calls Tryz.prog 54 #[.string s,.string p,.int .i64 0] W fun e w'=>e=.returned (.func (.func 109) #[] #[.pointer (some ⟨W.heap.size+1,0,none⟩),.pointer (some ⟨W.heap.size,0,none⟩),.pointer (some ⟨W.heap.size+1+1,0,none⟩)])∧w'=((W.alloc (.cells #[.string s] 9)).alloc (.cells #[.string p] 9)).alloc (.cells #[.int .i64 0] 3):=by
 have hmf:∀(fn:Fn) (first cap:Array Value) (w:World),(Instr.makeFunc fn first cap).run Tryz.prog w=.ok (.func fn first cap) w:=fun _ _ _ _=>rfl
 go_enter Tryz.func54,Tryz.ntmps54
 go_wp2_with fail
 go_ret;exact⟨rfl,rfl⟩
theorem Cs (s p:ByteArray) (W:World):Calls Tryz.prog 14 #[.string s,.string p] W fun e w'=>e=.returned (.func (.func 109) #[] #[.pointer (some ⟨W.heap.size+1,0,none⟩),.pointer (some ⟨W.heap.size,0,none⟩),.pointer (some ⟨W.heap.size+1+1,0,none⟩)])∧w'=((W.alloc (.cells #[.string s] 9)).alloc (.cells #[.string p] 9)).alloc (.cells #[.int .i64 0] 3):=by
 go_enter Tryz.func14,Tryz.ntmps14
 go_wp2_with fail
 refine(zw s p W).mono ?_;rintro e w' ⟨rfl,rfl⟩;go_wp2_with fail
 go_ret;exact⟨rfl,rfl⟩
def vM (l0 Bp Bs Bv:Nat) (I:World→Prop) (W:World):Exit→Act→World→Prop
 | .normal,_,W'=>(W'.heap[l0]?=W.heap[l0]?∧W'.heap[l0+1]?=W.heap[l0+1]?)∧SQ Bp Bs Bv W W'∧I W'
 | _,_,_=>False
theorem Ke {Bp Bs Bv:Nat} {W:World} {l:Nat} {o:Obj} (h:Bp<l∧Bs<l∧Bv<l∧1<l):SQ Bp Bs Bv W (W.putObj l o):=⟨World.putObj_heap_other (by omega),World.putObj_heap_other (by omega),World.putObj_heap_other (by omega),World.putObj_heap_other (by omega)⟩
theorem SQ.trans {Bp Bs Bv:Nat} {A B C:World} (h:SQ Bp Bs Bv A B) (k:SQ Bp Bs Bv B C):SQ Bp Bs Bv A C:=⟨k.1.trans h.1,k.2.1.trans h.2.1,k.2.2.1.trans h.2.2.1,k.2.2.2.trans h.2.2.2⟩
theorem Fj {g:Operand} {ps:Array Tmp} {assign body:Code} {Q:Exit→Act→World→Prop} {a:Act} {w:World} {n:Nat} {gf:Nat} {lb:Array Value} {xs:List (List UInt8)} {Bp Bs Bv:Nat}
  (h1:1≤n) (hg:a.eval g=.func (.func gf) #[] lb) (eg:∀args w,(callFunc gf args).run Tryz.prog w=.ok (.enter gf args) w) (hps:ps.size=1)
  (hseq:∀(l:Nat) (J:List (List UInt8)→World→Prop) (W:World),(∀pre W (q:ByteArray),J pre W→J pre (W.setCell ⟨Bs,0,none⟩ (.string q)))→(∀pre x W,J pre W→pre.length<xs.length→x.length≤5000→YieldAt Fence.wide (n-1-1) Tryz.prog l #[.string ⟨x.toArray⟩] W fun e W'=>e=.returned (.bool true)∧J (pre++[x]) W'∧SQ Bp Bs Bv W W')→Since w W→J [] W→CallsIn Fence.wide (n-1) Tryz.prog gf (#[.func (.yield l) #[] #[]]++lb) W fun e W'=>(∃v,e=.returned v)∧J xs W')
  (hlt:Bp<w.heap.size∧Bs<w.heap.size∧Bv<w.heap.size∧1<w.heap.size)
  (I:List (List UInt8)→World→Prop) (hIa:∀pre W o,I pre W→I pre (W.alloc o)) (hIp:∀pre W l o o',I pre W→w.heap.size≤l→l<w.heap.size+2→W.heap[l]?=some o→o.isCells=false→I pre (W.putObj l o')) (hIs:∀pre W (q:ByteArray),I pre W→w.heap.size+1<W.heap.size→I pre (W.setCell ⟨Bs,0,none⟩ (.string q))) (h0:I [] w) (a₁:List UInt8→Act)
  (hassign:∀(l:Nat) (x:List UInt8) (W:World) (K:Act→World→Prop),K (a₁ x) W→assign.wpIn (Fence.wide.inRound l) (n-1-1) Tryz.prog (Exit.then K (fun _ _ _=>False)) { tmps:=(ps.zip #[.string ⟨x.toArray⟩]).foldl (fun t (p,v)=>t.setIfInBounds p v) a.tmps,defers:=[] } W)
  (hbody:∀(l:Nat) (pre:List (List UInt8)) (x:List UInt8) (W:World),I pre W→w.heap.size+1<W.heap.size→pre.length<xs.length→x.length≤5000→body.wpIn (Fence.wide.inRound l) (n-1-1) Tryz.prog (vM w.heap.size Bp Bs Bv (I (pre++[x])) W) (a₁ x) W)
  (hdone:∀(D:Nat) (W:World),w.heap.size≤D→D<w.heap.size+2→I xs W→W.heap[D]?=some (.deferred (some []))→Q .normal { a with defers:={ target:=.collected D,args:=#[] }::a.defers } W) :
  (Code.rangeFunc g ps assign body).wpIn Fence.wide n Tryz.prog Q a w:=by
 refine wpIn_rangeFunc ?_;intro fn hfn;obtain⟨rec,hrec⟩:∃rec:LoopState→Option Code→Loop,rec=fun st pe=>{ state:=st,pending:=pe,fn,tmps:=a.tmps,params:=ps,assign,body,defers:=w.heap.size }:=⟨_,rfl⟩
 obtain⟨W1,hW1⟩:∃W1,(w.alloc (.deferred (some []))).alloc (.loop (rec .ready none))=W1:=⟨_,rfl⟩
 have hL1:W1.heap[w.heap.size+1]?=some (.loop (rec .ready none)):=by
  have:=World.alloc_heap_new (w.alloc (.deferred (some []))) (.loop (rec .ready none));rw[World.size_alloc,hW1] at this;exact this
 have hK1:W1.heap[w.heap.size]?=some (.deferred (some [])):=by
  rw[←hW1];exact(Below.heap_alloc _ _ _ (by simp)).trans (World.alloc_heap_new w _)
 have hI1:I [] W1:=by rw[←hW1];exact hIa _ _ _ (hIa _ _ _ h0)
 have hS1:Since w W1:=by rw[←hW1];exact((Since.refl w).alloc _).alloc _
 refine⟨w.heap.size+1,[{ target:=.collected w.heap.size,args:=#[] }],W1,{ target:=.fn (.func gf) lb,args:=#[.func (.yield (w.heap.size+1)) #[] #[]] },W1,gf,#[.func (.yield (w.heap.size+1)) #[] #[]]++lb,W1,?_,?_,fun f' hf'=>trivial,?_,fun _=>h1,?_⟩
 ·rw[←hW1,hrec];exact run_enterLoop_outer _ _ _ _ _
 ·simp only[resolve,hg];simp[go_sem]
 ·simp[invoke,go_sem,eg]
 refine(hseq (w.heap.size+1) (fun pre W=>I pre W∧W.heap[w.heap.size+1]?=some (.loop (rec .ready none))∧W.heap[w.heap.size]?=some (.deferred (some []))) W1 (fun pre W v hJ=>?_) (fun pre x W hJ hlen hx=>?_) hS1 ⟨hI1,hL1,hK1⟩).mono ?_
 ·obtain⟨hi,hl,hk⟩:=hJ;have hwl:w.heap.size+1<W.heap.size:=(Array.getElem?_eq_some_iff.1 hl).1;exact⟨hIs pre W v hi hwl,(Below.heap_setCell _ _ _ _ (by show w.heap.size+1≠Bs;omega)).trans hl,(Below.heap_setCell _ _ _ _ (by show w.heap.size≠Bs;omega)).trans hk⟩
 ·obtain⟨hi,hl,hk⟩:=hJ;have hwl:w.heap.size+1<W.heap.size:=(Array.getElem?_eq_some_iff.1 hl).1;have hy:=run_yield (P:=Tryz.prog) (args:=#[.string ⟨x.toArray⟩]) hl (by rw[hrec];exact hps.symm);rw[hrec] at hy;refine⟨fn,_,assign,body,hy,roundIn_of_wpIn hfn (hassign _ x W _ ⟨_,run_beginRound hl (by rw[hrec]),?_⟩)⟩;have hl2:(W.putObj (w.heap.size+1) (.loop { rec .ready none with state:=.busy })).heap[w.heap.size+1]?=some (.loop { rec .ready none with state:=.busy }):=World.putObj_heap_same hwl;have hk2:(W.putObj (w.heap.size+1) (.loop { rec .ready none with state:=.busy })).heap[w.heap.size]?=some (.deferred (some [])):=(World.putObj_heap_other (by omega)).trans hk;have hw2:w.heap.size+1<(W.putObj (w.heap.size+1) (.loop { rec .ready none with state:=.busy })).heap.size:=(Array.getElem?_eq_some_iff.1 hl2).1
  refine wpIn_mono (hbody _ pre x _ (hIp pre W _ _ _ hi (by omega) (by omega) hl rfl) hw2 hlen hx) ?_;rintro e a3 W3 hp;cases e with
  | normal=>
   obtain⟨⟨g1,g2⟩,hkp,hi3⟩:=hp;have hl3:=g2.trans hl2;have hk3:=g1.trans hk2;have hr:=run_endRound (P:=Tryz.prog) none hl3;have hl4:(W3.putObj (w.heap.size+1) (.loop (rec .ready none))).heap[w.heap.size+1]?=some (.loop (rec .ready none)):=World.putObj_heap_same (Array.getElem?_eq_some_iff.1 hl3).1;refine⟨.bool true,W3.putObj (w.heap.size+1) (.loop (rec .ready none)),?_,rfl,⟨hIp _ W3 _ _ _ hi3 (by omega) (by omega) hl3 rfl,hl4,(World.putObj_heap_other (by omega)).trans hk3⟩,((Ke (by omega)).trans hkp).trans (Ke (by omega))⟩;rw[hrec] at hr ⊢;exact hr
  | ret=>exact hp.elim
  | exit id=>exact hp.elim
  | goto t=>exact hp.elim
  | panic c=>exact hp.elim
  | outgrown=>exact hp.elim
 rintro e W2 ⟨⟨v,rfl⟩,hi,hl,hk⟩;refine⟨none,W2.putObj (w.heap.size+1) (.loop { rec .ready none with state:=.exhausted }),?_,?_⟩
 ·have:=run_endLoop (P:=Tryz.prog) hl (by rw[hrec];simp);rw[hrec] at this ⊢;exact this
 exact hdone w.heap.size _ (Nat.le_refl _) (by omega) (hIp _ W2 _ _ _ hi (by omega) (by omega) hl rfl) ((World.putObj_heap_other (by omega)).trans hk)
end Dk
end Go.Proofs.YtmhcfaaggkidjaaGreatDoor
end
section
namespace Go.Proofs.YtmhcfaaggkidjaaGreatDoor
set_option maxRecDepth 100000
namespace Dk
open Go.RowKit Go.Shelf
attribute [local go_sem] Oper.semAt_some
open Vl
def Zh (l:List UInt8):ByteArray:=⟨l.toArray⟩
def zx (text t:ByteArray):Prop:=∃f r Z',dL (dw ⟨#[]⟩) mr 0 f r∧mi ((aL (Lib.trimSuffix text.data.toList [10])).map Zh) ⟨dw ⟨#[]⟩,sS,f⟩ Z' t
structure SIx (w0:World) (sb r C3 b Bs lo hi:Nat) (Z0:Sn) (pre:List (List UInt8)) (W:World) (Z:Sn) (t:ByteArray) (P:Nat→Prop) (n:Int) (v:Value):Prop where
 lines:mi (pre.map Zh) Z0 Z t
 zr:Zr Z
 se:eu w0 W P sb Z n
 n0:0≤n∧n≤1+30*(pre.length:Int)
 bl:Bl W lo b v t.data.toList
 len:t.size≤1001*pre.length
 box:Boxed W C3 33 (.map (some r))
 map:W.heap[r]?=some (.map (mG 0 (dx sb)).toArray 18)
 out:∀k,lo≤k→k<hi+2→¬P k
 buf:∀k,v.ownBlock=some k→hi+2≤k∧¬P k
 bs:∃s:ByteArray,Boxed W Bs 9 (.string s)
 num:w0.heap.size≤lo∧lo≤r∧lo≤C3∧lo≤b∧lo≤Bs∧r<hi∧C3<hi∧b<hi∧Bs<hi∧C3≠b∧C3≠Bs∧b≠Bs∧r≠Bs∧w0.drawn=hi
def SI (w0:World) (sb r C3 b Bs lo hi:Nat) (Z0:Sn) (pre:List (List UInt8)) (W:World):Prop:=∃Z t P n v,SIx w0 sb r C3 b Bs lo hi Z0 pre W Z t P n v
section
variable {w0:World} {sb r C3 b Bs lo hi:Nat} {Z0:Sn} {pre:List (List UInt8)} {W W':World}
theorem SI.since (h:SI w0 sb r C3 b Bs lo hi Z0 pre W) (hs:Since W W'):SI w0 sb r C3 b Bs lo hi Z0 pre W':=by
 obtain⟨Z,t,P,n,v,h⟩:=h;obtain⟨s,hb⟩:=h.bs;exact⟨Z,t,P,n,v,h.lines,h.zr,h.se.go hs,h.n0,h.bl.fs (Fs.ah (S:=fun _=>False) hs) (fun e=>e) (fun _ _ e=>e),h.len,(hs.block _ h.box.lt).trans h.box,(hs.block _ (Array.getElem?_eq_some_iff.1 h.map).1).trans h.map,h.out,h.buf,⟨s,(hs.block _ hb.lt).trans hb⟩,h.num⟩
theorem Vy {l:Nat} {o:Obj} (o':Obj) (hl:W.heap[l]?=some o) (ho:o.isCells=false):sO (fun k=>k=l) W (W.putObj l o'):=by
 refine⟨⟨rfl,rfl,rfl,by simp[World.putObj],fun k hk hn=>World.putObj_heap_other hn⟩,fun a u ha _=>?_⟩;have hne:a.block≠l:=fun e=>by
  unfold World.cell? at ha;rw[e,hl] at ha;cases o<;>simp_all [Obj.isCells]
 rw[World.cell?_of_block (w:=W) (a:=a) (World.putObj_heap_other hne)];exact ha
theorem SI.put (h:SI w0 sb r C3 b Bs lo hi Z0 pre W) {l:Nat} {o:Obj} (o':Obj) (h1:hi≤l) (h2:l<hi+2) (hl:W.heap[l]?=some o) (ho:o.isCells=false):SI w0 sb r C3 b Bs lo hi Z0 pre (W.putObj l o'):=by
 obtain⟨Z,t,P,n,v,h⟩:=h;obtain⟨s,hb⟩:=h.bs;have hn:=h.num;have he:=Vy o' hl ho;refine⟨Z,t,P,n,v,h.lines,h.zr,h.se.els h.zr.2 he (fun k _ e=>by rw[e];exact h.out l (by omega) h2) (fun k e=>by rw[e];omega),h.n0,h.bl.fs he.fs (by show ¬b=l;omega) (fun k hk e=>by have:=(h.buf k hk).1;have e':k=l:=e;omega),h.len,?_,?_,h.out,h.buf,⟨s,?_⟩,h.num⟩
 ·exact(World.putObj_heap_other (by omega)).trans h.box
 ·exact(World.putObj_heap_other (by omega)).trans h.map
 exact(World.putObj_heap_other (by omega)).trans hb
theorem SI.box (h:SI w0 sb r C3 b Bs lo hi Z0 pre W) (q:ByteArray):SI w0 sb r C3 b Bs lo hi Z0 pre (W.setCell ⟨Bs,0,none⟩ (.string q)):=by
 obtain⟨Z,t,P,n,v,h⟩:=h;obtain⟨s,hb⟩:=h.bs;have hn:=h.num;have hf:Fs (fun k=>k=Bs) W (W.setCell ⟨Bs,0,none⟩ (.string q)):=⟨rfl,rfl,rfl,by simp[World.setCell],fun k hk hn=>Below.heap_setCell _ _ _ _ hn⟩
 refine⟨Z,t,P,n,v,h.lines,h.zr,h.se.box h.zr.2 hb (h.out Bs (by omega) (by omega)) (by omega) (by omega) _,h.n0,h.bl.fs hf (by show ¬b=Bs;omega) (fun k hk e=>by have:=(h.buf k hk).1;have e':k=Bs:=e;omega),h.len,?_,?_,h.out,h.buf,⟨q,hb.set _⟩,h.num⟩
 ·exact(Below.heap_setCell _ _ _ _ (by show C3≠Bs;omega)).trans h.box
 exact(Below.heap_setCell _ _ _ _ (by show r≠Bs;omega)).trans h.map
theorem SIx.step {Z Z':Sn} {t:ByteArray} {P:Nat→Prop} {n:Int} {v v1 v2:Value} {W1 W2 W3:World} {x:List UInt8} {a:qM} (h:SIx w0 sb r C3 b Bs lo hi Z0 pre W Z t P n v) (hw:hi+1<W.heap.size) (hL:Line (Zh x) Z Z' a) (hto:aG w0 W W1 P sb Z' (n+30)) (hsz:(fw a).size≤1000) (hz:Zr Z')
  (b2:Bl W2 lo b v1 (t.data.toList++(fw a).data.toList)) (e2:sO (fun k=>k=b∨v.ownBlock=some k) W1 W2) (o2:∀k,v1.ownBlock=some k→v.ownBlock=some k∨W1.heap.size≤k)
  (b3:Bl W3 lo b v2 (t.data.toList++(fw a).data.toList++[10])) (e3:sO (fun k=>k=b∨v1.ownBlock=some k) W2 W3) (o3:∀k,v2.ownBlock=some k→v1.ownBlock=some k∨W2.heap.size≤k) :
  SI w0 sb r C3 b Bs lo hi Z0 (pre++[x]) W3∧∀k,k<W.heap.size→¬P k→k≠b→v.ownBlock≠some k→W3.heap[k]?=W.heap[k]?:=by
 obtain⟨P',hse,hfs,Mm⟩:=hto;obtain⟨s,hb⟩:=h.bs;have hn:=h.num;have hbl:=h.bl.lt;have hpb:¬P b:=h.out b (by omega) (by omega);have a0R:¬P' b:=Mm b hbl hpb;have hown:∀k,v.ownBlock=some k→k<W.heap.size:=fun k hk=>(h.bl.Zd.own.lt k hk).2
 have hsz1:W.heap.size≤W1.heap.size:=hfs.size;have hsz2:W1.heap.size≤W2.heap.size:=e2.fs.size;have YC:∀k,v1.ownBlock=some k→hi+2≤k∧¬P' k:=fun k hk=>by
  rcases o2 k hk with h1 | h1
  ·exact⟨(h.buf k h1).1,Mm k (hown k h1) (h.buf k h1).2⟩
  exact⟨by omega,fun hp=>by have:=hse.oU k hp;omega⟩
 have hs2:=hse.els hz.2 e2 (fun k _ hk=>by
  rcases hk with rfl | hk
  ·exact a0R
  ·exact Mm k (hown k hk) (h.buf k hk).2) (fun k hk=>by
  rcases hk with rfl | hk
  ·omega
  have:=(h.buf k hk).1;omega)
 have hs3:=hs2.els hz.2 e3 (fun k _ hk=>by
  rcases hk with rfl | hk
  ·exact a0R
  ·exact(YC k hk).2) (fun k hk=>by
  rcases hk with rfl | hk
  ·omega
  have:=(YC k hk).1;omega)
 have hkeep:∀k,k<W.heap.size→¬P k→k≠b→v.ownBlock≠some k→W3.heap[k]?=W.heap[k]?:=fun k hk hp hkb hko=>by
  have h1:v1.ownBlock≠some k:=fun e=>by
   rcases o2 k e with h1 | h1
   ·exact hko h1
   omega
  rw[e3.fs.block k (by omega) (fun e=>by rcases e with e | e;exact hkb e;exact h1 e),e2.fs.block k (by omega) (fun e=>by rcases e with e | e;exact hkb e;exact hko e),hfs.block k hk hp]
 have hw2:∀k,lo≤k→k<hi+2→¬P' k:=fun k h1 h2=>Mm k (by omega) (h.out k h1 h2)
 have hno:∀k,k<hi→v.ownBlock≠some k:=fun k hk e=>by have:=(h.buf k e).1;omega
 have hda:∀p q:ByteArray,(p++q).data.toList=p.data.toList++q.data.toList:=fun p q=>by rw[ByteArray.data_append,Array.toList_append]
 refine⟨⟨Z',t++(fw a++nl),P',n+30,v2,?_,hz,hs3,⟨by have:=h.n0;omega,by have:=h.n0;rw[List.length_append,List.length_singleton];push_cast;omega⟩,?_,?_,?_,?_,hw2,fun k hk=>?_,⟨s,?_⟩,h.num⟩,hkeep⟩
 ·rw[List.map_append];exact IQ h.lines hL
 ·rw[hda,hda,←List.append_assoc];exact b3
 ·have hl:=h.len;have hnl:nl.size=1:=rfl;rw[ByteArray.size_append,ByteArray.size_append,List.length_append,List.length_singleton];omega
 ·exact(hkeep C3 (by have:=h.box.lt;omega) (h.out C3 (by omega) (by omega)) (by omega) (hno C3 (by omega))).trans h.box
 ·exact(hkeep r (Array.getElem?_eq_some_iff.1 h.map).1 (h.out r (by omega) (by omega)) (fun e=>by
   have h1:=h.map;obtain⟨p,_,h2⟩:=h.bl.blk;rw[e,h2] at h1;cases h1) (hno r (by omega))).trans h.map
 ·rcases o3 k hk with h1 | h1
  ·exact YC k h1
  exact⟨by omega,fun hp=>by have:=hse.oU k hp;omega⟩
 exact(hkeep Bs (by have:=hb.lt;omega) (h.out Bs (by omega) (by omega)) (by omega) (hno Bs (by omega))).trans hb
end
end Dk
end Go.Proofs.YtmhcfaaggkidjaaGreatDoor
end
section
namespace Go.Proofs.YtmhcfaaggkidjaaGreatDoor
set_option maxRecDepth 100000
namespace Dk
open Go.RowKit Go.Shelf
open En (Fi)
open Vl
open Fl (bR bT bf)
def Rm:ByteArray:=⟨#[112,117,116,32,97,32,49,48,48,32,120,10,112,117,116,32,98,32,48,32,121,10,102,114,101,101,10,102,108,117,115,104,10,112,117,116,32,97,32,49,32,122,10,99,114,97,115,104,32,48,32,48,10,108,105,115,116,10,103,101,116,32,98,10,100,101,108,32,97,10,108,105,115,116,10,114,101,99,108,97,105,109,10,120,10]⟩
def Ni:ByteArray:=⟨#[112,117,116,10,112,117,116,10,102,114,101,101,32,49,50,52,10,102,108,117,115,104,32,49,10,112,117,116,10,99,114,97,115,104,32,49,10,108,105,115,116,32,97,32,98,10,103,101,116,32,48,32,101,51,98,48,99,52,52,50,10,100,101,108,10,108,105,115,116,32,98,10,114,101,99,108,97,105,109,32,48,32,102,97,108,115,101,10,101,114,114,111,114,32,51,10]⟩
def nA:ByteArray:=⟨#[97]⟩
def nB:ByteArray:=⟨#[98]⟩
def cX:ByteArray:=⟨#[120]⟩
def cY:ByteArray:=⟨#[121]⟩
def cZ:ByteArray:=⟨#[122]⟩
def c0:ByteArray:=⟨#[48]⟩
theorem Nj:(aL (Lib.trimSuffix Rm.data.toList [10])).map Zh=[⟨#[112,117,116,32,97,32,49,48,48,32,120]⟩,⟨#[112,117,116,32,98,32,48,32,121]⟩,⟨#[102,114,101,101]⟩,⟨#[102,108,117,115,104]⟩,⟨#[112,117,116,32,97,32,49,32,122]⟩,⟨#[99,114,97,115,104,32,48,32,48]⟩,⟨#[108,105,115,116]⟩,⟨#[103,101,116,32,98]⟩,⟨#[100,101,108,32,97]⟩,⟨#[108,105,115,116]⟩,⟨#[114,101,99,108,97,105,109]⟩,⟨#[120]⟩]:=by kernel_rfl
theorem yK:Line ⟨#[112,117,116,32,97,32,49,48,48,32,120]⟩=vK nA cX 100:=by kernel_rfl
theorem Ct:Line ⟨#[112,117,116,32,98,32,48,32,121]⟩=vK nB cY 0:=by kernel_rfl
theorem Vz:Line ⟨#[102,114,101,101]⟩=kz:=by kernel_rfl
theorem Ro:Line ⟨#[102,108,117,115,104]⟩=gW:=by kernel_rfl
theorem Cu:Line ⟨#[112,117,116,32,97,32,49,32,122]⟩=vK nA cZ 1:=by kernel_rfl
theorem Cv:Line ⟨#[99,114,97,115,104,32,48,32,48]⟩=qF c0 0:=by kernel_rfl
theorem Kg:Line ⟨#[108,105,115,116]⟩=kC:=by kernel_rfl
theorem Rp:Line ⟨#[103,101,116,32,98]⟩=oV nB:=by kernel_rfl
theorem Rq:Line ⟨#[100,101,108,32,97]⟩=sJ nA:=by kernel_rfl
theorem Ja:Line ⟨#[114,101,99,108,97,105,109]⟩=di:=by kernel_rfl
theorem a3L:Line ⟨#[120]⟩=fun Z Z' a=>Z'=Z∧a=(3,⟨#[]⟩):=by kernel_rfl
theorem Nk:jd ⟨#[]⟩=⟨#[103,101,116,32,48,32,101,51,98,48,99,52,52,50]⟩:=by kernel_rfl
end Dk
end Go.Proofs.YtmhcfaaggkidjaaGreatDoor
end
section
namespace Go.Proofs.YtmhcfaaggkidjaaGreatDoor
set_option maxRecDepth 100000
namespace Dk
open Go.RowKit Go.Shelf
open En (Fi)
open Vl
open Tw (Tb Same)
open Fl (bR bT bf Me eZ vJ ax iK aH dQ aV gH bC)
def oW:List Int→ByteArray→(Nat→ByteArray)→Nat
 | [],_,_=>0
 | c::r,t,X=>(if t.extract 0 (min t.size 80)=X c.toNat∨t.extract 0 (min t.size 80)=⟨#[]⟩ then 0 else 1)+oW r (t.extract (min t.size 80) t.size) (fq X c.toNat (t.extract 0 (min t.size 80)))
section
variable {kb kt:ByteArray} {S S':Vs} {l l':List Fi} {n:Int} {k:Nat} {c:Int} {T:Tb} {X:Nat→ByteArray} {r:Int}
theorem Nn (h:S.on) (ht:tot S.D<108) (i:Nat) (hi:i<24) (t:ByteArray) (h80:t.size≤80):tot (S.write kb kt i t).2.D=tot S.D+(if t=S.X i∨t=⟨#[]⟩ then 0 else 1):=by
 have he:S.write kb kt i t=if t=S.X i then (0,S) else if t=⟨#[]⟩ then (0,S.set i 0 0 ⟨#[]⟩ ⟨#[]⟩) else if S.free≤20 then (if (S.ae kb kt).1.2.2≠0 then ((S.ae kb kt).1.2.2,(S.ae kb kt).2) else (S.ae kb kt).2.put kb i (-1) t) else S.put kb i (-1) t:=by
  unfold Vs.write;rw[if_neg (by rw[h.dead];decide),if_neg (by omega),if_neg (by omega),Int.toNat_natCast]
 rw[he];by_cases h1:t=S.X i
 ·rw[if_pos h1,if_pos (Or.inl h1)];rfl
 rw[if_neg h1];by_cases h2:t=⟨#[]⟩
 ·rw[if_pos h2,if_pos (Or.inr h2)];rfl
 rw[if_neg h2,a0s h.c16,if_neg (by omega),if_neg (fun e=>e.elim h1 h2)];obtain⟨z,_,wJ,KV,_,hp⟩:=tK h (by omega) kb i (-1) (Or.inl (by omega)) t;rw[hp];exact rC _ _ _ wJ
theorem Cw:∀(cs:List Int) (t:ByteArray) (S:Vs) (n:Int) (k:Nat),Vl.Good kb kt S n→Ph S k→k+cs.length<108→n+cs.length<1000000000→(∀c ∈ cs,0≤c∧c<24)→tot (eZ kb kt cs t S).2.D=tot S.D+oW cs t S.X
 | [],t,S,n,k,hg,hp,_,_,_=>rfl
 | c'::r,t,S,n,k,hg,hp,hk,hn,hc=>by
  rw[List.length_cons] at hk hn;have h0:=hc c' List.mem_cons_self;obtain⟨j,rfl⟩:∃j:Nat,c'=j:=⟨c'.toNat,by omega⟩
  have htt:=Fl.Ph.Qm hp;obtain⟨a1,a2,a3,a4,a5⟩:=qh hg (by omega) hp (by omega) j (by omega) (t.extract 0 (min t.size 80)) (Fl.jR t);have b:=Nn (kb:=kb) (kt:=kt) hg.on (by omega) j (by omega) (t.extract 0 (min t.size 80)) (Fl.jR t);rw[Fl.ym kb kt _ r t S a1,Cw r _ _ (n+1) (k+1) a2 a3 (by omega) (by omega) (fun c'' hc''=>hc c'' (List.mem_cons_of_mem _ hc'')),b,a4,oW,Int.toNat_natCast];omega
structure Rn (kb kt:ByteArray) (S:Vs) (l:List Fi) (n:Int) (k:Nat) (c:Int) (T:Tb) (X:Nat→ByteArray):Prop where
 FB:Me kb kt S l n k
 su:rO kb kt S.D c T X
 ws:S.D.ws=[]
 sc:S.c=c
 le:∀z,z<8→S.D.sure z≤S.D.cnt z
theorem Kh (cs:List Int) (t:ByteArray) (h:Vl.Good kb kt S n) (hp:Ph S k) (hk:k+cs.length<108) (hn:n+cs.length<1000000000) (hc:∀c ∈ cs,0≤c∧c<24) (hsu:rO kb kt S.D c T X) (hw:S.D.ws=[]) (hs:∀z,z<8→S.D.sure z≤S.D.cnt z) :
  (eZ kb kt cs t S).1=0∧Vl.Good kb kt (eZ kb kt cs t S).2 (n+cs.length)∧Ph (eZ kb kt cs t S).2 (k+cs.length)∧(eZ kb kt cs t S).2.X=vJ cs t S.X∧tot (eZ kb kt cs t S).2.D=tot S.D+oW cs t S.X∧rO kb kt (eZ kb kt cs t S).2.D c T X∧(eZ kb kt cs t S).2.D.ws=[]∧(eZ kb kt cs t S).2.c=S.c∧∀z,z<8→(eZ kb kt cs t S).2.D.sure z≤(eZ kb kt cs t S).2.D.cnt z:=by
 obtain⟨a1,a2,a3,a4,_⟩:=Fl.nQ cs t S n k h hp (by omega) hn hc;obtain⟨b1,b2,b3,b4⟩:=Fl.EB cs t S n k h hp hk hn hc hs hsu hw;exact⟨a1,a2,a3,a4,Cw cs t S n k h hp hk hn hc,b1,b2,b3,b4⟩
theorem VA:∀c ∈ ([0,1,2]:List Int),0≤c∧c<24:=by decide
theorem Cx {s t:ByteArray} (h:Rn kb kt S l n k c T X) (hk:k+24<108) (hn:n+24<900000000) (hnm:En.aP s.data.toList=true) (hf:dQ l s t=false) (hp:bR kb kt S l s t r S' l') :
  r=0∧Rn kb kt S' l' (n+24) (k+24) c T X∧(∀u,aV S'.X l' u=if u=s then some t.data.toList else aV S.X l u)∧(aH l s++[iK l s t]).Perm l'∧gH l'∧S'.X=vJ [0,1,2] ⟨(En.print l').toArray⟩ (vJ (ax l s t) t S.X)∧tot S'.D=tot S.D+oW (ax l s t) t S.X+oW [0,1,2] ⟨(En.print l').toArray⟩ (vJ (ax l s t) t S.X):=by
 obtain⟨hl1,hl2⟩:=Fl.yo hf;have hcs:∀c ∈ ax l s t,0≤c∧c<24:=fun c hc=>by have:=(Fl.oH hc).1;omega
 obtain⟨a1,a2,a3,a4,a5,a6,a7,a8,a9⟩:=Kh (ax l s t) t h.FB.good h.FB.ph (by omega) (by omega) hcs h.su h.ws h.le;rcases hp with⟨h1,_⟩ | ⟨_,h1,_⟩ | ⟨_,_,h1,_⟩ | ⟨_,_,_,l1,p1,p2,p3,p4,p5,p6⟩
 ·rw[hnm] at h1;cases h1
 ·rw[hf] at h1;cases h1
 ·exact absurd a1 h1
 obtain⟨q1,q2,q3,q4,q5⟩:=Fl.Uv h.FB (by omega) (by omega) hnm hf p1 p2;rw[q2] at p3;obtain rfl:=p5 p3;unfold Fl.bC at *;obtain⟨b1,b2,b3,b4,b5,b6,b7,b8,b9⟩:=Kh (c:=c) (T:=T) (X:=X) [0,1,2] ⟨(En.print l').toArray⟩ a2 a3 (by simp;omega) (by simp;omega) VA a6 a7 a9;rw[←p4] at *;refine⟨p3,⟨q3.le (by omega) (by omega),b6,b7,b8.trans (a8.trans h.sc),b9⟩,q4,p1,p2,by rw[b4,a4],by rw[b5,a5,a4]⟩
theorem VB {s:ByteArray} (h:Me kb kt S l n k) (hk:k+24<108) (hn:n+24<900000000) (hin:∃f ∈ l,f.nm=s) (hd:bT kb kt S l s r S' l'):r=0∧l'=aH l s∧Vl.Good kb kt S' (n+24)∧tot S'.D≤tot S.D+3:=by
 rcases hd with⟨h1,_⟩ | ⟨_,h1,h2,h3,_⟩
 ·obtain⟨f,hf,hfn⟩:=hin;exact absurd hfn (h1 f hf)
 obtain⟨a2,a3,a4,a5⟩:=Fl.Uw h (by omega) (by omega) s;rw[a2] at h1;have ht:=Cw (kb:=kb) (kt:=kt) [0,1,2] ⟨(En.print (aH l s)).toArray⟩ S n k h.good h.ph (by simp;omega) (by simp;omega) VA;refine⟨h1,h3 h1,by rw[h2];exact a3.good,?_⟩;have hle:∀(cs:List Int) (t:ByteArray) (X:Nat→ByteArray),oW cs t X≤cs.length:=by
  intro cs;induction cs with
  | nil=>intro t X;exact Nat.le_refl _
  | cons c r ih=>
   intro t X;have:=ih (t.extract (min t.size 80) t.size) (fq X c.toNat (t.extract 0 (min t.size 80)));rw[oW,List.length_cons];split<;>omega
 have h3:=hle [0,1,2] ⟨(En.print (aH l s)).toArray⟩ S.X;have hl3:([0,1,2]:List Int).length=3:=rfl;rw[hl3] at h3;rw[h2];show tot (eZ kb kt [0,1,2] ⟨(En.print (aH l s)).toArray⟩ S).2.D≤_
 rw[ht];omega
theorem Np (h:Rn kb kt S l n k c T X) (hn:n+24<900000000):(S.flush kt).1=0∧Rn kb kt (S.flush kt).2 l (n+1) k (c+1) (S.flush kt).2.T (S.flush kt).2.X∧(S.flush kt).2.T.count=c+1∧(S.flush kt).2.X=S.X∧tot (S.flush kt).2.D=tot S.D:=by
 obtain⟨h1,h2,h3,h4,h5,h6⟩:=OX h.FB.good (by omega) h.FB.ph;obtain⟨s1,s2⟩:=GY h.FB.good (by omega);have hcn:=(iC h.FB.good.on kt).2.2.1;have hc:(S.flush kt).2.c=c+1:=by rw[h5,h.sc]
 refine⟨h1,⟨⟨h2,h3,h.FB.right,by rw[h4];exact h.FB.dir⟩,by rw[←hc];exact s1,s2,hc,fun z hz=>?_⟩,by rw[h2.ok.cnt,hc],h4,by unfold tot;rw[hcn]⟩;rw[rE h.FB.good.on kt];exact Nat.le_of_eq ((rG _).2.2.2.2 z hz)
theorem Nq {ay:ByteArray} {f:uT} (h:dL ay mr 0 f r):f=.op (fresh mr 0) []:=by
 obtain⟨r0,S,ho,hx⟩:=h;have ho':Br (bz ay) (aT ay) mr 0 r0 S:=ho;have hg:=qi (bz ay) (aT ay);obtain⟨h0,_,_,_,h4,_,_⟩:=tL hg.2.2 hg.1.low ho';obtain rfl:=h4 rfl;have hp:En.parse (bf (fresh mr 0).X [0,1,2])=some []:=(En.oG _ _).2 ⟨rfl,rfl⟩;rcases hx with⟨h1,_⟩ | ⟨_,h1,_⟩ | ⟨_,l,h1,_,h2⟩
 ·exact absurd h0 h1
 ·rw[hp] at h1;cases h1
 rw[hp] at h1;injection h1 with h1
 subst h1;exact h2
theorem Rs (kb kt:ByteArray):Rn kb kt (fresh mr 0) [] 0 0 0 Tb.zero (fun _=>⟨#[]⟩):=⟨Fl.Mh kb kt,⟨Or.inl ⟨rfl,fun _ _=>rfl⟩,fun k hk=>by
 have e:(fresh mr 0).D.slot k=fun _=>0:=rfl
 rw[e,JE];exact Int.le_refl 0⟩,rfl,rfl,fun z hz=>Nat.le_refl 0⟩
theorem yL {X Y:Nat→ByteArray} (h:∀i,i<24→X i=Y i) {cs:List Int} (hc:∀c ∈ cs,0≤c∧c<24):bf X cs=bf Y cs:=Fl.qy (fun c hcc=>h _ (by have:=hc c hcc;omega))
theorem Nr {ay s:ByteArray} {m:Int} {f:uT} {D:Dv} (h16:c16 D) (hsc:∀z,z<8→D.sure z≤D.cnt z) (hsu:rO (bz ay) (aT ay) D c T X) (hw:D.ws=[]) (hc:0<c) (hr:En.right l=true) (hd:bf X [0,1,2]=En.print l) (h:dL ay (iM D m s) c f r) :
  r=0∧∃S,f=.op S l∧S.T.count=c∧Me (bz ay) (aT ay) S l (c+1) (tot D+24)∧(∀i,i<24→S.X i=X i)∧tot S.D≤tot D:=by
 obtain⟨r0,S,ho,hx⟩:=h;have ho':Br (bz ay) (aT ay) (iM D m s) c r0 S:=ho;obtain⟨ht,hlow⟩:=GZ hsu hw 8 (fun _=>m) (slots s).length (fun j=>(slots s).getD j false);obtain⟨h0,h1,h2,h3,_,h5,h6⟩:=tL ht hlow ho';obtain⟨h7,h8,h9⟩:=h5 (by omega);have hok:=Fl.eB.ok' ho (EN D m s) (by omega) h0;have hp:En.parse (bf S.X [0,1,2])=some l:=by
  rw[yL h6 VA];exact(En.oG _ _).2 ⟨hr,hd.symm⟩
 have hcnt:∀z,z<8→(iM D m s).cnt z≤D.cnt z:=fun z hz=>by
  unfold iM;rw[uJ _ _ _ _ _ _ hz];exact wY _ _ _ (hsc z hz)
 have htot:tot (iM D m s)≤tot D:=by
  have q0:=hcnt 0 (by omega);have q1:=hcnt 1 (by omega);have q2:=hcnt 2 (by omega);have q3:=hcnt 3 (by omega);have q4:=hcnt 4 (by omega);have q5:=hcnt 5 (by omega);have q6:=hcnt 6 (by omega);have q7:=hcnt 7 (by omega);unfold tot;omega
 have TP:JD (bz ay) S.D S.D.cnt S.T S.X:=fun i hi=>by
  rcases ht with⟨e,_⟩ | ⟨_,_,_,_,hl,_⟩
  ·omega
  have g:=(hl i hi).same h7.symm hi;rw[h1];unfold At at g ⊢;rw[h6 i hi];exact g
 have hgood:Vl.Good (bz ay) (aT ay) S (c+1):=⟨⟨h3,by rw[h1];exact(pq D _ _ _ _).1,fun z hz=>by rw[h1];exact Nat.le_trans (hcnt z hz) (h16 z hz)⟩,hok,TP,by rw[h1,h2];exact hlow⟩
 rcases hx with⟨e,_⟩ | ⟨_,e,_⟩ | ⟨_,l1,e,e2,e3⟩
 ·exact absurd h0 e
 ·rw[hp] at e;cases e
 rw[hp] at e;injection e with e
 subst e;exact⟨e2,S,e3,by rw[hok.cnt,h2],⟨hgood,Or.inr (Or.inr (by rw[h1];exact Nat.add_le_add_right htot 24)),hr,by rw[yL h6 VA];exact hd⟩,h6,by rw[h1];exact htot⟩
theorem AB {f g:Nat→Int} (h:∀i,i<8→f i<16):∀k,k≤8→dP f g k=none
 | 0,_=>rfl
 | k+1,hk=>by
  have:=h k (by omega);rw[dP,if_neg (by omega)];exact AB h k (by omega)
theorem zy (h:S.on) (ht:tot S.D<16):S.ae kb kt=((0,false,0),S):=by
 have hv:dP S.kI S.live 8=none:=AB (fun i hi=>by
  show (S.D.cnt i:Int)<16
  have:S.D.cnt i≤tot S.D:=by
   unfold tot
   match i,hi with
   | 0,_=>omega
   | 1,_=>omega
   | 2,_=>omega
   | 3,_=>omega
   | 4,_=>omega
   | 5,_=>omega
   | 6,_=>omega
   | 7,_=>omega
  omega) 8 (Nat.le_refl _)
 unfold Vs.ae;rw[if_neg (by rw[h.dead];decide),hv]
end
end Dk
end Go.Proofs.YtmhcfaaggkidjaaGreatDoor
end
section
namespace Go.Proofs.YtmhcfaaggkidjaaGreatDoor
set_option maxRecDepth 100000
namespace Dk
open Go.RowKit Go.Sort Go.Shelf
open En (Fi)
open Vl
open Tw (Tb Same)
open Fl (bR bT bf Me eZ vJ ax iK aH dQ aV gH bC)
def mq:ByteArray:=ll cX 100
def fA:Fi:=iK [] nA mq
def fB:Fi:=iK [fA] nB ⟨#[]⟩
theorem a0S:ll cY 0=⟨#[]⟩:=by kernel_rfl
theorem WN:En.aP nA.data.toList=true:=by kernel_rfl
theorem WO:En.aP nB.data.toList=true:=by kernel_rfl
theorem a0T:dQ [] nA mq=false:=by kernel_rfl
theorem WP:dQ [fA] nB ⟨#[]⟩=false:=by kernel_rfl
theorem a0U:dQ [fA,fB] nA (ll cZ 1)=false:=by kernel_rfl
theorem a0V:aH [fA] nB=[fA]:=by kernel_rfl
theorem a0W:aH [fA,fB] nA=[fB]:=by kernel_rfl
def X0:Nat→ByteArray:=fun _=>⟨#[]⟩
def X1:Nat→ByteArray:=vJ [0,1,2] ⟨(En.print [fA]).toArray⟩ (vJ (ax [] nA mq) mq X0)
theorem a0X:oW (ax [] nA mq) mq X0=2:=by kernel_rfl
theorem a0Y:oW [0,1,2] ⟨(En.print [fA]).toArray⟩ (vJ (ax [] nA mq) mq X0)=1:=by kernel_rfl
theorem a0Z:oW (ax [fA] nB ⟨#[]⟩) ⟨#[]⟩ X1=0:=by kernel_rfl
theorem a1a:oW [0,1,2] ⟨(En.print [fA,fB]).toArray⟩ (vJ (ax [fA] nB ⟨#[]⟩) ⟨#[]⟩ X1)=1:=by kernel_rfl
theorem a1b:(ax [fA,fB] nA (ll cZ 1)).length=1:=by kernel_rfl
theorem VC (f g:Fi) (hf:f.nm=nA) (hg:g.nm=nB):gH [f,g]:=by
 unfold gH;rw[List.pairwise_cons];refine⟨fun x hx=>?_,List.pairwise_singleton _ _⟩;rw[List.mem_singleton] at hx;subst hx;rw[hf,hg,bytesLess_eq,Lib.toList_data,Lib.toList_data];decide
theorem a1c:¬eY cX 100:=by unfold eY;decide
theorem a1d:¬eY cY 0:=by unfold eY;decide
theorem a1e:¬eY cZ 1:=by unfold eY;decide
theorem YD:fw (0,EK)++nl++(fw (0,EK)++nl++(fw (0,told sG 124)++nl++(fw (0,told lY 1)++nl++(fw (0,EK)++nl++(fw (0,told kG 1)++nl++(fw (0,dm (ik::[nA,nB]))++nl++(fw (0,⟨#[103,101,116,32,48,32,101,51,98,48,99,52,52,50]⟩)++nl++(fw (0,Qs)++nl++(fw (0,dm (ik::[nB]))++nl++(fw (0,qC (0,false,0))++nl++(fw (3,⟨#[]⟩)++nl++⟨#[]⟩)))))))))))=Ni:=by kernel_rfl
theorem Jb:∀(cs:List Int) (t:ByteArray) (X:Nat→ByteArray),oW cs t X≤cs.length
 | [],t,X=>Nat.le_refl _
 | c::r,t,X=>by
  have:=Jb r (t.extract (min t.size 80) t.size) (fq X c.toNat (t.extract 0 (min t.size 80)));rw[oW,List.length_cons];split<;>omega
theorem Cy {ay:ByteArray} {im:Im} {S:Vs} {l:List Fi} {s t:ByteArray} {k:Int} {Z':Sn} {a:qM} (hb:¬eY t k) (h:vK s t k ⟨ay,im,.op S l⟩ Z' a):∃r S' l',bR (bz ay) (aT ay) S l s (ll t k) r S' l'∧Z'=⟨ay,im,.op S' l'⟩∧a=(r,EK):=by
 rcases h with⟨h,_⟩ | ⟨_,h⟩
 ·exact absurd h hb
 exact h
theorem VD {t:ByteArray} (h:zx Rm t):t=Ni:=by
 obtain⟨f,r,Z',hre,hL⟩:=h;rw[Nj] at hL;generalize dw ⟨#[]⟩=ay at *;obtain rfl:=Nq hre;have R0:=Rs (bz ay) (aT ay)
 -- put a 100 x
 obtain⟨Z1,a1,t1,g,hL,rfl⟩:=hL;rw[yK] at g;obtain⟨r1,S1,l1,p1,rfl,rfl⟩:=Cy a1c g;obtain⟨rfl,R1,y1,q1,i1,x1,n1⟩:=Cx R0 (by omega) (by omega) WN a0T p1;obtain rfl:l1=[fA]:=List.perm_singleton.1 q1.symm;have x1':S1.X=X1:=x1;have n1':tot S1.D=3:=by
  rw[n1];show 0+oW (ax [] nA mq) mq X0+oW [0,1,2] ⟨(En.print [fA]).toArray⟩ (vJ (ax [] nA mq) mq X0)=3
  rw[a0X,a0Y]
 clear p1 q1 i1 x1 n1 g R0
 -- put b 0 y
 obtain⟨Z2,a2,t2,g,hL,rfl⟩:=hL;rw[Ct] at g;obtain⟨r2,S2,l2,p2,rfl,rfl⟩:=Cy a1d g;rw[a0S] at p2;obtain⟨rfl,R2,y2,q2,i2,x2,n2⟩:=Cx R1 (by omega) (by omega) WO WP p2;have hfit:=Fl.sw ((Fl.aX _).1 R1.FB.right).1 WO WP;rw[a0V] at hfit q2;obtain rfl:l2=[fA,fB]:=hfit.uniq q2 (List.Perm.refl _) i2 (VC _ _ rfl rfl);have n2':tot S2.D=4:=by
  rw[n2,n1',x1',a0Z,a1a]
 have y2':aV S2.X [fA,fB] nB=some []:=by rw[y2,if_pos rfl]
 clear p2 q2 i2 x2 n2 g hfit y1 y2 R1 x1' n1'
 -- free
 obtain⟨Z3,a3,t3,g,hL,rfl⟩:=hL;rw[Vz] at g;obtain⟨rfl,rfl⟩:=g;have hfr:S2.free=124:=by rw[a0s R2.FB.good.on.c16,n2'];rfl
 rw[hfr];clear hfr
 -- flush
 obtain⟨Z4,a4,t4,g,hL,rfl⟩:=hL;rw[Ro] at g;obtain⟨rfl,rfl⟩:=g;obtain⟨e1,R3,e2,e3,e4⟩:=Np R2 (by omega);have e1':(S2.flush (aT (⟨ay,sS,.op S2 [fA,fB]⟩:Sn).ay)).1=0:=e1;have e2':(S2.flush (aT (⟨ay,sS,.op S2 [fA,fB]⟩:Sn).ay)).2.T.count=1:=e2;rw[e1',e2'];have y3:aV (S2.flush (aT ay)).2.X [fA,fB] nB=some []:=by rw[e3];exact y2'
 have hL':mi _ ⟨ay,sS,.op (S2.flush (aT ay)).2 [fA,fB]⟩ Z' t4:=hL;clear e1' e2' e1 e2 y2' hL;rw[n2'] at e4;clear n2' R2;generalize (S2.flush (aT ay)).2=S3 at *;clear e3
 -- put a 1 z
 obtain⟨Z5,a5,t5,g,hL,rfl⟩:=hL';rw[Cu] at g;obtain⟨r4,S4,l4,p4,rfl,rfl⟩:=Cy a1e g;obtain⟨rfl,R4,y4,q4,i4,x4,n4⟩:=Cx R3 (by omega) (by omega) WN a0U p4;have n4':tot S4.D≤8:=by
  have u1:=Jb (ax [fA,fB] nA (ll cZ 1)) (ll cZ 1) S3.X;have u2:=Jb [0,1,2] ⟨(En.print l4).toArray⟩ (vJ (ax [fA,fB] nA (ll cZ 1)) (ll cZ 1) S3.X);rw[a1b] at u1;have u3:([0,1,2]:List Int).length=3:=rfl;rw[u3] at u2;omega
 clear p4 g q4 i4 x4 n4 y4
 -- crash 0 0
 obtain⟨Z6,a6,t6,g,hL,rfl⟩:=hL;rw[Cv] at g;obtain⟨f5,r5,c1,rfl,rfl⟩:=g;have c1':dL ay (iM S4.D 0 c0) (0+1) f5 r5:=by
  rw[←R4.sc];exact c1
 obtain⟨rfl,S5,rfl,c2,R5,c3,c4⟩:=Nr R4.FB.good.on.c16 R4.le R4.su R4.ws (by omega) R3.FB.right R3.FB.dir c1';have c2':(uT.op S5 [fA,fB]).count=1:=c2;rw[c2'];have y5:aV S5.X [fA,fB] nB=some []:=by
  rw[←y3];exact Fl.nP (fun f hf=>yL c3 (fun c hc=>by have:=Fl.sD R3.FB.right hf hc;omega)) nB
 clear c1 c1' c2 c2' c3 y3
 -- list
 obtain⟨Z7,a7,t7,g,hL,rfl⟩:=hL;rw[Kg] at g;obtain⟨rfl,rfl⟩:=g
 -- get b
 obtain⟨Z8,a8,t8,g,hL,rfl⟩:=hL;rw[Rp] at g;obtain⟨rfl,g⟩:=g;have g':a8=(match aV S5.X [fA,fB] nB with | none=>((7,⟨#[]⟩):qM) | some t=>(0,jd ⟨t.toArray⟩)):=g;rw[y5] at g';have g2:a8=(0,jd ⟨#[]⟩):=g';rw[Nk] at g2;subst g2;clear g g' y5
 -- del a
 obtain⟨Z9,a9,t9,g,hL,rfl⟩:=hL;rw[Rq] at g;obtain⟨r6,S6,l6,p6,rfl,rfl⟩:=g;obtain⟨rfl,el,R6,n6⟩:=VB R5 (by omega) (by omega) ⟨fA,by simp,rfl⟩ p6;obtain rfl:l6=[fB]:=el.trans a0W;clear p6
 -- list
 obtain⟨Z10,a10,t10,g,hL,rfl⟩:=hL;rw[Kg] at g;obtain⟨rfl,rfl⟩:=g
 -- ae
 obtain⟨Z11,a11,t11,g,hL,rfl⟩:=hL;rw[Ja] at g;obtain⟨rfl,rfl⟩:=g;have hrc:S6.ae (bz (⟨ay,sS,.op S6 [fB]⟩:Sn).ay) (aT (⟨ay,sS,.op S6 [fB]⟩:Sn).ay)=((0,false,0),S6):=zy R6.on (by omega);rw[hrc] at *
 -- x
 obtain⟨Z12,a12,t12,g,hL,rfl⟩:=hL;rw[a3L] at g;obtain⟨rfl,rfl⟩:=g;obtain⟨rfl,rfl⟩:=hL;exact YD
theorem zx.a1f {f:uT} {r:Int} {ay:ByteArray} {D:Dv} {c:Int} (h:dL ay D c f r):Zr ⟨ay,sS,f⟩:=⟨h.zr,Iy⟩
theorem VE (a:List UInt8):Lib.hasSuffix (a++[10]) [10]=true:=by
 rw[←Lib.hasSuffix_of_drop];simp
theorem Fp (a:List UInt8):Lib.trimSuffix (a++[10]) [10]=a:=by
 unfold Lib.trimSuffix;rw[VE,if_pos rfl];simp
theorem Ru (a b:List UInt8):∃L,aL (Lib.trimSuffix (a++[10]++b) [10])=aL a++L:=by
 by_cases hb:b=[]
 ·subst hb;rw[List.append_nil,Fp];exact⟨[],(List.append_nil _).symm⟩
 obtain⟨c,x,rfl⟩:∃c x,b=c++[x]:=⟨b.dropLast,b.getLast hb,(List.dropLast_concat_getLast hb).symm⟩
 unfold Lib.trimSuffix;split
 ·refine⟨aL c,?_⟩;rw[←qJ]
  congr 1
  rw[show a++[10]++(c++[x])=(a++10::c)++[x] by simp,show (a++10::c++[x]).length-([10]:List UInt8).length=(a++10::c).length by simp];exact List.take_left
 exact⟨aL (c++[x]),by rw[←qJ];simp⟩
theorem Rv {a b x y:ByteArray} (hx:zx (a++⟨#[10]⟩) x) (hy:zx (a++⟨#[10]⟩++b) y):∃z,y=x++z:=by
 obtain⟨f,r,Z1,h1,h2⟩:=hx;obtain⟨f',r',Z2,h3,h4⟩:=hy;obtain⟨rfl,rfl⟩:=h1.one h3;have e1:(a++⟨#[10]⟩:ByteArray).data.toList=a.data.toList++[10]:=by simp
 have e2:(a++⟨#[10]⟩++b:ByteArray).data.toList=a.data.toList++[10]++b.data.toList:=by simp
 rw[e1,Fp] at h2;rw[e2] at h4;obtain⟨L,hL⟩:=Ru a.data.toList b.data.toList;rw[hL,List.map_append] at h4;obtain⟨Z3,t1,t2,k1,k2,rfl⟩:=(oK _ _ _ _ _).1 h4;obtain⟨_,rfl,_⟩:=AA _ _ _ _ _ _ (zx.a1f h1) h2 k1;exact⟨t2,rfl⟩
end Dk
end Go.Proofs.YtmhcfaaggkidjaaGreatDoor
end
section
namespace Go.Proofs.YtmhcfaaggkidjaaGreatDoor
set_option maxRecDepth 100000
namespace Dk
open Go.RowKit Go.Shelf
attribute [local go_sem] Oper.semAt_some
open Vl
theorem VF (s:List UInt8):(Lib.trimSuffix s [10]).length≤s.length:=by
 unfold Lib.trimSuffix;split
 ·rw[List.length_take];omega
 exact Nat.le_refl _
theorem Rw (s:ByteArray) (hs:s.size≤100000) (w:World):Calls Tryz.prog 15 #[.string s,.string ⟨#[10]⟩] w fun e w'=>e=.returned (.string ⟨(Lib.trimSuffix s.data.toList [10]).toArray⟩)∧w'=w:=Tryz.strings_TrimSuffix s ⟨#[10]⟩ w (by omega)
set_option maxHeartbeats 8000000 in
theorem Fq (w:World) (G:Gr w) (text:ByteArray) (ht:text.size≤4000):Calls Tryz.prog 5 #[.string text] w fun e w'=>∃t,zx text t∧e=.returned (.string t)∧Since w w':=by
 have HG:Hid (Gr w):=G;have hlen:decide ((20000:Int)<(text.size:Int))=false:=decide_eq_false (by omega);have a5h:decide ((text.size:Int) > 20000)=false:=decide_eq_false (by omega);obtain⟨m,hm⟩:=G.lb.max;have hgl:=World.block_lt_of_cell? _ _ hm;have SE:Hid (w.cell? ⟨1,0,none⟩=some (.int .i64 m)∧1<w.heap.size):=⟨hm,hgl⟩
 have hrl:(Lib.trimSuffix text.data.toList [10]).length≤4000:=by
  have:=VF text.data.toList;rw[Array.length_toList] at this;exact Nat.le_trans this ht
 have Xp:Hid (∀W,Calls Tryz.prog 15 #[.string text,.string ⟨#[10]⟩] W fun e w'=>e=.returned (.string ⟨(Lib.trimSuffix text.data.toList [10]).toArray⟩)∧w'=W):=fun W=>Rw text (by omega) W
 have Xe:Hid (∀t,(∃f r Z',dL (dw ⟨#[]⟩) mr 0 f r∧mi ((aL (Lib.trimSuffix text.data.toList [10])).map Zh) ⟨dw ⟨#[]⟩,sS,f⟩ Z' t)→zx text t):=fun t h=>h
 generalize Lib.trimSuffix text.data.toList [10]=rs at *;have ZP:Hid (rs.length≤4000):=hrl;clear G hm hgl hrl ht;refine(callsIn_wide (n:=6)).1 ?_;refine callsIn_of_wp_marks Tryz.func5 rfl trivial ?_ rfl;simp only[Tryz.ntmps5,List.size_toArray,List.length_cons,List.length_nil,Nat.reduceAdd,Nat.reduceSub,Array.replicate_succ,Array.replicate_zero,List.push_toArray,List.append_toArray,List.nil_append,List.cons_append]
 gi_wp2
 refine⟨trivial,?_⟩;refine(callsIn_wide.2 (EO w HG.out)).mono ?_;rintro e w1 ⟨sb,f,r0,P,rfl,hre,hse,hlo⟩;have Ww:Hid (dL (dw ⟨#[]⟩) mr 0 f r0∧eu (num w 0) w1 P sb ⟨dw ⟨#[]⟩,sS,f⟩ 1):=⟨hre,hse⟩
 clear hre hse hlo
 gi_wp2
 refine⟨trivial,?_⟩;refine(callsIn_wide.2 (sM sb w1)).mono ?_;rintro e w2 ⟨r,rfl,hr,hmap,XN⟩;have HR:Hid (w1.heap.size≤r∧w2.heap[r]?=some (.map (mG 0 (dx sb)).toArray 18)∧Since w1 w2∧r<w2.heap.size):=⟨hr,hmap,XN,(Array.getElem?_eq_some_iff.1 hmap).1⟩
 clear hr hmap XN
 gi_wp2
 refine⟨trivial,?_⟩;refine(callsIn_wide.2 (Xp.out _)).mono ?_;rintro e w3 ⟨rfl,hw3⟩;rw[hw3];clear hw3 w3
 gi_wp2
 refine⟨trivial,?_⟩;refine(callsIn_wide.2 (Cs ⟨rs.toArray⟩ ⟨#[10]⟩ _)).mono ?_;rintro e w4 ⟨rfl,hw4⟩;rw[hw4];clear hw4 w4;have b1:=Boxed.new w2 33 (.map (some r));obtain⟨Wa,hWa⟩:∃Wa,w2.alloc (.cells #[.map (some r)] 33)=Wa:=⟨_,rfl⟩
 have za:Wa.heap.size=w2.heap.size+1:=by rw[←hWa];exact World.size_alloc _ _
 have b2:(Wa.alloc (.cells #[.pointer none,.slice none 0 0] 40)).heap[w2.heap.size+1]?=some (.cells #[.pointer none,.slice none 0 0] 40 (0,0)):=by rw[←za];exact heap_alloc_new _ _
 have sa:Since w2 Wa:=by rw[←hWa];exact(Since.refl _).alloc _
 rw[hWa] at b1;simp only[hWa];obtain⟨Wb,hWb⟩:∃Wb,Wa.alloc (.cells #[.pointer none,.slice none 0 0] 40)=Wb:=⟨_,rfl⟩
 have zb:Wb.heap.size=w2.heap.size+1+1:=by rw[←hWb,World.size_alloc,za]
 have sb2:Since Wa Wb:=by rw[←hWb];exact(Since.refl _).alloc _
 rw[hWb] at b2;simp only[hWb];have b3:=Boxed.new Wb 9 (.string ⟨rs.toArray⟩);obtain⟨Wc,hWc⟩:∃Wc,Wb.alloc (.cells #[.string ⟨rs.toArray⟩] 9)=Wc:=⟨_,rfl⟩
 have zc:Wc.heap.size=Wb.heap.size+1:=by rw[←hWc];exact World.size_alloc _ _
 have sc:Since Wb Wc:=by rw[←hWc];exact(Since.refl _).alloc _
 rw[hWc] at b3;simp only[hWc];have b4:=Boxed.new Wc 9 (.string ⟨#[10]⟩);obtain⟨Wd,hWd⟩:∃Wd,Wc.alloc (.cells #[.string ⟨#[10]⟩] 9)=Wd:=⟨_,rfl⟩
 have zd:Wd.heap.size=Wc.heap.size+1:=by rw[←hWd];exact World.size_alloc _ _
 have sd:Since Wc Wd:=by rw[←hWd];exact(Since.refl _).alloc _
 rw[hWd] at b4;simp only[hWd];have b5:=Boxed.new Wd 3 (.int .i64 0);obtain⟨We,VX⟩:∃We,Wd.alloc (.cells #[.int .i64 0] 3)=We:=⟨_,rfl⟩
 have ze:We.heap.size=Wd.heap.size+1:=by rw[←VX];exact World.size_alloc _ _
 have se:Since Wd We:=by rw[←VX];exact(Since.refl _).alloc _
 rw[VX] at b5;simp only[VX];rw[zc] at b4;rw[zd,zc] at b5;have c1:Boxed We w2.heap.size 33 (.map (some r)):=(se.block _ (by omega)).trans ((sd.block _ (by omega)).trans ((sc.block _ (by omega)).trans ((sb2.block _ (by omega)).trans b1)));have c2:We.heap[w2.heap.size+1]?=some (.cells #[.pointer none,.slice none 0 0] 40 (0,0)):=(se.block _ (by omega)).trans ((sd.block _ (by omega)).trans ((sc.block _ (by omega)).trans b2));have c3:Boxed We Wb.heap.size 9 (.string ⟨rs.toArray⟩):=(se.block _ (by omega)).trans ((sd.block _ (by omega)).trans b3);have c4:Boxed We (Wb.heap.size+1) 9 (.string ⟨#[10]⟩):=(se.block _ (by omega)).trans b4;have s2e:Since w2 We:=sa.trans (sb2.trans (sc.trans (sd.trans se)));have s1e:Since w1 We:=HR.out.2.2.1.trans s2e;have s0:Since w w1:=(lm w 0).trans Ww.out.2.gp
 have hbx:IY (Wb.heap.size+1) Wb.heap.size (Wb.heap.size+1+1) m We rs:=⟨c4,c3,b5,⟨by omega,by omega,by have:=SE.out.2;have:=s0.size;have:=HR.out.2.2.1.size;omega⟩,((s0.trans s1e).cell (p:=⟨1,0,none⟩) SE.out.2).trans SE.out.1⟩
 have hsi:SI (num w We.heap.size) sb r w2.heap.size (w2.heap.size+1) Wb.heap.size w1.heap.size We.heap.size ⟨dw ⟨#[]⟩,sS,f⟩ [] We:=by
  have hr4:=HR.out;have hz:=hr4.2.2.1.size;refine⟨_,⟨#[]⟩,P,1,.slice none 0 0,⟨rfl,rfl⟩,⟨Ww.out.1.zr,Iy⟩,(Ww.out.2.go s1e).num (Nat.le_refl _),⟨by decide,by decide⟩,⟨by omega,⟨_,.inl rfl,c2⟩,zq.nil _ _,by simp[Value.ownBlock]⟩,Nat.le_refl _,c1,(s2e.block r hr4.2.2.2).trans hr4.2.1,fun k h1 _ hp=>by have:=Ww.out.2.oU k hp;omega,fun k hk=>by simp[Value.ownBlock] at hk,⟨_,c3⟩,?_⟩;have:=s0.size;exact⟨this,hr4.1,hz,by omega,by omega,by omega,by omega,by omega,by omega,by omega,by omega,by omega,by omega,rfl⟩
 have ma:Hid (IY (Wb.heap.size+1) Wb.heap.size (Wb.heap.size+1+1) m We rs∧SI (num w We.heap.size) sb r w2.heap.size (w2.heap.size+1) Wb.heap.size w1.heap.size We.heap.size ⟨dw ⟨#[]⟩,sS,f⟩ [] We):=⟨hbx,hsi⟩
 have JL:Hid (We.heap.size=Wb.heap.size+1+1+1∧Wb.heap.size=w2.heap.size+1+1∧w.heap.size≤w1.heap.size∧w1.heap.size≤w2.heap.size∧1<We.heap.size):=⟨by omega,by omega,s0.size,HR.out.2.2.1.size,by have:=SE.out.2;have:=s0.size;have:=HR.out.2.2.1.size;omega⟩
 clear hbx hsi b1 b2 b3 b4 b5 c1 c2 c3 c4 hWa hWb hWc hWd VX sa sb2 sc sd se za zc zd ze s2e s1e s0;rw[zb] at ma JL ⊢
 gi_wp2
 refine Fj (n:=6) (xs:=aL rs) (Bp:=w2.heap.size+1+1+1) (Bs:=w2.heap.size+1+1) (Bv:=w2.heap.size+1+1+1+1) (gf:=109) (lb:=#[.pointer (some ⟨w2.heap.size+1+1+1,0,none⟩),.pointer (some ⟨w2.heap.size+1+1,0,none⟩),.pointer (some ⟨w2.heap.size+1+1+1+1,0,none⟩)]) (by omega) rfl (enters_of Tryz.func109 (by kernel_rfl) rfl) rfl ?hseq ?hlt (SI (num w We.heap.size) sb r w2.heap.size (w2.heap.size+1) (w2.heap.size+1+1) w1.heap.size We.heap.size ⟨dw ⟨#[]⟩,sS,f⟩) ?ha ?hp ?hs ma.out.2
  (fun x=>{ tmps:=#[.string text,undef,.string ⟨#[]⟩,.pointer (some ⟨w2.heap.size,0,none⟩),.pointer (some ⟨w2.heap.size+1,0,none⟩),.string ⟨x.toArray⟩,.string text,.int .i64 text.size,.bool false,undef,undef,.pointer (some ⟨sb,0,none⟩),.map (some r),.string text,.string ⟨rs.toArray⟩,.func (.func 109) #[] #[.pointer (some ⟨w2.heap.size+1+1+1,0,none⟩),.pointer (some ⟨w2.heap.size+1+1,0,none⟩),.pointer (some ⟨w2.heap.size+1+1+1+1,0,none⟩)],.string ⟨x.toArray⟩,undef,undef,undef,undef,undef,undef],defers:=[] }) ?assign ?body ?done
 case hseq=>
  intro l J W hJs hY hs h0;exact MX 5 (by omega) l _ _ _ rs (by have:=ZP.out;omega) J hJs m hY W (ma.out.1.keep ⟨hs.block _ ma.out.1.p.lt,hs.block _ ma.out.1.s.lt,hs.block _ ma.out.1.v.lt,hs.block _ JL.out.2.2.2.2⟩) h0
 case hlt=>have:=JL.out;omega
 case ha=>exact fun pre W o h=>h.since ((Since.refl W).alloc o)
 case hp=>exact fun pre W l o o' h h1 h2 hl ho=>h.put o' h1 h2 hl ho
 case hs=>exact fun pre W q h _=>h.box q
 case assign=>
  intro l x W K hK
  gi_wp2
  exact hK
 case body=>
  rintro l pre x W ⟨Z,t,Q,n,v,hI⟩ hW hlen hx;have HI:Hid (SIx (num w We.heap.size) sb r w2.heap.size (w2.heap.size+1) (w2.heap.size+1+1) w1.heap.size We.heap.size ⟨dw ⟨#[]⟩,sS,f⟩ pre W Z t Q n v):=hI;have hpl:pre.length≤4000:=by have:=sP rs;have:=ZP.out;omega
  have hn0:=hI.n0;have HA:Hid (Calls Tryz.prog 17 #[.map (some r),.string ⟨x.toArray⟩] W fun e w'=>∃Z' a,Line ⟨x.toArray⟩ Z Z' a∧e=.returned (.string (fw a))∧aG (num w We.heap.size) W w' Q sb Z' (n+30)):=IX (HG.out.since (lm w _)) hI.se hI.zr hn0.1 (by omega) r hI.map ⟨x.toArray⟩ (by rw[show (⟨x.toArray⟩:ByteArray).size=x.length from List.size_toArray];exact hx);have Oo:Hid (n≤200000∧pre.length≤4000∧We.heap.size+1<W.heap.size):=⟨by omega,hpl,hW⟩
  have cb:=hI.box.cell;clear hI hn0 hpl hW hlen hx
  gi_wp2
  refine⟨trivial,?_⟩;refine(CallsIn.inRound l (callsIn_wide.2 HA.out)).mono ?_;rintro e W1 ⟨Z',a,hL,rfl,hto⟩;have WM:=((lw _).2 Z Z' a HI.out.zr hL).1;have hsz:(fw a).size≤1000:=by
   obtain⟨P',hse,_,_⟩:=id hto;exact Nh (HI.out.se.le (m:=n+30) (by omega)).zk hse.zk (by have:=Oo.out.1;omega) HI.out.zr hL
  have a1h:Bl W1 w1.heap.size (w2.heap.size+1) v t.data.toList:=by
   obtain⟨P',_,hfs,_⟩:=id hto;have hn:=HI.out.num;exact HI.out.bl.fs hfs (HI.out.out _ (by omega) (by omega)) (fun k hk=>(HI.out.buf k hk).2)
  have hW1:W.heap.size≤W1.heap.size:=by
   obtain⟨P',_,hfs,_⟩:=id hto;exact hfs.size
  have htl:t.data.toList.length=t.size:=by rw[Array.length_toList];rfl
  have hlw:w1.heap.size≤We.heap.size:=by have:=JL.out;omega
  have HWS:Hid (Calls Tryz.prog 16 #[.pointer (some ⟨w2.heap.size+1,0,none⟩),.string (fw a)] W1 fun e w'=>∃v',e=.returned (.tuple #[.int .i64 (fw a).size,.nilIface])∧Bl w' w1.heap.size (w2.heap.size+1) v' (t.data.toList++(fw a).data.toList)∧sO (fun k=>k=w2.heap.size+1∨v.ownBlock=some k) W1 w'∧∀k,v'.ownBlock=some k→v.ownBlock=some k∨W1.heap.size≤k):=Yu a1h (fw a) (by have:=HI.out.len;have:=Oo.out;omega) (by have:=Oo.out;omega);have HZ:Hid (Line (Zh x) Z Z' a∧aG (num w We.heap.size) W W1 Q sb Z' (n+30)∧(fw a).size≤1000∧Zr Z'∧W.heap.size≤W1.heap.size):=⟨hL,hto,hsz,WM,hW1⟩
  have yQ:Hid (t.data.toList.length=t.size∧w1.heap.size≤We.heap.size):=⟨htl,hlw⟩
  clear hL hto WM a1h hW1 hsz htl hlw;generalize hat:fw a=ta at *
  gi_wp2
  refine⟨trivial,?_⟩;refine(CallsIn.inRound l (callsIn_wide.2 HWS.out)).mono ?_;rintro e W2 ⟨v1,rfl,hb2,he2,ho2⟩;have hl2:(t.data.toList++ta.data.toList).length≤1001*4000+1000:=by
   rw[List.length_append,yQ.out.1,show ta.data.toList.length=ta.size by rw[Array.length_toList];rfl];have:=HI.out.len;have:=Oo.out;have:=HZ.out.2.2.1;omega
  have HWB:Hid (Calls Tryz.prog 18 #[.pointer (some ⟨w2.heap.size+1,0,none⟩),.int .u8 10] W2 fun e w'=>∃v',e=.returned .nilIface∧Bl w' w1.heap.size (w2.heap.size+1) v' (t.data.toList++ta.data.toList++[10])∧sO (fun k=>k=w2.heap.size+1∨v1.ownBlock=some k) W2 w'∧∀k,v'.ownBlock=some k→v1.ownBlock=some k∨W2.heap.size≤k):=Yw hb2 (by omega) (by have:=he2.fs.size;have:=HZ.out.2.2.2.2;have:=Oo.out;have:=yQ.out;omega);have H2:Hid (Bl W2 w1.heap.size (w2.heap.size+1) v1 (t.data.toList++ta.data.toList)∧sO (fun k=>k=w2.heap.size+1∨v.ownBlock=some k) W1 W2∧∀k,v1.ownBlock=some k→v.ownBlock=some k∨W1.heap.size≤k):=⟨hb2,he2,ho2⟩
  clear hb2 he2 ho2 hl2
  gi_wp2
  refine⟨trivial,?_⟩;refine(CallsIn.inRound l (callsIn_wide.2 HWB.out)).mono ?_;rintro e W3 ⟨v2,rfl,hb3,YP,ho3⟩;subst hat;obtain⟨hs1,hs2⟩:=HI.out.step Oo.out.2.2 HZ.out.1 HZ.out.2.1 HZ.out.2.2.1 HZ.out.2.2.2.1 H2.out.1 H2.out.2.1 H2.out.2.2 hb3 YP ho3;have hn:=HI.out.num;have hnm:=JL.out;have hww:=Oo.out.2.2;have hnq:∀k,k<w.heap.size→¬Q k:=fun k hk hp=>by
   obtain⟨db,cb,fp,v',g1,_⟩:=HI.out.se;have h1:w.heap.size≤k:=g1.yu k hp;omega
  have YE:∀k,k<We.heap.size+2→v.ownBlock≠some k:=fun k hk e=>by have:=(HI.out.buf k e).1;omega
  have HF:Hid (vM We.heap.size (w2.heap.size+1+1+1) (w2.heap.size+1+1) (w2.heap.size+1+1+1+1) (SI (num w We.heap.size) sb r w2.heap.size (w2.heap.size+1) (w2.heap.size+1+1) w1.heap.size We.heap.size ⟨dw ⟨#[]⟩,sS,f⟩ (pre++[x])) W .normal { tmps:=#[],defers:=[] } W3):=by
   refine⟨⟨hs2 _ (by omega) (HI.out.out _ (by omega) (by omega)) (by omega) (YE _ (by omega)),hs2 _ (by omega) (HI.out.out _ (by omega) (by omega)) (by omega) (YE _ (by omega))⟩,⟨hs2 _ (by omega) (HI.out.out _ (by omega) (by omega)) (by omega) (YE _ (by omega)),hs2 _ (by omega) (HI.out.out _ (by omega) (by omega)) (by omega) (YE _ (by omega)),hs2 _ (by omega) (HI.out.out _ (by omega) (by omega)) (by omega) (YE _ (by omega)),hs2 _ (by omega) (hnq _ SE.out.2) (by have:=SE.out.2;omega) (YE _ (by have:=SE.out.2;omega))⟩,hs1⟩
  clear hs1 hs2 hn hnm hww hnq YE hb3 YP ho3
  gi_wp2
  exact HF.out
 rintro Dd W hD1 hD2 ⟨Z,t,Q,n,v,hI⟩ hK;have hn:=hI.num;have hnm:=JL.out;have hbd:Lib.IsBuilderF 40 5 w1.heap.size (w2.heap.size+1) (Lib.byteCells t.data.toList) W:=by
  obtain⟨p,hp,hh⟩:=hI.bl.blk;rcases hp with rfl | rfl
  ·exact .inl ⟨hI.bl.lo,v,hh,World.ownsRowF_of hI.bl.Zd.own,hI.bl.ne⟩
  exact .inr ⟨hI.bl.lo,v,hh,World.ownsRowF_of hI.bl.Zd.own,hI.bl.ne⟩
 have hsw:Since w W:=(lm w We.heap.size).trans hI.se.gp;have hwl:w1.heap.size≤W.heap.size:=by have:=hI.bl.lt;omega
 have HSG:Hid (Calls Tryz.prog 19 #[.pointer (some ⟨w2.heap.size+1,0,none⟩)] W fun e w'=>e=.returned (.string t)∧Since w w'∧w'.heap[Dd]?=some (.deferred (some []))):=(jF w1.heap.size (w2.heap.size+1) t.data.toList W hbd hwl).mono (by
  rintro e w' ⟨rfl,_,hb,ho⟩;refine⟨rfl,Below.trans hsw (Below.mono hb hnm.2.2.1),ho Dd _ hK (fun e=>by injection e with e;omega) (fun c fz e=>by cases e)⟩)
 have LD:Hid (zx text t):=Xe.out t ⟨f,r0,Z,Ww.out.1,hI.lines⟩;have HD:Hid (We.heap.size≤Dd∧w.heap.size≤We.heap.size):=⟨hD1,by omega⟩
 clear hI hn hnm hbd hsw hwl hK hD1 hD2
 gi_wp2
 refine⟨trivial,?_⟩;refine(callsIn_wide.2 HSG.out).mono ?_;rintro e W' ⟨rfl,hs',hk'⟩;have HK:Hid (W'.heap[Dd]?=some (.deferred (some []))∧Since w W'):=⟨hk',hs'⟩
 clear hs' hk'
 gi_wp2
 refine⟨by simp,.inl ⟨_,_,rfl,run_takeDeferred HK.out.1,?_⟩⟩;refine⟨_,results_tmp rfl _ _ _,?_⟩;exact⟨t,LD.out,rfl,Below.trans HK.out.2 (belowK_b (w:=We) HD.out.2 _ Dd _ _ HD.out.1 HK.out.1 rfl rfl)⟩
end Dk
end Go.Proofs.YtmhcfaaggkidjaaGreatDoor
end
section
namespace Go.Proofs.YtmhcfaaggkidjaaGreatDoor
set_option maxRecDepth 100000
namespace Dk
open Go.RowKit Go.Shelf
attribute [local go_sem] Oper.semAt_some
theorem VG (x z:ByteArray):(x++z).extract 0 x.size=x:=by
 apply ByteArray.ext
 simp
set_option maxHeartbeats 8000000 in
theorem Ns (w:World) (G:Gr w) (a b:ByteArray):Calls Tryz.prog 3 #[.string a,.string b] w fun e w'=>e=.returned (.bool true)∧Since w w':=by
 have HG:Hid (Gr w):=G;have HS:Hid (∀W text,Gr W→text.size≤4000→Calls Tryz.prog 5 #[.string text] W fun e w'=>∃t,zx text t∧e=.returned (.string t)∧Since W w'):=fun W text g ht=>Fq W g text ht
 clear G;by_cases h1:a.size≤1500
 case neg=>
  have d1:decide ((1500:Int)<(a.size:Int))=true:=decide_eq_true (by omega);clear h1;go_enter Tryz.func3,Tryz.ntmps3
  go_wp2_with fail
  go_ret;exact⟨rfl,Since.refl _⟩
 have d1:decide ((1500:Int)<(a.size:Int))=false:=decide_eq_false (by omega);by_cases h2:b.size≤1500
 case neg=>
  have d2:decide ((1500:Int)<(b.size:Int))=true:=decide_eq_true (by omega);clear h1 h2;go_enter Tryz.func3,Tryz.ntmps3
  go_wp2_with fail
  go_ret;exact⟨rfl,Since.refl _⟩
 have d2:decide ((1500:Int)<(b.size:Int))=false:=decide_eq_false (by omega);by_cases h3:a.size+b.size≤1500
 case neg=>
  have d3:decide ((1500:Int)<(a.size:Int)+(b.size:Int))=true:=decide_eq_true (by omega);clear h3;go_enter Tryz.func3,Tryz.ntmps3
  go_wp2_with fail
  go_ret;exact⟨rfl,Since.refl _⟩
 have d3:decide ((1500:Int)<(a.size:Int)+(b.size:Int))=false:=decide_eq_false (by omega);go_enter Tryz.func3,Tryz.ntmps3
 have Tz:Hid (Calls Tryz.prog 5 #[.string Rm] w fun e w'=>e=.returned (.string Ni)∧Since w w'):=(HS.out w Rm HG.out (by decide)).mono (fun e w' hh=>by
  obtain⟨t,k1,k2,k3⟩:=hh;rw[VD k1] at k2;exact⟨k2,k3⟩)
 unfold Rm at Tz;go_wp2_with fail
 refine Tz.out.mono ?_;clear Tz;rintro e w1 ⟨rfl,hs1⟩;have Fx:Hid (Gr w1∧Since w w1):=⟨HG.out.since hs1,hs1⟩
 clear hs1;have hfx:(Ni.toList==Ni.toList)=true:=by simp
 unfold Ni at *;go_wp2_with fail
 clear hfx;have hz1:(a++⟨#[10]⟩:ByteArray).size≤4000:=by
  rw[ByteArray.size_append];have:(⟨#[10]⟩:ByteArray).size=1:=rfl;omega
 have hz2:(a++⟨#[10]⟩++b:ByteArray).size≤4000:=by
  rw[ByteArray.size_append,ByteArray.size_append];have:(⟨#[10]⟩:ByteArray).size=1:=rfl;omega
 refine(HS.out _ _ Fx.out.1 hz1).mono ?_;rintro e w2 ⟨x,hx,rfl,hs2⟩;have HG2:Hid (Gr w2∧Since w w2):=⟨Fx.out.1.since hs2,Fx.out.2.trans hs2⟩
 have HX:Hid (zx (a++⟨#[10]⟩) x):=hx;have HZ2:Hid ((a++⟨#[10]⟩++b:ByteArray).size≤4000):=hz2;clear hs2 hx hz1 hz2;go_wp2_with fail
 refine(HS.out _ _ HG2.out.1 HZ2.out).mono ?_;rintro e w3 ⟨y,hy,rfl,hs3⟩;have HG3:Hid (Since w w3):=HG2.out.2.trans hs3;obtain⟨z,rfl⟩:=Rv HX.out hy;clear hs3 hy;have hsz:(x++z).size=x.size+z.size:=ByteArray.size_append;have hd:decide ((x.size:Int)≤((x++z).size:Int))=true:=decide_eq_true (by omega);have hcut:=VG x z;have hle:(x.size:Int)≤((x++z).size:Int):=by omega
 generalize x++z=y at *;clear hsz;go_wp2_with fail
 go_ret;exact⟨rfl,HG3.out⟩
end Dk
end Go.Proofs.YtmhcfaaggkidjaaGreatDoor
end
