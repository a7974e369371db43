import Derived.Test.YtmhcfaaggkidjaaGreatDoorJ36
set_option linter.unusedSimpArgs false
set_option linter.unusedVariables false
section
namespace Go.Proofs.YtmhcfaaggkidjaaGreatDoor
set_option maxRecDepth 100000
namespace Fl
open Go.RowKit Go.Sort Go.Shelf
open En (Fi iX Ints fZ Row)
open Vl
section
variable {w0 w w':World} {fb vb db cb:Nat} {kb kt:ByteArray} {S:Vs} {v lv:Value} {d d0:List Fv} {l l0:List Fi}
theorem Fm.LP (h:Fm w0 w fb vb db cb kb kt S v lv d l):iX w lv l:=by
 rcases h.sr with⟨rfl,c,rfl⟩ | ⟨k,o,c,rfl,hc,hcell⟩
 ·have:l=[]:=List.length_eq_zero_iff.1 h.each.len;subst this;exact⟨none,c,rfl,Nat.zero_le _,fun h=>by simp at h⟩
 refine⟨some ⟨k,o,none⟩,c,by rw[h.each.len],by rw[h.each.len];exact hc,fun _=>⟨k,o,rfl,(h.blk k o _ _ rfl).1,fun j f hj=>?_⟩⟩;have hjl:j<d.length:=by rw[←h.each.len];exact(List.getElem?_eq_some_iff.1 hj).1
 obtain⟨h1,h2,h3,h4⟩:=h.each.each j f d[j] hj (List.getElem?_eq_getElem hjl);obtain⟨e0,e1,e2⟩:=jQ d j d[j] (List.getElem?_eq_getElem hjl);refine⟨_,h3,?_,?_,?_⟩
 ·rw[hcell _ _ e0,h1]
 ·rw[Nat.add_assoc,hcell _ _ e1,h2]
 rw[Nat.add_assoc,hcell _ _ e2]
def aH (l:List Fi) (s:ByteArray):List Fi:=l.filter (fun f=>!decide (f.nm=s))
theorem Ig {l:List Fi} (h:En.right l=true):gH l:=((aX l).1 h).2.imp (fun {f g} hh=>by
 rw[bytesLess_eq,decide_eq_false_iff_not];exact fun h'=>List.lt_irrefl _ (List.lt_trans h' ((qw _ _).1 hh)))
theorem yh {l:List Fi} (h:En.right l=true) (s:ByteArray):gH (aH l s):=(Ig h).filter _
theorem uS {l:List Fi} (h:En.right l=true):En.pz l:=fun f hf=>by
 have h1:=(((aX l).1 h).1.good f hf).2;unfold En.filled at h1;simp only[Bool.and_eq_true,decide_eq_true_eq] at h1;omega
def hasB (l:List Fi) (s:ByteArray):Bool:=l.any (fun f=>decide (f.nm=s))
theorem sj (l:List Fi) (s:ByteArray):hasB l s=true↔∃f ∈ l,f.nm=s:=by simp[hasB]
theorem Qf {l:List Fi} {s:ByteArray} (h:∀f ∈ l,¬f.nm=s):hasB l s=false:=by
 cases e:hasB l s with
 | false=>rfl
 | true=>
  obtain⟨f,h1,h2⟩:=(sj l s).1 e;exact absurd h2 (h f h1)
set_option maxHeartbeats 8000000 in
theorem Qg (B:Base w0 kb kt) (LB:En.Lb w0) (n:Int) (ho:S.ok n) (hn:n+1000<900000000) (h:Fm w0 w fb vb db cb kb kt S v lv d l) (hr:En.right l=true) (s:ByteArray) :
  Calls Tryz.prog 25 #[.pointer (some ⟨fb,0,none⟩),.string s] w fun e w'=>((∀f ∈ l,¬f.nm=s)∧e=.returned (En.dM 7)∧Since w w')∨
   ((∃f ∈ l,f.nm=s)∧e=.returned (ev (bC kb kt (aH l s) S).1)∧(bC kb kt (aH l s) S).2.ok (n+3)∧∃d' Ah v',((bC kb kt (aH l s) S).1=0→Fm w0 w' fb vb db cb kb kt (bC kb kt (aH l s) S).2 v' Ah d' (aH l s)∧Nl w lv d Ah d')∧((bC kb kt (aH l s) S).1≠0→Fm w0 w' fb vb db cb kb kt (bC kb kt (aH l s) S).2 v' lv d l)∧
    Fs (fun k=>k=fb∨VP vb db cb v k) w w'∧(∀k,k<w.heap.size→¬VP vb db cb v k→¬VP vb db cb v' k)):=by
 have LK:l.length≤8:=((aX l).1 hr).1.len;have hor:=aO fb vb w h.c0;have p1:=h.c1;have HF:Hid (Fm w0 w fb vb db cb kb kt S v lv d l):=h;have HR:Hid (En.right l=true∧l.length≤8):=⟨hr,LK⟩
 have HO:Hid (S.ok n∧n+1000<900000000):=⟨ho,hn⟩
 obtain⟨la,ln,lc,rfl⟩:∃a n c,lv=.slice a n c:=by
  rcases h.sr with⟨_,c,rfl⟩ | ⟨k,o,c,rfl,_⟩
  ·exact⟨_,_,_,rfl⟩
  exact⟨_,_,_,rfl⟩
 have HCF:Hid (∀(W:World) (b:Nat),Since w W→W.cell? ⟨b,0,none⟩=some (.string s)→Calls Tryz.prog 78 #[.slice la ln lc,.func (.func 137) #[] #[.pointer (some ⟨b,0,none⟩)]] W fun e w'=>e=.returned (.bool (hasB l s))∧Since W w'):=fun W b hs hb=>(Ui l _ s b W (HF.out.since hs).LP hb (by omega)).mono (fun e w' hh=>by
  obtain⟨hc,hs'⟩:=hh;refine⟨?_,hs'⟩;rcases hc with⟨rfl,hc⟩ | ⟨rfl,hc⟩
  ·rw[(sj l s).2 hc]
  rw[Qf hc])
 have hfl:fb<w.heap.size:=World.block_lt_of_cell? w _ p1;have q1:∀W,Since w W→W.cell? ⟨fb,1,none⟩=some (.slice la ln lc):=fun W hs=>(hs.cell (p:=⟨fb,1,none⟩) hfl).trans p1
 have Q1:Hid (∀W,Since w W→W.cell? ⟨fb,1,none⟩=some (.slice la ln lc)):=q1;have hbx:∀W:World,(W.alloc (.cells #[.string s] 9)).cell? ⟨W.heap.size,0,none⟩=some (.string s):=fun W=>by
  have Qa:∀W1:World,W1.heap[W.heap.size]?=some (.cells #[.string s] 9)→W1.cell? ⟨W.heap.size,0,none⟩=some (.string s):=fun W1 hW=>by simp[World.cell?,hW]
  exact Qa _ (heap_alloc_new W _)
 have ma:Hid (∀W:World,(W.alloc (.cells #[.string s] 9)).cell? ⟨W.heap.size,0,none⟩=some (.string s)):=hbx;have Ih:Hid (Calls Tryz.prog 66 #[.pointer (some ⟨fb,0,none⟩)] w fun e w'=>e=.returned (.pointer (some ⟨fb,0,none⟩))∧w'=w):=hor;clear h hr ho hn hor LK p1 q1 hbx;go_enter Tryz.func25,Tryz.ntmps25
 go_wp2_with fail
 refine Ih.out.mono ?_;rintro e w1 ⟨rfl,hw1⟩;subst hw1;go_wp2_with fail
 go_region_held3 (fun W=>W.cell? ⟨fb,1,none⟩=some (.slice la ln lc)) (first | exact Q1.out _ (Since.refl _) | exact Q1.out _ (Since.refl _).drew | exact Q1.out _ ((Since.refl _).alloc _) | exact Q1.out _ ((Since.refl _).drew.alloc _) | exact Q1.out _ (((Since.refl _).alloc _).trans hs3) | exact Q1.out _ (((Since.refl _).drew.alloc _).trans hs3)) (first
  | (go_simp;go_at_call 79;refine(lW s _).mono ?_;rintro e w2 ⟨rfl,rfl⟩;dsimp only)
  | (go_simp;go_at_call 78;refine(HCF.out _ _ (by first | exact((Since.refl _).alloc _) | exact((Since.refl _).drew.alloc _)) (by first | exact ma.out _)).mono ?_;rintro e w3 ⟨rfl,hs3⟩;dsimp only))
 have yg:Since w1 w3:=((Since.refl w1).alloc _).drew.trans hs3;have F3:=HF.out.since yg;have H3:Hid (Since w1 w3∧Fm w0 w3 fb vb db cb kb kt S v (.slice la ln lc) d l):=⟨yg,F3⟩
 have p3:=F3.c1;clear hs3 yg F3;cases hB:hasB l s with
 | false=>
  have HB:Hid (hasB l s=false):=hB;clear hB;go_wp2_with fail
  go_ret;refine Or.inl ⟨fun f hf e=>?_,rfl,H3.out.1⟩;have h1:=HB.out;rw[(sj l s).2 ⟨f,hf,e⟩] at h1;cases h1
 | true=>
  have HB:Hid (∃f ∈ l,f.nm=s):=(sj l s).1 hB;clear hB;have hdl:=H3.out.2.each.len;have HWI:Hid (Calls Tryz.prog 67 #[.pointer (some ⟨fb,0,none⟩),.string s] w3 fun e w'=>∃v',e=.returned v'∧w'.ownsRow w3.heap.size 122 3 v' (d.filter (aR s)).length (aA (d.filter (aR s)))∧Since w3 w'∧(v'=.slice none 0 0→d=[])):=uR _ w3 fb _ d l s H3.out.2.c1 H3.out.2.sr H3.out.2.each (by have:=HR.out.2;omega);clear hdl;go_wp2_with fail
  refine HWI.out.mono ?_;rintro e w4 ⟨v4,rfl,XX,hs4,hnil⟩;rcases XX.2 with⟨h',_⟩ | ⟨g,cap,cur,h',hb,hg,hnc,_⟩
  ·exfalso;have hd:=hnil h';have h1:=H3.out.2.each.len;rw[hd] at h1;obtain⟨f,hf,_⟩:=HB.out;rw[List.length_eq_zero_iff.1 h1] at hf;cases hf
  subst h';have F3:=H3.out.2;have F4:=F3.since hs4;have a3l:fb<w3.heap.size:=World.block_lt_of_cell? w3 _ F3.c1;have hw0:=F3.rZ.since.size;have hfit:=((aX l).1 HR.out.1).1.filter (fun f=>!decide (f.nm=s));have Us:Each (fun k=>k=g∨k=fb∨VP vb db cb v k) w4 (d.filter (aR s)) (aH l s):=((F3.each.filter s).wider (P':=fun k=>k=g∨k=fb∨VP vb db cb v k) (fun k hk hp=>by
   rcases hp with rfl | hp
   ·omega
   exact hp)).since hs4
  have hge:∀(j:Nat) (x:Fv),d[j]?=some x→∀k o,x.2.2.1=some ⟨k,o,none⟩→k≠g:=fun j x hx k o e=>by
   have hj:j<l.length:=by rw[F3.each.len];exact(List.getElem?_eq_some_iff.1 hx).1
   have:=((F3.each.each j l[j] x (List.getElem?_eq_getElem hj) hx).2.2.2 k o e).1;omega
  have LZ:=yf B LB n HO.out.1 HO.out.2 F4 XX (by omega) (by omega) (fun hv=>F3.rZ.rH hb hv) (fun k o n c e=>by have:=(F3.blk k o n c e).1;omega) hge Us (by
   have h1:=hfit.len;have h2:=Us.len;unfold aH at h2;omega) (fun f hf=>uS HR.out.1 f (List.mem_filter.1 hf).1) (fun l' hp hr=>hfit.right hp hr)
  have HBE:Hid (Calls Tryz.prog 71 #[.pointer (some ⟨fb,0,none⟩),.slice (some ⟨g,0,none⟩) (d.filter (aR s)).length cap] w4 fun e w'=>∃d' l' v',(aH l s).Perm l'∧gH l'∧e=.returned (ev (bC kb kt l' S).1)∧(bC kb kt l' S).2.ok (n+3)∧
   ((bC kb kt l' S).1=0→Fm w0 w' fb vb db cb kb kt (bC kb kt l' S).2 v' (.slice (some ⟨g,0,none⟩) (d.filter (aR s)).length cap) d' l')∧((bC kb kt l' S).1≠0→Fm w0 w' fb vb db cb kb kt (bC kb kt l' S).2 v' (.slice la ln lc) d l)∧Fs (fun k=>k=g∨k=fb∨VP vb db cb v k) w4 w'∧(∀k,k<w4.heap.size→¬VP vb db cb v k→¬VP vb db cb v' k)∧d'.Perm (d.filter (aR s))):=LZ
  have H4:Hid (Since w1 w4∧w3.heap.size≤g∧Fit (aH l s)):=⟨H3.out.1.trans hs4,hb,hfit⟩
  clear LZ hge Us hfit hw0 a3l F4 F3 XX hs4 hnil hb hg hnc p3;go_wp2_with fail
  refine HBE.out.mono ?_;rintro e w5 ⟨d',l',v',hp,zM,rfl,hok,hz,hnz,hfs,hnx,hpd⟩;have HPD:Hid (d'.Perm (d.filter (aR s))):=hpd;clear hpd;obtain rfl:l'=aH l s:=H4.out.2.2.uniq hp (List.Perm.refl _) zM (yh HR.out.1 s);have HZ:Hid ((bC kb kt (aH l s) S).2.ok (n+3)∧((bC kb kt (aH l s) S).1=0→Fm w0 w5 fb vb db cb kb kt (bC kb kt (aH l s) S).2 v' (.slice (some ⟨g,0,none⟩) (d.filter (aR s)).length cap) d' (aH l s))∧((bC kb kt (aH l s) S).1≠0→Fm w0 w5 fb vb db cb kb kt (bC kb kt (aH l s) S).2 v' (.slice la ln lc) d l)∧Fs (fun k=>k=g∨k=fb∨VP vb db cb v k) w4 w5∧(∀k,k<w4.heap.size→¬VP vb db cb v k→¬VP vb db cb v' k)):=⟨hok,hz,hnz,hfs,hnx⟩
  clear hok hz hnz hfs hnx hp zM;have hwv:∃x,ev (bC kb kt (aH l s) S).1=x:=⟨_,rfl⟩
  obtain⟨x,hx⟩:=hwv;rw[hx];have HXX:Hid (ev (bC kb kt (aH l s) S).1=x):=hx;clear hx;go_wp2_with fail
  go_ret;refine Or.inr ⟨HB.out,by rw[HXX.out];rfl,HZ.out.1,d',_,v',fun h0=>⟨HZ.out.2.1 h0,fun k o n c e=>Or.inl (by
   simp only[Value.slice.injEq,Option.some.injEq,Addr.mk.injEq] at e;have h1:=H4.out.2.1;have h2:=H3.out.1.size;omega),fun x hx k o e=>Or.inr ⟨x,(List.mem_filter.1 (HPD.out.mem_iff.1 hx)).1,o,e⟩⟩,HZ.out.2.2.1,?_,fun k hk=>HZ.out.2.2.2.2 k (Nat.lt_of_lt_of_le hk H4.out.1.size)⟩
  exact(Fs.ah H4.out.1).trans' HZ.out.2.2.2.1 (fun k hk=>by
   rcases hk with rfl | hk
   ·exact .inr (Nat.le_trans H3.out.1.size H4.out.2.1)
   exact .inl hk)
end
end Fl
end Go.Proofs.YtmhcfaaggkidjaaGreatDoor
end
section
namespace Go.Proofs.YtmhcfaaggkidjaaGreatDoor
set_option maxRecDepth 100000
namespace Fl
open Go.RowKit Go.Sort Go.Shelf
open En (Fi iX Ints fZ Row bS bu need aP filled eX)
open Vl
def dQ (l:List Fi) (s t:ByteArray):Bool:=decide (8≤(aH l s).length)||decide (((bS (aH l s)).length:Int)<need t.size)
def ax (l:List Fi) (s t:ByteArray):List Int:=(bS (aH l s)).take (need t.size).toNat
def iK (l:List Fi) (s t:ByteArray):Fi:=⟨s,t.size,ax l s t⟩
theorem nO (n:Nat):0≤need n:=by unfold need;split<;>omega
theorem JN {l:List Fi} {c:Int} (h:c ∈ bS l):3≤c∧c<24:=by
 have h1:=(List.mem_filter.1 h).1;simp only[En.lV,List.mem_cons,List.not_mem_nil,or_false] at h1;omega
theorem yj (l:List Fi):(bS l).Nodup:=(show En.lV.Nodup by decide).filter _
theorem sw {l:List Fi} (h:Fit l) {s t:ByteArray} (hn:aP s.data.toList=true) (hf:dQ l s t=false):Fit (aH l s++[iK l s t]):=by
 unfold dQ at hf;rw[Bool.or_eq_false_iff,decide_eq_false_iff_not,decide_eq_false_iff_not] at hf;obtain⟨h8,hfr⟩:=hf;have hb:Fit (aH l s):=h.filter _;have hnn:=nO t.size;have hlen:(ax l s t).length=(need t.size).toNat:=by unfold ax;rw[List.length_take];omega
 have hsub:∀c ∈ ax l s t,c ∈ bS (aH l s):=fun c hc=>List.mem_of_mem_take hc
 have h21:(bS (aH l s)).length≤21:=List.length_filter_le _ _;have e:bu (aH l s++[iK l s t])=bu (aH l s)++ax l s t:=by simp[bu,iK]
 refine⟨by simp;omega,fun f hf=>?_,?_,fun c hc=>?_,?_⟩
 ·rcases List.mem_append.1 hf with hf | hf
  ·exact hb.good f hf
  rw[List.mem_singleton] at hf;subst hf;refine⟨hn,?_⟩;unfold filled iK;simp only[Bool.and_eq_true,decide_eq_true_eq];refine⟨⟨by omega,?_⟩,by rw[hlen];omega⟩;have h1:need t.size≤21:=by omega
  unfold need at h1;split at h1<;>omega
 ·refine List.pairwise_append.2 ⟨hb.names,List.pairwise_singleton _ _,fun f hf g hg=>?_⟩;rw[List.mem_singleton] at hg;subst hg;have:=(List.mem_filter.1 hf).2;simp at this;exact this
 ·rw[e] at hc;rcases List.mem_append.1 hc with hc | hc
  ·exact hb.cells c hc
  exact JN (hsub c hc)
 rw[e,List.nodup_append];refine⟨hb.once,(yj _).sublist (List.take_sublist _ _),fun x hx y hy e=>?_⟩;subst e;exact En.Eb hx (hsub x hy)
theorem Uu {P:Nat→Prop} {w:World} {d:List Fv} {l:List Fi} {base:Nat} {v:Value} (h:Each P w d l) (ho:w.ownsRow base 122 3 v d.length (aA d)):iX w v l:=by
 rcases ho.2 with⟨h',h0⟩ | ⟨g,cap,cur,h',_⟩
 ·subst h';have:l=[]:=List.length_eq_zero_iff.1 (h.len.trans h0);subst this;exact⟨none,0,rfl,Nat.zero_le _,fun h=>by simp at h⟩
 subst h';exact h.LP ho
end Fl
end Go.Proofs.YtmhcfaaggkidjaaGreatDoor
end
section
namespace Go.Proofs.YtmhcfaaggkidjaaGreatDoor
set_option maxRecDepth 100000
namespace Fl
open En (Fi bS bu need aP filled)
open Vl
def vJ:List Int→ByteArray→(Nat→ByteArray)→(Nat→ByteArray)
 | [],_,X=>X
 | c::r,t,X=>vJ r (t.extract (min t.size 80) t.size) (fq X c.toNat (t.extract 0 (min t.size 80)))
theorem Ii:∀(cs:List Int) (t:ByteArray) (X:Nat→ByteArray) (k:Nat),(∀c ∈ cs,c.toNat≠k)→vJ cs t X k=X k
 | [],_,_,_,_=>rfl
 | c::r,t,X,k,h=>by
  rw[vJ,Ii r _ _ k (fun c' hc=>h c' (List.mem_cons_of_mem _ hc))];unfold fq;rw[if_neg (fun e=>h c List.mem_cons_self e.symm)]
theorem ui (X:Nat→ByteArray) (c:Int) (r:List Int):bf X (c::r)=(X c.toNat).data.toList++bf X r:=rfl
theorem qy {X Y:Nat→ByteArray}:∀{cs:List Int},(∀c ∈ cs,X c.toNat=Y c.toNat)→bf X cs=bf Y cs
 | [],_=>rfl
 | c::r,h=>by rw[ui,ui,h c List.mem_cons_self,qy (fun c' hc=>h c' (List.mem_cons_of_mem _ hc))]
theorem yl (cs' cs:List Int) (t:ByteArray) (X:Nat→ByteArray) (h:∀c ∈ cs,∀c' ∈ cs',c.toNat≠c'.toNat):bf (vJ cs t X) cs'=bf X cs':=
 qy (fun c' hc'=>Ii cs t X _ (fun c hc=>h c hc c' hc'))
theorem Ma (t:ByteArray) (m:Nat) (_h:m≤t.size):(t.extract 0 m).data.toList++(t.extract m t.size).data.toList=t.data.toList:=by
 have hs:t.data.toList.length=t.size:=by rw[Array.length_toList];rfl
 simp only[ByteArray.data_extract,Array.toList_extract,List.extract_eq_take_drop,List.drop_zero,Nat.sub_zero];rw[List.take_of_length_le (l:=t.data.toList.drop m) (by rw[List.length_drop,hs];exact Nat.le_refl _)];exact List.take_append_drop m _
theorem BP:∀(cs:List Int) (t:ByteArray) (X:Nat→ByteArray),cs.Pairwise (fun a b=>a.toNat≠b.toNat)→t.size≤80*cs.length→bf (vJ cs t X) cs=t.data.toList
 | [],t,X,_,h=>by
  have h0:t.data.toList.length=0:=by
   have hs:t.data.toList.length=t.size:=by rw[Array.length_toList];rfl
   rw[hs]
   simpa using h
  rw[List.length_eq_zero_iff.1 h0]
  rfl
 | c::r,t,X,hp,h=>by
  rw[List.pairwise_cons] at hp;rw[List.length_cons] at h;have hsz:(t.extract (min t.size 80) t.size).size=t.size-min t.size 80:=by rw[ByteArray.size_extract];omega
  rw[ui,vJ,BP r _ _ hp.2 (by rw[hsz];omega),Ii r _ _ c.toNat (fun c' hc=>(hp.1 c' hc).symm)];unfold fq;rw[if_pos rfl];exact Ma t _ (by omega)
def aV (X:Nat→ByteArray) (l:List Fi) (s:ByteArray):Option (List UInt8):=(l.find? (fun f=>decide (f.nm=s))).map (fun f=>bf X f.cs)
def Wy (l:List Fi):Prop:=l.Pairwise (fun f g=>f.nm≠g.nm)
theorem BQ {l:List Fi} (hd:Wy l) {f:Fi} (hf:f ∈ l):l.find? (fun g=>decide (g.nm=f.nm))=some f:=by
 induction l with
 | nil=>cases hf
 | cons g r ih=>
  unfold Wy at hd;rw[List.pairwise_cons] at hd;rcases List.mem_cons.1 hf with rfl | hf
  ·rw[List.find?_cons_of_pos (by simp)]
  rw[List.find?_cons_of_neg (by simpa using hd.1 f hf)];exact ih hd.2 hf
theorem jm {l:List Fi} {s:ByteArray} (h:∀f ∈ l,f.nm≠s):l.find? (fun g=>decide (g.nm=s))=none:=by
 rw[List.find?_eq_none];intro f hf
 simpa using h f hf
theorem Wy.perm {l l':List Fi} (h:Wy l) (hp:l.Perm l'):Wy l':=List.Perm.pairwise (R:=fun (f g:Fi)=>f.nm≠g.nm) hp h (fun {_ _} h=>Ne.symm h)
theorem Mc {l l':List Fi} (hd:Wy l) (hp:l.Perm l') (s:ByteArray):l.find? (fun g=>decide (g.nm=s))=l'.find? (fun g=>decide (g.nm=s)):=by
 by_cases h:∃f ∈ l,f.nm=s
 ·obtain⟨f,hf,rfl⟩:=h;rw[BQ hd hf,BQ (hd.perm hp) (hp.mem_iff.1 hf)]
 have h':∀f ∈ l,f.nm≠s:=fun f hf e=>h ⟨f,hf,e⟩
 rw[jm h',jm (fun f hf=>h' f (hp.mem_iff.2 hf))]
theorem Ij {X:Nat→ByteArray} {l l':List Fi} (hd:Wy l) (hp:l.Perm l') (s:ByteArray):aV X l s=aV X l' s:=by unfold aV;rw[Mc hd hp]
theorem nP {X Y:Nat→ByteArray} {l:List Fi} (h:∀f ∈ l,bf X f.cs=bf Y f.cs) (s:ByteArray):aV X l s=aV Y l s:=by
 unfold aV;cases e:l.find? (fun f=>decide (f.nm=s)) with
 | none=>rfl
 | some f=>exact congrArg some (h f (List.mem_of_find?_eq_some e))
theorem Ey (l:List Fi) (s u:ByteArray) (hu:u≠s):(aH l s).find? (fun g=>decide (g.nm=u))=l.find? (fun g=>decide (g.nm=u)):=by
 unfold aH;rw[List.find?_filter]
 congr 1
 funext g
 by_cases h:g.nm=u
 ·have:¬g.nm=s:=fun e=>hu (h.symm.trans e)
  simp[h,hu]
 simp[h]
theorem uj (X:Nat→ByteArray) (l:List Fi) (s u:ByteArray):aV X (aH l s) u=if u=s then none else aV X l u:=by
 unfold aV;by_cases hu:u=s
 ·subst hu;rw[if_pos rfl,jm (fun f hf=>by simpa [aH] using (List.mem_filter.1 hf).2)]
  rfl
 rw[if_neg hu,Ey l s u hu]
theorem Md (X:Nat→ByteArray) (l:List Fi) (f:Fi) (u:ByteArray):aV X (aH l f.nm++[f]) u=if u=f.nm then some (bf X f.cs) else aV X l u:=by
 by_cases hu:u=f.nm
 ·subst hu;unfold aV;rw[if_pos rfl,List.find?_append,jm (fun g hg=>by simpa [aH] using (List.mem_filter.1 hg).2)];simp
 rw[if_neg hu];unfold aV;rw[List.find?_append,Ey l f.nm u hu];have:([f]:List Fi).find? (fun g=>decide (g.nm=u))=none:=jm (fun g hg=>by
  rw[List.mem_singleton] at hg;subst hg;exact fun e=>hu e.symm)
 rw[this,Option.or_none]
theorem ym (kb kt:ByteArray) (c:Int) (r:List Int) (t:ByteArray) (S:Vs) (h:(S.write kb kt c (t.extract 0 (min t.size 80))).1=0):eZ kb kt (c::r) t S=eZ kb kt r (t.extract (min t.size 80) t.size) (S.write kb kt c (t.extract 0 (min t.size 80))).2:=by
 rw[eZ,if_neg (by rw[h];decide)]
theorem jR (t:ByteArray):(t.extract 0 (min t.size 80)).size≤80:=by rw[ByteArray.size_extract];omega
theorem nQ {kb kt:ByteArray}:∀(cs:List Int) (t:ByteArray) (S:Vs) (n:Int) (k:Nat),Vl.Good kb kt S n→Ph S k→k+cs.length≤120→n+cs.length<1000000000→(∀c ∈ cs,0≤c∧c<24)→
  (eZ kb kt cs t S).1=0∧Vl.Good kb kt (eZ kb kt cs t S).2 (n+cs.length)∧Ph (eZ kb kt cs t S).2 (k+cs.length)∧(eZ kb kt cs t S).2.X=vJ cs t S.X∧S.c≤(eZ kb kt cs t S).2.c
 | [],t,S,n,k,hg,hp,_,_,_=>⟨rfl,hg.le (by simp),hp,rfl,Int.le_refl _⟩
 | c::r,t,S,n,k,hg,hp,hk,hn,hc=>by
  rw[List.length_cons] at hk hn;have h0:=hc c List.mem_cons_self;obtain⟨j,rfl⟩:∃j:Nat,c=j:=⟨c.toNat,by omega⟩
  obtain⟨h1,h2,h3,h4,h5⟩:=qh hg (by omega) hp (by omega) j (by omega) (t.extract 0 (min t.size 80)) (jR t);rw[ym kb kt _ r t S h1];obtain⟨i1,i2,i3,i4,i5⟩:=nQ r (t.extract (min t.size 80) t.size) _ (n+1) (k+1) h2 h3 (by omega) (by omega) (fun c' hc'=>hc c' (List.mem_cons_of_mem _ hc'));refine⟨i1,i2.le (by rw[List.length_cons];omega),by rw[List.length_cons,show k+(r.length+1)=k+1+r.length by omega];exact i3,?_,by omega⟩;rw[i4,h4]
  rfl
structure Me (kb kt:ByteArray) (S:Vs) (l:List Fi) (n:Int) (k:Nat):Prop where
 good:Vl.Good kb kt S n
 ph:Ph S k
 right:En.right l=true
 dir:bf S.X [0,1,2]=En.print l
theorem Me.le {kb kt:ByteArray} {S:Vs} {l:List Fi} {n m:Int} {k j:Nat} (h:Me kb kt S l n k) (hn:n≤m) (hk:k≤j):Me kb kt S l m j:=⟨h.good.le hn,h.ph.le hk,h.right,h.dir⟩
theorem Mf {l:List Fi} (h:En.right l=true):Wy l:=((aX l).1 h).1.names
theorem sD {l:List Fi} (h:En.right l=true) {f:Fi} (hf:f ∈ l) {c:Int} (hc:c ∈ f.cs):3≤c∧c<24:=((aX l).1 h).1.cells c (En.Ec hf hc)
theorem Ez {c c':Int} (h:0≤c) (h':0≤c') (hn:c≠c'):c.toNat≠c'.toNat:=by omega
theorem Mg {cs:List Int} (h:cs.Nodup) (h0:∀c ∈ cs,0≤c):cs.Pairwise (fun a b=>a.toNat≠b.toNat):=by
 refine List.Pairwise.imp_of_mem (R:=fun a b=>a≠b) (fun {a b} ha hb hab=>Ez (h0 a ha) (h0 b hb) hab) h
theorem Ik (t:ByteArray):(t.size:Int)≤80*need t.size:=by
 unfold need;split<;>omega
theorem yo {l:List Fi} {s t:ByteArray} (hf:dQ l s t=false):((ax l s t).length:Int)=need t.size∧(ax l s t).length≤21:=by
 unfold dQ at hf;rw[Bool.or_eq_false_iff,decide_eq_false_iff_not,decide_eq_false_iff_not] at hf;have hnn:=nO t.size;have h21:(bS (aH l s)).length≤21:=List.length_filter_le _ _;unfold ax;rw[List.length_take];omega
theorem oH {l:List Fi} {s t:ByteArray} {c:Int} (h:c ∈ ax l s t):(3≤c∧c<24)∧c ∉ bu (aH l s):=by
 have h1:c ∈ bS (aH l s):=List.mem_of_mem_take h;exact⟨JN h1,fun h2=>En.Eb h2 h1⟩
theorem Aj {l l':List Fi} {s t:ByteArray} (hr:En.right l=true) (hn:aP s.data.toList=true) (hf:dQ l s t=false) (hp:(aH l s++[iK l s t]).Perm l') (zM:gH l'):En.right l'=true:=(sw ((aX l).1 hr).1 hn hf).right hp zM
theorem uk {l:List Fi} (hr:En.right l=true) (s:ByteArray):En.right (aH l s)=true:=(((aX l).1 hr).1.filter _).right (List.Perm.refl _) (yh hr s)
theorem JO {l:List Fi} (hr:En.right l=true) (X:Nat→ByteArray):bf (vJ [0,1,2] ⟨(En.print l).toArray⟩ X) [0,1,2]=En.print l:=by
 rw[BP [0,1,2] _ X (by decide)];have h:=En.xE hr;show (En.print l).toArray.size≤_
 simp;omega
theorem JP (t:ByteArray) (X:Nat→ByteArray) {l:List Fi} (hr:En.right l=true) (s:ByteArray):aV (vJ [0,1,2] t X) l s=aV X l s:=
 nP (fun f hf=>yl _ _ _ _ (fun c hc c' hc'=>by
  have h1:=sD hr hf hc';simp only[List.mem_cons,List.not_mem_nil,or_false] at hc;omega)) s
theorem Uv {kb kt:ByteArray} {S:Vs} {l l':List Fi} {n:Int} {k:Nat} (h:Me kb kt S l n k) (hk:k+24≤120) (hn:n+24<1000000000) {s t:ByteArray} (hnm:aP s.data.toList=true) (hf:dQ l s t=false) (hp:(aH l s++[iK l s t]).Perm l') (zM:gH l') :
  (eZ kb kt (ax l s t) t S).1=0∧(bC kb kt l' (eZ kb kt (ax l s t) t S).2).1=0∧Me kb kt (bC kb kt l' (eZ kb kt (ax l s t) t S).2).2 l' (n+24) (k+(ax l s t).length+3)∧
   (∀u,aV (bC kb kt l' (eZ kb kt (ax l s t) t S).2).2.X l' u=if u=s then some t.data.toList else aV S.X l u)∧S.c≤(bC kb kt l' (eZ kb kt (ax l s t) t S).2).2.c:=by
 obtain⟨hl1,hl2⟩:=yo hf;have hr':=Aj h.right hnm hf hp zM;obtain⟨a1,a2,a3,a4,a5⟩:=nQ (ax l s t) t S n k h.good h.ph (by omega) (by omega) (fun c hc=>by have:=(oH hc).1;omega);generalize (eZ kb kt (ax l s t) t S).2=S1 at *;unfold bC;obtain⟨b1,b2,b3,b4,b5⟩:=nQ [0,1,2] ⟨(En.print l').toArray⟩ S1 (n+(ax l s t).length) (k+(ax l s t).length) a2 a3 (by simp;omega) (by simp;omega) (fun c hc=>by
  simp only[List.mem_cons,List.not_mem_nil,or_false] at hc;omega)
 refine⟨a1,b1,⟨b2.le (by simp;omega),b3,hr',by rw[b4];exact JO hr' _⟩,fun u=>?_,by omega⟩;rw[b4,JP _ _ hr',a4,←Ij (sw ((aX l).1 h.right).1 hnm hf).names hp];have e:(iK l s t).nm=s:=rfl;have Zm:bf (vJ (ax l s t) t S.X) (iK l s t).cs=t.data.toList:=by
  refine BP _ _ _ (Mg ((yj _).sublist (List.take_sublist _ _)) (fun c hc=>by have:=(oH hc).1;omega)) ?_;have:=Ik t;omega
 have htp:=Md (vJ (ax l s t) t S.X) l (iK l s t) u;rw[e] at htp;rw[htp,Zm];by_cases hu:u=s
 ·rw[if_pos hu,if_pos hu]
 have e1:aV (vJ (ax l s t) t S.X) (aH l s) u=aV (vJ (ax l s t) t S.X) l u:=by rw[uj,if_neg hu]
 have e2:aV S.X (aH l s) u=aV S.X l u:=by rw[uj,if_neg hu]
 rw[if_neg hu,if_neg hu,←e1,←e2];refine nP (fun f hf'=>yl _ _ _ _ (fun c hc c' hc'=>?_)) u;obtain⟨h1,h2⟩:=oH hc;have h3:=sD (uk h.right s) hf' hc';refine Ez (by omega) (by omega) (fun e=>h2 ?_);rw[e];exact En.Ec hf' hc'
theorem Uw {kb kt:ByteArray} {S:Vs} {l:List Fi} {n:Int} {k:Nat} (h:Me kb kt S l n k) (hk:k+24≤120) (hn:n+24<1000000000) (s:ByteArray) :
  (bC kb kt (aH l s) S).1=0∧Me kb kt (bC kb kt (aH l s) S).2 (aH l s) (n+24) (k+3)∧(∀u,aV (bC kb kt (aH l s) S).2.X (aH l s) u=if u=s then none else aV S.X l u)∧S.c≤(bC kb kt (aH l s) S).2.c:=by
 have hr':=uk h.right s;unfold bC;obtain⟨b1,b2,b3,b4,b5⟩:=nQ [0,1,2] ⟨(En.print (aH l s)).toArray⟩ S n k h.good h.ph (by simp;omega) (by simp;omega) (fun c hc=>by
  simp only[List.mem_cons,List.not_mem_nil,or_false] at hc;omega)
 refine⟨b1,⟨b2.le (by simp),b3,hr',by rw[b4];exact JO hr' _⟩,fun u=>?_,b5⟩;rw[b4,JP _ _ hr',uj]
theorem a0u:En.right []=true:=rfl
theorem Mh (kb kt:ByteArray):Me kb kt (fresh mr 0) [] 0 0:=⟨(qi kb kt).1,(qi kb kt).2.1,rfl,rfl⟩
end Fl
end Go.Proofs.YtmhcfaaggkidjaaGreatDoor
end
section
namespace Go.Proofs.YtmhcfaaggkidjaaGreatDoor
set_option maxRecDepth 100000
namespace Fl
open Go.RowKit Go.Sort Go.Shelf
open En (Fi iX Ints fZ Row)
open Vl
def Ux:Option (List UInt8)→Value
 | none=>.tuple #[.string ⟨#[]⟩,En.dM 7]
 | some t=>.tuple #[.string ⟨t.toArray⟩,.nilIface]
def Ix (l:List Fi) (s:ByteArray) (i:Int):Prop:=(∃k:Nat,i=k∧k<l.length∧(∃f,l[k]?=some f∧f.nm=s)∧∀j f,j<k→l[j]?=some f→¬f.nm=s)∨(i=-1∧∀f ∈ l,¬f.nm=s)
section
variable {w0 w w':World} {fb vb db cb:Nat} {kb kt:ByteArray} {S:Vs} {v lv:Value} {d d0:List Fv} {l l0:List Fi}
set_option maxHeartbeats 8000000 in
theorem Qh (h:Fm w0 w fb vb db cb kb kt S v lv d l) (hr:En.right l=true) (hx:∀i,(S.X i).size≤80) (s:ByteArray) :
  Calls Tryz.prog 29 #[.pointer (some ⟨fb,0,none⟩),.string s] w fun e w'=>e=.returned (Ux (aV S.X l s))∧Since w w':=by
 have LK:l.length≤8:=((aX l).1 hr).1.len;have hor:=aO fb vb w h.c0;have p1:=h.c1;have HF:Hid (Fm w0 w fb vb db cb kb kt S v lv d l):=h;have HR:Hid (En.right l=true∧l.length≤8∧∀i,(S.X i).size≤80):=⟨hr,LK,hx⟩
 obtain⟨la,lc,rfl⟩:∃a c,lv=.slice a l.length c:=by
  obtain⟨a,c,h1,_⟩:=h.LP;exact⟨a,c,h1⟩
 have HIF:Hid (∀(W:World) (b:Nat),Since w W→W.cell? ⟨b,0,none⟩=some (.string s)→Calls Tryz.prog 85 #[.slice la l.length lc,.func (.func 137) #[] #[.pointer (some ⟨b,0,none⟩)]] W fun e w'=>(∃i:Int,e=.returned (.int .i64 i)∧Ix l s i)∧Since W w'):=fun W b hs hb=>vR l _ s b W (HF.out.since hs).LP hb (by omega)
 have hfl:fb<w.heap.size:=World.block_lt_of_cell? w _ p1;have q1:∀W,Since w W→W.cell? ⟨fb,1,none⟩=some (.slice la l.length lc):=fun W hs=>(hs.cell (p:=⟨fb,1,none⟩) hfl).trans p1
 have Q1:Hid (∀W,Since w W→W.cell? ⟨fb,1,none⟩=some (.slice la l.length lc)):=q1;have hbx:∀W:World,(W.alloc (.cells #[.string s] 9)).cell? ⟨W.heap.size,0,none⟩=some (.string s):=fun W=>by
  have Qa:∀W1:World,W1.heap[W.heap.size]?=some (.cells #[.string s] 9)→W1.cell? ⟨W.heap.size,0,none⟩=some (.string s):=fun W1 hW=>by simp[World.cell?,hW]
  exact Qa _ (heap_alloc_new W _)
 have ma:Hid (∀W:World,(W.alloc (.cells #[.string s] 9)).cell? ⟨W.heap.size,0,none⟩=some (.string s)):=hbx;have Ih:Hid (Calls Tryz.prog 66 #[.pointer (some ⟨fb,0,none⟩)] w fun e w'=>e=.returned (.pointer (some ⟨fb,0,none⟩))∧w'=w):=hor;clear h hr hor LK p1 q1 hbx hx;go_enter Tryz.func29,Tryz.ntmps29
 go_wp2_with fail
 refine Ih.out.mono ?_;rintro e w1 ⟨rfl,hw1⟩;subst hw1;go_wp2_with fail
 go_region_held3 (fun W=>W.cell? ⟨fb,1,none⟩=some (.slice la l.length lc)) (first | exact Q1.out _ (Since.refl _) | exact Q1.out _ (Since.refl _).drew | exact Q1.out _ ((Since.refl _).alloc _) | exact Q1.out _ ((Since.refl _).drew.alloc _) | exact Q1.out _ (((Since.refl _).alloc _).trans hs3) | exact Q1.out _ (((Since.refl _).drew.alloc _).trans hs3)) (first
  | (go_simp;go_at_call 79;refine(lW s _).mono ?_;rintro e w2 ⟨rfl,rfl⟩;dsimp only)
  | (go_simp;go_at_call 85;refine(HIF.out _ _ (by first | exact((Since.refl _).alloc _) | exact((Since.refl _).drew.alloc _)) (by first | exact ma.out _)).mono ?_;rintro e w3 ⟨⟨i,rfl,hi⟩,hs3⟩;dsimp only))
 have yg:Since w1 w3:=((Since.refl w1).alloc _).drew.trans hs3;have F3:=HF.out.since yg;have H3:Hid (Since w1 w3∧Fm w0 w3 fb vb db cb kb kt S v (.slice la l.length lc) d l):=⟨yg,F3⟩
 clear hs3 yg F3;rcases hi with⟨k,rfl,hk,⟨f,hkf,hfn⟩,_⟩ | ⟨rfl,hno⟩
 ·have hfm:f ∈ l:=List.mem_of_getElem? hkf;have htx:aV S.X l s=some (bf S.X f.cs):=by
   unfold aV;rw[←hfn,BQ (Mf HR.out.1) hfm]
   rfl
  have Xp:Hid (aV S.X l s=some (bf S.X f.cs)):=htx;have F3:=H3.out.2;obtain⟨k1,o1,u1,hla,hi1,hl1,q0,q1,q2⟩:=F3.LP.at_ hkf;subst hla;have p0:=F3.c0;have p1:=F3.c1;have hin:∀c ∈ f.cs,0≤c∧c<24:=fun c hc=>by have:=sD HR.out.1 hfm hc;omega
  have hfl:f.cs.length≤1000:=by
   have h1:=(((aX l).1 HR.out.1).1.good f hfm).2;have h2:=En.BI ((En.lU f).1 h1).2.1;have h3:=((En.lU f).1 h1).2.2;omega
  have HJ:Hid (∀W,Since w3 W→Calls Tryz.prog 63 #[.pointer (some ⟨vb,0,none⟩),u1] W fun e w'=>e=.returned (.tuple #[.string ⟨(bf S.X f.cs).toArray⟩,.nilIface])∧Since W w'):=fun W hW=>xS (F3.rZ.go hW) HR.out.2.2 f.cs u1 (hi1.since hW) hin hfl
  have hk0:¬((k:Int)<0):=by omega
  have hk1:(k:Int)<(l.length:Int):=by omega
  obtain⟨ua,un,uc,rfl⟩:∃a n c,u1=.slice a n c:=by
   obtain⟨a',c',he,_⟩:=hi1;exact⟨_,_,_,he⟩
  have HQ:Hid (∀W,Since w3 W→W.cell? ⟨fb,0,none⟩=some (.pointer (some ⟨vb,0,none⟩))∧W.cell? ⟨fb,1,none⟩=some (.slice (some ⟨k1,o1,none⟩) l.length lc)∧W.cell? ⟨k1,o1+k*3+2,none⟩=some (.slice ua un uc)):=fun W hW=>
   ⟨(hW.cell (p:=⟨fb,0,none⟩) (World.block_lt_of_cell? _ _ p0)).trans p0,(hW.cell (p:=⟨fb,1,none⟩) (World.block_lt_of_cell? _ _ p1)).trans p1,(hW.cell (p:=⟨k1,o1+k*3+2,none⟩) (World.block_lt_of_cell? _ _ q2)).trans q2⟩
  clear F3 hi1 hl1 hin hfl htx hfm hkf hfn q0 q1;go_wp2_with fail
  go_region_held3 (fun W=>W.cell? ⟨fb,0,none⟩=some (.pointer (some ⟨vb,0,none⟩))∧W.cell? ⟨fb,1,none⟩=some (.slice (some ⟨k1,o1,none⟩) l.length lc)∧W.cell? ⟨k1,o1+k*3+2,none⟩=some (.slice ua un uc)) (first | exact HQ.out _ (Since.refl _) | exact HQ.out _ (Since.refl _).drew | exact HQ.out _ ((Since.refl _).drew.trans hs5)) (first
   | (go_simp;go_at_call 63;refine(HJ.out _ (by first | exact Since.refl _ | exact(Since.refl _).drew)).mono ?_;rintro e w5 ⟨rfl,hs5⟩;dsimp only))
  have qL:Hid (Since w1 w5):=H3.out.1.trans ((Since.refl _).drew.trans hs5);clear hs5;go_wp2_with fail
  go_ret2;exact⟨by rw[Xp.out];rfl,qL.out⟩
 have htx:aV S.X l s=none:=by
  unfold aV;rw[jm hno]
  rfl
 have Xp:Hid (aV S.X l s=none):=htx;clear hno htx;go_wp2_with fail
 go_ret2;exact⟨by rw[Xp.out];rfl,H3.out.1⟩
def NB (l:List Fi):List Value:=l.map (fun f=>.string f.nm)
theorem Qi (l:List Fi) (k:Nat) (f:Fi) (h:l[k]?=some f):NB (l.take (k+1))=NB (l.take k)++[.string f.nm]:=by
 unfold NB;rw[List.take_add_one,h];simp
set_option maxHeartbeats 8000000 in
theorem Il (h:Fm w0 w fb vb db cb kb kt S v lv d l) (LK:l.length≤1000) :
  Calls Tryz.prog 28 #[.pointer (some ⟨fb,0,none⟩)] w fun e w'=>∃x,e=.returned x∧w'.ownsRow w.heap.size 9 1 x l.length (NB l)∧Since w w':=by
 obtain⟨i0,hi,hz0,hz1,hz2⟩:=info_parts' Dx;have HI:Hid (Tryz.prog.info? 9=some i0∧i0.zero=some (.string ⟨#[]⟩)∧i0.size=1∧i0.bytes=16):=⟨hi,hz0,hz1,hz2⟩
 clear hi hz0 hz1 hz2;have hor:=aO fb vb w h.c0;have p1:=h.c1;have HL:Hid (iX w lv l):=h.LP;have Ih:Hid (Calls Tryz.prog 66 #[.pointer (some ⟨fb,0,none⟩)] w fun e w'=>e=.returned (.pointer (some ⟨fb,0,none⟩))∧w'=w):=hor;obtain⟨la,lc,rfl,_⟩:=h.LP;clear h hor;go_enter Tryz.func28,Tryz.ntmps28
 go_wp2_with fail
 refine Ih.out.mono ?_;rintro e w1 ⟨rfl,hw1⟩;subst hw1;go_wp2_with fail
 clear p1;go_loopw [12,3] (fun i x wr=>∃k:Nat,k≤l.length∧i=.int .i64 k∧wr.ownsRow w1.heap.size 9 1 x k (NB (l.take k))∧Since w1 wr) (fun i _ _=>l.length-(intOf i).toNat)
 case atStart=>exact⟨0,by omega,rfl,World.ownsRow_nil _ _ _ _,Since.refl _⟩
 obtain⟨k,hk,rfl,hx,hS⟩:=hrel;have HX:Hid (wr.ownsRow w1.heap.size 9 1 u3 k (NB (l.take k))):=hx;have HS:Hid (Since w1 wr):=hS;clear hx hS;by_cases hlt:k<l.length
 ·have hlt2:(k:Int)<l.length:=by omega
  have hE:Hid (l[k]?=some l[k]):=List.getElem?_eq_getElem hlt;have Za:Hid (NB (l.take (k+1))=NB (l.take k)++[.string (l[k]).nm]):=Qi l k _ hE.out;generalize l[k]=f at *;obtain⟨k1,o1,u1,rfl,hi1,hl1,q0,q1,q2⟩:=(HL.out.since HS.out).at_ hE.out;obtain⟨a1,b1,rfl,_,_⟩:=hi1;go_upto_region 5 with fail
  clear q0 q1 q2;generalize hw2:wr.alloc (.cells #[.string f.nm,.int .i64 f.sz,.slice a1 f.cs.length b1] 122)=w2;have p0:w2.cell? ⟨wr.heap.size,0,none⟩=some (.string f.nm):=by rw[←hw2];simp
  have HS2:Hid (Since wr w2):=by rw[←hw2];exact(Since.refl _).alloc _
  have Sw:Hid (w1.heap.size≤w2.heap.size):=Nat.le_trans HS.out.size HS2.out.size;clear hw2;go_wp2_with (at_builtin;refine wpList_append_own _ (by rfl) _ _ _ (by rfl) w1.heap.size 9 i0 _ 1 16 Tryz.underlying28 HI.out.1 HI.out.2.1 HI.out.2.2.1 HI.out.2.2.2 (by rfl) (by decide) _ k (NB (l.take k)) (by rfl) (World.ownsRow.alloc (En.bi HX.out HS2.out) _) ⟨w2.heap.size,0,none⟩ 1 1 [.string f.nm] (by rfl) (by rfl) (World.news_of_block (heap_alloc_new w2 _)) (by simp[Value.oneCell']) (by unfold maxLen;omega) (by omega) (by have:=Sw.out;simp;omega) ?_;intro x' w3 hown1 hgrow _)
  have Jz:Hid (w3.ownsRow w1.heap.size 9 1 x' (k+1) (NB (l.take k)++[.string f.nm])):=hown1;have Fx:Hid (Since w1 w3):=Below.grown (Since.alloc (HS.out.trans HS2.out) _) hgrow (by have:=Sw.out;simp;omega) (fun j hj=>(HX.out.lt j hj).1);clear hown1 hgrow;go_wp2_with fail
  go_roundw
  case rel=>exact⟨k+1,by omega,by go_num,by rw[Za.out];exact Jz.out,Fx.out⟩
  case measure=>simp[intOf];omega
 have hke:k=l.length:=by omega
 subst hke;go_wp2_with fail
 go_ret;exact⟨_,rfl,by have:=HX.out;rw[List.take_length] at this;exact this,HS.out⟩
end
end Fl
end Go.Proofs.YtmhcfaaggkidjaaGreatDoor
end
section
namespace Go.Proofs.YtmhcfaaggkidjaaGreatDoor
set_option maxRecDepth 100000
namespace Fl
open Go.RowKit Go.Sort Go.Shelf
open En (Fi iX Ints fZ Row)
open Vl
def slP:Value→Option Addr × Nat × Nat
 | .slice a n c=>(a,n,c)
 | _=>(none,0,0)
def SF (p:List (Fi × Value)):List Fv:=p.map (fun x=>(x.1.nm,x.1.sz,slP x.2))
theorem Ak:∀(p:List (Fi × Value)),(∀x ∈ p,∃a n c,x.2=.slice a n c)→En.iF p=aA (SF p)
 | [],_=>rfl
 | x::r,h=>by
  obtain⟨a,n,c,e⟩:=h x List.mem_cons_self;have ih:=Ak r (fun y hy=>h y (List.mem_cons_of_mem _ hy));show [.string x.1.nm,.int .i64 x.1.sz,x.2]++En.iF r=.string x.1.nm::.int .i64 x.1.sz::.slice (slP x.2).1 (slP x.2).2.1 (slP x.2).2.2::aA (SF r)
  rw[ih,e]
  rfl
theorem qz {b:Nat} {W:World} {v:Value} {p:List (Fi × Value)} (h:Row b W v p):∀x ∈ p,∃a n c,x.2=.slice a n c:=fun x hx=>by
 obtain⟨a,c,e,_⟩:=h.ints x hx;exact⟨a,_,c,e⟩
theorem Uy {b:Nat} {W:World} {v:Value} {p:List (Fi × Value)} (h:Row b W v p):W.ownsRow b 122 3 v (SF p).length (aA (SF p)):=by
 have h1:=h.own;rw[Ak p (qz h)] at h1;unfold SF at *;rw[List.length_map];exact h1
theorem Qj {P:Nat→Prop} {b:Nat} {W:World} {v:Value} {p:List (Fi × Value)} (h:Row b W v p) (hP:∀k,b≤k→k<W.heap.size→¬P k):Each P W (SF p) (p.map (fun x=>x.1)):=by
 refine⟨by simp[SF],fun j f x hj hx=>?_⟩;unfold SF at hx;rw[List.getElem?_map] at hj hx;cases e:p[j]? with
 | none=>rw[e] at hj;cases hj
 | some y=>
  rw[e] at hj hx;simp only[Option.map_some,Option.some.injEq] at hj hx;subst hj hx;have hm:y ∈ p:=List.mem_of_getElem? e;obtain⟨a,n,c,es⟩:=qz h y hm;have hi:=h.ints y hm;refine⟨rfl,rfl,?_,fun k o ek=>?_⟩
  ·rw[es] at hi ⊢;exact hi
  rw[es] at ek;have ek':a=some ⟨k,o,none⟩:=ek;subst ek';obtain⟨h1,cur,fz,h2⟩:=h.far y hm k o n c es;have h3:=(Array.getElem?_eq_some_iff.1 h2).1;exact⟨h3,hP k (by omega) h3⟩
theorem eB.ok' {kb kt:ByteArray} {D:Dv} {c r:Int} {S:Vs} (h:eB kb kt (fresh D c) r S) (hw:D.ws.length≤1) (hc:0≤c) (hr:r=0):S.ok (c+1):=by
 rcases h with⟨h1,_,rfl⟩ | ⟨h1,h2,_,rfl⟩ | ⟨h1,h2,h3,_,rfl⟩ | h
 ·exact zT kb kt D (c+1) hw (by omega) h1
 ·have h2':c=0:=h2;subst h2';exact(DL D hw).le (by omega)
 ·exact(zT kb kt D c hw hc h3).le (by omega)
 exact absurd hr (by obtain⟨_,_,_,h,_⟩:=h;omega)
def BR (w0 w w':World) (db cb:Nat) (s:ByteArray) (D:Dv) (c:Int) (v:Value) (e:Ending):Prop:=
 ∃vb r S' v',eB (bz s) (aT s) (fresh D c) r S'∧w.heap.size≤vb∧bg w0 w' vb db cb (bz s) (aT s) S' v'∧Fs (fun k=>k=db∨k=cb∨v.ownBlock=some k) w w'∧Nx w v.ownBlock v'.ownBlock∧
  ((r≠0∧e=.returned (.tuple #[.pointer none,ev r]))∨(r=0∧En.parse (bf S'.X [0,1,2])=none∧e=.returned (.tuple #[.pointer none,En.dM 15]))∨
   (r=0∧∃l fb lv d,En.parse (bf S'.X [0,1,2])=some l∧e=.returned (.tuple #[.pointer (some ⟨fb,0,none⟩),.nilIface])∧w.heap.size≤fb∧Fm w0 w' fb vb db cb (bz s) (aT s) S' v' lv d l∧Nl w (.slice none 0 0) [] lv d))
set_option maxHeartbeats 8000000 in
theorem Mi {w0 w:World} {db cb:Nat} {D:Dv} {c:Int} {v:Value} (s:ByteArray) (hs:s.size=16) (hT:Sm.jW w0) (LB:En.Lb w0) (hc:0≤c∧c<1000000000) (hw:D.ws.length≤1) (h:DC w0 w db cb D c v) :
  Calls Tryz.prog 21 #[.pointer (some ⟨db,0,none⟩),.pointer (some ⟨cb,0,none⟩),.string s] w fun e w'=>BR w0 w w' db cb s D c v e:=by
 have Wt:Hid (Calls Tryz.prog 62 #[.pointer (some ⟨db,0,none⟩),.pointer (some ⟨cb,0,none⟩),.string s] w fun e w'=>BH w0 w w' db cb s D c v e):=a0l s hs hT hc h;have HL:Hid (En.Lb w0∧D.ws.length≤1∧0≤c∧Since w0 w):=⟨LB,hw,hc.1,h.since⟩
 unfold BR;unfold BH at Wt;clear h hw LB hc hT hs;generalize bz s=kb at *;generalize aT s=kt at *;go_enter Tryz.func21,Tryz.ntmps21
 go_wp2_with fail
 refine Wt.out.mono ?_;rintro e w1 ⟨vb,r,S1,v1,hto,he,hvb,tY,hf,hn⟩;have H1:Hid (eB kb kt (fresh D c) r S1∧w.heap.size≤vb∧bg w0 w1 vb db cb kb kt S1 v1∧Fs (fun k=>k=db∨k=cb∨v.ownBlock=some k) w w1∧Nx w v.ownBlock v1.ownBlock):=⟨hto,hvb,tY,hf,hn⟩
 clear hto hvb tY hf hn;rcases he with⟨hr,rfl⟩ | ⟨hr,rfl⟩
 ·have HR:Hid (r=0):=hr;clear hr;have hok:=eB.ok' H1.out.1 HL.out.2.1 HL.out.2.2.1 HR.out;have hx:∀i,(S1.X i).size≤80:=hok.txt;go_wp2_with fail
  refine(pF w1).mono ?_;rintro e w2 ⟨rfl,ho2,hs2⟩;have hints:Ints w2 (.slice (some ⟨w1.heap.size,0,none⟩) 3 3) [0,1,2]:=by
   refine⟨_,3,rfl,by simp,fun _=>⟨w1.heap.size,0,rfl,(ho2.lt _ rfl).2,fun j x hj=>?_⟩⟩;have hjl:=(List.getElem?_eq_some_iff.1 hj).1;rw[Nat.zero_add,ho2.cellAt j (by simpa using hjl)];have:j=0∨j=1∨j=2:=by simp at hjl;omega
   rcases this with rfl | rfl | rfl<;>simp at hj ⊢<;>exact hj
  have hj:=xS (H1.out.2.2.1.go hs2) hx [0,1,2] _ hints (by simp) (by simp);have HJ:Hid (Calls Tryz.prog 63 #[.pointer (some ⟨vb,0,none⟩),.slice (some ⟨w1.heap.size,0,none⟩) 3 3] w2 fun e w'=>e=.returned (.tuple #[.string ⟨(bf S1.X [0,1,2]).toArray⟩,.nilIface])∧Since w2 w'):=hj;have hcl:=rX S1.X hx [0,1,2];have hz:(⟨(bf S1.X [0,1,2]).toArray⟩:ByteArray).size≤1000:=by
   show (bf S1.X [0,1,2]).toArray.size≤1000
   simp at hcl ⊢;omega
  have hpa:∀W,Since w2 W→_:=fun W hW=>En.LQ ⟨(bf S1.X [0,1,2]).toArray⟩ hz W (HL.out.1.since ((H1.out.2.2.1.go hs2).since.trans hW))
  have ZU:Hid (∀W,Since w2 W→Calls Tryz.prog 65 #[.string ⟨(bf S1.X [0,1,2]).toArray⟩] W fun e w'=>((∃l v,En.parse (bf S1.X [0,1,2])=some l∧e=.returned (.tuple #[v,.nilIface])∧iX w' v l∧∃p,p.map (fun x=>x.1)=l∧Row W.heap.size w' v p)∨(En.parse (bf S1.X [0,1,2])=none∧e=.returned (.tuple #[.slice none 0 0,En.dM 3])))∧Since W w'):=hpa;have HS2:Hid (Since w1 w2):=hs2;clear hpa hj hz hcl hints ho2 hs2 hx hok;go_wp2_with fail
  refine HJ.out.mono ?_;rintro e w3 ⟨rfl,hs3⟩;have iw:Hid (Since w1 w3):=HS2.out.trans hs3;have a3o:Hid (Since w2 w3):=hs3;clear hs3;generalize (⟨(bf S1.X [0,1,2]).toArray⟩:ByteArray)=tx at *;go_wp2_with fail
  refine(ZU.out w3 a3o.out).mono ?_;clear ZU;rintro e w4 ⟨hp,hs4⟩;have iY:Hid (Since w1 w4∧Since w3 w4):=⟨iw.out.trans hs4,hs4⟩
  clear hs4;rcases hp with⟨l,lv,hpl,rfl,Ex,p,hpe,hrow⟩ | ⟨hpn,rfl⟩
  ·have HP:Hid (En.parse (bf S1.X [0,1,2])=some l∧p.map (fun x=>x.1)=l∧Row w3.heap.size w4 lv p):=⟨hpl,hpe,hrow⟩
   obtain⟨la,lc,rfl,_⟩:=Ex;clear hpl hpe hrow;go_wp2_with fail
   go_ret2;have hv4:=H1.out.2.2.1.go iY.out.1;have hS5:Since w4 (w4.alloc (.cells #[.pointer (some ⟨vb,0,none⟩),.slice la l.length lc] 114)):=(Since.refl _).alloc _;have hrow:=HP.out.2.2;have hown:=Uy hrow;refine⟨vb,r,S1,v1,H1.out.1,H1.out.2.1,hv4.go hS5,H1.out.2.2.2.1.trans (Fs.ah (iY.out.1.trans hS5)),H1.out.2.2.2.2,Or.inr (Or.inr ⟨HR.out,l,w4.heap.size,.slice la l.length lc,SF p,HP.out.1,rfl,Nat.le_trans H1.out.2.2.2.1.size iY.out.1.size,(⟨hv4.go hS5,by simp,by simp,by simp,Nat.le_trans hv4.since.size (Nat.le_refl _),hv4.GH,(XV hown).fs (Fs.ah (S:=fun _=>False) hS5) (fun k o n c e=>?_),fun k o n c e=>?_,?_,Ty.new w4 _ _⟩:Fm _ _ _ _ _ _ _ _ _ _ _ _ _),?_⟩)⟩
   ·have:=hown.lt k (by rw[e];rfl);exact⟨this.2,fun h=>h⟩
   ·have h1:=hown.lt k (by rw[e];rfl);refine⟨Nat.lt_of_lt_of_le h1.2 hS5.size,fun hp=>?_⟩;rcases hp with rfl | hp
    ·omega
    exact(H1.out.2.2.1.go iw.out).rH h1.1 hp
   ·have he:=Qj (P:=fun k=>k=w4.heap.size∨VP vb db cb v1 k) hrow (fun k hk hlt hp=>by
     rcases hp with rfl | hp
     ·omega
     exact(H1.out.2.2.1.go iw.out).rH hk hp)
    rw[HP.out.2.1] at he;exact he.since hS5
   have hsz:w.heap.size≤w3.heap.size:=Nat.le_trans H1.out.2.2.2.1.size iw.out.size;refine⟨fun k o n c e=>Or.inl ?_,fun x hx k o e=>Or.inl ?_⟩
   ·have:=hown.lt k (by rw[e];rfl);omega
   unfold SF at hx;obtain⟨y,hy,rfl⟩:=List.mem_map.1 hx;obtain⟨a,n,c,es⟩:=qz hrow y hy;rw[es] at e;have e':a=some ⟨k,o,none⟩:=e;subst e';have:=(hrow.far y hy k o n c es).1;omega
  have HP:Hid (En.parse (bf S1.X [0,1,2])=none):=hpn;clear hpn;have her:En.dM 3=.iface 32 (.int .i64 3):=rfl;rw[her];go_wp2_with fail
  go_ret2;exact⟨vb,r,S1,v1,H1.out.1,H1.out.2.1,H1.out.2.2.1.go iY.out.1,H1.out.2.2.2.1.trans (Fs.ah iY.out.1),H1.out.2.2.2.2,Or.inr (Or.inl ⟨HR.out,HP.out,rfl⟩)⟩
 have HR:Hid (r≠0):=hr;rw[Af hr];clear hr;go_wp2_with fail
 go_ret2;exact⟨vb,r,S1,v1,H1.out.1,H1.out.2.1,H1.out.2.2.1,H1.out.2.2.2.1,H1.out.2.2.2.2,Or.inl ⟨HR.out,by rw[Af HR.out];rfl⟩⟩
end Fl
end Go.Proofs.YtmhcfaaggkidjaaGreatDoor
end
section
namespace Go.Proofs.YtmhcfaaggkidjaaGreatDoor
set_option maxRecDepth 100000
namespace Fl
open Go.RowKit Go.Sort Go.Shelf
open En (Fi iX Ints fZ Row bS bu need aP filled eX)
open Vl
theorem pI (x:Fv):∀d:List Fv,aA (d++[x])=aA d++[.string x.1,.int .i64 x.2.1,.slice x.2.2.1 x.2.2.2.1 x.2.2.2.2]
 | []=>rfl
 | y::r=>by
  have ih:=pI x r;have e:aA (y::r)=.string y.1::.int .i64 y.2.1::.slice y.2.2.1 y.2.2.2.1 y.2.2.2.2::aA r:=rfl;have e2:aA (y::r++[x])=.string y.1::.int .i64 y.2.1::.slice y.2.2.1 y.2.2.2.1 y.2.2.2.2::aA (r++[x]):=rfl;rw[e,e2,ih]
  rfl
section
variable {w0 w w':World} {fb vb db cb:Nat} {kb kt:ByteArray} {S:Vs} {v lv:Value} {d d0:List Fv} {l l0:List Fi}
set_option maxHeartbeats 8000000 in
theorem Qk (B:Base w0 kb kt) (LB:En.Lb w0) (n:Int) (ho:S.ok n) (hn:n+2000<900000000) (h:Fm w0 w fb vb db cb kb kt S v lv d l) (hr:En.right l=true) (s t:ByteArray) (hs:s.size≤100000) (ht:t.size≤100000) :
  Calls Tryz.prog 22 #[.pointer (some ⟨fb,0,none⟩),.string s,.string t] w fun e w'=>
   (aP s.data.toList=false∧e=.returned (En.dM 5)∧Since w w')∨(aP s.data.toList=true∧dQ l s t=true∧e=.returned (En.dM 12)∧Since w w')∨
   (aP s.data.toList=true∧dQ l s t=false∧(eZ kb kt (ax l s t) t S).2.ok (n+(ax l s t).length)∧∃v1,
    ((eZ kb kt (ax l s t) t S).1≠0→e=.returned (ev (eZ kb kt (ax l s t) t S).1)∧Fm w0 w' fb vb db cb kb kt (eZ kb kt (ax l s t) t S).2 v1 lv d l)∧
    ((eZ kb kt (ax l s t) t S).1=0→∃l' d' Ah,(aH l s++[iK l s t]).Perm l'∧gH l'∧e=.returned (ev (bC kb kt l' (eZ kb kt (ax l s t) t S).2).1)∧(bC kb kt l' (eZ kb kt (ax l s t) t S).2).2.ok (n+(ax l s t).length+3)∧
     ((bC kb kt l' (eZ kb kt (ax l s t) t S).2).1=0→Fm w0 w' fb vb db cb kb kt (bC kb kt l' (eZ kb kt (ax l s t) t S).2).2 v1 Ah d' l'∧Nl w lv d Ah d')∧((bC kb kt l' (eZ kb kt (ax l s t) t S).2).1≠0→Fm w0 w' fb vb db cb kb kt (bC kb kt l' (eZ kb kt (ax l s t) t S).2).2 v1 lv d l))∧
    Fs (fun k=>k=fb∨VP vb db cb v k) w w'∧(∀k,k<w.heap.size→¬VP vb db cb v k→¬VP vb db cb v1 k)):=by
 have hor:=aO fb vb w h.c0;have p1:=h.c1;have LK:l.length≤8:=((aX l).1 hr).1.len;have hdl:=h.each.len;have HF:Hid (Fm w0 w fb vb db cb kb kt S v lv d l):=h;have HR:Hid (En.right l=true∧l.length≤8∧s.size≤100000∧t.size≤100000):=⟨hr,LK,hs,ht⟩
 have HO:Hid (S.ok n∧n+2000<900000000):=⟨ho,hn⟩
 have HWI:Hid (Calls Tryz.prog 67 #[.pointer (some ⟨fb,0,none⟩),.string s] w fun e w'=>∃v',e=.returned v'∧w'.ownsRow w.heap.size 122 3 v' (d.filter (aR s)).length (aA (d.filter (aR s)))∧Since w w'∧(v'=.slice none 0 0→d=[])):=uR _ w fb _ d l s h.c1 h.sr h.each (by omega);have Ih:Hid (Calls Tryz.prog 66 #[.pointer (some ⟨fb,0,none⟩)] w fun e w'=>e=.returned (.pointer (some ⟨fb,0,none⟩))∧w'=w):=hor;clear h hr ho hn hor LK p1 hdl hs ht;go_enter Tryz.func22,Tryz.ntmps22
 go_wp2_with fail
 refine Ih.out.mono ?_;rintro e w1 ⟨rfl,hw1⟩;subst hw1;go_wp2_with fail
 refine(En.xH s _).mono ?_;rintro e w2 ⟨rfl,hw2⟩;subst hw2;cases hB:aP s.data.toList with
 | false=>
  have HB:Hid (aP s.data.toList=false):=hB;clear hB;go_wp2_with fail
  go_ret;exact Or.inl ⟨HB.out,rfl,Since.refl _⟩
 | true=>
  have HB:Hid (aP s.data.toList=true):=hB;clear hB;go_wp2_with fail
  refine HWI.out.mono ?_;rintro e w4 ⟨v4,rfl,XX,hs4,hnil⟩;have Us:=(HF.out.each.filter s).since hs4;have Ex:iX w4 v4 (aH l s):=Uu Us XX;have hrb:En.right (aH l s)=true:=(((aX l).1 HR.out.1).1.filter _).right (List.Perm.refl _) (yh HR.out.1 s);have XO:Hid (Calls Tryz.prog 68 #[v4] w4 fun e w'=>∃x,e=.returned x∧w'.ownsRow w4.heap.size 3 1 x (bS (aH l s)).length (eX (bS (aH l s)))∧Since w4 w'):=En.kV _ v4 w4 Ex hrb;have hvl:∃a c,v4=.slice a (aH l s).length c:=by
   obtain⟨a,c,h1,_⟩:=Ex;exact⟨a,c,h1⟩
  obtain⟨a4,c4,rfl⟩:=hvl;have H4:Hid (w4.ownsRow w2.heap.size 122 3 (.slice a4 (aH l s).length c4) (d.filter (aR s)).length (aA (d.filter (aR s)))∧Since w2 w4):=⟨XX,hs4⟩
  clear XX hs4 hnil Us Ex hrb;go_wp2_with fail
  refine XO.out.mono ?_;rintro e w5 ⟨x,rfl,YV,hs5⟩;have hxl:∃a c,x=.slice a (bS (aH l s)).length c:=by
   rcases YV.2 with⟨h',h0⟩ | ⟨g,cap,cur,h',_⟩
   ·exact⟨none,0,by rw[h',h0]⟩
   exact⟨_,_,h'⟩
  obtain⟨a5,c5,rfl⟩:=hxl;have H5:Hid (w5.ownsRow w4.heap.size 3 1 (.slice a5 (bS (aH l s)).length c5) (bS (aH l s)).length (eX (bS (aH l s)))∧Since w4 w5):=⟨YV,hs5⟩
  clear YV hs5;go_wp2_with fail
  refine(En.Ee (t.size:Int) (by have:=HR.out.2.2.2;omega) _).mono ?_;rintro e w6 ⟨rfl,hw6⟩;subst hw6;obtain⟨k,hk⟩:∃k:Nat,need t.size=k:=⟨(need t.size).toNat,by have:=nO t.size;omega⟩
  rw[hk];have HK:Hid (need t.size=k):=hk;clear hk;by_cases h8:8≤(aH l s).length
  ·have h8i:(8:Int)≤((aH l s).length:Int):=by omega
   have hfu:dQ l s t=true:=by unfold dQ;rw[decide_eq_true h8];rfl
   have XY:Hid (dQ l s t=true):=hfu;clear hfu h8;go_wp2_with fail
   go_ret;exact Or.inr (Or.inl ⟨HB.out,XY.out,rfl,H4.out.2.trans H5.out.2⟩)
  have h8i:¬(8:Int)≤((aH l s).length:Int):=by omega
  by_cases hf:(bS (aH l s)).length<k
  ·have hfi:((bS (aH l s)).length:Int)<(k:Int):=by omega
   have hfu:dQ l s t=true:=by unfold dQ;rw[HK.out,decide_eq_true hfi,Bool.or_true]
   have XY:Hid (dQ l s t=true):=hfu;clear hfu h8 hf;go_wp2_with fail
   go_ret;exact Or.inr (Or.inl ⟨HB.out,XY.out,rfl,H4.out.2.trans H5.out.2⟩)
  have hfi:¬((bS (aH l s)).length:Int)<(k:Int):=by omega
  have hfu:dQ l s t=false:=by unfold dQ;rw[HK.out,decide_eq_false hfi,decide_eq_false h8];rfl
  have XY:Hid (dQ l s t=false):=hfu;have YW:(bS (aH l s)).length≤c5:=by
   rcases H5.out.1.2 with⟨h',h0⟩ | ⟨g,cap,cur,h',_,_,hnc,_⟩
   ·omega
   simp only[Value.slice.injEq,Option.some.injEq,Addr.mk.injEq,and_true,true_and] at h';omega
  have hkc:k≤c5:=by omega
  have hcl:(ax l s t).length=k:=by unfold ax;rw[List.length_take,HK.out];omega
  have XZ:=H4.out.2.trans H5.out.2;have F6:=HF.out.since XZ;have hints:Ints w6 (.slice a5 k c5) (ax l s t):=by
   refine⟨a5,c5,by rw[hcl],by rw[hcl];exact hkc,fun hpos=>?_⟩;rcases H5.out.1.2 with⟨h',h0⟩ | ⟨g,cap,cur,h',_,_,hnc,_⟩
   ·omega
   simp only[Value.slice.injEq,true_and] at h';obtain⟨rfl,rfl⟩:=h';refine⟨g,0,rfl,(H5.out.1.lt g rfl).2,fun j x hj=>?_⟩;have hj2:(bS (aH l s))[j]?=some x:=by
    unfold ax at hj;rw[List.getElem?_take] at hj;split at hj
    ·exact hj
    cases hj
   have hjl:=(List.getElem?_eq_some_iff.1 hj2).1;rw[Nat.zero_add,H5.out.1.cellAt j (by omega)];unfold eX;rw[List.getElem?_map,hj2]
   rfl
  have a0x:∀k' o m c,Value.slice a5 k c5=.slice (some ⟨k',o,none⟩) m c→¬VP vb db cb v k':=fun k' o m c e=>by
   simp only[Value.slice.injEq] at e;have h1:=H5.out.1.lt k' (by rw[e.1];rfl);exact(HF.out.rZ.go H4.out.2).rH h1.1
  have HFW:Hid (Calls Tryz.prog 70 #[.pointer (some ⟨fb,0,none⟩),.slice a5 k c5,.string t] w6 fun e w'=>e=.returned (ev (eZ kb kt (ax l s t) t S).1)∧bF w0 w6 w' vb db cb kb kt (eZ kb kt (ax l s t) t S).2 v∧(eZ kb kt (ax l s t) t S).2.ok (n+(ax l s t).length)):=
   xU B n HO.out.1 (by have:=HO.out.2;omega) F6.rZ F6.c0 F6.NA (ax l s t) _ hints a0x (by rw[hcl];have:(bS (aH l s)).length≤21:=List.length_filter_le _ _;omega) t
  have H6:Hid (Fm w0 w6 fb vb db cb kb kt S v lv d l∧Since w2 w6∧Ints w6 (.slice a5 k c5) (ax l s t)):=⟨F6,XZ,hints⟩
  clear hfu h8 hcl XZ F6 hints a0x;obtain⟨R,hR⟩:∃R,eZ kb kt (ax l s t) t S=R:=⟨_,rfl⟩
  obtain⟨rn,S1⟩:=R;rw[hR] at HFW;have HRR:Hid (eZ kb kt (ax l s t) t S=(rn,S1)):=hR;clear hR;go_wp2_with fail
  refine HFW.out.mono ?_;rintro e w7 ⟨rfl,hvt,hok⟩;obtain⟨v7,F7,hf7,hnx⟩:=H6.out.1.XW hvt;have H7:Hid (Fm w0 w7 fb vb db cb kb kt S1 v7 lv d l∧S1.ok (n+(ax l s t).length)∧Fs (fun k=>k=fb∨VP vb db cb v k) w2 w7∧(∀k,k<w6.heap.size→¬VP vb db cb v k→¬VP vb db cb v7 k)∧Fs (VP vb db cb v) w6 w7):=⟨F7,hok,(Fs.ah H6.out.2.1).trans (gU hf7 (fun k e=>.inr e)),hnx,hf7⟩
  clear F7 hok hnx hf7 hvt;by_cases e0:rn=0
  ·subst e0;rw[BN];go_wp2_with fail
   refine(En.ed s HR.out.2.2.1 w7).mono ?_;rintro e w8 ⟨rfl,Ya⟩;have hdl:(aH l s).length=(d.filter (aR s)).length:=(HF.out.each.filter s).len;have hrow:∀g,(Value.slice a4 (aH l s).length c4).ownBlock=some g→w2.heap.size≤g:=fun g hg=>(H4.out.1.lt g hg).1
   have Uz:∀g,w2.heap.size≤g→g≠fb∧¬VP vb db cb v g:=fun g hg=>⟨fun e=>by have:=World.block_lt_of_cell? w2 _ HF.out.c1;simp at this;omega,HF.out.rZ.rH hg⟩
   have ho7:w7.ownsRow w2.heap.size 122 3 (.slice a4 (aH l s).length c4) (d.filter (aR s)).length (aA (d.filter (aR s))):=Wo (En.bi H4.out.1 H5.out.2) H7.out.2.2.2.2 (fun g hg=>(Uz g (hrow g hg)).2);have HO8:Hid (w8.ownsRow w2.heap.size 122 3 (.slice a4 (aH l s).length c4) (d.filter (aR s)).length (aA (d.filter (aR s)))):=En.bi ho7 Ya;have H8:Hid (Since w7 w8∧(∀g,(Value.slice a4 (aH l s).length c4).ownBlock=some g→w2.heap.size≤g)∧(∀g,w2.heap.size≤g→g≠fb∧¬VP vb db cb v g)∧(aH l s).length=(d.filter (aR s)).length):=⟨Ya,hrow,Uz,hdl⟩
   have a3q:w2.heap.size≤w8.heap.size:=Nat.le_trans H7.out.2.2.1.size Ya.size;obtain⟨i0,hi,hz0,hz1,hz2⟩:=info_parts En.JM;have HI:Hid (Tryz.prog.info? 122=some i0∧i0.zero=some (.agg #[.string ByteArray.empty,.int .i64 0,.slice none 0 0])∧i0.size=3∧i0.bytes=48):=⟨hi,hz0,hz1,hz2⟩
   have HB8:Hid ((d.filter (aR s)).length+1≤maxLen∧((d.filter (aR s)).length+1)*48≤140737488355328∧w2.heap.size≤(w8.alloc (.cells #[.string s,.int .i64 t.size,.slice a5 k c5] 122)).heap.size):=by
    have h1:(d.filter (aR s)).length≤8:=by omega
    exact⟨by unfold maxLen;omega,by omega,by simp;omega⟩
   clear hi hz0 hz1 hz2 ho7 Ya hdl hrow Uz a3q;go_wp2_with (at_builtin;refine wpList_append_lies _ (by rfl) _ _ 110 (by rfl) w2.heap.size 122 i0 _ 3 48 Tryz.underlying110 HI.out.1 HI.out.2.1 HI.out.2.2.1 HI.out.2.2.2 (by rfl) (by decide) _ _ _ (by rfl) (World.ownsRow.alloc HO8.out _) ⟨w8.heap.size,0,none⟩ 1 1 [.string s,.int .i64 t.size,.slice a5 k c5] (by rfl) (by rfl) (World.news_of_block (heap_alloc_new w8 _)) (by simp[Value.oneCell']) (by decide) HB8.out.1 HB8.out.2.1 HB8.out.2.2 (w8.heap.size+1) (by simp) ?_;intro g cap w9 hown hgrow hat hlt)
   have nR:∀r,(Value.slice a4 (aH l s).length c4).ownBlock=some r→w2.heap.size≤r∧r<w4.heap.size:=fun r hr=>H4.out.1.lt r hr
   have h46:w4.heap.size≤w6.heap.size:=H5.out.2.size;have h24:w2.heap.size≤w4.heap.size:=H4.out.2.size;have h67:w6.heap.size≤w7.heap.size:=H7.out.2.2.2.2.size;have h78:w7.heap.size≤w8.heap.size:=H8.out.1.size;have hg2:w2.heap.size≤g:=by
    rcases hat with hat | hat
    ·exact(nR g hat).1
    omega
   have hfr:Fs (fun r=>(Value.slice a4 (aH l s).length c4).ownBlock=some r) (w8.alloc (.cells #[.string s,.int .i64 t.size,.slice a5 k c5] 122)) w9:=by
    obtain⟨g1,g2,g3,g4,g5⟩:=hgrow;exact⟨g1,g2,g3,g4,fun r hr hn=>g5 r hr (fun e=>hn e.symm)⟩
   have UA:Since w7 (w8.alloc (.cells #[.string s,.int .i64 t.size,.slice a5 k c5] 122)):=H8.out.1.alloc _;have XT:∀r,(Value.slice a4 (aH l s).length c4).ownBlock=some r→r≠fb∧¬VP vb db cb v7 r:=fun r hr=>⟨(H8.out.2.2.1 r (nR r hr).1).1,H7.out.2.2.2.1 r (by have:=(nR r hr).2;omega) (H8.out.2.2.1 r (nR r hr).1).2⟩
   have hdi:∀(j:Nat) (x:Fv),d[j]?=some x→∀k o,x.2.2.1=some ⟨k,o,none⟩→k<w2.heap.size:=fun j x hx k o e=>by
    have hj:j<l.length:=by rw[HF.out.each.len];exact(List.getElem?_eq_some_iff.1 hx).1
    exact((HF.out.each.each j l[j] x (List.getElem?_eq_getElem hj) hx).2.2.2 k o e).1
   have F9:Fm w0 w9 fb vb db cb kb kt S1 v7 lv d l:=(H7.out.1.since UA).fs hfr (fun r hr=>Nat.le_trans HF.out.rZ.since.size (nR r hr).1) (fun r _ hr=>XT r hr) (fun k o n c e hr=>by have:=(HF.out.blk k o n c e).1;have:=(nR k hr).1;omega) (fun j x hx k o e hr=>by have:=hdi j x hx k o e;have:=(nR k hr).1;omega);have hgv:¬VP vb db cb v7 g:=by
    rcases hat with hat | hat
    ·exact(XT g hat).2
    exact(H7.out.1.rZ.go H8.out.1).rH (by omega)
   have Ql:Fs (fun r=>(r=fb∨VP vb db cb v r)∨w2.heap.size≤r) w2 w9:=((gU H7.out.2.2.1 (fun r e=>.inl e)).trans (Fs.ah UA)).trans (gU hfr (fun r e=>.inr (nR r e).1));have he9:Each (fun r=>r=g∨r=fb∨VP vb db cb v7 r) w9 (d.filter (aR s)) (aH l s):=((HF.out.each.filter s).wider (P':=fun r=>(r=fb∨VP vb db cb v r)∨w2.heap.size≤r) (fun r hr hp=>hp.elim id (fun h=>by omega))).fs Ql (fun r hr hn h'=>by
    rcases h' with rfl | h' | h'
    ·omega
    ·exact hn (.inl (.inl h'))
    exact H7.out.2.2.2.1 r (by omega) (fun hv=>hn (.inl (.inr hv))) h')
   have Wz:∀k' o,a5=some ⟨k',o,none⟩→w4.heap.size≤k'∧k'<w6.heap.size:=fun k' o e=>H5.out.1.lt k' (by rw[e];rfl)
   have Yb:∀k' o,a5=some ⟨k',o,none⟩→¬VP vb db cb v k':=fun k' o e=>(H8.out.2.2.1 k' (by have:=(Wz k' o e).1;omega)).2
   have hi9:Ints w9 (.slice a5 k c5) (ax l s t):=rY ((rY H6.out.2.2 H7.out.2.2.2.2 (fun k' o e=>⟨(Wz k' o e).2,Yb k' o e⟩)).since UA) hfr (fun k' o e=>⟨by have:=(Wz k' o e).2;simp;omega,fun hr=>by have:=(nR k' hr).2;have:=(Wz k' o e).1;omega⟩);have hs9:w8.heap.size+1≤w9.heap.size:=by have:=hfr.size;simpa using this
   have Yc:=Each.append (x:=(s,(t.size:Int),a5,k,c5)) (f:=iK l s t) ⟨rfl,rfl,hi9,fun k' o e=>⟨by have:=(Wz k' o e).2;omega,fun h'=>by
    have h1:=Wz k' o e;rcases h' with h' | h' | h'
    ·rcases hat with hat | hat
     ·have:=(nR g hat).2;omega
     omega
    ·exact(H8.out.2.2.1 k' (by omega)).1 h'
    exact H7.out.2.2.2.1 k' h1.2 (Yb k' o e) h'⟩⟩ he9
   have hown2:w9.ownsRow w2.heap.size 122 3 (.slice (some ⟨g,0,none⟩) (d.filter (aR s)++[(s,(t.size:Int),a5,k,c5)]).length cap) (d.filter (aR s)++[(s,(t.size:Int),a5,k,c5)]).length (aA (d.filter (aR s)++[(s,(t.size:Int),a5,k,c5)])):=by
    rw[pI,List.length_append];exact hown
   have hfit:=sw ((aX l).1 HR.out.1).1 HB.out XY.out;have hc21:(ax l s t).length≤21:=by
    have:(bS (aH l s)).length≤21:=List.length_filter_le _ _;unfold ax;rw[List.length_take];omega
   have LZ:=yf B LB (n+(ax l s t).length) H7.out.2.1 (by have:=HO.out.2;omega) F9 hown2 (Nat.le_trans HF.out.rZ.since.size hg2) (H8.out.2.2.1 g hg2).1 hgv (fun k o n c e=>by have:=(HF.out.blk k o n c e).1;omega) (fun j x hx k o e=>by have:=hdi j x hx k o e;omega) Yc (by
    have h1:=hfit.len;have h2:=Yc.len;omega) (fun f hf=>by
    rcases List.mem_append.1 hf with hf | hf
    ·exact uS HR.out.1 f (List.mem_filter.1 hf).1
    rw[List.mem_singleton] at hf;subst hf;have:=HR.out.2.2.2;unfold iK;constructor<;>simp<;>omega) (fun l' hp hr=>hfit.right hp hr)
   have hlen1:(d.filter (aR s)++[(s,(t.size:Int),a5,k,c5)]).length=(d.filter (aR s)).length+1:=by simp
   rw[hlen1] at LZ;have a0y:Fs (fun r=>r=fb∨VP vb db cb v r) w2 w9:=⟨Ql.os,Ql.tape,Ql.output,Ql.size,fun r hr hn=>Ql.block r hr (fun h'=>h'.elim hn (fun h''=>by omega))⟩
   refine LZ.mono ?_;rintro e w10 ⟨d',l',v',hp,zM,rfl,hok,hz,hnz,hfs,hnx,hpd⟩;have HNL:Hid (Nl w2 lv d (.slice (some ⟨g,0,none⟩) ((d.filter (aR s)).length+1) cap) d'):=by
    refine⟨fun k o n c e=>Or.inl ?_,fun x hx k o e=>?_⟩
    ·simp only[Value.slice.injEq,Option.some.injEq,Addr.mk.injEq] at e;omega
    rcases List.mem_append.1 (hpd.mem_iff.1 hx) with hx | hx
    ·exact Or.inr ⟨x,(List.mem_filter.1 hx).1,o,e⟩
    rw[List.mem_singleton] at hx;subst hx;have:=(Wz k o e).1;exact Or.inl (by omega)
   clear hpd;have hfin:Fs (fun r=>r=fb∨VP vb db cb v r) w2 w10:=a0y.trans' hfs (fun r hr=>by
    rcases hr with rfl | hr | hr
    ·exact .inr hg2
    ·exact .inl (.inl hr)
    by_cases hv:VP vb db cb v r
    ·exact .inl (.inr hv)
    by_cases hlr:r<w6.heap.size
    ·exact absurd hr (H7.out.2.2.2.1 r hlr hv)
    exact .inr (by omega))
   have hnx2:∀r,r<w2.heap.size→¬VP vb db cb v r→¬VP vb db cb v' r:=fun r hr hv=>hnx r (by omega) (H7.out.2.2.2.1 r (by omega) hv)
   have HZ:Hid ((aH l s++[iK l s t]).Perm l'∧gH l'∧(bC kb kt l' S1).2.ok (n+(ax l s t).length+3)∧((bC kb kt l' S1).1=0→Fm w0 w10 fb vb db cb kb kt (bC kb kt l' S1).2 v' (.slice (some ⟨g,0,none⟩) ((d.filter (aR s)).length+1) cap) d' l')∧((bC kb kt l' S1).1≠0→Fm w0 w10 fb vb db cb kb kt (bC kb kt l' S1).2 v' lv d l)∧Fs (fun r=>r=fb∨VP vb db cb v r) w2 w10∧(∀r,r<w2.heap.size→¬VP vb db cb v r→¬VP vb db cb v' r)):=⟨hp,zM,hok,hz,hnz,hfin,hnx2⟩
   clear nR h46 h24 h67 h78 hg2 hfr UA XT hdi F9 hgv Ql he9 Wz Yb hi9 hs9 Yc hown2 hfit hc21 LZ hown hgrow hat hlt hlen1 a0y hp zM hok hz hnz hfs hnx hfin hnx2;obtain⟨x,hx⟩:∃x,ev (bC kb kt l' S1).1=x:=⟨_,rfl⟩
   rw[hx];have HXX:Hid (ev (bC kb kt l' S1).1=x):=hx;clear hx;go_wp2_with fail
   go_ret;refine Or.inr (Or.inr ⟨HB.out,XY.out,by rw[HRR.out];exact H7.out.2.1,v',fun hne=>absurd (by rw[HRR.out]) hne,fun _=>?_,HZ.out.2.2.2.2.2.1,HZ.out.2.2.2.2.2.2⟩);rw[HRR.out];exact⟨l',d',_,HZ.out.1,HZ.out.2.1,by rw[HXX.out];rfl,HZ.out.2.2.1,fun h0=>⟨HZ.out.2.2.2.1 h0,HNL.out⟩,HZ.out.2.2.2.2.1⟩
  have hev:=Af e0;have HE0:Hid (¬rn=0):=e0;have HEV:Hid (ev rn=.iface 32 (.int .i64 rn)):=hev;rw[hev];clear e0 hev;go_wp2_with fail
  go_ret;refine Or.inr (Or.inr ⟨HB.out,XY.out,by rw[HRR.out];exact H7.out.2.1,v7,fun _=>⟨by rw[HRR.out,HEV.out];rfl,by rw[HRR.out];exact H7.out.1⟩,fun h0=>absurd (by rw[HRR.out] at h0;exact h0) HE0.out,H7.out.2.2.1,fun k hk=>H7.out.2.2.2.1 k (Nat.lt_of_lt_of_le hk H6.out.2.1.size)⟩)
end
end Fl
end Go.Proofs.YtmhcfaaggkidjaaGreatDoor
end
section
namespace Go.Proofs.YtmhcfaaggkidjaaGreatDoor
set_option maxRecDepth 100000
namespace Fl
open Go.RowKit Go.Sort Go.Shelf
open En (Fi iX Ints fZ Row bS bu need aP filled)
open Vl
open Tw (Tb)
section
variable {w0 w w':World} {fb vb db cb:Nat} {kb kt:ByteArray} {S:Vs} {v lv:Value} {d d0:List Fv} {l l0:List Fi} {n:Int} {k:Nat}
theorem Io (B:Base w0 kb kt) (hr:Tw.Rt S.next) (hc:S.c<S.T.count+1) (h:Fm w0 w fb vb db cb kb kt S v lv d l) :
  Calls Tryz.prog 24 #[.pointer (some ⟨fb,0,none⟩)] w fun e w'=>e=.returned (ev (S.flush kt).1)∧bF w0 w w' vb db cb kb kt (S.flush kt).2 v:=by
 have Ih:Hid (Calls Tryz.prog 66 #[.pointer (some ⟨fb,0,none⟩)] w fun e w'=>e=.returned (.pointer (some ⟨fb,0,none⟩))∧w'=w):=aO fb vb w h.c0;have p0:=h.c0;have WA:Hid (Calls Tryz.prog 77 #[.pointer (some ⟨vb,0,none⟩)] w fun e w'=>e=.returned (ev (S.flush kt).1)∧bF w0 w w' vb db cb kb kt (S.flush kt).2 v):=zX B hr hc h.rZ;obtain⟨x,hx⟩:∃x,ev (S.flush kt).1=x:=⟨_,rfl⟩
 rw[hx] at WA ⊢;clear h hr hc B hx;go_enter Tryz.func24,Tryz.ntmps24
 go_wp2_with fail
 refine Ih.out.mono ?_;rintro e w1 ⟨rfl,hw1⟩;subst hw1;go_wp2_with fail
 refine WA.out.mono ?_;rintro e w2 ⟨rfl,hv⟩;have HV:Hid _:=hv;clear hv p0;go_wp2_with fail
 go_ret;exact⟨rfl,HV.out⟩
theorem BS (B:Base w0 kb kt) (ho:S.ok n) (hn:n<1000000000) (h:Fm w0 w fb vb db cb kb kt S v lv d l) :
  Calls Tryz.prog 98 #[.pointer (some ⟨fb,0,none⟩)] w fun e w'=>e=.returned (.tuple #[.int .i64 (S.ae kb kt).1.1,.bool (S.ae kb kt).1.2.1,ev (S.ae kb kt).1.2.2])∧bF w0 w w' vb db cb kb kt (S.ae kb kt).2 v:=by
 have Ih:Hid (Calls Tryz.prog 66 #[.pointer (some ⟨fb,0,none⟩)] w fun e w'=>e=.returned (.pointer (some ⟨fb,0,none⟩))∧w'=w):=aO fb vb w h.c0;have p0:=h.c0;have WA:Hid (Calls Tryz.prog 152 #[.pointer (some ⟨vb,0,none⟩)] w fun e w'=>e=.returned (.tuple #[.int .i64 (S.ae kb kt).1.1,.bool (S.ae kb kt).1.2.1,ev (S.ae kb kt).1.2.2])∧bF w0 w w' vb db cb kb kt (S.ae kb kt).2 v):=uK B n ho hn h.rZ;generalize ev (S.ae kb kt).1.2.2=x at *;generalize (S.ae kb kt).1.1=y at *;generalize (S.ae kb kt).1.2.1=z at *;clear h ho B hn;go_enter Tryz.func98,Tryz.ntmps98
 go_wp2_with fail
 refine Ih.out.mono ?_;rintro e w1 ⟨rfl,hw1⟩;subst hw1;go_wp2_with fail
 refine WA.out.mono ?_;rintro e w2 ⟨rfl,hv⟩;have HV:Hid _:=hv;clear hv p0;go_wp2_with fail
 go_ret3;exact⟨rfl,HV.out⟩
theorem qA (h:Fm w0 w fb vb db cb kb kt S v lv d l):Calls Tryz.prog 97 #[.pointer (some ⟨fb,0,none⟩)] w fun e w'=>e=.returned (.int .i64 S.T.count)∧w'=w:=by
 have Ih:Hid (Calls Tryz.prog 66 #[.pointer (some ⟨fb,0,none⟩)] w fun e w'=>e=.returned (.pointer (some ⟨fb,0,none⟩))∧w'=w):=aO fb vb w h.c0;have p0:=h.c0;have WA:Hid (Calls Tryz.prog 151 #[.pointer (some ⟨vb,0,none⟩)] w fun e w'=>e=.returned (.int .i64 S.T.count)∧w'=w):=Le h.rZ;generalize S.T.count=x at *;clear h;go_enter Tryz.func97,Tryz.ntmps97
 go_wp2_with fail
 refine Ih.out.mono ?_;rintro e w1 ⟨rfl,hw1⟩;subst hw1;go_wp2_with fail
 refine WA.out.mono ?_;rintro e w2 ⟨rfl,hw⟩;subst hw;go_wp2_with fail
 go_ret;exact⟨rfl,rfl⟩
theorem Mj (h:Fm w0 w fb vb db cb kb kt S v lv d l):Calls Tryz.prog 100 #[.pointer (some ⟨fb,0,none⟩)] w fun e w'=>e=.returned (.int .i64 S.free)∧Since w w':=by
 have Ih:Hid (Calls Tryz.prog 66 #[.pointer (some ⟨fb,0,none⟩)] w fun e w'=>e=.returned (.pointer (some ⟨fb,0,none⟩))∧w'=w):=aO fb vb w h.c0;have p0:=h.c0;have WA:Hid (Calls Tryz.prog 154 #[.pointer (some ⟨vb,0,none⟩)] w fun e w'=>e=.returned (.int .i64 S.free)∧Since w w'):=kV h.rZ;generalize S.free=x at *;clear h;go_enter Tryz.func100,Tryz.ntmps100
 go_wp2_with fail
 refine Ih.out.mono ?_;rintro e w1 ⟨rfl,hw1⟩;subst hw1;go_wp2_with fail
 refine WA.out.mono ?_;rintro e w2 ⟨rfl,hw⟩;have HW:Hid (Since w1 w2):=hw;clear hw p0;go_wp2_with fail
 go_ret;exact⟨rfl,HW.out⟩
end
theorem Ph.Qm {S:Vs} {k:Nat} (h:Ph S k):tot S.D≤k:=by
 rcases h with⟨m,h1,h2,h3⟩ | ⟨_,h⟩ | h
 ·rw[h3.tot (by omega)];exact h1
 ·omega
 omega
theorem EA {kb kt:ByteArray} {S:Vs} {n:Int} (h:Vl.Good kb kt S n) (ht:tot S.D<108) (hs:∀z,z<8→S.D.sure z≤S.D.cnt z) (i:Nat) (hi:i<24) (t:ByteArray) (h80:t.size≤80) {c:Int} {T:Tb} {X:Nat→ByteArray} (hsu:rO kb kt S.D c T X) (hw:S.D.ws=[]) :
  rO kb kt (S.write kb kt i t).2.D c T X∧(S.write kb kt i t).2.D.ws=[]∧(S.write kb kt i t).2.c=S.c∧∀z,z<8→(S.write kb kt i t).2.D.sure z≤(S.write kb kt i t).2.D.cnt z:=by
 obtain⟨a,b,c'⟩:=Ha h ht hs i hi t h80 hsu hw;refine⟨a,b,c',?_⟩;clear a b c';have he:S.write kb kt i t=if t=S.X i then (0,S) else if t=⟨#[]⟩ then (0,S.set i 0 0 ⟨#[]⟩ ⟨#[]⟩) else if S.free≤20 then (if (S.ae kb kt).1.2.2≠0 then ((S.ae kb kt).1.2.2,(S.ae kb kt).2) else (S.ae kb kt).2.put kb i (-1) t) else S.put kb i (-1) t:=by
  unfold Vs.write;rw[if_neg (by rw[h.on.dead];decide),if_neg (by omega),if_neg (by omega),Int.toNat_natCast]
 rw[he];by_cases h1:t=S.X i
 ·rw[if_pos h1];exact hs
 rw[if_neg h1];by_cases h2:t=⟨#[]⟩
 ·rw[if_pos h2];exact hs
 rw[if_neg h2,a0s h.on.c16,if_neg (by omega)];obtain⟨z,_,wJ,KV,_,hp⟩:=tK h.on (by omega) kb i (-1) (Or.inl (by omega)) t;rw[hp];intro y hy;show S.D.sure y≤(S.D.app z _).cnt y
 rw[ku];have:=hs y hy;split
 ·rename_i e;subst e;omega
 exact this
theorem EB {kb kt:ByteArray} {c:Int} {T:Tb} {X:Nat→ByteArray}:∀(cs:List Int) (t:ByteArray) (S:Vs) (n:Int) (k:Nat),Vl.Good kb kt S n→Ph S k→k+cs.length<108→n+cs.length<1000000000→(∀c ∈ cs,0≤c∧c<24)→(∀z,z<8→S.D.sure z≤S.D.cnt z)→rO kb kt S.D c T X→S.D.ws=[]→
  rO kb kt (eZ kb kt cs t S).2.D c T X∧(eZ kb kt cs t S).2.D.ws=[]∧(eZ kb kt cs t S).2.c=S.c∧∀z,z<8→(eZ kb kt cs t S).2.D.sure z≤(eZ kb kt cs t S).2.D.cnt z
 | [],t,S,n,k,hg,hp,_,_,_,h1,h2,h3=>⟨h2,h3,rfl,h1⟩
 | c'::r,t,S,n,k,hg,hp,hk,hn,hc,h1,h2,h3=>by
  rw[List.length_cons] at hk hn;have h0:=hc c' List.mem_cons_self;obtain⟨j,rfl⟩:∃j:Nat,c'=j:=⟨c'.toNat,by omega⟩
  have htt:=Ph.Qm hp;obtain⟨a1,a2,a3,a4,a5⟩:=qh hg (by omega) hp (by omega) j (by omega) (t.extract 0 (min t.size 80)) (jR t);obtain⟨b1,b2,b3,b4⟩:=EA hg (by omega) h1 j (by omega) (t.extract 0 (min t.size 80)) (jR t) h2 h3;rw[ym kb kt _ r t S a1];obtain⟨i1,i2,i3,i4⟩:=EB r (t.extract (min t.size 80) t.size) _ (n+1) (k+1) a2 a3 (by omega) (by omega) (fun c'' hc''=>hc c'' (List.mem_cons_of_mem _ hc'')) b4 b1 b2;exact⟨i1,i2,i3.trans b3,i4⟩
def Ct (kb kt:ByteArray) (S S':Vs):Prop:=∀c T X,rO kb kt S.D c T X→S.D.ws=[]→rO kb kt S'.D c T X∧S'.D.ws=[]∧S'.c=S.c
section
variable {w0 w w':World} {fb vb db cb:Nat} {kb kt:ByteArray} {S:Vs} {v lv:Value} {d d0:List Fv} {l l0:List Fi} {n:Int} {k:Nat}
theorem a1C (B:Base w0 kb kt) (LB:En.Lb w0) (hF:Me kb kt S l n k) (hk:k+24<108) (hn:n+3000<900000000) (h:Fm w0 w fb vb db cb kb kt S v lv d l) (s t:ByteArray) (hs:s.size≤100000) (ht:t.size≤100000) (hnm:aP s.data.toList=true) (hfu:dQ l s t=false) :
  Calls Tryz.prog 22 #[.pointer (some ⟨fb,0,none⟩),.string s,.string t] w fun e w'=>e=.returned .nilIface∧∃S' l' v' Ah d',Fm w0 w' fb vb db cb kb kt S' v' Ah d' l'∧Me kb kt S' l' (n+24) (k+(ax l s t).length+3)∧(∀u,aV S'.X l' u=if u=s then some t.data.toList else aV S.X l u)∧(aH l s++[iK l s t]).Perm l'∧Ct kb kt S S'∧Fs (fun k=>k=fb∨VP vb db cb v k) w w'∧(∀k,k<w.heap.size→¬VP vb db cb v k→¬VP vb db cb v' k):=by
 refine(Qk B LB n hF.good.ok (by omega) h hF.right s t hs ht).mono ?_;rintro e w' (⟨h1,_⟩ | ⟨_,h1,_⟩ | ⟨_,_,hok,v1,_,hz,hfs,hnx⟩)
 ·rw[hnm] at h1;cases h1
 ·rw[hfu] at h1;cases h1
 obtain⟨hl1,hl2⟩:=yo hfu;have ha:=nQ (ax l s t) t S n k hF.good hF.ph (by omega) (by omega) (fun c hc=>by have:=(oH hc).1;omega);obtain⟨l',d',Ah,hp,zM,rfl,hok2,hz2,_⟩:=hz ha.1;obtain⟨a1,a2,a3,a4,a5⟩:=Uv hF (by omega) (by omega) hnm hfu hp zM;refine⟨by rw[a2];rfl,_,l',v1,Ah,d',(hz2 a2).1,a3,a4,hp,fun c T X hsu hw=>?_,hfs,hnx⟩;have hsc:=h.rZ.dev.ok.sure;obtain⟨b1,b2,b3,b4⟩:=EB (ax l s t) t S n k hF.good hF.ph (by omega) (by omega) (fun c hc=>by have:=(oH hc).1;omega) hsc hsu hw;obtain⟨c1,c2,c3,c4⟩:=EB [0,1,2] ⟨(En.print l').toArray⟩ _ (n+(ax l s t).length) (k+(ax l s t).length) ha.2.1 ha.2.2.1 (by simp;omega) (by simp;omega) (fun c hc=>by
  simp only[List.mem_cons,List.not_mem_nil,or_false] at hc;omega) b4 b1 b2
 exact⟨c1,c2,c3.trans b3⟩
theorem a1T (B:Base w0 kb kt) (LB:En.Lb w0) (hF:Me kb kt S l n k) (hk:k+24<108) (hn:n+3000<900000000) (h:Fm w0 w fb vb db cb kb kt S v lv d l) (s:ByteArray) (hin:∃f ∈ l,f.nm=s) :
  Calls Tryz.prog 25 #[.pointer (some ⟨fb,0,none⟩),.string s] w fun e w'=>e=.returned .nilIface∧∃S' v' Ah d',Fm w0 w' fb vb db cb kb kt S' v' Ah d' (aH l s)∧Me kb kt S' (aH l s) (n+24) (k+3)∧(∀u,aV S'.X (aH l s) u=if u=s then none else aV S.X l u)∧Ct kb kt S S'∧Fs (fun k=>k=fb∨VP vb db cb v k) w w'∧(∀k,k<w.heap.size→¬VP vb db cb v k→¬VP vb db cb v' k):=by
 refine(Qg B LB n hF.good.ok (by omega) h hF.right s).mono ?_;rintro e w' (⟨h1,_⟩ | ⟨_,rfl,hok,d',Ah,v',hz,_,hfs,hnx⟩)
 ·obtain⟨f,hf,hfn⟩:=hin;exact absurd hfn (h1 f hf)
 obtain⟨a2,a3,a4,a5⟩:=Uw hF (by omega) (by omega) s;refine⟨by rw[a2];rfl,_,v',Ah,d',(hz a2).1,a3,a4,fun c T X hsu hw=>?_,hfs,hnx⟩;obtain⟨c1,c2,c3,c4⟩:=EB [0,1,2] ⟨(En.print (aH l s)).toArray⟩ S n k hF.good hF.ph (by simp;omega) (by simp;omega) (fun c hc=>by
  simp only[List.mem_cons,List.not_mem_nil,or_false] at hc;omega) h.rZ.dev.ok.sure hsu hw
 exact⟨c1,c2,c3⟩
theorem a1s (B:Base w0 kb kt) (hF:Me kb kt S l n k) (hn:n<900000000) (h:Fm w0 w fb vb db cb kb kt S v lv d l) :
  Calls Tryz.prog 24 #[.pointer (some ⟨fb,0,none⟩)] w fun e w'=>e=.returned .nilIface∧∃v',Fm w0 w' fb vb db cb kb kt (S.flush kt).2 v' lv d l∧Me kb kt (S.flush kt).2 l (n+1) k∧(S.flush kt).2.X=S.X∧(S.flush kt).2.c=S.c+1∧rO kb kt (S.flush kt).2.D (S.flush kt).2.c (S.flush kt).2.T (S.flush kt).2.X∧(S.flush kt).2.D.ws=[]∧Fs (VP vb db cb v) w w'∧(∀k,k<w.heap.size→¬VP vb db cb v k→¬VP vb db cb v' k):=by
 refine(Io B (hF.good.ok.next (by omega)) hF.good.ok.nc h).mono ?_;rintro e w' ⟨rfl,hv⟩;obtain⟨v',hF',hfs,hnx⟩:=h.XW hv;obtain⟨h1,h2,h3,h4,h5,h6⟩:=OX hF.good (by omega) hF.ph;obtain⟨s1,s2⟩:=GY hF.good (by omega);exact⟨by rw[h1];rfl,v',hF',⟨h2,h3,hF.right,by rw[h4];exact hF.dir⟩,h4,h5,s1,s2,hfs,hnx⟩
end
end Fl
end Go.Proofs.YtmhcfaaggkidjaaGreatDoor
end
section
namespace Go.Proofs.YtmhcfaaggkidjaaGreatDoor
set_option maxRecDepth 100000
namespace Fl
open Go.RowKit Go.Sort Go.Shelf
open En (Fi iX Ints fZ Row aP)
open Vl
def bR (kb kt:ByteArray) (S:Vs) (l:List Fi) (z t:ByteArray) (r:Int) (S':Vs) (l':List Fi):Prop:=
 (aP z.data.toList=false∧r=5∧S'=S∧l'=l)∨(aP z.data.toList=true∧dQ l z t=true∧r=12∧S'=S∧l'=l)∨
 (aP z.data.toList=true∧dQ l z t=false∧(eZ kb kt (ax l z t) t S).1≠0∧r=(eZ kb kt (ax l z t) t S).1∧S'=(eZ kb kt (ax l z t) t S).2∧l'=l)∨
 (aP z.data.toList=true∧dQ l z t=false∧(eZ kb kt (ax l z t) t S).1=0∧∃l1,(aH l z++[iK l z t]).Perm l1∧gH l1∧r=(bC kb kt l1 (eZ kb kt (ax l z t) t S).2).1∧S'=(bC kb kt l1 (eZ kb kt (ax l z t) t S).2).2∧(r=0→l'=l1)∧(r≠0→l'=l))
theorem bR.one {kb kt:ByteArray} {S:Vs} {l:List Fi} (hr:En.right l=true) {z t:ByteArray} {r1 r2:Int} {S1 S2:Vs} {l1 l2:List Fi} (h1:bR kb kt S l z t r1 S1 l1) (h2:bR kb kt S l z t r2 S2 l2):r1=r2∧S1=S2∧l1=l2:=by
 rcases h1 with⟨a1,a2,a3,a4⟩ | ⟨a1,a0,a2,a3,a4⟩ | ⟨a1,a0,a5,a2,a3,a4⟩ | ⟨a1,a0,a5,m1,p1,q1,a2,a3,a4,a6⟩ <;>
 rcases h2 with⟨b1,b2,b3,b4⟩ | ⟨b1,b0,b2,b3,b4⟩ | ⟨b1,b0,b5,b2,b3,b4⟩ | ⟨b1,b0,b5,m2,p2,q2,b2,b3,b4,b6⟩
 ·exact⟨a2.trans b2.symm,a3.trans b3.symm,a4.trans b4.symm⟩
 ·rw[a1] at b1;cases b1
 ·rw[a1] at b1;cases b1
 ·rw[a1] at b1;cases b1
 ·rw[a1] at b1;cases b1
 ·exact⟨a2.trans b2.symm,a3.trans b3.symm,a4.trans b4.symm⟩
 ·rw[a0] at b0;cases b0
 ·rw[a0] at b0;cases b0
 ·rw[a1] at b1;cases b1
 ·rw[a0] at b0;cases b0
 ·exact⟨a2.trans b2.symm,a3.trans b3.symm,a4.trans b4.symm⟩
 ·exact absurd b5 a5
 ·rw[a1] at b1;cases b1
 ·rw[a0] at b0;cases b0
 ·exact absurd a5 b5
 have hfit:=sw ((aX l).1 hr).1 a1 a0;obtain rfl:=hfit.uniq p1 p2 q1 q2;obtain rfl:r1=r2:=a2.trans b2.symm;refine⟨rfl,a3.trans b3.symm,?_⟩;by_cases h0:r1=0
 ·exact(a4 h0).trans (b4 h0).symm
 exact(a6 h0).trans (b6 h0).symm
theorem bR.right {kb kt:ByteArray} {S:Vs} {l:List Fi} (hr:En.right l=true) {z t:ByteArray} {r1:Int} {S1:Vs} {l1:List Fi} (h1:bR kb kt S l z t r1 S1 l1):En.right l1=true:=by
 rcases h1 with⟨a1,a2,a3,a4⟩ | ⟨a1,a0,a2,a3,a4⟩ | ⟨a1,a0,a5,a2,a3,a4⟩ | ⟨a1,a0,a5,m1,p1,q1,a2,a3,a4,a6⟩
 ·rw[a4];exact hr
 ·rw[a4];exact hr
 ·rw[a4];exact hr
 by_cases h0:r1=0
 ·rw[a4 h0];exact Aj hr a1 a0 p1 q1
 rw[a6 h0];exact hr
def bT (kb kt:ByteArray) (S:Vs) (l:List Fi) (z:ByteArray) (r:Int) (S':Vs) (l':List Fi):Prop:=
 ((∀f ∈ l,¬f.nm=z)∧r=7∧S'=S∧l'=l)∨((∃f ∈ l,f.nm=z)∧r=(bC kb kt (aH l z) S).1∧S'=(bC kb kt (aH l z) S).2∧(r=0→l'=aH l z)∧(r≠0→l'=l))
theorem bT.one {kb kt:ByteArray} {S:Vs} {l:List Fi} {z:ByteArray} {r1 r2:Int} {S1 S2:Vs} {l1 l2:List Fi} (h1:bT kb kt S l z r1 S1 l1) (h2:bT kb kt S l z r2 S2 l2):r1=r2∧S1=S2∧l1=l2:=by
 rcases h1 with⟨a1,a2,a3,a4⟩ | ⟨⟨f,f1,f2⟩,a2,a3,a4,a5⟩<;>rcases h2 with⟨b1,b2,b3,b4⟩ | ⟨⟨g,g1,g2⟩,b2,b3,b4,b5⟩
 ·exact⟨a2.trans b2.symm,a3.trans b3.symm,a4.trans b4.symm⟩
 ·exact absurd g2 (a1 g g1)
 ·exact absurd f2 (b1 f f1)
 obtain rfl:r1=r2:=a2.trans b2.symm;refine⟨rfl,a3.trans b3.symm,?_⟩;by_cases h0:r1=0
 ·exact(a4 h0).trans (b4 h0).symm
 exact(a5 h0).trans (b5 h0).symm
theorem bT.right {kb kt:ByteArray} {S:Vs} {l:List Fi} (hr:En.right l=true) {z:ByteArray} {r1:Int} {S1:Vs} {l1:List Fi} (h1:bT kb kt S l z r1 S1 l1):En.right l1=true:=by
 rcases h1 with⟨a1,a2,a3,a4⟩ | ⟨⟨f,f1,f2⟩,a2,a3,a4,a5⟩
 ·rw[a4];exact hr
 by_cases h0:r1=0
 ·rw[a4 h0];exact uk hr z
 rw[a5 h0];exact hr
theorem UB (l:List Fi) (z t:ByteArray):(ax l z t).length≤21:=by
 have:(En.bS (aH l z)).length≤21:=List.length_filter_le _ _;unfold ax;rw[List.length_take];omega
def Off (P:Nat→Prop) (lv:Value) (d:List Fv):Prop:=(∀k o n c,lv=.slice (some ⟨k,o,none⟩) n c→¬P k)∧∀x ∈ d,∀k o,x.2.2.1=some ⟨k,o,none⟩→¬P k
theorem Off.nl {P P':Nat→Prop} {w:World} {lv Ah:Value} {d d':List Fv} (h:Off P lv d) (hn:Nl w lv d Ah d') (hP:∀k,P' k→k<w.heap.size∧P k):Off P' Ah d':=by
 refine⟨fun k o n c e hp=>?_,fun x hx k o e hp=>?_⟩
 ·rcases hn.1 k o n c e with h1 | ⟨o',n',c',h1⟩
  ·have:=(hP k hp).1;omega
  exact h.1 k o' n' c' h1 (hP k hp).2
 rcases hn.2 x hx k o e with h1 | ⟨y,hy,o',h1⟩
 ·have:=(hP k hp).1;omega
 exact h.2 y hy k o' h1 (hP k hp).2
theorem Nl.refl (w:World) (lv:Value) (d:List Fv):Nl w lv d lv d:=⟨fun k o n c e=>.inr ⟨o,n,c,e⟩,fun x hx k o e=>.inr ⟨x,hx,o,e⟩⟩
section
variable {w0 w w':World} {fb vb db cb:Nat} {kb kt:ByteArray} {S:Vs} {v lv:Value} {d:List Fv} {l:List Fi} {n:Int}
def BU (w0 w w':World) (fb vb db cb:Nat) (kb kt:ByteArray) (S':Vs) (v lv:Value) (d:List Fv) (l':List Fi):Prop:=∃v' Ah d',Fm w0 w' fb vb db cb kb kt S' v' Ah d' l'∧Nl w lv d Ah d'∧Fs (fun k=>k=fb∨VP vb db cb v k) w w'∧(∀k,k<w.heap.size→¬VP vb db cb v k→¬VP vb db cb v' k)
theorem Fm.stay (h:Fm w0 w fb vb db cb kb kt S v lv d l) (hs:Since w w'):BU w0 w w' fb vb db cb kb kt S v lv d l:=⟨v,lv,d,h.since hs,Nl.refl _ _ _,Fs.ah hs,fun _ _ h=>h⟩
theorem a0z (B:Base w0 kb kt) (LB:En.Lb w0) (ho:S.ok n) (hn:n+2000<900000000) (h:Fm w0 w fb vb db cb kb kt S v lv d l) (hr:En.right l=true) (z t:ByteArray) (hz:z.size≤100000) (ht:t.size≤100000) :
  Calls Tryz.prog 22 #[.pointer (some ⟨fb,0,none⟩),.string z,.string t] w fun e w'=>∃r S' l',e=.returned (ev r)∧bR kb kt S l z t r S' l'∧S'.ok (n+24)∧BU w0 w w' fb vb db cb kb kt S' v lv d l':=by
 have h21:=UB l z t;refine(Qk B LB n ho hn h hr z t hz ht).mono ?_;rintro e w' (⟨h1,rfl,hs⟩ | ⟨h1,h2,rfl,hs⟩ | ⟨h1,h2,hok,v1,ha,hb,hfs,hnx⟩)
 ·exact⟨5,S,l,rfl,.inl ⟨h1,rfl,rfl,rfl⟩,ho.le (by omega),h.stay hs⟩
 ·exact⟨12,S,l,rfl,.inr (.inl ⟨h1,h2,rfl,rfl,rfl⟩),ho.le (by omega),h.stay hs⟩
 by_cases hw:(eZ kb kt (ax l z t) t S).1=0
 ·obtain⟨l1,d',Ah,hp,zM,rfl,hok2,hc,hd⟩:=hb hw;by_cases h0:(bC kb kt l1 (eZ kb kt (ax l z t) t S).2).1=0
  ·exact⟨_,_,l1,rfl,.inr (.inr (.inr ⟨h1,h2,hw,l1,hp,zM,rfl,rfl,fun _=>rfl,fun h=>absurd h0 h⟩)),hok2.le (by omega),v1,Ah,d',(hc h0).1,(hc h0).2,hfs,hnx⟩
  exact⟨_,_,l,rfl,.inr (.inr (.inr ⟨h1,h2,hw,l1,hp,zM,rfl,rfl,fun h=>absurd h h0,fun _=>rfl⟩)),hok2.le (by omega),v1,lv,d,hd h0,Nl.refl _ _ _,hfs,hnx⟩
 obtain⟨rfl,hF⟩:=ha hw;exact⟨_,_,l,rfl,.inr (.inr (.inl ⟨h1,h2,hw,rfl,rfl,rfl⟩)),hok.le (by omega),v1,lv,d,hF,Nl.refl _ _ _,hfs,hnx⟩
theorem a0A (B:Base w0 kb kt) (LB:En.Lb w0) (ho:S.ok n) (hn:n+1000<900000000) (h:Fm w0 w fb vb db cb kb kt S v lv d l) (hr:En.right l=true) (z:ByteArray) :
  Calls Tryz.prog 25 #[.pointer (some ⟨fb,0,none⟩),.string z] w fun e w'=>∃r S' l',e=.returned (ev r)∧bT kb kt S l z r S' l'∧S'.ok (n+24)∧BU w0 w w' fb vb db cb kb kt S' v lv d l':=by
 refine(Qg B LB n ho hn h hr z).mono ?_;rintro e w' (⟨h1,rfl,hs⟩ | ⟨h1,rfl,hok,d',Ah,v',ha,hb,hfs,hnx⟩)
 ·exact⟨7,S,l,rfl,.inl ⟨h1,rfl,rfl,rfl⟩,ho.le (by omega),h.stay hs⟩
 by_cases h0:(bC kb kt (aH l z) S).1=0
 ·exact⟨_,_,aH l z,rfl,.inr ⟨h1,rfl,rfl,fun _=>rfl,fun h=>absurd h0 h⟩,hok.le (by omega),v',Ah,d',(ha h0).1,(ha h0).2,hfs,hnx⟩
 exact⟨_,_,l,rfl,.inr ⟨h1,rfl,rfl,fun h=>absurd h h0,fun _=>rfl⟩,hok.le (by omega),v',lv,d,hb h0,Nl.refl _ _ _,hfs,hnx⟩
end
end Fl
end Go.Proofs.YtmhcfaaggkidjaaGreatDoor
end
section
namespace Go.Proofs.YtmhcfaaggkidjaaGreatDoor
set_option maxRecDepth 100000
namespace Fl
open Go.RowKit Go.Sort Go.Shelf
open En (Fi iX Ints fZ Row bS bu need aP filled)
open Vl
open Tw (Tb)
theorem WO {X Y:Nat→ByteArray} (h:∀i,i<24→X i=Y i) {cs:List Int} (hc:∀c ∈ cs,0≤c∧c<24):bf X cs=bf Y cs:=qy (fun c hcc=>h _ (by have:=hc c hcc;omega))
theorem a0W {X Y:Nat→ByteArray} (h:∀i,i<24→X i=Y i) {l:List Fi} (hr:En.right l=true) (s:ByteArray):aV X l s=aV Y l s:=
 nP (fun f hf=>WO h (fun c hc=>by have:=sD hr hf hc;omega)) s
theorem a1I {X Y:Nat→ByteArray} (h:∀i,i<24→X i=Y i):bf X [0,1,2]=bf Y [0,1,2]:=WO h (by simp)
theorem a1J {w0 w:World} {db cb:Nat} {D:Dv} {c:Int} {v:Value} {T:Tb} {X:Nat→ByteArray} {l:List Fi} (s:ByteArray) (hs:s.size=16) (hT:Sm.jW w0) (LB:En.Lb w0) (hc:0≤c∧c<1000000000) (hw:D.ws.length≤1) (h:DC w0 w db cb D c v) (ht:Vl.Told (bz s) (aT s) D c T X) (hl:low D c) (hr:En.right l=true) (hp:bf X [0,1,2]=En.print l) :
  Calls Tryz.prog 21 #[.pointer (some ⟨db,0,none⟩),.pointer (some ⟨cb,0,none⟩),.string s] w fun e w'=>∃vb S' v' fb lv d,e=.returned (.tuple #[.pointer (some ⟨fb,0,none⟩),.nilIface])∧Fm w0 w' fb vb db cb (bz s) (aT s) S' v' lv d l∧(S'.D=D∧S'.c=c∧S'.dead=false∧(c=0→S'=fresh D c)∧(∀i,i<24→S'.X i=X i)∧S'.ok (c+1)∧(c≠0→Tw.Same S'.T T∧whole (bz s) (aT s) D c∧S'=opened (bz s) D c c))∧w.heap.size≤fb∧w.heap.size≤vb∧Fs (fun k=>k=db∨k=cb∨v.ownBlock=some k) w w'∧Nx w v.ownBlock v'.ownBlock:=by
 refine(Mi s hs hT LB hc hw h).mono ?_;rintro e w' ⟨vb,r,S',v',hto,hvb,tY,hf,hn,he⟩;have ho:Br (bz s) (aT s) D c r S':=hto;obtain⟨hr0,h1,h2,h3,h4,h5,h6⟩:=tL ht hl ho;have Mm:En.parse (bf S'.X [0,1,2])=some l:=by
  rw[a1I h6];exact(En.oG _ _).2 ⟨hr,hp.symm⟩
 rcases he with⟨h0,_⟩ | ⟨_,h0,_⟩ | ⟨_,l',fb,lv,d,h0,rfl,Sj,hF,_⟩
 ·exact absurd hr0 h0
 ·rw[Mm] at h0;cases h0
 rw[Mm] at h0;injection h0 with h0
 subst h0;exact⟨vb,S',v',fb,lv,d,rfl,hF,⟨h1,h2,h3,h4,h6,eB.ok' hto hw hc.1 hr0,h5⟩,Sj,hvb,hf,hn⟩
def cZ:ByteArray:=⟨#[97]⟩
def fA:ByteArray:=⟨#[98]⟩
def x100:ByteArray:=⟨(Lib.repeatL [120] 100).toArray⟩
theorem a0w:x100.size=100:=by kernel_rfl
theorem a1K:dQ [] cZ x100=false:=by kernel_rfl
theorem a1U:aP cZ.data.toList=true:=by kernel_rfl
theorem a0X:aP fA.data.toList=true:=by kernel_rfl
theorem a0Y:dQ [iK [] cZ x100] fA ⟨#[]⟩=false:=by kernel_rfl
theorem a1V:aH [iK [] cZ x100] fA=[iK [] cZ x100]:=by kernel_rfl
theorem a1t (f g:Fi) (hf:f.nm=cZ) (hg:g.nm=fA):gH [f,g]:=by
 unfold gH;rw[List.pairwise_cons];refine⟨fun x hx=>?_,List.pairwise_singleton _ _⟩;rw[List.mem_singleton] at hx;subst hx;rw[hf,hg,bytesLess_eq,Lib.toList_data,Lib.toList_data];decide
theorem a1W:(ax [] cZ x100).length=2:=by kernel_rfl
theorem a1X:(ax [iK [] cZ x100] fA ⟨#[]⟩).length=0:=by kernel_rfl
theorem a1Y {f g:Fi} {l2:List Fi} (h:l2=[f,g]) (hf:f.nm=cZ) (hg:g.nm=fA):NB l2=[.string cZ,.string fA]:=by subst h;unfold NB;simp[hf,hg]
set_option maxHeartbeats 8000000 in
theorem a0E (w:World) (hT:Sm.jW w) (hL:En.Lb w):Calls Tryz.prog 6 #[] w fun e w'=>e=.returned (.bool true)∧Since w w':=by
 have HT:Hid (Sm.jW w∧En.Lb w):=⟨hT,hL⟩
 have HB:Hid (Base w (bz ay) (aT ay)):=⟨hT,lT _ _,lT _ _⟩
 clear hT hL;have Wt:Hid (∀(W:World) (db cb:Nat) (D:Dv) (c:Int) (v:Value) (T:Tb) (X:Nat→ByteArray) (l:List Fi),0≤c∧c<1000000000→D.ws.length≤1→DC w W db cb D c v→Vl.Told (bz ay) (aT ay) D c T X→low D c→En.right l=true→bf X [0,1,2]=En.print l→Calls Tryz.prog 21 #[.pointer (some ⟨db,0,none⟩),.pointer (some ⟨cb,0,none⟩),.string ⟨#[48,49,50,51,52,53,54,55,56,57,97,98,99,100,101,102]⟩] W fun e w'=>∃vb S' v' fb lv d,e=.returned (.tuple #[.pointer (some ⟨fb,0,none⟩),.nilIface])∧Fm w w' fb vb db cb (bz ay) (aT ay) S' v' lv d l∧(c=0→S'=fresh D c)∧(∀i,i<24→S'.X i=X i)∧S'.ok (c+1)):=fun W db cb D c v T X l hc hw hd ht hl hr hp=>(a1J ay rfl HT.out.1 HT.out.2 hc hw hd ht hl hr hp).mono (fun e w' hh=>by
  obtain⟨vb,S',v',fb,lv,d,rfl,hF,⟨_,_,_,h4,h5,h6,_⟩,_⟩:=hh;exact⟨vb,S',v',fb,lv,d,rfl,hF,h4,h5,h6⟩)
 generalize bz ay=kb at *;generalize aT ay=kt at *;have hx:∀W,Calls Tryz.prog 23 #[.string ⟨#[120]⟩,.int .i64 ((100:Nat):Int)] W fun e w'=>e=.returned (.string x100)∧Below W.heap.size W w':=fun W=>ww ⟨#[120]⟩ 100 W (by omega) (by decide)
 have HX:Hid (∀W,Calls Tryz.prog 23 #[.string ⟨#[120]⟩,.int .i64 100] W fun e w'=>e=.returned (.string x100)∧Since W w'):=hx;clear hx;have a1Z:x100.size=100:=a0w;have a7P:Hid (x100.size=100):=a1Z;go_enter Tryz.func6,Tryz.ntmps6
 go_wp2_with fail
 refine(SX _).mono ?_;rintro e w1 ⟨rfl,rfl⟩;go_wp2_with fail
 have Fz:=XG w;generalize (w.alloc (.cells Tryz.zeroCells104 104)).alloc (.cells #[.int .i64 0] 55)=w1 at *;generalize w.heap.size+1=cb at *;generalize w.heap.size=db at *;have HDC:Hid (DC w w1 db cb mr 0 (.slice none 0 0)):=Fz;clear Fz;refine(Wt.out _ _ _ _ _ _ _ _ [] (by omega) (by show 0≤1;omega) HDC.out (qi kb kt).2.2 (qi kb kt).1.low a0u rfl).mono ?_;rintro e w2 ⟨vb,S0,v0,fb,lv0,d0,rfl,hF0,hfr,_,_⟩;obtain rfl:=hfr rfl;have Tz:Hid (Fm w w2 fb vb db cb kb kt (fresh mr 0) v0 lv0 d0 []):=hF0;clear hF0 hfr;go_wp2_with fail
 refine(HX.out _).mono ?_;rintro e w3 ⟨rfl,hs3⟩;have a4Q:Hid (Fm w w3 fb vb db cb kb kt (fresh mr 0) v0 lv0 d0 []):=Tz.out.since hs3;clear hs3;have hp1:=a1C HB.out HT.out.2 (Mh kb kt) (by omega) (by omega) a4Q.out cZ x100 (by decide) (by omega) a1U a1K;have HP1:Hid (Calls Tryz.prog 22 #[.pointer (some ⟨fb,0,none⟩),.string ⟨#[97]⟩,.string x100] w3 fun e w'=>e=.returned .nilIface∧∃S' l' v' Ah d',Fm w w' fb vb db cb kb kt S' v' Ah d' l'∧Me kb kt S' l' (0+24) (0+(ax [] cZ x100).length+3)∧(∀u,aV S'.X l' u=if u=cZ then some x100.data.toList else aV (fresh mr 0).X [] u)∧(aH [] cZ++[iK [] cZ x100]).Perm l'∧Ct kb kt (fresh mr 0) S'∧Fs (fun k=>k=fb∨VP vb db cb v0 k) w3 w'∧(∀k,k<w3.heap.size→¬VP vb db cb v0 k→¬VP vb db cb v' k)):=hp1;clear hp1 a1Z;generalize hX1:x100=xx at *;have HXX:Hid (x100=xx):=hX1;clear hX1;go_wp2_with fail
 refine HP1.out.mono ?_;rintro e w4 ⟨rfl,S1,l1,v1,lv1,d1,hF1,hok1,a2a,hp1,a2b,_,_⟩;obtain rfl:l1=[iK [] cZ xx]:=List.perm_singleton.1 hp1.symm;have hl1:=a1W;rw[HXX.out] at hl1;rw[hl1] at hok1;have H1:Hid (Fm w w4 fb vb db cb kb kt S1 v1 lv1 d1 [iK [] cZ xx]∧Me kb kt S1 [iK [] cZ xx] 24 5∧(∀u,aV S1.X [iK [] cZ xx] u=if u=cZ then some xx.data.toList else aV (fresh mr 0).X [] u)∧Ct kb kt (fresh mr 0) S1):=⟨hF1,hok1,a2a,a2b⟩
 clear hF1 hok1 a2a hp1 a2b hl1;have Sj:=a0Y;rw[HXX.out] at Sj;have hp2:=a1C HB.out HT.out.2 H1.out.2.1 (by omega) (by omega) H1.out.1 fA ⟨#[]⟩ (by decide) (by decide) a0X Sj;have XC:Hid (Calls Tryz.prog 22 #[.pointer (some ⟨fb,0,none⟩),.string ⟨#[98]⟩,.string ⟨#[]⟩] w4 fun e w'=>e=.returned .nilIface∧∃S' l' v' Ah d',Fm w w' fb vb db cb kb kt S' v' Ah d' l'∧Me kb kt S' l' (24+24) (5+(ax [iK [] cZ xx] fA ⟨#[]⟩).length+3)∧(∀u,aV S'.X l' u=if u=fA then some (⟨#[]⟩:ByteArray).data.toList else aV S1.X [iK [] cZ xx] u)∧(aH [iK [] cZ xx] fA++[iK [iK [] cZ xx] fA ⟨#[]⟩]).Perm l'∧Ct kb kt S1 S'∧Fs (fun k=>k=fb∨VP vb db cb v1 k) w4 w'∧(∀k,k<w4.heap.size→¬VP vb db cb v1 k→¬VP vb db cb v' k)):=hp2;clear hp2 Sj;go_wp2_with fail
 refine XC.out.mono ?_;rintro e w5 ⟨rfl,S2,l2,v2,lv2,d2,hF2,hok2,a2c,hp2,a2d,_,_⟩;have hl2:=a1X;have hbb:=a1V;have Sj:=a0Y;rw[HXX.out] at hl2 hbb Sj;rw[hl2] at hok2;rw[hbb] at hp2;have hfit:=sw ((aX _).1 H1.out.2.1.right).1 a0X Sj;rw[hbb] at hfit;obtain rfl:l2=[iK [] cZ xx]++[iK [iK [] cZ xx] fA ⟨#[]⟩]:=hfit.uniq hp2 (List.Perm.refl _) (Ig hok2.right) (a1t _ _ rfl rfl);have hnm:NB ([iK [] cZ xx]++[iK [iK [] cZ xx] fA ⟨#[]⟩])=[.string cZ,.string fA]:=a1Y rfl rfl rfl;have hia:∃f ∈ ([iK [] cZ xx]++[iK [iK [] cZ xx] fA ⟨#[]⟩]),f.nm=cZ:=⟨iK [] cZ xx,by simp,rfl⟩
 have hle2:([iK [] cZ xx]++[iK [iK [] cZ xx] fA ⟨#[]⟩]).length=2:=rfl;generalize ([iK [] cZ xx]++[iK [iK [] cZ xx] fA ⟨#[]⟩])=l2 at *;have hta:aV S2.X l2 cZ=some xx.data.toList:=by
  rw[a2c,if_neg (by decide),H1.out.2.2.1,if_pos rfl]
 have H2:Hid (Fm w w5 fb vb db cb kb kt S2 v2 lv2 d2 l2∧Me kb kt S2 l2 48 8∧aV S2.X l2 cZ=some xx.data.toList∧Ct kb kt S1 S2∧NB l2=[.string cZ,.string fA]∧(∃f ∈ l2,f.nm=cZ)∧l2.length=2):=⟨hF2,hok2,hta,a2d,hnm,hia,hle2⟩
 clear hF2 hok2 a2c hp2 a2d hl2 hbb Sj hfit hta hnm hia hle2;have hf3:=a1s HB.out H2.out.2.1 (by omega) H2.out.1;have ZB:Hid (Calls Tryz.prog 24 #[.pointer (some ⟨fb,0,none⟩)] w5 fun e w'=>e=.returned .nilIface∧∃v',Fm w w' fb vb db cb kb kt (S2.flush kt).2 v' lv2 d2 l2∧Me kb kt (S2.flush kt).2 l2 (48+1) 8∧(S2.flush kt).2.X=S2.X∧(S2.flush kt).2.c=S2.c+1∧rO kb kt (S2.flush kt).2.D (S2.flush kt).2.c (S2.flush kt).2.T (S2.flush kt).2.X∧(S2.flush kt).2.D.ws=[]∧Fs (VP vb db cb v2) w5 w'∧(∀k,k<w5.heap.size→¬VP vb db cb v2 k→¬VP vb db cb v' k)):=hf3;clear hf3;go_wp2_with fail
 refine ZB.out.mono ?_;clear ZB;generalize (S2.flush kt).2=S3 at *;rintro e w6 ⟨rfl,v3,hF3,a2e,hx3,hc3,a2f,a2g,_,_⟩;have hc31:S3.c=1:=by
  obtain⟨s1,s2,s3⟩:=H1.out.2.2.2 0 Tb.zero (fun _=>⟨#[]⟩) (a0t kb kt) rfl;obtain⟨t1,t2,t3⟩:=H2.out.2.2.2.1 0 Tb.zero (fun _=>⟨#[]⟩) s1 s2;rw[hc3,t3,s3]
  rfl
 have H3:Hid (Fm w w6 fb vb db cb kb kt S3 v3 lv2 d2 l2∧Me kb kt S3 l2 49 8∧S3.X=S2.X∧S3.c=1∧rO kb kt S3.D S3.c S3.T S3.X∧S3.D.ws=[]):=⟨hF3,a2e,hx3,hc31,a2f,a2g⟩
 clear hF3 a2e hx3 hc3 a2f a2g hc31;have hd4:=a1T HB.out HT.out.2 H3.out.2.1 (by omega) (by omega) H3.out.1 cZ H2.out.2.2.2.2.2.1;have HD4:Hid (Calls Tryz.prog 25 #[.pointer (some ⟨fb,0,none⟩),.string ⟨#[97]⟩] w6 fun e w'=>e=.returned .nilIface∧∃S' v' Ah d',Fm w w' fb vb db cb kb kt S' v' Ah d' (aH l2 cZ)∧Me kb kt S' (aH l2 cZ) (49+24) (8+3)∧(∀u,aV S'.X (aH l2 cZ) u=if u=cZ then none else aV S3.X l2 u)∧Ct kb kt S3 S'∧Fs (fun k=>k=fb∨VP vb db cb v3 k) w6 w'∧(∀k,k<w6.heap.size→¬VP vb db cb v3 k→¬VP vb db cb v' k)):=hd4;clear hd4;go_wp2_with fail
 refine HD4.out.mono ?_;rintro e w7 ⟨rfl,S4,v4,lv4,d4,hF4,_,_,a2i,_,_⟩;have H4:Hid (Fm w w7 fb vb db cb kb kt S4 v4 lv4 d4 (aH l2 cZ)∧Ct kb kt S3 S4):=⟨hF4,a2i⟩
 clear hF4 a2i;go_wp2_with fail
 refine(KP S4.D v4 db 0 0 _ _ (fun _=>0) (fun _=>false) _ H4.out.1.rZ.dev (a0V _ _ _) (a0V _ _ _)).mono ?_;rintro e w8 ⟨rfl,hd6,hf6⟩;have HS:Hid (Vl.Told kb kt (S4.D.bG 0 (fun _=>0) 0 (fun _=>false)) S3.c S3.T S3.X∧low (S4.D.bG 0 (fun _=>0) 0 (fun _=>false)) S3.c∧DC w w8 db cb (S4.D.bG 0 (fun _=>0) 0 (fun _=>false)) S3.c (.slice none 0 0)):=by
  obtain⟨h1,h2,h3⟩:=H4.out.2 _ _ _ H3.out.2.2.2.2.1 H3.out.2.2.2.2.2;obtain⟨h4,h5⟩:=GZ h1 h2 0 (fun _=>0) 0 (fun _=>false);have h6:=H4.out.1.rZ.dc;rw[h3] at h6;exact⟨h4,h5,h6.turn hd6 hf6 rfl⟩
 clear hd6 hf6;go_wp2_with fail
 refine(Wt.out _ _ _ _ _ _ _ _ l2 (by have:=H3.out.2.2.2.1;omega) (by show 0≤1;omega) HS.out.2.2 HS.out.1 HS.out.2.1 H2.out.2.1.right (by rw[H3.out.2.2.1];exact H2.out.2.1.dir)).mono ?_;rintro e w9 ⟨vc,S7,v7,fc,lv7,d7,rfl,hF7,_,hx7,a2j⟩;have htx:aV S7.X l2 cZ=some xx.data.toList:=by
  rw[a0W hx7 H2.out.2.1.right,H3.out.2.2.1];exact H2.out.2.2.1
 have hxs:(⟨xx.data.toList.toArray⟩:ByteArray)=xx:=rfl;have hnn:=Il hF7 (by rw[H2.out.2.2.2.2.2.2];omega);rw[H2.out.2.2.2.2.1,H2.out.2.2.2.2.2.2] at hnn;have Oo:Hid (Calls Tryz.prog 28 #[.pointer (some ⟨fc,0,none⟩)] w9 fun e w'=>∃x,e=.returned x∧w'.ownsRow w9.heap.size 9 1 x 2 [.string cZ,.string fA]∧Since w9 w'):=hnn;have HG:Hid (∀W,Since w9 W→Calls Tryz.prog 29 #[.pointer (some ⟨fc,0,none⟩),.string ⟨#[97]⟩] W fun e w'=>e=.returned (.tuple #[.string xx,.nilIface])∧Since W w'):=fun W hW=>by
  have:=Qh (hF7.since hW) H2.out.2.1.right a2j.txt cZ;rw[htx] at this;exact this
 have H7:Hid (Since w w9):=hF7.rZ.since;clear hF7 hx7 a2j htx hnn hxs;go_wp2_with fail
 refine Oo.out.mono ?_;rintro e w10 ⟨xv,rfl,hxo,a2k⟩;rcases hxo.2 with⟨_,h0⟩ | ⟨g,cap,cur,rfl,hb,hg,hnc,_⟩
 ·cases h0
 have HE:Hid (∀W b1,Since w10 W→(W.cell? ⟨b1,0,none⟩=some (.string cZ)∧W.cell? ⟨b1,1,none⟩=some (.string fA))→0<b1→Calls Tryz.prog 27 #[.slice (some ⟨g,0,none⟩) 2 cap,.slice (some ⟨b1,0,none⟩) 2 2] W fun e w'=>e=.returned (.bool true)∧Since W w'):=fun W b1 hW hb1 h1=>by
  have h0g:0<g:=by
   have:=hb;have:0<w9.heap.size:=by
    obtain⟨m,hm⟩:=(HT.out.2.since H7.out).max;have:=World.block_lt_of_cell? _ _ hm;omega
   omega
  refine a1G 0 2 _ _ (fun j=>if j=0 then cZ else fA) (fun j=>if j=0 then cZ else fA) W ⟨_,_,rfl,fun _=>⟨g,0,rfl,by omega,fun j hj=>?_⟩⟩ ⟨_,_,rfl,fun _=>⟨b1,0,rfl,by omega,fun j hj=>?_⟩⟩ (fun _ _=>rfl) (by omega)
  ·have hc:=hxo.cellAt j (by omega);rw[Nat.zero_add,hW.cell (p:=⟨g,j,none⟩) (hxo.lt g rfl).2,hc];have:j=0∨j=1:=by omega
   rcases this with rfl | rfl<;>rfl
  have:j=0∨j=1:=by omega
  rcases this with rfl | rfl
  ·exact hb1.1
  exact hb1.2
 have a2l:Hid (Since w9 w10∧0<w10.heap.size):=⟨a2k,by have:=(hxo.lt g rfl).2;omega⟩
 clear hxo a2k hb hg hnc;go_wp2_with fail
 refine(HE.out _ w10.heap.size ((Since.refl _).alloc _) ⟨by simp[cZ],by simp[fA]⟩ a2l.out.2).mono ?_;rintro e w11 ⟨rfl,a2m⟩;have a2n:Hid (Since w9 w11):=a2l.out.1.trans (((Since.refl _).alloc _).trans a2m);clear a2m;go_wp2_with fail
 refine(HG.out _ a2n.out).mono ?_;rintro e w12 ⟨rfl,XN⟩;have a4T:Hid (Since w9 w12):=a2n.out.trans XN;clear XN;go_wp2_with fail
 refine(HX.out _).mono ?_;rintro e w13 ⟨rfl,yg⟩;have a4U:Hid (Since w w13):=H7.out.trans (a4T.out.trans yg);clear yg;go_wp2_with fail
 go_ret;exact⟨rfl,a4U.out⟩
end Fl
end Go.Proofs.YtmhcfaaggkidjaaGreatDoor
end
