import Derived.Lib.SplitLaws
import Derived.Lib.Join
import Derived.Lib.AtoiAllCases
import Derived.Lib.ItoaMem
set_option linter.unusedSimpArgs false
set_option linter.unusedVariables false
section
namespace Go.Proofs.YtmhcfaaggkidjaaGreatDoor
namespace En
structure Fi where
 nm:ByteArray
 sz:Int
 cs:List Int
def isLet (b:UInt8):Bool:=decide (97≤b.toNat)&&decide (b.toNat≤122)
def ig (b:UInt8):Bool:=decide (48≤b.toNat)&&decide (b.toNat≤57)
def aP:List UInt8→Bool
 | []=>false
 | c::r=>decide (r.length≤9)&&isLet c&&r.all (fun b=>isLet b||ig b)
def need (n:Int):Int:=if n≤0 then 0 else (n-1) / 80+1
def qm (a b:ByteArray):Bool:=!(Op.bytesLess a.toList b.toList||a.toList==b.toList)
def mV (k:Int):Bool:=decide (3≤k)&&decide (k<24)
def filled (f:Fi):Bool:=decide (0≤f.sz)&&decide (f.sz≤1920)&&decide ((f.cs.length:Int)=need f.sz)
def takeB:List Int→List Int→Bool
 | _,[]=>true
 | L,c::r=>!(decide (c ∈ L))&&mV c&&takeB (L++[c]) r
def rightFrom:ByteArray→List Int→List Fi→Bool
 | _,_,[]=>true
 | b,L,f::r=>qm f.nm b&&aP f.nm.data.toList&&filled f&&takeB L f.cs&&rightFrom f.nm (L++f.cs) r
def right (l:List Fi):Bool:=decide (l.length≤8)&&rightFrom ⟨#[]⟩ [] l
def words (f:Fi):List (List UInt8):=f.nm.data.toList::Lib.itoa f.sz::f.cs.map Lib.itoa
def line (f:Fi):List UInt8:=Lib.join (words f) [32]++[10]
def print (l:List Fi):List UInt8:=(l.map line).flatten
def nD (t:List UInt8):Option Int:=match Lib.atoiAll t with | .ok v=>some v | _=>none
def zf (t:List UInt8):Int:=match Lib.atoiAll t with | .ok v=>v | .syntax=>0 | .range=>Lib.atoiSat t
def dJ:List (List UInt8)→Option (List Int)
 | []=>some []
 | t::r=>match nD t,dJ r with
  | some v,some l=>some (v::l)
  | _,_=>none
def nG:List (List UInt8)→Option Fi
 | a::b::r=>if aP a then (match dJ (b::r) with | some (v::l)=>some ⟨⟨a.toArray⟩,v,l⟩ | _=>none) else none
 | _=>none
def eU (t:List UInt8):Option Fi:=nG (Lib.splitK [32] 0 (min 26 (t.length+1)-1) t)
def readAll:List (List UInt8)→Option (List Fi)
 | []=>some []
 | t::r=>match eU t,readAll r with
  | some f,some l=>some (f::l)
  | _,_=>none
theorem Hd (s:List UInt8) (h:s≠[]):(Lib.cut s [10]).2.1.length<s.length:=by
 unfold Lib.cut;have:=List.length_pos_iff.2 h;split
 ·simp;omega
 simpa using this
def nH:Nat→List UInt8→List (List UInt8)
 | 0,_=>[]
 | k+1,s=>if s=[] then [] else (Lib.cut s [10]).1::nH k (Lib.cut s [10]).2.1
theorem tZ:∀(k j:Nat) (s:List UInt8),s.length≤k→s.length≤j→nH k s=nH j s
 | 0,0,_,_,_=>rfl
 | 0,j+1,s,h,_=>by
  have e:s=[]:=List.eq_nil_of_length_eq_zero (by omega);unfold nH;rw[if_pos e]
 | k+1,0,s,_,h=>by
  have e:s=[]:=List.eq_nil_of_length_eq_zero (by omega);unfold nH;rw[if_pos e]
 | k+1,j+1,s,h,h'=>by
  unfold nH;by_cases e:s=[]
  ·rw[if_pos e,if_pos e]
  have hl:=Hd s e;rw[if_neg e,if_neg e,tZ k j _ (by omega) (by omega)]
def bQ (s:List UInt8):List (List UInt8):=nH s.length s
theorem oF (s:List UInt8):bQ s=if h:s=[] then [] else (Lib.cut s [10]).1::bQ (Lib.cut s [10]).2.1:=by
 unfold bQ;by_cases e:s=[]
 ·rw[dif_pos e,e]
  rfl
 have hl:=Hd s e;have hp:=List.length_pos_iff.2 e;rw[dif_neg e,tZ s.length (s.length-1+1) s (Nat.le_refl _) (by omega)];show (if s=[] then [] else (Lib.cut s [10]).1::nH (s.length-1) (Lib.cut s [10]).2.1)=_
 rw[if_neg e,tZ (s.length-1) (Lib.cut s [10]).2.1.length _ (by omega) (Nat.le_refl _)]
def parse (s:List UInt8):Option (List Fi):=match readAll (bQ s) with
 | some l=>if right l=true∧print l=s then some l else none
 | none=>none
/-! ### what is printed is read -/
theorem zZ (c:UInt8):∀(s:List UInt8),c ∉ s→Lib.index s [c]=-1
 | [],_=>rfl
 | b::l,h=>by
  have h1:¬([c]:List UInt8).isPrefixOf (b::l)=true:=by simp[List.isPrefixOf];intro e;exact h (by simp[e])
  have h2:=zZ c l (fun e=>h (by simp[e]));unfold Lib.index;rw[if_neg h1,h2];rfl
theorem nI (c:UInt8):∀(s r:List UInt8),c ∉ s→Lib.index (s++c::r) [c]=s.length
 | [],r,_=>by simp[Lib.index,List.isPrefixOf]
 | b::l,r,h=>by
  have h1:¬([c]:List UInt8).isPrefixOf (b::(l++c::r))=true:=by simp[List.isPrefixOf];intro e;exact h (by simp[e])
  have h2:=nI c l r (fun e=>h (by simp[e]));rw[List.cons_append];unfold Lib.index;rw[if_neg h1,h2,if_neg (by simp)];simp
theorem Pv (c:UInt8) (k:Nat) (s:List UInt8) (h:c ∉ s):Lib.splitK [c] 0 k s=[s]:=by
 cases k with
 | zero=>rfl
 | succ k=>unfold Lib.splitK;rw[zZ c s h];rfl
theorem Pw (c:UInt8) (k:Nat) (s r:List UInt8) (h:c ∉ s):Lib.splitK [c] 0 (k+1) (s++c::r)=s::Lib.splitK [c] 0 k r:=by
 rw[Lib.splitK,nI c s r h,if_neg (by simp)];simp
theorem xB (c:UInt8):∀(ws:List (List UInt8)) (a:List UInt8) (k:Nat),c ∉ a→(∀x,x ∈ ws→c ∉ x)→ws.length≤k→Lib.splitK [c] 0 k (Lib.join (a::ws) [c])=a::ws
 | [],a,k,ha,_,_=>by rw[Lib.join_one];exact Pv c k a ha
 | b::r,a,k,ha,h,hk=>by
  obtain⟨k,rfl⟩:∃j,k=j+1:=⟨k-1,by simp at hk;omega⟩
  have e:Lib.join (a::b::r) [c]=a++c::Lib.join (b::r) [c]:=by
   rw[Lib.join_cons,Lib.join_cons];simp[Lib.joinTail]
  rw[e,Pw c k a _ ha,xB c r b k (h b (by simp)) (fun x hx=>h x (by simp[hx])) (by simpa using hk)]
theorem DZ (c:UInt8):∀(ws:List (List UInt8)) (a:List UInt8),Lib.join (a::ws) [c]++[c]=(((a::ws).map (·++[c])).flatten)
 | [],a=>by rw[Lib.join_one];simp
 | b::r,a=>by
  have e:Lib.join (a::b::r) [c]=a++c::Lib.join (b::r) [c]:=by
   rw[Lib.join_cons,Lib.join_cons];simp[Lib.joinTail]
  rw[e,List.append_assoc,List.cons_append,DZ c r b];simp
/-! numbers -/
theorem qo (u:Nat):∀b ∈ Lib.decDigits u,ig b=true:=by
 induction u using Nat.strongRecOn with
 | ind u ih=>
  intro b hb;rw[Lib.decDigits] at hb;split at hb
  ·rename_i h
   simp at hb;subst hb;simp[ig];omega
  rename_i h
  rw[List.mem_append] at hb;rcases hb with hb | hb
  ·exact ih (u / 10) (by omega) b hb
  simp at hb;subst hb;simp[ig];omega
theorem XH (u:Nat):Lib.decDigits u≠[]:=by
 intro e;have:=Lib.decDigits_length u;rw[e] at this;have:=Lib.nDigits_pos u;simp at *;omega
theorem Aa:∀(l r:List UInt8) (acc u:Nat),Lib.parseUint10 acc l=.ok u→Lib.parseUint10 acc (l++r)=Lib.parseUint10 u r
 | [],r,acc,u,h=>by simp only[Lib.parseUint10] at h;injection h with h;subst h;rfl
 | c::l,r,acc,u,h=>by
  rw[List.cons_append];simp only[Lib.parseUint10] at h ⊢;split at h
  ·rename_i h1
   rw[if_pos h1];split at h
   ·cases h
   rename_i h2
   rw[if_neg h2];split at h
   ·cases h
   rename_i h3
   rw[if_neg h3];exact Aa l r _ u h
  cases h
theorem XI (u:Nat) (hu:u<1844674407370955162):Lib.parseUint10 0 (Lib.decDigits u)=.ok u:=by
 induction u using Nat.strongRecOn with
 | ind u ih=>
  rw[Lib.decDigits];split
  ·rename_i h
   have e:(UInt8.ofNat (48+u)).toNat=48+u:=by simp;omega
   simp only[Lib.parseUint10,e];rw[if_pos (by omega),if_neg (by omega),if_neg (by omega)]
   congr 1;omega
  rename_i h
  rw[Aa _ _ _ _ (ih (u / 10) (by omega) (by omega))];have e:(UInt8.ofNat (48+u % 10)).toNat=48+u % 10:=by simp;omega
  simp only[Lib.parseUint10,e];rw[if_pos (by omega),if_neg (by omega),if_neg (by omega)]
  congr 1;omega
theorem Px (u:Nat) (hu:u<1844674407370955162):Lib.atoiAll (Lib.decDigits u)=.ok u:=by
 have hd:=qo u;have hp:=XI u hu;have hne:=XH u;generalize Lib.decDigits u=l at *;cases l with
 | nil=>exact absurd rfl hne
 | cons c r=>
  have hc:=hd c (by simp);simp[ig] at hc;have h43:¬(c.toNat=43∨c.toNat=45):=by omega
  have h45:¬c.toNat=45:=by omega
  simp only[Lib.atoiAll,if_neg h43,Lib.parseMag,if_neg hne,hp,if_neg h45];rw[if_neg (by omega),if_neg (by omega)]
theorem rP {n:Int} (h:0≤n):Lib.itoa n=Lib.decDigits n.toNat:=by unfold Lib.itoa;rw[if_neg (by omega)]
theorem Py {n:Int} (h0:0≤n) (h1:n<10000):nD (Lib.itoa n)=some n∧zf (Lib.itoa n)=n:=by
 have e:=Px n.toNat (by omega);have e2:((n.toNat:Nat):Int)=n:=by omega
 rw[e2] at e;rw[rP h0];simp[nD,zf,e]
theorem Ab {n:Int} (h0:0≤n):(32:UInt8) ∉ Lib.itoa n∧(10:UInt8) ∉ Lib.itoa n:=by
 rw[rP h0];constructor
 ·intro h;exact absurd (qo _ _ h) (by decide)
 intro h;exact absurd (qo _ _ h) (by decide)
/-! files that are right -/
structure Good (f:Fi):Prop where
 name:aP f.nm.data.toList=true
 nz:0≤f.sz
 sz1:f.sz≤1920
 len:(f.cs.length:Int)=need f.sz
 cell:∀c,c ∈ f.cs→3≤c∧c<24
theorem kZ:∀(cs L:List Int),takeB L cs=true↔(∀c,c ∈ cs→3≤c∧c<24)∧cs.Nodup∧∀c,c ∈ cs→c ∉ L
 | [],L=>by simp[takeB]
 | c::r,L=>by
  have ih:=kZ r (L++[c]);simp only[takeB,Bool.and_eq_true,ih,mV];simp only[List.nodup_cons,List.mem_cons,List.mem_append,List.mem_singleton,Bool.not_eq_true',decide_eq_false_iff_not,decide_eq_true_eq];constructor
  ·rintro ⟨⟨h1,h2⟩,h3,h4,h5⟩;refine⟨?_,⟨fun h=>(h5 c h) (Or.inr (Or.inl rfl)),h4⟩,?_⟩
   ·rintro x (rfl | hx)
    ·exact h2
    exact h3 x hx
   rintro x (rfl | hx)
   ·exact h1
   exact fun h=>h5 x hx (Or.inl h)
  rintro ⟨h1,⟨h2,h3⟩,h4⟩;refine⟨⟨h4 c (Or.inl rfl),h1 c (Or.inl rfl)⟩,fun x hx=>h1 x (Or.inr hx),h3,?_⟩;rintro x hx (h | h | h)
  ·exact h4 x (Or.inr hx) h
  ·subst h;exact h2 hx
  cases h
theorem lU (f:Fi):filled f=true↔0≤f.sz∧f.sz≤1920∧(f.cs.length:Int)=need f.sz:=by
 simp[filled,and_assoc]
theorem TZ {f:Fi} {b:ByteArray} {L:List Int} (h:(qm f.nm b&&aP f.nm.data.toList&&filled f&&takeB L f.cs)=true):Good f:=by
 simp only[Bool.and_eq_true,lU,kZ] at h;obtain⟨⟨⟨_,h1⟩,h2,h3,h4⟩,h5,_⟩:=h;exact⟨h1,h2,h3,h4,h5⟩
theorem nJ:∀(l:List Fi) (b:ByteArray) (L:List Int),rightFrom b L l=true→∀f,f ∈ l→Good f
 | [],_,_,_,_,h=>by cases h
 | g::r,b,L,h,f,hf=>by
  rw[rightFrom,Bool.and_eq_true] at h;rcases List.mem_cons.1 hf with rfl | hf
  ·exact TZ h.1
  exact nJ r _ _ h.2 f hf
theorem jO {l:List Fi} (h:right l=true):∀f,f ∈ l→Good f:=by
 rw[right,Bool.and_eq_true] at h;exact nJ l _ _ h.2
theorem uf {s:List UInt8} (h:aP s=true):(32:UInt8) ∉ s∧(10:UInt8) ∉ s∧s≠[]∧s.length≤10:=by
 cases s with
 | nil=>simp[aP] at h
 | cons c r=>
  simp only[aP,Bool.and_eq_true,List.all_eq_true,decide_eq_true_eq] at h;obtain⟨⟨h1,h2⟩,h3⟩:=h;refine⟨?_,?_,by simp,by simp;omega⟩
  ·intro hm;rcases List.mem_cons.1 hm with e | e
   ·subst e;exact absurd h2 (by decide)
   exact absurd (h3 _ e) (by decide)
  intro hm;rcases List.mem_cons.1 hm with e | e
  ·subst e;exact absurd h2 (by decide)
  exact absurd (h3 _ e) (by decide)
theorem BI {n:Int} (h:n≤1920):need n≤24:=by
 unfold need;split
 ·omega
 omega
theorem Good.xC {f:Fi} (h:Good f):∀x,x ∈ words f→(32:UInt8) ∉ x∧(10:UInt8) ∉ x:=by
 intro x hx;simp only[words,List.mem_cons,List.mem_map] at hx;rcases hx with rfl | rfl | ⟨c,hc,rfl⟩
 ·exact⟨(uf h.name).1,(uf h.name).2.1⟩
 ·exact Ab h.nz
 exact Ab (by have:=h.cell c hc;omega)
theorem Good.Pz {f:Fi} (h:Good f):f.cs.length≤24:=by
 have:=h.len;have:=BI h.sz1;omega
theorem Ea:∀(cs:List Int),(∀c,c ∈ cs→0≤c∧c<10000)→dJ (cs.map Lib.itoa)=some cs∧(cs.map Lib.itoa).map zf=cs
 | [],_=>⟨rfl,rfl⟩
 | c::r,h=>by
  have h1:=Py (h c (by simp)).1 (h c (by simp)).2;have h2:=Ea r (fun x hx=>h x (by simp[hx]));simp only[List.map_cons,dJ,h1.1,h2.1,h1.2,h2.2,and_self]
theorem Good.nG {f:Fi} (h:Good f):nG (words f)=some f:=by
 have h1:=Ea (f.sz::f.cs) (fun c hc=>by
  rcases List.mem_cons.1 hc with rfl | hc
  ·exact⟨h.nz,by have:=h.sz1;omega⟩
  have:=h.cell c hc;omega)
 rw[List.map_cons] at h1;simp only[words,En.nG,h.name,if_true,h1.1]
theorem PD (ws:List (List UInt8)):∀(a:List UInt8),ws.length≤(Lib.join (a::ws) [32]).length
 := by
 induction ws with
 | nil=>simp
 | cons b r ih=>
  intro a;have e:Lib.join (a::b::r) [32]=a++(32:UInt8)::Lib.join (b::r) [32]:=by
   rw[Lib.join_cons,Lib.join_cons];simp[Lib.joinTail]
  rw[e];have:=ih b;simp at *;omega
theorem Good.eU {f:Fi} (h:Good f):eU (Lib.join (words f) [32])=some f:=by
 unfold En.eU;have hw:=h.xC;have hl:=h.Pz;have e:words f=f.nm.data.toList::(Lib.itoa f.sz::f.cs.map Lib.itoa):=rfl;have hj:=PD (Lib.itoa f.sz::f.cs.map Lib.itoa) f.nm.data.toList;rw[←e] at hj;rw[e,xB 32 _ _ _ (hw _ (by simp[words])).1 (fun x hx=>(hw x (by rw[e];exact List.mem_cons_of_mem _ hx)).1) (by simp at hj ⊢;rw[←e];omega),←e];exact h.nG
theorem Good.XJ {f:Fi} (h:Good f):(10:UInt8) ∉ Lib.join (words f) [32]:=by
 have hw:=h.xC;intro hm;have:(10:UInt8) ∈ Lib.join (words f) [32]++[32]:=by simp[hm]
 rw[show words f=f.nm.data.toList::(Lib.itoa f.sz::f.cs.map Lib.itoa) from rfl,DZ] at this;rw[List.mem_flatten] at this;obtain⟨x,hx,h2⟩:=this;rw[List.mem_map] at hx;obtain⟨y,hy,rfl⟩:=hx;simp at h2;exact(hw y hy).2 h2
theorem XK (s r:List UInt8) (h:(10:UInt8) ∉ s):Lib.cut (s++10::r) [10]=(s,r,true):=by
 unfold Lib.cut;rw[nI 10 s r h,if_pos (by omega)];simp
theorem uL:∀(l:List Fi),(∀f,f ∈ l→Good f)→bQ (print l)=l.map (fun f=>Lib.join (words f) [32])
 | [],_=>by rw[oF];rfl
 | f::r,h=>by
  have e:print (f::r)=Lib.join (words f) [32]++10::print r:=by simp[print,line]
  rw[e,oF,dif_neg (by simp),XK _ _ (h f (by simp)).XJ,uL r (fun g hg=>h g (by simp[hg]))]
  rfl
theorem pu:∀(l:List Fi),(∀f,f ∈ l→Good f)→readAll (l.map (fun f=>Lib.join (words f) [32]))=some l
 | [],_=>rfl
 | f::r,h=>by
  simp only[List.map_cons,readAll,(h f (by simp)).eU,pu r (fun g hg=>h g (by simp[hg]))]
theorem oG (s:List UInt8) (l:List Fi):parse s=some l↔right l=true∧print l=s:=by
 constructor
 ·intro h;unfold parse at h;split at h
  ·split at h
   ·rename_i h2
    injection h with h
    subst h;exact h2
   cases h
  cases h
 rintro ⟨h1,rfl⟩;unfold parse;rw[uL l (jO h1),pu l (jO h1)];simp[h1]
end En
end Go.Proofs.YtmhcfaaggkidjaaGreatDoor
end
section
namespace Go.Proofs.YtmhcfaaggkidjaaGreatDoor
namespace En
/-! what is free -/
def bu (l:List Fi):List Int:=(l.map Fi.cs).flatten
def lV:List Int:=[3,4,5,6,7,8,9,10,11,12,13,14,15,16,17,18,19,20,21,22,23]
def bS (l:List Fi):List Int:=lV.filter (fun c=>!(decide (c ∈ bu l)))
theorem iZ:∀(l:List Fi) (b:ByteArray) (L:List Int),rightFrom b L l=true→(∀c,c ∈ bu l→3≤c∧c<24)∧(bu l).Nodup∧∀c,c ∈ bu l→c ∉ L
 | [],b,L,_=>by simp[bu]
 | f::r,b,L,h=>by
  rw[rightFrom,Bool.and_eq_true,Bool.and_eq_true] at h;obtain⟨⟨_,h2⟩,h3⟩:=h;obtain⟨a1,a2,a3⟩:=(kZ _ _).1 h2;obtain⟨b1,b2,b3⟩:=iZ r _ _ h3;have e:bu (f::r)=f.cs++bu r:=by simp[bu]
  rw[e];refine⟨?_,?_,?_⟩
  ·intro c hc;rcases List.mem_append.1 hc with hc | hc
   ·exact a1 c hc
   exact b1 c hc
  ·rw[List.nodup_append];refine⟨a2,b2,fun x hx y hy e=>?_⟩;subst e;exact b3 x hy (by simp[hx])
  intro c hc;rcases List.mem_append.1 hc with hc | hc
  ·exact a3 c hc
  exact fun hm=>b3 c hc (by simp[hm])
theorem xD:∀(A B:List Int),A.Nodup→B.Nodup→(∀x,x ∈ A→x ∈ B)→(B.filter (fun c=>!(decide (c ∈ A)))).length+A.length=B.length
 | [],B,_,_,_=>by simp
 | a::r,B,h1,h2,h3=>by
  have ih:=xD r B (List.nodup_cons.1 h1).2 h2 (fun x hx=>h3 x (by simp[hx]));have e:B.filter (fun c=>!(decide (c ∈ a::r)))=(B.filter (fun c=>!(decide (c ∈ r)))).erase a:=by
   rw[List.Nodup.erase_eq_filter (List.Pairwise.filter _ h2),List.filter_filter]
   congr 1
   funext c
   by_cases hc:c=a
   ·subst hc;simp
   simp[hc]
  have hm:a ∈ B.filter (fun c=>!(decide (c ∈ r))):=List.mem_filter.2 ⟨h3 a (by simp),by simp[(List.nodup_cons.1 h1).1]⟩;rw[e,List.length_erase_of_mem hm];have:=List.length_pos_of_mem hm;simp only[List.length_cons];omega
theorem a0b (c:Int):c ∈ lV↔3≤c∧c<24:=by
 simp only[lV,List.mem_cons,List.not_mem_nil,or_false];omega
theorem He {l:List Fi} (h:right l=true):(bS l).length+(bu l).length=21:=by
 rw[right,Bool.and_eq_true] at h;obtain⟨h1,h2,_⟩:=iZ l _ _ h.2;exact xD (bu l) lV h2 (by decide) (fun x hx=>(a0b x).2 (h1 x hx))
theorem Eb {l:List Fi} {c:Int} (h:c ∈ bu l):c ∉ bS l:=by
 intro hm;have:=(List.mem_filter.1 hm).2;simp[h] at this
theorem Ec {l:List Fi} {f:Fi} {c:Int} (h:f ∈ l) (hc:c ∈ f.cs):c ∈ bu l:=List.mem_flatten.2 ⟨f.cs,List.mem_map.2 ⟨f,h,rfl⟩,hc⟩
/-! how long -/
theorem Ua {u:Nat} (h:u<10000):(Lib.decDigits u).length≤4:=by
 rw[Lib.decDigits];split
 ·simp
 rw[Lib.decDigits];split
 ·simp
 rw[Lib.decDigits];split
 ·simp
 rw[Lib.decDigits];split
 ·simp
 omega
theorem PE {u:Nat} (h:u<100):(Lib.decDigits u).length≤2:=by
 rw[Lib.decDigits];split
 ·simp
 rw[Lib.decDigits];split
 ·simp
 omega
theorem rQ:∀(cs:List Int),(∀c,c ∈ cs→3≤c∧c<24)→(Lib.joinTail [32] (cs.map Lib.itoa)).length≤3*cs.length
 | [],_=>by simp[Lib.joinTail]
 | c::r,h=>by
  have ih:=rQ r (fun x hx=>h x (by simp[hx]));have hc:=h c (by simp);have:=PE (u:=c.toNat) (by omega);rw[←rP (by omega)] at this;simp only[Lib.joinTail,List.map_cons,List.flatten_cons,List.length_append,List.length_cons,List.length_nil] at ih ⊢;omega
theorem Good.Ed {f:Fi} (h:Good f):(line f).length≤16+3*f.cs.length:=by
 have h1:=(uf h.name).2.2.2;have h2:=Ua (u:=f.sz.toNat) (by have:=h.sz1;have:=h.nz;omega);rw[←rP h.nz] at h2;have h3:=rQ f.cs h.cell;have e:line f=f.nm.data.toList++([32]++Lib.itoa f.sz++Lib.joinTail [32] (f.cs.map Lib.itoa))++[10]:=by
  simp[line,words,Lib.join_cons,Lib.joinTail]
 rw[e];simp only[List.length_append,List.length_cons,List.length_nil];omega
theorem Ac:∀(l:List Fi),(∀f,f ∈ l→Good f)→(print l).length≤16*l.length+3*(bu l).length
 | [],_=>by simp[print]
 | f::r,h=>by
  have ih:=Ac r (fun g hg=>h g (by simp[hg]));have h1:=(h f (by simp)).Ed;have e1:print (f::r)=line f++print r:=by simp[print]
  have e2:bu (f::r)=f.cs++bu r:=by simp[bu]
  rw[e1,e2,List.length_append,List.length_append,List.length_cons];omega
theorem xE {l:List Fi} (h:right l=true):(print l).length≤200:=by
 have h1:=Ac l (jO h);have h2:=He h;rw[right,Bool.and_eq_true,decide_eq_true_eq] at h;omega
end En
end Go.Proofs.YtmhcfaaggkidjaaGreatDoor
end
