import Derived.Lib.SplitLaws
import Derived.Lib.Join
import Derived.Lib.AtoiAllCases
import Derived.Lib.ItoaMem
set_option linter.unusedSimpArgs false
set_option linter.unusedVariables false
set_option maxHeartbeats 8000000
set_option maxRecDepth 100000
namespace Go.Proofs.YtlgbfkcpdelcbaaGreatDoor
section
namespace En
structure Fi where
 nm:ByteArray
 sz:Int
 cs:List Int
def isLet (b:UInt8):Bool:=decide (97≤b.toNat)&&decide (b.toNat≤122)
def gI (b:UInt8):Bool:=decide (48≤b.toNat)&&decide (b.toNat≤57)
def aI:List UInt8→Bool
 | []=>false
 | c::r=>decide (r.length≤9)&&isLet c&&r.all (fun b=>isLet b||gI b)
def need (n:Int):Int:=if n≤0 then 0 else (n-1) / 80+1
def kL (a b:ByteArray):Bool:=!(Op.bytesLess a.toList b.toList||a.toList==b.toList)
def fV (k:Int):Bool:=decide (3≤k)&&decide (k<24)
def filled (f:Fi):Bool:=decide (0≤f.sz)&&decide (f.sz≤1920)&&decide ((f.cs.length:Int)=need f.sz)
def takeB:List Int→List Int→Bool
 | _,[]=>true
 | L,c::r=>!(decide (c ∈ L))&&fV c&&takeB (L++[c]) r
def rightFrom:ByteArray→List Int→List Fi→Bool
 | _,_,[]=>true
 | b,L,f::r=>kL f.nm b&&aI f.nm.data.toList&&filled f&&takeB L f.cs&&rightFrom f.nm (L++f.cs) r
def right (l:List Fi):Bool:=decide (l.length≤8)&&rightFrom ⟨#[]⟩ [] l
def words (f:Fi):List (List UInt8):=f.nm.data.toList::Lib.itoa f.sz::f.cs.map Lib.itoa
def line (f:Fi):List UInt8:=Lib.join (words f) [32]++[10]
def print (l:List Fi):List UInt8:=(l.map line).flatten
def oG (t:List UInt8):Option Int:=match Lib.atoiAll t with | .ok v=>some v | _=>none
def gN (t:List UInt8):Int:=match Lib.atoiAll t with | .ok v=>v | .syntax=>0 | .range=>Lib.atoiSat t
def eZ:List (List UInt8)→Option (List Int)
 | []=>some []
 | t::r=>match oG t,eZ r with
  | some v,some l=>some (v::l)
  | _,_=>none
def qj:List (List UInt8)→Option Fi
 | a::b::r=>if aI a then (match eZ (b::r) with | some (v::l)=>some ⟨⟨a.toArray⟩,v,l⟩ | _=>none) else none
 | _=>none
def gJ (t:List UInt8):Option Fi:=qj (Lib.splitK [32] 0 (min 26 (t.length+1)-1) t)
def readAll:List (List UInt8)→Option (List Fi)
 | []=>some []
 | t::r=>match gJ t,readAll r with
  | some f,some l=>some (f::l)
  | _,_=>none
theorem Tf (s:List UInt8)(h:s≠[]):(Lib.cut s [10]).2.1.length<s.length:=by
 unfold Lib.cut;have:=List.length_pos_iff.2 h;split
 ·simp;omega
 simpa using this
def a0e:Nat→List UInt8→List (List UInt8)
 | 0,_=>[]
 | k+1,s=>if s=[] then [] else (Lib.cut s [10]).1::a0e k (Lib.cut s [10]).2.1
theorem a0l:∀(k j:Nat) (s:List UInt8),s.length≤k→s.length≤j→a0e k s=a0e j s
 | 0,0,_,_,_=>rfl
 | 0,j+1,s,h,_=>by
  have e:s=[]:=List.eq_nil_of_length_eq_zero (by omega);unfold a0e;rw[if_pos e]
 | k+1,0,s,_,h=>by
  have e:s=[]:=List.eq_nil_of_length_eq_zero (by omega);unfold a0e;rw[if_pos e]
 | k+1,j+1,s,h,h'=>by
  unfold a0e;by_cases e:s=[]
  ·rw[if_pos e,if_pos e]
  have hl:=Tf s e;rw[if_neg e,if_neg e,a0l k j _ (by omega) (by omega)]
def dE (s:List UInt8):List (List UInt8):=a0e s.length s
theorem a0g (s:List UInt8):dE s=if h:s=[] then [] else (Lib.cut s [10]).1::dE (Lib.cut s [10]).2.1:=by
 unfold dE;by_cases e:s=[]
 ·rw[dif_pos e,e]
  rfl
 have hl:=Tf s e;have hp:=List.length_pos_iff.2 e;rw[dif_neg e,a0l s.length (s.length-1+1) s (Nat.le_refl _) (by omega)];show (if s=[] then [] else (Lib.cut s [10]).1::a0e (s.length-1) (Lib.cut s [10]).2.1)=_
 rw[if_neg e,a0l (s.length-1) (Lib.cut s [10]).2.1.length _ (by omega) (Nat.le_refl _)]
def parse (s:List UInt8):Option (List Fi):=match readAll (dE s) with
 | some l=>if right l=true∧print l=s then some l else none
 | none=>none
def gK (t:List UInt8):Fi:=
 let w:=Lib.split (t++[32]) [32]
 ⟨⟨(w.getD 0 []).toArray⟩,gN (w.getD 1 []),((w.drop 2).take (w.length-3)).map gN⟩
def oH (s:List UInt8):List (List UInt8):=(Lib.split s [10]).dropLast
def eP (s:List UInt8):Option (List Fi):=if right ((oH s).map gK)=true∧print ((oH s).map gK)=s then some ((oH s).map gK) else none
/-! ### what is printed is read -/
theorem Ai (c:UInt8):∀(s:List UInt8),c ∉ s→Lib.index s [c]=-1
 | [],_=>rfl
 | b::l,h=>by
  have h1:¬([c]:List UInt8).isPrefixOf (b::l)=true:=by simp[List.isPrefixOf];intro e;exact h (by simp[e])
  have h2:=Ai c l (fun e=>h (by simp[e]));unfold Lib.index;rw[if_neg h1,h2];rfl
theorem xK (c:UInt8):∀(s r:List UInt8),c ∉ s→Lib.index (s++c::r) [c]=s.length
 | [],r,_=>by simp[Lib.index,List.isPrefixOf]
 | b::l,r,h=>by
  have h1:¬([c]:List UInt8).isPrefixOf (b::(l++c::r))=true:=by simp[List.isPrefixOf];intro e;exact h (by simp[e])
  have h2:=xK c l r (fun e=>h (by simp[e]));rw[List.cons_append];unfold Lib.index;rw[if_neg h1,h2,if_neg (by simp)];simp
theorem Ep (c:UInt8)(k:Nat)(s:List UInt8)(h:c ∉ s):Lib.splitK [c] 0 k s=[s]:=by
 cases k with
 | zero=>rfl
 | succ k=>unfold Lib.splitK;rw[Ai c s h];rfl
theorem Er (c:UInt8)(k:Nat)(s r:List UInt8)(h:c ∉ s):Lib.splitK [c] 0 (k+1) (s++c::r)=s::Lib.splitK [c] 0 k r:=by
 rw[Lib.splitK,xK c s r h,if_neg (by simp)];simp
theorem xL (c:UInt8):∀(ws:List (List UInt8)) (a:List UInt8) (k:Nat),c ∉ a→(∀x,x ∈ ws→c ∉ x)→ws.length≤k→Lib.splitK [c] 0 k (Lib.join (a::ws) [c])=a::ws
 | [],a,k,ha,_,_=>by rw[Lib.join_one];exact Ep c k a ha
 | b::r,a,k,ha,h,hk=>by
  obtain⟨k,rfl⟩:∃j,k=j+1:=⟨k-1,by simp at hk;omega⟩
  have e:Lib.join (a::b::r) [c]=a++c::Lib.join (b::r) [c]:=by
   rw[Lib.join_cons,Lib.join_cons];simp[Lib.joinTail]
  rw[e,Er c k a _ ha,xL c r b k (h b (by simp)) (fun x hx=>h x (by simp[hx])) (by simpa using hk)]
theorem Aj (c:UInt8):∀(ws:List (List UInt8)) (k:Nat),(∀x,x ∈ ws→c ∉ x)→ws.length≤k→Lib.splitK [c] 0 k ((ws.map (·++[c])).flatten)=ws++[[]]
 | [],k,_,_=>by rw[List.map_nil,List.flatten_nil,Ep c k [] (by simp)];rfl
 | a::r,k,h,hk=>by
  obtain⟨k,rfl⟩:∃j,k=j+1:=⟨k-1,by simp at hk;omega⟩
  rw[List.map_cons,List.flatten_cons,List.append_assoc,List.singleton_append,Er c k a _ (h a (by simp)),Aj c r k (fun x hx=>h x (by simp[hx])) (by simpa using hk)]
  rfl
theorem Pi (c:UInt8)(ws:List (List UInt8))(h:∀x,x ∈ ws→c ∉ x):Lib.count ((ws.map (·++[c])).flatten) [c]=ws.length:=by
 rw[Lib.count_one];induction ws with
 | nil=>rfl
 | cons a r ih=>
  rw[List.map_cons,List.flatten_cons,List.count_append,List.count_append,ih (fun x hx=>h x (by simp[hx])),List.count_eq_zero.2 (h a (by simp))];simp;omega
theorem xM (c:UInt8)(ws:List (List UInt8))(h:∀x,x ∈ ws→c ∉ x):Lib.split ((ws.map (·++[c])).flatten) [c]=ws++[[]]:=by
 unfold Lib.split;rw[Pi c ws h];exact Aj c ws _ h (Nat.le_refl _)
theorem xN (c:UInt8):∀(ws:List (List UInt8)) (a:List UInt8),Lib.join (a::ws) [c]++[c]=(((a::ws).map (·++[c])).flatten)
 | [],a=>by rw[Lib.join_one];simp
 | b::r,a=>by
  have e:Lib.join (a::b::r) [c]=a++c::Lib.join (b::r) [c]:=by
   rw[Lib.join_cons,Lib.join_cons];simp[Lib.joinTail]
  rw[e,List.append_assoc,List.cons_append,xN c r b];simp
/-! numbers -/
theorem qN (u:Nat):∀b ∈ Lib.decDigits u,gI b=true:=by
 induction u using Nat.strongRecOn with
 | ind u ih=>
  intro b hb;rw[Lib.decDigits] at hb;split at hb
  ·rename_i h
   simp at hb;subst hb;simp[gI];omega
  rename_i h
  rw[List.mem_append] at hb;rcases hb with hb | hb
  ·exact ih (u / 10) (by omega) b hb
  simp at hb;subst hb;simp[gI];omega
theorem a0j (u:Nat):Lib.decDigits u≠[]:=by
 intro e;have:=Lib.decDigits_length u;rw[e] at this;have:=Lib.nDigits_pos u;simp at *;omega
theorem Ak:∀(l r:List UInt8) (acc u:Nat),Lib.parseUint10 acc l=.ok u→Lib.parseUint10 acc (l++r)=Lib.parseUint10 u r
 | [],r,acc,u,h=>by simp only[Lib.parseUint10] at h;injection h with h;subst h;rfl
 | c::l,r,acc,u,h=>by
  rw[List.cons_append];simp only[Lib.parseUint10] at h ⊢;split at h
  ·rename_i h1
   rw[if_pos h1];split at h
   ·cases h
   rename_i h2
   rw[if_neg h2];split at h
   ·cases h
   rename_i h3
   rw[if_neg h3];exact Ak l r _ u h
  cases h
theorem a0k (u:Nat)(hu:u<1844674407370955162):Lib.parseUint10 0 (Lib.decDigits u)=.ok u:=by
 induction u using Nat.strongRecOn with
 | ind u ih=>
  rw[Lib.decDigits];split
  ·rename_i h
   have e:(UInt8.ofNat (48+u)).toNat=48+u:=by simp;omega
   simp only[Lib.parseUint10,e];rw[if_pos (by omega),if_neg (by omega),if_neg (by omega)]
   congr 1;omega
  rename_i h
  rw[Ak _ _ _ _ (ih (u / 10) (by omega) (by omega))];have e:(UInt8.ofNat (48+u % 10)).toNat=48+u % 10:=by simp;omega
  simp only[Lib.parseUint10,e];rw[if_pos (by omega),if_neg (by omega),if_neg (by omega)]
  congr 1;omega
theorem Tg (u:Nat)(hu:u<1844674407370955162):Lib.atoiAll (Lib.decDigits u)=.ok u:=by
 have hd:=qN u;have hp:=a0k u hu;have hne:=a0j u;generalize Lib.decDigits u=l at *;cases l with
 | nil=>exact absurd rfl hne
 | cons c r=>
  have hc:=hd c (by simp);simp[gI] at hc;have h43:¬(c.toNat=43∨c.toNat=45):=by omega
  have h45:¬c.toNat=45:=by omega
  simp only[Lib.atoiAll,if_neg h43,Lib.parseMag,if_neg hne,hp,if_neg h45];rw[if_neg (by omega),if_neg (by omega)]
theorem sw {n:Int}(h:0≤n):Lib.itoa n=Lib.decDigits n.toNat:=by unfold Lib.itoa;rw[if_neg (by omega)]
theorem Ti {n:Int}(h0:0≤n)(h1:n<10000):oG (Lib.itoa n)=some n∧gN (Lib.itoa n)=n:=by
 have e:=Tg n.toNat (by omega);have e2:((n.toNat:Nat):Int)=n:=by omega
 rw[e2] at e;rw[sw h0];simp[oG,gN,e]
theorem Al {n:Int}(h0:0≤n):(32:UInt8) ∉ Lib.itoa n∧(10:UInt8) ∉ Lib.itoa n:=by
 rw[sw h0];constructor
 ·intro h;exact absurd (qN _ _ h) (by decide)
 intro h;exact absurd (qN _ _ h) (by decide)
/-! files that are right -/
structure Good (f:Fi):Prop where
 name:aI f.nm.data.toList=true
 YV:0≤f.sz
 sz1:f.sz≤1920
 len:(f.cs.length:Int)=need f.sz
 cell:∀c,c ∈ f.cs→3≤c∧c<24
theorem ji:∀(cs L:List Int),takeB L cs=true↔(∀c,c ∈ cs→3≤c∧c<24)∧cs.Nodup∧∀c,c ∈ cs→c ∉ L
 | [],L=>by simp[takeB]
 | c::r,L=>by
  have ih:=ji r (L++[c]);simp only[takeB,Bool.and_eq_true,ih,fV];simp only[List.nodup_cons,List.mem_cons,List.mem_append,List.mem_singleton,Bool.not_eq_true',decide_eq_false_iff_not,decide_eq_true_eq];constructor
  ·rintro ⟨⟨h1,h2⟩,h3,h4,h5⟩;refine⟨?_,⟨fun h=>(h5 c h) (Or.inr (Or.inl rfl)),h4⟩,?_⟩
   ·rintro x (rfl | hx)
    ·exact h2
    exact h3 x hx
   rintro x (rfl | hx)
   ·exact h1
   exact fun h=>h5 x hx (Or.inl h)
  rintro ⟨h1,⟨h2,h3⟩,h4⟩;refine⟨⟨h4 c (Or.inl rfl),h1 c (Or.inl rfl)⟩,fun x hx=>h1 x (Or.inr hx),h3,?_⟩;rintro x hx (h | h | h)
  ·exact h4 x (Or.inr hx) h
  ·subst h;exact h2 hx
  cases h
theorem jk (f:Fi):filled f=true↔0≤f.sz∧f.sz≤1920∧(f.cs.length:Int)=need f.sz:=by
 simp[filled,and_assoc]
theorem Xk {f:Fi}{b:ByteArray}{L:List Int}(h:(kL f.nm b&&aI f.nm.data.toList&&filled f&&takeB L f.cs)=true):Good f:=by
 simp only[Bool.and_eq_true,jk,ji] at h;obtain⟨⟨⟨_,h1⟩,h2,h3,h4⟩,h5,_⟩:=h;exact⟨h1,h2,h3,h4,h5⟩
theorem oI:∀(l:List Fi) (b:ByteArray) (L:List Int),rightFrom b L l=true→∀f,f ∈ l→Good f
 | [],_,_,_,_,h=>by cases h
 | g::r,b,L,h,f,hf=>by
  rw[rightFrom,Bool.and_eq_true] at h;rcases List.mem_cons.1 hf with rfl | hf
  ·exact Xk h.1
  exact oI r _ _ h.2 f hf
theorem fw {l:List Fi}(h:right l=true):∀f,f ∈ l→Good f:=by
 rw[right,Bool.and_eq_true] at h;exact oI l _ _ h.2
theorem lU {s:List UInt8}(h:aI s=true):(32:UInt8) ∉ s∧(10:UInt8) ∉ s∧s≠[]∧s.length≤10:=by
 cases s with
 | nil=>simp[aI] at h
 | cons c r=>
  simp only[aI,Bool.and_eq_true,List.all_eq_true,decide_eq_true_eq] at h;obtain⟨⟨h1,h2⟩,h3⟩:=h;refine⟨?_,?_,by simp,by simp;omega⟩
  ·intro hm;rcases List.mem_cons.1 hm with e | e
   ·subst e;exact absurd h2 (by decide)
   exact absurd (h3 _ e) (by decide)
  intro hm;rcases List.mem_cons.1 hm with e | e
  ·subst e;exact absurd h2 (by decide)
  exact absurd (h3 _ e) (by decide)
theorem vT {n:Int}(h:n≤1920):need n≤24:=by
 unfold need;split
 ·omega
 omega
theorem Good.qO {f:Fi}(h:Good f):∀x,x ∈ words f→(32:UInt8) ∉ x∧(10:UInt8) ∉ x:=by
 intro x hx;simp only[words,List.mem_cons,List.mem_map] at hx;rcases hx with rfl | rfl | ⟨c,hc,rfl⟩
 ·exact⟨(lU h.name).1,(lU h.name).2.1⟩
 ·exact Al h.YV
 exact Al (by have:=h.cell c hc;omega)
theorem Good.Am {f:Fi}(h:Good f):f.cs.length≤24:=by
 have:=h.len;have:=vT h.sz1;omega
theorem xO:∀(cs:List Int),(∀c,c ∈ cs→0≤c∧c<10000)→eZ (cs.map Lib.itoa)=some cs∧(cs.map Lib.itoa).map gN=cs
 | [],_=>⟨rfl,rfl⟩
 | c::r,h=>by
  have h1:=Ti (h c (by simp)).1 (h c (by simp)).2;have h2:=xO r (fun x hx=>h x (by simp[hx]));simp only[List.map_cons,eZ,h1.1,h2.1,h1.2,h2.2,and_self]
theorem Good.qj {f:Fi}(h:Good f):qj (words f)=some f:=by
 have h1:=xO (f.sz::f.cs) (fun c hc=>by
  rcases List.mem_cons.1 hc with rfl | hc
  ·exact⟨h.YV,by have:=h.sz1;omega⟩
  have:=h.cell c hc;omega)
 rw[List.map_cons] at h1;simp only[words,En.qj,h.name,if_true,h1.1]
theorem Tj (ws:List (List UInt8)):∀(a:List UInt8),ws.length≤(Lib.join (a::ws) [32]).length
 := by
 induction ws with
 | nil=>simp
 | cons b r ih=>
  intro a;have e:Lib.join (a::b::r) [32]=a++(32:UInt8)::Lib.join (b::r) [32]:=by
   rw[Lib.join_cons,Lib.join_cons];simp[Lib.joinTail]
  rw[e];have:=ih b;simp at *;omega
theorem Good.gJ {f:Fi}(h:Good f):gJ (Lib.join (words f) [32])=some f:=by
 unfold En.gJ;have hw:=h.qO;have hl:=h.Am;have e:words f=f.nm.data.toList::(Lib.itoa f.sz::f.cs.map Lib.itoa):=rfl;have hj:=Tj (Lib.itoa f.sz::f.cs.map Lib.itoa) f.nm.data.toList;rw[←e] at hj;rw[e,xL 32 _ _ _ (hw _ (by simp[words])).1 (fun x hx=>(hw x (by rw[e];exact List.mem_cons_of_mem _ hx)).1) (by simp at hj ⊢;rw[←e];omega),←e];exact h.qj
theorem Good.Tk {f:Fi}(h:Good f):(10:UInt8) ∉ Lib.join (words f) [32]:=by
 have hw:=h.qO;intro hm;have:(10:UInt8) ∈ Lib.join (words f) [32]++[32]:=by simp[hm]
 rw[show words f=f.nm.data.toList::(Lib.itoa f.sz::f.cs.map Lib.itoa) from rfl,xN] at this;rw[List.mem_flatten] at this;obtain⟨x,hx,h2⟩:=this;rw[List.mem_map] at hx;obtain⟨y,hy,rfl⟩:=hx;simp at h2;exact(hw y hy).2 h2
theorem Good.gK {f:Fi}(h:Good f):gK (Lib.join (words f) [32])=f:=by
 unfold En.gK;have hw:=h.qO;have h1:=xO (f.sz::f.cs) (fun c hc=>by
  rcases List.mem_cons.1 hc with rfl | hc
  ·exact⟨h.YV,by have:=h.sz1;omega⟩
  have:=h.cell c hc;omega)
 rw[show words f=f.nm.data.toList::(Lib.itoa f.sz::f.cs.map Lib.itoa) from rfl,xN,xM 32 (f.nm.data.toList::Lib.itoa f.sz::f.cs.map Lib.itoa) (fun x hx=>(hw x hx).1)];simp only[List.map_cons,List.cons.injEq] at h1;obtain⟨_,h2,h3⟩:=h1;simp[h2];cases f with
 | mk n s c=>
  simp only at h3 ⊢;rw[List.map_map] at h3;rw[h3]
theorem a0m (s r:List UInt8)(h:(10:UInt8) ∉ s):Lib.cut (s++10::r) [10]=(s,r,true):=by
 unfold Lib.cut;rw[xK 10 s r h,if_pos (by omega)];simp
theorem uM:∀(l:List Fi),(∀f,f ∈ l→Good f)→dE (print l)=l.map (fun f=>Lib.join (words f) [32])
 | [],_=>by rw[a0g];rfl
 | f::r,h=>by
  have e:print (f::r)=Lib.join (words f) [32]++10::print r:=by simp[print,line]
  rw[e,a0g,dif_neg (by simp),a0m _ _ (h f (by simp)).Tk,uM r (fun g hg=>h g (by simp[hg]))]
  rfl
theorem BR (l:List Fi)(h:∀f,f ∈ l→Good f):oH (print l)=l.map (fun f=>Lib.join (words f) [32]):=by
 have e:print l=((l.map (fun f=>Lib.join (words f) [32])).map (·++[10])).flatten:=by
  unfold print;rw[List.map_map]
  rfl
 unfold oH;rw[e,xM 10]
 ·simp
 intro x hx;obtain⟨f,hf,rfl⟩:=List.mem_map.1 hx;exact(h f hf).Tk
theorem ql:∀(l:List Fi),(∀f,f ∈ l→Good f)→readAll (l.map (fun f=>Lib.join (words f) [32]))=some l
 | [],_=>rfl
 | f::r,h=>by
  simp only[List.map_cons,readAll,(h f (by simp)).gJ,ql r (fun g hg=>h g (by simp[hg]))]
theorem uN:∀(l:List Fi),(∀f,f ∈ l→Good f)→(l.map (fun f=>Lib.join (words f) [32])).map gK=l
 | [],_=>rfl
 | f::r,h=>by
  simp only[List.map_cons,(h f (by simp)).gK,uN r (fun g hg=>h g (by simp[hg]))]
theorem pQ (s:List UInt8)(l:List Fi):parse s=some l↔right l=true∧print l=s:=by
 constructor
 ·intro h;unfold parse at h;split at h
  ·split at h
   ·rename_i h2
    injection h with h
    subst h;exact h2
   cases h
  cases h
 rintro ⟨h1,rfl⟩;unfold parse;rw[uM l (fw h1),ql l (fw h1)];simp[h1]
theorem xP (s:List UInt8)(l:List Fi):eP s=some l↔right l=true∧print l=s:=by
 constructor
 ·intro h;unfold eP at h;split at h
  ·rename_i h2
   injection h with h
   subst h;exact h2
  cases h
 rintro ⟨h1,rfl⟩;unfold eP;rw[BR l (fw h1),uN l (fw h1)];simp[h1]
theorem xQ (s:List UInt8):parse s=eP s:=by
 cases h:parse s with
 | some l=>exact((xP s l).2 ((pQ s l).1 h)).symm
 | none=>
  cases h2:eP s with
  | none=>rfl
  | some l=>rw[(pQ s l).2 ((xP s l).1 h2)] at h;cases h
end En
end
section
namespace En
def put (L:List Int)(c:Int):List Int:=if c ∈ L then L else L++[c]
def dN (L cs:List Int):List Int:=cs.foldl put L
def Qy (b:Option ByteArray)(f:Fi):Bool:=aI f.nm.data.toList&&(match b with | none=>true | some x=>kL f.nm x)&&filled f
def vH:Option ByteArray→List Int→Nat→List Fi→Option (List Int × Nat)
 | _,L,n,[]=>some (L,n)
 | b,L,n,f::r=>if Qy b f=true∧f.cs.all fV=true then vH (some f.nm) (dN L f.cs) (n+f.cs.length) r else none
def mY (l:List Fi):Bool:=match vH none [] 0 l with
 | some (L,n)=>decide (L.length=n)&&decide (l.length≤8)
 | none=>false
theorem Tm (L:List Int)(c:Int):(put L c).length≤L.length+1:=by
 unfold put;split<;>simp
theorem pR:∀(cs L:List Int),(dN L cs).length≤L.length+cs.length
 | [],L=>Nat.le_refl _
 | c::r,L=>by
  have h1:=pR r (put L c);have h2:=Tm L c;show (dN (put L c) r).length≤L.length+(r.length+1)
  omega
theorem uO:∀(cs L:List Int),cs.Nodup→(∀c,c ∈ cs→c ∉ L)→dN L cs=L++cs
 | [],L,_,_=>by simp[dN]
 | c::r,L,h1,h2=>by
  show dN (put L c) r=_
  rw[put,if_neg (h2 c (by simp)),uO r (L++[c]) (List.nodup_cons.1 h1).2]
  ·simp
  intro x hx hm;rcases List.mem_append.1 hm with hm | hm
  ·exact h2 x (by simp[hx]) hm
  rw[List.mem_singleton] at hm;subst hm;exact(List.nodup_cons.1 h1).1 hx
theorem uP:∀(cs L:List Int),(dN L cs).length=L.length+cs.length→cs.Nodup∧∀c,c ∈ cs→c ∉ L
 | [],L,_=>by simp
 | c::r,L,h=>by
  have h0:(dN (put L c) r).length=L.length+(r.length+1):=h;have h1:=pR r (put L c);have h2:=Tm L c;by_cases hc:c ∈ L
  ·rw[put,if_pos hc] at h1 h0;omega
  have hp:put L c=L++[c]:=by rw[put,if_neg hc]
  rw[hp] at h0;obtain⟨h3,h4⟩:=uP r (L++[c]) (by simp;omega);refine⟨List.nodup_cons.2 ⟨fun hm=>h4 c hm (by simp),h3⟩,?_⟩;intro x hx;rcases List.mem_cons.1 hx with rfl | hx
  ·exact hc
  exact fun hm=>h4 x hx (by simp[hm])
theorem MQ:∀(l:List Fi) (b:Option ByteArray) (L:List Int) (n:Nat) (L':List Int) (n':Nat),vH b L n l=some (L',n')→L'.length+n≤n'+L.length
 | [],b,L,n,L',n',h=>by simp only[vH] at h;injection h with h;injection h with h1 h2;subst h1 h2;omega
 | f::r,b,L,n,L',n',h=>by
  simp only[vH] at h;split at h
  ·have h1:=MQ r _ _ _ _ _ h;have h2:=pR f.cs L;omega
  cases h
theorem Ao (cs:List Int):cs.all fV=true↔∀c,c ∈ cs→3≤c∧c<24:=by
 simp[List.all_eq_true,fV]
theorem MR:∀(l:List Fi) (b:Option ByteArray) (b':ByteArray) (L:List Int),(∀f,Qy b f=(kL f.nm b'&&aI f.nm.data.toList&&filled f))→
  ((match vH b L L.length l with | some (L',n')=>decide (L'.length=n') | none=>false)=rightFrom b' L l)
 | [],b,b',L,hb=>by simp[vH,rightFrom]
 | f::r,b,b',L,hb=>by
  have hb2:∀g,Qy (some f.nm) g=(kL g.nm f.nm&&aI g.nm.data.toList&&filled g):=fun g=>by simp only[Qy,Bool.and_comm (kL g.nm f.nm)]
  simp only[vH,rightFrom];by_cases h1:Qy b f=true
  ·rw[hb f] at h1;by_cases h2:takeB L f.cs=true
   ·have h3:=(ji f.cs L).1 h2;rw[if_pos ⟨by rw[hb f];exact h1,(Ao _).2 h3.1⟩,uO f.cs L h3.2.1 h3.2.2,h1,h2];have:=MR r (some f.nm) f.nm (L++f.cs) hb2;rw[List.length_append] at this;rw[this];rfl
   rw[Bool.not_eq_true] at h2;rw[h2,Bool.and_false,Bool.false_and];by_cases h4:f.cs.all fV=true
   ·rw[if_pos ⟨by rw[hb f];exact h1,h4⟩];cases h5:vH (some f.nm) (dN L f.cs) (L.length+f.cs.length) r with
    | none=>rfl
    | some p=>
     obtain⟨L',n'⟩:=p;have h6:=MQ _ _ _ _ _ _ h5;have h7:=pR f.cs L;refine decide_eq_false fun he=>?_
     have h8:(dN L f.cs).length=L.length+f.cs.length:=by omega
     have h9:=uP f.cs L h8;rw[(ji f.cs L).2 ⟨(Ao _).1 h4,h9.1,h9.2⟩] at h2;cases h2
   rw[if_neg (fun h=>h4 h.2)]
  rw[if_neg (fun h=>h1 h.1)];rw[hb f,Bool.not_eq_true] at h1;rw[h1];rfl
theorem Tn (f:Fi):Qy none f=(kL f.nm ⟨#[]⟩&&aI f.nm.data.toList&&filled f):=by
 simp only[Qy,Bool.and_true];by_cases h:aI f.nm.data.toList=true
 ·have:kL f.nm ⟨#[]⟩=true:=by
   have hn:=(lU h).2.2.1;have e:f.nm.toList≠[]:=by rw[Lib.toList_data];exact hn
   unfold kL;generalize f.nm.toList=x at *;have e0:(⟨#[]⟩:ByteArray).toList=[]:=by rw[Lib.toList_data]
   rw[e0];cases x with
   | nil=>exact absurd rfl e
   | cons a t=>rfl
  rw[this];rfl
 rw[Bool.not_eq_true] at h;rw[h];simp
theorem Js (l:List Fi):mY l=right l:=by
 have h:=MR l none ⟨#[]⟩ [] Tn;unfold mY right;rw[←h];simp only[List.length_nil];cases vH none [] 0 l with
 | none=>simp
 | some p=>simp[Bool.and_comm]
/-! what is free -/
def bi (l:List Fi):List Int:=(l.map Fi.cs).flatten
def mZ:List Int:=[3,4,5,6,7,8,9,10,11,12,13,14,15,16,17,18,19,20,21,22,23]
def bD (l:List Fi):List Int:=mZ.filter (fun c=>!(decide (c ∈ bi l)))
theorem gZ:∀(l:List Fi) (b:ByteArray) (L:List Int),rightFrom b L l=true→(∀c,c ∈ bi l→3≤c∧c<24)∧(bi l).Nodup∧∀c,c ∈ bi l→c ∉ L
 | [],b,L,_=>by simp[bi]
 | f::r,b,L,h=>by
  rw[rightFrom,Bool.and_eq_true,Bool.and_eq_true] at h;obtain⟨⟨_,h2⟩,h3⟩:=h;obtain⟨a1,a2,a3⟩:=(ji _ _).1 h2;obtain⟨b1,b2,b3⟩:=gZ r _ _ h3;have e:bi (f::r)=f.cs++bi r:=by simp[bi]
  rw[e];refine⟨?_,?_,?_⟩
  ·intro c hc;rcases List.mem_append.1 hc with hc | hc
   ·exact a1 c hc
   exact b1 c hc
  ·rw[List.nodup_append];refine⟨a2,b2,fun x hx y hy e=>?_⟩;subst e;exact b3 x hy (by simp[hx])
  intro c hc;rcases List.mem_append.1 hc with hc | hc
  ·exact a3 c hc
  exact fun hm=>b3 c hc (by simp[hm])
theorem xR:∀(A B:List Int),A.Nodup→B.Nodup→(∀x,x ∈ A→x ∈ B)→(B.filter (fun c=>!(decide (c ∈ A)))).length+A.length=B.length
 | [],B,_,_,_=>by simp
 | a::r,B,h1,h2,h3=>by
  have ih:=xR r B (List.nodup_cons.1 h1).2 h2 (fun x hx=>h3 x (by simp[hx]));have e:B.filter (fun c=>!(decide (c ∈ a::r)))=(B.filter (fun c=>!(decide (c ∈ r)))).erase a:=by
   rw[List.Nodup.erase_eq_filter (List.Pairwise.filter _ h2),List.filter_filter]
   congr 1
   funext c
   by_cases hc:c=a
   ·subst hc;simp
   simp[hc]
  have hm:a ∈ B.filter (fun c=>!(decide (c ∈ r))):=List.mem_filter.2 ⟨h3 a (by simp),by simp[(List.nodup_cons.1 h1).1]⟩;rw[e,List.length_erase_of_mem hm];have:=List.length_pos_of_mem hm;simp only[List.length_cons];omega
theorem a4t (c:Int):c ∈ mZ↔3≤c∧c<24:=by
 simp only[mZ,List.mem_cons,List.not_mem_nil,or_false];omega
theorem Jt {l:List Fi}(h:right l=true):(bD l).length+(bi l).length=21:=by
 rw[right,Bool.and_eq_true] at h;obtain⟨h1,h2,_⟩:=gZ l _ _ h.2;exact xR (bi l) mZ h2 (by decide) (fun x hx=>(a4t x).2 (h1 x hx))
theorem Tp {l:List Fi}{c:Int}(h:c ∈ bi l):c ∉ bD l:=by
 intro hm;have:=(List.mem_filter.1 hm).2;simp[h] at this
theorem Tq {l:List Fi}{f:Fi}{c:Int}(h:f ∈ l)(hc:c ∈ f.cs):c ∈ bi l:=List.mem_flatten.2 ⟨f.cs,List.mem_map.2 ⟨f,h,rfl⟩,hc⟩
/-! how long -/
theorem Xl {u:Nat}(h:u<10000):(Lib.decDigits u).length≤4:=by
 rw[Lib.decDigits];split
 ·simp
 rw[Lib.decDigits];split
 ·simp
 rw[Lib.decDigits];split
 ·simp
 rw[Lib.decDigits];split
 ·simp
 omega
theorem Tt {u:Nat}(h:u<100):(Lib.decDigits u).length≤2:=by
 rw[Lib.decDigits];split
 ·simp
 rw[Lib.decDigits];split
 ·simp
 omega
theorem sD:∀(cs:List Int),(∀c,c ∈ cs→3≤c∧c<24)→(Lib.joinTail [32] (cs.map Lib.itoa)).length≤3*cs.length
 | [],_=>by simp[Lib.joinTail]
 | c::r,h=>by
  have ih:=sD r (fun x hx=>h x (by simp[hx]));have hc:=h c (by simp);have:=Tt (u:=c.toNat) (by omega);rw[←sw (by omega)] at this;simp only[Lib.joinTail,List.map_cons,List.flatten_cons,List.length_append,List.length_cons,List.length_nil] at ih ⊢;omega
theorem Good.xS {f:Fi}(h:Good f):(line f).length≤16+3*f.cs.length:=by
 have h1:=(lU h.name).2.2.2;have h2:=Xl (u:=f.sz.toNat) (by have:=h.sz1;have:=h.YV;omega);rw[←sw h.YV] at h2;have h3:=sD f.cs h.cell;have e:line f=f.nm.data.toList++([32]++Lib.itoa f.sz++Lib.joinTail [32] (f.cs.map Lib.itoa))++[10]:=by
  simp[line,words,Lib.join_cons,Lib.joinTail]
 rw[e];simp only[List.length_append,List.length_cons,List.length_nil];omega
theorem Ap:∀(l:List Fi),(∀f,f ∈ l→Good f)→(print l).length≤16*l.length+3*(bi l).length
 | [],_=>by simp[print]
 | f::r,h=>by
  have ih:=Ap r (fun g hg=>h g (by simp[hg]));have h1:=(h f (by simp)).xS;have e1:print (f::r)=line f++print r:=by simp[print]
  have e2:bi (f::r)=f.cs++bi r:=by simp[bi]
  rw[e1,e2,List.length_append,List.length_append,List.length_cons];omega
theorem xU {l:List Fi}(h:right l=true):(print l).length≤200:=by
 have h1:=Ap l (fw h);have h2:=Jt h;rw[right,Bool.and_eq_true,decide_eq_true_eq] at h;omega
end En
end
end Go.Proofs.YtlgbfkcpdelcbaaGreatDoor
