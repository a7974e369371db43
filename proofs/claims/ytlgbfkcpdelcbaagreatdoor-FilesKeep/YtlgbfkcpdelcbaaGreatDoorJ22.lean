import Derived.BigQuiet
import Derived.Test.YtlgbfkcpdelcbaaGreatDoorJ13
import Derived.Test.YtlgbfkcpdelcbaaGreatDoorJ21
set_option linter.unusedSimpArgs false
set_option linter.unusedVariables false
set_option maxHeartbeats 8000000
set_option maxRecDepth 100000
namespace Go.Proofs.YtlgbfkcpdelcbaaGreatDoor
section
namespace Sm
open Go.RowKit
def dv (d:Nat):Value:=.int .u64 (d:Int)
theorem RY:∃i,Tryz.prog.info? 88=some i∧i.zero=some (.int .u64 0)∧i.bytes=8∧i.size=1:=⟨_,rfl,by kernel_rfl,by kernel_rfl,by kernel_rfl⟩
theorem Ou (vb cap:Nat)(ds:List Nat)(x:Nat)(w:World)(hx:x≤1099511627776)(hd:∀d ∈ ds,d<65536)(hl:ds.length≤100)(hc:∀j (h:j<ds.length),w.cell? ⟨vb,j,none⟩=some (.int .u64 (ds[j]:Int))) :
  Calls Tryz.prog 142 #[.slice (some ⟨vb,0,none⟩) ds.length cap,.int .u64 (x:Int)] w fun e w'=>
   ∃v os,e=.returned v∧Row w' w.heap.size 88 v (os.map dv)∧val os=val ds*x∧(∀d ∈ os,d<65536)∧os.length≤ds.length+3∧ds.length≤os.length∧Since w w':=by
 obtain⟨i0,hi,hz,hby,hsz⟩:=RY;go_enter Tryz.func142,Tryz.ntmps142
 go_wp2_with fail
 go_loopw [5,6,7] (fun o c i wr=>∃(n cc:Nat) (os:List Nat),i=.int .i64 n∧c=.int .u64 cc∧Row wr w.heap.size 88 o (os.map dv)∧os.length=n∧val os+65536 ^ n*cc=val (ds.take n)*x∧cc≤x∧(∀d ∈ os,d<65536)∧n≤ds.length+3∧(ds.length≤n→cc*65536 ^ (n-ds.length)≤x)∧Since w wr) (fun _ _ i _=>ds.length+3-(intOf i).toNat)
 case atStart=>exact⟨0,0,[],rfl,rfl,Row.nil _ _ _,rfl,by simp[val],by omega,by simp,by omega,by simp,Since.refl w⟩
 obtain⟨n,cc,os,rfl,rfl,hR,hn,E,hcc,hos,hn3,hcar,hS⟩:=hrel;by_cases hlt:n<ds.length
 ·have hck:wr.cell? ⟨vb,n,none⟩=some (.int .u64 (ds[n]:Int)):=by
   have h:=hc n hlt;rw[hS.cell (p:=⟨vb,n,none⟩) (World.block_lt_of_cell? w _ h)];exact h
  have hdn:=hd ds[n] (List.getElem_mem hlt);have hpb:=WE ds[n] x hdn hx;have E':=RV os ds x cc n hn hlt E;have C':=RX cc ds[n] x hcc hdn;generalize hdd:ds[n]=d at *;clear hdd E;have HE:=hid E';clear E';have hp:∃p:Nat,d*x=p:=⟨_,rfl⟩
  obtain⟨p,hp⟩:=hp;have hpi:(d:Int)*(x:Int)=(p:Int):=by rw[←hp];simp
  rw[hp] at hpb C';have Hp:=hid hp;clear hp;have il:(os.map dv).length+1≤maxLen:=by simp[maxLen];omega
  have hbb:((os.map dv).length+1)*8≤140737488355328:=by simp;omega
  have hbase:∀o,w.heap.size≤(wr.alloc o).heap.size:=by intro o;have:=hS.size;simp;omega
  go_wp2_with (at_builtin;refine wpList_append_lies _ (by rfl) _ _ 220 (by rfl) w.heap.size 88 i0 (.int .u64 0) 1 8 Tryz.underlying220 hi hz hsz hby (by rfl) (by decide) u5 (os.map dv).length (os.map dv) (by rfl) (hR.since ((Since.refl _).alloc _)) ⟨wr.heap.size,0,none⟩ 1 1 [.int .u64 (((cc:Int)+p) % 65536)] (by rfl) (by rfl) (cell_one_new _ _ _) (fun u hu=>by simp at hu;subst hu;rfl) (by decide) il hbb (hbase _) (wr.heap.size+1) (by simp) ?_;intro g cp w2 hown hgrow hat hlt2)
  have hR2:Row w2 w.heap.size 88 (.slice (some ⟨g,0,none⟩) (n+1) cp) ((os++[(cc+d*x) % 65536]).map dv):=by
   have e1:(os++[(cc+d*x) % 65536]).map dv=os.map dv++[.int .u64 (((cc:Int)+p) % 65536)]:=by rw[Hp.o,List.map_append];rfl
   have e2:(os.map dv).length=n:=by simp[hn]
   rw[e2] at hown;unfold Row;rw[e1,List.length_append,e2];exact hown
  have hS2:Since w w2:=(hS.alloc _).grown hgrow (fun k hk=>hR.own k hk);clear hown hgrow hat hR il hbb hbase;go_wp2_with fail
  go_roundw
  case rel=>
   refine⟨n+1,(cc+d*x) / 65536,os++[(cc+d*x) % 65536],by go_num,?_,hR2,by simp[hn],HE.o,by rw[Hp.o];exact C',?_,by omega,?_,hS2⟩
   ·rw[Hp.o];go_num
   ·intro y hy;rcases List.mem_append.1 hy with h | h
    ·exact hos y h
    simp at h;subst h;exact Nat.mod_lt _ (by decide)
   intro h;have e:n+1-ds.length=0:=by omega
   rw[e,Nat.pow_zero,Nat.mul_one,Hp.o];exact C'
  case measure=>simp[intOf];omega
 by_cases h0:0<cc
 ·have hn2:n<ds.length+3:=by
   rcases Nat.lt_or_ge n (ds.length+3) with h | h
   ·exact h
   exfalso;have h1:=hcar (by omega);have h2:n-ds.length=3:=by omega
   rw[h2] at h1;have h3:1*65536 ^ 3≤cc*65536 ^ 3:=Nat.mul_le_mul_right _ h0;have h4:(65536:Nat) ^ 3=281474976710656:=by decide
   omega
  have et:ds.take n=ds:=List.take_of_length_le (by omega);have et1:ds.take (n+1)=ds:=List.take_of_length_le (by omega);have HE:Hid (val (os++[cc % 65536])+65536 ^ (n+1)*(cc / 65536)=val (ds.take (n+1))*x):=by
   rw[et] at E;rw[et1];exact Oq os _ cc n hn E
  clear E et et1;have HC:Hid (cc / 65536*65536 ^ (n+1-ds.length)≤x):=by
   rw[show n+1-ds.length=(n-ds.length)+1 by omega];exact Ot cc x _ (hcar (by omega))
  clear hcar;have hcI:(0:Int)<cc:=by omega
  have hge:¬((n:Int)<ds.length):=by omega
  have il:(os.map dv).length+1≤maxLen:=by simp[maxLen];omega
  have hbb:((os.map dv).length+1)*8≤140737488355328:=by simp;omega
  have hbase:∀o,w.heap.size≤(wr.alloc o).heap.size:=by intro o;have:=hS.size;simp;omega
  go_wp2_with (at_builtin;refine wpList_append_lies _ (by rfl) _ _ 220 (by rfl) w.heap.size 88 i0 (.int .u64 0) 1 8 Tryz.underlying220 hi hz hsz hby (by rfl) (by decide) u5 (os.map dv).length (os.map dv) (by rfl) (hR.since ((Since.refl _).alloc _)) ⟨wr.heap.size,0,none⟩ 1 1 [.int .u64 ((cc:Int) % 65536)] (by rfl) (by rfl) (cell_one_new _ _ _) (fun u hu=>by simp at hu;subst hu;rfl) (by decide) il hbb (hbase _) (wr.heap.size+1) (by simp) ?_;intro g cp w2 hown hgrow hat hlt2)
  have hR2:Row w2 w.heap.size 88 (.slice (some ⟨g,0,none⟩) (n+1) cp) ((os++[cc % 65536]).map dv):=by
   have e1:(os++[cc % 65536]).map dv=os.map dv++[.int .u64 ((cc:Int) % 65536)]:=by rw[List.map_append];rfl
   have e2:(os.map dv).length=n:=by simp[hn]
   rw[e2] at hown;unfold Row;rw[e1,List.length_append,e2];exact hown
  have hS2:Since w w2:=(hS.alloc _).grown hgrow (fun k hk=>hR.own k hk);clear hown hgrow hat hR il hbb hbase;go_wp2_with fail
  go_roundw
  case rel=>
   refine⟨n+1,cc / 65536,os++[cc % 65536],by go_num,by go_num,hR2,by simp[hn],HE.o,by omega,?_,by omega,fun _=>HC.o,hS2⟩;intro y hy;rcases List.mem_append.1 hy with h | h
   ·exact hos y h
   simp at h;subst h;exact Nat.mod_lt _ (by decide)
  case measure=>simp[intOf];omega
 have hz0:cc=0:=by omega
 subst hz0;have et:ds.take n=ds:=List.take_of_length_le (by omega);have hge:¬((n:Int)<ds.length):=by omega
 rw[et] at E;have HE:Hid (val os=val ds*x):=by have e:=E;simp at e;exact e
 clear E et hcar;go_wp2_with fail
 go_ret;exact⟨_,rfl,os,hR,HE.o,hos,by omega,by omega,hS⟩
end Sm
end
section
namespace Sm
open Go.RowKit
theorem ZN (n:Nat):∀d ∈ List.replicate n 0,d<65536:=by intro d h;rw[List.eq_of_mem_replicate h];decide
theorem WF (n:Nat):val (List.replicate n 0)=0:=by
 induction n with
 | zero=>rfl
 | succ n ih=>rw[List.replicate_succ];simp[val,ih]
theorem RZ (n:Nat):(madeCells (Value.int IntKind.u64 0).cells n).toList=(List.replicate n 0).map dv:=by
 apply List.ext_getElem?
 intro i;by_cases h:i<n
 ·simp[madeCells,Value.cells,h,Nat.mod_one,dv]
 simp[madeCells,h]
theorem zT (a:List Nat):val (a++[0])=val a:=by rw[ow];simp
theorem xz {w:World}{B:Nat}{e:TypeId}{g n cap:Nat}{xs:List Value}(h:Row w B e (.slice (some ⟨g,0,none⟩) n cap) xs):g<w.heap.size:=by
 rcases h.form with⟨h,_⟩ | ⟨g',c',h,_,h2⟩
 ·cases h
 injection h with h _ _;injection h with h;injection h with h _;rw[h];exact h2
theorem DL {w:World}{B g cp d:Nat}{os:List Nat}(h:w.ownsRow B 88 1 (.slice (some ⟨g,0,none⟩) ((os.map dv).length+1) cp) ((os.map dv).length+1) (os.map dv++[.int .u64 (d:Int)])) :
  Row w B 88 (.slice (some ⟨g,0,none⟩) (os++[d]).length cp) ((os++[d]).map dv):=by
 have e1:(os++[d]).map dv=os.map dv++[.int .u64 (d:Int)]:=by rw[List.map_append];rfl
 unfold Row;rw[e1,List.length_append,List.length_append];rw[List.length_map] at h ⊢;exact h
def WG:Value→Nat
 | .slice _ n _=>n
 | _=>0
theorem Ov (x k p:Nat)(w:World)(hx:x≤1099511627776)(hk:k≤3)(hp:p<65536) :
  Calls Tryz.prog 84 #[.int .u64 (x:Int),.int .i64 (k:Int),.int .u64 (p:Int)] w fun e w'=>
   e=.returned (.bool (decide (p*65536 ^ (2*k)<x ^ k)))∧Since w w':=by
 obtain⟨i0,hi,hz,hby,hsz⟩:=RY;go_enter Tryz.func84,Tryz.ntmps84
 go_wp2_with fail
 go_loopw [12,7] (fun i v wr=>∃(n:Nat) (g cap:Nat) (os:List Nat),n≤k∧i=.int .i64 n∧v=.slice (some ⟨g,0,none⟩) os.length cap∧Row wr w.heap.size 88 v (os.map dv)∧val os=x ^ n∧(∀d ∈ os,d<65536)∧0<os.length∧os.length≤1+3*n∧Since w wr) (fun i _ _=>k-(intOf i).toNat)
 case atStart=>exact⟨0,w.heap.size,1,[1],by omega,rfl,rfl,World.ownsRow_lit w _ 1 (Nat.le_refl _) (by unfold maxLen;omega) rfl,rfl,by simp,by simp,by simp,(Since.refl w).alloc _⟩
 obtain⟨n,g,cap,os,hn,rfl,rfl,hR,hv,hos,hpos,hlen,hS⟩:=hrel;by_cases hlt:n<k
 ·go_wp2_with fail
  refine(Ou g cap os x wr hx hos (by omega) (fun j hj=>?_)).mono ?_
  ·have:=hR.cell (by simp) j (by simpa using hj);rw[this];simp[dv]
  rintro e w2 ⟨v2,os2,rfl,hR2,hv2,a6X,hl2,b3h,hS2⟩;have yZ:Row w2 w.heap.size 88 v2 (os2.map dv):=by
   rcases hR2.2 with h | ⟨g,cap,cur,h1,h2,h3⟩
   ·exact⟨hR2.1,Or.inl h⟩
   exact⟨hR2.1,Or.inr ⟨g,cap,cur,h1,Nat.le_trans hS.size h2,h3⟩⟩
  rcases yZ.form with⟨_,h0⟩ | ⟨g2,cap2,a3M,hg1,hg2⟩
  ·exfalso;have:=congrArg List.length h0;simp at this;subst this;have:([]:List Nat).length=0:=rfl;omega
  rw[List.length_map] at a3M;subst a3M;have bQ:=hS.trans hS2;clear hR hR2;go_wp2_with fail
  go_roundw
  case rel=>exact⟨n+1,g2,cap2,os2,by omega,by go_num,rfl,yZ,by rw[hv2,hv,Nat.pow_succ],a6X,by omega,by omega,bQ⟩
  case measure=>simp[intOf];omega
 have hnk:n=k:=by omega
 subst hnk;have hmk:=run_make (P:=Tryz.prog) wr 220 88 i0 _ Tryz.underlying220 hi hz .i64 .i64 (2*(n:Int)) (2*(n:Int)) (by omega) (by omega) (by rw[hby];omega) (by omega);have t2:(2*(n:Int)).toNat=2*n:=by omega
 rw[hsz,t2,Nat.mul_one] at hmk;have hRm:Row (wr.alloc (.cells (madeCells #[.int .u64 0] (2*n)) 88)) w.heap.size 88 (.slice (some ⟨wr.heap.size,0,none⟩) (2*n) (2*n)) ((List.replicate (2*n) 0).map dv):=by
  have h:=World.ownsRow_lit (base:=w.heap.size) (e:=88) (size:=1) wr (madeCells (Value.int IntKind.u64 0).cells (2*n)) (2*n) hS.size (by unfold maxLen;omega) (by rw[size_madeCells];omega);rw[RZ] at h;show World.ownsRow _ _ _ _ _ _ _
  rw[List.length_map,List.length_replicate];exact h
 have il:(List.map dv (List.replicate (2*n) 0)).length+1≤maxLen:=by simp[maxLen];omega
 have hbb:((List.map dv (List.replicate (2*n) 0)).length+1)*8≤140737488355328:=by simp;omega
 have hbase:∀o o',w.heap.size≤((wr.alloc o).alloc o').heap.size:=by intro o o';have:=hS.size;simp;omega
 have hgl:g<wr.heap.size:=xz hR;go_wp2_with (at_builtin;refine wpList_append_lies _ (by rfl) _ _ 220 (by rfl) w.heap.size 88 i0 (.int .u64 0) 1 8 Tryz.underlying220 hi hz hsz hby (by rfl) (by decide) (.slice (some ⟨wr.heap.size,0,none⟩) (2*n) (2*n)) (List.map dv (List.replicate (2*n) 0)).length ((List.replicate (2*n) 0).map dv) (by rfl) (hRm.since ((Since.refl _).alloc _)) ⟨wr.heap.size+1,0,none⟩ 1 1 [.int .u64 (p:Int)] (by rfl) (by rfl) (mM _ _ _ _ (by simp)) (fun u hu=>by simp at hu;subst hu;rfl) (by decide) il hbb (hbase _ _) (wr.heap.size+2) (by simp) ?_;intro gw YO w2 hown hgrow hat hlt2)
 have Cs:Row w2 w.heap.size 88 (.slice (some ⟨gw,0,none⟩) (2*n+1) YO) ((List.replicate (2*n) 0++[p]).map dv):=by
  have e1:(List.replicate (2*n) 0++[p]).map dv=(List.replicate (2*n) 0).map dv++[.int .u64 (p:Int)]:=by rw[List.map_append];rfl
  have e2:((List.replicate (2*n) 0).map dv).length=2*n:=by simp
  rw[e2] at hown;unfold Row;rw[e1,List.length_append,e2];exact hown
 have hRv:Row w2 w.heap.size 88 (.slice (some ⟨g,0,none⟩) os.length cap) (os.map dv):=
  World.ownsRow.kept (World.ownsRow.alloc (World.ownsRow.alloc hR _) _) hgrow (Or.inr (by simp[Value.ownBlock];omega))
 have hne:g≠gw:=by
  simp[Value.ownBlock] at hat;omega
 have hS2:Since w w2:=((hS.alloc _).alloc _).grown hgrow (fun k hk=>hRm.own k hk);clear hown hgrow hat hR il hbb hbase hRm hmk hgl;have hws:val (List.replicate (2*n) 0++[p])=p*65536 ^ (2*n):=by rw[ow,WF,List.length_replicate,Nat.zero_add,Nat.mul_comm]
 have hwd:∀d ∈ List.replicate (2*n) 0++[p],d<65536:=by
  intro d hd;rcases List.mem_append.1 hd with h | h
  ·exact ZN _ d h
  simp at h;subst h;exact hp
 have hwl:(List.replicate (2*n) 0++[p]).length=2*n+1:=by simp
 generalize List.replicate (2*n) 0++[p]=ws at *;rw[←hwl] at Cs ⊢;have Hv:=hid hv;have Hws:=hid hws;have Hwl:=hid hwl;have hw7:ws.length≤7:=by omega
 clear hv hws hwl t2;go_wp2_with fail
 go_loopw [7] (fun v wr2=>∃(g cap:Nat) (os:List Nat),v=.slice (some ⟨g,0,none⟩) os.length cap∧Row wr2 w.heap.size 88 v (os.map dv)∧Row wr2 w.heap.size 88 (.slice (some ⟨gw,0,none⟩) ws.length YO) (ws.map dv)∧g≠gw∧val os=x ^ n∧(∀d ∈ os,d<65536)∧os.length≤10∧Since w wr2) (fun v _=>2*n+1-WG v)
 case atStart=>exact⟨g,cap,os,rfl,hRv,Cs,hne,Hv.o,hos,by omega,hS2⟩
 clear hRv hne Hv hos hpos hlen hS2 Cs;obtain⟨g,cap,os,rfl,hRv,Cs,hne,hv,hos,hol,hS2⟩:=hrel;have Hv:=hid hv;clear hv;have lv:g<wr.heap.size:=xz hRv;have lw:gw<wr.heap.size:=xz Cs;have hbase:∀o,w.heap.size≤(wr.alloc o).heap.size:=by intro o;have:=hS2.size;simp;omega
 by_cases hlt:os.length<ws.length
 ·have il:(os.map dv).length+1≤maxLen:=by simp[maxLen];omega
  have hbb:((os.map dv).length+1)*8≤140737488355328:=by simp;omega
  have HR:=hRv;go_wp2_with (at_builtin;refine wpList_append_lies _ (by rfl) _ _ 220 (by rfl) w.heap.size 88 i0 (.int .u64 0) 1 8 Tryz.underlying220 hi hz hsz hby (by rfl) (by decide) (.slice (some ⟨g,0,none⟩) os.length cap) (os.map dv).length (os.map dv) (by rfl) (HR.since ((Since.refl _).alloc _)) ⟨wr.heap.size,0,none⟩ 1 1 [.int .u64 0] (by rfl) (by rfl) (mM _ _ _ _ rfl) (fun u hu=>by simp at hu;subst hu;rfl) (by decide) il hbb (hbase _) (wr.heap.size+1) (by simp) ?_;intro g2 cp2 w3 hown hgrow hat hlt3)
  have hR2:Row w3 w.heap.size 88 (.slice (some ⟨g2,0,none⟩) (os++[0]).length cp2) ((os++[0]).map dv):=DL hown;have a6Z:Row w3 w.heap.size 88 (.slice (some ⟨gw,0,none⟩) ws.length YO) (ws.map dv):=World.ownsRow.kept (World.ownsRow.alloc Cs _) hgrow (Or.inr (by simp[Value.ownBlock];omega));have hne2:g2≠gw:=by simp[Value.ownBlock] at hat;omega
  have bQ:Since w w3:=(hS2.alloc _).grown hgrow (fun k hk=>hRv.own k hk);clear hown hgrow hat hRv Cs il hbb hbase HR;go_wp2_with fail
  go_roundw
  case rel=>
   refine⟨g2,cp2,os++[0],by simp,by simpa using hR2,a6Z,hne2,by rw[zT];exact Hv.o,?_,by simp;omega,bQ⟩;intro y hy;rcases List.mem_append.1 hy with h | h
   ·exact hos y h
   simp at h;omega
  case measure=>have:=Hwl.o;simp[WG];omega
 go_wp2_with fail
 go_loopw [8] (fun u wr2=>∃(gw YO:Nat) (ws:List Nat),u=.slice (some ⟨gw,0,none⟩) ws.length YO∧Row wr2 w.heap.size 88 u (ws.map dv)∧Row wr2 w.heap.size 88 (.slice (some ⟨g,0,none⟩) os.length cap) (os.map dv)∧g≠gw∧val ws=p*65536 ^ (2*n)∧(∀d ∈ ws,d<65536)∧ws.length≤os.length∧Since w wr2) (fun v _=>os.length-WG v)
 case atStart=>exact⟨gw,YO,ws,rfl,Cs,hRv,hne,Hws.o,hwd,by omega,hS2⟩
 clear Cs hRv hne Hws hwd hS2 Hwl hw7 lw lv hbase hlt;obtain⟨gw,YO,ws,rfl,Cs,hRv,hne,hws,hwd,hwl,hS2⟩:=hrel;have Hws:=hid hws;clear hws;have lv:g<wr.heap.size:=xz hRv;have lw:gw<wr.heap.size:=xz Cs;have hbase:∀o,w.heap.size≤(wr.alloc o).heap.size:=by intro o;have:=hS2.size;simp;omega
 by_cases hlt:ws.length<os.length
 ·have il:(ws.map dv).length+1≤maxLen:=by simp[maxLen];omega
  have hbb:((ws.map dv).length+1)*8≤140737488355328:=by simp;omega
  have HR:=Cs;go_wp2_with (at_builtin;refine wpList_append_lies _ (by rfl) _ _ 220 (by rfl) w.heap.size 88 i0 (.int .u64 0) 1 8 Tryz.underlying220 hi hz hsz hby (by rfl) (by decide) (.slice (some ⟨gw,0,none⟩) ws.length YO) (ws.map dv).length (ws.map dv) (by rfl) (HR.since ((Since.refl _).alloc _)) ⟨wr.heap.size,0,none⟩ 1 1 [.int .u64 0] (by rfl) (by rfl) (mM _ _ _ _ rfl) (fun u hu=>by simp at hu;subst hu;rfl) (by decide) il hbb (hbase _) (wr.heap.size+1) (by simp) ?_;intro g2 cp2 w3 hown hgrow hat hlt3)
  have hR2:Row w3 w.heap.size 88 (.slice (some ⟨g2,0,none⟩) (ws++[0]).length cp2) ((ws++[0]).map dv):=DL hown;have a7a:Row w3 w.heap.size 88 (.slice (some ⟨g,0,none⟩) os.length cap) (os.map dv):=World.ownsRow.kept (World.ownsRow.alloc hRv _) hgrow (Or.inr (by simp[Value.ownBlock];omega));have hne2:g≠g2:=by simp[Value.ownBlock] at hat;omega
  have bQ:Since w w3:=(hS2.alloc _).grown hgrow (fun k hk=>Cs.own k hk);clear hown hgrow hat hRv Cs il hbb hbase HR;go_wp2_with fail
  go_roundw
  case rel=>
   refine⟨g2,cp2,ws++[0],by simp,by simpa using hR2,a7a,hne2,by rw[zT];exact Hws.o,?_,by simp;omega,bQ⟩;intro y hy;rcases List.mem_append.1 hy with h | h
   ·exact hwd y h
   simp at h;omega
  case measure=>simp[WG];omega
 go_wp2_with fail
 have a3N:os.length=ws.length:=by omega
 go_loopw [9] (fun i wr2=>∃m:Nat,m≤os.length∧i=.int .i64 ((m:Int)-1)∧os.drop m=ws.drop m∧Since wr wr2) (fun i _=>(intOf i+1).toNat)
 case atStart=>exact⟨os.length,Nat.le_refl _,rfl,by rw[List.drop_length,a3N,List.drop_length],Since.refl _⟩
 clear hbase;have a3O:=hRv;have a3P:=Cs;have a3Q:=hS2;clear hRv Cs hS2;obtain⟨m,hm,rfl,hdr,hSr⟩:=hrel;have hRv:=a3O.since hSr;have Cs:=a3P.since hSr;have hS2:=a3Q.trans hSr;clear a3O a3P a3Q;have HD:=hid hdr;clear hdr;cases m with
 | zero=>
  go_wp2_with fail
  go_ret;refine⟨?_,hS2⟩;have e:os=ws:=by have:=HD.o;simpa using this
  rw[←Hws.o,←Hv.o,e];simp
 | succ j=>
  have e:((j+1:Nat):Int)-1=(j:Int):=by omega
  rw[e];clear e;have hj1:j<os.length:=by omega
  have hj2:j<ws.length:=by omega
  have c1:wr.cell? ⟨g,j,none⟩=some (.int .u64 (os[j]:Int)):=by
   rw[hRv.cell (by simp) j (by simpa using hj1)];simp[dv]
  have c2:wr.cell? ⟨gw,j,none⟩=some (.int .u64 (ws[j]:Int)):=by
   rw[Cs.cell (by simp) j (by simpa using hj2)];simp[dv]
  have b0:(0:Int)≤j:=by omega
  have b1:(j:Int)<os.length:=by omega
  have b2:(j:Int)<ws.length:=by omega
  by_cases hab:os[j]=ws[j]
  ·rw[←hab] at c2;have HD2:Hid (os.drop j=ws.drop j):=by
    show os.drop j=ws.drop j
    rw[List.drop_eq_getElem_cons hj1,List.drop_eq_getElem_cons hj2,HD.o,hab]
   clear HD hab;generalize os[j]=a at c1 c2;go_wp2_with fail
   go_quiet (fail)
   go_wp2_with fail
   go_roundw
   case rel=>exact⟨j,by omega,by rfl,HD2.o,hSr.drewN _⟩
   case measure=>simp[intOf]
  have hvd:=IK os ws j hos hwd a3N hj1 HD.o hab;have HV:=hid hvd;clear hvd;generalize hav:os[j]=a at *;generalize hbv:ws[j]=b at *;clear hav hbv HD;have hnb:((a:Int) != (b:Int))=true:=by simp;omega
  go_wp2_with fail
  go_quiet (fail)
  go_wp2_with fail
  go_quiet (fail)
  go_wp2_with fail
  go_ret;refine⟨?_,(hS2.drewN _).drewN _⟩;have e1:=HV.o;rw[Hws.o,Hv.o] at e1;simp[e1]
end Sm
end
section
namespace Sm
open Go.RowKit
attribute [local go_sem] gQ eF iB iC lq iD iE iG dU eG cZ dG bu fe dC
theorem DN (p k:Nat)(w:World)(hk1:1≤k)(hk:k≤3)(hp:p<65536)(hN:p*65536 ^ (2*k)<1099511627776 ^ k) :
  Calls Tryz.prog 32 #[.int .u64 (p:Int),.int .i64 (k:Int)] w fun e w'=>
   ∃r:Nat,e=.returned (U (BitVec.ofNat 32 r))∧r ^ k≤p*65536 ^ (2*k)∧p*65536 ^ (2*k)<(r+1) ^ k∧Since w w':=by
 generalize hNe:p*65536 ^ (2*k)=N at *;have HN:=hid hNe;have HN2:=hid hN;clear hNe hN;go_enter Tryz.func32,Tryz.ntmps32
 go_wp2_with fail
 go_loopw [5,6] (fun lo hi wr=>∃l h:Nat,lo=.int .u64 l∧hi=.int .u64 h∧l<h∧h≤1099511627776∧Hid (l ^ k≤N)∧Hid (N<h ^ k)∧Since w wr) (fun lo hi _=>(intOf hi).toNat-(intOf lo).toNat)
 case atStart=>exact⟨0,1099511627776,rfl,rfl,by omega,by omega,by show 0 ^ k≤N;rw[Nat.zero_pow (by omega)];omega,HN2,Since.refl w⟩
 obtain⟨l,h,rfl,rfl,hlh,hh,H1,H2,hS⟩:=hrel;by_cases hc:l+1<h
 ·go_wp2_with fail
  have e1:((l:Int)+h) / 2=(((l+h) / 2:Nat):Int):=by omega
  rw[e1];clear e1;have hm1:l<(l+h) / 2:=by omega
  have hm2:(l+h) / 2<h:=by omega
  generalize (l+h) / 2=x at *;refine(Ov x k p wr (by omega) hk hp).mono ?_;rintro e w2 ⟨rfl,hS2⟩;rw[HN.o];have bQ:=hS.trans hS2;by_cases ha:N<x ^ k
  ·have Ha:=hid ha;rw[show decide (N<x ^ k)=true from by simpa using ha];clear ha;go_wp2_with fail
   go_roundw
   case rel=>exact⟨l,x,rfl,rfl,by omega,by omega,H1,Ha,bQ⟩
   case measure=>simp[intOf];omega
  have Ha:Hid (x ^ k≤N):=by show x ^ k≤N;omega
  rw[show decide (N<x ^ k)=false from by simpa using ha];clear ha;go_wp2_with fail
  go_roundw
  case rel=>exact⟨x,h,rfl,rfl,by omega,by omega,Ha,H2,bQ⟩
  case measure=>simp[intOf];omega
 have hh1:h=l+1:=by omega
 subst hh1;go_wp2_with fail
 go_ret;exact⟨l,rfl,H1.o,H2.o,hS⟩
end Sm
end
section
namespace Sm
open Go.RowKit
def nI (k:Nat)(l:List Nat):Bool:=l.all fun p=>k % p != 0
theorem IL (k:Nat)(l:List Nat)(m:Nat)(h:m<l.length):nI k (l.take (m+1))=(nI k (l.take m)&&k % l[m] != 0):=by
 rw[List.take_succ_eq_append_getElem h];unfold nI;rw[List.all_append];simp
theorem WH (k q:Nat):((k:Int) % (q:Int) != 0)=(k % q != 0):=by
 rw[←Int.natCast_emod];cases h:k % q with
 | zero=>rfl
 | succ n=>rw[Bool.eq_iff_iff];simp;omega
def jT:Nat→List Nat
 | 0=>[]
 | j+1=>if nI (2+j) (jT j) then jT j++[2+j] else jT j
theorem a3R (j:Nat):∀p ∈ jT j,2≤p∧p<2+j:=by
 induction j with
 | zero=>intro p h;cases h
 | succ j ih=>
  intro p h;unfold jT at h;split at h
  ·rcases List.mem_append.1 h with h | h
   ·have:=ih p h;omega
   simp at h;omega
  have:=ih p h;omega
theorem WI (j:Nat):(jT j).length≤(jT (j+1)).length:=by
 conv=>rhs;unfold jT
 split
 ·simp
 exact Nat.le_refl _
theorem Sa (i j:Nat)(h:i≤j):(jT i).length≤(jT j).length:=by
 induction j with
 | zero=>rw[Nat.le_zero.1 h];exact Nat.le_refl _
 | succ j ih=>
  rcases Nat.lt_or_ge i (j+1) with h1 | h1
  ·exact Nat.le_trans (ih (by omega)) (WI j)
  rw[show i=j+1 by omega];exact Nat.le_refl _
theorem ZO:(jT 309).length=63:=by decide +kernel
theorem qK:(jT 310).length=64:=by decide +kernel
def iv (d:Nat):Value:=.int .i64 (d:Int)
theorem info3:∃i,Tryz.prog.info? 3=some i∧i.zero=some (.int .i64 0)∧i.bytes=8∧i.size=1:=⟨_,rfl,by kernel_rfl,by kernel_rfl,by kernel_rfl⟩
theorem WJ {w:World}{B:Nat}{e:TypeId}{v:Value}{xs:List Value}(h:Row w B e v xs)(t:TypeId)(ht:Tryz.prog.underlying t=some (.slice (Tryz.prog.elem t))) :
  ∀w' ty,(Builtin.len_ #[t] ty #[v]).run Tryz.prog w'=.ok (goInt xs.length) w':=by
 intro w' ty;rcases h.form with⟨rfl,rfl⟩ | ⟨g,cap,rfl,_⟩
 ·exact run_len_slice w' t ty none 0 0 ht
 exact run_len_slice w' t ty _ _ _ ht
theorem IM (w:World) :
  Calls Tryz.prog 31 #[.int .i64 64] w fun e w'=>∃g cap,e=.returned (.slice (some ⟨g,0,none⟩) 64 cap)∧Row w' w.heap.size 3 (.slice (some ⟨g,0,none⟩) 64 cap) ((jT 310).map iv)∧Since w w':=by
 obtain⟨i0,hi,hz,hby,hsz⟩:=info3;go_enter Tryz.func31,Tryz.ntmps31
 go_wp2_with fail
 go_loopw [3,4] (fun v k wr=>∃j:Nat,j≤310∧k=.int .i64 ((2+j:Nat):Int)∧Row wr w.heap.size 3 v ((jT j).map iv)∧Since w wr) (fun _ k _=>312-(intOf k).toNat)
 case atStart=>exact⟨0,by omega,rfl,Row.nil _ _ _,Since.refl w⟩
 obtain⟨j,hj,rfl,hR,hS⟩:=hrel;have hlen:=WJ hR 61 (by kernel_rfl);have hpr:=a3R j;rw[List.length_map] at hlen;by_cases hlt:(jT j).length<64
 ·have hj2:j<310:=by
   rcases Nat.lt_or_ge j 310 with h | h
   ·exact h
   exfalso;have e:j=310:=by omega
   rw[e,qK] at hlt;omega
  have YE:Hid (jT (j+1)=if nI (2+j) (jT j) then jT j++[2+j] else jT j):=rfl;generalize jT j=l at *;generalize hkk:2+j=k at *;have HK:=hid hkk;have hk1:2≤k:=by omega
  have hk2:k<312:=by omega
  clear hkk;go_wp2_with fail
  go_loop [16,5] (fun i b=>∃m:Nat,m≤l.length∧i=.int .i64 m∧b=.bool (nI k (l.take m))) (fun i _=>l.length-(intOf i).toNat)
  case atStart=>exact⟨0,by omega,rfl,rfl⟩
  obtain⟨m,hm,rfl,rfl⟩:=hrel;by_cases Qt:m<l.length
  ·rcases hR.form with⟨_,h0⟩ | ⟨g,cap,hve,hg1,hg2⟩
   ·exfalso;have:=congrArg List.length h0;simp at this;subst this;simp at Qt
   rw[List.length_map] at hve;subst hve;have hc:wr.cell? ⟨g,m,none⟩=some (.int .i64 (l[m]:Int)):=by
    rw[hR.cell (by simp) m (by simpa using Qt)];simp[iv]
   have hp2:=(hpr l[m] (List.getElem_mem Qt)).1;have Hnd:=hid (IL k l m Qt);generalize l[m]=q at *;have hq0:((q:Int)==0)=false:=by simp;omega
   cases hb:nI k (l.take m)
   ·have HB:=(show Hid (nI k (l.take m)=false) from hb)
    clear hb;go_wp2_with fail
    go_round
    case rel=>exact⟨m+1,by omega,by go_num,by rw[Hnd.o,HB.o];rfl⟩
    case measure=>simp[intOf];omega
   have HB:=(show Hid (nI k (l.take m)=true) from hb)
   clear hb;go_wp2_with fail
   exact⟨⟨m+1,by omega,by go_num,by rw[Hnd.o,HB.o,WH];rfl⟩,by simp[intOf];omega⟩
  have hme:l.take m=l:=List.take_of_length_le (by omega);rw[hme];clear hme;cases hb:nI k l
  ·have HB:=(show Hid (nI k l=false) from hb)
   clear hb;go_wp2_with fail
   go_roundw
   case rel=>
    have e:jT (j+1)=l:=by rw[YE.o,HB.o];rfl
    exact⟨j+1,by omega,by rw[show ((2+(j+1):Nat):Int)=(k:Int)+1 by have:=HK.o;omega],by rw[e];exact hR,hS⟩
   case measure=>simp[intOf];omega
  have HB:=(show Hid (nI k l=true) from hb)
  clear hb;have il:(l.map iv).length+1≤maxLen:=by simp[maxLen];omega
  have hbb:((l.map iv).length+1)*8≤140737488355328:=by simp;omega
  have hbase:∀o,w.heap.size≤(wr.alloc o).heap.size:=by intro o;have:=hS.size;simp;omega
  go_wp2_with (at_builtin;refine wpList_append_lies _ (by rfl) _ _ 61 (by rfl) w.heap.size 3 i0 (.int .i64 0) 1 8 Tryz.underlying61 hi hz hsz hby (by rfl) (by decide) u3 (l.map iv).length (l.map iv) (by rfl) (hR.since ((Since.refl _).alloc _)) ⟨wr.heap.size,0,none⟩ 1 1 [.int .i64 (k:Int)] (by rfl) (by rfl) (mM _ _ _ _ rfl) (fun u hu=>by simp at hu;subst hu;rfl) (by decide) il hbb (hbase _) (wr.heap.size+1) (by simp) ?_;intro g cp w2 hown hgrow hat hlt2)
  have hR2:Row w2 w.heap.size 3 (.slice (some ⟨g,0,none⟩) (l.length+1) cp) ((l++[k]).map iv):=by
   have e1:(l++[k]).map iv=l.map iv++[.int .i64 (k:Int)]:=by rw[List.map_append];rfl
   unfold Row;rw[e1,List.length_append];rw[List.length_map] at hown ⊢;exact hown
  have hS2:Since w w2:=(hS.alloc _).grown hgrow (fun k hk=>hR.own k hk);clear hown hgrow hat hR il hbb hbase hlen;go_wp2_with fail
  go_roundw
  case rel=>
   have e:jT (j+1)=l++[k]:=by rw[YE.o,HB.o];rfl
   exact⟨j+1,by omega,by rw[show ((2+(j+1):Nat):Int)=(k:Int)+1 by have:=HK.o;omega],by rw[e];exact hR2,hS2⟩
  case measure=>simp[intOf];omega
 have hj2:j=310:=by
  rcases Nat.lt_or_ge j 310 with h | h
  ·exfalso;have h1:=Sa j 309 (by omega);rw[ZO] at h1;omega
  omega
 subst hj2;rw[qK] at hlen;go_wp2_with fail
 go_ret;rcases hR.form with⟨_,h0⟩ | ⟨g,cap,hve,hg1,hg2⟩
 ·exfalso;have:=congrArg List.length h0;simp[qK] at this
 rw[List.length_map,qK] at hve;exact⟨g,cap,by rw[←hve];rfl,by rw[←hve];exact hR,hS⟩
end Sm
end
end Go.Proofs.YtlgbfkcpdelcbaaGreatDoor
