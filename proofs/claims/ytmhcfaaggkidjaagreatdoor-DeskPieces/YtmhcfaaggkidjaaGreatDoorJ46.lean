import Derived.Test.YtmhcfaaggkidjaaGreatDoorJ45
set_option linter.unusedSimpArgs false
set_option linter.unusedVariables false
section
namespace Go.Proofs.YtmhcfaaggkidjaaGreatDoor
set_option maxRecDepth 100000
namespace Dk
open Go.RowKit
open En (Fi)
open Vl
def zo:Array Value:=#[.pointer none,.pointer none,.string ⟨#[]⟩,.slice none 0 0,.slice none 0 0,.slice none 0 0,.slice none 0 0,.slice none 0 0,.slice none 0 0,.slice none 0 0,.slice none 0 0,.string ⟨#[]⟩,.string ⟨#[]⟩,.pointer none]
def num (w:World) (N:Nat):World:={ w with drawn:=N }
theorem lm (w:World) (N:Nat):Since w (num w N):=⟨rfl,rfl,rfl,Nat.le_refl _,fun _ _=>rfl⟩
theorem Ar (w:World) (N:Nat):Since (num w N) w:=⟨rfl,rfl,rfl,Nat.le_refl _,fun _ _=>rfl⟩
theorem Gr.since {w w':World} (G:Gr w) (hs:Since w w'):Gr w':=⟨G.tab.since hs,G.lb.since hs,Et.go G.et hs⟩
set_option maxHeartbeats 8000000 in
theorem EO (w:World) (G:Gr w):Calls Tryz.prog 12 #[] w fun e w'=>∃sb f r P,e=.returned (.pointer (some ⟨sb,0,none⟩))∧dL (dw ⟨#[]⟩) mr 0 f r∧eu (num w 0) w' P sb ⟨dw ⟨#[]⟩,sS,f⟩ 1∧∀k,P k→w.heap.size≤k:=by
 have hc:ak (w.alloc (.cells zo 77)) w.heap.size 14 (fun j=>zo[j]?.getD undef):=ak.new _ 14 _ _ _ (fun j hj=>by
  have hj2:j<zo.size:=hj;rw[Array.getElem?_eq_getElem hj2]
  rfl) _ rfl
 have hty:Ty (w.alloc (.cells zo 77)) w.heap.size 77:=⟨zo,(0,0),heap_alloc_new _ _⟩
 have hlt:w.heap.size<(w.alloc (.cells zo 77)).heap.size:=by rw[show (w.alloc (.cells zo 77)).heap.size=w.heap.size+1 from Array.size_push _];omega
 have HB:Hid (Calls Tryz.prog 35 #[.pointer (some ⟨w.heap.size,0,none⟩),.string ⟨#[]⟩] (w.alloc (.cells zo 77)) fun e w'=>e=.returned (.tuple #[])∧∃f r,dL (dw ⟨#[]⟩) mr 0 f r∧aG (num w 0) (w.alloc (.cells zo 77)) w' (fun k=>k=w.heap.size) w.heap.size ⟨dw ⟨#[]⟩,sS,f⟩ 1):=Ap (P:=fun k=>k=w.heap.size) (G.since (lm w 0)) hty hc ((Ar w 0).trans ((Since.refl w).alloc _)) rfl (fun k hk=>Nat.le_of_eq hk.symm) (fun k hk=>by rw[hk];exact hlt) (Nat.zero_le _) ⟨#[]⟩ (by decide);unfold zo at HB;clear hc hty hlt G;go_enter Tryz.func12,Tryz.ntmps12
 go_wp2_with fail
 refine HB.out.mono ?_;rintro e w1 ⟨rfl,f,r,h1,P',h2,_⟩;have hlo:∀k,P' k→w.heap.size≤k:=by
  obtain⟨db,cb,fp,v,g1,_⟩:=h2;exact g1.yu
 have H1:Hid (dL (dw ⟨#[]⟩) mr 0 f r∧eu (num w 0) w1 P' w.heap.size ⟨dw ⟨#[]⟩,sS,f⟩ 1∧∀k,P' k→w.heap.size≤k):=⟨h1,h2,hlo⟩
 clear h1 h2 hlo;go_wp2_with fail
 go_ret;exact⟨_,f,r,P',rfl,H1.out.1,H1.out.2.1,H1.out.2.2⟩
theorem eu.num {w w':World} {P:Nat→Prop} {sb:Nat} {ay:ByteArray} {f:uT} {n:Int} {M N:Nat} (h:eu (Dk.num w M) w' P sb ⟨ay,sS,f⟩ n) (hN:N≤w'.heap.size):eu (Dk.num w N) w' P sb ⟨ay,sS,f⟩ n:=by
 obtain⟨db,cb,fp,v,h1,h2⟩:=h;obtain⟨iv,hc,hi⟩:=h1.bL;have hs:Since (Dk.num w N) w':=(Ar w N).trans ((lm w M).trans h1.dc.since);refine⟨db,cb,fp,v,⟨h1.ty,h1.s16,⟨iv,hc,fun z hz=>?_⟩,⟨h1.dc.dev,h1.dc.sQ,h1.dc.ne,h1.dc.own,hs,h1.dc.lo⟩,h1.ne,h1.ps,h1.yu,h1.oU,hN⟩,?_⟩
 ·obtain⟨a,c,hv,hcap,_⟩:=hi z hz;exact⟨a,c,hv,hcap,fun h0=>absurd h0 (Nat.lt_irrefl _)⟩
 cases f using uT.cs with
 | no D c=>exact h2
 | op S l=>
  obtain⟨fb,vb,lv,d,h3,hF,h4⟩:=h2;exact⟨fb,vb,lv,d,h3,⟨⟨hF.rZ.bL,hF.rZ.dev,hF.rZ.sQ,hF.rZ.ne,hF.rZ.own,hF.rZ.ty,hs,hF.rZ.lo⟩,hF.c0,hF.c1,hF.fz,hF.lo,hF.NA,hF.sr,hF.blk,hF.each,hF.ty⟩,h4⟩
end Dk
end Go.Proofs.YtmhcfaaggkidjaaGreatDoor
end
section
namespace Go.Proofs.YtmhcfaaggkidjaaGreatDoor
set_option maxRecDepth 100000
namespace Dk
open Go.RowKit
def mG (n:Nat):List (ByteArray × Value)→List MapEntry
 | []=>[]
 | x::r=>{ key:=.string x.1,val:=x.2,born:=n }::mG (n+1) r
theorem yA (x:ByteArray × Value):∀(L:List (ByteArray × Value)) (n:Nat),mG n (L++[x])=mG n L++[{ key:=.string x.1,val:=x.2,born:=n+L.length }]
 | [],n=>rfl
 | y::r,n=>by
  show _::mG (n+1) (r++[x])=_::(mG (n+1) r++_)
  rw[yA x r (n+1),List.length_cons,Nat.add_assoc,Nat.add_comm 1]
def jS (s:ByteArray):List (ByteArray × Value)→Option Value
 | []=>none
 | x::r=>if s=x.1 then some x.2 else jS s r
theorem WH (s:ByteArray):∀(L:List (ByteArray × Value)) (n i:Nat),∃a,Instr.findNow .string (.string s) (mG n L) i=some a∧(jS s L=none→a=none)∧(∀v,jS s L=some v→∃j,a=some (j,v))
 | [],n,i=>⟨none,rfl,fun _=>rfl,fun v h=>by cases h⟩
 | x::r,n,i=>by
  by_cases h:s=x.1
  ·refine⟨some (i,x.2),?_,?_,?_⟩
   ·show (match Instr.sameNow .string (.string s) (.string x.1) with | some true=>some (some (i,x.2)) | some false=>Instr.findNow .string (.string s) (mG (n+1) r) (i+1) | none=>none)=_
    rw[show Instr.sameNow .string (.string s) (.string x.1)=some (s==x.1) from rfl,(MapKept.bytes_beq s x.1).2 h]
   ·intro h2;unfold jS at h2;rw[if_pos h] at h2;cases h2
   intro v h2;unfold jS at h2;rw[if_pos h] at h2;injection h2 with h2;exact⟨i,by rw[h2]⟩
  obtain⟨a,h1,h2,h3⟩:=WH s r (n+1) (i+1);refine⟨a,?_,?_,?_⟩
  ·show (match Instr.sameNow .string (.string s) (.string x.1) with | some true=>some (some (i,x.2)) | some false=>Instr.findNow .string (.string s) (mG (n+1) r) (i+1) | none=>none)=_
   rw[show Instr.sameNow .string (.string s) (.string x.1)=some (s==x.1) from rfl,Bool.eq_false_iff.2 (fun e=>h ((MapKept.bytes_beq s x.1).1 e)),h1]
  ·intro h4;unfold jS at h4;rw[if_neg h] at h4;exact h2 h4
  intro v h4;unfold jS at h4;rw[if_neg h] at h4;exact h3 v h4
section
variable {P:Program} {kt mt et:TypeId}
theorem EP (hk:P.underlying kt=some .string) (w:World) (s:ByteArray) (L:List (ByteArray × Value)):∃a,(Instr.findKey kt (.string s) (mG 0 L)).run P w=.ok a w∧(jS s L=none→a=none)∧(∀v,jS s L=some v→∃j,a=some (j,v)):=by
 obtain⟨a,h1,h2,h3⟩:=WH s L 0 0;exact⟨a,by simp[Instr.findKey,run_underlying hk,h1],h2,h3⟩
theorem Ir (hk:P.underlying kt=some .string) (w:World) (em:Bool) (s:ByteArray):(Instr.checkKey em 10000 kt (.string s)).run P w=.ok () w:=by
 rw[show 10000=9999+1 from rfl,Instr.checkKey];simp[run_underlying hk]
theorem Qz (hk:P.underlying kt=some .string) (hm:P.underlying mt=some (.map kt et)) {z:Value} (hz:∀w,(zeroValue et).run P w=.ok z w) (w:World) (r c:Nat) (L:List (ByteArray × Value)) (s:ByteArray) (hb:w.heap[r]?=some (.map (mG 0 L).toArray c)) :
  (Instr.lookup mt (.map (some r)) (.string s) true).run P w=.ok (match jS s L with | some v=>.tuple #[v,.bool true] | none=>.tuple #[z,.bool false]) w:=by
 obtain⟨a,h1,h2,h4⟩:=EP hk w s L;cases h:jS s L with
 | some v=>
  obtain⟨j,rfl⟩:=h4 v h;simp[Instr.lookup,run_underlying hm,MapKept.run_getObj_map hb,Ir hk,h1,Result.andThen]
 | none=>
  obtain rfl:=h2 h;simp[Instr.lookup,run_underlying hm,MapKept.run_getObj_map hb,Ir hk,h1,hz,Result.andThen]
theorem QA (hk:P.underlying kt=some .string) (hm:P.underlying mt=some (.map kt et)) (w:World) (r:Nat) (L:List (ByteArray × Value)) (s:ByteArray) (v:Value) (hb:w.heap[r]?=some (.map (mG 0 L).toArray L.length)) (h:jS s L=none) :
  (Instr.mapUpdate mt (.map (some r)) (.string s) v).run P w=.ok () { w with heap:=w.heap.setIfInBounds r (.map (mG 0 (L++[(s,v)])).toArray (L++[(s,v)]).length) }:=by
 obtain⟨a,h1,h2,h4⟩:=EP hk w s L;obtain rfl:=h2 h;simp[Instr.mapUpdate,run_underlying hm,MapKept.run_getObj_map hb,Ir hk,h1,MapKept.run_setObj_map _ hb,Result.andThen,yA]
end
end Dk
end Go.Proofs.YtmhcfaaggkidjaaGreatDoor
end
section
namespace Go.Proofs.YtmhcfaaggkidjaaGreatDoor
set_option maxRecDepth 100000
namespace Dk
open Go.RowKit
open Vl
def dx (sb:Nat):List (ByteArray × Value):=[
 (⟨#[110,101,119]⟩,.agg #[.string ⟨#[84]⟩,.func (.func 36) #[.pointer (some ⟨sb,0,none⟩)] #[]]),
 (⟨#[112,117,116]⟩,.agg #[.string ⟨#[84,78,84]⟩,.func (.func 37) #[.pointer (some ⟨sb,0,none⟩)] #[]]),
 (⟨#[100,101,108]⟩,.agg #[.string ⟨#[84]⟩,.func (.func 38) #[.pointer (some ⟨sb,0,none⟩)] #[]]),
 (⟨#[103,101,116]⟩,.agg #[.string ⟨#[84]⟩,.func (.func 39) #[.pointer (some ⟨sb,0,none⟩)] #[]]),
 (⟨#[108,105,115,116]⟩,.agg #[.string ⟨#[]⟩,.func (.func 40) #[.pointer (some ⟨sb,0,none⟩)] #[]]),
 (⟨#[102,108,117,115,104]⟩,.agg #[.string ⟨#[]⟩,.func (.func 41) #[.pointer (some ⟨sb,0,none⟩)] #[]]),
 (⟨#[114,101,99,108,97,105,109]⟩,.agg #[.string ⟨#[]⟩,.func (.func 42) #[.pointer (some ⟨sb,0,none⟩)] #[]]),
 (⟨#[99,111,117,110,116]⟩,.agg #[.string ⟨#[]⟩,.func (.func 43) #[.pointer (some ⟨sb,0,none⟩)] #[]]),
 (⟨#[102,114,101,101]⟩,.agg #[.string ⟨#[]⟩,.func (.func 44) #[.pointer (some ⟨sb,0,none⟩)] #[]]),
 (⟨#[111,112,101,110]⟩,.agg #[.string ⟨#[]⟩,.func (.func 45) #[.pointer (some ⟨sb,0,none⟩)] #[]]),
 (⟨#[102,117,115,101]⟩,.agg #[.string ⟨#[78]⟩,.func (.func 46) #[.pointer (some ⟨sb,0,none⟩)] #[]]),
 (⟨#[99,114,97,115,104]⟩,.agg #[.string ⟨#[78,84]⟩,.func (.func 47) #[.pointer (some ⟨sb,0,none⟩)] #[]]),
 (⟨#[105,109,97,103,101]⟩,.agg #[.string ⟨#[]⟩,.func (.func 48) #[.pointer (some ⟨sb,0,none⟩)] #[]]),
 (⟨#[108,97,121]⟩,.agg #[.string ⟨#[]⟩,.func (.func 49) #[.pointer (some ⟨sb,0,none⟩)] #[]]),
 (⟨#[115,112,111,105,108]⟩,.agg #[.string ⟨#[78,78,78]⟩,.func (.func 50) #[.pointer (some ⟨sb,0,none⟩)] #[]]),
 (⟨#[98,108,111,99,107]⟩,.agg #[.string ⟨#[84,78]⟩,.func (.func 51) #[.pointer (some ⟨sb,0,none⟩)] #[]]),
 (⟨#[115,117,109]⟩,.agg #[.string ⟨#[46,46]⟩,.func (.func 52) #[.pointer (some ⟨sb,0,none⟩)] #[]]),
 (⟨#[104,101,108,112]⟩,.agg #[.string ⟨#[]⟩,.func (.func 53) #[.pointer (some ⟨sb,0,none⟩)] #[]])]
theorem upd (w:World) (r:Nat) (L:List (ByteArray × Value)) (s:ByteArray) (v:Value) (hb:w.heap[r]?=some (.map (mG 0 L).toArray L.length)) (h:jS s L=none) :
  ∃w':World,(Instr.mapUpdate 33 (.map (some r)) (.string s) v).run Tryz.prog w=.ok () w'∧w'.heap[r]?=some (.map (mG 0 (L++[(s,v)])).toArray (L++[(s,v)]).length)∧Fs (fun k=>k=r) w w':=by
 refine⟨_,QA (P:=Tryz.prog) Tryz.underlying9 Tryz.underlying33 w r L s v hb h,?_,rfl,rfl,rfl,by simp,fun k hk hn=>?_⟩
 ·have hr:r<w.heap.size:=(Array.getElem?_eq_some_iff.1 hb).1;simp[hr]
 have hn':r≠k:=fun e=>hn e.symm
 simp[hn']
set_option maxHeartbeats 8000000 in
theorem sM (sb:Nat) (w:World):Calls Tryz.prog 13 #[.pointer (some ⟨sb,0,none⟩)] w fun e w'=>∃r,e=.returned (.map (some r))∧w.heap.size≤r∧w'.heap[r]?=some (.map (mG 0 (dx sb)).toArray 18)∧Since w w':=by
 have hmm:=@run_makeMap Tryz.prog;have hmf:∀(fn:Fn) (first cap:Array Value) (w:World),(Instr.makeFunc fn first cap).run Tryz.prog w=.ok (.func fn first cap) w:=fun _ _ _ _=>rfl
 have b0:(w.alloc (.map #[] 0)).heap[w.heap.size]?=some (.map (mG 0 ((dx sb).take 0)).toArray ((dx sb).take 0).length):=heap_alloc_new _ _;have f0:Since w (w.alloc (.map #[] 0)):=(Since.refl w).alloc _;obtain⟨w1,u1,b1,g1⟩:=upd (w.alloc (.map #[] 0)) w.heap.size ((dx sb).take 0) ⟨#[110,101,119]⟩ (.agg #[.string ⟨#[84]⟩,.func (.func 36) #[.pointer (some ⟨sb,0,none⟩)] #[]]) b0 (by kernel_rfl);have f1:Since w w1:=g1.since f0 (fun k hk=>Nat.le_of_eq hk.symm);clear f0 g1 b0;obtain⟨w2,u2,b2,g2⟩:=upd w1 w.heap.size ((dx sb).take 1) ⟨#[112,117,116]⟩ (.agg #[.string ⟨#[84,78,84]⟩,.func (.func 37) #[.pointer (some ⟨sb,0,none⟩)] #[]]) b1 (by kernel_rfl);have f2:Since w w2:=g2.since f1 (fun k hk=>Nat.le_of_eq hk.symm);clear f1 g2 b1
 obtain⟨w3,u3,b3,g3⟩:=upd w2 w.heap.size ((dx sb).take 2) ⟨#[100,101,108]⟩ (.agg #[.string ⟨#[84]⟩,.func (.func 38) #[.pointer (some ⟨sb,0,none⟩)] #[]]) b2 (by kernel_rfl);have f3:Since w w3:=g3.since f2 (fun k hk=>Nat.le_of_eq hk.symm);clear f2 g3 b2;obtain⟨w4,u4,b4,g4⟩:=upd w3 w.heap.size ((dx sb).take 3) ⟨#[103,101,116]⟩ (.agg #[.string ⟨#[84]⟩,.func (.func 39) #[.pointer (some ⟨sb,0,none⟩)] #[]]) b3 (by kernel_rfl);have f4:Since w w4:=g4.since f3 (fun k hk=>Nat.le_of_eq hk.symm);clear f3 g4 b3;obtain⟨w5,u5,b5,g5⟩:=upd w4 w.heap.size ((dx sb).take 4) ⟨#[108,105,115,116]⟩ (.agg #[.string ⟨#[]⟩,.func (.func 40) #[.pointer (some ⟨sb,0,none⟩)] #[]]) b4 (by kernel_rfl);have f5:Since w w5:=g5.since f4 (fun k hk=>Nat.le_of_eq hk.symm);clear f4 g5 b4
 obtain⟨w6,u6,b6,g6⟩:=upd w5 w.heap.size ((dx sb).take 5) ⟨#[102,108,117,115,104]⟩ (.agg #[.string ⟨#[]⟩,.func (.func 41) #[.pointer (some ⟨sb,0,none⟩)] #[]]) b5 (by kernel_rfl);have f6:Since w w6:=g6.since f5 (fun k hk=>Nat.le_of_eq hk.symm);clear f5 g6 b5;obtain⟨w7,u7,b7,g7⟩:=upd w6 w.heap.size ((dx sb).take 6) ⟨#[114,101,99,108,97,105,109]⟩ (.agg #[.string ⟨#[]⟩,.func (.func 42) #[.pointer (some ⟨sb,0,none⟩)] #[]]) b6 (by kernel_rfl);have f7:Since w w7:=g7.since f6 (fun k hk=>Nat.le_of_eq hk.symm);clear f6 g7 b6;obtain⟨w8,u8,b8,g8⟩:=upd w7 w.heap.size ((dx sb).take 7) ⟨#[99,111,117,110,116]⟩ (.agg #[.string ⟨#[]⟩,.func (.func 43) #[.pointer (some ⟨sb,0,none⟩)] #[]]) b7 (by kernel_rfl);have f8:Since w w8:=g8.since f7 (fun k hk=>Nat.le_of_eq hk.symm);clear f7 g8 b7
 obtain⟨w9,u9,b9,g9⟩:=upd w8 w.heap.size ((dx sb).take 8) ⟨#[102,114,101,101]⟩ (.agg #[.string ⟨#[]⟩,.func (.func 44) #[.pointer (some ⟨sb,0,none⟩)] #[]]) b8 (by kernel_rfl);have f9:Since w w9:=g9.since f8 (fun k hk=>Nat.le_of_eq hk.symm);clear f8 g9 b8;obtain⟨w10,u10,b10,g10⟩:=upd w9 w.heap.size ((dx sb).take 9) ⟨#[111,112,101,110]⟩ (.agg #[.string ⟨#[]⟩,.func (.func 45) #[.pointer (some ⟨sb,0,none⟩)] #[]]) b9 (by kernel_rfl);have f10:Since w w10:=g10.since f9 (fun k hk=>Nat.le_of_eq hk.symm);clear f9 g10 b9;obtain⟨w11,u11,b11,g11⟩:=upd w10 w.heap.size ((dx sb).take 10) ⟨#[102,117,115,101]⟩ (.agg #[.string ⟨#[78]⟩,.func (.func 46) #[.pointer (some ⟨sb,0,none⟩)] #[]]) b10 (by kernel_rfl);have f11:Since w w11:=g11.since f10 (fun k hk=>Nat.le_of_eq hk.symm);clear f10 g11 b10
 obtain⟨w12,u12,b12,g12⟩:=upd w11 w.heap.size ((dx sb).take 11) ⟨#[99,114,97,115,104]⟩ (.agg #[.string ⟨#[78,84]⟩,.func (.func 47) #[.pointer (some ⟨sb,0,none⟩)] #[]]) b11 (by kernel_rfl);have f12:Since w w12:=g12.since f11 (fun k hk=>Nat.le_of_eq hk.symm);clear f11 g12 b11;obtain⟨w13,u13,b13,g13⟩:=upd w12 w.heap.size ((dx sb).take 12) ⟨#[105,109,97,103,101]⟩ (.agg #[.string ⟨#[]⟩,.func (.func 48) #[.pointer (some ⟨sb,0,none⟩)] #[]]) b12 (by kernel_rfl);have f13:Since w w13:=g13.since f12 (fun k hk=>Nat.le_of_eq hk.symm);clear f12 g13 b12;obtain⟨w14,u14,b14,g14⟩:=upd w13 w.heap.size ((dx sb).take 13) ⟨#[108,97,121]⟩ (.agg #[.string ⟨#[]⟩,.func (.func 49) #[.pointer (some ⟨sb,0,none⟩)] #[]]) b13 (by kernel_rfl);have f14:Since w w14:=g14.since f13 (fun k hk=>Nat.le_of_eq hk.symm);clear f13 g14 b13
 obtain⟨w15,u15,b15,g15⟩:=upd w14 w.heap.size ((dx sb).take 14) ⟨#[115,112,111,105,108]⟩ (.agg #[.string ⟨#[78,78,78]⟩,.func (.func 50) #[.pointer (some ⟨sb,0,none⟩)] #[]]) b14 (by kernel_rfl);have f15:Since w w15:=g15.since f14 (fun k hk=>Nat.le_of_eq hk.symm);clear f14 g15 b14;obtain⟨w16,u16,b16,g16⟩:=upd w15 w.heap.size ((dx sb).take 15) ⟨#[98,108,111,99,107]⟩ (.agg #[.string ⟨#[84,78]⟩,.func (.func 51) #[.pointer (some ⟨sb,0,none⟩)] #[]]) b15 (by kernel_rfl);have f16:Since w w16:=g16.since f15 (fun k hk=>Nat.le_of_eq hk.symm);clear f15 g16 b15;obtain⟨w17,u17,b17,g17⟩:=upd w16 w.heap.size ((dx sb).take 16) ⟨#[115,117,109]⟩ (.agg #[.string ⟨#[46,46]⟩,.func (.func 52) #[.pointer (some ⟨sb,0,none⟩)] #[]]) b16 (by kernel_rfl);have f17:Since w w17:=g17.since f16 (fun k hk=>Nat.le_of_eq hk.symm);clear f16 g17 b16
 obtain⟨w18,u18,b18,g18⟩:=upd w17 w.heap.size ((dx sb).take 17) ⟨#[104,101,108,112]⟩ (.agg #[.string ⟨#[]⟩,.func (.func 53) #[.pointer (some ⟨sb,0,none⟩)] #[]]) b17 (by kernel_rfl);have f18:Since w w18:=g18.since f17 (fun k hk=>Nat.le_of_eq hk.symm);clear f17 g18 b17;have HE:Hid (w18.heap[w.heap.size]?=some (.map (mG 0 (dx sb)).toArray 18)∧Since w w18):=⟨b18,f18⟩
 clear b18 f18;go_enter Tryz.func13,Tryz.ntmps13
 go_wp2_with fail
 go_ret;exact⟨_,rfl,Nat.le_refl _,HE.out.1,HE.out.2⟩
end Dk
end Go.Proofs.YtmhcfaaggkidjaaGreatDoor
end
section
namespace Go.Proofs.YtmhcfaaggkidjaaGreatDoor
set_option maxRecDepth 100000
namespace Dk
open Go.RowKit
theorem Iu (p:Addr) (w:World) :
  CallsD Tryz.prog 57 #[.pointer (some p)] .returning w fun e u' w'=>e=.returned (.tuple #[])∧u'=.returning∧w'=w:=by
 refine callsD_of_wpS Tryz.func57 rfl fun c₀ cs hu=>?_
 apply wpS_seq
 apply wpS_region
 simp[wpOpsS,go_sem,recoverD,hu,Tryz.ntmps57,Exit.thenS];apply wpS_seq
 apply wpS_seq
 apply wpS_region
 simp[wpOpsS,go_sem,Exit.thenS];refine wpS_cond (t:=true) (by simp[Act.eval,Array.replicate]) ?_;simp only[if_true];refine wpS_of_wp (wp_ret ?_);cases c₀
 simp_all [bodyPostS,results,Tryz.results57,Exit.thenS]
set_option maxHeartbeats 8000000 in
theorem EQ (p:Addr) (x:ByteArray) (n:Int) (older:List PanicEntry) (w:World) (hp:p.block<w.heap.size) (hc:w.cell? p=some (.string x)) (hz:w.frozen? p=false) (hn:-9223372036854775808≤n∧n≤9223372036854775807) (hL:En.Lb w) :
  CallsD Tryz.prog 57 #[.pointer (some p)] (.panicking ({ v:=ul n,recovered:=false }::older)) w fun e u' w'=>
   e=.returned (.tuple #[])∧u'=.panicking ({ v:=ul n,recovered:=true }::older)∧∃w1,Since w w1∧w'=w1.setCell p (.string (told lX n)):=by
 have HF:Hid (∀W,Since w W→Calls Tryz.prog 11 #[.int .i64 n] W fun e w'=>e=.returned (.string (told lX n))∧Since W w'):=fun W hW=>EC n W hn (hL.since hW)
 have HC:Hid (∀W,Since w W→W.cell? p=some (.string x)∧W.frozen? p=false):=fun W hW=>⟨(hW.cell hp).trans hc,(hW.frozen hp).trans hz⟩
 unfold ul;clear hn hL;refine callsD_of_wpS Tryz.func57 rfl fun c₀ cs hu=>?_
 apply wpS_seq
 apply wpS_region
 simp[wpOpsS,go_sem,recoverD,hu,Tryz.ntmps57,Exit.thenS];apply wpS_seq
 apply wpS_seq
 apply wpS_region
 simp[wpOpsS,go_sem,Exit.thenS];refine wpS_cond (t:=false) (by simp[Act.eval,Array.replicate]) ?_;simp only[Bool.false_eq_true,if_false];refine wpS_of_wp (wp_skip ?_);simp only[Exit.thenS];refine wpS_of_wp ?_;rw[show (#[Value.pointer (some p)]++((((Array.replicate 17 undef).setIfInBounds 3 (Value.iface 84 (Value.agg #[Value.int IntKind.i64 n]))).setIfInBounds 0 (Value.iface 84 (Value.agg #[Value.int IntKind.i64 n]))).setIfInBounds 4 (Value.iface 84 (Value.agg #[Value.int IntKind.i64 n]))).setIfInBounds 5 (Value.bool false))=#[.pointer (some p),.iface 84 (.agg #[.int .i64 n]),undef,undef,.iface 84 (.agg #[.int .i64 n]),.iface 84 (.agg #[.int .i64 n]),.bool false,undef,undef,undef,undef,undef,undef,undef,undef,undef,undef,undef] from rfl]
 have HP:∀(W:World) (tm:Array Value),Since w W→(fun (e:Exit) (a':Act) (w':World)=>bodyPostS Tryz.prog Tryz.f57 c₀ cs (fun e u' w'=>e=Ending.returned (Value.tuple #[])∧u'=FrameMode.panicking ({ v:=Value.iface 84 (Value.agg #[Value.int IntKind.i64 n]),recovered:=true }::older)∧∃w1,Since w w1∧w'=w1.setCell p (Value.string (told lX n))) e a' ({ fn:=c₀.fn,tmps:=c₀.tmps,todo:=c₀.todo,defers:=c₀.defers,mode:=FrameMode.panicking ({ v:=Value.iface 84 (Value.agg #[Value.int IntKind.i64 n]),recovered:=true }::older),kind:=c₀.kind,roundOf:=c₀.roundOf }::cs) w') .normal ⟨tm,[]⟩ (W.setCell p (.string (told lX n))):=fun W tm hW=>by
  simp[bodyPostS,results,Tryz.results57];exact⟨W,hW,rfl⟩
 generalize (fun (e:Exit) (a':Act) (w':World)=>bodyPostS Tryz.prog Tryz.f57 c₀ cs (fun e u' w'=>e=Ending.returned (Value.tuple #[])∧u'=FrameMode.panicking ({ v:=Value.iface 84 (Value.agg #[Value.int IntKind.i64 n]),recovered:=true }::older)∧∃w1,Since w w1∧w'=w1.setCell p (Value.string (told lX n))) e a' ({ fn:=c₀.fn,tmps:=c₀.tmps,todo:=c₀.todo,defers:=c₀.defers,mode:=FrameMode.panicking ({ v:=Value.iface 84 (Value.agg #[Value.int IntKind.i64 n]),recovered:=true }::older),kind:=c₀.kind,roundOf:=c₀.roundOf }::cs) w')=Q at HP ⊢;have HP':Hid (∀(W:World) (tm:Array Value),Since w W→Q .normal ⟨tm,[]⟩ (W.setCell p (.string (told lX n)))):=HP;have hta:∀(m:Int) (W:World),(Instr.typeAssert (.iface 84 (.agg #[.int .i64 m])) 20 84 true).run Tryz.prog W=.ok (.tuple #[.agg #[.int .i64 m],.bool true]) W:=fun m W=>by kernel_rfl
 clear HP hc hz hu hp;go_wp2_with fail
 refine(HF.out _ ((Since.refl w).alloc _)).mono ?_;rintro e w1 ⟨rfl,h1⟩;have hs1:Since w w1:=((Since.refl w).alloc _).trans h1;obtain⟨c1,z1⟩:=HC.out w1 hs1;have HS:Hid (Since w w1):=hs1;clear h1 hs1;generalize told lX n=t at *;go_wp2_with fail
 exact HP'.out w1 _ HS.out
end Dk
end Go.Proofs.YtmhcfaaggkidjaaGreatDoor
end
section
namespace Go.Proofs.YtmhcfaaggkidjaaGreatDoor
set_option maxRecDepth 100000
namespace Dk
open Go.RowKit
open En (Fi)
open Vl
def Ce:ByteArray:=⟨#[115,112,111,105,108]⟩
def mg (s:ByteArray):List Int:=s.data.toList.map (fun b=>((b.toNat:Nat):Int))
def Au (s:ByteArray) (a:Nat):ByteArray:=strOfNums ((mg s).set a (bits BinOp.xor IntKind.u8 (((s.data.toList.getD a 0).toNat:Nat):Int) 1))
theorem QB (s:ByteArray) (j:Nat) (hj:j<s.size):(mg s).getD j 0=(((s.data.toList.getD j 0).toNat:Nat):Int):=by
 have hl:j<s.data.toList.length:=by rw[Array.length_toList];exact hj
 unfold mg;rw[List.getD_eq_getElem?_getD,List.getElem?_map,List.getD_eq_getElem?_getD,List.getElem?_eq_getElem hl]
 rfl
theorem ER (W:World) (k cap:Nat) (l:List Int) (hl:l.length=128) (h:∀j,j<128→W.cell? ⟨k,j,none⟩=some (.int .u8 (l.getD j 0))):(convert 38 9 (.slice (some ⟨k,0,none⟩) 128 cap)).run Tryz.prog W=.ok (.string (strOfNums l)) W:=by
 refine run_convert_bytes_arg _ 38 5 Tryz.underlying38 Tryz.underlying5 k 0 128 cap l hl (fun i hi=>?_) 9 Tryz.underlying9;rw[Nat.zero_add];have hi':i<128:=by omega
 rw[h i hi',List.getD_eq_getElem?_getD,List.getElem?_eq_getElem (by omega)];first | rfl | skip
def sN (D:Dv) (z o a:Nat):Im:=⟨D.sure,fun z' j=>if z'=z∧j=o then Au (txt 128 (D.blk z o)) a else txt 128 (D.blk z' j),txt 500 (D.slot 0),txt 500 (D.slot 1)⟩
def kH (a b c:Int) (Z Z':Sn) (r:qM):Prop:=
 (¬((0≤a∧a<8)∧(0≤b∧b<Z.f.D.sure a.toNat)∧(0≤c∧c<128))∧Z'=Z∧r=(2,⟨#[]⟩))∨
 (((0≤a∧a<8)∧(0≤b∧b<Z.f.D.sure a.toNat)∧(0≤c∧c<128))∧∃f r0,dL Z.ay (yz Z.f.D (sN Z.f.D a.toNat b.toNat c.toNat)) Z.f.c f r0∧Z'=⟨Z.ay,Z.im,f⟩∧r=(0,Ce))
theorem jq (n m:Int) (b:Bool) (hb:decide (0≤n∧n<m)=b) (w:World):Calls Tryz.prog 105 #[.int .i64 n,.int .i64 m] w fun e w'=>e=.returned (.bool b)∧w'=w:=by
 subst hb;by_cases h0:0≤n
 ·have e0:decide (0≤n∧n<m)=decide (n<m):=by simp[h0]
  rw[e0];go_enter Tryz.func105,Tryz.ntmps105
  go_wp2
  go_ret;exact⟨rfl,rfl⟩
 have e0:decide (0≤n∧n<m)=false:=by simp[h0]
 rw[e0];go_enter Tryz.func105,Tryz.ntmps105
 go_wp2
 go_ret;exact⟨rfl,rfl⟩
def SG:Array Value:=#[.slice none 0 0,.slice none 0 0,.slice none 0 0,.slice none 0 0,.slice none 0 0,.slice none 0 0,.slice none 0 0,.slice none 0 0,.string ⟨#[]⟩,.string ⟨#[]⟩]
theorem UX (w:World) (b:Nat) (hb:b=w.heap.size):ak (w.alloc (.cells SG 75)) b 10 (az (fun _=>.slice none 0 0) ⟨#[]⟩ ⟨#[]⟩):=ak.new w _ _ _ _ (fun j hj=>by
 match j,hj with
 | 0,_=>rfl
 | 1,_=>rfl
 | 2,_=>rfl
 | 3,_=>rfl
 | 4,_=>rfl
 | 5,_=>rfl
 | 6,_=>rfl
 | 7,_=>rfl
 | 8,_=>rfl
 | 9,_=>rfl) _ hb
theorem JS {w:World} {base n:Nat} {x:Value} {blk:Nat→Nat→UInt8} (h:w.ownsRow base 9 1 x n (fG blk n)) :
  ∃a c,x=.slice a n c∧n≤c∧(0<n→∃k,a=some ⟨k,0,none⟩∧base≤k∧k<w.heap.size∧ak w k n (fun j=>.string (txt 128 (blk j)))):=by
 rcases h.2 with⟨rfl,rfl⟩ | ⟨g,cap,cur,rfl,hg,hh,h1,h2,h3,h4⟩
 ·exact⟨_,_,rfl,by omega,fun h=>by omega⟩
 refine⟨_,_,rfl,h1,fun _=>⟨g,rfl,hg,(Array.getElem?_eq_some_iff.1 hh).1,⟨fun j hj=>?_,fun j hj=>?_⟩⟩⟩
 ·have e:(fG blk n)[j]?=some (.string (txt 128 (blk j))):=by unfold fG;rw[List.getElem?_map,List.getElem?_range hj];rfl
  rw[←h4,List.getElem?_take_of_lt (by omega),Array.getElem?_toList] at e;simp[World.cell?,hh,e]
 simp[World.frozen?,hh]
theorem Iw {w1 Y:World} {P:Nat→Prop} {iv:Nat→Value} {D:Dv} {zn m bo base rc' a:Nat} (hr:∀z,z<8→w1.ownsRow base 9 1 (iv z) (D.sure z) (fG (D.blk z) (D.sure z))) (hap:AP iv 8) (hz:zn<8) (hv:iv zn=.slice (some ⟨bo,0,none⟩) (D.sure zn) rc') (hY1:Y.cell? ⟨bo,m,none⟩=some (.string (Au (txt 128 (D.blk zn m)) a))) (hY2:∀k j,k<w1.heap.size→¬(k=bo∧j=m)→Y.cell? ⟨k,j,none⟩=w1.cell? ⟨k,j,none⟩) (hP:∀k,P k→k<base):Ml Y P iv (sN D zn m a):=fun z hzz=>by
 obtain⟨a',c,e,hcp,hh⟩:=JS (hr z hzz);refine⟨a',c,e,hcp,fun hn=>?_⟩;obtain⟨k,rfl,hb,ht,Mx⟩:=hh hn;have ek:(iv z).ownBlock=some k:=by rw[e];rfl
 refine⟨k,0,rfl,fun hp=>by have:=hP k hp;omega,fun j hj=>?_⟩;have hj':j<D.sure z:=hj;rw[Nat.zero_add];show Y.cell? ⟨k,j,none⟩=some (.string (if z=zn∧j=m then Au (txt 128 (D.blk zn m)) a else txt 128 (D.blk z j)))
 by_cases h1:z=zn
 ·subst h1;rw[hv] at e ek;have hk:bo=k:=by
   have:(Value.slice (some ⟨bo,0,none⟩) (D.sure z) rc').ownBlock=some bo:=rfl;rw[this] at ek;exact Option.some.inj ek
  subst hk;by_cases h2:j=m
  ·subst h2;rw[if_pos ⟨rfl,rfl⟩];exact hY1
  rw[if_neg (fun h=>h2 h.2),hY2 bo j ht (fun h=>h2 h.2)];exact Mx.cell j hj'
 have hk:k≠bo:=hap.ne hzz hz h1 ek (by rw[hv];rfl);rw[if_neg (fun h=>h1 h.1),hY2 k j ht (fun h=>hk h.1)];exact Mx.cell j hj'
theorem QC (w:World) (s:ByteArray):(convert 9 38 (.string s)).run Tryz.prog w=.ok (.slice (some ⟨w.heap.size,0,none⟩) s.size (grownCap w s.size 0 5)) (Lib.bytesWorld w 5 s):=
 Lib.run_convert_string_bytes w 9 38 5 s Tryz.underlying9 Tryz.underlying38 Tryz.underlying5
section
variable {w0 w w':World} {P:Nat→Prop} {sb:Nat} {Z:Sn} {n:Int}
set_option maxHeartbeats 8000000 in
theorem UY (G:Gr w0) (h:eu w0 w P sb Z n) (hn:n<800000000) (x y:Value) (za oa ta:Int) (hy:Nd w P y [za,oa,ta]):Calls Tryz.prog 50 #[.pointer (some ⟨sb,0,none⟩),.agg #[x,y]] w (Does w0 P sb Z n (kH za oa ta) w):=by
 obtain⟨a',c',rfl,hy2⟩:=hy;obtain⟨k',o',hao,Mw,hk'⟩:=hy2 (by simp);subst hao;rw[show ([za,oa,ta].length)=3 from rfl] at *;have hs1:Since w (w.alloc (.cells #[x,.slice (some ⟨k',o',none⟩) 3 c'] 92)).drew:=((Since.refl w).alloc _).drew;have q1:(w.alloc (.cells #[x,.slice (some ⟨k',o',none⟩) 3 c'] 92)).cell? ⟨w.heap.size,1,none⟩=some (.slice (some ⟨k',o',none⟩) 3 c'):=(sI w _ _ _ _ (Since.refl _)).2;have hk0:=hk' 0 za rfl;have hk1:=hk' 1 oa rfl;have hk2:=hk' 2 ta rfl;have q2:(w.alloc (.cells #[x,.slice (some ⟨k',o',none⟩) 3 c'] 92)).cell? ⟨k',o',none⟩=some (.int .i64 za):=(hs1.cell (p:=⟨k',o',none⟩) (World.block_lt_of_cell? w _ hk0)).trans hk0;have q3:(w.alloc (.cells #[x,.slice (some ⟨k',o',none⟩) 3 c'] 92)).cell? ⟨k',o'+1,none⟩=some (.int .i64 oa):=(hs1.cell (p:=⟨k',o'+1,none⟩) (World.block_lt_of_cell? w _ hk1)).trans hk1
 have q4:(w.alloc (.cells #[x,.slice (some ⟨k',o',none⟩) 3 c'] 92)).cell? ⟨k',o'+2,none⟩=some (.int .i64 ta):=(hs1.cell (p:=⟨k',o'+2,none⟩) (World.block_lt_of_cell? w _ hk2)).trans hk2;have hfit:=h.fit;obtain⟨db,cb,fp,v,hS,hF⟩:=h.go ((Since.refl w).alloc (.cells #[x,.slice (some ⟨k',o',none⟩) 3 c'] 92));have HCC:Hid (∀W,Since (w.alloc (.cells #[x,.slice (some ⟨k',o',none⟩) 3 c'] 92)) W→W.cell? ⟨sb,0,none⟩=some (.pointer (some ⟨db,0,none⟩))∧Since w W∧mf w0 W P sb db cb Z.ay Z.im fp Z.f.D Z.f.c v):=fun W hW=>⟨(hS.since hW).cells.1,((Since.refl w).alloc _).trans hW,hS.since hW⟩
 have HS:Hid (eu w0 w P sb Z n∧Gr w0∧(0≤Z.f.c∧Z.f.c≤n∧n<800000000)):=⟨h,G,hfit.1,hfit.2.1,hn⟩
 clear hS hF h G hfit hn hs1 hk0 hk1 hk2 hk' hy2 Mw;go_enter Tryz.func50,Tryz.ntmps50
 go_wp2_with fail
 go_quiet (fail)
 clear q1 q2 q3 q4;obtain⟨c0,hsA,hSA⟩:=HCC.out _ ((Since.refl (w.alloc (.cells #[x,.slice (some ⟨k',o',none⟩) 3 c'] 92))).drewN nq);have lC:Hid (Since w ((w.alloc (.cells #[x,.slice (some ⟨k',o',none⟩) 3 c'] 92)).drewN nq)∧mf w0 ((w.alloc (.cells #[x,.slice (some ⟨k',o',none⟩) 3 c'] 92)).drewN nq) P sb db cb Z.ay Z.im fp Z.f.D Z.f.c v):=⟨hsA,hSA⟩
 clear hsA hSA;generalize (w.alloc (.cells #[x,.slice (some ⟨k',o',none⟩) 3 c'] 92)).drewN nq=wA at *;go_wp2_with fail
 refine(OL Z.f.D v db wA lC.out.2.dc.dev).mono ?_;rintro e w1 ⟨iv,rfl,hr,hap,hs⟩;have HR:Hid ((∀z,z<8→w1.ownsRow wA.heap.size 9 1 (iv z) (Z.f.D.sure z) (fG (Z.f.D.blk z) (Z.f.D.sure z)))∧AP iv 8∧Since wA w1):=⟨hr,hap,hs⟩
 obtain⟨s0,hs0⟩:∃s0,txt 500 (Z.f.D.slot 0)=s0:=⟨_,rfl⟩
 obtain⟨s1,hs1⟩:∃s1,txt 500 (Z.f.D.slot 1)=s1:=⟨_,rfl⟩
 have HT:Hid (txt 500 (Z.f.D.slot 0)=s0∧txt 500 (Z.f.D.slot 1)=s1):=⟨hs0,hs1⟩
 rw[hs0,hs1];have hz1:=UX w1 w1.heap.size rfl;have o1:=fun j (_:j<10)=>tX iv s0 s1 (fun z hz=>row_one (hr z hz)) j
 have hC:ak ((w1.alloc (.cells SG 75)).setCells w1.heap.size 0 (aa 10 (az iv s0 s1))) w1.heap.size 10 (az iv s0 s1):=(hz1.setRow 0 10 (by omega) (az iv s0 s1)).congr (fun j hj=>by unfold dF;rw[if_pos (by omega)];rfl);have fu:Since w1 ((w1.alloc (.cells SG 75)).setCells w1.heap.size 0 (aa 10 (az iv s0 s1))):=((Since.refl w1).alloc _).setCells (Nat.le_refl _) _ _;have t1:=hz1.there 0 10 (by omega);have l1:(aa 10 (az iv s0 s1)).length=10:=ag _ _;have a1:(aa 10 (az iv s0 s1)).toArray.all (·.oneCell')=true:=all_oneCell_toArray (fC _ _ o1);obtain⟨c1,hc1⟩:∃c1,aa 10 (az iv s0 s1)=c1:=⟨_,rfl⟩
 have HB1:Hid (aa 10 (az iv s0 s1)=c1):=hc1;rw[hc1] at hC fu l1 a1 ⊢;have t1':(w1.alloc (.cells SG 75)).there w1.heap.size 0 c1.toArray.size:=by
  have e:c1.toArray.size=10:=by rw[List.size_toArray];exact l1
  rw[e];exact t1
 have HC:Hid (ak ((w1.alloc (.cells SG 75)).setCells w1.heap.size 0 c1) w1.heap.size 10 (az iv s0 s1)∧Since w1 ((w1.alloc (.cells SG 75)).setCells w1.heap.size 0 c1)∧c1.length=10):=⟨hC,fu,l1⟩
 have JK:Hid ((w1.alloc (.cells SG 75)).there w1.heap.size 0 c1.toArray.size∧c1.toArray.all (·.oneCell')=true):=⟨t1',a1⟩
 clear hC fu t1 t1' l1 a1 hc1 hz1 o1 hr hap hs hs0 hs1;unfold SG at JK;go_upto_region 3 with(refine wpList_store_mid (by rfl) 75 _ _ (by rfl) w1.heap.size 0 c1.toArray (by rfl) (by rfl) JK.out.1 (by rw[List.size_toArray,HC.out.2.2];kernel_rfl) JK.out.2 ?_)
 clear JK c0 HCC;have e10:SG=#[.slice none 0 0,.slice none 0 0,.slice none 0 0,.slice none 0 0,.slice none 0 0,.slice none 0 0,.slice none 0 0,.slice none 0 0,.string ⟨#[]⟩,.string ⟨#[]⟩]:=rfl;rw[←e10];clear e10;generalize (w1.alloc (.cells SG 75)).setCells w1.heap.size 0 c1=W at *;have JU:Hid (Since wA W):=HR.out.2.2.trans HC.out.2.1;by_cases hA:0≤za∧za<8
 rotate_left
 ·have HD:Hid (Does w0 P sb Z n (kH za oa ta) w (thrown 2) W):=HS.out.1.fails (lC.out.1.trans JU.out) (by decide) (.inl ⟨fun e=>hA e.1,rfl,rfl⟩);have HW:Hid (Calls Tryz.prog 105 #[.int .i64 za,.int .i64 8] W fun e w'=>e=.returned (.bool false)∧w'=W):=jq za 8 false (decide_eq_false hA) W;clear hA;go_wp2_with fail
  refine HW.out.mono ?_;rintro e w4 ⟨rfl,hw4⟩;rw[hw4];clear hw4 w4;go_wp2_with fail
  refine(bW 2 W).mono ?_;rintro e w5 ⟨rfl,hw5⟩;rw[hw5];exact⟨rfl,HD.out⟩
 have HWa:Hid (Calls Tryz.prog 105 #[.int .i64 za,.int .i64 8] W fun e w'=>e=.returned (.bool true)∧w'=W):=jq za 8 true (decide_eq_true hA) W;obtain⟨zn,rfl⟩:∃zn:Nat,za=zn:=⟨za.toNat,by omega⟩
 have hzn:zn<8:=by omega
 have hz2:(zn:Int)<8:=by omega
 obtain⟨ra,rc,hv,hrc,hk⟩:=JS (HR.out.1 zn hzn);have q1:=HC.out.1.cell zn (by omega);rw[show az iv s0 s1 zn=iv zn by unfold az;rw[if_pos hzn],hv] at q1;by_cases hB:0≤oa∧oa<(Z.f.D.sure zn:Int)
 rotate_left
 ·have HD:Hid (Does w0 P sb Z n (kH zn oa ta) w (thrown 2) W):=HS.out.1.fails (lC.out.1.trans JU.out) (by decide) (.inl ⟨fun e=>hB e.2.1,rfl,rfl⟩);have HW:Hid (Calls Tryz.prog 105 #[.int .i64 oa,.int .i64 (Z.f.D.sure zn:Int)] W fun e w'=>e=.returned (.bool false)∧w'=W):=jq oa _ false (decide_eq_false hB) W;clear hA hB hk hrc;generalize hsz:Z.f.D.sure zn=sz at *;clear hsz;go_wp2_with fail
  refine HWa.out.mono ?_;rintro e w4 ⟨rfl,hw4⟩;rw[hw4];clear hw4 w4;go_wp2_with fail
  refine HW.out.mono ?_;rintro e w4 ⟨rfl,hw4⟩;rw[hw4];clear hw4 w4;go_wp2_with fail
  refine(bW 2 W).mono ?_;rintro e w5 ⟨rfl,hw5⟩;rw[hw5];exact⟨rfl,HD.out⟩
 have HWb:Hid (Calls Tryz.prog 105 #[.int .i64 oa,.int .i64 (Z.f.D.sure zn:Int)] W fun e w'=>e=.returned (.bool true)∧w'=W):=jq oa _ true (decide_eq_true hB) W;obtain⟨on,rfl⟩:∃on:Nat,oa=on:=⟨oa.toNat,by omega⟩
 have hon:on<Z.f.D.sure zn:=by omega
 by_cases hC:0≤ta∧ta<128
 rotate_left
 ·have HD:Hid (Does w0 P sb Z n (kH zn on ta) w (thrown 2) W):=HS.out.1.fails (lC.out.1.trans JU.out) (by decide) (.inl ⟨fun e=>hC e.2.2,rfl,rfl⟩);have HW:Hid (Calls Tryz.prog 105 #[.int .i64 ta,.int .i64 128] W fun e w'=>e=.returned (.bool false)∧w'=W):=jq ta 128 false (decide_eq_false hC) W;clear hA hB hC hk hrc;generalize hsz:Z.f.D.sure zn=sz at *;clear hsz;go_wp2_with fail
  refine HWa.out.mono ?_;rintro e w4 ⟨rfl,hw4⟩;rw[hw4];clear hw4 w4;go_wp2_with fail
  refine HWb.out.mono ?_;rintro e w4 ⟨rfl,hw4⟩;rw[hw4];clear hw4 w4;go_wp2_with fail
  refine HW.out.mono ?_;rintro e w4 ⟨rfl,hw4⟩;rw[hw4];clear hw4 w4;go_wp2_with fail
  refine(bW 2 W).mono ?_;rintro e w5 ⟨rfl,hw5⟩;rw[hw5];exact⟨rfl,HD.out⟩
 have HWc:Hid (Calls Tryz.prog 105 #[.int .i64 ta,.int .i64 128] W fun e w'=>e=.returned (.bool true)∧w'=W):=jq ta 128 true (decide_eq_true hC) W;obtain⟨tn,rfl⟩:∃tn:Nat,ta=tn:=⟨ta.toNat,by omega⟩
 have htn:tn<128:=by omega
 have a6M:(tn:Int)<128:=by omega
 obtain⟨bo,rfl,hbo,hbl,Mx⟩:=hk (by omega);have d1:W.cell? ⟨bo,on,none⟩=some (.string (txt 128 (Z.f.D.blk zn on))):=(HC.out.2.1.cell (p:=⟨bo,on,none⟩) hbl).trans (Mx.cell on hon);have Yl:(txt 128 (Z.f.D.blk zn on)).size=128:=dG _ _;have hcv:=QC W (txt 128 (Z.f.D.blk zn on));rw[Yl] at hcv;have HV:Hid (Since W (Lib.bytesWorld W 5 (txt 128 (Z.f.D.blk zn on)))∧∀j,j<128→(Lib.bytesWorld W 5 (txt 128 (Z.f.D.blk zn on))).cell? ⟨W.heap.size,j,none⟩=some (.int .u8 ((txt 128 (Z.f.D.blk zn on)).data.toList.getD j 0).toNat)):=⟨kw _ _,fun j hj=>Lib.bytesWorld_cell W 5 _ j (by rw[Yl];exact hj)⟩
 have HVf:Hid (∀j,j<128→(Lib.bytesWorld W 5 (txt 128 (Z.f.D.blk zn on))).frozen? ⟨W.heap.size,j,none⟩=false):=fun j hj=>by
  have hz:128≤(Lib.bytesCells W 5 (txt 128 (Z.f.D.blk zn on))).size:=by unfold Lib.bytesCells;simp[Yl]
  simp[World.frozen?,Lib.bytesWorld_at_new];omega
 have MB:Hid (ak w1 bo (Z.f.D.sure zn) (fun j=>.string (txt 128 (Z.f.D.blk zn j)))∧wA.heap.size≤bo∧bo<w1.heap.size∧iv zn=.slice (some ⟨bo,0,none⟩) (Z.f.D.sure zn) rc):=⟨Mx,hbo,hbl,hv⟩
 clear Mx hbo hbl hv hk hA hB hC Yl;obtain⟨T,hT⟩:∃T,txt 128 (Z.f.D.blk zn on)=T:=⟨_,rfl⟩
 have Ti:Hid (txt 128 (Z.f.D.blk zn on)=T):=hT;rw[hT] at d1 hcv HV HVf;clear hT;generalize grownCap W 128 0 5=cap at *;generalize Lib.bytesWorld W 5 T=V at *;have p1:=HV.out.2 tn htn;have p2:=HVf.out tn htn;obtain⟨b,hb⟩:∃b:Int,(((T.data.toList.getD tn 0).toNat:Nat):Int)=b:=⟨_,rfl⟩
 rw[hb] at p1;have HBB:Hid ((((T.data.toList.getD tn 0).toNat:Nat):Int)=b):=hb;clear hb;have a3y:(on:Int)<(Z.f.D.sure zn:Int):=by omega
 obtain⟨sz,hsz⟩:∃sz,Z.f.D.sure zn=sz:=⟨_,rfl⟩
 have Sw:Hid (Z.f.D.sure zn=sz):=hsz;rw[hsz] at q1 HWb hon a3y hrc MB;clear hsz;go_wp2_with fail
 refine HWa.out.mono ?_;rintro e w4 ⟨rfl,hw4⟩;rw[hw4];clear hw4 w4;go_wp2_with fail
 refine HWb.out.mono ?_;rintro e w4 ⟨rfl,hw4⟩;rw[hw4];clear hw4 w4;go_wp2_with fail
 refine HWc.out.mono ?_;rintro e w4 ⟨rfl,hw4⟩;rw[hw4];clear hw4 w4;go_wp2_with fail
 have Yl:T.size=128:=by rw[←Ti.out];exact dG _ _
 obtain⟨b',hb'⟩:∃b':Int,bits BinOp.xor IntKind.u8 b 1=b':=⟨_,rfl⟩
 rw[hb'];have HTF:Hid (strOfNums ((mg T).set tn b')=Au T tn):=by
  show _=strOfNums ((mg T).set tn (bits BinOp.xor IntKind.u8 (((T.data.toList.getD tn 0).toNat:Nat):Int) 1))
  rw[HBB.out,hb']
 have hV2:∀j,j<128→(V.setCell ⟨W.heap.size,tn,none⟩ (.int .u8 b')).cell? ⟨W.heap.size,j,none⟩=some (.int .u8 (((mg T).set tn b').getD j 0)):=fun j hj=>by
  by_cases e:j=tn
  ·subst e;rw[World.cell?_setCell_same _ _ _ p1];have hl:j<(mg T).length:=by unfold mg;rw[List.length_map,Array.length_toList];show j<T.size;omega
   rw[List.getD_eq_getElem?_getD,List.getElem?_set_self hl]
   rfl
  rw[World.cell?_setCell_other _ _ _ _ (by intro hc;injection hc with _ h2;omega),HV.out.2 j hj];have e3:((mg T).set tn b').getD j 0=(mg T).getD j 0:=by rw[List.getD_eq_getElem?_getD,List.getElem?_set_ne (fun e2=>e e2.symm),←List.getD_eq_getElem?_getD]
  rw[e3,QB T j (by omega)]
 have hnl:((mg T).set tn b').length=128:=by unfold mg;rw[List.length_set,List.length_map,Array.length_toList];exact Yl
 have QD:Since W (V.setCell ⟨W.heap.size,tn,none⟩ (.int .u8 b')):=HV.out.1.setCell (p:=⟨W.heap.size,tn,none⟩) (Nat.le_refl _) _;have Ym:=ER _ W.heap.size cap _ hnl hV2;have Yn:=ER (V.setCell ⟨W.heap.size,tn,none⟩ (.int .u8 b')).drew W.heap.size cap _ hnl hV2;rw[HTF.out] at Ym Yn;generalize V.setCell ⟨W.heap.size,tn,none⟩ (.int .u8 b')=V2 at *;obtain⟨T',hT'⟩:∃T',Au T tn=T':=⟨_,rfl⟩
 rw[hT'] at Ym Yn;have HT2:Hid (Au T tn=T'):=hT';have r1:V2.drew.cell? ⟨w1.heap.size,zn,none⟩=some (.slice (some ⟨bo,0,none⟩) sz rc):=(QD.drew.cell (p:=⟨w1.heap.size,zn,none⟩) (World.block_lt_of_cell? _ _ q1)).trans q1;have r2:V2.drew.cell? ⟨bo,on,none⟩=some (.string T):=(QD.drew.cell (p:=⟨bo,on,none⟩) (World.block_lt_of_cell? _ _ d1)).trans d1;have r3:V2.drew.frozen? ⟨bo,on,none⟩=false:=((HC.out.2.1.trans QD.drew).frozen (p:=⟨bo,on,none⟩) MB.out.2.2.1).trans (MB.out.1.frozen on hon);have Jy:Hid (Since W V2):=QD;clear hV2 QD q1 d1 p1 p2 hcv hb' Yl hnl hT';go_region
 have hYs:Since wA (V2.setCell ⟨bo,on,none⟩ (.string T')).drew:=((JU.out.trans Jy.out).setCell (p:=⟨bo,on,none⟩) MB.out.2.1 _).drew;have hY1:(V2.setCell ⟨bo,on,none⟩ (.string T')).drew.cell? ⟨bo,on,none⟩=some (.string T'):=World.cell?_setCell_same V2 _ _ r2;have hY2:∀k j,k<w1.heap.size→¬(k=bo∧j=on)→(V2.setCell ⟨bo,on,none⟩ (.string T')).drew.cell? ⟨k,j,none⟩=w1.cell? ⟨k,j,none⟩:=fun k j hk hne=>by
  show (V2.setCell ⟨bo,on,none⟩ (.string T')).cell? ⟨k,j,none⟩=_
  rw[World.cell?_setCell_other _ _ _ _ (fun e=>hne (by cases e;exact⟨rfl,rfl⟩))];exact(HC.out.2.1.trans Jy.out).cell (p:=⟨k,j,none⟩) hk
 have hnb:¬w1.heap.size=bo:=by have:=MB.out.2.2.1;omega
 have hcY:ak (V2.setCell ⟨bo,on,none⟩ (.string T')).drew w1.heap.size 10 (az iv s0 s1):=((HC.out.1.since Jy.out).other (a:=⟨bo,on,none⟩) (fun e=>hnb e.symm) _).since (Since.refl _).drew;generalize (V2.setCell ⟨bo,on,none⟩ (.string T')).drew=Y at *;have hrg:=hcY.range 0 10 (by omega);have e1:aa 10 (fun j=>az iv s0 s1 (0+j))=c1:=by
  rw[←HB1.out];unfold aa;exact List.map_congr_left (fun j _=>by rw[Nat.zero_add])
 rw[e1] at hrg;have him:Ml Y P iv (sN Z.f.D zn on tn):=Iw HR.out.1 HR.out.2.1 hzn (by rw[Sw.out];exact MB.out.2.2.2) (by rw[Ti.out,HT2.out];exact hY1) hY2 (fun k hk=>lC.out.2.oU k hk);have hcc:=HS.out.2.2;have hld:=uY HS.out.2.1 (lC.out.2.since hYs) ⟨hcc.1,by omega⟩ iv him;have e2:aa 10 (az iv (sN Z.f.D zn on tn).s0 (sN Z.f.D zn on tn).s1)=c1:=by
  show aa 10 (az iv (txt 500 (Z.f.D.slot 0)) (txt 500 (Z.f.D.slot 1)))=c1
  rw[HT.out.1,HT.out.2,HB1.out]
 rw[e2] at hld;have hin:((0≤(zn:Int)∧(zn:Int)<8)∧(0≤(on:Int)∧(on:Int)<Z.f.D.sure (zn:Int).toNat)∧(0≤(tn:Int)∧(tn:Int)<128)):=⟨⟨by omega,by omega⟩,⟨by omega,by rw[Int.toNat_natCast,Sw.out];omega⟩,by omega,by omega⟩
 have HLD:Hid (Calls Tryz.prog 104 #[.pointer (some ⟨sb,0,none⟩),.agg c1.toArray] Y fun e w'=>e=.returned (.tuple #[])∧Does w0 P sb Z n (kH zn on tn) w (.returned (.string Ce)) w'):=hld.mono (by
  rintro e w' ⟨rfl,f,r0,h1,h2⟩;exact⟨rfl,⟨Z.ay,Z.im,f⟩,(0,Ce),rfl,.inr ⟨hin,f,r0,h1,rfl,rfl⟩,(aG.after (lC.out.1.trans hYs) h2).le (by omega)⟩)
 have HRG:Hid (Y.rangeAt w1.heap.size 0 c1):=hrg;clear hld e2 hcc him hrg e1 hcY hY1 hY2 hYs hin r1 r2 r3 Ym Yn;unfold Ce at HLD;go_wp2_with (refine wpList_load_mid (by rfl) 75 _ (by rfl) w1.heap.size 0 (by rfl) c1 _ HRG.out Tryz.underlying75 (by rfl) (by rw[HC.out.2.2];kernel_rfl) ?_)
 refine HLD.out.mono ?_;rintro e w5 ⟨rfl,hD⟩;have HD:Hid (Does w0 P sb Z n (kH zn on tn) w (.returned (.string ⟨#[115,112,111,105,108]⟩)) w5):=hD;clear hD;go_wp2_with fail
 go_ret;exact HD.out
end
end Dk
end Go.Proofs.YtmhcfaaggkidjaaGreatDoor
end
section
namespace Go.Proofs.YtmhcfaaggkidjaaGreatDoor
set_option maxRecDepth 100000
namespace Dk
open Go.RowKit
open Vl
def jT (s:ByteArray) (ks:List Bool):Prop:=s.size=ks.length∧s.size≤100∧(s.toList==[46,46])=false∧∀j b,ks[j]?=some b→Utf8.decode s j=(if b then 84 else 78,1)
def fI:List Bool→List ByteArray→Option (List ByteArray × List Int)
 | [],[]=>some ([],[])
 | true::ks,s::r=>match fI ks r with
  | some p=>some (s::p.1,p.2)
  | none=>none
 | false::ks,s::r=>match numOf s.data.toList,fI ks r with
  | some v,some p=>some (p.1,v::p.2)
  | _,_=>none
 | [],_::_=>none
 | _::_,[]=>none
theorem Cf:∀(ks:List Bool) (ws:List ByteArray) p,fI ks ws=some p→ks.length=ws.length
 | [],[],p,h=>rfl
 | true::ks,s::r,p,h=>by
  rw[fI] at h;cases h1:fI ks r with
  | none=>rw[h1] at h;cases h
  | some q=>simp[Cf ks r q h1]
 | false::ks,s::r,p,h=>by
  rw[fI] at h;cases h1:fI ks r with
  | none=>rw[h1] at h;revert h;cases numOf s.data.toList<;>(intro h;cases h)
  | some q=>simp[Cf ks r q h1]
 | [],_::_,p,h=>by cases h
 | true::_,[],p,h=>by cases h
 | false::_,[],p,h=>by cases h
theorem vS:∀(ks:List Bool) (ws:List ByteArray) (ks':List Bool) (ws':List ByteArray),ks.length=ws.length→
  fI (ks++ks') (ws++ws')=(match fI ks ws,fI ks' ws' with
   | some p,some q=>some (p.1++q.1,p.2++q.2)
   | _,_=>none)
 | [],[],ks',ws',_=>by
  show fI ks' ws'=_
  cases fI ks' ws'<;>rfl
 | true::ks,s::r,ks',ws',h=>by
  have ih:=vS ks r ks' ws' (by simpa using h);rw[List.cons_append,List.cons_append,fI,ih];simp only[fI];cases fI ks r<;>cases fI ks' ws'<;>rfl
 | false::ks,s::r,ks',ws',h=>by
  have ih:=vS ks r ks' ws' (by simpa using h);rw[List.cons_append,List.cons_append,fI,ih];simp only[fI];cases numOf s.data.toList<;>cases fI ks r<;>cases fI ks' ws'<;>rfl
 | [],_::_,_,_,h=>by simp at h
 | true::_,[],_,_,h=>by simp at h
 | false::_,[],_,_,h=>by simp at h
theorem qG:∀(ks:List Bool) (ws:List ByteArray) p,fI ks ws=some p→∀v ∈ p.2,-9223372036854775808≤v∧v≤9223372036854775807
 | [],[],p,h,v,hv=>by simp only[fI] at h;injection h with h;subst h;cases hv
 | true::ks,s::r,p,h,v,hv=>by
  rw[fI] at h;cases h1:fI ks r with
  | none=>rw[h1] at h;cases h
  | some q=>rw[h1] at h;injection h with h;subst h;exact qG ks r q h1 v hv
 | false::ks,s::r,p,h,v,hv=>by
  rw[fI] at h;cases h1:fI ks r with
  | none=>rw[h1] at h;revert h;cases numOf s.data.toList<;>(intro h;cases h)
  | some q=>
   cases h2:numOf s.data.toList with
   | none=>rw[h2] at h;cases h
   | some u=>
    rw[h1,h2] at h;injection h with h
    subst h;rcases List.mem_cons.1 hv with rfl | hv
    ·exact Mo h2
    exact qG ks r q h1 v hv
 | [],_::_,p,h,v,hv=>by cases h
 | true::_,[],p,h,v,hv=>by cases h
 | false::_,[],p,h,v,hv=>by cases h
def ab (x y:Value) (j:Nat):Value:=if j=0 then x else y
def WI (l:List ByteArray):List Value:=l.map Value.string
def WJ (l:List Int):List Value:=l.map (Value.int .i64)
theorem yB {W:World} {b b':Nat} {e e' sz sz' n n':Nat} {v v':Value} {xs xs':List Value} (h1:W.ownsRow b e sz v n xs) (h2:W.ownsRow b' e' sz' v' n' xs') (he:e≠e'):v'.ownBlock=none∨v'.ownBlock≠v.ownBlock:=by
 rcases h2.2 with⟨hv,_⟩ | ⟨g,cap,cur,hv,_,hg,_⟩
 ·exact .inl (by rw[hv];rfl)
 refine .inr (fun e=>?_);rw[hv] at e;rcases h1.2 with⟨hu,_⟩ | ⟨g2,cap2,a0k,hu,_,hg2,_⟩
 ·rw[hu] at e;cases e
 rw[hu] at e;injection e with e
 have e3:g=g2:=e;subst e3;rw[hg] at hg2;injection hg2 with hg2
 injection hg2 with _ hg2
 exact he hg2.symm
theorem fJ {W:World} {b B:Nat} {e t sz n:Nat} {v:Value} {xs:List Value} (h1:W.ownsRow b e sz v n xs) (h2:Ty W B t) (he:t≠e):v.ownBlock≠some B:=fun e2=>by
 rcases h1.2 with⟨hu,_⟩ | ⟨g2,cap2,a0k,hu,_,hg2,_⟩
 ·rw[hu] at e2;cases e2
 rw[hu] at e2;injection e2 with e2
 have e3:g2=B:=e2;subst e3;obtain⟨cs,fz,h3⟩:=h2;rw[hg2] at h3;injection h3 with h3
 injection h3 with _ h3
 exact he h3.symm
theorem Yo {W:World} {base:Nat} {v:Value} {l:List ByteArray} {P:Nat→Prop} (h:W.ownsRow base 9 1 v l.length (WI l)) (hP:∀k,P k→k<base):Wd W P v l:=by
 rcases h.2 with⟨hv,h0⟩ | ⟨g,cap,cur,hv,hb,hg,hc,_⟩
 ·obtain rfl:=List.length_eq_zero_iff.1 h0;exact⟨none,0,hv,Nat.le_refl _,fun hn=>absurd rfl hn⟩
 refine⟨some ⟨g,0,none⟩,cap,hv,hc,fun _=>⟨g,0,rfl,fun e=>by have:=hP g e;omega,fun j x hx=>?_⟩⟩;have hj:=(List.getElem?_eq_some_iff.1 hx).1;rw[hv] at h;rw[Nat.zero_add,h.cellAt j (by omega)];unfold WI;rw[List.getElem?_map,hx]
 rfl
theorem Yp {W:World} {base:Nat} {v:Value} {l:List Int} {P:Nat→Prop} (h:W.ownsRow base 3 1 v l.length (WJ l)) (hP:∀k,P k→k<base):Nd W P v l:=by
 rcases h.2 with⟨hv,h0⟩ | ⟨g,cap,cur,hv,hb,hg,hc,_⟩
 ·obtain rfl:=List.length_eq_zero_iff.1 h0;exact⟨none,0,hv,fun hn=>absurd rfl hn⟩
 refine⟨some ⟨g,0,none⟩,cap,hv,fun _=>⟨g,0,rfl,fun e=>by have:=hP g e;omega,fun j x hx=>?_⟩⟩;have hj:=(List.getElem?_eq_some_iff.1 hx).1;rw[hv] at h;rw[Nat.zero_add,h.cellAt j (by omega)];unfold WJ;rw[List.getElem?_map,hx]
 rfl
theorem Dx:(Tryz.prog.info? 9).map (fun i=>(i.zero,i.size,i.bytes))=some (some (.string ⟨#[]⟩),1,16):=by kernel_rfl
structure MC (w:World) (form:ByteArray) (wx:World) (j:Nat) (av:List ByteArray) (bv:List Int) (xv yv:Value):Prop where
 it:wx.heap[w.heap.size+1+1]?=some (.stringIter form j)
 c1:ak wx (w.heap.size+1) 2 (ab xv yv)
 t1:Ty wx (w.heap.size+1) 92
 c0:ak wx w.heap.size 2 (ab (.slice none 0 0) (.slice none 0 0))
 t0:Ty wx w.heap.size 92
 ow:wx.ownsRow w.heap.size 9 1 xv av.length (WI av)
 on:wx.ownsRow w.heap.size 3 1 yv bv.length (WJ bv)
 si:Since w wx
structure RdI (w:World) (form:ByteArray) (ks:List Bool) (ws:List ByteArray) (wx:World) (j:Nat) (av:List ByteArray) (bv:List Int) (xv yv:Value):Prop where
 le:j≤ks.length
 rd:fI (ks.take j) (ws.take j)=some (av,bv)
 la:av.length≤j
 lb:bv.length≤j
 mm:MC w form wx j av bv xv yv
theorem vT {W V:World} {b n:Nat} {f:Nat→Value} (h:ak W b n f) (hb:V.heap[b]?=W.heap[b]?):ak V b n f:=⟨fun j hj=>(World.cell?_of_block (w:=W) (a:=⟨b,j,none⟩) hb).trans (h.cell j hj),fun j hj=>(World.frozen?_of_block (w:=W) (a:=⟨b,j,none⟩) hb).trans (h.frozen j hj)⟩
theorem gF (W:World) (a:Addr) (v:Value):W.grownBy (W.setCell a v) (some a.block):=⟨rfl,rfl,rfl,by simp[World.setCell],fun k hk hne=>Below.heap_setCell _ _ _ _ (fun e=>hne (by rw[e]))⟩
section
variable {w wx A W2:World} {form:ByteArray} {j:Nat} {av:List ByteArray} {bv:List Int} {xv yv SH:Value}
theorem MC.iter (h:MC w form wx j av bv xv yv) (j':Nat):MC w form (wx.iterAt (w.heap.size+1+1) form j') j' av bv xv yv:=by
 have hb:Below (w.heap.size+1+1) wx (wx.iterAt (w.heap.size+1+1) form j'):=Lib.below_iterAt (Below.refl _ wx) (k:=w.heap.size+1+1) (Nat.le_refl _) form j';exact⟨Lib.iterAt_heap wx (w.heap.size+1+1) form j j' h.it,vT h.c1 (hb.block _ (by omega)),h.t1.blk (hb.block _ (by omega)),vT h.c0 (hb.block _ (by omega)),h.t0.blk (hb.block _ (by omega)),Go.Proofs.own_iterAt h.ow h.it j',Go.Proofs.own_iterAt h.on h.it j',Lib.below_iterAt h.si (k:=w.heap.size+1+1) (by omega) form j'⟩
theorem MC.grow (h:MC w form wx j av bv xv yv) (hsA:Since wx A) {u:Value} {e n:Nat} {xs:List Value} (hu:A.ownsRow w.heap.size e 1 u n xs) (hue:e≠92) (hg:A.grownBy W2 u.ownBlock) (d:Nat) (y:Value) :
  (W2.setCell ⟨w.heap.size+1,d,none⟩ y).heap[w.heap.size+1+1]?=some (.stringIter form j)∧ak W2 (w.heap.size+1) 2 (ab xv yv)∧Ty (W2.setCell ⟨w.heap.size+1,d,none⟩ y) (w.heap.size+1) 92∧ak (W2.setCell ⟨w.heap.size+1,d,none⟩ y) w.heap.size 2 (ab (.slice none 0 0) (.slice none 0 0))∧Ty (W2.setCell ⟨w.heap.size+1,d,none⟩ y) w.heap.size 92∧Since w (W2.setCell ⟨w.heap.size+1,d,none⟩ y)∧Ty W2 (w.heap.size+1) 92:=by
 have l1:w.heap.size+1<A.heap.size:=Nat.lt_of_lt_of_le h.t1.lt hsA.size;have l2:w.heap.size+1+1<A.heap.size:=Nat.lt_of_lt_of_le (Array.getElem?_eq_some_iff.1 h.it).1 hsA.size;have n1:u.ownBlock≠some (w.heap.size+1):=fJ hu (h.t1.since hsA) (fun e=>hue e.symm);have n0:u.ownBlock≠some w.heap.size:=fJ hu (h.t0.since hsA) (fun e=>hue e.symm);have hit:A.heap[w.heap.size+1+1]?=some (.stringIter form j):=(hsA.block _ (Array.getElem?_eq_some_iff.1 h.it).1).trans h.it;have b1:W2.heap[w.heap.size+1]?=A.heap[w.heap.size+1]?:=hg.block _ l1 (fun e=>n1 e.symm);have b0:W2.heap[w.heap.size]?=A.heap[w.heap.size]?:=hg.block _ (by omega) (fun e=>n0 e.symm);have b2:W2.heap[w.heap.size+1+1]?=A.heap[w.heap.size+1+1]?:=hg.block _ l2 (Go.Proofs.own_ne_iter hu hit);have t1:Ty W2 (w.heap.size+1) 92:=(h.t1.since hsA).blk b1
 refine⟨?_,vT (h.c1.since hsA) b1,t1.setCell _ _,(vT (h.c0.since hsA) b0).other (a:=⟨w.heap.size+1,d,none⟩) (by show ¬w.heap.size+1=w.heap.size;omega) _,((h.t0.since hsA).blk b0).setCell _ _,?_,t1⟩
 ·rw[Below.heap_setCell _ _ _ _ (by show w.heap.size+1+1≠w.heap.size+1;omega),b2];exact hit
 exact Since.setCell (p:=⟨w.heap.size+1,d,none⟩) (Below.grown (h.si.trans hsA) hg (Nat.le_trans h.si.size hsA.size) (fun k hk=>(hu.lt k hk).1)) (by show w.heap.size≤w.heap.size+1;omega) y
theorem MC.a3A (h:MC w form wx j av bv xv yv) (hsA:Since wx A) {t:ByteArray} (own:W2.ownsRow w.heap.size 9 1 SH (av.length+1) (WI av++[.string t])) (hg:A.grownBy W2 xv.ownBlock):MC w form (W2.setCell ⟨w.heap.size+1,0,none⟩ SH) j (av++[t]) bv SH yv:=by
 have hu:=En.bi h.ow hsA;obtain⟨h1,h2,h3,h4,h5,h6,h7⟩:=h.grow hsA hu (by decide) hg 0 SH;refine⟨h1,(h2.set 0 (by omega) SH).congr (fun k hk=>?_),h3,h4,h5,?_,?_,h6⟩
 ·unfold aZ ab;by_cases e:k=0
  ·rw[if_pos e,if_pos e]
  rw[if_neg e,if_neg e,if_neg e]
 ·rw[List.length_append];unfold WI at *;rw[List.map_append];exact own.kept (gF W2 _ _) (.inr (fJ own h7 (by decide)))
 have hv:=En.bi h.on hsA;have h8:=hv.kept hg (yB hu hv (by decide));exact h8.kept (gF W2 _ _) (.inr (fJ h8 h7 (by decide)))
theorem MC.addN (h:MC w form wx j av bv xv yv) (hsA:Since wx A) {t:Int} (own:W2.ownsRow w.heap.size 3 1 SH (bv.length+1) (WJ bv++[.int .i64 t])) (hg:A.grownBy W2 yv.ownBlock):MC w form (W2.setCell ⟨w.heap.size+1,1,none⟩ SH) j av (bv++[t]) xv SH:=by
 have hu:=En.bi h.on hsA;obtain⟨h1,h2,h3,h4,h5,h6,h7⟩:=h.grow hsA hu (by decide) hg 1 SH;refine⟨h1,(h2.set 1 (by omega) SH).congr (fun k hk=>?_),h3,h4,h5,?_,?_,h6⟩
 ·unfold aZ ab;by_cases e:k=1
  ·rw[if_pos e,if_neg (by omega)]
  rw[if_neg e,if_pos (by omega),if_pos (by omega)]
 ·have hv:=En.bi h.ow hsA;have h8:=hv.kept hg (yB hu hv (by decide));exact h8.kept (gF W2 _ _) (.inr (fJ h8 h7 (by decide)))
 rw[List.length_append];unfold WJ at *;rw[List.map_append];exact own.kept (gF W2 _ _) (.inr (fJ own h7 (by decide)))
end
theorem Cg {fn:Func} {p:Tmp} {ty:TypeId} (h:fn.results=#[.cell p ty]) (tmps:Array Value) (P:Program) (w:World) (b:Nat) (cs:List Value) (d:TypeDesc)
  (hx:tmps.getD p undef=.pointer (some ⟨b,0,none⟩)) (hc:w.rangeAt b 0 cs) (hu:P.underlying ty=some d) (hd:d.isRow=true) (hi:(P.info? ty).map (·.size)=some cs.length) :
  (results fn tmps).run P w=.ok (.agg cs.toArray) w:=by
 simp only[results,h];have h1:=run_loadVar_mid (P:=P) w b 0 ty cs d hc hu hd hi;have h2:tmps[p]?.getD undef=.pointer (some ⟨b,0,none⟩):=by simpa using hx
 simp[asAddr,h2,h1]
theorem Av (tmps:Array Value) (W:World) (b:Nat) (x y:Value) (hx:tmps.getD 4 undef=.pointer (some ⟨b,0,none⟩)) (h0:W.cell? ⟨b,0,none⟩=some x) (h1:W.cell? ⟨b,1,none⟩=some y):(results Tryz.f61 tmps).run Tryz.prog W=.ok (.agg #[x,y]) W:=by
 refine Cg Tryz.results61 tmps Tryz.prog W b [x,y] _ hx (fun j u hu=>?_) Tryz.underlying92 rfl (by kernel_rfl)
 match j,hu with
 | 0,hu=>(injection hu with hu;subst hu;exact h0)
 | 1,hu=>(injection hu with hu;subst hu;exact h1)
theorem decode_one (s:ByteArray) (ks:List Bool) (h:jT s ks) (j:Nat) (b:Bool) (hb:ks[j]?=some b):j<s.size∧Utf8.decode s j=(if b then 84 else 78,1):=⟨by rw[h.1];exact(List.getElem?_eq_some_iff.1 hb).1,h.2.2.2 j b hb⟩
set_option maxHeartbeats 8000000 in
theorem QE (form:ByteArray) (ws:List ByteArray) (x:Value) (w:World) (P:Nat→Prop) (hx:Wd w P x ws) (hf:form=⟨#[46,46]⟩):Calls Tryz.prog 61 #[.string form,x] w fun e w'=>e=.returned (.agg #[x,.slice none 0 0])∧Since w w':=by
 subst hf;obtain⟨a,c,rfl,_⟩:=hx;generalize ws.length=wl;have hcm:((⟨#[46,46]⟩:ByteArray).toList==[46,46])=true:=by kernel_rfl
 go_enter Tryz.func61,Tryz.ntmps61
 go_wp2_with fail
 refine bodyPost_ret (Av _ _ w.heap.size (.slice a wl c) (.slice none 0 0) rfl ?_ ?_) rfl ⟨rfl,(Since.refl w).alloc _⟩
 ·exact(sI w _ _ _ _ (Since.refl _)).1
 exact(sI w _ _ _ _ (Since.refl _)).2
set_option maxHeartbeats 8000000 in
theorem jK (form:ByteArray) (ks:List Bool) (hf:jT form ks) (ws:List ByteArray) (x:Value) (w:World) (P:Nat→Prop) (hx:Wd w P x ws) (hz:∀s ∈ ws,s.size≤100000) (hL:En.Lb w) :
  Calls Tryz.prog 61 #[.string form,x] w fun e w'=>((fI ks ws=none∧e=thrown 3)∨∃av bv xv yv,fI ks ws=some (av,bv)∧e=.returned (.agg #[xv,yv])∧Wd w' (fun k=>k<w.heap.size) xv av∧Nd w' (fun k=>k<w.heap.size) yv bv)∧Since w w':=by
 obtain⟨a,c,rfl,_,hx2⟩:=hx;have hfn:=hf.2.2.1;have hfs:=hf.1;have a4Z:=hf.2.1;have HF:Hid (jT form ks):=hf;have HX:Hid (ws≠[]→∃k o,a=some ⟨k,o,none⟩∧¬P k∧∀j x,ws[j]?=some x→w.cell? ⟨k,o+j,none⟩=some (.string x)):=hx2;have HZ:Hid ((∀s ∈ ws,s.size≤100000)∧En.Lb w):=⟨hz,hL⟩
 clear hx2 hz hL hf;by_cases hl:ws.length=ks.length
 ·obtain⟨L,hL⟩:∃L,ws.length=L:=⟨_,rfl⟩
  rw[hL];have hcmp:((L:Int) != (form.size:Int))=false:=by rw[hfs,←hl,hL];simp
  have a5a:L≤100:=by omega
  have Gb:Hid (ws.length=L∧ks.length=L∧form.size=L):=⟨hL,by omega,by omega⟩
  clear hl hfs hL;go_enter Tryz.func61,Tryz.ntmps61
  go_wp2_with fail
  have hst:RdI w form ks ws (((w.alloc (.cells #[.slice none 0 0,.slice none 0 0] 92)).alloc (.cells #[.slice none 0 0,.slice none 0 0] 92)).alloc (.stringIter form 0)) 0 [] [] (.slice none 0 0) (.slice none 0 0):=by
   have e1:(w.alloc (.cells #[.slice none 0 0,.slice none 0 0] 92)).heap.size=w.heap.size+1:=World.size_alloc _ _;have e2:((w.alloc (.cells #[.slice none 0 0,.slice none 0 0] 92)).alloc (.cells #[.slice none 0 0,.slice none 0 0] 92)).heap.size=w.heap.size+1+1:=by rw[World.size_alloc,e1]
   have hz:∀j,j<2→(#[.slice none 0 0,.slice none 0 0]:Array Value)[j]?=some (ab (.slice none 0 0) (.slice none 0 0) j):=fun j hj=>by
    have:j=0∨j=1:=by omega
    rcases this with rfl | rfl<;>rfl
   refine⟨Nat.zero_le _,by simp[fI],Nat.le_refl _,Nat.le_refl _,?_,?_,?_,?_,?_,World.ownsRow_nil _ _ _ _,World.ownsRow_nil _ _ _ _,(((Since.refl w).alloc _).alloc _).alloc _⟩
   ·rw[←e2];exact heap_alloc_new _ _
   ·exact(ak.new (w.alloc (.cells #[.slice none 0 0,.slice none 0 0] 92)) 2 _ _ _ hz _ e1.symm).since ((Since.refl _).alloc _)
   ·rw[←e1];exact(Ty.new (w.alloc (.cells #[.slice none 0 0,.slice none 0 0] 92)) _ _).since ((Since.refl _).alloc _)
   ·exact(ak.new w 2 _ _ _ hz _ rfl).since (((Since.refl _).alloc _).alloc _)
   exact(Ty.new w _ _).since (((Since.refl _).alloc _).alloc _)
  have HST:Hid _:=hst;clear hst;go_loopg [6] form.size (fun gf s6 wx=>∃(j:Nat) (av:List ByteArray) (bv:List Int) (xv yv:Value),RdI w form ks ws wx j av bv xv yv∧form.size≤j+gf)
  case atStart=>exact⟨0,[],[],_,_,HST.out,by omega⟩
  obtain⟨j,av,bv,xv,yv,hI,hfu⟩:=hrel;obtain⟨hl1,hl2,hl3⟩:=Gb.out;have HI:Hid (RdI w form ks ws wr j av bv xv yv):=hI;by_cases hlt:j<form.size
  ·obtain⟨g',rfl⟩:∃g',gk=g'+1:=⟨gk-1,by omega⟩
   obtain⟨b,hb⟩:∃b,ks[j]?=some b:=⟨_,List.getElem?_eq_getElem (by omega)⟩
   obtain⟨t,ht⟩:∃t,ws[j]?=some t:=⟨_,List.getElem?_eq_getElem (by omega)⟩
   have hdec:=(decode_one form ks HF.out j b hb).2;have hnx:∀ty,(Instr.next (.pointer (some ⟨w.heap.size+1+1,0,none⟩)) true ty).run Tryz.prog wr=_:=fun ty=>Lib.run_next_any_at wr (w.heap.size+1+1) form j ty hI.mm.it hlt
   rw[hdec] at hnx;have hmm:=hI.mm.iter (j+1);have Sv:Hid (fI (ks.take (j+1)) (ws.take (j+1))=(match fI [b] [t] with | some q=>some (av++q.1,bv++q.2) | none=>none)):=by
    show fI _ _=_
    have e1:ks.take (j+1)=ks.take j++[b]:=by rw[List.take_add_one,hb];rfl
    have e2:ws.take (j+1)=ws.take j++[t]:=by rw[List.take_add_one,ht];rfl
    rw[e1,e2,vS _ _ _ _ (by simp;omega),hI.rd];cases fI [b] [t]<;>rfl
   have HNO:Hid (fI (ks.take (j+1)) (ws.take (j+1))=none→fI ks ws=none):=fun h0=>by
    rw[←List.take_append_drop (j+1) ks,←List.take_append_drop (j+1) ws,vS _ _ _ _ (by simp;omega),h0]
   obtain⟨k,o,rfl,_,hcell⟩:=HX.out (fun e=>by rw[e] at ht;simp at ht);have hct:=hcell j t ht;have ZA:Hid (∀V,Since w V→V.cell? ⟨k,o+j,none⟩=some (.string t)):=fun V hV=>(hV.cell (p:=⟨k,o+j,none⟩) (World.block_lt_of_cell? _ _ hct)).trans hct
   have htz:t.size≤100000:=HZ.out.1 t (List.mem_of_getElem? ht);have hjw:j<L:=by omega
   have a6Q:(j:Int)<(L:Int):=by omega
   have a5b:j<100:=by omega
   have SK:Hid (av.length≤j∧bv.length≤j∧j+1≤ks.length∧form.size≤j+1+g'):=⟨hI.la,hI.lb,by omega,by omega⟩
   obtain⟨xa,xc,rfl⟩:∃xa xc,xv=.slice xa av.length xc:=by
    rcases hI.mm.ow.2 with⟨h,h0⟩ | ⟨g,cap,cur,h,_⟩
    ·exact⟨none,0,by rw[h,h0]⟩
    exact⟨_,_,h⟩
   obtain⟨ya,yc,rfl⟩:∃ya yc,yv=.slice ya bv.length yc:=by
    rcases hI.mm.on.2 with⟨h,h0⟩ | ⟨g,cap,cur,h,_⟩
    ·exact⟨none,0,by rw[h,h0]⟩
    exact⟨_,_,h⟩
   obtain⟨V,hV⟩:∃V,wr.iterAt (w.heap.size+1+1) form (j+1)=V:=⟨_,rfl⟩
   rw[hV] at hnx hmm;have SL:Hid (MC w form V (j+1) av bv (.slice xa av.length xc) (.slice ya bv.length yc)):=hmm;clear hI HI HST hV hcell hct hfu hl1 hl2 hl3;cases b with
   | true=>
    have HQ:Hid (∀W,Since V W→W.cell? ⟨w.heap.size+1,0,none⟩=some (.slice xa av.length xc)∧W.cell? ⟨k,o+j,none⟩=some (.string t)):=fun W hW=>⟨(hmm.c1.since hW).cell 0 (by omega),ZA.out W (hmm.si.trans hW)⟩
    clear hmm;obtain⟨i0,hi,hz0,hz1,hz2⟩:=info_parts' Dx;have HI:Hid (Tryz.prog.info? 9=some i0∧i0.zero=some (.string ⟨#[]⟩)∧i0.size=1∧i0.bytes=16):=⟨hi,hz0,hz1,hz2⟩
    clear hi hz0 hz1 hz2;have hal:av.length<100:=by have:=SK.out.1;omega
    have lC:Hid (Since V (V.drew.alloc (.cells #[.string t] 9))):=(Since.refl V).drew.alloc _;have SC:Hid ((V.drew.alloc (.cells #[.string t] 9)).ownsRow w.heap.size 9 1 (.slice xa av.length xc) av.length (WI av)∧w.heap.size≤(V.drew.alloc (.cells #[.string t] 9)).heap.size):=⟨En.bi SL.out.ow lC.out,Nat.le_trans SL.out.si.size lC.out.size⟩
    obtain⟨y1,y2⟩:=HQ.out V.drew (Since.refl V).drew;obtain⟨y3,y4⟩:=HQ.out (V.alloc (.cells #[.string t] 9)) ((Since.refl V).alloc _);go_wp2_with fail
    go_region_law (first
     | (refine step_append_lies _ (by rfl) (.tmp 28) (.tmp 33) 28 (by rfl) w.heap.size 9 i0 _ 1 16 Tryz.underlying28 HI.out.1 HI.out.2.1 HI.out.2.2.1 HI.out.2.2.2 (by rfl) (by decide) (.slice xa av.length xc) av.length (WI av) (by rfl) SC.out.1 ⟨V.heap.size,0,none⟩ 1 1 [.string t] (by rfl) (by rfl) (World.news_of_block (heap_alloc_new V.drew _)) (by simp[Value.oneCell']) (by decide) (by unfold maxLen;omega) (by omega) SC.out.2 (V.heap.size+1) (by simp) ?_;intro g2 cap2 w4 hown2 hgrow2 Yq Kv;have Nz:Hid (w4.ownsRow w.heap.size 9 1 (.slice (some ⟨g2,0,none⟩) (av.length+1) cap2) (av.length+1) (WI av++[.string t])∧World.grownBy (V.drew.alloc (.cells #[.string t] 9)) w4 (Value.slice xa av.length xc).ownBlock):=⟨hown2,hgrow2⟩;have pg:=(SL.out.grow lC.out SC.out.1 (by decide) hgrow2 0 undef).2.1;have c4:=pg.cell 0 (by omega);have f4:=pg.frozen 0 (by omega);clear hown2 hgrow2 Yq Kv pg))
    all_goals
     go_wp2_with fail
     go_roundg g'
     case measure=>omega
     case rel=>exact⟨j+1,av++[t],bv,_,_,⟨SK.out.2.2.1,by rw[Sv.out];simp[fI],by rw[List.length_append];exact Nat.succ_le_succ SK.out.1,Nat.le_succ_of_le SK.out.2.1,SL.out.a3A lC.out Nz.out.1 Nz.out.2⟩,SK.out.2.2.2⟩
   | false=>
    have HQ:Hid (∀W,Since V W→W.cell? ⟨w.heap.size+1,1,none⟩=some (.slice ya bv.length yc)∧W.cell? ⟨k,o+j,none⟩=some (.string t)):=fun W hW=>⟨(hmm.c1.since hW).cell 1 (by omega),ZA.out W (hmm.si.trans hW)⟩
    clear hmm;obtain⟨i0,hi,hz0,hz1,hz2⟩:=info_parts' Dz;have HI:Hid (Tryz.prog.info? 3=some i0∧i0.zero=some (.int .i64 0)∧i0.size=1∧i0.bytes=8):=⟨hi,hz0,hz1,hz2⟩
    clear hi hz0 hz1 hz2;have hbl:bv.length<100:=by have:=SK.out.2.1;omega
    obtain⟨y1,y2⟩:=HQ.out V.drew (Since.refl V).drew;have JL:Hid (∀W,Since V W→Calls Tryz.prog 113 #[.string t] W fun e w'=>e=zl t.data.toList∧Since W w'):=fun W hW=>pY t htz W (HZ.out.2.since (SL.out.si.trans hW))
    cases ME:numOf t.data.toList with
    | none=>
     have Yr:Hid (∀W,Since V W→Calls Tryz.prog 113 #[.string t] W fun e w'=>e=thrown 3∧Since W w'):=fun W hW=>(JL.out W hW).mono (by
      rintro e w' ⟨rfl,h⟩;exact⟨by unfold zl;rw[ME],h⟩)
     have HRN:Hid (fI ks ws=none):=HNO.out (by rw[Sv.out];simp only[fI,ME]);clear ME JL;go_wp2_with fail
     have hS1:(fun W:World=>W.cell? ⟨w.heap.size+1,1,none⟩=some (.slice ya bv.length yc)∧W.cell? ⟨k,o+j,none⟩=some (.string t)) V.drew:=⟨y1,y2⟩
     refine wp_region_held (S:=fun W:World=>W.cell? ⟨w.heap.size+1,1,none⟩=some (.slice ya bv.length yc)∧W.cell? ⟨k,o+j,none⟩=some (.string t)) (by kernel_rfl) ?_;refine Tw.takeD (i:=0) (d:=38) (v:=?v1) rfl rfl (by kernel_rfl) (by kernel_rfl) (by kernel_rfl) (fun _ _ _ h=>h) (Or.inl ⟨by rfl,?hw1⟩) hS1 ?q1
     case hw1=>(intro w hSw;obtain⟨s0,s1⟩:=hSw;go_simp;try with_reducible rfl)
     simp only[Act.put,List.setIfInBounds_toArray,List.set_cons_zero,List.set_cons_succ];refine Tw.takeD (i:=1) (d:=39) (v:=?v2) rfl rfl (by kernel_rfl) (by kernel_rfl) (by kernel_rfl) (fun _ _ _ h=>h) (Or.inl ⟨by rfl,?hw2⟩) hS1 ?q2
     case hw2=>(intro w hSw;obtain⟨s0,s1⟩:=hSw;go_simp;try with_reducible rfl)
     simp only[Act.put,List.setIfInBounds_toArray,List.set_cons_zero,List.set_cons_succ];refine Tw.takeD (i:=2) (d:=40) (v:=?v3) rfl rfl (by kernel_rfl) (by kernel_rfl) (by kernel_rfl) (fun _ _ _ h=>h) (Or.inl ⟨by rfl,?hw3⟩) hS1 ?q3
     case hw3=>(intro w hSw;obtain⟨s0,s1⟩:=hSw;go_simp;try with_reducible rfl)
     simp only[Act.put,List.setIfInBounds_toArray,List.set_cons_zero,List.set_cons_succ];refine Tw.takeD (i:=3) (d:=41) (v:=?v4) rfl rfl (by kernel_rfl) (by kernel_rfl) (by kernel_rfl) (fun _ _ _ h=>h) (Or.inl ⟨by rfl,?hw4⟩) hS1 ?q4
     case hw4=>(intro w hSw;obtain⟨s0,s1⟩:=hSw;go_simp;try with_reducible rfl)
     simp only[Act.put,List.setIfInBounds_toArray,List.set_cons_zero,List.set_cons_succ];refine Tw.takeD (i:=4) (d:=42) (v:=?v5) rfl rfl (by kernel_rfl) (by kernel_rfl) (by kernel_rfl) (fun _ _ _ h=>h) (Or.inl ⟨by rfl,?hw5⟩) hS1 ?q5
     case hw5=>(intro w hSw;obtain⟨s0,s1⟩:=hSw;go_simp;try with_reducible rfl)
     simp only[Act.put,List.setIfInBounds_toArray,List.set_cons_zero,List.set_cons_succ];refine Tw.takeD (i:=5) (d:=43) (v:=?v6) rfl rfl (by kernel_rfl) (by kernel_rfl) (by kernel_rfl) (fun _ _ _ h=>h) (Or.inl ⟨by rfl,?hw6⟩) hS1 ?q6
     case hw6=>(intro w hSw;obtain⟨s0,s1⟩:=hSw;go_simp;try with_reducible rfl)
     simp only[Act.put,List.setIfInBounds_toArray,List.set_cons_zero,List.set_cons_succ];refine wpAnyH_ready (rs:=[6]) (by kernel_rfl) (by simp) (AllReadyH.cons rfl (fun K hK=>?_) AllReadyH.nil);rw[if_pos (by rfl)];go_simp
     refine(Yr.out _ (Since.refl _).drew).mono ?_;rintro e w2 ⟨rfl,h2⟩;exact⟨rfl,.inl ⟨HRN.out,rfl⟩,(SL.out.si.trans (Since.refl _).drew).trans h2⟩
    | some m=>
     have Yr:Hid (∀W,Since V W→Calls Tryz.prog 113 #[.string t] W fun e w'=>e=.returned (.int .i64 m)∧Since W w'):=fun W hW=>(JL.out W hW).mono (by
      rintro e w' ⟨rfl,h⟩;exact⟨by unfold zl;rw[ME],h⟩)
     have HRN:Hid (fI (ks.take (j+1)) (ws.take (j+1))=some (av,bv++[m])):=by
      show fI _ _=_
      rw[Sv.out];simp only[fI,ME,List.append_nil]
     clear ME JL;go_wp2_with fail
     go_region_law (first
      | (refine step_append_lies _ (by rfl) (.tmp 39) (.tmp 45) 90 (by rfl) w.heap.size 3 i0 _ 1 8 Tryz.underlying90 HI.out.1 HI.out.2.1 HI.out.2.2.1 HI.out.2.2.2 (by rfl) (by decide) (.slice ya bv.length yc) bv.length (WJ bv) (by rfl) SC.out.1 ⟨w2.heap.size,0,none⟩ 1 1 [.int .i64 m] (by rfl) (by rfl) (World.news_of_block (heap_alloc_new w2 _)) (by simp[Value.oneCell']) (by decide) (by unfold maxLen;omega) (by omega) SC.out.2 (w2.heap.size+1) (by simp) ?_;intro g2 cap2 w4 hown2 hgrow2 Yq Kv;have Nz:Hid (w4.ownsRow w.heap.size 3 1 (.slice (some ⟨g2,0,none⟩) (bv.length+1) cap2) (bv.length+1) (WJ bv++[.int .i64 m])∧World.grownBy (w2.alloc (.cells #[.int .i64 m] 3)) w4 (Value.slice ya bv.length yc).ownBlock):=⟨hown2,hgrow2⟩;have pg:=(SL.out.grow lC.out SC.out.1 (by decide) hgrow2 1 undef).2.1;have c4:=pg.cell 1 (by omega);have f4:=pg.frozen 1 (by omega);clear hown2 hgrow2 Yq Kv pg)
      | (go_simp;go_at_call 113;refine(Yr.out _ (by first | exact Since.refl _ | exact(Since.refl _).drew)).mono ?_;rintro e w2 ⟨rfl,h2⟩;have lC:Hid (Since V (w2.alloc (.cells #[.int .i64 m] 3))):=((Since.refl V).drew.trans h2).alloc _;have SC:Hid ((w2.alloc (.cells #[.int .i64 m] 3)).ownsRow w.heap.size 3 1 (.slice ya bv.length yc) bv.length (WJ bv)∧w.heap.size≤(w2.alloc (.cells #[.int .i64 m] 3)).heap.size):=⟨En.bi SL.out.on lC.out,Nat.le_trans SL.out.si.size lC.out.size⟩;obtain⟨y3,y4⟩:=HQ.out w2 ((Since.refl V).drew.trans h2);obtain⟨y5,y6⟩:=HQ.out _ lC.out;clear h2;dsimp only))
     all_goals
      go_wp2_with fail
      go_roundg g'
      case measure=>omega
      case rel=>exact⟨j+1,av,bv++[m],_,_,⟨SK.out.2.2.1,HRN.out,Nat.le_succ_of_le SK.out.1,by rw[List.length_append];exact Nat.succ_le_succ SK.out.2.1,SL.out.addN lC.out Nz.out.1 Nz.out.2⟩,SK.out.2.2.2⟩
  have hnx:∀ty,(Instr.next (.pointer (some ⟨w.heap.size+1+1,0,none⟩)) true ty).run Tryz.prog wr=_:=fun ty=>Lib.run_next_end_at wr (w.heap.size+1+1) form j ty hI.mm.it hlt
  have Wv:j=ks.length:=by have:=hI.le;omega
  have Sv:Hid (fI ks ws=some (av,bv)):=by
   have:=hI.rd;rw[Wv,List.take_length,show ks.length=ws.length by omega,List.take_length] at this;exact this
  obtain⟨xa,xc,rfl⟩:∃xa xc,xv=.slice xa av.length xc:=by
   rcases hI.mm.ow.2 with⟨h,h0⟩ | ⟨g,cap,cur,h,_⟩
   ·exact⟨none,0,by rw[h,h0]⟩
   exact⟨_,_,h⟩
  obtain⟨ya,yc,rfl⟩:∃ya yc,yv=.slice ya bv.length yc:=by
   rcases hI.mm.on.2 with⟨h,h0⟩ | ⟨g,cap,cur,h,_⟩
   ·exact⟨none,0,by rw[h,h0]⟩
   exact⟨_,_,h⟩
  have u0:=hI.mm.c1.cell 0 (by omega);have u1:=hI.mm.c1.cell 1 (by omega);have v0:=hI.mm.c0.cell 0 (by omega);have v1:=hI.mm.c0.cell 1 (by omega);have f0:=hI.mm.c0.frozen 0 (by omega);have f1:=hI.mm.c0.frozen 1 (by omega);rw[show ab (.slice xa av.length xc) (.slice ya bv.length yc) 0=.slice xa av.length xc from rfl] at u0;rw[show ab (.slice xa av.length xc) (.slice ya bv.length yc) 1=.slice ya bv.length yc from rfl] at u1;have HE:Hid (∀W,W=(wr.setCell ⟨w.heap.size,0,none⟩ (.slice xa av.length xc)).setCell ⟨w.heap.size,1,none⟩ (.slice ya bv.length yc)→W.cell? ⟨w.heap.size,0,none⟩=some (.slice xa av.length xc)∧W.cell? ⟨w.heap.size,1,none⟩=some (.slice ya bv.length yc)∧Wd W (fun k=>k<w.heap.size) (.slice xa av.length xc) av∧Nd W (fun k=>k<w.heap.size) (.slice ya bv.length yc) bv∧Since w W):=fun W hW=>by
   have t0:=hI.mm.t0;have o1:=hI.mm.ow.kept (gF wr ⟨w.heap.size,0,none⟩ (.slice xa av.length xc)) (.inr (fJ hI.mm.ow t0 (by decide)));have o2:=o1.kept (gF _ ⟨w.heap.size,1,none⟩ (.slice ya bv.length yc)) (.inr (fJ o1 (t0.setCell _ _) (by decide)));have m1:=hI.mm.on.kept (gF wr ⟨w.heap.size,0,none⟩ (.slice xa av.length xc)) (.inr (fJ hI.mm.on t0 (by decide)));have m2:=m1.kept (gF _ ⟨w.heap.size,1,none⟩ (.slice ya bv.length yc)) (.inr (fJ m1 (t0.setCell _ _) (by decide)));have cc:=((hI.mm.c0.set 0 (by omega) (.slice xa av.length xc)).set 1 (by omega) (.slice ya bv.length yc))
   subst hW;exact⟨cc.cell 0 (by omega),cc.cell 1 (by omega),Yo o2 (fun k hk=>hk),Yp m2 (fun k hk=>hk),(hI.mm.si.setCell (p:=⟨w.heap.size,0,none⟩) (Nat.le_refl _) _).setCell (p:=⟨w.heap.size,1,none⟩) (Nat.le_refl _) _⟩
  clear hI HST hfu hlt Wv hl1 hl2 hl3;generalize hal:av.length=al at *;generalize hbl:bv.length=bl at *;clear hal hbl;go_wp2_with fail
  obtain⟨e0,e1,e2,e3,e4⟩:=HE.out _ rfl;refine bodyPost_ret (Av _ _ w.heap.size _ _ rfl e0 e1) rfl ⟨.inr ⟨av,bv,_,_,Sv.out,rfl,e2,e3⟩,e4⟩
 have hcmp:((ws.length:Int)==(form.size:Int))=false:=by rw[hfs];exact beq_false_of_ne (by omega)
 have HN:Hid (fI ks ws=none):=by
  show fI ks ws=none
  cases h:fI ks ws with
  | none=>rfl
  | some p=>exact absurd (Cf _ _ _ h).symm hl
 generalize ws.length=wl at *;clear hl hfs;go_enter Tryz.func61,Tryz.ntmps61
 go_wp2_with fail
 refine(bW 3 _).mono ?_;rintro e w2 ⟨rfl,hw2⟩;exact⟨rfl,.inl ⟨HN.out,rfl⟩,by rw[hw2];exact(Since.refl _).alloc _⟩
end Dk
end Go.Proofs.YtmhcfaaggkidjaaGreatDoor
end
section
namespace Go.Proofs.YtmhcfaaggkidjaaGreatDoor
set_option maxRecDepth 100000
namespace Dk
open Go.RowKit
open En (Fi)
open Vl
open Fl (Fm Fv Sr aA BO)
def WK (a:Addr) (u:Value):Prop:=(∃s:ByteArray,u=.string s∧s.size≠0)∨(∃x,u=.int .i64 x)∨((∃p n c,u=.slice p n c)∧2≤a.off)
structure sO (Q:Nat→Prop) (w w':World):Prop where
 fs:Fs Q w w'
 say:∀a u,w.cell? a=some u→WK a u→w'.cell? a=some u
theorem sO.trans {Q:Nat→Prop} {w w1 w2:World} (h:sO Q w w1) (h2:sO Q w1 w2):sO Q w w2:=⟨h.fs.trans h2.fs,fun a u ha hs=>h2.say a u (h.say a u ha hs) hs⟩
theorem sO.ah {Q:Nat→Prop} {w w':World} (h:Since w w'):sO Q w w':=⟨Fs.ah h,fun a u ha _=>(h.cell (World.block_lt_of_cell? w a ha)).trans ha⟩
theorem JV {w:World} {b:Nat} {y:Value} (hb:w.cell? ⟨b,0,none⟩=some y) (hy:¬WK ⟨b,0,none⟩ y) (x:Value):sO (fun k=>k=b) w (w.setCell ⟨b,0,none⟩ x):=by
 refine⟨⟨rfl,rfl,rfl,by simp[World.setCell],fun k hk hn=>Below.heap_setCell _ _ _ _ hn⟩,fun a u ha hs=>?_⟩;by_cases e:a=⟨b,0,none⟩
 ·subst e;rw[hb] at ha;injection ha with ha
  subst ha;exact absurd hs hy
 rw[World.cell?_setCell_other _ _ _ _ (fun e2=>e e2.symm)];exact ha
def ES (im:Im):Prop:=∀z,z<8→∀j,j<im.nn z→(im.l z j).size≠0
theorem Iy:ES sS:=fun z _ j hj=>absurd hj (Nat.not_lt_zero _)
theorem UZ (D:Dv):ES (Mk D):=fun z _ j _=>by
 show (txt 128 (D.blk z j)).size≠0
 rw[dG];decide
def a3C (w:World) (N:Nat) (a:Addr) (u:Value):Prop:=N≤a.block∨(∃x,w.cell? ⟨a.block,a.off+1,none⟩=some (.int .i64 x))∨¬∃s,u=.string s
theorem yC:∀(d:List Fv),(∀x ∈ d,x.1.size≠0)→∀(o j:Nat) (u:Value) (k:Nat),(aA d)[j]?=some u→WK ⟨k,o+j,none⟩ u∧((∃x,(aA d)[j+1]?=some (.int .i64 x))∨¬∃s,u=.string s)
 | [],h,o,j,u,k,hj=>by simp[aA] at hj
 | x::r,h,o,j,u,k,hj=>by
  match j,hj with
  | 0,hj=>(injection hj with hj;subst hj;exact⟨.inl ⟨_,rfl,h x List.mem_cons_self⟩,.inl ⟨_,rfl⟩⟩)
  | 1,hj=>(injection hj with hj;subst hj;exact⟨.inr (.inl ⟨_,rfl⟩),.inr (fun e=>by obtain⟨s,e⟩:=e;cases e)⟩)
  | 2,hj=>(injection hj with hj;subst hj;exact⟨.inr (.inr ⟨⟨_,_,_,rfl⟩,by show 2≤o+2;omega⟩),.inr (fun e=>by obtain⟨s,e⟩:=e;cases e)⟩)
  | j+3,hj=>
   have:=yC r (fun y hy=>h y (List.mem_cons_of_mem _ hy)) (o+3) j u k hj;rw[show o+(j+3)=o+3+j by omega];exact this
section
variable {w0 w w':World} {P Q:Nat→Prop} {sb:Nat} {Z:Sn} {n:Int}
theorem eu.far (h:eu w0 w P sb Z n) (him:ES Z.im) (hf:Fs Q w w') (say:∀a u,w.cell? a=some u→WK a u→a3C w w0.drawn a u→w'.cell? a=some u) (hQ:∀k,k<w.heap.size→Q k→¬P k) (hQ0:∀k,Q k→w0.heap.size≤k):eu w0 w' P sb Z n:=by
 obtain⟨db,cb,fp,v,h1,h2⟩:=h;have hnq:∀k,P k→¬Q k:=fun k hk hq=>hQ k (h1.oU k hk) hq hk
 obtain⟨iv,hc,hi⟩:=h1.bL;refine⟨db,cb,fp,v,⟨h1.ty.blk (hf.block sb h1.lt (hnq sb h1.ps.1)),h1.s16,⟨iv,iT hc hf (hnq sb h1.ps.1),fun z hz=>?_⟩,⟨xx h1.dc.dev hf (hnq db h1.ps.2.1) (fun k hk=>hnq k (h1.ps.2.2.2 k hk)),iT h1.dc.sQ hf (hnq cb h1.ps.2.2.1),h1.dc.ne,h1.dc.own,hf.since h1.dc.since hQ0,h1.dc.lo⟩,h1.ne,h1.ps,h1.yu,fun k hk=>Nat.lt_of_lt_of_le (h1.oU k hk) hf.size,Nat.le_trans h1.dn hf.size⟩,?_⟩
 ·obtain⟨a,c,hv,hcap,hh⟩:=hi z hz;refine⟨a,c,hv,hcap,fun hn=>?_⟩;obtain⟨k,o,ha,hk,hcell⟩:=hh hn;exact⟨k,o,ha,hk,fun j hj=>say _ _ (hcell j hj) (.inl ⟨_,rfl,him z hz j hj⟩) (.inl (Nat.le_of_not_lt (fun e=>hk (.inr e))))⟩
 cases hz:Z.f using uT.cs with
 | no D c=>rw[hz] at h2;exact h2
 | op S l=>
  rw[hz] at h2;obtain⟨fb,vb,lv,d,h3,hF,h4,h5,h6,h7,h8⟩:=h2;refine⟨fb,vb,lv,d,h3,?_,h4,h5,h6,h7,h8⟩;have hfl:fb<w.heap.size:=World.block_lt_of_cell? w _ hF.c0;have hfq:¬Q fb:=hnq fb h7.1;have hvp:∀k,VP vb db cb v k→¬Q k:=fun k hk=>by
   rcases hk with rfl | rfl | rfl | hk
   ·exact hnq _ h8.1
   ·exact hnq _ h1.ps.2.1
   ·exact hnq _ h1.ps.2.2.1
   exact hnq _ (h1.ps.2.2.2 k hk)
  have hnm:∀x ∈ d,x.1.size≠0:=fun x hx=>by
   obtain⟨j,hj⟩:=List.getElem?_of_mem hx;have hjl:j<l.length:=by rw[hF.each.len];exact(List.getElem?_eq_some_iff.1 hj).1
   obtain⟨g1,g2,g3,g4⟩:=hF.each.each j l[j] x (List.getElem?_eq_getElem hjl) hj;have hg:=(((Fl.aX l).1 h5).1.good l[j] (List.getElem_mem hjl)).1;intro e;have e2:l[j].nm.data.toList=[]:=by
    have:l[j].nm.data.size=0:=by rw[g1];exact e
    exact List.eq_nil_of_length_eq_zero (by rw[Array.length_toList];exact this)
   rw[e2] at hg;exact absurd hg (by decide)
  refine⟨BO hF.rZ hf hQ0 hvp,(hf.cell hfl hfq).trans hF.c0,(hf.cell hfl hfq).trans hF.c1,(hf.frozen hfl hfq).trans hF.fz,hF.lo,hF.NA,?_,fun k o n c e=>⟨Nat.lt_of_lt_of_le (hF.blk k o n c e).1 hf.size,(hF.blk k o n c e).2⟩,⟨hF.each.len,fun j f x hj hx=>?_⟩,hF.ty.blk (hf.block fb hfl hfq)⟩
  ·rcases hF.sr with hs | ⟨k,o,c,hk,hc,hcell⟩
   ·exact .inl hs
   refine .inr ⟨k,o,c,hk,hc,fun j u hj=>?_⟩;obtain⟨g1,g2⟩:=yC d hnm o j u k hj;refine say _ _ (hcell j u hj) g1 (.inr ?_);rcases g2 with⟨x,g2⟩ | g2
   ·exact .inl ⟨x,hcell (j+1) _ g2⟩
   exact .inr g2
  obtain⟨g1,g2,g3,g4⟩:=hF.each.each j f x hj hx;refine⟨g1,g2,?_,fun k o e=>⟨Nat.lt_of_lt_of_le (g4 k o e).1 hf.size,(g4 k o e).2⟩⟩;obtain⟨a,c,hv,hc,hh⟩:=g3;refine⟨a,c,hv,hc,fun hn=>?_⟩;obtain⟨k,o,ha,hk,hcell⟩:=hh hn;exact⟨k,o,ha,Nat.lt_of_lt_of_le hk hf.size,fun i y hy=>say _ _ (hcell i y hy) (.inr (.inl ⟨y,rfl⟩)) (.inr (.inr (fun e=>by obtain⟨s,e⟩:=e;cases e)))⟩
theorem eu.els (h:eu w0 w P sb Z n) (him:ES Z.im) (he:sO Q w w') (hQ:∀k,k<w.heap.size→Q k→¬P k) (hQ0:∀k,Q k→w0.heap.size≤k):eu w0 w' P sb Z n:=h.far him he.fs (fun a u ha hs _=>he.say a u ha hs) hQ hQ0
theorem eu.box (h:eu w0 w P sb Z n) (him:ES Z.im) {B:Nat} {t:TypeId} {s:ByteArray} (hB:w.heap[B]?=some (.cells #[.string s] t (0,0))) (hp:¬P B) (h0:w0.heap.size≤B) (hd:B<w0.drawn) (x:Value):eu w0 (w.setCell ⟨B,0,none⟩ x) P sb Z n:=by
 refine h.far (Q:=fun k=>k=B) him ⟨rfl,rfl,rfl,by simp[World.setCell],fun k hk hn=>Below.heap_setCell _ _ _ _ hn⟩ (fun a u ha hs hn=>?_) (fun k _ e=>by rw[e];exact hp) (fun k e=>by rw[e];exact h0);have hne:a≠⟨B,0,none⟩:=fun e=>by
  subst e;have hc:w.cell? ⟨B,0,none⟩=some (.string s):=by simp[World.cell?,hB]
  rw[hc] at ha;injection ha with ha
  rcases hn with h1 | ⟨y,h1⟩ | h1
  ·have h2:w0.drawn≤B:=h1;omega
  ·have:w.cell? ⟨B,0+1,none⟩=none:=by simp[World.cell?,hB]
   rw[show (⟨B,0,none⟩:Addr).block=B from rfl,show (⟨B,0,none⟩:Addr).off=0 from rfl,this] at h1;cases h1
  exact h1 ⟨s,ha.symm⟩
 rw[World.cell?_setCell_other _ _ _ _ (fun e2=>hne e2.symm)];exact ha
end
end Dk
end Go.Proofs.YtmhcfaaggkidjaaGreatDoor
end
section
namespace Go.Proofs.YtmhcfaaggkidjaaGreatDoor
set_option maxRecDepth 100000
namespace Dk
open Go.RowKit Go.Shelf
open Vl
def U8 (u:Value):Prop:=∃x,u=.int .u8 x
theorem Yt (a:Addr) {u:Value} (h:U8 u):¬WK a u:=fun hs=>by
 obtain⟨x,rfl⟩:=h;rcases hs with⟨s,e,_⟩ | ⟨y,e⟩ | ⟨⟨p,n,c,e⟩,_⟩
 ·cases e
 ·injection e with e;cases e
 cases e
structure zq (W:World) (B:Nat) (v:Value) (xs:List Value):Prop where
 own:W.ownsRow B 5 1 v xs.length xs
 all:∀g cur fz,v.ownBlock=some g→W.heap[g]?=some (.cells cur 5 fz)→∀u ∈ cur.toList,U8 u
theorem zq.nil (W:World) (B:Nat):zq W B (.slice none 0 0) []:=⟨World.ownsRow_nil _ _ _ _,fun g cur fz e=>by cases e⟩
theorem zq.fs {W W':World} {B:Nat} {v:Value} {xs:List Value} {Q:Nat→Prop} (h:zq W B v xs) (hf:Fs Q W W') (hq:∀k,v.ownBlock=some k→¬Q k):zq W' B v xs:=by
 refine⟨⟨h.own.1,?_⟩,fun g cur fz e hc=>?_⟩
 ·rcases h.own.2 with h1 | ⟨g,cap,cur,hv,hb,hg,h2⟩
  ·exact .inl h1
  exact .inr ⟨g,cap,cur,hv,hb,(hf.block g (Array.getElem?_eq_some_iff.1 hg).1 (hq g (by rw[hv];rfl))).trans hg,h2⟩
 have hl:=(h.own.lt g e).2;rw[hf.block g hl (hq g e)] at hc;exact h.all g cur fz e hc
theorem MF {W W':World} {B:Nat} {v:Value} {xs:List Value} (h:zq W B v xs) (hg:W.grownBy W' v.ownBlock):sO (fun k=>v.ownBlock=some k) W W':=by
 refine⟨⟨hg.os,hg.tape,hg.output,hg.size,fun k hk hn=>hg.block k hk (fun e=>hn e.symm)⟩,fun a u ha hs=>?_⟩;by_cases e:v.ownBlock=some a.block
 ·exfalso;rcases h.own.2 with⟨hv,_⟩ | ⟨g,cap,cur,hv,hb,hgg,_⟩
  ·rw[hv] at e;cases e
  rw[hv] at e;injection e with e
  have e2:g=a.block:=e;rw[e2] at hgg;have hu:u ∈ cur.toList:=by
   unfold World.cell? at ha;rw[hgg] at ha;simp only[] at ha;split at ha
   ·cases ha
   exact List.mem_of_getElem? (i:=a.off) (by rw[Array.getElem?_toList];exact ha)
  exact Yt a (h.all a.block cur (0,0) (by rw[hv,←e2];rfl) hgg u hu) hs
 rw[World.cell?_of_block (w:=W) (a:=a) (hg.block a.block (World.block_lt_of_cell? W a ha) (fun e2=>e e2.symm))];exact ha
theorem Ch (n:Nat):∀u ∈ (Builtin.zeroCells (Value.int .u8 0).cells n).toList,U8 u:=fun u hu=>by
 unfold Builtin.zeroCells at hu;simp only[Array.toList_map,List.mem_map] at hu;obtain⟨i,_,rfl⟩:=hu;refine⟨0,?_⟩;have:(Value.int IntKind.u8 0).cells=#[.int .u8 0]:=rfl;rw[this];show (#[Value.int IntKind.u8 0])[i % 1]! = _
 rw[Nat.mod_one]
 rfl
theorem Iz (s:ByteArray):∀u ∈ Lib.strCells s,U8 u:=fun u hu=>by
 unfold Lib.strCells at hu;obtain⟨b,_,rfl⟩:=List.mem_map.1 hu;exact⟨_,rfl⟩
theorem IA:(Tryz.prog.info? 5).map (fun i=>(i.zero,i.size,i.bytes))=some (some (.int .u8 0),1,1):=by kernel_rfl
theorem ET {cur:Array Value} {ys:List Value} {n m:Nat} (h:∀u ∈ cur.toList,U8 u) (hy:∀u ∈ ys,U8 u):∀u ∈ (cur.toList.take n++ys++cur.toList.drop m).toArray.toList,U8 u:=fun u hu=>by
 rw[List.toList_toArray,List.mem_append,List.mem_append] at hu;rcases hu with(hu | hu) | hu
 ·exact h u (List.mem_of_mem_take hu)
 ·exact hy u hu
 exact h u (List.mem_of_mem_drop hu)
theorem mem_grow {xs ys:List Value} {n:Nat} (h:∀u ∈ xs,U8 u) (hy:∀u ∈ ys,U8 u):∀u ∈ (xs.toArray++ys.toArray++Builtin.zeroCells (Value.int .u8 0).cells n).toList,U8 u:=fun u hu=>by
 rw[Array.toList_append,Array.toList_append,List.mem_append,List.mem_append] at hu;rcases hu with(hu | hu) | hu
 ·exact h u hu
 ·exact hy u hu
 exact Ch _ u hu
theorem EU (W:World) (ty:TypeId) (s:ByteArray) (hm:s.size=0):(Builtin.append_ #[38,9] ty #[.slice none 0 0,.string s]).run Tryz.prog W=.ok (.slice none 0 0) W:=by
 obtain⟨i0,hi,hz0,hz1,hz2⟩:=info_parts' IA;have hf:=Lib.run_firstCells_string (P:=Tryz.prog) W 1 s;rw[hm] at hf;simp[Builtin.append_,run_underlying Tryz.underlying38,run_underlying Tryz.underlying9,sizeOf,typeInfo,hi,hz1,Builtin.lenOf,hm,hf]
theorem IB {W:World} {B:Nat} {v:Value} {xs:List Value} (h:zq W B v xs) (s:ByteArray) (hl:xs.length+s.size≤100000000) (hB:B≤W.heap.size) :
  ∃v' W',(∀ty,(Builtin.append_ #[38,9] ty #[v,.string s]).run Tryz.prog W=.ok v' W')∧zq W' B v' (xs++Lib.strCells s)∧W.grownBy W' v.ownBlock∧∀k,v'.ownBlock=some k→v.ownBlock=some k∨W.heap.size≤k:=by
 obtain⟨i0,hi,hz0,hz1,hz2⟩:=info_parts' IA;obtain⟨v1,W1,r1,o1,g1,e1⟩:=Lib.run_append_own_string (P:=Tryz.prog) (w:=W) B 38 9 0 5 i0 Tryz.underlying38 Tryz.underlying9 hi hz0 hz1 hz2 v xs.length xs h.own s (by unfold maxLen;omega) (by omega) hB;have ol:(xs++Lib.strCells s).length=xs.length+s.size:=by rw[List.length_append,Lib.strCells_length]
 rcases h.own.2 with⟨hv,h0⟩ | ⟨g,cap,cur,hv,hb,hg,hnc,hcm,hcs,htk⟩
 ·by_cases hs:s.size=0
  ·refine⟨v1,W1,fun ty=>?_,⟨by rw[ol];exact o1,fun g cur fz e=>?_⟩,g1,fun k e=>by rw[e1.2 ⟨hv,hs⟩] at e;cases e⟩
   ·rw[hv,EU _ _ _ hs] at r1 ⊢;exact r1
   rw[e1.2 ⟨hv,hs⟩] at e;cases e
  have ex:=fun ty=>run_append_nil_string (P:=Tryz.prog) (w:=W) 38 9 ty 5 i0 _ Tryz.underlying38 Tryz.underlying9 hi hz0 s (by omega) (by omega) (by rw[hz2];omega)
  rw[hv,ex 0] at r1;injection r1 with r2 r3
  subst r2;subst r3;refine⟨_,_,fun ty=>by rw[hv];exact ex ty,⟨by rw[ol];exact o1,fun g cur fz e hc=>?_⟩,g1,fun k e=>.inr (by injection e with e;exact Nat.le_of_eq e)⟩;injection e with e
  have e2:W.heap.size=g:=e;subst e2;rw[show (W.drew.alloc _).heap[W.heap.size]?=_ from heap_alloc_new W.drew _] at hc;injection hc with hc
  injection hc with hc
  subst hc;intro u hu;rw[Array.toList_append,List.mem_append] at hu;rcases hu with hu | hu
  ·rw[Array.toList_map] at hu;exact Iz s u hu
  exact Ch _ u hu
 have hall:=h.all g cur (0,0) (by rw[hv];rfl) hg;by_cases hr:xs.length+s.size≤cap
 ·have ex:=fun ty=>Lib.run_append_room_string (P:=Tryz.prog) (w:=W) 38 9 ty 5 i0 Tryz.underlying38 Tryz.underlying9 hi hz1 g xs.length cap cur hg s hr (by omega)
  rw[hv,ex 0] at r1;injection r1 with r2 r3
  subst r2;subst r3;refine⟨_,_,fun ty=>by rw[hv];exact ex ty,⟨by rw[ol];exact o1,fun g' cur' fz e hc=>?_⟩,g1,fun k e=>.inl (by rw[hv];exact e)⟩;injection e with e
  have e2:g=g':=e;subst e2;rw[setRow_heap W g cur _ 5 (0,0) hg] at hc;injection hc with hc
  injection hc with hc
  subst hc;exact ET hall (Iz s)
 have hcells:∀j u,xs[j]?=some u→W.cell? ((⟨g,0,none⟩:Addr).add j)=some u:=fun j u hj=>by
  rw[Addr.add_mid,Nat.zero_add];have:=h.own;rw[hv] at this;rw[this.cellAt j (by have:=(List.getElem?_eq_some_iff.1 hj).1;omega)];exact hj
 have ex:=fun ty=>Lib.run_append_grow_string (P:=Tryz.prog) (w:=W) 38 9 ty 5 i0 _ Tryz.underlying38 Tryz.underlying9 hi hz0 ⟨g,0,none⟩ xs.length cap xs (by rw[hz1];omega) hcells s (by omega) (by omega) (by
  have:=nextslicecap_le (need:=xs.length+s.size) (old:=cap) (by omega);rw[hz2];omega)
 rw[hv,ex 0] at r1;injection r1 with r2 r3
 subst r2;subst r3;refine⟨_,_,fun ty=>by rw[hv];exact ex ty,⟨by rw[ol];exact o1,fun g' cur' fz e hc=>?_⟩,g1,fun k e=>.inr (by injection e with e;exact Nat.le_of_eq e)⟩;injection e with e
 have e2:W.heap.size=g':=e;subst e2;rw[show (W.drew.alloc _).heap[W.heap.size]?=_ from heap_alloc_new W.drew _] at hc;injection hc with hc
 injection hc with hc
 subst hc;have hxu:∀u ∈ xs,U8 u:=fun u hu=>hall u (by rw[←htk] at hu;exact List.mem_of_mem_take hu)
 exact mem_grow hxu (Iz s)
theorem QF {W:World} {B:Nat} {v:Value} {xs:List Value} (h:zq W B v xs) (ka:Nat) (c:Int) (hc:W.cell? ⟨ka,0,none⟩=some (.int .u8 c)) (hl:xs.length+1≤100000000) (hB:B≤W.heap.size) :
  ∃v' W',(∀ty,(Builtin.append_ #[38,38] ty #[v,.slice (some ⟨ka,0,none⟩) 1 1]).run Tryz.prog W=.ok v' W')∧zq W' B v' (xs++[.int .u8 c])∧W.grownBy W' v.ownBlock∧∀k,v'.ownBlock=some k→v.ownBlock=some k∨W.heap.size≤k:=by
 obtain⟨i0,hi,hz0,hz1,hz2⟩:=info_parts' IA;have hnews:∀j u,([.int .u8 c]:List Value)[j]?=some u→W.cell? ((⟨ka,0,none⟩:Addr).add j)=some u:=fun j u hj=>by
  match j,hj with
  | 0,hj=>(injection hj with hj;subst hj;rw[Addr.add_mid];exact hc)
 have hnu:∀u ∈ ([.int .u8 c]:List Value),U8 u:=fun u hu=>by rw[List.mem_singleton] at hu;exact⟨c,hu⟩
 obtain⟨v1,W1,r1,o1,g1,e1⟩:=run_append_own (P:=Tryz.prog) (w:=W) B 38 0 5 i0 _ 1 1 Tryz.underlying38 hi hz0 hz1 hz2 rfl (by decide) v xs.length xs h.own ⟨ka,0,none⟩ 1 1 [.int .u8 c] rfl hnews (by simp[Value.oneCell']) (by unfold maxLen;omega) (by omega) hB;have ol:(xs++[Value.int .u8 c]).length=xs.length+1:=by simp
 rcases h.own.2 with⟨hv,h0⟩ | ⟨g,cap,cur,hv,hb,hg,hnc,hcm,hcs,htk⟩
 ·have ex:=fun ty=>run_append_nil (P:=Tryz.prog) (w:=W) 38 ty 5 i0 _ Tryz.underlying38 hi hz0 ⟨ka,0,none⟩ 1 1 [.int .u8 c] (by rw[hz1];rfl) hnews (by omega) (by omega) (by rw[hz2];omega)
  rw[hv,ex 0] at r1;injection r1 with r2 r3
  subst r2;subst r3;refine⟨_,_,fun ty=>by rw[hv];exact ex ty,⟨by rw[ol];exact o1,fun g cur fz e hcc=>?_⟩,g1,fun k e=>.inr (by injection e with e;exact Nat.le_of_eq e)⟩;injection e with e
  have e2:W.heap.size=g:=e;subst e2;rw[show (W.drew.alloc _).heap[W.heap.size]?=_ from heap_alloc_new W.drew _] at hcc;injection hcc with hcc
  injection hcc with hcc
  subst hcc;intro u hu;rw[Array.toList_append,List.mem_append] at hu;rcases hu with hu | hu
  ·exact hnu u hu
  exact Ch _ u hu
 have hall:=h.all g cur (0,0) (by rw[hv];rfl) hg;by_cases hr:xs.length+1≤cap
 ·have ex:=fun ty=>run_append_room (P:=Tryz.prog) (w:=W) 38 ty 5 i0 Tryz.underlying38 hi g xs.length cap cur hg ⟨ka,0,none⟩ 1 1 [.int .u8 c] (by rw[hz1];rfl) hnews (by simp[Value.oneCell']) hr (by rw[hz1];simp;omega)
  rw[hv,ex 0] at r1;injection r1 with r2 r3
  subst r2;subst r3;refine⟨_,_,fun ty=>by rw[hv];exact ex ty,⟨by rw[ol];exact o1,fun g' cur' fz e hcc=>?_⟩,g1,fun k e=>.inl (by rw[hv];exact e)⟩;injection e with e
  have e2:g=g':=e;subst e2;rw[setRow_heap W g cur _ 5 (0,0) hg] at hcc;injection hcc with hcc
  injection hcc with hcc
  subst hcc;exact ET hall hnu
 have hcells:∀j u,xs[j]?=some u→W.cell? ((⟨g,0,none⟩:Addr).add j)=some u:=fun j u hj=>by
  rw[Addr.add_mid,Nat.zero_add];have:=h.own;rw[hv] at this;rw[this.cellAt j (by have:=(List.getElem?_eq_some_iff.1 hj).1;omega)];exact hj
 have ex:=fun ty=>run_append_grow (P:=Tryz.prog) (w:=W) 38 ty 5 i0 _ Tryz.underlying38 hi hz0 ⟨g,0,none⟩ xs.length cap xs (by rw[hz1];omega) hcells ⟨ka,0,none⟩ 1 1 [.int .u8 c] (by rw[hz1];rfl) hnews (by omega) (by omega) (by
  have:=nextslicecap_le (need:=xs.length+1) (old:=cap) (by omega);rw[hz2];omega)
 rw[hv,ex 0] at r1;injection r1 with r2 r3
 subst r2;subst r3;refine⟨_,_,fun ty=>by rw[hv];exact ex ty,⟨by rw[ol];exact o1,fun g' cur' fz e hcc=>?_⟩,g1,fun k e=>.inr (by injection e with e;exact Nat.le_of_eq e)⟩;injection e with e
 have e2:W.heap.size=g':=e;subst e2;rw[show (W.drew.alloc _).heap[W.heap.size]?=_ from heap_alloc_new W.drew _] at hcc;injection hcc with hcc
 injection hcc with hcc
 subst hcc;have hxu:∀u ∈ xs,U8 u:=fun u hu=>hall u (by rw[←htk] at hu;exact List.mem_of_mem_take hu)
 exact mem_grow hxu hnu
structure Bl (W:World) (B b:Nat) (v:Value) (t:List UInt8):Prop where
 lo:B≤b
 blk:∃p,(p=.pointer none∨p=.pointer (some ⟨b,0,none⟩))∧W.heap[b]?=some (.cells #[p,v] 40 (0,0))
 Zd:zq W B v (Lib.byteCells t)
 ne:v.ownBlock≠some b
theorem Bl.fs {W W':World} {B b:Nat} {v:Value} {t:List UInt8} {Q:Nat→Prop} (h:Bl W B b v t) (hf:Fs Q W W') (hb:¬Q b) (hq:∀k,v.ownBlock=some k→¬Q k):Bl W' B b v t:=by
 obtain⟨p,hp,hh⟩:=h.blk;exact⟨h.lo,⟨p,hp,(hf.block b (Array.getElem?_eq_some_iff.1 hh).1 hb).trans hh⟩,h.Zd.fs hf hq,h.ne⟩
theorem Bl.lt {W:World} {B b:Nat} {v:Value} {t:List UInt8} (h:Bl W B b v t):b<W.heap.size:=by
 obtain⟨p,hp,hh⟩:=h.blk;exact(Array.getElem?_eq_some_iff.1 hh).1
theorem EW {W:World} {B b:Nat} {v:Value} {t:List UInt8} (h:Bl W B b v t):Calls Tryz.prog 56 #[.pointer (some ⟨b,0,none⟩)] W fun e w'=>e=.returned (.tuple #[])∧w'.heap[b]?=some (.cells #[.pointer (some ⟨b,0,none⟩),v] 40 (0,0))∧sO (fun k=>k=b) W w'∧w'.heap.size=W.heap.size:=by
 obtain⟨p,hp,hh⟩:=h.blk;rcases hp with rfl | rfl
 ·have c0:W.cell? ⟨b,0,none⟩=some (.pointer none):=by simp[World.cell?,hh]
  refine(Any.Builder_copyCheck_fresh { gz with } iq.toX72 b W c0 (by simp[World.shape?,hh];rfl) (by simp[World.frozen?,hh])).mono ?_;rintro e w' ⟨rfl,rfl⟩;refine⟨rfl,?_,JV c0 (fun hs=>?_) _,by simp[World.setCell]⟩
  ·have hl:=(Array.getElem?_eq_some_iff.1 hh).1;simp[World.setCell,Array.getElem?_modify,hh]
  rcases hs with⟨s,e,_⟩ | ⟨x,e⟩ | ⟨⟨p,n,c,e⟩,_⟩<;>cases e
 have c0:W.cell? ⟨b,0,none⟩=some (.pointer (some ⟨b,0,none⟩)):=by simp[World.cell?,hh]
 refine(Any.Builder_copyCheck_used { gz with } iq.toX72 b W c0).mono ?_;rintro e w' ⟨rfl,rfl⟩;exact⟨rfl,hh,sO.ah (Since.refl _),rfl⟩
theorem QG {W W':World} {B b:Nat} {v:Value} {xs:List Value} (h:zq W B v xs) (he:sO (fun k=>k=b) W W') (hne:v.ownBlock≠some b):zq W' B v xs:=h.fs he.fs (fun k hk e=>hne (by rw[←e];exact hk))
theorem JW {W1 W2:World} {B b:Nat} {v v':Value} {xs ys:List Value} (h1:W1.heap[b]?=some (.cells #[.pointer (some ⟨b,0,none⟩),v] 40 (0,0))) (hy:zq W1 B v xs) (hne:v.ownBlock≠some b) (h2:zq W2 B v' ys) (hg:W1.grownBy W2 v.ownBlock) (hv:v'.ownBlock≠some b) :
  (W2.cell? ⟨b,1,none⟩=some v∧W2.frozen? ⟨b,1,none⟩=false)∧(W2.setCell ⟨b,1,none⟩ v').heap[b]?=some (.cells #[.pointer (some ⟨b,0,none⟩),v'] 40 (0,0))∧zq (W2.setCell ⟨b,1,none⟩ v') B v' ys∧(v.oneCell'=true→¬WK ⟨b,1,none⟩ v→sO (fun k=>k=b∨v.ownBlock=some k) W1 (W2.setCell ⟨b,1,none⟩ v')):=by
 have hl:=(Array.getElem?_eq_some_iff.1 h1).1;have hb2:W2.heap[b]?=some (.cells #[.pointer (some ⟨b,0,none⟩),v] 40 (0,0)):=(hg.block b hl (fun e=>hne e.symm)).trans h1;have c1:W2.cell? ⟨b,1,none⟩=some v:=by simp[World.cell?,hb2]
 have hfs:Fs (fun k=>k=b) W2 (W2.setCell ⟨b,1,none⟩ v'):=⟨rfl,rfl,rfl,by simp[World.setCell],fun k hk hn=>Below.heap_setCell _ _ _ _ hn⟩
 refine⟨⟨c1,by simp[World.frozen?,hb2]⟩,by simp[World.setCell,Array.getElem?_modify,hb2],h2.fs hfs (fun k hk e=>hv (by rw[←e];exact hk)),fun _ hs=>?_⟩;have he:=MF hy hg;refine⟨⟨he.fs.os,he.fs.tape,he.fs.output,Nat.le_trans he.fs.size hfs.size,fun k hk hn=>(hfs.block k (Nat.lt_of_lt_of_le hk he.fs.size) (fun e=>hn (.inl e))).trans (he.fs.block k hk (fun e=>hn (.inr e)))⟩,fun a u ha TN=>?_⟩;have h3:=he.say a u ha TN;by_cases e:a=⟨b,1,none⟩
 ·subst e;rw[c1] at h3;injection h3 with h3
  subst h3;exact absurd TN hs
 rw[World.cell?_setCell_other _ _ _ _ (fun e2=>e e2.symm)];exact h3
theorem Ci {W:World} {B:Nat} {v:Value} {xs:List Value} (h:zq W B v xs):∃a n c,v=.slice a n c:=by
 rcases h.own.2 with⟨h1,_⟩ | ⟨g,cap,cur,h1,_⟩
 ·exact⟨_,_,_,h1⟩
 exact⟨_,_,_,h1⟩
theorem QH (b:Nat) {v:Value} (h:∃a n c,v=.slice a n c):¬WK ⟨b,1,none⟩ v:=fun hs=>by
 obtain⟨a,n,c,rfl⟩:=h;rcases hs with⟨s,e,_⟩ | ⟨x,e⟩ | ⟨_,e⟩
 ·cases e
 ·cases e
 exact absurd (show 2≤1 from e) (by decide)
theorem QI (t:List UInt8) (s:ByteArray):Lib.byteCells t++Lib.strCells s=Lib.byteCells (t++s.data.toList):=by
 unfold Lib.byteCells Lib.strCells;rw[List.map_append]
theorem JX {W W':World} {B:Nat} {v v':Value} {xs ys:List Value} (h:zq W B v xs) (h2:zq W' B v' ys) (hat:∀k,v'.ownBlock=some k→v.ownBlock=some k∨W.heap.size≤k) {b:Nat} (hb:b<W.heap.size) (hne:v.ownBlock≠some b):v'.ownBlock≠some b:=fun e=>by
 rcases hat b e with h1 | h1
 ·exact hne h1
 omega
theorem yD {P:Program} {ops:Array Oper} {Q:Exit→Act→World→Prop} {rest:List Oper} {a:Act} {w:World} (o:Oper) (hgd:o.guard=none) (p q:Operand) (t u:TypeId) (ho:o.op=.call { callee:=.builtin .append,args:=#[p,q],argTypes:=#[t,u] }) (v x v':Value) (w':World) (hs:a.eval p=v) (hx:a.eval q=x) (hr:∀ty,(Builtin.append_ #[t,u] ty #[v,x]).run P w=.ok v' w') (h:wpList P ops Q rest (a.put o.dst v') w'):wpList P ops Q (o::rest) a w:=by
 refine wpList_plain hgd fun K hK=>?_
 unfold Oper.wp execOp;simp only[ho,resolve,invoke,builtin,Sem.run_bind,Sem.run_pure,Result.andThen_ok,List.map_toArray,List.map_cons,List.map_nil,hs,hx,hr];exact hK _ _ h
set_option maxHeartbeats 8000000 in
theorem Yu {W:World} {B b:Nat} {v:Value} {t:List UInt8} (h:Bl W B b v t) (s:ByteArray) (hl:t.length+s.size≤100000000) (hB:B≤W.heap.size) :
  Calls Tryz.prog 16 #[.pointer (some ⟨b,0,none⟩),.string s] W fun e w'=>∃v',e=.returned (.tuple #[.int .i64 s.size,.nilIface])∧Bl w' B b v' (t++s.data.toList)∧sO (fun k=>k=b∨v.ownBlock=some k) W w'∧∀k,v'.ownBlock=some k→v.ownBlock=some k∨W.heap.size≤k:=by
 have HC:Hid (Calls Tryz.prog 56 #[.pointer (some ⟨b,0,none⟩)] W fun e w'=>e=.returned (.tuple #[])∧w'.heap[b]?=some (.cells #[.pointer (some ⟨b,0,none⟩),v] 40 (0,0))∧sO (fun k=>k=b) W w'∧w'.heap.size=W.heap.size):=EW h;have H:Hid (Bl W B b v t):=h;have hxl:(Lib.byteCells t).length=t.length:=Lib.byteCells_length t;have HXL:Hid ((Lib.byteCells t).length+s.size≤100000000):=by show (Lib.byteCells t).length+s.size≤100000000;omega
 clear h hxl hl;go_enter Tryz.func16,Tryz.ntmps16
 go_wp2_with fail
 refine HC.out.mono ?_;rintro e w1 ⟨rfl,hb1,he1,hz1⟩;have hy1:=QG H.out.Zd he1 H.out.ne;obtain⟨v',w2,hap,hy2,hg2,hat⟩:=IB hy1 s HXL.out (by omega);have hl1:b<w1.heap.size:=(Array.getElem?_eq_some_iff.1 hb1).1;have hv2:=JX hy1 hy2 hat hl1 H.out.ne;obtain⟨⟨d1,d2⟩,d3,d4,d5⟩:=JW hb1 hy1 H.out.ne hy2 hg2 hv2;have hsl:=Ci hy1;have he2:=d5 (by obtain⟨a,n,c,rfl⟩:=hsl;rfl) (QH b hsl);have c1:w1.cell? ⟨b,1,none⟩=some v:=by simp[World.cell?,hb1]
 have HE:Hid (Bl (w2.setCell ⟨b,1,none⟩ v') B b v' (t++s.data.toList)∧sO (fun k=>k=b∨v.ownBlock=some k) W (w2.setCell ⟨b,1,none⟩ v')∧∀k,v'.ownBlock=some k→v.ownBlock=some k∨W.heap.size≤k):=by
  refine⟨⟨H.out.lo,⟨_,.inr rfl,d3⟩,by rw[←QI];exact d4,hv2⟩,sO.trans ⟨⟨he1.fs.os,he1.fs.tape,he1.fs.output,he1.fs.size,fun k hk hn=>he1.fs.block k hk (fun e=>hn (.inl e))⟩,he1.say⟩ he2,fun k hk=>?_⟩;rw[←hz1];exact hat k hk
 obtain⟨xa,xn,xc,hvs⟩:=hsl;obtain⟨ya,yn,yc,Yv⟩:=Ci hy2;subst hvs;subst Yv;clear hy1 hy2 hg2 hat d3 d4 d5 he2 he1 hb1 hv2 hz1 hB hl1;have YS:Hid (∀ty,(Builtin.append_ #[38,9] ty #[.slice xa xn xc,.string s]).run Tryz.prog w1=.ok (.slice ya yn yc) w2):=hap;clear hap;go_wp2_with (at_builtin;refine yD _ (by rfl) _ _ 38 9 (by rfl) _ _ _ _ (by rfl) (by rfl) YS.out ?_)
 go_ret2;exact⟨_,rfl,HE.out⟩
set_option maxHeartbeats 8000000 in
theorem Yw {W:World} {B b:Nat} {v:Value} {t:List UInt8} (h:Bl W B b v t) (hl:t.length+1≤100000000) (hB:B≤W.heap.size) :
  Calls Tryz.prog 18 #[.pointer (some ⟨b,0,none⟩),.int .u8 10] W fun e w'=>∃v',e=.returned .nilIface∧Bl w' B b v' (t++[10])∧sO (fun k=>k=b∨v.ownBlock=some k) W w'∧∀k,v'.ownBlock=some k→v.ownBlock=some k∨W.heap.size≤k:=by
 have HC:Hid (Calls Tryz.prog 56 #[.pointer (some ⟨b,0,none⟩)] W fun e w'=>e=.returned (.tuple #[])∧w'.heap[b]?=some (.cells #[.pointer (some ⟨b,0,none⟩),v] 40 (0,0))∧sO (fun k=>k=b) W w'∧w'.heap.size=W.heap.size):=EW h;have H:Hid (Bl W B b v t):=h;have hxl:(Lib.byteCells t).length=t.length:=Lib.byteCells_length t;have HXL:Hid ((Lib.byteCells t).length+1≤100000000):=by show (Lib.byteCells t).length+1≤100000000;omega
 clear h hxl hl;go_enter Tryz.func18,Tryz.ntmps18
 go_wp2_with fail
 refine HC.out.mono ?_;rintro e w1 ⟨rfl,hb1,he1,hz1⟩;have hs1:Since w1 (w1.alloc (.cells #[.int .u8 10] 5)):=(Since.refl w1).alloc _;have hy0:=QG H.out.Zd he1 H.out.ne;have hy1:zq (w1.alloc (.cells #[.int .u8 10] 5)) B v (Lib.byteCells t):=hy0.fs (Q:=fun _=>False) (Fs.ah hs1) (fun _ _ h=>h);obtain⟨v',w2,hap,hy2,hg2,hat⟩:=QF hy1 w1.heap.size 10 (Boxed.new w1 5 (.int .u8 10)).cell HXL.out (by rw[World.size_alloc];omega);have hl1:b<(w1.alloc (.cells #[.int .u8 10] 5)).heap.size:=by have:=(Array.getElem?_eq_some_iff.1 hb1).1;rw[World.size_alloc];omega
 have hb2:(w1.alloc (.cells #[.int .u8 10] 5)).heap[b]?=some (.cells #[.pointer (some ⟨b,0,none⟩),v] 40 (0,0)):=(hs1.block b (Array.getElem?_eq_some_iff.1 hb1).1).trans hb1;have hv2:=JX hy1 hy2 hat hl1 H.out.ne;obtain⟨⟨d1,d2⟩,d3,d4,d5⟩:=JW hb2 hy1 H.out.ne hy2 hg2 hv2;have hsl:=Ci hy1;have he2:=d5 (by obtain⟨a,n,c,rfl⟩:=hsl;rfl) (QH b hsl);have c1:w1.cell? ⟨b,1,none⟩=some v:=by simp[World.cell?,hb1]
 have HE:Hid (Bl (w2.setCell ⟨b,1,none⟩ v') B b v' (t++[10])∧sO (fun k=>k=b∨v.ownBlock=some k) W (w2.setCell ⟨b,1,none⟩ v')∧∀k,v'.ownBlock=some k→v.ownBlock=some k∨W.heap.size≤k):=by
  refine⟨⟨H.out.lo,⟨_,.inr rfl,d3⟩,by rw[show Lib.byteCells (t++[10])=Lib.byteCells t++[.int .u8 10] by unfold Lib.byteCells;rw[List.map_append];rfl];exact d4,hv2⟩,sO.trans (sO.trans ⟨⟨he1.fs.os,he1.fs.tape,he1.fs.output,he1.fs.size,fun k hk hn=>he1.fs.block k hk (fun e=>hn (.inl e))⟩,he1.say⟩ (sO.ah hs1)) he2,fun k hk=>?_⟩;rcases hat k hk with h1 | h1
  ·exact .inl h1
  rw[World.size_alloc] at h1;exact .inr (by omega)
 obtain⟨xa,xn,xc,hvs⟩:=hsl;obtain⟨ya,yn,yc,Yv⟩:=Ci hy2;subst hvs;subst Yv;clear hy0 hy1 hy2 hg2 hat d3 d4 d5 he2 he1 hb1 hb2 hv2 hz1 hB hl1 hs1;have YS:Hid (∀ty,(Builtin.append_ #[38,38] ty #[.slice xa xn xc,.slice (some ⟨w1.heap.size,0,none⟩) 1 1]).run Tryz.prog (w1.alloc (.cells #[.int .u8 10] 5))=.ok (.slice ya yn yc) w2):=hap;clear hap;go_wp2_with (at_builtin;refine yD _ (by rfl) _ _ 38 38 (by rfl) _ _ _ _ (by rfl) (by rfl) YS.out ?_)
 go_ret;exact⟨_,rfl,HE.out⟩
end Dk
end Go.Proofs.YtmhcfaaggkidjaaGreatDoor
end
