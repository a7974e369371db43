import Derived.Test.YtmhcfaaggkidjaaGreatDoorJ40
import Derived.Test.YtmhcfaaggkidjaaGreatDoorJ42
set_option linter.unusedSimpArgs false
set_option linter.unusedVariables false
section
namespace Go.Proofs.YtmhcfaaggkidjaaGreatDoor
set_option maxRecDepth 100000
namespace Dk
open Go.RowKit
open En (Fi)
open Vl
open Fl (Fm Fv BU Off Nl bR bT bf)
theorem dR (sb:Nat) (w:World) (c13:w.cell? ⟨sb,13,none⟩=some (.pointer none)):Calls Tryz.prog 93 #[.pointer (some ⟨sb,0,none⟩)] w fun e w'=>e=thrown 8∧w'=w:=by
 go_enter Tryz.func93,Tryz.ntmps93
 go_wp2_with fail
 refine(bW 8 w).mono ?_;rintro e w' ⟨rfl,rfl⟩;exact⟨rfl,rfl,rfl⟩
theorem dS (sb fb:Nat) (w:World) (c13:w.cell? ⟨sb,13,none⟩=some (.pointer (some ⟨fb,0,none⟩))):Calls Tryz.prog 93 #[.pointer (some ⟨sb,0,none⟩)] w fun e w'=>e=.returned (.pointer (some ⟨fb,0,none⟩))∧w'=w:=by
 go_enter Tryz.func93,Tryz.ntmps93
 go_wp2_with fail
 go_ret;exact⟨rfl,rfl⟩
structure Gr (w0:World):Prop where
 tab:Sm.jW w0
 lb:En.Lb w0
 et:Et w0
abbrev qM:=Int × ByteArray
def lY:ByteArray:=⟨#[102,108,117,115,104]⟩
def nT:ByteArray:=⟨#[99,111,117,110,116]⟩
def sG:ByteArray:=⟨#[102,114,101,101]⟩
def sH:ByteArray:=⟨#[111,112,101,110]⟩
def gW (Z Z':Sn) (a:qM):Prop:=match Z.f with
 | ⟨.inr (_,_)⟩=>Z'=Z∧a=(8,⟨#[]⟩)
 | ⟨.inl (S,l)⟩=>Z'=⟨Z.ay,Z.im,.op (S.flush (aT Z.ay)).2 l⟩∧a=((S.flush (aT Z.ay)).1,told lY (S.flush (aT Z.ay)).2.T.count)
def iL (Z Z':Sn) (a:qM):Prop:=match Z.f with
 | ⟨.inr (_,_)⟩=>Z'=Z∧a=(8,⟨#[]⟩)
 | ⟨.inl (S,l)⟩=>Z'=Z∧a=(0,told nT S.T.count)
def kz (Z Z':Sn) (a:qM):Prop:=match Z.f with
 | ⟨.inr (_,_)⟩=>Z'=Z∧a=(8,⟨#[]⟩)
 | ⟨.inl (S,l)⟩=>Z'=Z∧a=(0,told sG S.free)
def Am (Z Z':Sn) (a:qM):Prop:=∃f r,dL Z.ay Z.f.D Z.f.c f r∧Z'=⟨Z.ay,Z.im,f⟩∧a=(r,told sH f.count)
def Does (w0:World) (P:Nat→Prop) (sb:Nat) (Z:Sn) (n:Int) (d:Sn→Sn→qM→Prop) (w:World) (e:Ending) (w':World):Prop:=∃Z' a,e=gV a.1 a.2∧d Z Z' a∧aG w0 w w' P sb Z' (n+30)
section
variable {w0 w w':World} {P:Nat→Prop} {sb:Nat} {Z:Sn} {n:Int}
theorem eu.fit (h:eu w0 w P sb Z n):0≤Z.f.c∧Z.f.c≤n∧Z.f.D.ws.length≤1:=by
 obtain⟨db,cb,fp,v,h1,h2⟩:=h;cases hf:Z.f using uT.cs with
 | op S l=>
  rw[hf] at h2;obtain⟨fb,vb,lv,d,_,_,_,_,h5,_⟩:=h2;exact⟨h5.c0,h5.cn,h5.ws⟩
 | no D c=>
  rw[hf] at h2;exact⟨h2.2.2.1,h2.2.2.2,h2.2.1⟩
theorem eu.nil (h:eu w0 w P sb Z n) {D:Dv} {c:Int} (hf:Z.f=.no D c):w.cell? ⟨sb,13,none⟩=some (.pointer none):=by
 obtain⟨db,cb,fp,v,h1,h2⟩:=h;rw[hf] at h2;rw[h1.cells.2.2.2.1,h2.1]
structure Op (w0 w:World) (P:Nat→Prop) (sb:Nat) (Z:Sn) (n:Int) (S:Vs) (l:List Fi) (fb vb db cb:Nat) (v lv:Value) (d:List Fv):Prop where
 WC:mf w0 w P sb db cb Z.ay Z.im (.pointer (some ⟨fb,0,none⟩)) S.D S.c v
 fm:Fm w0 w fb vb db cb (bz Z.ay) (aT Z.ay) S v lv d l
 off:Off (fun k=>k=sb) lv d
 right:En.right l=true
 ok:S.ok n
 pf:P fb∧fb≠sb
 pv:P vb∧vb≠sb
 f:Z.f=.op S l
theorem eu.op (h:eu w0 w P sb Z n) {S:Vs} {l:List Fi} (hf:Z.f=.op S l):∃fb vb db cb v lv d,Op w0 w P sb Z n S l fb vb db cb v lv d:=by
 obtain⟨db,cb,fp,v,h1,h2⟩:=h;rw[hf] at h2 h1;obtain⟨fb,vb,lv,d,rfl,h3,h4,h5,h6,h7,h8⟩:=h2;exact⟨fb,vb,db,cb,v,lv,d,h1,h3,h4,h5,h6,h7,h8,hf⟩
section
variable {S S':Vs} {l l':List Fi} {fb vb db cb:Nat} {v lv:Value} {d:List Fv}
theorem Op.c13 (h:Op w0 w P sb Z n S l fb vb db cb v lv d):w.cell? ⟨sb,13,none⟩=some (.pointer (some ⟨fb,0,none⟩)):=h.WC.cells.2.2.2.1
theorem Op.go (h:Op w0 w P sb Z n S l fb vb db cb v lv d) (hs:Since w w'):Op w0 w' P sb Z n S l fb vb db cb v lv d:=⟨h.WC.since hs,h.fm.since hs,h.off,h.right,h.ok,h.pf,h.pv,h.f⟩
theorem Op.base (h:Op w0 w P sb Z n S l fb vb db cb v lv d) (G:Gr w0):Base w0 (bz Z.ay) (aT Z.ay):=⟨G.tab,lT _ _,lT _ _⟩
theorem Op.since (h:Op w0 w P sb Z n S l fb vb db cb v lv d):Since w0 w:=h.WC.dc.since
theorem Op.to (h:Op w0 w P sb Z n S l fb vb db cb v lv d) {m:Int} (ht:BU w0 w w' fb vb db cb (bz Z.ay) (aT Z.ay) S' v lv d l') (hr:En.right l'=true) (hok:S'.ok m):aG w0 w w' P sb ⟨Z.ay,Z.im,.op S' l'⟩ m:=h.WC.fto (l:=l) rfl h.off h.pf h.pv ht hr hok
theorem Op.XW (h:Op w0 w P sb Z n S l fb vb db cb v lv d) {m:Int} (ht:bF w0 w w' vb db cb (bz Z.ay) (aT Z.ay) S' v) (hok:S'.ok m):aG w0 w w' P sb ⟨Z.ay,Z.im,.op S' l⟩ m:=by
 obtain⟨v',hF',hfs,hnx⟩:=h.fm.XW ht;exact h.to ⟨v',lv,d,hF',Fl.Nl.refl _ _ _,⟨hfs.os,hfs.tape,hfs.output,hfs.size,fun k hk hn=>hfs.block k hk (fun e=>hn (.inr e))⟩,hnx⟩ h.right hok
end
set_option maxHeartbeats 8000000 in
theorem Yd (G:Gr w0) (h:eu w0 w P sb Z n) (hn:n<800000000) (x y:Value):Calls Tryz.prog 45 #[.pointer (some ⟨sb,0,none⟩),.agg #[x,y]] w (Does w0 P sb Z n Am w):=by
 obtain⟨db,cb,fp,v,h1,h2⟩:=id h;have hs1:Since w (w.alloc (.cells #[x,y] 92)):=(Since.refl w).alloc _;have HR:Hid (Calls Tryz.prog 101 #[.pointer (some ⟨sb,0,none⟩),.string sH] (w.alloc (.cells #[x,y] 92)) fun e w'=>∃f r,e=gV r (told sH f.count)∧dL Z.ay Z.f.D Z.f.c f r∧aG w0 (w.alloc (.cells #[x,y] 92)) w' P sb ⟨Z.ay,Z.im,f⟩ (Z.f.c+1)):=sF G.tab G.lb G.et (h1.since hs1) h.fit.2.2 ⟨h.fit.1,by have:=h.fit.2.1;omega⟩ sH (by decide);have HQ:Hid (Z.f.c+1≤n+30∧Since w (w.alloc (.cells #[x,y] 92))):=⟨by have:=h.fit.2.1;omega,hs1⟩
 unfold sH at HR;clear h h1 h2 hs1 hn G;go_enter Tryz.func45,Tryz.ntmps45
 go_wp2_with fail
 refine HR.out.mono ?_;rintro e w1 ⟨f,r,he,h2,h3⟩;have HD:Hid (Does w0 P sb Z n Am w (gV r (told sH f.count)) w1):=⟨⟨Z.ay,Z.im,f⟩,(r,told sH f.count),rfl,⟨f,r,h2,rfl,rfl⟩,(aG.after HQ.out.2 h3).le HQ.out.1⟩
 unfold sH at HD;generalize told (⟨#[111,112,101,110]⟩:ByteArray) f.count=t at *;clear h2 h3;unfold gV at he HD;by_cases hr:r=0
 ·rw[if_pos hr] at he HD;subst he;go_wp2_with fail
  go_ret;exact HD.out
 rw[if_neg hr] at he HD;subst he;exact⟨rfl,HD.out⟩
end
end Dk
end Go.Proofs.YtmhcfaaggkidjaaGreatDoor
end
section
namespace Go.Proofs.YtmhcfaaggkidjaaGreatDoor
set_option maxRecDepth 100000
namespace Dk
open Go.RowKit
open En (Fi)
open Vl
open Fl (Fm Fv BU Off Nl bR bT bf)
section
variable {w0 w w':World} {P:Nat→Prop} {sb:Nat} {Z:Sn} {n:Int}
theorem eu.fails (h:eu w0 w P sb Z n) (hs:Since w w') {d:Sn→Sn→qM→Prop} {r:Int} (hr:r≠0) (hd:d Z Z (r,⟨#[]⟩)):Does w0 P sb Z n d w (thrown r) w':=⟨Z,(r,⟨#[]⟩),(if_neg hr).symm,hd,(h.stay hs).le (by omega)⟩
set_option maxHeartbeats 8000000 in
theorem UH (G:Gr w0) (h:eu w0 w P sb Z n) (hn:n<800000000) (x y:Value):Calls Tryz.prog 41 #[.pointer (some ⟨sb,0,none⟩),.agg #[x,y]] w (Does w0 P sb Z n gW w):=by
 have hs1:Since w (w.alloc (.cells #[x,y] 92)):=(Since.refl w).alloc _;have h1:=h.go hs1;cases hf:Z.f using uT.cs with
 | no D c=>
  have HO:Hid (Calls Tryz.prog 93 #[.pointer (some ⟨sb,0,none⟩)] (w.alloc (.cells #[x,y] 92)) fun e w'=>e=thrown 8∧w'=w.alloc (.cells #[x,y] 92)):=dR sb _ (h1.nil hf);have HD:Hid (Does w0 P sb Z n gW w (thrown 8) (w.alloc (.cells #[x,y] 92))):=h.fails hs1 (by decide) (by unfold gW;rw[hf];exact⟨rfl,rfl⟩);clear h h1 hs1 hn G hf;go_enter Tryz.func41,Tryz.ntmps41
  go_wp2_with fail
  refine HO.out.mono ?_;rintro e w1 ⟨rfl,rfl⟩;exact⟨rfl,HD.out⟩
 | op S l=>
  obtain⟨fb,vb,db,cb,v,lv,d,o⟩:=h1.op hf;have HO:Hid (Calls Tryz.prog 93 #[.pointer (some ⟨sb,0,none⟩)] (w.alloc (.cells #[x,y] 92)) fun e w'=>e=.returned (.pointer (some ⟨fb,0,none⟩))∧w'=w.alloc (.cells #[x,y] 92)):=dS sb fb _ o.c13;have HF:Hid (Calls Tryz.prog 24 #[.pointer (some ⟨fb,0,none⟩)] (w.alloc (.cells #[x,y] 92)) fun e w'=>e=.returned (ev (S.flush (aT Z.ay)).1)∧aG w0 w w' P sb ⟨Z.ay,Z.im,.op (S.flush (aT Z.ay)).2 l⟩ (n+1)):=(Fl.Io (o.base G) (o.ok.next (by omega)) o.ok.nc o.fm).mono (by
   rintro e w' ⟨rfl,hv⟩;exact⟨rfl,aG.after hs1 (o.XW hv (o.ok.flush _))⟩)
  have HC:Hid (0≤(S.flush (aT Z.ay)).2.T.count∧(S.flush (aT Z.ay)).2.T.count≤n+1):=by
   have h2:=o.ok.flush (aT Z.ay);have h3:=h2.cnt;exact⟨by rw[h3];exact h2.c0,by rw[h3];exact h2.cn⟩
  have HD:Hid (gW Z ⟨Z.ay,Z.im,.op (S.flush (aT Z.ay)).2 l⟩ ((S.flush (aT Z.ay)).1,told lY (S.flush (aT Z.ay)).2.T.count)):=by unfold gW;rw[hf];exact⟨rfl,rfl⟩
  have HG:Hid (Gr w0∧n<800000000):=⟨G,hn⟩
  generalize (S.flush (aT Z.ay)).1=r at *;generalize (S.flush (aT Z.ay)).2=S' at *;clear h h1 hs1 hn G hf o;go_enter Tryz.func41,Tryz.ntmps41
  go_wp2_with fail
  refine HO.out.mono ?_;rintro e w1 ⟨rfl,rfl⟩;go_wp2_with fail
  refine HF.out.mono ?_;rintro e w1 ⟨rfl,hto⟩;have H1:Hid (aG w0 w w1 P sb ⟨Z.ay,Z.im,.op S' l⟩ (n+1)):=hto;obtain⟨P',hse,_,_⟩:=hto;have HT:Hid (Calls Tryz.prog 92 #[ev r] w1 fun e w'=>e=(if r=0 then .returned (.tuple #[]) else thrown r)∧Since w1 w'):=nS r w1 (Et.go HG.out.1.et hse.gp);go_wp2_with fail
  refine HT.out.mono ?_;rintro e w2 ⟨he,hs2⟩;have H2:Hid (aG w0 w w2 P sb ⟨Z.ay,Z.im,.op S' l⟩ (n+30)):=(H1.out.go hs2).le (by omega);by_cases hr:r=0
  ·rw[if_pos hr] at he;subst he;obtain⟨fb',vb',db',cb',v',Ah,d',o'⟩:=(hse.go hs2).op (S:=S') (l:=l) rfl;have c13:=o'.c13;have HK:Hid (Calls Tryz.prog 97 #[.pointer (some ⟨fb',0,none⟩)] w2 fun e w'=>e=.returned (.int .i64 S'.T.count)∧w'=w2):=Fl.qA o'.fm;have yQ:Hid (Calls Tryz.prog 34 #[.string lY,.int .i64 S'.T.count] w2 fun e w'=>e=.returned (.string (told lY S'.T.count))∧Since w2 w'):=gP lY S'.T.count w2 (by decide) (by have h1:=HC.out.1;have h2:=HC.out.2;have h3:=HG.out.2;omega) (HG.out.1.lb.since o'.since);unfold lY at yQ;clear hse hs2 o';go_wp2_with fail
   refine HK.out.mono ?_;rintro e w3 ⟨rfl,hw3⟩;subst hw3;go_wp2_with fail
   refine yQ.out.mono ?_;rintro e w4 ⟨rfl,hs4⟩;have H4:Hid (aG w0 w w4 P sb ⟨Z.ay,Z.im,.op S' l⟩ (n+30)):=H2.out.go hs4;clear hs4;go_wp2_with fail
   go_ret;exact⟨_,_,(by unfold gV;rw[if_pos hr];rfl),HD.out,H4.out⟩
  rw[if_neg hr] at he;subst he;exact⟨rfl,_,_,(by unfold gV;rw[if_neg hr];rfl),HD.out,H2.out⟩
set_option maxHeartbeats 8000000 in
theorem UI (G:Gr w0) (h:eu w0 w P sb Z n) (hn:n<800000000) (x y:Value):Calls Tryz.prog 43 #[.pointer (some ⟨sb,0,none⟩),.agg #[x,y]] w (Does w0 P sb Z n iL w):=by
 have hs1:Since w (w.alloc (.cells #[x,y] 92)):=(Since.refl w).alloc _;have h1:=h.go hs1;cases hf:Z.f using uT.cs with
 | no D c=>
  have HO:Hid (Calls Tryz.prog 93 #[.pointer (some ⟨sb,0,none⟩)] (w.alloc (.cells #[x,y] 92)) fun e w'=>e=thrown 8∧w'=w.alloc (.cells #[x,y] 92)):=dR sb _ (h1.nil hf);have HD:Hid (Does w0 P sb Z n iL w (thrown 8) (w.alloc (.cells #[x,y] 92))):=h.fails hs1 (by decide) (by unfold iL;rw[hf];exact⟨rfl,rfl⟩);clear h h1 hs1 hn G hf;go_enter Tryz.func43,Tryz.ntmps43
  go_wp2_with fail
  refine HO.out.mono ?_;rintro e w1 ⟨rfl,rfl⟩;exact⟨rfl,HD.out⟩
 | op S l=>
  obtain⟨fb,vb,db,cb,v,lv,d,o⟩:=h1.op hf;have HO:Hid (Calls Tryz.prog 93 #[.pointer (some ⟨sb,0,none⟩)] (w.alloc (.cells #[x,y] 92)) fun e w'=>e=.returned (.pointer (some ⟨fb,0,none⟩))∧w'=w.alloc (.cells #[x,y] 92)):=dS sb fb _ o.c13;have HK:Hid (Calls Tryz.prog 97 #[.pointer (some ⟨fb,0,none⟩)] (w.alloc (.cells #[x,y] 92)) fun e w'=>e=.returned (.int .i64 S.T.count)∧Since (w.alloc (.cells #[x,y] 92)) w'):=(Fl.qA o.fm).mono (by
   rintro e w' ⟨rfl,hw⟩;exact⟨rfl,by rw[hw];exact Since.refl _⟩)
  have HD:Hid (iL Z Z (0,told nT S.T.count)):=by unfold iL;rw[hf];exact⟨rfl,rfl⟩
  have yQ:Hid (∀W,Since (w.alloc (.cells #[x,y] 92)) W→Calls Tryz.prog 34 #[.string nT,.int .i64 S.T.count] W fun e w'=>e=.returned (.string (told nT S.T.count))∧Since W w'):=fun W hW=>gP nT S.T.count W (by decide) (by have h1:=o.ok.cnt;have h2:=o.ok.c0;have h3:=o.ok.cn;omega) (G.lb.since (o.since.trans hW))
  have HS:Hid (eu w0 w P sb Z n∧Since w (w.alloc (.cells #[x,y] 92))):=⟨h,hs1⟩
  unfold nT at yQ;generalize S.T.count=k at *;clear h h1 hs1 hn G hf o;go_enter Tryz.func43,Tryz.ntmps43
  go_wp2_with fail
  refine HO.out.mono ?_;rintro e w1 ⟨rfl,rfl⟩;go_wp2_with fail
  refine HK.out.mono ?_;rintro e w1 ⟨rfl,h2⟩;have H1:Hid (Since (w.alloc (.cells #[x,y] 92)) w1):=h2;clear h2;go_wp2_with fail
  refine(yQ.out w1 H1.out).mono ?_;rintro e w4 ⟨rfl,hs4⟩;have H4:Hid (Since w w4):=HS.out.2.trans (H1.out.trans hs4);clear hs4;go_wp2_with fail
  go_ret;exact⟨Z,_,rfl,HD.out,(HS.out.1.stay H4.out).le (by omega)⟩
theorem EI (S:Vs):-9223372036854775808≤S.free∧S.free≤9223372036854775807:=by
 have:=Sp.lM S.kI 8;unfold Vs.free;omega
set_option maxHeartbeats 8000000 in
theorem Ye (G:Gr w0) (h:eu w0 w P sb Z n) (hn:n<800000000) (x y:Value):Calls Tryz.prog 44 #[.pointer (some ⟨sb,0,none⟩),.agg #[x,y]] w (Does w0 P sb Z n kz w):=by
 have hs1:Since w (w.alloc (.cells #[x,y] 92)):=(Since.refl w).alloc _;have h1:=h.go hs1;cases hf:Z.f using uT.cs with
 | no D c=>
  have HO:Hid (Calls Tryz.prog 93 #[.pointer (some ⟨sb,0,none⟩)] (w.alloc (.cells #[x,y] 92)) fun e w'=>e=thrown 8∧w'=w.alloc (.cells #[x,y] 92)):=dR sb _ (h1.nil hf);have HD:Hid (Does w0 P sb Z n kz w (thrown 8) (w.alloc (.cells #[x,y] 92))):=h.fails hs1 (by decide) (by unfold kz;rw[hf];exact⟨rfl,rfl⟩);clear h h1 hs1 hn G hf;go_enter Tryz.func44,Tryz.ntmps44
  go_wp2_with fail
  refine HO.out.mono ?_;rintro e w1 ⟨rfl,rfl⟩;exact⟨rfl,HD.out⟩
 | op S l=>
  obtain⟨fb,vb,db,cb,v,lv,d,o⟩:=h1.op hf;have HO:Hid (Calls Tryz.prog 93 #[.pointer (some ⟨sb,0,none⟩)] (w.alloc (.cells #[x,y] 92)) fun e w'=>e=.returned (.pointer (some ⟨fb,0,none⟩))∧w'=w.alloc (.cells #[x,y] 92)):=dS sb fb _ o.c13;have HK:Hid (Calls Tryz.prog 100 #[.pointer (some ⟨fb,0,none⟩)] (w.alloc (.cells #[x,y] 92)) fun e w'=>e=.returned (.int .i64 S.free)∧Since (w.alloc (.cells #[x,y] 92)) w'):=(Fl.Mj o.fm).mono (by
   rintro e w' ⟨rfl,hw⟩;exact⟨rfl,hw⟩)
  have HD:Hid (kz Z Z (0,told sG S.free)):=by unfold kz;rw[hf];exact⟨rfl,rfl⟩
  have yQ:Hid (∀W,Since (w.alloc (.cells #[x,y] 92)) W→Calls Tryz.prog 34 #[.string sG,.int .i64 S.free] W fun e w'=>e=.returned (.string (told sG S.free))∧Since W w'):=fun W hW=>gP sG S.free W (by decide) (by exact EI S) (G.lb.since (o.since.trans hW))
  have HS:Hid (eu w0 w P sb Z n∧Since w (w.alloc (.cells #[x,y] 92))):=⟨h,hs1⟩
  unfold sG at yQ;generalize S.free=k at *;clear h h1 hs1 hn G hf o;go_enter Tryz.func44,Tryz.ntmps44
  go_wp2_with fail
  refine HO.out.mono ?_;rintro e w1 ⟨rfl,rfl⟩;go_wp2_with fail
  refine HK.out.mono ?_;rintro e w1 ⟨rfl,h2⟩;have H1:Hid (Since (w.alloc (.cells #[x,y] 92)) w1):=h2;clear h2;go_wp2_with fail
  refine(yQ.out w1 H1.out).mono ?_;rintro e w4 ⟨rfl,hs4⟩;have H4:Hid (Since w w4):=HS.out.2.trans (H1.out.trans hs4);clear hs4;go_wp2_with fail
  go_ret;exact⟨Z,_,rfl,HD.out,(HS.out.1.stay H4.out).le (by omega)⟩
end
end Dk
end Go.Proofs.YtmhcfaaggkidjaaGreatDoor
end
section
namespace Go.Proofs.YtmhcfaaggkidjaaGreatDoor
set_option maxRecDepth 100000
namespace Dk
open Go.RowKit
open En (Fi)
open Vl
open Fl (Fm Fv BU Off Nl bR bT bf)
def fH:ByteArray:=⟨#[114,101,99,108,97,105,109]⟩
def dW:ByteArray:=⟨#[32]⟩
def qC (R:Int × Bool × Int):ByteArray:=told fH R.1++dW++⟨(Lib.formatBool R.2.1).toArray⟩
def di (Z Z':Sn) (a:qM):Prop:=match Z.f with
 | ⟨.inr (_,_)⟩=>Z'=Z∧a=(8,⟨#[]⟩)
 | ⟨.inl (S,l)⟩=>Z'=⟨Z.ay,Z.im,.op (S.ae (bz Z.ay) (aT Z.ay)).2 l⟩∧a=((S.ae (bz Z.ay) (aT Z.ay)).1.2.2,qC (S.ae (bz Z.ay) (aT Z.ay)).1)
theorem lN (T:Tw.Tb) (z:Int) (k:Nat):(Sp.bM T z k).length≤k:=by
 unfold Sp.bM;have:=List.length_filter_le (Sp.lies T z) (List.range k);rw[List.length_range] at this;exact this
theorem uU (S:Vs) (kb kt:ByteArray):0≤(S.ae kb kt).1.1∧(S.ae kb kt).1.1≤24:=by
 unfold Vs.ae;split
 ·exact⟨Int.le_refl _,by show (0:Int)≤24;omega⟩
 split
 ·exact⟨Int.le_refl _,by show (0:Int)≤24;omega⟩
 rename_i z hz
 dsimp only;split
 ·exact⟨Int.le_refl _,by show (0:Int)≤24;omega⟩
 split
 ·exact⟨Int.le_refl _,by show (0:Int)≤24;omega⟩
 split
 ·exact⟨Int.le_refl _,by show (0:Int)≤24;omega⟩
 have:=lN S.T z 24;exact⟨by show (0:Int)≤((Sp.bM S.T (z:Int) 24).length:Int);omega,by show ((Sp.bM S.T (z:Int) 24).length:Int)≤24;omega⟩
theorem Ao (s:ByteArray) (k:Int) (hs:s.size≤1000) (hk:-9223372036854775808≤k∧k≤9223372036854775807):(told s k).size≤1100:=by
 have h1:=Lib.itoa_length_le k hk.1 hk.2;have h2:(⟨(Lib.itoa k).toArray⟩:ByteArray).size≤21:=h1;unfold told;rw[ByteArray.size_append,ByteArray.size_append];have h3:(⟨#[32]⟩:ByteArray).size=1:=rfl;omega
section
variable {w0 w w':World} {P:Nat→Prop} {sb:Nat} {Z:Sn} {n:Int}
set_option maxHeartbeats 8000000 in
theorem Mq (G:Gr w0) (h:eu w0 w P sb Z n) (hn:n<800000000) (x y:Value):Calls Tryz.prog 42 #[.pointer (some ⟨sb,0,none⟩),.agg #[x,y]] w (Does w0 P sb Z n di w):=by
 have hs1:Since w (w.alloc (.cells #[x,y] 92)):=(Since.refl w).alloc _;have h1:=h.go hs1;cases hf:Z.f using uT.cs with
 | no D c=>
  have HO:Hid (Calls Tryz.prog 93 #[.pointer (some ⟨sb,0,none⟩)] (w.alloc (.cells #[x,y] 92)) fun e w'=>e=thrown 8∧w'=w.alloc (.cells #[x,y] 92)):=dR sb _ (h1.nil hf);have HD:Hid (Does w0 P sb Z n di w (thrown 8) (w.alloc (.cells #[x,y] 92))):=h.fails hs1 (by decide) (by unfold di;rw[hf];exact⟨rfl,rfl⟩);clear h h1 hs1 hn G hf;go_enter Tryz.func42,Tryz.ntmps42
  go_wp2_with fail
  refine HO.out.mono ?_;rintro e w1 ⟨rfl,rfl⟩;exact⟨rfl,HD.out⟩
 | op S l=>
  obtain⟨fb,vb,db,cb,v,lv,d,o⟩:=h1.op hf;have HO:Hid (Calls Tryz.prog 93 #[.pointer (some ⟨sb,0,none⟩)] (w.alloc (.cells #[x,y] 92)) fun e w'=>e=.returned (.pointer (some ⟨fb,0,none⟩))∧w'=w.alloc (.cells #[x,y] 92)):=dS sb fb _ o.c13;have HF:Hid (Calls Tryz.prog 98 #[.pointer (some ⟨fb,0,none⟩)] (w.alloc (.cells #[x,y] 92)) fun e w'=>e=.returned (.tuple #[.int .i64 (S.ae (bz Z.ay) (aT Z.ay)).1.1,.bool (S.ae (bz Z.ay) (aT Z.ay)).1.2.1,ev (S.ae (bz Z.ay) (aT Z.ay)).1.2.2])∧aG w0 w w' P sb ⟨Z.ay,Z.im,.op (S.ae (bz Z.ay) (aT Z.ay)).2 l⟩ (n+1)):=(Fl.BS (o.base G) o.ok (by omega) o.fm).mono (by
   rintro e w' ⟨rfl,hv⟩;exact⟨rfl,aG.after hs1 (o.XW hv (o.ok.ae _ _))⟩)
  have HC:Hid (0≤(S.ae (bz Z.ay) (aT Z.ay)).1.1∧(S.ae (bz Z.ay) (aT Z.ay)).1.1≤24):=uU S _ _;have HD:Hid (di Z ⟨Z.ay,Z.im,.op (S.ae (bz Z.ay) (aT Z.ay)).2 l⟩ ((S.ae (bz Z.ay) (aT Z.ay)).1.2.2,qC (S.ae (bz Z.ay) (aT Z.ay)).1)):=by unfold di;rw[hf];exact⟨rfl,rfl⟩
  have HG:Hid (Gr w0∧n<800000000):=⟨G,hn⟩
  unfold qC at HD;generalize (S.ae (bz Z.ay) (aT Z.ay)).1.2.2=r at *;generalize (S.ae (bz Z.ay) (aT Z.ay)).1.2.1=b at *;generalize (S.ae (bz Z.ay) (aT Z.ay)).1.1=m at *;generalize (S.ae (bz Z.ay) (aT Z.ay)).2=S' at *;clear h h1 hs1 hn G hf o;go_enter Tryz.func42,Tryz.ntmps42
  go_wp2_with fail
  refine HO.out.mono ?_;rintro e w1 ⟨rfl,rfl⟩;go_wp2_with fail
  refine HF.out.mono ?_;rintro e w1 ⟨rfl,hto⟩;have H1:Hid (aG w0 w w1 P sb ⟨Z.ay,Z.im,.op S' l⟩ (n+1)):=hto;obtain⟨P',hse,_,_⟩:=hto;have HT:Hid (Calls Tryz.prog 92 #[ev r] w1 fun e w'=>e=(if r=0 then .returned (.tuple #[]) else thrown r)∧Since w1 w'):=nS r w1 (Et.go HG.out.1.et hse.gp);have H0:Hid (Since w0 w1):=hse.gp;clear hse;go_wp2_with fail
  refine HT.out.mono ?_;rintro e w2 ⟨he,hs2⟩;have H2:Hid (aG w0 w w2 P sb ⟨Z.ay,Z.im,.op S' l⟩ (n+30)):=(H1.out.go hs2).le (by omega);by_cases hr:r=0
  ·rw[if_pos hr] at he;subst he;have hm:-9223372036854775808≤m∧m≤9223372036854775807:=by have h1:=HC.out.1;have h2:=HC.out.2;omega
   have yQ:Hid (Calls Tryz.prog 34 #[.string fH,.int .i64 m] w2 fun e w'=>e=.returned (.string (told fH m))∧Since w2 w'):=gP fH m w2 (by decide) hm (HG.out.1.lb.since (H0.out.trans hs2));have hz:(told fH m).size≤1100:=Ao _ _ (by decide) hm;have hz2:(⟨(Lib.formatBool b).toArray⟩:ByteArray).size≤5:=by cases b<;>decide
   have hz3:(told fH m++dW).size≤1101:=by rw[ByteArray.size_append];have h3:dW.size=1:=rfl;omega
   have Wx:Hid (∀W:World,Calls Tryz.prog 99 #[.bool b] W fun e w'=>e=.returned (.string ⟨(Lib.formatBool b).toArray⟩)∧w'=W):=fun W=>Tryz.strconv_FormatBool b W
   generalize (⟨(Lib.formatBool b).toArray⟩:ByteArray)=tb at *;generalize hq:told fH m=ta at *;unfold fH at yQ;unfold dW at hz3 HD;clear hs2 hm;go_wp2_with fail
   refine yQ.out.mono ?_;rintro e w4 ⟨rfl,hs4⟩;have H4:Hid (aG w0 w w4 P sb ⟨Z.ay,Z.im,.op S' l⟩ (n+30)):=H2.out.go hs4;clear hs4;go_wp2_with fail
   refine(Wx.out _).mono ?_;rintro e w5 ⟨rfl,hw5⟩;subst hw5;go_wp2_with fail
   go_ret;exact⟨_,_,(by unfold gV;rw[if_pos hr];rfl),HD.out,H4.out⟩
  rw[if_neg hr] at he;subst he;exact⟨rfl,_,_,(by unfold gV;rw[if_neg hr];rfl),HD.out,H2.out⟩
end
end Dk
end Go.Proofs.YtmhcfaaggkidjaaGreatDoor
end
