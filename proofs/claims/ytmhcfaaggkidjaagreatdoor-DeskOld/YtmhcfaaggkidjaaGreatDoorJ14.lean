import Derived.Lib.ConvBytes
import Derived.Test.YtmhcfaaggkidjaaGreatDoorJ03
set_option linter.unusedSimpArgs false
set_option linter.unusedVariables false
section
namespace Go.Proofs.YtmhcfaaggkidjaaGreatDoor
open Go.RowKit
def Dv.may (D:Dv):Bool:=!D.fused||decide (D.left≠0)
def Dv.au (D:Dv):Dv:=if D.fused then { D with left:=D.left-1 } else D
theorem Ox (D:Dv) (v:Value) (b:Nat) (w:World) (hd:Dev w b D v) (hf:D.fused=false) :
  Calls Tryz.prog 185 #[.pointer (some ⟨b,0,none⟩)] w fun e w'=>e=.returned (.bool true)∧w'=w:=by
 have c1:=hd.bL.cell 17401 (by omega);rw[iO,hf] at c1;go_enter Tryz.func185,Tryz.ntmps185
 go_wp2_with fail
 go_ret;exact⟨rfl,rfl⟩
theorem Tp (D:Dv) (v:Value) (b:Nat) (w:World) (hd:Dev w b D v) (hf:D.fused=true) (hl:D.left=0) :
  Calls Tryz.prog 185 #[.pointer (some ⟨b,0,none⟩)] w fun e w'=>e=.returned (.bool false)∧w'=w:=by
 have c1:=hd.bL.cell 17401 (by omega);rw[iO,hf] at c1;have c2:=hd.bL.cell 17402 (by omega);rw[jE,hl] at c2;go_enter Tryz.func185,Tryz.ntmps185
 go_wp2_with fail
 go_ret;exact⟨rfl,rfl⟩
theorem Oy (D:Dv) (v:Value) (b:Nat) (w:World) (hd:Dev w b D v) (hf:D.fused=true) (hl:D.left≠0) :
  Calls Tryz.prog 185 #[.pointer (some ⟨b,0,none⟩)] w fun e w'=>e=.returned (.bool true)∧w'=w.setCell ⟨b,17402,none⟩ (.int .i64 (D.left-1)):=by
 have c1:=hd.bL.cell 17401 (by omega);rw[iO,hf] at c1;have c2:=hd.bL.cell 17402 (by omega);rw[jE] at c2;have f2:=hd.bL.frozen 17402 (by omega);have hl0:=hd.ok.left;clear hd;obtain⟨h0,h1⟩:=hl0;go_enter Tryz.func185,Tryz.ntmps185
 go_wp2_with fail
 go_ret;exact⟨rfl,rfl⟩
theorem KH (D:Dv) (v:Value) (b:Nat) (w:World) (hd:Dev w b D v) (hf:D.fused=true) (hl:D.left≠0):Dev (w.setCell ⟨b,17402,none⟩ (.int .i64 (D.left-1))) b D.au v:=by
 have hl0:=hd.ok.left;refine hd.turn ((hd.bL.set 17402 (by omega) _).congr (fun j hj=>?_)) (Fr.setCell _ _ _ _ _) (by simp[Dv.au,hf]) ?_
 ·unfold aZ Dv.au;rw[if_pos hf];by_cases e:j=17402
  ·subst e;rw[if_pos rfl,jE]
  rw[if_neg e];unfold cu;have h3:j<16400∨(¬j<16400∧j<17400)∨j=17400∨j=17401:=by omega
  rcases h3 with h | ⟨h,h'⟩ | rfl | rfl
  ·rw[if_pos h,if_pos h]
  ·rw[if_neg h,if_neg h,if_pos h',if_pos h']
  ·rfl
  rfl
 have:=hd.ok;unfold Dv.au;rw[if_pos hf];exact⟨this.cnt,this.sure,this.zero,by show 0≤D.left-1∧D.left-1≤_;omega,this.ws,this.few⟩
theorem iQ (D:Dv) (v:Value) (b:Nat) (w:World) (hd:Dev w b D v) :
  Calls Tryz.prog 185 #[.pointer (some ⟨b,0,none⟩)] w fun e w'=>e=.returned (.bool D.may)∧(D.may=false→w'=w)∧(D.may=true→Dev w' b D.au v∧Fr b none w w'):=by
 by_cases hf:D.fused=true
 ·by_cases hl:D.left=0
  ·refine(Tp D v b w hd hf hl).mono ?_;rintro e w' ⟨rfl,rfl⟩;have hm:D.may=false:=by simp[Dv.may,hf,hl]
   exact⟨by rw[hm],fun _=>rfl,fun h=>by rw[hm] at h;cases h⟩
  refine(Oy D v b w hd hf hl).mono ?_;rintro e w' ⟨rfl,rfl⟩;have hm:D.may=true:=by simp[Dv.may,hf,hl]
  exact⟨by rw[hm],(fun h=>by rw[hm] at h;cases h),fun _=>⟨KH D v b w hd hf hl,Fr.setCell _ _ _ _ _⟩⟩
 have hf':D.fused=false:=by simpa using hf
 refine(Ox D v b w hd hf').mono ?_;rintro e w' ⟨rfl,rfl⟩;have hm:D.may=true:=by simp[Dv.may,hf']
 exact⟨by rw[hm],fun _=>rfl,fun _=>⟨by unfold Dv.au;rw[if_neg hf];exact hd,Fr.refl _ _ _⟩⟩
theorem a2o (b:Nat) (z:Int) (w:World) (hz:¬(0≤z∧z<8)) :
  Calls Tryz.prog 256 #[.pointer (some ⟨b,0,none⟩),.int .i64 z] w fun e w'=>e=.returned (.tuple #[.int .i64 0,.iface 32 (.int .i64 2)])∧w'=w:=by
 have hh:(decide (0≤z)&&decide (z<8))=false:=by simp;omega
 go_enter Tryz.func256,Tryz.ntmps256
 go_wp2_with fail
 refine(aW _ _).mono ?_;rintro e w' ⟨rfl,rfl⟩;go_wp2_with fail
 refine(bN _ _).mono ?_;rintro e w' ⟨rfl,rfl⟩;rw[hh];go_wp2_with fail
 go_ret2;exact⟨rfl,rfl⟩
theorem wT (D:Dv) (v:Value) (b z:Nat) (w:World) (hd:Dev w b D v) (hz:z<8) :
  Calls Tryz.prog 256 #[.pointer (some ⟨b,0,none⟩),.int .i64 z] w fun e w'=>e=.returned (.tuple #[.int .i64 (D.cnt z),.nilIface])∧w'=w:=by
 have hh:(decide (0≤(z:Int))&&decide ((z:Int)<8))=true:=by simp;omega
 have c1:=hd.bL.cell (z*2050+2048) (by omega);rw[dZ D v z hz] at c1;go_enter Tryz.func256,Tryz.ntmps256
 go_wp2_with fail
 refine(aW _ _).mono ?_;rintro e w' ⟨rfl,rfl⟩;go_wp2_with fail
 refine(bN _ _).mono ?_;rintro e w' ⟨rfl,rfl⟩;rw[hh];have hz2:(z:Int)<8:=by omega
 go_wp2_with fail
 go_ret2;exact⟨rfl,rfl⟩
theorem Oz (b:Nat) (z k:Int) (w:World) (hz:¬(0≤z∧z<8)) :
  Calls Tryz.prog 277 #[.pointer (some ⟨b,0,none⟩),.int .i64 z,.int .i64 k] w fun e w'=>e=.returned (.tuple #[.string ⟨#[]⟩,.iface 32 (.int .i64 2)])∧w'=w:=by
 have hh:(decide (0≤z)&&decide (z<8))=false:=by simp;omega
 go_enter Tryz.func277,Tryz.ntmps277
 go_wp2_with fail
 refine(aW _ _).mono ?_;rintro e w' ⟨rfl,rfl⟩;go_wp2_with fail
 refine(bN _ _).mono ?_;rintro e w' ⟨rfl,rfl⟩;rw[hh];go_wp2_with fail
 go_ret2;exact⟨rfl,rfl⟩
theorem KI (D:Dv) (v:Value) (b z:Nat) (k:Int) (w:World) (hd:Dev w b D v) (hz:z<8) (hk:¬(0≤k∧k<D.cnt z)) :
  Calls Tryz.prog 277 #[.pointer (some ⟨b,0,none⟩),.int .i64 z,.int .i64 k] w fun e w'=>e=.returned (.tuple #[.string ⟨#[]⟩,.iface 32 (.int .i64 7)])∧w'=w:=by
 have hh:(decide (0≤(z:Int))&&decide ((z:Int)<8))=true:=by simp;omega
 have c1:=hd.bL.cell (z*2050+2048) (by omega);rw[dZ D v z hz] at c1;have hz2:(z:Int)<8:=by omega
 by_cases hk0:k<0
 ·go_enter Tryz.func277,Tryz.ntmps277
  go_wp2_with fail
  refine(aW _ _).mono ?_;rintro e w' ⟨rfl,rfl⟩;go_wp2_with fail
  refine(bN _ _).mono ?_;rintro e w' ⟨rfl,rfl⟩;rw[hh];go_wp2_with fail
  go_ret2;exact⟨rfl,rfl⟩
 have hk1:((D.cnt z:Nat):Int)≤k:=by omega
 go_enter Tryz.func277,Tryz.ntmps277
 go_wp2_with fail
 refine(aW _ _).mono ?_;rintro e w' ⟨rfl,rfl⟩;go_wp2_with fail
 refine(bN _ _).mono ?_;rintro e w' ⟨rfl,rfl⟩;rw[hh];go_wp2_with fail
 go_ret2;exact⟨rfl,rfl⟩
theorem dH (w:World) (b o n cap:Nat) (f:Nat→UInt8) (hb:∀i,i<n→w.cell? ⟨b,o+i,none⟩=some (bv (f i))) :
  (convert 38 9 (.slice (some ⟨b,o,none⟩) n cap)).run Tryz.prog w=.ok (.string (txt n f)) w:=by
 have h:=run_convert_bytes_arg (P:=Tryz.prog) w 38 5 Tryz.underlying38 Tryz.underlying5 b o n cap ((List.range n).map fun i=>((f i).toNat:Int)) (by simp) (fun i hi=>by
  have hi':i<n:=by simpa using hi
  rw[hb i hi'];simp[bv,hi']) 9 Tryz.underlying9
 rw[h];have e:strOfNums ((List.range n).map fun i=>((f i).toNat:Int))=txt n f:=by
  unfold txt strOfNums;simp
 rw[e]
set_option maxRecDepth 100000 in
theorem jK (D:Dv) (v:Value) (b z k:Nat) (w:World) (hd:Dev w b D v) (hz:z<8) (hk:k<D.cnt z) :
  Calls Tryz.prog 277 #[.pointer (some ⟨b,0,none⟩),.int .i64 z,.int .i64 k] w fun e w'=>e=.returned (.tuple #[.string (txt 128 (D.blk z k)),.nilIface])∧w'=w:=by
 have hh:(decide (0≤(z:Int))&&decide ((z:Int)<8))=true:=by simp;omega
 have hc16:=hd.ok.cnt z hz;have c1:=hd.bL.cell (z*2050+2048) (by omega);rw[dZ D v z hz] at c1;have hz2:(z:Int)<8:=by omega
 have hk2:(k:Int)<D.cnt z:=by omega
 have hk3:(k:Int)<16:=by omega
 have hcv:=dH w b (z*2050+k*128) 128 128 (D.blk z k) (fun i hi=>by rw[hd.bL.cell _ (by omega),zA D v z k i hz (by omega) hi]);go_enter Tryz.func277,Tryz.ntmps277
 go_wp2_with fail
 refine(aW _ _).mono ?_;rintro e w' ⟨rfl,rfl⟩;go_wp2_with fail
 refine(bN _ _).mono ?_;rintro e w' ⟨rfl,rfl⟩;rw[hh];go_wp2_with fail
 go_ret2;exact⟨rfl,rfl⟩
end Go.Proofs.YtmhcfaaggkidjaaGreatDoor
end
section
namespace Go.Proofs.YtmhcfaaggkidjaaGreatDoor
open Go.RowKit
theorem mP (s:ByteArray) (n:Nat) (hn:n≤s.size):(s.data.toList.map fun b=>Value.int .u8 (b.toNat:Int)).take n=aa n (fun i=>bv (sb s i)):=by
 have hsz:s.data.size=s.size:=rfl;apply qO
 ·simp;omega
 intro j hj;rw[List.getElem?_take_of_lt hj,List.getElem?_map,Array.getElem?_toList,Array.getElem?_eq_getElem (by omega)];unfold bv sb;rw[Array.getElem?_eq_getElem (by omega)]
 rfl
theorem fE (w:World) (ty b o m cap n:Nat) (f:Nat→Value) (s:ByteArray) (hc:ak w b n f) (hm:o+m≤n) :
  (Builtin.copy_ #[38,9] ty #[.slice (some ⟨b,o,none⟩) m cap,.string s]).run Tryz.prog w=.ok (.int .i64 ((min s.size m:Nat):Int)) (w.setCells b o (aa (min s.size m) (fun i=>bv (sb s i)))):=by
 have hst:=hc.store Tryz.prog o (min s.size m) (by omega) (fun i=>bv (sb s i)) (fun _ _=>rfl);have Sj:=mP s (min s.size m) (Nat.min_le_left _ _);have hz:(Go.sizeOf 5).run Tryz.prog w=.ok 1 w:=Tryz.sizeOf5 w;have hmin:s.size.min m=min s.size m:=rfl;simp[Builtin.copy_,run_underlying Tryz.underlying38,Builtin.lenOf,Builtin.firstCells,hz];rw[hmin,Sj,hst]
 rfl
set_option maxRecDepth 100000 in
theorem Bg (b o c n:Nat) (f:Nat→Value) (s:ByteArray) (w:World) (hc:ak w b n f) (hn:o+2050≤n) (hcnt:f (o+2048)=.int .i64 c) (hc16:c<16) :
  Calls Tryz.prog 259 #[.pointer (some ⟨b,o,none⟩),.string s] w fun e w'=>e=.returned (.tuple #[])∧w'=(w.drew.setCells b (o+c*128) (aa (min s.size 128) (fun i=>bv (sb s i)))).setCell ⟨b,o+2048,none⟩ (.int .i64 (c+1)):=by
 have c1:=hc.cell (o+2048) (by omega);rw[hcnt] at c1;have hc2:(c:Int)<16:=by omega
 have hcd:ak w.drew b n f:=hc.since (Since.refl w).drew;have hcp:=fE w.drew 3 b (o+c*128) 128 128 n f s hcd (by omega);have c2:(w.drew.setCells b (o+c*128) (aa (min s.size 128) (fun i=>bv (sb s i)))).cell? ⟨b,o+2048,none⟩=some (.int .i64 c):=by
  rw[World.cell?_setCells_out b _ _ _ _ (fun _ _=>by rw[ag];show o+2048<_∨_≤o+2048;omega)];rw[hcd.cell _ (by omega),hcnt]
 have f2:(w.drew.setCells b (o+c*128) (aa (min s.size 128) (fun i=>bv (sb s i)))).frozen? ⟨b,o+2048,none⟩=false:=by
  rw[World.frozen?_setCells];exact hcd.frozen _ (by omega)
 go_enter Tryz.func259,Tryz.ntmps259
 go_wp2_with fail
 go_region
 generalize hw2:w.drew.setCells b (o+c*128) (aa (min s.size 128) (fun i=>bv (sb s i)))=w2 at *;go_wp2_with fail
 go_end0
 exact⟨rfl,by rw[hw2]⟩
def Dv.app (D:Dv) (z:Nat) (s:ByteArray):Dv:=
 { D with blk:=fun z' k i=>if z'=z∧k=D.cnt z then sb s i else D.blk z' k i,cnt:=fun z'=>if z'=z then D.cnt z+1 else D.cnt z' }
theorem nY (s:ByteArray) (i:Nat) (h:s.size≤i):sb s i=0:=by
 have hsz:s.data.size=s.size:=rfl;unfold sb;rw[Array.getElem?_eq_none (by omega)]
 rfl
theorem tC (blk:Nat→Nat→UInt8) (c sr:Nat) (s:ByteArray) (hc:c<16) (hz:∀i,i<128→blk c i=0) (j:Nat) (hj:j<2050) :
  aZ (dF (aD blk c sr) (c*128) (min s.size 128) (fun i=>bv (sb s i))) 2048 (.int .i64 (c+1)) j=aD (fun k i=>if k=c then sb s i else blk k i) (c+1) sr j:=by
 unfold aZ dF;by_cases h0:j=2048
 ·subst h0;rw[if_pos rfl];unfold aD;rw[if_neg (by omega),if_pos rfl]
  rfl
 rw[if_neg h0];by_cases h1:c*128≤j∧j<c*128+min s.size 128
 ·rw[if_pos h1];unfold aD;dsimp only;rw[if_pos (by omega),if_pos (by omega),show j % 128=j-c*128 by omega]
 rw[if_neg h1];unfold aD;by_cases h2:j<2048
 ·rw[if_pos h2,if_pos h2];dsimp only;by_cases h3:j / 128=c
  ·rw[if_pos h3,h3,hz _ (by omega),nY s _ (by omega)]
  rw[if_neg h3]
 rw[if_neg h2,if_neg h2,if_neg h0,if_neg h0]
theorem Xf (D:Dv) (z:Nat) (s:ByteArray) (h:D.ok) (hz:z<8) (hc:D.cnt z<16):(D.app z s).ok where
 cnt z' hz':=by
      show (if z'=z then _ else _)≤16
      split
      ·omega
      exact h.cnt z' hz'
 sure z' hz':=by
  show D.sure z'≤(if z'=z then _ else _)
  have:=h.sure z' hz';split
  ·rename_i e;subst e;omega
  exact this
 zero z' k i hz' hk hk2 hi:=by
  show (if z'=z∧k=D.cnt z then _ else _)=_
  have hk':(if z'=z then D.cnt z+1 else D.cnt z')≤k:=hk;rw[if_neg]
  ·refine h.zero z' k i hz' ?_ hk2 hi;by_cases e:z'=z
   ·rw[if_pos e] at hk';subst e;omega
   rw[if_neg e] at hk';exact hk'
  rintro ⟨e1,e2⟩;rw[if_pos e1] at hk';omega
 left:=h.left
 ws:=h.ws
 few:=h.few
theorem lK (D:Dv) (v:Value) (z j:Nat) (hz:z<8) (hj:j<2050):cu D v (z*2050+j)=aD (D.blk z) (D.cnt z) (D.sure z) j:=by
 unfold cu;rw[if_pos (by omega),show (z*2050+j) / 2050=z by omega,show (z*2050+j) % 2050=j by omega]
theorem jL (D D':Dv) (v:Value) (z:Nat) (hz:z<8) (f:Nat→Value) (hin:∀j,j<2050→f (z*2050+j)=aD (D'.blk z) (D'.cnt z) (D'.sure z) j)
  (hout:∀j,¬(z*2050≤j∧j<z*2050+2050)→f j=cu D v j) (hb:∀z',z'≠z→D'.blk z'=D.blk z') (hc:∀z',z'≠z→D'.cnt z'=D.cnt z') (hs:∀z',z'≠z→D'.sure z'=D.sure z')
  (hl:D'.slot=D.slot) (hf:D'.fused=D.fused) (hle:D'.left=D.left) (j:Nat):f j=cu D' v j:=by
 by_cases h:z*2050≤j∧j<z*2050+2050
 ·have h1:=hin (j-z*2050) (by omega);rw[show z*2050+(j-z*2050)=j by omega] at h1;rw[h1];have h2:=lK D' v z (j-z*2050) hz (by omega);rw[show z*2050+(j-z*2050)=j by omega] at h2;rw[h2]
 rw[hout j h];unfold cu;by_cases h2:j<16400
 ·have hne:j / 2050≠z:=by omega
  rw[if_pos h2,if_pos h2,hb _ hne,hc _ hne,hs _ hne]
 rw[if_neg h2,if_neg h2,hl,hf,hle]
set_option maxRecDepth 100000 in
theorem Tq (D:Dv) (v:Value) (b z:Nat) (s:ByteArray) (w:World) (hd:Dev w b D v) (hz:z<8) (hc:D.cnt z<16) :
  Dev ((w.drew.setCells b (z*2050+D.cnt z*128) (aa (min s.size 128) (fun i=>bv (sb s i)))).setCell ⟨b,z*2050+2048,none⟩ (.int .i64 (D.cnt z+1))) b (D.app z s) v:=by
 have hcd:ak w.drew b 17403 (cu D v):=hd.bL.since (Since.refl w).drew;refine hd.turn (((hcd.setRow (z*2050+D.cnt z*128) (min s.size 128) (by omega) _).set (z*2050+2048) (by omega) _).congr (fun j hj=>?_)) ?_ rfl (Xf D z s hd.ok hz hc)
 ·refine jL D (D.app z s) v z hz _ (fun j hj=>?_) (fun j hj=>?_) (fun z' h=>?_) (fun z' h=>?_) (fun z' h=>rfl) rfl rfl rfl j
  ·have e:=tC (D.blk z) (D.cnt z) (D.sure z) s hc (fun i hi=>hd.ok.zero z _ i hz (Nat.le_refl _) hc hi) j hj;have e2:(D.app z s).blk z=fun k i=>if k=D.cnt z then sb s i else D.blk z k i:=by funext k i;simp[Dv.app]
   have e3:(D.app z s).cnt z=D.cnt z+1:=by simp[Dv.app]
   rw[e2,e3,show (D.app z s).sure z=D.sure z from rfl,←e];unfold aZ dF;by_cases h0:j=2048
   ·rw[if_pos (by omega),if_pos h0]
   rw[if_neg (by omega),if_neg h0];by_cases h1:D.cnt z*128≤j∧j<D.cnt z*128+min s.size 128
   ·rw[if_pos (by omega),if_pos h1,show z*2050+j-(z*2050+D.cnt z*128)=j-D.cnt z*128 by omega]
   rw[if_neg (by omega),if_neg h1,lK D v z j hz hj]
  ·unfold aZ dF;rw[if_neg (by omega),if_neg (by omega)]
  ·funext k i;simp[Dv.app,h]
  simp[Dv.app,h]
 exact((Fr.ah (Since.refl w).drew).trans' (Fr.setCells _ _ _ _ _)).trans' (Fr.setCell _ _ _ _ _)
theorem Xg (b:Nat) (g:Option Nat) (o o':Nat) (vs:List Value) (x:Value) (w:World):Fr b g w ((w.drew.setCells b o vs).setCell ⟨b,o',none⟩ x):=
 ((Fr.ah (Since.refl w).drew).trans' (Fr.setCells _ _ _ _ _)).trans' (Fr.setCell _ _ _ _ _)
end Go.Proofs.YtmhcfaaggkidjaaGreatDoor
end
section
namespace Go.Proofs.YtmhcfaaggkidjaaGreatDoor
open Go.RowKit
def ev (e:Int):Value:=if e=0 then .nilIface else .iface 32 (.int .i64 e)
theorem qW {z:Nat} (h:z<8):(decide (0≤(z:Int))&&decide ((z:Int)<8))=true:=by simp;omega
theorem Bh {z:Nat} (h:z<2):(decide (0≤(z:Int))&&decide ((z:Int)<2))=true:=by simp;omega
theorem Wn (D:Dv) (v:Value) (b z:Nat) (s:ByteArray) (w:World) (hd:Dev w b D v) (hz:z<8) (hs:s.size≤128) (hc:D.cnt z=16) :
  Calls Tryz.prog 230 #[.pointer (some ⟨b,0,none⟩),.int .i64 z,.string s] w fun e w'=>e=.returned (.tuple #[.int .i64 0,.iface 32 (.int .i64 12)])∧w'=w:=by
 have hh:=qW hz;have c1:=hd.bL.cell (z*2050+2048) (by omega);rw[dZ D v z hz,hc] at c1;have hz2:(z:Int)<8:=by omega
 go_enter Tryz.func230,Tryz.ntmps230
 go_wp2_with fail
 refine(aW _ _).mono ?_;rintro e w' ⟨rfl,rfl⟩;go_wp2_with fail
 refine(bN _ _).mono ?_;rintro e w' ⟨rfl,rfl⟩;rw[hh];go_wp2_with fail
 go_ret2;exact⟨rfl,rfl⟩
theorem Bi (D:Dv) (v:Value) (b z:Nat) (s:ByteArray) (w:World) (hd:Dev w b D v) (hz:z<8) (hs:s.size≤128) (hc:D.cnt z<16) (hm:D.may=false) :
  Calls Tryz.prog 230 #[.pointer (some ⟨b,0,none⟩),.int .i64 z,.string s] w fun e w'=>e=.returned (.tuple #[.int .i64 0,.iface 32 (.int .i64 14)])∧w'=w:=by
 have hh:=qW hz;have c1:=hd.bL.cell (z*2050+2048) (by omega);rw[dZ D v z hz] at c1;have hz2:(z:Int)<8:=by omega
 have hc2:¬((D.cnt z:Nat):Int)=16:=by omega
 go_enter Tryz.func230,Tryz.ntmps230
 go_wp2_with fail
 refine(aW _ _).mono ?_;rintro e w' ⟨rfl,rfl⟩;go_wp2_with fail
 refine(bN _ _).mono ?_;rintro e w' ⟨rfl,rfl⟩;rw[hh];go_wp2_with fail
 refine(iQ D v b _ hd).mono ?_;rintro e w1 ⟨rfl,h1,_⟩;obtain rfl:=h1 hm;rw[hm];go_wp2_with fail
 go_ret2;exact⟨rfl,rfl⟩
theorem bK (D:Dv):D.au.cnt=D.cnt:=by unfold Dv.au;split<;>rfl
set_option maxRecDepth 100000 in
theorem Gi (D:Dv) (v:Value) (b z:Nat) (s:ByteArray) (w:World) (hd:Dev w b D v) (hz:z<8) (hs:s.size≤128) (hc:D.cnt z<16) (hm:D.may=true) :
  Calls Tryz.prog 230 #[.pointer (some ⟨b,0,none⟩),.int .i64 z,.string s] w fun e w'=>e=.returned (.tuple #[.int .i64 (D.cnt z),.nilIface])∧Dev w' b (D.au.app z s) v∧Fr b none w w':=by
 have hh:=qW hz;have c1:=hd.bL.cell (z*2050+2048) (by omega);rw[dZ D v z hz] at c1;have hz2:(z:Int)<8:=by omega
 have hc2:¬((D.cnt z:Nat):Int)=16:=by omega
 have HD:=(show Hid (Dev w b D v) from hd)
 clear hd;go_enter Tryz.func230,Tryz.ntmps230
 go_wp2_with fail
 refine(aW _ _).mono ?_;rintro e w' ⟨rfl,rfl⟩;go_wp2_with fail
 refine(bN _ _).mono ?_;rintro e w' ⟨rfl,rfl⟩;rw[hh];go_wp2_with fail
 refine(iQ D v b _ HD.out).mono ?_;rintro e w1 ⟨rfl,_,h1⟩;obtain⟨hd1,hf1⟩:=h1 hm;rw[hm];have hcb:=bK D;go_wp2_with fail
 refine(Bg b (z*2050) (D.cnt z) 17403 _ s _ hd1.bL (by omega) (by rw[dZ _ v z hz,hcb]) hc).mono ?_;rintro e w2 ⟨rfl,hw2⟩;have hd2:Dev w2 b (D.au.app z s) v:=by
  have:=Tq D.au v b z s w1 hd1 hz (by rw[hcb];exact hc);rw[hcb] at this;rw[hw2];exact this
 have hf2:Fr b none w1 w2:=by rw[hw2];exact Xg _ _ _ _ _ _ _
 have c2:w2.cell? ⟨b,z*2050+2048,none⟩=some (.int .i64 ((D.cnt z:Nat)+1:Int)):=by
  rw[hd2.bL.cell (z*2050+2048) (by omega),dZ _ v z hz];simp[Dv.app,hcb]
 have HF:=(show Hid (Fr b none w' w2) from hf1.trans' hf2)
 have HD2:=(show Hid _ from hd2)
 clear hw2 hd2 hf1 hf2 hd1 h1 hcb;go_wp2_with fail
 go_ret2;exact⟨by simp,HD2.out,HF.out⟩
end Go.Proofs.YtmhcfaaggkidjaaGreatDoor
end
