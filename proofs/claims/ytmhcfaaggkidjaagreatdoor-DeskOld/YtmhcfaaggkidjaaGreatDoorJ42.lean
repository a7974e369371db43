import Derived.Test.YtmhcfaaggkidjaaGreatDoorJ39
import Derived.Test.YtmhcfaaggkidjaaGreatDoorJ41
set_option linter.unusedSimpArgs false
set_option linter.unusedVariables false
namespace Go.Proofs.YtmhcfaaggkidjaaGreatDoor
set_option maxRecDepth 100000
namespace Dk
open Go.RowKit
theorem kw (w:World) (s:ByteArray):Since w (Lib.bytesWorld w 5 s):=⟨rfl,rfl,rfl,by rw[Lib.bytesWorld_size];omega,fun k hk=>Lib.bytesWorld_at_old w 5 s k hk⟩
theorem iP {a b:ByteArray} (h:¬a=b):(a.toList==b.toList)=false:=by
 rw[ByteArray.toList_eq,ByteArray.toList_eq];rw[beq_eq_false_iff_ne];exact fun e=>h (ByteArray.ext (Array.toList_inj.1 e))
def numOf (s:List UInt8):Option Int:=match Lib.parseIntB 64 s with
 | .ok v=>if Lib.itoa v=s then some v else none
 | _=>none
theorem Al {s:List UInt8} {v:Int} (h:Lib.parseIntB 64 s=.ok v):-9223372036854775808≤v∧v≤9223372036854775807:=by
 unfold Lib.parseIntB at h;cases s with
 | nil=>cases h
 | cons c r=>
  dsimp only at h;split at h
  ·cases h
  ·cases h
  rename_i u _
  split at h
  ·cases h
  rename_i h1
  split at h
  ·cases h
  rename_i h2
  injection h with h
  subst h;by_cases hn:c.toNat=45
  ·rw[if_pos hn];simp[hn] at h2;omega
  rw[if_neg hn];simp[hn] at h1;omega
theorem Mo {s:List UInt8} {v:Int} (h:numOf s=some v):-9223372036854775808≤v∧v≤9223372036854775807:=by
 unfold numOf at h;split at h
 ·rename_i u hu
  split at h
  ·injection h with h
   subst h;exact Al hu
  cases h
 cases h
def zl (s:List UInt8):Ending:=match numOf s with
 | some v=>.returned (.int .i64 v)
 | none=>thrown 3
set_option maxHeartbeats 4000000 in
theorem pY (s:ByteArray) (hs:s.size≤100000) (w:World) (hL:En.Lb w):Calls Tryz.prog 113 #[.string s] w fun e w'=>e=zl s.data.toList∧Since w w':=by
 cases hp:Lib.parseIntB 64 s.data.toList with
 | ok v=>
  obtain⟨b0,b1⟩:=Al hp;have HP:Hid (Calls Tryz.prog 165 #[.string s,.int .i64 10,.int .i64 64] w fun e w'=>e=.returned (.tuple #[.int .i64 v,.nilIface])∧Since w w'):=(Tryz.strconv_ParseInt_10_at64_ok s (by omega) v hp w).mono (by
   rintro e w' ⟨rfl,h | ⟨t,h⟩⟩
   ·subst h;exact⟨rfl,Since.refl _⟩
   subst h;exact⟨rfl,kw _ _⟩)
  have HF:Hid (∀W,Since w W→Calls Tryz.prog 166 #[.int .i64 v,.int .i64 10] W fun e w'=>e=.returned (.string ⟨(Lib.itoa v).toArray⟩)∧Since W w'):=fun W hW=>(Tryz.strconv_FormatInt_10 v b0 b1 W (hL.since hW).tab).mono (by
   rintro e w' ⟨rfl,k,os,rfl⟩;exact⟨rfl,En.qp k os⟩)
  have hE:zl s.data.toList=if Lib.itoa v=s.data.toList then .returned (.int .i64 v) else thrown 3:=by
   unfold zl numOf;rw[hp];by_cases h:Lib.itoa v=s.data.toList
   ·simp[h]
   simp[h]
  rw[hE];by_cases he:Lib.itoa v=s.data.toList
  ·rw[if_pos he];have hs':s=⟨(Lib.itoa v).toArray⟩:=by
    rw[he]
   generalize (⟨(Lib.itoa v).toArray⟩:ByteArray)=t at *;subst hs';clear he hE hp b0 b1 hL hs;go_enter Tryz.func113,Tryz.ntmps113
   go_wp2_with fail
   refine HP.out.mono ?_;rintro e w1 ⟨rfl,h1⟩;have H1:Hid (Since w w1):=h1;clear h1;go_wp2_with fail
   refine(HF.out w1 H1.out).mono ?_;rintro e w2 ⟨rfl,h2⟩;have H2:Hid (Since w w2):=H1.out.trans h2;clear h2;go_wp2_with fail
   go_ret;exact⟨rfl,H2.out⟩
  rw[if_neg he];have hne:((⟨(Lib.itoa v).toArray⟩:ByteArray).toList==s.toList)=false:=iP (fun e=>he (by rw[←e]));generalize (⟨(Lib.itoa v).toArray⟩:ByteArray)=t at *;clear he hE hp b0 b1 hL hs;go_enter Tryz.func113,Tryz.ntmps113
  go_wp2_with fail
  refine HP.out.mono ?_;rintro e w1 ⟨rfl,h1⟩;have H1:Hid (Since w w1):=h1;clear h1;go_wp2_with fail
  refine(HF.out w1 H1.out).mono ?_;rintro e w2 ⟨rfl,h2⟩;have H2:Hid (Since w w2):=H1.out.trans h2;clear h2;go_wp2_with fail
  refine(bW 3 w2).mono ?_;rintro e w3 ⟨rfl,rfl⟩;exact⟨rfl,rfl,H2.out⟩
 | «syntax»=>
  have hE:zl s.data.toList=thrown 3:=by unfold zl numOf;rw[hp]
  rw[hE];obtain⟨x,hx1,hx2⟩:=hL.syn;have HP:Hid (Calls Tryz.prog 165 #[.string s,.int .i64 10,.int .i64 64] w fun e w'=>(∃N u,e=.returned (.tuple #[.int .i64 u,.iface 304 (.pointer (some ⟨N,0,none⟩))]))∧Since w w'):=(Tryz.strconv_ParseInt_10_at64_syntax s (by omega) hp x w hx1 hx2).mono (by
   rintro e w' ⟨N,rfl,_,_,h⟩;exact⟨⟨N,_,rfl⟩,h⟩)
  clear hE hp hL hs hx1 hx2;go_enter Tryz.func113,Tryz.ntmps113
  go_wp2_with fail
  refine HP.out.mono ?_;rintro e w1 ⟨⟨N,u,rfl⟩,h1⟩;have H1:Hid (Since w w1):=h1;clear h1;go_wp2_with fail
  refine(bW 3 w1).mono ?_;rintro e w3 ⟨rfl,rfl⟩;exact⟨rfl,rfl,H1.out⟩
 | range=>
  have hE:zl s.data.toList=thrown 3:=by unfold zl numOf;rw[hp]
  rw[hE];obtain⟨x,hx1,hx2⟩:=hL.ran;have HP:Hid (Calls Tryz.prog 165 #[.string s,.int .i64 10,.int .i64 64] w fun e w'=>(∃N u,e=.returned (.tuple #[.int .i64 u,.iface 304 (.pointer (some ⟨N,0,none⟩))]))∧Since w w'):=(Tryz.strconv_ParseInt_10_at64_range s (by omega) hp x w hx1 hx2).mono (by
   rintro e w' ⟨N,rfl,_,_,h⟩;exact⟨⟨N,_,rfl⟩,h⟩)
  clear hE hp hL hs hx1 hx2;go_enter Tryz.func113,Tryz.ntmps113
  go_wp2_with fail
  refine HP.out.mono ?_;rintro e w1 ⟨⟨N,u,rfl⟩,h1⟩;have H1:Hid (Since w w1):=h1;clear h1;go_wp2_with fail
  refine(bW 3 w1).mono ?_;rintro e w3 ⟨rfl,rfl⟩;exact⟨rfl,rfl,H1.out⟩
end Dk
end Go.Proofs.YtmhcfaaggkidjaaGreatDoor
