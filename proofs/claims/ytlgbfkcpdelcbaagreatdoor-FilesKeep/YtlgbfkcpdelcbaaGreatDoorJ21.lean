
set_option linter.unusedSimpArgs false
set_option linter.unusedVariables false
set_option maxHeartbeats 8000000
set_option maxRecDepth 100000
/- Plain arithmetic: numbers by digits of 2^16,the least first. -/
namespace Go.Proofs.YtlgbfkcpdelcbaaGreatDoor
namespace Sm
def val:List Nat→Nat
 | []=>0
 | d::r=>d+65536*val r
theorem val_append (a b:List Nat):val (a++b)=val a+65536 ^ a.length*val b:=by
 induction a with
 | nil=>simp[val]
 | cons d r ih=>
  simp only[List.cons_append,val,ih,List.length_cons,Nat.pow_succ,Nat.mul_add,Nat.add_assoc];rw[Nat.mul_comm (65536 ^ r.length) 65536,Nat.mul_assoc]
theorem ow (a:List Nat)(d:Nat):val (a++[d])=val a+65536 ^ a.length*d:=by
 rw[val_append];simp[val]
theorem xy (ds:List Nat)(i:Nat)(h:i<ds.length):val (ds.take (i+1))=val (ds.take i)+65536 ^ i*ds[i]:=by
 rw[List.take_succ_eq_append_getElem h,ow,List.length_take,Nat.min_eq_left (by omega)]
theorem RU (a:List Nat)(h:∀d ∈ a,d<65536):val a<65536 ^ a.length:=by
 induction a with
 | nil=>simp[val]
 | cons d r ih=>
  have h1:=ih (fun x hx=>h x (List.mem_cons_of_mem _ hx));have h2:=h d (List.mem_cons_self ..);simp only[val,List.length_cons,Nat.pow_succ];omega
theorem RV (os ds:List Nat)(x c i:Nat)(hl:os.length=i)(hi:i<ds.length)(E:val os+65536 ^ i*c=val (ds.take i)*x) :
  val (os++[(c+ds[i]*x) % 65536])+65536 ^ (i+1)*((c+ds[i]*x) / 65536)=val (ds.take (i+1))*x:=by
 rw[ow,xy ds i hi,hl,Nat.pow_succ,Nat.add_mul,←E,Nat.mul_assoc (65536 ^ i) ds[i] x];have h:=congrArg (65536 ^ i*·) (Nat.mod_add_div (c+ds[i]*x) 65536);simp only[Nat.mul_add] at h;rw[←Nat.mul_assoc (65536 ^ i) 65536] at h;omega
theorem Oq (os:List Nat)(V c i:Nat)(hl:os.length=i)(E:val os+65536 ^ i*c=V) :
  val (os++[c % 65536])+65536 ^ (i+1)*(c / 65536)=V:=by
 rw[ow,hl,Nat.pow_succ,←E];have h:=congrArg (65536 ^ i*·) (Nat.mod_add_div c 65536);simp only[Nat.mul_add] at h;rw[←Nat.mul_assoc (65536 ^ i) 65536] at h;omega
theorem RX (c d x:Nat)(hc:c≤x)(hd:d<65536):(c+d*x) / 65536≤x:=by
 have h:d*x≤65535*x:=Nat.mul_le_mul_right x (by omega);omega
theorem Ot (c x e:Nat)(h:c*65536 ^ e≤x):(c / 65536)*65536 ^ (e+1)≤x:=by
 rw[Nat.pow_succ,Nat.mul_comm (65536 ^ e),←Nat.mul_assoc];exact Nat.le_trans (Nat.mul_le_mul_right _ (Nat.div_mul_le_self c 65536)) h
theorem WE (d x:Nat)(hd:d<65536)(hx:x≤1099511627776):d*x≤72056494526300160:=
 Nat.le_trans (Nat.mul_le_mul (Nat.le_of_lt_succ hd) hx) (by decide)
theorem IK (a b:List Nat)(i:Nat)(ha:∀d ∈ a,d<65536)(hb:∀d ∈ b,d<65536)(hl:a.length=b.length)(hi:i<a.length)(hd:a.drop (i+1)=b.drop (i+1))(hne:a[i]≠b[i]):(val b<val a)↔b[i]<a[i]:=by
 have ea:val a=val (a.take i)+65536 ^ i*a[i]+65536 ^ (i+1)*val (a.drop (i+1)):=by
  conv=>lhs;rw[←List.take_append_drop (i+1) a]
  rw[val_append,xy a i hi,List.length_take,Nat.min_eq_left (by omega)]
 have eb:val b=val (b.take i)+65536 ^ i*b[i]+65536 ^ (i+1)*val (a.drop (i+1)):=by
  conv=>lhs;rw[←List.take_append_drop (i+1) b]
  rw[val_append,xy b i (by omega),List.length_take,Nat.min_eq_left (by omega),hd]
 have la:val (a.take i)<65536 ^ i:=by
  have h:=RU (a.take i) (fun d h=>ha d (List.mem_of_mem_take h))
  rwa [List.length_take,Nat.min_eq_left (by omega)] at h
 have lb:val (b.take i)<65536 ^ i:=by
  have h:=RU (b.take i) (fun d h=>hb d (List.mem_of_mem_take h))
  rwa [List.length_take,Nat.min_eq_left (by omega)] at h
 rw[ea,eb];rcases Nat.lt_or_gt_of_ne hne with h | h
 ·have h1:65536 ^ i*(a[i]+1)≤65536 ^ i*b[i]:=Nat.mul_le_mul_left _ h;rw[Nat.mul_add,Nat.mul_one] at h1;constructor
  ·intro _;omega
  intro _;omega
 have h1:65536 ^ i*(b[i]+1)≤65536 ^ i*a[i]:=Nat.mul_le_mul_left _ h;rw[Nat.mul_add,Nat.mul_one] at h1;constructor
 ·intro _;omega
 intro _;omega
theorem DK (k N r s:Nat)(h1:r ^ k≤N)(h2:N<(r+1) ^ k)(h3:s ^ k≤N)(h4:N<(s+1) ^ k):r=s:=by
 rcases Nat.lt_trichotomy r s with h | h | h
 ·have:=Nat.pow_le_pow_left (show r+1≤s from h) k;omega
 ·exact h
 have:=Nat.pow_le_pow_left (show s+1≤r from h) k;omega
end Sm
end Go.Proofs.YtlgbfkcpdelcbaaGreatDoor
