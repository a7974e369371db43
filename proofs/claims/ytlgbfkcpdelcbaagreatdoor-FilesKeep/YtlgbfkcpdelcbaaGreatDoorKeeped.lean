/- The law FilesKeep (the document's chapter 10) is proved for every input, in its full form, with its card: for all lists of deeds (put, taken away, told, emptied, opened again, cut off) the call returns true and its argument reads as it did; no condition. -/
import Derived.Test.YtlgbfkcpdelcbaaGreatDoorJ53
set_option linter.unusedSimpArgs false
set_option linter.unusedVariables false
set_option maxHeartbeats 8000000
set_option maxRecDepth 100000
namespace Go.Proofs.YtlgbfkcpdelcbaaGreatDoor
open Go.ChangeShapes Go.WideShapes Go.ChangeAt Go.RowKit
theorem lifted (os:Os)(started:os.Started)(H:Type)(enc:TypeId × Value→H)(F:Stop.Interp) :
  ReturnsInHanded {} Tryz.checked os 3 .any ((OpenSpec.ofChange Rows.filesKeepSpec).preRow enc Tryz.prog Tryz.f3 Rows.filesKeepRow.domain false Rows.filesKeepRow.laid) (((OpenSpec.ofChange Rows.filesKeepSpec).at F).post enc Tryz.prog Tryz.f3 false true false false):=by
 obtain⟨places,hx⟩:=reads os enc;refine returnsInHanded_of_row (C:=Tryz.checked) (s:=OpenSpec.ofChange Rows.filesKeepSpec) own started (by kernel_rfl) Tryz.func3
  (witness_row_at (enc:=enc) (C:=Tryz.checked) false ((World.laidAll Tryz.prog os jy).setCell ⟨0,0,none⟩ (.iface 245 (.agg #[.pointer (some ⟨10,38,none⟩)]))) #[.slice none 0 0] ((b0s _ _ _).trans (World.laidAll_os _ _ _)) (a2U os) (a2V os) (b0r os)
   (OpenSpec.preRow_of_cond 8 hx (by kernel_rfl) (fun k hk=>by cases hk) (by kernel_rfl) (Vz os _))) ?_
 intro W base args ds gs before hval hW _ _ _ hL hsh _;exact contract H enc W base args ds gs before hval hW hL hsh
theorem said:Rows.FilesKeepSaid:=
 OpenClaim.holds_of_cond 3 Tryz.f3 rfl rfl rfl rfl rfl rfl rfl ⟨rfl,rfl,rfl,rfl,rfl⟩ rfl rfl rfl rfl rfl Md Tryz.func3 Me Qr Qs
  (fun os started H enc _ F=>by rw[OpenClaim.pre_eq_preRow];exact lifted os started H enc F)
theorem plain (f:FuncId)(fn:Func)(hf:Tryz.pinned.checked.prog.funcNamed "saltern/salternlaw.FilesKeep"=some f)(hfn:Tryz.pinned.checked.prog.funcs[f]?=some fn) :
  true=Tryz.pinned.checked.prog.looks []∧∀(j:Nat) t,fn.params[j]?=some t→Tryz.pinned.checked.prog.wantsStandIn t=false:=by
 obtain rfl:f=3:=Option.some.inj ((show Tryz.prog.funcNamed "saltern/salternlaw.FilesKeep"=some 3 by kernel_rfl).symm.trans hf) |>.symm
 obtain rfl:fn=Tryz.f3:=(Option.some.inj (Tryz.func3.symm.trans hfn)).symm;refine⟨by kernel_rfl,fun j t ht=>?_⟩;rw[Tryz.params3] at ht;have ht2:t=22:=by
  have hm:=Array.mem_of_getElem? ht
  simpa using hm
 subst ht2;exact(show Tryz.prog.wantsStandIn 22=false by kernel_rfl)
theorem filesKeep_card:Rows.FilesKeepCardSaid:=
 Claim7.holds_tied_plain_at .later [] _ _ _ _ said (fun _ h=>by cases h) (by kernel_rfl) (fun _ h=>by cases h) filesKeep_row_tie rfl ⟨rfl,rfl⟩ (by kernel_rfl) rfl plain (by kernel_rfl)
end Go.Proofs.YtlgbfkcpdelcbaaGreatDoor
