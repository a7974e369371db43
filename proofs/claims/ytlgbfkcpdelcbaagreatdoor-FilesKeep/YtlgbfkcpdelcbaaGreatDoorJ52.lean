import Derived.LaidHandle
import Derived.Deep.DeepHandedRow
import Derived.Test.YtlgbfkcpdelcbaaGreatDoorCards
set_option linter.unusedSimpArgs false
set_option linter.unusedVariables false
set_option maxHeartbeats 8000000
set_option maxRecDepth 100000
namespace Go.Proofs.YtlgbfkcpdelcbaaGreatDoor
section
theorem Md:Tryz.pinned.checked.prog.funcNamed Rows.filesKeepRow.func=some 3:=by kernel_rfl
theorem Qr:Func.isInstance Tryz.pinned.checked.prog Tryz.f3 Rows.filesKeepRow.origin Rows.filesKeepRow.targs:=of_decide_eq_true (by kernel_rfl)
theorem Qs:Func.isWrapper Tryz.pinned.checked.prog Tryz.f3 Rows.filesKeepRow.wrapper Rows.filesKeepRow.mainSum:=by unfold Func.isWrapper;first | (rw[if_pos (by decide +kernel)];kernel_rfl) | (rw[if_neg (by decide +kernel)];exact⟨rfl,rfl⟩)
theorem Yu:Rows.filesKeepRow.wf (OpenSpec.ofChange (OpenSpec.ofChange Rows.filesKeepSpec).bare)=true:=by kernel_rfl
theorem Yv:laidOutB Tryz.pinned.checked.prog=true:=by kernel_rfl
theorem Yw:mapsRowed Tryz.pinned.checked.prog=true:=by kernel_rfl
theorem Yx:Tryz.f3.params.all (Tryz.pinned.checked.prog.readableRec ·)=true:=by kernel_rfl
theorem Yy:namedTie Tryz.pinned.checked.prog Rows.filesKeepRow.named (OpenSpec.ofChange Rows.filesKeepSpec).bare.vars=true:=by kernel_rfl
theorem Yz:(Rows.filesKeepRow.stops==[])=true:=by kernel_rfl
theorem YA:(Tryz.pinned.checked.prog.stops==[])=true:=by kernel_rfl
theorem YB:(Rows.filesKeepRow.knobs==[])=true:=by kernel_rfl
theorem YC:(Tryz.pinned.checked.prog.stopKnobs==[])=true:=by kernel_rfl
theorem YD:(Rows.filesKeepRow.inPlace==Tryz.pinned.checked.prog.inPlace 3)=true:=by kernel_rfl
theorem Va:(Rows.filesKeepRow.unfollowed==Tryz.pinned.checked.prog.unfollowed 3)=true:=by kernel_rfl
theorem Vb:(Rows.filesKeepRow.recurses==Tryz.pinned.checked.prog.recurses 3)=true:=by kernel_rfl
theorem Vd:(Rows.filesKeepRow.named==Tryz.pinned.checked.prog.varsNamed 3)=true:=by kernel_rfl
theorem Ve:(Rows.filesKeepRow.maps==(Tryz.f3.params.toList++(OpenSpec.ofChange Rows.filesKeepSpec).bare.plain.varTypes Tryz.pinned.checked.prog).any (Tryz.pinned.checked.prog.mapsRec ·))=true:=by kernel_rfl
theorem Vf:(Rows.filesKeepRow.ifaces==(Tryz.f3.params.toList++(OpenSpec.ofChange Rows.filesKeepSpec).bare.plain.varTypes Tryz.pinned.checked.prog).any (Tryz.pinned.checked.prog.ifacesRec ·))=true:=by kernel_rfl
theorem Vg:(Rows.filesKeepRow.mapsOut==Tryz.pinned.checked.prog.mapsAmong Tryz.f3.resultTypes.toList)=true:=by kernel_rfl
theorem Vh:(Rows.filesKeepRow.loops==(Tryz.f3.params.toList++(OpenSpec.ofChange Rows.filesKeepSpec).bare.plain.varTypes Tryz.pinned.checked.prog).any (Tryz.pinned.checked.prog.loopsFrom ·))=true:=by kernel_rfl
theorem Vi:(Rows.filesKeepRow.wideKeys==(Tryz.f3.params.toList++(OpenSpec.ofChange Rows.filesKeepSpec).bare.plain.varTypes Tryz.pinned.checked.prog++Tryz.f3.resultTypes.toList).any (Tryz.pinned.checked.prog.wideKeysFrom ·))=true:=by kernel_rfl
theorem Vj:(OpenSpec.ofChange Rows.filesKeepSpec).bare.vars.all (Tryz.pinned.checked.prog.varReadable ·)=true:=by kernel_rfl
theorem Vk:Tryz.f3.resultTypes.all (fun t=>Tryz.pinned.checked.prog.readableRec t&&decide (t<Tryz.pinned.checked.prog.types.size))=true:=by kernel_rfl
theorem Vm:(Rows.filesKeepRow.ifacesOut==Tryz.f3.resultTypes.toList.any (Tryz.pinned.checked.prog.ifacesRec ·))=true:=by kernel_rfl
theorem Vn:(Rows.filesKeepRow.loopsOut==Tryz.f3.resultTypes.toList.any (Tryz.pinned.checked.prog.loopsFrom ·))=true:=by kernel_rfl
theorem Vo:(Rows.filesKeepRow.plainKeys==Tryz.pinned.checked.prog.plainKeys)=true:=by kernel_rfl
theorem Vp:Rows.filesKeepRow.shortTexts.isNone=true:=by kernel_rfl
theorem Vq:Tryz.pinned.checked.prog.stopsHeard=true:=by kernel_rfl
theorem Vr:Tryz.pinned.checked.prog.mayEnter=true:=by kernel_rfl
theorem Vt:(Rows.filesKeepRow.lifted==Tryz.pinned.checked.prog.liftsFinal)=true:=by kernel_rfl
theorem Vu:(Tryz.pinned.checked.prog.make==some Rows.filesKeepRow.make)=true:=by kernel_rfl
theorem Vv:(Rows.filesKeepRow.kinds==(if Rows.filesKeepRow.domain.isEmpty then [] else Tryz.f3.params.toList.map fun t=>match Tryz.pinned.checked.prog.underlying t with | some (.int k)=>some k | _=>none))=true:=by kernel_rfl
theorem Vw:(Rows.filesKeepRow.pinned==Rows.filesKeepRow.pinnedBy)=true:=by kernel_rfl
theorem Vx:(Rows.filesKeepRow.veiled==(Tryz.f3.params.toList++(OpenSpec.ofChange Rows.filesKeepSpec).bare.plain.varTypes Tryz.pinned.checked.prog++Tryz.f3.resultTypes.toList).any (Tryz.pinned.checked.prog.veiledRec ·))=true:=by kernel_rfl
theorem Vy:Rows.filesKeepRow.veiledFits Tryz.pinned.checked.prog Tryz.f3.params.toList (Tryz.f3.params.toList++(OpenSpec.ofChange Rows.filesKeepSpec).bare.plain.varTypes Tryz.pinned.checked.prog++Tryz.f3.resultTypes.toList)=true:=by kernel_rfl
end
section
theorem iA {a b:Bool}(h1:a=true)(h2:b=true):(a&&b)=true:=by rw[h1,h2];rfl
theorem Me:joinedFacts Tryz.pinned.checked.prog 3 Tryz.f3 (OpenSpec.ofChange Rows.filesKeepSpec).bare Rows.filesKeepRow=true:=by
 unfold joinedFacts;exact iA (iA (iA (iA (iA (iA (iA (iA (iA (iA (iA (iA (iA (iA (iA (iA (iA (iA (iA (iA (iA (iA (iA (iA (iA (iA (iA (iA (iA (iA (iA (Yu) Yv) Yw) Yx) Yy) Yz) YA) YB) YC) YD) Va) Vb) Vd) Ve) Vf) Vg) Vh) Vi) Vj) Vk) Vm) Vn) Vo) Vp) Vq) Vr) Vt) Vu) Vv) Vw) Vx) Vy
end
end Go.Proofs.YtlgbfkcpdelcbaaGreatDoor
