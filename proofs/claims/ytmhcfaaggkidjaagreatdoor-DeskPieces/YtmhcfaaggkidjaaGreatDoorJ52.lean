import Derived.LaidHandle
import Derived.Deep.DeepHandedRow
import Derived.Test.YtmhcfaaggkidjaaGreatDoorCards
set_option linter.unusedSimpArgs false
set_option linter.unusedVariables false
section
namespace Go.Proofs.YtmhcfaaggkidjaaGreatDoor
theorem Jd:Tryz.pinned.checked.prog.funcNamed Rows.deskPiecesRow.func=some 3:=by kernel_rfl
theorem Nu:Func.isInstance Tryz.pinned.checked.prog Tryz.f3 Rows.deskPiecesRow.origin Rows.deskPiecesRow.targs:=of_decide_eq_true (by kernel_rfl)
theorem Nv:Func.isWrapper Tryz.pinned.checked.prog Tryz.f3 Rows.deskPiecesRow.wrapper Rows.deskPiecesRow.mainSum:=by unfold Func.isWrapper;first | (rw[if_pos (by decide +kernel)];kernel_rfl) | (rw[if_neg (by decide +kernel)];exact⟨rfl,rfl⟩)
theorem VI:Rows.deskPiecesRow.wf (OpenSpec.ofChange (OpenSpec.ofChange Rows.deskPiecesSpec).bare)=true:=by kernel_rfl
theorem VJ:laidOutB Tryz.pinned.checked.prog=true:=by kernel_rfl
theorem VK:mapsRowed Tryz.pinned.checked.prog=true:=by kernel_rfl
theorem VL:Tryz.f3.params.all (Tryz.pinned.checked.prog.readableRec ·)=true:=by kernel_rfl
theorem VM:namedTie Tryz.pinned.checked.prog Rows.deskPiecesRow.named (OpenSpec.ofChange Rows.deskPiecesSpec).bare.vars=true:=by kernel_rfl
theorem VN:(Rows.deskPiecesRow.stops==[])=true:=by kernel_rfl
theorem VO:(Tryz.pinned.checked.prog.stops==[])=true:=by kernel_rfl
theorem VQ:(Rows.deskPiecesRow.knobs==[])=true:=by kernel_rfl
theorem VR:(Tryz.pinned.checked.prog.stopKnobs==[])=true:=by kernel_rfl
theorem VS:(Rows.deskPiecesRow.inPlace==Tryz.pinned.checked.prog.inPlace 3)=true:=by kernel_rfl
theorem RA:(Rows.deskPiecesRow.unfollowed==Tryz.pinned.checked.prog.unfollowed 3)=true:=by kernel_rfl
theorem RB:(Rows.deskPiecesRow.recurses==Tryz.pinned.checked.prog.recurses 3)=true:=by kernel_rfl
theorem RD:(Rows.deskPiecesRow.named==Tryz.pinned.checked.prog.varsNamed 3)=true:=by kernel_rfl
theorem RF:(Rows.deskPiecesRow.maps==(Tryz.f3.params.toList++(OpenSpec.ofChange Rows.deskPiecesSpec).bare.plain.varTypes Tryz.pinned.checked.prog).any (Tryz.pinned.checked.prog.mapsRec ·))=true:=by kernel_rfl
theorem RG:(Rows.deskPiecesRow.ifaces==(Tryz.f3.params.toList++(OpenSpec.ofChange Rows.deskPiecesSpec).bare.plain.varTypes Tryz.pinned.checked.prog).any (Tryz.pinned.checked.prog.ifacesRec ·))=true:=by kernel_rfl
theorem RI:(Rows.deskPiecesRow.mapsOut==Tryz.pinned.checked.prog.mapsAmong Tryz.f3.resultTypes.toList)=true:=by kernel_rfl
theorem RJ:(Rows.deskPiecesRow.loops==(Tryz.f3.params.toList++(OpenSpec.ofChange Rows.deskPiecesSpec).bare.plain.varTypes Tryz.pinned.checked.prog).any (Tryz.pinned.checked.prog.loopsFrom ·))=true:=by kernel_rfl
theorem RN:(Rows.deskPiecesRow.wideKeys==(Tryz.f3.params.toList++(OpenSpec.ofChange Rows.deskPiecesSpec).bare.plain.varTypes Tryz.pinned.checked.prog++Tryz.f3.resultTypes.toList).any (Tryz.pinned.checked.prog.wideKeysFrom ·))=true:=by kernel_rfl
theorem RO:(OpenSpec.ofChange Rows.deskPiecesSpec).bare.vars.all (Tryz.pinned.checked.prog.varReadable ·)=true:=by kernel_rfl
theorem RP:Tryz.f3.resultTypes.all (fun t=>Tryz.pinned.checked.prog.readableRec t&&decide (t<Tryz.pinned.checked.prog.types.size))=true:=by kernel_rfl
theorem RQ:(Rows.deskPiecesRow.ifacesOut==Tryz.f3.resultTypes.toList.any (Tryz.pinned.checked.prog.ifacesRec ·))=true:=by kernel_rfl
theorem RS:(Rows.deskPiecesRow.loopsOut==Tryz.f3.resultTypes.toList.any (Tryz.pinned.checked.prog.loopsFrom ·))=true:=by kernel_rfl
theorem RU:(Rows.deskPiecesRow.plainKeys==Tryz.pinned.checked.prog.plainKeys)=true:=by kernel_rfl
theorem RV:Rows.deskPiecesRow.shortTexts.isNone=true:=by kernel_rfl
theorem RX:Tryz.pinned.checked.prog.stopsHeard=true:=by kernel_rfl
theorem RY:Tryz.pinned.checked.prog.mayEnter=true:=by kernel_rfl
theorem RZ:(Rows.deskPiecesRow.lifted==Tryz.pinned.checked.prog.liftsFinal)=true:=by kernel_rfl
theorem Sa:(Tryz.pinned.checked.prog.make==some Rows.deskPiecesRow.make)=true:=by kernel_rfl
theorem Sb:(Rows.deskPiecesRow.kinds==(if Rows.deskPiecesRow.domain.isEmpty then [] else Tryz.f3.params.toList.map fun t=>match Tryz.pinned.checked.prog.underlying t with | some (.int k)=>some k | _=>none))=true:=by kernel_rfl
theorem Sc:(Rows.deskPiecesRow.pinned==Rows.deskPiecesRow.pinnedBy)=true:=by kernel_rfl
theorem Sd:(Rows.deskPiecesRow.veiled==(Tryz.f3.params.toList++(OpenSpec.ofChange Rows.deskPiecesSpec).bare.plain.varTypes Tryz.pinned.checked.prog++Tryz.f3.resultTypes.toList).any (Tryz.pinned.checked.prog.veiledRec ·))=true:=by kernel_rfl
theorem Sg:Rows.deskPiecesRow.veiledFits Tryz.pinned.checked.prog Tryz.f3.params.toList (Tryz.f3.params.toList++(OpenSpec.ofChange Rows.deskPiecesSpec).bare.plain.varTypes Tryz.pinned.checked.prog++Tryz.f3.resultTypes.toList)=true:=by kernel_rfl
end Go.Proofs.YtmhcfaaggkidjaaGreatDoor
end
section
namespace Go.Proofs.YtmhcfaaggkidjaaGreatDoor
theorem gu {a b:Bool} (h1:a=true) (h2:b=true):(a&&b)=true:=by rw[h1,h2];rfl
set_option maxRecDepth 100000 in
theorem Je:joinedFacts Tryz.pinned.checked.prog 3 Tryz.f3 (OpenSpec.ofChange Rows.deskPiecesSpec).bare Rows.deskPiecesRow=true:=by
 unfold joinedFacts;exact gu (gu (gu (gu (gu (gu (gu (gu (gu (gu (gu (gu (gu (gu (gu (gu (gu (gu (gu (gu (gu (gu (gu (gu (gu (gu (gu (gu (gu (gu (gu (VI) VJ) VK) VL) VM) VN) VO) VQ) VR) VS) RA) RB) RD) RF) RG) RI) RJ) RN) RO) RP) RQ) RS) RU) RV) RX) RY) RZ) Sa) Sb) Sc) Sd) Sg
end Go.Proofs.YtmhcfaaggkidjaaGreatDoor
end
