import Derived.LaidHandle
import Derived.Deep.DeepHandedRow
import Derived.Test.YtmhcfaaggkidjaaGreatDoorCards
set_option linter.unusedSimpArgs false
set_option linter.unusedVariables false
section
namespace Go.Proofs.YtmhcfaaggkidjaaGreatDoor
theorem Jd:Tryz.pinned.checked.prog.funcNamed Rows.deskOldRow.func=some 4:=by kernel_rfl
theorem Nu:Func.isInstance Tryz.pinned.checked.prog Tryz.f4 Rows.deskOldRow.origin Rows.deskOldRow.targs:=of_decide_eq_true (by kernel_rfl)
theorem Nv:Func.isWrapper Tryz.pinned.checked.prog Tryz.f4 Rows.deskOldRow.wrapper Rows.deskOldRow.mainSum:=by unfold Func.isWrapper;first | (rw[if_pos (by decide +kernel)];kernel_rfl) | (rw[if_neg (by decide +kernel)];exact⟨rfl,rfl⟩)
theorem VI:Rows.deskOldRow.wf (OpenSpec.ofChange (OpenSpec.ofChange Rows.deskOldSpec).bare)=true:=by kernel_rfl
theorem VJ:laidOutB Tryz.pinned.checked.prog=true:=by kernel_rfl
theorem VK:mapsRowed Tryz.pinned.checked.prog=true:=by kernel_rfl
theorem VL:Tryz.f4.params.all (Tryz.pinned.checked.prog.readableRec ·)=true:=by kernel_rfl
theorem VM:namedTie Tryz.pinned.checked.prog Rows.deskOldRow.named (OpenSpec.ofChange Rows.deskOldSpec).bare.vars=true:=by kernel_rfl
theorem VN:(Rows.deskOldRow.stops==[])=true:=by kernel_rfl
theorem VO:(Tryz.pinned.checked.prog.stops==[])=true:=by kernel_rfl
theorem VQ:(Rows.deskOldRow.knobs==[])=true:=by kernel_rfl
theorem VR:(Tryz.pinned.checked.prog.stopKnobs==[])=true:=by kernel_rfl
theorem VS:(Rows.deskOldRow.inPlace==Tryz.pinned.checked.prog.inPlace 4)=true:=by kernel_rfl
theorem RA:(Rows.deskOldRow.unfollowed==Tryz.pinned.checked.prog.unfollowed 4)=true:=by kernel_rfl
theorem RB:(Rows.deskOldRow.recurses==Tryz.pinned.checked.prog.recurses 4)=true:=by kernel_rfl
theorem RD:(Rows.deskOldRow.named==Tryz.pinned.checked.prog.varsNamed 4)=true:=by kernel_rfl
theorem RF:(Rows.deskOldRow.maps==(Tryz.f4.params.toList++(OpenSpec.ofChange Rows.deskOldSpec).bare.plain.varTypes Tryz.pinned.checked.prog).any (Tryz.pinned.checked.prog.mapsRec ·))=true:=by kernel_rfl
theorem RG:(Rows.deskOldRow.ifaces==(Tryz.f4.params.toList++(OpenSpec.ofChange Rows.deskOldSpec).bare.plain.varTypes Tryz.pinned.checked.prog).any (Tryz.pinned.checked.prog.ifacesRec ·))=true:=by kernel_rfl
theorem RI:(Rows.deskOldRow.mapsOut==Tryz.pinned.checked.prog.mapsAmong Tryz.f4.resultTypes.toList)=true:=by kernel_rfl
theorem RJ:(Rows.deskOldRow.loops==(Tryz.f4.params.toList++(OpenSpec.ofChange Rows.deskOldSpec).bare.plain.varTypes Tryz.pinned.checked.prog).any (Tryz.pinned.checked.prog.loopsFrom ·))=true:=by kernel_rfl
theorem RN:(Rows.deskOldRow.wideKeys==(Tryz.f4.params.toList++(OpenSpec.ofChange Rows.deskOldSpec).bare.plain.varTypes Tryz.pinned.checked.prog++Tryz.f4.resultTypes.toList).any (Tryz.pinned.checked.prog.wideKeysFrom ·))=true:=by kernel_rfl
theorem RO:(OpenSpec.ofChange Rows.deskOldSpec).bare.vars.all (Tryz.pinned.checked.prog.varReadable ·)=true:=by kernel_rfl
theorem RP:Tryz.f4.resultTypes.all (fun t=>Tryz.pinned.checked.prog.readableRec t&&decide (t<Tryz.pinned.checked.prog.types.size))=true:=by kernel_rfl
theorem RQ:(Rows.deskOldRow.ifacesOut==Tryz.f4.resultTypes.toList.any (Tryz.pinned.checked.prog.ifacesRec ·))=true:=by kernel_rfl
theorem RS:(Rows.deskOldRow.loopsOut==Tryz.f4.resultTypes.toList.any (Tryz.pinned.checked.prog.loopsFrom ·))=true:=by kernel_rfl
theorem RU:(Rows.deskOldRow.plainKeys==Tryz.pinned.checked.prog.plainKeys)=true:=by kernel_rfl
theorem RV:Rows.deskOldRow.shortTexts.isNone=true:=by kernel_rfl
theorem RX:Tryz.pinned.checked.prog.stopsHeard=true:=by kernel_rfl
theorem RY:Tryz.pinned.checked.prog.mayEnter=true:=by kernel_rfl
theorem RZ:(Rows.deskOldRow.lifted==Tryz.pinned.checked.prog.liftsFinal)=true:=by kernel_rfl
theorem Sa:(Tryz.pinned.checked.prog.make==some Rows.deskOldRow.make)=true:=by kernel_rfl
theorem Sb:(Rows.deskOldRow.kinds==(if Rows.deskOldRow.domain.isEmpty then [] else Tryz.f4.params.toList.map fun t=>match Tryz.pinned.checked.prog.underlying t with | some (.int k)=>some k | _=>none))=true:=by kernel_rfl
theorem Sc:(Rows.deskOldRow.pinned==Rows.deskOldRow.pinnedBy)=true:=by kernel_rfl
theorem Sd:(Rows.deskOldRow.veiled==(Tryz.f4.params.toList++(OpenSpec.ofChange Rows.deskOldSpec).bare.plain.varTypes Tryz.pinned.checked.prog++Tryz.f4.resultTypes.toList).any (Tryz.pinned.checked.prog.veiledRec ·))=true:=by kernel_rfl
theorem Sg:Rows.deskOldRow.veiledFits Tryz.pinned.checked.prog Tryz.f4.params.toList (Tryz.f4.params.toList++(OpenSpec.ofChange Rows.deskOldSpec).bare.plain.varTypes Tryz.pinned.checked.prog++Tryz.f4.resultTypes.toList)=true:=by kernel_rfl
end Go.Proofs.YtmhcfaaggkidjaaGreatDoor
end
section
namespace Go.Proofs.YtmhcfaaggkidjaaGreatDoor
theorem gu {a b:Bool} (h1:a=true) (h2:b=true):(a&&b)=true:=by rw[h1,h2];rfl
set_option maxRecDepth 100000 in
theorem Je:joinedFacts Tryz.pinned.checked.prog 4 Tryz.f4 (OpenSpec.ofChange Rows.deskOldSpec).bare Rows.deskOldRow=true:=by
 unfold joinedFacts;exact gu (gu (gu (gu (gu (gu (gu (gu (gu (gu (gu (gu (gu (gu (gu (gu (gu (gu (gu (gu (gu (gu (gu (gu (gu (gu (gu (gu (gu (gu (gu (VI) VJ) VK) VL) VM) VN) VO) VQ) VR) VS) RA) RB) RD) RF) RG) RI) RJ) RN) RO) RP) RQ) RS) RU) RV) RX) RY) RZ) Sa) Sb) Sc) Sd) Sg
end Go.Proofs.YtmhcfaaggkidjaaGreatDoor
end
