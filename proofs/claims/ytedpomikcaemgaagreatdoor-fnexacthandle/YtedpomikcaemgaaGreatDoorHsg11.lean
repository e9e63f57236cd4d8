import Derived.Test.YtedpomikcaemgaaGreatDoorHsg01
import Derived.Test.YtedpomikcaemgaaGreatDoorCards
import Derived.JoinedOf
set_option maxRecDepth 100000
set_option maxHeartbeats 40000000
namespace Go.Proofs.YtedpomikcaemgaaGreatDoor.fnExactHandle
open Go.RowKit Go.Proofs.Tryz
open Option renaming some → Uq
theorem Qc7 {a b:Bool}(h:a=true)(k:b=true):(a && b)=true:=by rw [h,k];rfl
theorem Qql:Rows.fnExactHandleRow.wf (OpenSpec.ofChange Rows.fnExactHandleSpec)=true:=oK
theorem Qqm:laidOutB prog=true:=oK
theorem Qqn:mapsRowed prog=true:=oK
theorem Qqo:Tryz.f3.params.all (prog.readableRec ·)=true:=oK
theorem Qqp:namedTie prog Rows.fnExactHandleRow.named Rows.fnExactHandleSpec.vars=true:=oK
theorem Qqq:(Rows.fnExactHandleRow.stops==[])=true:=oK
theorem Qqr:(prog.stops==[])=true:=oK
theorem Qqs:(Rows.fnExactHandleRow.knobs==[])=true:=oK
theorem Qqt:(prog.stopKnobs==[])=true:=oK
theorem QoF:(Rows.fnExactHandleRow.inPlace==prog.inPlace 3)=true:=oK
theorem QoG:(Rows.fnExactHandleRow.unfollowed==prog.unfollowed 3)=true:=oK
theorem QoH:(Rows.fnExactHandleRow.recurses==prog.recurses 3)=true:=oK
theorem QoI:(Rows.fnExactHandleRow.named==prog.varsNamed 3)=true:=oK
theorem QoJ:(Rows.fnExactHandleRow.maps==(Tryz.f3.params.toList++Rows.fnExactHandleSpec.plain.varTypes prog).any (prog.mapsRec ·))=true:=oK
theorem QoK:(Rows.fnExactHandleRow.ifaces==(Tryz.f3.params.toList++Rows.fnExactHandleSpec.plain.varTypes prog).any (prog.ifacesRec ·))=true:=oK
theorem QoL:(Rows.fnExactHandleRow.mapsOut==prog.mapsAmong Tryz.f3.resultTypes.toList)=true:=oK
theorem QoM:(Rows.fnExactHandleRow.loops==(Tryz.f3.params.toList++Rows.fnExactHandleSpec.plain.varTypes prog).any (prog.loopsFrom ·))=true:=oK
theorem QoN:(Rows.fnExactHandleRow.wideKeys==(Tryz.f3.params.toList++Rows.fnExactHandleSpec.plain.varTypes prog++Tryz.f3.resultTypes.toList).any (prog.wideKeysFrom ·))=true:=oK
theorem QoO:Rows.fnExactHandleSpec.vars.all (prog.varReadable ·)=true:=oK
theorem QoP:Tryz.f3.resultTypes.all (fun t=>prog.readableRec t && decide (t<prog.types.size))=true:=oK
theorem QoQ:(Rows.fnExactHandleRow.ifacesOut==Tryz.f3.resultTypes.toList.any (prog.ifacesRec ·))=true:=oK
theorem QoR:(Rows.fnExactHandleRow.loopsOut==Tryz.f3.resultTypes.toList.any (prog.loopsFrom ·))=true:=oK
theorem QoS:(Rows.fnExactHandleRow.plainKeys==prog.plainKeys)=true:=oK
theorem QoT:Rows.fnExactHandleRow.shortTexts.isNone=true:=oK
theorem QoU:prog.stopsHeard=true:=oK
theorem QoV:prog.mayEnter=true:=oK
theorem QoW:(Rows.fnExactHandleRow.lifted==prog.liftsFinal)=true:=oK
theorem QoX:(prog.make==Uq Rows.fnExactHandleRow.make)=true:=oK
theorem QoY:(Rows.fnExactHandleRow.pinned==Rows.fnExactHandleRow.pinnedBy)=true:=oK
theorem QoZ:(Rows.fnExactHandleRow.veiled==(Tryz.f3.params.toList++Rows.fnExactHandleSpec.plain.varTypes prog++Tryz.f3.resultTypes.toList).any (prog.veiledRec ·))=true:=oK
theorem Qpa:Rows.fnExactHandleRow.veiledFits prog Tryz.f3.params.toList (Tryz.f3.params.toList++Rows.fnExactHandleSpec.plain.varTypes prog++Tryz.f3.resultTypes.toList)=true:=oK
theorem QoB:joinedFacts prog 3 Tryz.f3 (OpenSpec.ofChange Rows.fnExactHandleSpec).bare Rows.fnExactHandleRow=true:=
 Qc7 (Qc7 (Qc7 (Qc7 (Qc7 (Qc7 (Qc7 (Qc7 (Qc7 (Qc7 (Qc7 (Qc7 (Qc7 (Qc7 (Qc7 (Qc7 (Qc7 (Qc7 (Qc7 (Qc7 (Qc7 (Qc7 (Qc7 (Qc7 (Qc7 (Qc7 (Qc7 (Qc7 (Qc7 (Qc7 (Qc7 (Qql) Qqm) Qqn) Qqo) Qqp) Qqq) Qqr) Qqs) Qqt) QoF) QoG) QoH) QoI) QoJ) QoK) QoL) QoM) QoN) QoO) QoP) QoQ) QoR) QoS) QoT) QoU) QoV) QoW) QoX) oK) QoY) QoZ) Qpa
end Go.Proofs.YtedpomikcaemgaaGreatDoor.fnExactHandle
