import Derived.Test.YtiagfejlmafliaaGreatDoorRows
import Derived.JoinedOf
namespace Go.Proofs.YtiagfejlmafliaaGreatDoor
set_option maxRecDepth 100000
set_option maxHeartbeats 16000000
set_option linter.unusedVariables false
theorem iJ {a b:Bool}(h:a=true) (k:b=true):(a && b)=true:=by rw[h,k];rfl
theorem jf0:(Rows.fnExactRunRow.wf (OpenSpec.ofChange Rows.fnExactRunSpec))=true:=by kernel_rfl
theorem jf1:(laidOutB Tryz.pinned.checked.prog)=true:=by kernel_rfl
theorem jf2:(mapsRowed Tryz.pinned.checked.prog)=true:=by kernel_rfl
theorem jf3:(Tryz.f3.params.all (Tryz.pinned.checked.prog.readableRec ·))=true:=by kernel_rfl
theorem jf4:(namedTie Tryz.pinned.checked.prog Rows.fnExactRunRow.named Rows.fnExactRunSpec.vars)=true:=by kernel_rfl
theorem jf5:((Rows.fnExactRunRow.stops == []))=true:=by kernel_rfl
theorem jf6:((Tryz.pinned.checked.prog.stops == []))=true:=by kernel_rfl
theorem jf7:((Rows.fnExactRunRow.knobs == []))=true:=by kernel_rfl
theorem jf8:((Tryz.pinned.checked.prog.stopKnobs == []))=true:=by kernel_rfl
theorem jf9:((Rows.fnExactRunRow.inPlace == Tryz.pinned.checked.prog.inPlace 3))=true:=by kernel_rfl
theorem aoH:((Rows.fnExactRunRow.unfollowed == Tryz.pinned.checked.prog.unfollowed 3))=true:=by kernel_rfl
theorem aoG:((Rows.fnExactRunRow.recurses == Tryz.pinned.checked.prog.recurses 3))=true:=by kernel_rfl
theorem aoF:((Rows.fnExactRunRow.named == Tryz.pinned.checked.prog.varsNamed 3))=true:=by kernel_rfl
theorem aoE:((Rows.fnExactRunRow.maps == (Tryz.f3.params.toList++Rows.fnExactRunSpec.plain.varTypes Tryz.pinned.checked.prog).any (Tryz.pinned.checked.prog.mapsRec ·)))=true:=by kernel_rfl
theorem aoD:((Rows.fnExactRunRow.ifaces == (Tryz.f3.params.toList++Rows.fnExactRunSpec.plain.varTypes Tryz.pinned.checked.prog).any (Tryz.pinned.checked.prog.ifacesRec ·)))=true:=by kernel_rfl
theorem aoC:((Rows.fnExactRunRow.mapsOut == Tryz.pinned.checked.prog.mapsAmong Tryz.f3.resultTypes.toList))=true:=by kernel_rfl
theorem aoB:((Rows.fnExactRunRow.loops == (Tryz.f3.params.toList++Rows.fnExactRunSpec.plain.varTypes Tryz.pinned.checked.prog).any (Tryz.pinned.checked.prog.loopsFrom ·)))=true:=by kernel_rfl
theorem aoA:((Rows.fnExactRunRow.wideKeys == (Tryz.f3.params.toList++Rows.fnExactRunSpec.plain.varTypes Tryz.pinned.checked.prog++Tryz.f3.resultTypes.toList).any (Tryz.pinned.checked.prog.wideKeysFrom ·)))=true:=by kernel_rfl
theorem aoz:(Rows.fnExactRunSpec.vars.all (Tryz.pinned.checked.prog.varReadable ·))=true:=by kernel_rfl
theorem aoy:(Tryz.f3.resultTypes.all (fun t=>Tryz.pinned.checked.prog.readableRec t && decide (t<Tryz.pinned.checked.prog.types.size)))=true:=by kernel_rfl
theorem aox:((Rows.fnExactRunRow.ifacesOut == Tryz.f3.resultTypes.toList.any (Tryz.pinned.checked.prog.ifacesRec ·)))=true:=by kernel_rfl
theorem aow:((Rows.fnExactRunRow.loopsOut == Tryz.f3.resultTypes.toList.any (Tryz.pinned.checked.prog.loopsFrom ·)))=true:=by kernel_rfl
theorem aov:((Rows.fnExactRunRow.plainKeys == Tryz.pinned.checked.prog.plainKeys))=true:=by kernel_rfl
theorem aou:(Rows.fnExactRunRow.shortTexts.isNone)=true:=by kernel_rfl
theorem aot:(Tryz.pinned.checked.prog.stopsHeard)=true:=by kernel_rfl
theorem aos:(Tryz.pinned.checked.prog.mayEnter)=true:=by kernel_rfl
theorem aor:((Rows.fnExactRunRow.lifted == Tryz.pinned.checked.prog.liftsFinal))=true:=by kernel_rfl
theorem aoq:((Tryz.pinned.checked.prog.make == some Rows.fnExactRunRow.make))=true:=by kernel_rfl
theorem aop:((Rows.fnExactRunRow.kinds == (if Rows.fnExactRunRow.domain.isEmpty then [] else Tryz.f3.params.toList.map fun t=>match Tryz.pinned.checked.prog.underlying t with | some (.int k)=>some k | _=>none)))=true:=by kernel_rfl
theorem aoo:((Rows.fnExactRunRow.pinned == Rows.fnExactRunRow.pinnedBy))=true:=by kernel_rfl
theorem aon:((Rows.fnExactRunRow.veiled == (Tryz.f3.params.toList++Rows.fnExactRunSpec.plain.varTypes Tryz.pinned.checked.prog++Tryz.f3.resultTypes.toList).any (Tryz.pinned.checked.prog.veiledRec ·)))=true:=by kernel_rfl
theorem aom:(Rows.fnExactRunRow.veiledFits Tryz.pinned.checked.prog Tryz.f3.params.toList (Tryz.f3.params.toList++Rows.fnExactRunSpec.plain.varTypes Tryz.pinned.checked.prog++Tryz.f3.resultTypes.toList))=true:=by kernel_rfl
theorem alP:joinedFacts Tryz.pinned.checked.prog 3 Tryz.f3 Rows.fnExactRunSpec Rows.fnExactRunRow=true:=by
 unfold joinedFacts
 exact iJ (iJ (iJ (iJ (iJ (iJ (iJ (iJ (iJ (iJ (iJ (iJ (iJ (iJ (iJ (iJ (iJ (iJ (iJ (iJ (iJ (iJ (iJ (iJ (iJ (iJ (iJ (iJ (iJ (iJ (iJ jf0 jf1) jf2) jf3) jf4) jf5) jf6) jf7) jf8) jf9) aoH) aoG) aoF) aoE) aoD) aoC) aoB) aoA) aoz) aoy) aox) aow) aov) aou) aot) aos) aor) aoq) aop) aoo) aon) aom
end Go.Proofs.YtiagfejlmafliaaGreatDoor
