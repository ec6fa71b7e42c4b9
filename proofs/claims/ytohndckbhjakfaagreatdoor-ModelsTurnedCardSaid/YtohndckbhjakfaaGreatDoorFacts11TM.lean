/- The closed facts of ModelsTurned' row, one by one. -/
import Derived.Test.YtohndckbhjakfaaGreatDoorRows
import Derived.Deep.DeepHandedRow
import Derived.JoinedCond
namespace Go.Proofs.YtohndckbhjakfaaGreatDoor.modelsTurned
set_option maxRecDepth 100000
noncomputable abbrev bc : OpenClaim := Rows.modelsTurnedRow
noncomputable abbrev bP : Program := Tryz.pinned.checked.prog
noncomputable abbrev bs : ChangeSpec := (OpenSpec.ofChange Rows.modelsTurnedSpec).bare
noncomputable abbrev bf : FuncId := 4
noncomputable abbrev bfn : Func := Tryz.f4

theorem fact0 : (bc.wf (OpenSpec.ofChange bs)) = true := by kernel_rfl

theorem fact1 : (laidOutB bP) = true := by kernel_rfl

theorem fact2 : (mapsRowed bP) = true := by kernel_rfl

theorem fact3 : (bfn.params.all (bP.readableRec ·)) = true := by kernel_rfl

theorem fact4 : (namedTie bP bc.named bs.vars) = true := by kernel_rfl

theorem fact5 : ((bc.stops == [])) = true := by kernel_rfl

theorem fact6 : ((bP.stops == [])) = true := by kernel_rfl

theorem fact7 : ((bc.knobs == [])) = true := by kernel_rfl

theorem fact8 : ((bP.stopKnobs == [])) = true := by kernel_rfl

theorem fact9 : ((bc.inPlace == bP.inPlace bf)) = true := by kernel_rfl

theorem fact10 : ((bc.unfollowed == bP.unfollowed bf)) = true := by kernel_rfl

theorem fact11 : ((bc.recurses == bP.recurses bf)) = true := by kernel_rfl

theorem fact12 : ((bc.named == bP.varsNamed bf)) = true := by kernel_rfl

theorem fact13 : ((bc.maps == (bfn.params.toList ++ bs.plain.varTypes bP).any (bP.mapsRec ·))) = true := by kernel_rfl

theorem fact14 : ((bc.ifaces == (bfn.params.toList ++ bs.plain.varTypes bP).any (bP.ifacesRec ·))) = true := by kernel_rfl

theorem fact15 : ((bc.mapsOut == bP.mapsAmong bfn.resultTypes.toList)) = true := by kernel_rfl

theorem fact16 : ((bc.loops == (bfn.params.toList ++ bs.plain.varTypes bP).any (bP.loopsFrom ·))) = true := by kernel_rfl

theorem fact17 : ((bc.wideKeys == (bfn.params.toList ++ bs.plain.varTypes bP ++ bfn.resultTypes.toList).any (bP.wideKeysFrom ·))) = true := by kernel_rfl

theorem fact18 : (bs.vars.all (bP.varReadable ·)) = true := by kernel_rfl

theorem fact19 : (bfn.resultTypes.all (fun t => bP.readableRec t && decide (t < bP.types.size))) = true := by kernel_rfl

theorem fact20 : ((bc.ifacesOut == bfn.resultTypes.toList.any (bP.ifacesRec ·))) = true := by kernel_rfl

theorem fact21 : ((bc.loopsOut == bfn.resultTypes.toList.any (bP.loopsFrom ·))) = true := by kernel_rfl

theorem fact22 : ((bc.plainKeys == bP.plainKeys)) = true := by kernel_rfl

theorem fact23 : (bc.shortTexts.isNone) = true := by kernel_rfl

theorem fact24 : (bP.stopsHeard) = true := by kernel_rfl

theorem fact25 : (bP.mayEnter) = true := by kernel_rfl

theorem fact26 : ((bc.lifted == bP.liftsFinal)) = true := by kernel_rfl

theorem fact27 : ((bP.make == some bc.make)) = true := by kernel_rfl

theorem fact28 : ((bc.kinds == (if bc.domain.isEmpty then [] else bfn.params.toList.map fun t => match bP.underlying t with | some (.int k) => some k | _ => none))) = true := by kernel_rfl

theorem fact29 : ((bc.pinned == bc.pinnedBy)) = true := by kernel_rfl

theorem fact30 : ((bc.veiled == (bfn.params.toList ++ bs.plain.varTypes bP ++ bfn.resultTypes.toList).any (bP.veiledRec ·))) = true := by kernel_rfl

theorem fact31 : (bc.veiledFits bP bfn.params.toList (bfn.params.toList ++ bs.plain.varTypes bP ++ bfn.resultTypes.toList)) = true := by kernel_rfl

theorem andT {a b : Bool} (h : a = true) (k : b = true) : (a && b) = true := by rw [h, k]; rfl

theorem facts : joinedFacts bP bf bfn bs bc = true := (andT (andT (andT (andT (andT (andT (andT (andT (andT (andT (andT (andT (andT (andT (andT (andT (andT (andT (andT (andT (andT (andT (andT (andT (andT (andT (andT (andT (andT (andT (andT fact0 fact1) fact2) fact3) fact4) fact5) fact6) fact7) fact8) fact9) fact10) fact11) fact12) fact13) fact14) fact15) fact16) fact17) fact18) fact19) fact20) fact21) fact22) fact23) fact24) fact25) fact26) fact27) fact28) fact29) fact30) fact31)

end Go.Proofs.YtohndckbhjakfaaGreatDoor.modelsTurned
