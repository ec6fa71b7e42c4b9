/- A tensor by value that is nil has no capacity. -/
import Derived.Test.YthdicobagmhpcaaGreatDoorFrame6
namespace Go.Proofs.YthdicobagmhpcaaGreatDoor
open Go.ChangeShapes Go.WideShapes Go.ChangeAt Go.RowKit
set_option maxRecDepth 100000

theorem ten_nil {H : Type} {enc : TypeId × Value → H} {W : World} {d : DataW H} {ps : List MemPlace} {A B : Option Addr} {n c m k : Nat} (h : DataW.Trod enc Tryz.prog W 0 (fun _ => true) true 25 (tenV A n c B m k) d ps) : (A = none → c = 0) ∧ (B = none → k = 0) := by
  have k1 : Tryz.prog.cellsOf 22 = 1 := by kernel_rfl
  have k2 : Tryz.prog.cellsOf 23 = 1 := by kernel_rfl
  have k3 : Tryz.prog.cellsOf 3 = 1 := by kernel_rfl
  have k4 : Tryz.prog.cellsOf 21 = 1 := by kernel_rfl
  obtain ⟨fuel, hf⟩ := h
  obtain ⟨ys, n', _, hy, _, hyl, hg⟩ := DataW.trod_struct Tryz.underlying25 hf
  obtain ⟨y0, y1, rfl⟩ := list2T hyl
  have g0 : DataW.trod enc Tryz.prog W 0 (fun _ => true) true n' 22 (([Value.slice A n c, Value.slice B m k].drop 0).take (Tryz.prog.cellsOf 22)) = some y0 := hg 0 _ rfl
  have g1 : DataW.trod enc Tryz.prog W 0 (fun _ => true) true n' 23 (([Value.slice A n c, Value.slice B m k].drop 1).take (Tryz.prog.cellsOf 23)) = some y1 := hg 1 _ rfl
  simp only [k1, k2, List.drop_zero, List.drop_succ_cons, List.take_succ_cons, List.take_zero] at g0 g1
  exact ⟨row_nil Tryz.underlying22 Tryz.underlying3 k3 ⟨n', g0⟩, row_nil Tryz.underlying23 Tryz.underlying21 k4 ⟨n', g1⟩⟩
end Go.Proofs.YthdicobagmhpcaaGreatDoor
