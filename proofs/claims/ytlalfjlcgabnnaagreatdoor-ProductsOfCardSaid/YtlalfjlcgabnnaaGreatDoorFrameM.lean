/- Merged: Frame6, Frame7. -/
import Derived.Test.YtlalfjlcgabnnaaGreatDoorTen1
import Derived.Test.YtlalfjlcgabnnaaGreatDoorFrame
import Derived.Deep.Fields
namespace Go.Proofs.YtlalfjlcgabnnaaGreatDoor

section
open Go.ChangeShapes Go.WideShapes Go.ChangeAt Go.RowKit
set_option maxRecDepth 100000

theorem list2T {α : Type} {l : List α} (h : l.length = 2) : ∃ a b, l = [a, b] := by
  match l, h with
  | [a, b], _ => exact ⟨a, b, rfl⟩

theorem ten_read {H : Type} {enc : TypeId × Value → H} {W : World} {r : Reach} {base : Nat} {v : Value} {d : DataW H} {ps : List MemPlace} (hv : Value.okWide Tryz.prog W r base 25 v) (h : DataW.Trod enc Tryz.prog W 0 (fun _ => true) true 25 v d ps)
    (hw : (DataW.weights Tryz.prog 25 d).all (· ≤ reachBytes) = true) :
    ∃ (A B : Option Addr) (n c m k : Nat) (s l : List Int), v = tenV A n c B m k ∧ Lies W A n (s.map (Value.int .i64)) ∧ Lies W B m (l.map (Value.int .i32)) ∧ n ≤ c ∧ m ≤ k ∧ (∀ z ∈ s, -9223372036854775808 ≤ z ∧ z < 9223372036854775808) ∧ (∀ z ∈ l, -2147483648 ≤ z ∧ z < 2147483648) ∧ n * 8 ≤ 140737488351232 ∧ m * 4 ≤ 140737488351232 := by
  obtain ⟨cs, rfl, hsz⟩ := okWide_struct Tryz.underlying25 hv
  have k0 : Tryz.prog.cellsOf 25 = 2 := by kernel_rfl
  have k1 : Tryz.prog.cellsOf 22 = 1 := by kernel_rfl
  have k2 : Tryz.prog.cellsOf 23 = 1 := by kernel_rfl
  have k3 : Tryz.prog.cellsOf 3 = 1 := by kernel_rfl
  have k4 : Tryz.prog.cellsOf 21 = 1 := by kernel_rfl
  obtain ⟨l⟩ := cs
  obtain ⟨c0, c1, rfl⟩ := list2T (hsz.trans k0)
  obtain ⟨fuel, hf⟩ := h
  obtain ⟨ys, n, _, hy, _, hyl, hg⟩ := DataW.trod_struct Tryz.underlying25 hf
  obtain ⟨y0, y1, rfl⟩ := list2T hyl
  have g0 : DataW.trod enc Tryz.prog W 0 (fun _ => true) true n 22 (([c0, c1].drop 0).take (Tryz.prog.cellsOf 22)) = some y0 := hg 0 _ rfl
  have g1 : DataW.trod enc Tryz.prog W 0 (fun _ => true) true n 23 (([c0, c1].drop 1).take (Tryz.prog.cellsOf 23)) = some y1 := hg 1 _ rfl
  simp only [k1, k2, List.drop_zero, List.drop_succ_cons, List.take_succ_cons, List.take_zero] at g0 g1
  have hd := congrArg Prod.fst hy
  have hd' : d = .agg [y0.1, y1.1] := hd
  subst hd'
  have hw2 : (DataW.weightsEach Tryz.prog [22, 23] [y0.1, y1.1]).all (· ≤ reachBytes) = true := by
    have e : DataW.weights Tryz.prog 25 (.agg [y0.1, y1.1]) = DataW.weightsEach Tryz.prog [22, 23] [y0.1, y1.1] := by
      rw [DataW.weights, Tryz.underlying25]
      rfl
    rw [← e]
    exact hw
  obtain ⟨q0, q1⟩ := reach_cons hw2
  obtain ⟨q2, _⟩ := reach_cons q1
  obtain ⟨a0, l0, d0, e0⟩ := Go.Joins.slice_form Tryz.underlying22 g0
  obtain ⟨a1, l1, d1, e1⟩ := Go.Joins.slice_form Tryz.underlying23 g1
  simp only [List.cons.injEq, and_true] at e0 e1
  subst e0 e1
  obtain ⟨zs, hl, hc, hfi⟩ := row_read Tryz.underlying22 Tryz.underlying3 k3 ⟨n, g0⟩
  obtain ⟨zs', hl', hc', hfi'⟩ := row_read Tryz.underlying23 Tryz.underlying21 k4 ⟨n, g1⟩
  have hr := len_reach (k := 8) Tryz.underlying22 (by kernel_rfl) ⟨n, g0⟩ q0
  have hr' := len_reach (k := 4) Tryz.underlying23 (by kernel_rfl) ⟨n, g1⟩ q2
  exact ⟨a0, a1, l0, d0, l1, d1, zs, zs', rfl, hl, hl', hc, hc', fun z hz => by have := bounds_i64 (hfi z hz); omega, fun z hz => fits_i32 (hfi' z hz), hr, hr'⟩

end

section
open Go.ChangeShapes Go.WideShapes Go.ChangeAt Go.RowKit
set_option maxRecDepth 100000

theorem ten_nil {H : Type} {enc : TypeId × Value → H} {W : World} {d : DataW H} {ps : List MemPlace} {A B : Option Addr} {n c m k : Nat} (h : DataW.Trod enc Tryz.prog W 0 (fun _ => true) true 25 (tenV A n c B m k) d ps) : (A = none → c = 0) ∧ (B = none → k = 0) := by
  have k1 : Tryz.prog.cellsOf 22 = 1 := by kernel_rfl
  have k2 : Tryz.prog.cellsOf 23 = 1 := by kernel_rfl
  have k3 : Tryz.prog.cellsOf 3 = 1 := by kernel_rfl
  have k4 : Tryz.prog.cellsOf 21 = 1 := by kernel_rfl
  obtain ⟨fuel, hf⟩ := h
  obtain ⟨ys, n', _, hy, _, hyl, hg⟩ := DataW.trod_struct Tryz.underlying25 hf
  obtain ⟨y0, y1, rfl⟩ := list2T hyl
  have g0 : DataW.trod enc Tryz.prog W 0 (fun _ => true) true n' 22 (([Value.slice A n c, Value.slice B m k].drop 0).take (Tryz.prog.cellsOf 22)) = some y0 := hg 0 _ rfl
  have g1 : DataW.trod enc Tryz.prog W 0 (fun _ => true) true n' 23 (([Value.slice A n c, Value.slice B m k].drop 1).take (Tryz.prog.cellsOf 23)) = some y1 := hg 1 _ rfl
  simp only [k1, k2, List.drop_zero, List.drop_succ_cons, List.take_succ_cons, List.take_zero] at g0 g1
  exact ⟨row_nil Tryz.underlying22 Tryz.underlying3 k3 ⟨n', g0⟩, row_nil Tryz.underlying23 Tryz.underlying21 k4 ⟨n', g1⟩⟩

end

end Go.Proofs.YtlalfjlcgabnnaaGreatDoor
