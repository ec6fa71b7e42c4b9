/- Three tensors in an array, by value, opened. -/
import Derived.Test.YthdicobagmhpcaaFrame6
namespace Go.Proofs.Ythdicobagmhpcaa
open Go.ChangeShapes Go.WideShapes Go.ChangeAt Go.RowKit
set_option maxRecDepth 100000

theorem ten_cells {H : Type} {enc : TypeId × Value → H} {W : World} {fuel : Nat} {c0 c1 : Value} {y : DataW H × List MemPlace} (hf : DataW.trod enc Try.prog W 0 (fun _ => true) true fuel 25 [c0, c1] = some y)
    (hw : (DataW.weights Try.prog 25 y.1).all (· ≤ reachBytes) = true) :
    ∃ (A B : Option Addr) (n c m k : Nat) (s l : List Int), c0 = .slice A n c ∧ c1 = .slice B m k ∧ Lies W A n (s.map (Value.int .i64)) ∧ Lies W B m (l.map (Value.int .i32)) ∧ n * 8 ≤ 140737488351232 ∧ m * 4 ≤ 140737488351232 := by
  have k1 : Try.prog.cellsOf 22 = 1 := by kernel_rfl
  have k2 : Try.prog.cellsOf 23 = 1 := by kernel_rfl
  have k3 : Try.prog.cellsOf 3 = 1 := by kernel_rfl
  have k4 : Try.prog.cellsOf 21 = 1 := by kernel_rfl
  obtain ⟨ys, n, _, hy, _, hyl, hg⟩ := DataW.trod_struct Try.underlying25 hf
  obtain ⟨y0, y1, rfl⟩ := list2T hyl
  have g0 : DataW.trod enc Try.prog W 0 (fun _ => true) true n 22 (([c0, c1].drop 0).take (Try.prog.cellsOf 22)) = some y0 := hg 0 _ rfl
  have g1 : DataW.trod enc Try.prog W 0 (fun _ => true) true n 23 (([c0, c1].drop 1).take (Try.prog.cellsOf 23)) = some y1 := hg 1 _ rfl
  simp only [k1, k2, List.drop_zero, List.drop_succ_cons, List.take_succ_cons, List.take_zero] at g0 g1
  subst hy
  have hw2 : (DataW.weightsEach Try.prog [22, 23] [y0.1, y1.1]).all (· ≤ reachBytes) = true := by
    have e : DataW.weights Try.prog 25 (.agg [y0.1, y1.1]) = DataW.weightsEach Try.prog [22, 23] [y0.1, y1.1] := by
      rw [DataW.weights, Try.underlying25]
      rfl
    rw [← e]
    exact hw
  obtain ⟨q0, q1⟩ := reach_cons hw2
  obtain ⟨q2, _⟩ := reach_cons q1
  obtain ⟨a0, l0, d0, e0⟩ := Go.Joins.slice_form Try.underlying22 g0
  obtain ⟨a1, l1, d1, e1⟩ := Go.Joins.slice_form Try.underlying23 g1
  simp only [List.cons.injEq, and_true] at e0 e1
  subst e0 e1
  obtain ⟨zs, hl, hc, hfi⟩ := row_read Try.underlying22 Try.underlying3 k3 ⟨n, g0⟩
  obtain ⟨zs', hl', hc', hfi'⟩ := row_read Try.underlying23 Try.underlying21 k4 ⟨n, g1⟩
  have hr := len_reach (k := 8) Try.underlying22 (by kernel_rfl) ⟨n, g0⟩ q0
  have hr' := len_reach (k := 4) Try.underlying23 (by kernel_rfl) ⟨n, g1⟩ q2
  exact ⟨a0, a1, l0, d0, l1, d1, zs, zs', rfl, rfl, hl, hl', hr, hr'⟩

theorem reach_three {H : Type} {P : Program} {t e : TypeId} {n : Nat} {d0 d1 d2 : DataW H} (ht : P.underlying t = some (.array n e)) (h : (DataW.weights P t (.agg [d0, d1, d2])).all (· ≤ reachBytes) = true) :
    (DataW.weights P e d0).all (· ≤ reachBytes) = true ∧ (DataW.weights P e d1).all (· ≤ reachBytes) = true ∧ (DataW.weights P e d2).all (· ≤ reachBytes) = true := by
  simpa only [DataW.weights, ht, DataW.weightsAll, List.all_append, Bool.and_eq_true, List.append_nil] using h
theorem list6T {α : Type} {l : List α} (h : l.length = 6) : ∃ a b c d e f, l = [a, b, c, d, e, f] := by
  match l, h with
  | [a, b, c, d, e, f], _ => exact ⟨a, b, c, d, e, f, rfl⟩
theorem ten3_read {H : Type} {enc : TypeId × Value → H} {W : World} {r : Reach} {base : Nat} {v : Value} {d : DataW H} {ps : List MemPlace} (hv : Value.okWide Try.prog W r base 26 v) (h : DataW.Trod enc Try.prog W 0 (fun _ => true) true 26 v d ps)
    (hw : (DataW.weights Try.prog 26 d).all (· ≤ reachBytes) = true) :
    ∃ (A0 B0 A1 B1 A2 B2 : Option Addr) (n0 c0 m0 k0 n1 c1 m1 k1 n2 c2 m2 k2 : Nat) (s0 l0 s1 l1 s2 l2 : List Int), v = .agg #[.slice A0 n0 c0, .slice B0 m0 k0, .slice A1 n1 c1, .slice B1 m1 k1, .slice A2 n2 c2, .slice B2 m2 k2] ∧
      Lies W A0 n0 (s0.map (Value.int .i64)) ∧ Lies W B0 m0 (l0.map (Value.int .i32)) ∧ Lies W A1 n1 (s1.map (Value.int .i64)) ∧ Lies W B1 m1 (l1.map (Value.int .i32)) ∧ Lies W A2 n2 (s2.map (Value.int .i64)) ∧ Lies W B2 m2 (l2.map (Value.int .i32)) ∧
      n0 * 8 ≤ 140737488351232 ∧ m0 * 4 ≤ 140737488351232 ∧ n1 * 8 ≤ 140737488351232 ∧ m1 * 4 ≤ 140737488351232 ∧ n2 * 8 ≤ 140737488351232 ∧ m2 * 4 ≤ 140737488351232 := by
  have q0 : Try.prog.cellsOf 26 = 6 := by kernel_rfl
  have q1 : Try.prog.cellsOf 25 = 2 := by kernel_rfl
  obtain ⟨cs, rfl, hsz⟩ : ∃ cs, v = .agg cs ∧ cs.size = Try.prog.cellsOf 26 := by
    cases v <;> simp_all [Value.okWide, Try.underlying26]
  obtain ⟨l⟩ := cs
  obtain ⟨x0, x1, x2, x3, x4, x5, rfl⟩ := list6T (hsz.trans q0)
  obtain ⟨fuel, hf⟩ := h
  obtain ⟨xs, m, _, hx, _, hl, hel⟩ := DataW.trod_array Try.underlying26 hf
  have e0 := hel 0 (by omega)
  have e1 := hel 1 (by omega)
  have e2 := hel 2 (by omega)
  rw [q1] at e0 e1 e2
  match xs, hl with
  | [y0, y1, y2], _ =>
    have hd : d = .agg [y0.1, y1.1, y2.1] := congrArg Prod.fst hx
    subst hd
    obtain ⟨w0, w1, w2⟩ := reach_three Try.underlying26 hw
    obtain ⟨A0, B0, n0, c0, m0, k0, s0, l0, rfl, rfl, a0, b0, r0, t0⟩ := ten_cells (show DataW.trod enc Try.prog W 0 (fun _ => true) true m 25 [x0, x1] = some y0 from e0) w0
    obtain ⟨A1, B1, n1, c1, m1, k1, s1, l1, rfl, rfl, a1, b1, r1, t1⟩ := ten_cells (show DataW.trod enc Try.prog W 0 (fun _ => true) true m 25 [x2, x3] = some y1 from e1) w1
    obtain ⟨A2, B2, n2, c2, m2, k2, s2, l2, rfl, rfl, a2, b2, r2, t2⟩ := ten_cells (show DataW.trod enc Try.prog W 0 (fun _ => true) true m 25 [x4, x5] = some y2 from e2) w2
    exact ⟨A0, B0, A1, B1, A2, B2, n0, c0, m0, k0, n1, c1, m1, k1, n2, c2, m2, k2, s0, l0, s1, l1, s2, l2, rfl, a0, b0, a1, b1, a2, b2, r0, t0, r1, t1, r2, t2⟩
end Go.Proofs.Ythdicobagmhpcaa
