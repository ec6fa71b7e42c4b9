/- From the reading of an array of three slices that came in to what the walks ask of it. -/
import Derived.Test.YtlalfjlcgabnnaaFrame
namespace Go.Proofs.Ytlalfjlcgabnnaa
open Go.ChangeShapes Go.WideShapes Go.ChangeAt Go.RowKit

theorem reach_array3 {H : Type} {P : Program} {t e : TypeId} {n : Nat} {d0 d1 d2 : DataW H} (ht : P.underlying t = some (.array n e)) (h : (DataW.weights P t (.agg [d0, d1, d2])).all (· ≤ reachBytes) = true) :
    (DataW.weights P e d0).all (· ≤ reachBytes) = true ∧ (DataW.weights P e d1).all (· ≤ reachBytes) = true ∧ (DataW.weights P e d2).all (· ≤ reachBytes) = true := by
  simpa only [DataW.weights, ht, DataW.weightsAll, List.all_append, Bool.and_eq_true, List.append_nil] using h

/-- An array of three slices, by value, opened. -/
theorem array3_read {H : Type} {enc : TypeId × Value → H} {P : Program} {W : World} {r : Reach} {base : Nat} {t e q : TypeId} {v : Value} {d : DataW H} {ps : List MemPlace}
    (ht : P.underlying t = some (.array 3 e)) (he : P.underlying e = some (.slice q)) (hc : P.cellsOf t = 3) (hc1 : P.cellsOf e = 1) (hv : Value.okWide P W r base t v) (h : DataW.Trod enc P W 0 (fun _ => true) true t v d ps) :
    ∃ (a0 a1 a2 : Option Addr) (l0 c0 l1 c1 l2 c2 : Nat) (d0 d1 d2 : DataW H) (p0 p1 p2 : List MemPlace), v = .agg #[.slice a0 l0 c0, .slice a1 l1 c1, .slice a2 l2 c2] ∧ d = .agg [d0, d1, d2] ∧ ps = p0 ++ (p1 ++ p2) ∧
      DataW.Trod enc P W 0 (fun _ => true) true e (.slice a0 l0 c0) d0 p0 ∧ DataW.Trod enc P W 0 (fun _ => true) true e (.slice a1 l1 c1) d1 p1 ∧ DataW.Trod enc P W 0 (fun _ => true) true e (.slice a2 l2 c2) d2 p2 := by
  obtain ⟨cs, rfl, hsz⟩ : ∃ cs, v = .agg cs ∧ cs.size = P.cellsOf t := by
    cases v <;> simp_all [Value.okWide]
  obtain ⟨x0, x1, x2, rfl⟩ := Go.Joins.array3 (hsz.trans hc)
  obtain ⟨fuel, hf⟩ := h
  obtain ⟨xs, m, _, hx, _, hl, hel⟩ := DataW.trod_array ht hf
  have e0 := hel 0 (by omega)
  have e1 := hel 1 (by omega)
  have e2 := hel 2 (by omega)
  rw [hc1] at e0 e1 e2
  match xs, hl with
  | [y0, y1, y2], _ =>
    simp [Value.cells] at e0 e1 e2 hx
    obtain ⟨a0, l0, c0, h0⟩ := Go.Joins.slice_form he e0
    obtain ⟨a1, l1, c1, h1⟩ := Go.Joins.slice_form he e1
    obtain ⟨a2, l2, c2, h2⟩ := Go.Joins.slice_form he e2
    simp only [List.cons.injEq, and_true] at h0 h1 h2
    subst h0
    subst h1
    subst h2
    exact ⟨a0, a1, a2, l0, c0, l1, c1, l2, c2, y0.1, y1.1, y2.1, y0.2, y1.2, y2.2, rfl, hx.1, hx.2, ⟨m, by simpa [Value.cells] using e0⟩, ⟨m, by simpa [Value.cells] using e1⟩, ⟨m, by simpa [Value.cells] using e2⟩⟩

end Go.Proofs.Ytlalfjlcgabnnaa
