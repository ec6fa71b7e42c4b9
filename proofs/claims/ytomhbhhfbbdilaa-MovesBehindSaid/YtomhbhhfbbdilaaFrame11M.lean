/- Lists of tensors, as an argument, opened. -/
import Derived.Test.YtomhbhhfbbdilaaMv12M
import Derived.Test.YtomhbhhfbbdilaaWF
import Derived.Deep.Slices
namespace Go.Proofs.Ytomhbhhfbbdilaa
open Go.ChangeShapes Go.WideShapes Go.ChangeAt Go.RowKit
set_option linter.unusedVariables false
set_option linter.unusedSimpArgs false
set_option maxRecDepth 100000

theorem weights_elem9 {H : Type} {P : Program} {e : TypeId} {elems : List (DataW H)} {d : DataW H} (h : (DataW.weightsAll P e elems).all (· ≤ reachBytes) = true) (hd : d ∈ elems) : (DataW.weights P e d).all (· ≤ reachBytes) = true := by
  induction elems with
  | nil => cases hd
  | cons x r ih =>
    simp only [DataW.weightsAll, List.all_append, Bool.and_eq_true] at h
    rcases List.mem_cons.1 hd with rfl | hd
    · exact h.1
    · exact ih h.2 hd

section
variable {H : Type} {enc : TypeId × Value → H} {W : World}

theorem tenC9 : Try.prog.cellsOf 49 = 2 := by kernel_rfl

theorem ten_one9 {A : Addr} {cs : List Value} {fuel : Nat} {y : DataW H × List MemPlace} (hc : W.cells? 0 A 2 = some cs) (h : DataW.trod enc Try.prog W 0 (fun _ => true) true fuel 49 cs = some y)
    (hw : (DataW.weights Try.prog 49 y.1).all (· ≤ reachBytes) = true) : ∃ t : Tn, t.Ok W ∧ W.cell? (A.add 0) = some (.slice t.A t.n t.c) ∧ W.cell? (A.add 1) = some (.slice t.B t.m t.d) := by
  obtain ⟨_, hcl, hat⟩ := World.cells?_some hc
  have k1 : Try.prog.cellsOf 33 = 1 := by kernel_rfl
  have k2 : Try.prog.cellsOf 47 = 1 := by kernel_rfl
  have k3 : Try.prog.cellsOf 3 = 1 := by kernel_rfl
  have k4 : Try.prog.cellsOf 21 = 1 := by kernel_rfl
  obtain ⟨ys, n, _, hy, _, hyl, hg⟩ := DataW.trod_struct Try.underlying49 h
  obtain ⟨y0, y1, rfl⟩ := list2T hyl
  obtain ⟨c0, c1, rfl⟩ := list2T hcl
  have g0 : DataW.trod enc Try.prog W 0 (fun _ => true) true n 33 (([c0, c1].drop 0).take (Try.prog.cellsOf 33)) = some y0 := hg 0 _ rfl
  have g1 : DataW.trod enc Try.prog W 0 (fun _ => true) true n 47 (([c0, c1].drop 1).take (Try.prog.cellsOf 47)) = some y1 := hg 1 _ rfl
  simp only [k1, k2, List.drop_zero, List.drop_succ_cons, List.take_succ_cons, List.take_zero] at g0 g1
  subst hy
  have hw2 : (DataW.weightsEach Try.prog [33, 47] [y0.1, y1.1]).all (· ≤ reachBytes) = true := by
    have e : DataW.weights Try.prog 49 (.agg [y0.1, y1.1]) = DataW.weightsEach Try.prog [33, 47] [y0.1, y1.1] := by
      rw [DataW.weights, Try.underlying49]
      rfl
    rw [← e]
    exact hw
  obtain ⟨q0, q1⟩ := reach_cons hw2
  obtain ⟨q2, _⟩ := reach_cons q1
  obtain ⟨a0, l0, d0, e0⟩ := Go.Joins.slice_form Try.underlying33 g0
  obtain ⟨a1, l1, d1, e1⟩ := Go.Joins.slice_form Try.underlying47 g1
  simp only [List.cons.injEq, and_true] at e0 e1
  subst e0 e1
  obtain ⟨zs, hl, hcp, hfi⟩ := row_read Try.underlying33 Try.underlying3 k3 ⟨n, g0⟩
  obtain ⟨zs', hl', hcp', hfi'⟩ := row_read Try.underlying47 Try.underlying21 k4 ⟨n, g1⟩
  have hr := len_reach (k := 8) Try.underlying33 (by kernel_rfl) ⟨n, g0⟩ q0
  have hr' := len_reach (k := 4) Try.underlying47 (by kernel_rfl) ⟨n, g1⟩ q2
  exact ⟨⟨a0, l0, d0, a1, l1, d1, zs, zs'⟩, ⟨hl, hl', hcp, hcp', (show l0 ≤ _ by omega), (show l1 ≤ _ by omega)⟩, hat 0 (by omega), hat 1 (by omega)⟩

end

theorem tens_read {H : Type} {enc : TypeId × Value → H} {W : World} {a : Option Addr} {len cap : Nat} {d : DataW H} {ps : List MemPlace}
    (h : DataW.Trod enc Try.prog W 0 (fun _ => true) true 57 (.slice a len cap) d ps) (hw : (DataW.weights Try.prog 57 d).all (· ≤ reachBytes) = true) :
    ∃ ts : List Tn, ts.length = len ∧ len ≤ cap ∧ (1 ≤ len → ∃ b o, a = some ⟨b, o, none⟩ ∧ b < W.heap.size ∧ TsAt W b o ts) := by
  obtain ⟨fuel, hf⟩ := h
  rcases Go.Deep.open_slice Try.underlying57 hf with ⟨hcs, _⟩ | ⟨ad, l, c, m, n, D, Pl, hcs, _, hl, hm, hmm, hx, hi⟩
  · simp [Value.cells] at hcs
    obtain ⟨rfl, rfl, rfl⟩ := hcs
    exact ⟨[], rfl, Nat.le_refl _, fun h => absurd h (by omega)⟩
  · simp [Value.cells] at hcs
    obtain ⟨rfl, rfl, rfl⟩ := hcs
    simp at hmm
    have hd := congrArg Prod.fst hx
    simp only at hd
    subst hd
    simp only [DataW.weights, Try.underlying57, List.all_cons, List.all_append, Bool.and_eq_true] at hw
    have hone : ∀ i, i < len → ∃ t : Tn, t.Ok W ∧ W.cell? (ad.add (i * 2 + 0)) = some (.slice t.A t.n t.c) ∧ W.cell? (ad.add (i * 2 + 1)) = some (.slice t.B t.m t.d) := by
      intro i hil
      obtain ⟨cs', hc, ht⟩ := hi i (by omega)
      rw [tenC9] at hc
      obtain ⟨x, hx1, hx2, hx3⟩ := ten_one9 hc ht (weights_elem9 hw.2.1 (List.mem_map.2 ⟨i, List.mem_range.2 hil, rfl⟩))
      rw [Go.Deep.add_add] at hx2 hx3
      exact ⟨x, hx1, hx2, hx3⟩
    have hall : ∃ f : Nat → Tn, ∀ i, i < len → (f i).Ok W ∧ W.cell? (ad.add (i * 2 + 0)) = some (.slice (f i).A (f i).n (f i).c) ∧ W.cell? (ad.add (i * 2 + 1)) = some (.slice (f i).B (f i).m (f i).d) :=
      ⟨fun i => if hil : i < len then Classical.choose (hone i hil) else ⟨none, 0, 0, none, 0, 0, [], []⟩, fun i hil => by
        simp only [dif_pos hil]
        exact Classical.choose_spec (hone i hil)⟩
    obtain ⟨f, hfo⟩ := hall
    refine ⟨(List.range len).map f, by simp, by omega, fun hn => ?_⟩
    obtain ⟨b, off, spot⟩ := ad
    have h0 := (hfo 0 hn).2.1
    have hspot : spot = none := by simpa [Addr.add] using World.cell?_spot h0
    subst hspot
    have hb : b < W.heap.size := World.block_lt_of_cell? W _ h0
    refine ⟨b, off, rfl, hb, fun j t ht => ?_⟩
    obtain ⟨hjl, hje⟩ := List.getElem?_eq_some_iff.1 ht
    have hj : j < len := by simpa using hjl
    have hf' : f j = t := by simpa using hje
    obtain ⟨h1, h2, h3⟩ := hfo j hj
    rw [hf', Addr.add_lit] at h2 h3
    rw [hf'] at h1
    refine ⟨?_, ?_, h1⟩
    · rwa [Nat.add_zero] at h2
    · rwa [← Nat.add_assoc] at h3

end Go.Proofs.Ytomhbhhfbbdilaa
