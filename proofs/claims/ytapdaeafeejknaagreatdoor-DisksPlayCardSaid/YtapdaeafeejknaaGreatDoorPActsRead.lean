/- From the reading of a slice of acts that came in to what the walks ask of it. -/
import Derived.Test.YtapdaeafeejknaaGreatDoorPAct
import Derived.Test.YtapdaeafeejknaaGreatDoorFrame
import Derived.Deep.Slices
import Derived.Deep.Fields
namespace Go.Proofs.YtapdaeafeejknaaGreatDoor
open Go.ChangeShapes Go.WideShapes Go.ChangeAt Go.RowKit
set_option linter.unusedVariables false
set_option linter.unusedSimpArgs false

theorem actsT : Tryz.prog.cellsOf 51 = 5 := by kernel_rfl
theorem fits_u64 {n : Int} (h : (Lit.int .u64 n).wf = true) : 0 ≤ n ∧ n < 18446744073709551616 := by have := bounds_u64 h; omega
theorem weights_elem {H : Type} {P : Program} {e : TypeId} {elems : List (DataW H)} {d : DataW H} (h : (DataW.weightsAll P e elems).all (· ≤ reachBytes) = true) (hd : d ∈ elems) : (DataW.weights P e d).all (· ≤ reachBytes) = true := by
  induction elems with
  | nil => cases hd
  | cons x r ih =>
    simp only [DataW.weightsAll, List.all_append, Bool.and_eq_true] at h
    rcases List.mem_cons.1 hd with rfl | hd
    · exact h.1
    · exact ih h.2 hd
theorem list5 {α : Type} {l : List α} (h : l.length = 5) : ∃ a b c d e, l = [a, b, c, d, e] := by
  match l, h with
  | [a, b, c, d, e], _ => exact ⟨a, b, c, d, e, rfl⟩
section
variable {H : Type} {enc : TypeId × Value → H} {W : World}
theorem act_one {A : Addr} {cs : List Value} {fuel : Nat} {y : DataW H × List MemPlace} (hc : W.cells? 0 A 5 = some cs) (ht : DataW.trod enc Tryz.prog W 0 (fun _ => true) true fuel 51 cs = some y)
    (hw : (DataW.weights Tryz.prog 51 y.1).all (· ≤ reachBytes) = true) : ∃ x : Act1, OkAct W x ∧ ∀ j v, (actV x)[j]? = some v → W.cell? (A.add j) = some v := by
  obtain ⟨_, hcl, hat⟩ := World.cells?_some hc
  obtain ⟨ys, n, _, hy, _, hyl, hg⟩ := DataW.trod_struct Tryz.underlying51 ht
  have k5 : Tryz.prog.cellsOf 5 = 1 := by kernel_rfl
  have k3 : Tryz.prog.cellsOf 3 = 1 := by kernel_rfl
  have k22 : Tryz.prog.cellsOf 48 = 1 := by kernel_rfl
  have k34 : Tryz.prog.cellsOf 49 = 1 := by kernel_rfl
  have g0 : DataW.trod enc Tryz.prog W 0 (fun _ => true) true n 5 ((cs.drop 0).take (Tryz.prog.cellsOf 5)) = ys[0]? := hg 0 _ rfl
  have g1 : DataW.trod enc Tryz.prog W 0 (fun _ => true) true n 3 ((cs.drop 1).take (Tryz.prog.cellsOf 3)) = ys[1]? := hg 1 _ rfl
  have g2 : DataW.trod enc Tryz.prog W 0 (fun _ => true) true n 3 ((cs.drop 2).take (Tryz.prog.cellsOf 3)) = ys[2]? := hg 2 _ rfl
  have g3 : DataW.trod enc Tryz.prog W 0 (fun _ => true) true n 48 ((cs.drop 3).take (Tryz.prog.cellsOf 48)) = ys[3]? := hg 3 _ rfl
  have g4 : DataW.trod enc Tryz.prog W 0 (fun _ => true) true n 49 ((cs.drop 4).take (Tryz.prog.cellsOf 49)) = ys[4]? := hg 4 _ rfl
  clear hg
  obtain ⟨c0, c1, c2, c3, c4, rfl⟩ := list5 hcl
  obtain ⟨y0, y1, y2, y3, y4, rfl⟩ := list5 hyl
  simp only [k5, k3, k22, k34, List.drop_zero, List.drop_succ_cons, List.take_succ_cons, List.take_zero, List.getElem?_cons_zero, List.getElem?_cons_succ] at g0 g1 g2 g3 g4
  subst hy
  have hw2 : (DataW.weightsEach Tryz.prog [5, 3, 3, 48, 49] [y0.1, y1.1, y2.1, y3.1, y4.1]).all (· ≤ reachBytes) = true := by
    have e : DataW.weights Tryz.prog 51 (.agg [y0.1, y1.1, y2.1, y3.1, y4.1]) = DataW.weightsEach Tryz.prog [5, 3, 3, 48, 49] [y0.1, y1.1, y2.1, y3.1, y4.1] := by
      rw [DataW.weights, Tryz.underlying51]
      rfl
    rw [← e]
    exact hw
  obtain ⟨_, q1⟩ := reach_cons hw2
  obtain ⟨_, q2⟩ := reach_cons q1
  obtain ⟨_, q3⟩ := reach_cons q2
  obtain ⟨q4, _⟩ := reach_cons q3
  obtain ⟨z0, e0, _, w0⟩ := DataW.trod_int Tryz.underlying5 g0
  obtain ⟨z1, e1, _, w1⟩ := DataW.trod_int Tryz.underlying3 g1
  obtain ⟨z2, e2, _, w2⟩ := DataW.trod_int Tryz.underlying3 g2
  obtain ⟨a3, l3, d3, e3⟩ := Go.Joins.slice_form Tryz.underlying48 g3
  obtain ⟨z4, e4, _, w4⟩ := DataW.trod_int Tryz.underlying49 g4
  simp only [List.cons.injEq, and_true] at e0 e1 e2 e3 e4
  subst e0 e1 e2 e3 e4
  obtain ⟨zs, hl, _, hf⟩ := row_read Tryz.underlying48 Tryz.underlying5 k5 ⟨n, g3⟩
  have hr := len_reach (k := 1) Tryz.underlying48 (by kernel_rfl) ⟨n, g3⟩ q4
  refine ⟨⟨z0, z1, z2, a3, l3, d3, zs, z4⟩, ⟨hl, fun z hz => fits_u8 (hf z hz), fits_u8 w0, fits_u64 w4, by show l3 ≤ _; omega⟩, fun j v hj => ?_⟩
  have hj5 : j < 5 := (List.getElem?_eq_some_iff.1 hj).1
  rw [hat j hj5]
  exact hj
end
theorem acts_read {H : Type} {enc : TypeId × Value → H} {W : World} {a : Option Addr} {len cap : Nat} {d : DataW H} {ps : List MemPlace}
    (h : DataW.Trod enc Tryz.prog W 0 (fun _ => true) true 22 (.slice a len cap) d ps) (hw : (DataW.weights Tryz.prog 22 d).all (· ≤ reachBytes) = true) : ∃ l, ActsAt W a len l := by
  obtain ⟨fuel, hf⟩ := h
  rcases Go.Deep.open_slice Tryz.underlying22 hf with ⟨hcs, _⟩ | ⟨ad, l, c, m, n, D, Pl, hcs, _, hl, hm, hmm, hx, hi⟩
  · simp [Value.cells] at hcs
    obtain ⟨rfl, rfl, rfl⟩ := hcs
    exact ⟨[], rfl, fun h => absurd h (by omega), fun x hx => by cases hx⟩
  · simp [Value.cells] at hcs
    obtain ⟨rfl, rfl, rfl⟩ := hcs
    simp at hmm
    have hd := congrArg Prod.fst hx
    simp only at hd
    subst hd
    simp only [DataW.weights, Tryz.underlying22, List.all_cons, List.all_append, Bool.and_eq_true] at hw
    have hone : ∀ i, i < len → ∃ x : Act1, OkAct W x ∧ ∀ j v, (actV x)[j]? = some v → W.cell? (ad.add (i * 5 + j)) = some v := by
      intro i hil
      obtain ⟨cs', hc, ht⟩ := hi i (by omega)
      rw [actsT] at hc
      obtain ⟨x, hx1, hx2⟩ := act_one hc ht (weights_elem hw.2.1 (List.mem_map.2 ⟨i, List.mem_range.2 hil, rfl⟩))
      refine ⟨x, hx1, fun j v hj => ?_⟩
      rw [← Go.Deep.add_add]
      exact hx2 j v hj
    have hall : ∃ f : Nat → Act1, ∀ i, i < len → OkAct W (f i) ∧ ∀ j v, (actV (f i))[j]? = some v → W.cell? (ad.add (i * 5 + j)) = some v :=
      ⟨fun i => if hil : i < len then Classical.choose (hone i hil) else noAct, fun i hil => by
        simp only [dif_pos hil]
        exact Classical.choose_spec (hone i hil)⟩
    obtain ⟨f, hfo⟩ := hall
    refine ⟨(List.range len).map f, by simp, fun hn => ?_, fun x hx => ?_⟩
    · obtain ⟨b, off, spot⟩ := ad
      have h0 := (hfo 0 hn).2 0 _ rfl
      have hspot : spot = none := by simpa [Addr.add] using World.cell?_spot h0
      subst hspot
      have hb : b < W.heap.size := World.block_lt_of_cell? W _ h0
      refine ⟨b, off, rfl, hb, fun i hil j v hj => ?_⟩
      have e : actAt ((List.range len).map f) i = f i := by simp [actAt, List.getD, hil]
      rw [e] at hj
      have := (hfo i hil).2 j v hj
      rwa [Addr.add_lit, ← Nat.add_assoc] at this
    · obtain ⟨i, hir, rfl⟩ := List.mem_map.1 hx
      exact (hfo i (List.mem_range.1 hir)).1
end Go.Proofs.YtapdaeafeejknaaGreatDoor

