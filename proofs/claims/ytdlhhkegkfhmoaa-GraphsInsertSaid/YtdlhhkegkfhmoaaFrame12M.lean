/- A graph, as an argument, opened. -/
import Derived.Test.YtdlhhkegkfhmoaaGr1M
import Derived.Test.YtdlhhkegkfhmoaaWF
import Derived.Deep.Slices
namespace Go.Proofs.Ytdlhhkegkfhmoaa
open Go.ChangeShapes Go.WideShapes Go.ChangeAt Go.RowKit
set_option linter.unusedVariables false
set_option linter.unusedSimpArgs false
set_option maxRecDepth 100000

theorem weights_elem10 {H : Type} {P : Program} {e : TypeId} {elems : List (DataW H)} {d : DataW H} (h : (DataW.weightsAll P e elems).all (· ≤ reachBytes) = true) (hd : d ∈ elems) : (DataW.weights P e d).all (· ≤ reachBytes) = true := by
  induction elems with
  | nil => cases hd
  | cons x r ih =>
    simp only [DataW.weightsAll, List.all_append, Bool.and_eq_true] at h
    rcases List.mem_cons.1 hd with rfl | hd
    · exact h.1
    · exact ih h.2 hd

theorem list5N {α : Type} {l : List α} (h : l.length = 5) : ∃ a b c d e, l = [a, b, c, d, e] := by
  match l, h with
  | [a, b, c, d, e], _ => exact ⟨a, b, c, d, e, rfl⟩

theorem list1N {α : Type} {l : List α} (h : l.length = 1) : ∃ a, l = [a] := by
  match l, h with
  | [a], _ => exact ⟨a, rfl⟩

/-- Its lists' numbers are such numbers. -/
def Nd.Fit (x : Nd) : Prop := (∀ z ∈ x.xs, -9223372036854775808 ≤ z ∧ z < 9223372036854775808) ∧ (∀ z ∈ x.sh, -9223372036854775808 ≤ z ∧ z < 9223372036854775808) ∧ (x.I = none → x.ci = 0) ∧ (x.S = none → x.cs = 0)

section
variable {H : Type} {enc : TypeId × Value → H} {W : World}

theorem nodeC10 : Try.prog.cellsOf 35 = 5 := by kernel_rfl

theorem node_one10 {A : Addr} {cs : List Value} {fuel : Nat} {y : DataW H × List MemPlace} (hc : W.cells? 0 A 5 = some cs) (h : DataW.trod enc Try.prog W 0 (fun _ => true) true fuel 35 cs = some y)
    (hw : (DataW.weights Try.prog 35 y.1).all (· ≤ reachBytes) = true) : ∃ x : Nd, x.Ok W ∧ x.Fit ∧ W.cell? (A.add 0) = some (.int .u8 x.kd) ∧ W.cell? (A.add 1) = some (.slice x.I x.ni x.ci) ∧ W.cell? (A.add 2) = some (.slice x.S x.ns x.cs) ∧ W.cell? (A.add 3) = some (.int .i64 x.N) ∧ W.cell? (A.add 4) = some (.int .i64 x.P) := by
  obtain ⟨_, hcl, hat⟩ := World.cells?_some hc
  have k1 : Try.prog.cellsOf 33 = 1 := by kernel_rfl
  have k2 : Try.prog.cellsOf 32 = 1 := by kernel_rfl
  have k3 : Try.prog.cellsOf 3 = 1 := by kernel_rfl
  obtain ⟨ys, n, _, hy, _, hyl, hg⟩ := DataW.trod_struct Try.underlying35 h
  obtain ⟨y0, y1, y2, y3, y4, rfl⟩ := list5N hyl
  obtain ⟨c0, c1, c2, c3, c4, rfl⟩ := list5N hcl
  have g0 : DataW.trod enc Try.prog W 0 (fun _ => true) true n 32 (([c0, c1, c2, c3, c4].drop 0).take (Try.prog.cellsOf 32)) = some y0 := hg 0 _ rfl
  have g1 : DataW.trod enc Try.prog W 0 (fun _ => true) true n 33 (([c0, c1, c2, c3, c4].drop 1).take (Try.prog.cellsOf 33)) = some y1 := hg 1 _ rfl
  have g2 : DataW.trod enc Try.prog W 0 (fun _ => true) true n 33 (([c0, c1, c2, c3, c4].drop 2).take (Try.prog.cellsOf 33)) = some y2 := hg 2 _ rfl
  have g3 : DataW.trod enc Try.prog W 0 (fun _ => true) true n 3 (([c0, c1, c2, c3, c4].drop 3).take (Try.prog.cellsOf 3)) = some y3 := hg 3 _ rfl
  have g4 : DataW.trod enc Try.prog W 0 (fun _ => true) true n 3 (([c0, c1, c2, c3, c4].drop 4).take (Try.prog.cellsOf 3)) = some y4 := hg 4 _ rfl
  simp only [k1, k2, k3, List.drop_zero, List.drop_succ_cons, List.take_succ_cons, List.take_zero] at g0 g1 g2 g3 g4
  subst hy
  have hw2 : (DataW.weightsEach Try.prog [32, 33, 33, 3, 3] [y0.1, y1.1, y2.1, y3.1, y4.1]).all (· ≤ reachBytes) = true := by
    have e : DataW.weights Try.prog 35 (.agg [y0.1, y1.1, y2.1, y3.1, y4.1]) = DataW.weightsEach Try.prog [32, 33, 33, 3, 3] [y0.1, y1.1, y2.1, y3.1, y4.1] := by
      rw [DataW.weights, Try.underlying35]
      rfl
    rw [← e]
    exact hw
  obtain ⟨_, q1⟩ := reach_cons hw2
  obtain ⟨q2, q3⟩ := reach_cons q1
  obtain ⟨q4, _⟩ := reach_cons q3
  obtain ⟨a0, l0, d0, e0⟩ := Go.Joins.slice_form Try.underlying33 g1
  obtain ⟨a1, l1, d1, e1⟩ := Go.Joins.slice_form Try.underlying33 g2
  obtain ⟨z0, e2, _, w0⟩ := DataW.trod_int Try.underlying32 g0
  obtain ⟨z3, e3, _, w3⟩ := DataW.trod_int Try.underlying3 g3
  obtain ⟨z4, e4, _, w4⟩ := DataW.trod_int Try.underlying3 g4
  simp only [List.cons.injEq, and_true] at e0 e1 e2 e3 e4
  subst e0 e1 e2 e3 e4
  obtain ⟨zs, hl, hcp, hfi⟩ := row_read Try.underlying33 Try.underlying3 k3 ⟨n, g1⟩
  obtain ⟨zs', hl', hcp', hfi'⟩ := row_read Try.underlying33 Try.underlying3 k3 ⟨n, g2⟩
  have hr := len_reach (k := 8) Try.underlying33 (by kernel_rfl) ⟨n, g1⟩ q2
  have hr' := len_reach (k := 8) Try.underlying33 (by kernel_rfl) ⟨n, g2⟩ q4
  have b0 := fits_u8 w0
  have b3 := bounds_i64 w3
  have b4 := bounds_i64 w4
  have b3' : -9223372036854775808 ≤ z3 ∧ z3 < 9223372036854775808 := by omega
  have b4' : -9223372036854775808 ≤ z4 ∧ z4 < 9223372036854775808 := by omega
  exact ⟨⟨z0, a0, l0, d0, a1, l1, d1, z3, z4, zs, zs'⟩, ⟨hl, hl', hcp, hcp', (show l0 ≤ _ by omega), (show l1 ≤ _ by omega), b0, b3', b4'⟩,
    ⟨fun z hz => by have := bounds_i64 (hfi z hz); omega, fun z hz => by have := bounds_i64 (hfi' z hz); omega, row_nil Try.underlying33 Try.underlying3 k3 ⟨n, g1⟩, row_nil Try.underlying33 Try.underlying3 k3 ⟨n, g2⟩⟩,
    hat 0 (by omega), hat 1 (by omega), hat 2 (by omega), hat 3 (by omega), hat 4 (by omega)⟩

end

theorem nodes_read {H : Type} {enc : TypeId × Value → H} {W : World} {a : Option Addr} {len cap : Nat} {d : DataW H} {ps : List MemPlace}
    (h : DataW.Trod enc Try.prog W 0 (fun _ => true) true 22 (.slice a len cap) d ps) (hw : (DataW.weights Try.prog 22 d).all (· ≤ reachBytes) = true) :
    ∃ ns : List Nd, NsIn W a len ns ∧ len ≤ cap ∧ (a = none → cap = 0) ∧ (∀ x ∈ ns, x.Fit) := by
  obtain ⟨fuel, hf⟩ := h
  rcases Go.Deep.open_slice Try.underlying22 hf with ⟨hcs, _⟩ | ⟨ad, l, c, m, n, D, Pl, hcs, _, hl, hm, hmm, hx, hi⟩
  · simp [Value.cells] at hcs
    obtain ⟨rfl, rfl, rfl⟩ := hcs
    exact ⟨[], ⟨rfl, fun h => absurd h (by omega)⟩, Nat.le_refl _, fun _ => rfl, fun x hx => by cases hx⟩
  · simp [Value.cells] at hcs
    obtain ⟨rfl, rfl, rfl⟩ := hcs
    simp at hmm
    have hd := congrArg Prod.fst hx
    simp only at hd
    subst hd
    simp only [DataW.weights, Try.underlying22, List.all_cons, List.all_append, Bool.and_eq_true] at hw
    have hone : ∀ i, i < len → ∃ x : Nd, x.Ok W ∧ x.Fit ∧ W.cell? (ad.add (i * 5 + 0)) = some (.int .u8 x.kd) ∧ W.cell? (ad.add (i * 5 + 1)) = some (.slice x.I x.ni x.ci) ∧ W.cell? (ad.add (i * 5 + 2)) = some (.slice x.S x.ns x.cs) ∧ W.cell? (ad.add (i * 5 + 3)) = some (.int .i64 x.N) ∧ W.cell? (ad.add (i * 5 + 4)) = some (.int .i64 x.P) := by
      intro i hil
      obtain ⟨cs', hc, ht⟩ := hi i (by omega)
      rw [nodeC10] at hc
      obtain ⟨x, hx1, hx2, hx3, hx4, hx5, hx6, hx7⟩ := node_one10 hc ht (weights_elem10 hw.2.1 (List.mem_map.2 ⟨i, List.mem_range.2 hil, rfl⟩))
      rw [Go.Deep.add_add] at hx3 hx4 hx5 hx6 hx7
      exact ⟨x, hx1, hx2, hx3, hx4, hx5, hx6, hx7⟩
    have hall : ∃ f : Nat → Nd, ∀ i, i < len → (f i).Ok W ∧ (f i).Fit ∧ W.cell? (ad.add (i * 5 + 0)) = some (.int .u8 (f i).kd) ∧ W.cell? (ad.add (i * 5 + 1)) = some (.slice (f i).I (f i).ni (f i).ci) ∧ W.cell? (ad.add (i * 5 + 2)) = some (.slice (f i).S (f i).ns (f i).cs) ∧ W.cell? (ad.add (i * 5 + 3)) = some (.int .i64 (f i).N) ∧ W.cell? (ad.add (i * 5 + 4)) = some (.int .i64 (f i).P) :=
      ⟨fun i => if hil : i < len then Classical.choose (hone i hil) else ⟨0, none, 0, 0, none, 0, 0, 0, 0, [], []⟩, fun i hil => by
        simp only [dif_pos hil]
        exact Classical.choose_spec (hone i hil)⟩
    obtain ⟨f, hfo⟩ := hall
    refine ⟨(List.range len).map f, ⟨by simp, fun hn => ?_⟩, by omega, (fun h => by cases h), fun x hx => ?_⟩
    · obtain ⟨b, off, spot⟩ := ad
      have h0 := (hfo 0 hn).2.2.1
      have hspot : spot = none := by simpa [Addr.add] using World.cell?_spot h0
      subst hspot
      have hb : b < W.heap.size := World.block_lt_of_cell? W _ h0
      refine ⟨b, off, rfl, hb, fun j t ht => ?_⟩
      obtain ⟨hjl, hje⟩ := List.getElem?_eq_some_iff.1 ht
      have hj : j < len := by simpa using hjl
      have hf' : f j = t := by simpa using hje
      obtain ⟨h1, h2, h3, h4, h5, h6, h7⟩ := hfo j hj
      rw [hf', Addr.add_lit] at h3 h4 h5 h6 h7
      rw [hf'] at h1
      rw [← Nat.add_assoc] at h4 h5 h6 h7
      exact ⟨by rwa [Nat.add_zero] at h3, h4, h5, h6, h7, h1⟩
    · obtain ⟨i, hi2, rfl⟩ := List.mem_map.1 hx
      exact (hfo i (List.mem_range.1 hi2)).2.1

/-- A graph, by value. -/
theorem graph_read {H : Type} {enc : TypeId × Value → H} {W : World} {r : Reach} {base : Nat} {v : Value} {d : DataW H} {ps : List MemPlace} (hv : Value.okWide Try.prog W r base 24 v) (h : DataW.Trod enc Try.prog W 0 (fun _ => true) true 24 v d ps)
    (hw : (DataW.weights Try.prog 24 d).all (· ≤ reachBytes) = true) :
    ∃ (A : Option Addr) (n c : Nat) (ns : List Nd), v = .agg #[.slice A n c] ∧ NsIn W A n ns ∧ n ≤ c ∧ (A = none → c = 0) ∧ (∀ x ∈ ns, x.Fit) ∧ n * 72 ≤ 140737488351232 := by
  obtain ⟨cs, rfl, hsz⟩ := okWide_struct Try.underlying24 hv
  have k0 : Try.prog.cellsOf 24 = 1 := by kernel_rfl
  have k1 : Try.prog.cellsOf 22 = 1 := by kernel_rfl
  obtain ⟨l⟩ := cs
  obtain ⟨c0, rfl⟩ := list1N (hsz.trans k0)
  obtain ⟨fuel, hf⟩ := h
  obtain ⟨ys, n, _, hy, _, hyl, hg⟩ := DataW.trod_struct Try.underlying24 hf
  obtain ⟨y0, rfl⟩ := list1N hyl
  have g0 : DataW.trod enc Try.prog W 0 (fun _ => true) true n 22 (([c0].drop 0).take (Try.prog.cellsOf 22)) = some y0 := hg 0 _ rfl
  simp only [k1, List.drop_zero, List.take_succ_cons, List.take_zero] at g0
  have hd' : d = .agg [y0.1] := congrArg Prod.fst hy
  subst hd'
  have hw2 : (DataW.weightsEach Try.prog [22] [y0.1]).all (· ≤ reachBytes) = true := by
    have e : DataW.weights Try.prog 24 (.agg [y0.1]) = DataW.weightsEach Try.prog [22] [y0.1] := by
      rw [DataW.weights, Try.underlying24]
      try rfl
    rw [← e]
    exact hw
  obtain ⟨q0, _⟩ := reach_cons hw2
  obtain ⟨a0, l0, d0, e0⟩ := Go.Joins.slice_form Try.underlying22 g0
  simp only [List.cons.injEq, and_true] at e0
  subst e0
  obtain ⟨ns, h1, h2, h3, h4⟩ := nodes_read ⟨n, g0⟩ q0
  have hr := len_reach (k := 72) Try.underlying22 (by kernel_rfl) ⟨n, g0⟩ q0
  exact ⟨a0, l0, d0, ns, rfl, h1, h2, h3, h4, hr⟩

end Go.Proofs.Ytdlhhkegkfhmoaa
