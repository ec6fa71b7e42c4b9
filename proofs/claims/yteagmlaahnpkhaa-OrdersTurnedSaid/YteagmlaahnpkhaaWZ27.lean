/- Merged: Frame, Frame6, Frame12, Next12. -/
import Derived.Test.YteagmlaahnpkhaaWZ00
import Derived.ProofKit
import Derived.OpenShut
import Derived.ShutString
import Derived.ChangeOld
import Derived.Below
import Derived.SizedLaws
import Derived.Lib.SmallJoins
import Derived.Test.YteagmlaahnpkhaaWZ01
import Derived.Deep.Fields
import Derived.Test.YteagmlaahnpkhaaWZ11
import Derived.Deep.Slices
import Derived.Test.YteagmlaahnpkhaaWZ26
namespace Go.Proofs.Yteagmlaahnpkhaa

section
open Go.ChangeShapes Go.WideShapes Go.ChangeAt Go.RowKit

theorem row_read {H : Type} {enc : TypeId × Value → H} {P : Program} {W : World} {t e : TypeId} {k : IntKind} {a : Option Addr} {len cap : Nat} {d : DataW H} {ps : List MemPlace}
    (ht : P.underlying t = some (.slice e)) (he : P.underlying e = some (.int k)) (hc : P.cellsOf e = 1) (h : DataW.Trod enc P W 0 (fun _ => true) true t (.slice a len cap) d ps) :
    ∃ zs : List Int, Lies W a len (zs.map (Value.int k)) ∧ len ≤ cap ∧ ∀ z ∈ zs, (Lit.int k z).wf = true := by
  obtain ⟨fuel, hf⟩ := h
  rcases open_ints ht he hc hf with ⟨hcs, _⟩ | ⟨x, l, c, zs, hcs, _, hl, hm, hz, _, hcell, hwz⟩
  · simp [Value.cells] at hcs
    obtain ⟨rfl, rfl, rfl⟩ := hcs
    exact ⟨[], Lies.nothing, Nat.le_refl _, by simp⟩
  · simp [Value.cells] at hcs
    obtain ⟨rfl, rfl, rfl⟩ := hcs
    have hzl : zs.length = cap := by simpa using hz
    refine ⟨zs.take len, ⟨by simp; omega, fun hn => ?_⟩, hl, fun z hz => hwz z (List.mem_of_mem_take hz)⟩
    obtain ⟨b, o, rfl, hx⟩ := ints_at hcell (by omega)
    refine ⟨b, o, rfl, ?_, fun j hj => ?_⟩
    · exact World.block_lt_of_cell? W _ (hx 0 (by omega))
    · rw [hx j (by omega), List.getElem?_map, List.getElem?_take, if_pos hj, List.getElem?_eq_getElem (by omega)]
      simp [List.getD, show j < zs.length by omega]

theorem row_nil {H : Type} {enc : TypeId × Value → H} {P : Program} {W : World} {t e : TypeId} {k : IntKind} {a : Option Addr} {len cap : Nat} {d : DataW H} {ps : List MemPlace}
    (ht : P.underlying t = some (.slice e)) (he : P.underlying e = some (.int k)) (hc : P.cellsOf e = 1) (h : DataW.Trod enc P W 0 (fun _ => true) true t (.slice a len cap) d ps) : a = none → cap = 0 := by
  intro ha
  subst ha
  obtain ⟨fuel, hf⟩ := h
  rcases open_ints ht he hc hf with ⟨hcs, _⟩ | ⟨x, l, c, zs, hcs, _⟩
  · simp [Value.cells] at hcs
    exact hcs.2
  · simp [Value.cells] at hcs

theorem fits_u8 {n : Int} (h : (Lit.int .u8 n).wf = true) : 0 ≤ n ∧ n < 256 := by have := bounds_u8 h; omega

theorem fits_u32 {n : Int} (h : (Lit.int .u32 n).wf = true) : 0 ≤ n ∧ n < 4294967296 := by have := bounds_u32 h; omega

theorem fits_i32 {n : Int} (h : (Lit.int .i32 n).wf = true) : -2147483648 ≤ n ∧ n < 2147483648 := by have := bounds_i32 h; omega

/-- The form's own reach, of a slice that was read. -/
theorem len_reach {H : Type} {enc : TypeId × Value → H} {P : Program} {W : World} {t e : TypeId} {a : Option Addr} {len cap k : Nat} {d : DataW H} {ps : List MemPlace}
    (ht : P.underlying t = some (.slice e)) (hk : P.bytesOf e = k) (h : DataW.Trod enc P W 0 (fun _ => true) true t (.slice a len cap) d ps) (hw : (DataW.weights P t d).all (· ≤ reachBytes) = true) : len * k ≤ 140737488351232 := by
  have hl := Go.Joins.sliceLen_Trod ht h
  cases d with
  | slice el sp =>
    simp only [DataW.weights, ht, List.all_cons, Bool.and_eq_true, hk, reachBytes] at hw
    have hl' : el.length = len := hl
    have h1 : (el.length + sp.length) * k ≤ 140737488351232 := of_decide_eq_true hw.1
    rw [hl', Nat.add_mul] at h1
    exact Nat.le_trans (Nat.le_add_right _ _) h1
  | _ =>
    have h0 : 0 = len := hl
    rw [← h0, Nat.zero_mul]
    omega

theorem reach_cons {H : Type} {P : Program} {t : TypeId} {ts : List TypeId} {d : DataW H} {ds : List (DataW H)} (h : (DataW.weightsEach P (t :: ts) (d :: ds)).all (· ≤ reachBytes) = true) :
    (DataW.weights P t d).all (· ≤ reachBytes) = true ∧ (DataW.weightsEach P ts ds).all (· ≤ reachBytes) = true := by
  simpa only [DataW.weightsEach, List.all_append, Bool.and_eq_true] using h

theorem reach_array2 {H : Type} {P : Program} {t e : TypeId} {n : Nat} {d0 d1 : DataW H} (ht : P.underlying t = some (.array n e)) (h : (DataW.weights P t (.agg [d0, d1])).all (· ≤ reachBytes) = true) :
    (DataW.weights P e d0).all (· ≤ reachBytes) = true ∧ (DataW.weights P e d1).all (· ≤ reachBytes) = true := by
  simpa only [DataW.weights, ht, DataW.weightsAll, List.all_append, Bool.and_eq_true, List.append_nil] using h

/-- An array of two slices, by value, opened. -/
theorem array2_read {H : Type} {enc : TypeId × Value → H} {P : Program} {W : World} {r : Reach} {base : Nat} {t e q : TypeId} {v : Value} {d : DataW H} {ps : List MemPlace}
    (ht : P.underlying t = some (.array 2 e)) (he : P.underlying e = some (.slice q)) (hc : P.cellsOf t = 2) (hc1 : P.cellsOf e = 1) (hv : Value.okWide P W r base t v) (h : DataW.Trod enc P W 0 (fun _ => true) true t v d ps) :
    ∃ (a0 a1 : Option Addr) (l0 c0 l1 c1 : Nat) (d0 d1 : DataW H) (p0 p1 : List MemPlace), v = .agg #[.slice a0 l0 c0, .slice a1 l1 c1] ∧ d = .agg [d0, d1] ∧ ps = p0 ++ p1 ∧
      DataW.Trod enc P W 0 (fun _ => true) true e (.slice a0 l0 c0) d0 p0 ∧ DataW.Trod enc P W 0 (fun _ => true) true e (.slice a1 l1 c1) d1 p1 := by
  obtain ⟨cs, rfl, hsz⟩ : ∃ cs, v = .agg cs ∧ cs.size = P.cellsOf t := by
    cases v <;> simp_all [Value.okWide]
  obtain ⟨x0, x1, rfl⟩ := Go.Joins.array2 (hsz.trans hc)
  obtain ⟨fuel, hf⟩ := h
  obtain ⟨xs, m, _, hx, _, hl, hel⟩ := DataW.trod_array ht hf
  have e0 := hel 0 (by omega)
  have e1 := hel 1 (by omega)
  rw [hc1] at e0 e1
  match xs, hl with
  | [y0, y1], _ =>
    simp [Value.cells] at e0 e1 hx
    obtain ⟨a0, l0, c0, h0⟩ := Go.Joins.slice_form he e0
    obtain ⟨a1, l1, c1, h1⟩ := Go.Joins.slice_form he e1
    simp only [List.cons.injEq, and_true] at h0 h1
    subst h0
    subst h1
    exact ⟨a0, a1, l0, c0, l1, c1, y0.1, y1.1, y0.2, y1.2, rfl, hx.1, hx.2, ⟨m, by simpa [Value.cells] using e0⟩, ⟨m, by simpa [Value.cells] using e1⟩⟩

end

section
open Go.ChangeShapes Go.WideShapes Go.ChangeAt Go.RowKit
set_option maxRecDepth 100000

theorem list2T {α : Type} {l : List α} (h : l.length = 2) : ∃ a b, l = [a, b] := by
  match l, h with
  | [a, b], _ => exact ⟨a, b, rfl⟩

end

section
open Go.ChangeShapes Go.WideShapes Go.ChangeAt Go.RowKit
set_option linter.unusedVariables false
set_option linter.unusedSimpArgs false
set_option maxRecDepth 100000

theorem weights_elem10 {H : Type} {P : Program} {e : TypeId} {elems : List (DataW H)} {d : DataW H} (h : (DataW.weightsAll P e elems).all (· ≤ reachBytes) = true) (hd : d ∈ elems) : (DataW.weights P e d).all (· ≤ reachBytes) = true := by
  induction elems with
  | nil => cases hd
  | cons x r ih =>
    simp only [DataW.weightsAll, List.all_append, Bool.and_eq_true] at h
    rcases List.mem_cons.1 hd with rfl | hd
    · exact h.1
    · exact ih h.2 hd

theorem list5N {α : Type} {l : List α} (h : l.length = 5) : ∃ a b c d e, l = [a, b, c, d, e] := by
  match l, h with
  | [a, b, c, d, e], _ => exact ⟨a, b, c, d, e, rfl⟩

theorem list1N {α : Type} {l : List α} (h : l.length = 1) : ∃ a, l = [a] := by
  match l, h with
  | [a], _ => exact ⟨a, rfl⟩

/-- Its lists' numbers are such numbers. -/
def Nd.Fit (x : Nd) : Prop := (∀ z ∈ x.xs, -9223372036854775808 ≤ z ∧ z < 9223372036854775808) ∧ (∀ z ∈ x.sh, -9223372036854775808 ≤ z ∧ z < 9223372036854775808) ∧ (x.I = none → x.ci = 0) ∧ (x.S = none → x.cs = 0)

section
variable {H : Type} {enc : TypeId × Value → H} {W : World}

theorem nodeC10 : Try.prog.cellsOf 33 = 5 := by kernel_rfl

theorem node_one10 {A : Addr} {cs : List Value} {fuel : Nat} {y : DataW H × List MemPlace} (hc : W.cells? 0 A 5 = some cs) (h : DataW.trod enc Try.prog W 0 (fun _ => true) true fuel 33 cs = some y)
    (hw : (DataW.weights Try.prog 33 y.1).all (· ≤ reachBytes) = true) : ∃ x : Nd, x.Ok W ∧ x.Fit ∧ W.cell? (A.add 0) = some (.int .u8 x.kd) ∧ W.cell? (A.add 1) = some (.slice x.I x.ni x.ci) ∧ W.cell? (A.add 2) = some (.slice x.S x.ns x.cs) ∧ W.cell? (A.add 3) = some (.int .i64 x.N) ∧ W.cell? (A.add 4) = some (.int .i64 x.P) := by
  obtain ⟨_, hcl, hat⟩ := World.cells?_some hc
  have k1 : Try.prog.cellsOf 27 = 1 := by kernel_rfl
  have k2 : Try.prog.cellsOf 31 = 1 := by kernel_rfl
  have k3 : Try.prog.cellsOf 3 = 1 := by kernel_rfl
  obtain ⟨ys, n, _, hy, _, hyl, hg⟩ := DataW.trod_struct Try.underlying33 h
  obtain ⟨y0, y1, y2, y3, y4, rfl⟩ := list5N hyl
  obtain ⟨c0, c1, c2, c3, c4, rfl⟩ := list5N hcl
  have g0 : DataW.trod enc Try.prog W 0 (fun _ => true) true n 31 (([c0, c1, c2, c3, c4].drop 0).take (Try.prog.cellsOf 31)) = some y0 := hg 0 _ rfl
  have g1 : DataW.trod enc Try.prog W 0 (fun _ => true) true n 27 (([c0, c1, c2, c3, c4].drop 1).take (Try.prog.cellsOf 27)) = some y1 := hg 1 _ rfl
  have g2 : DataW.trod enc Try.prog W 0 (fun _ => true) true n 27 (([c0, c1, c2, c3, c4].drop 2).take (Try.prog.cellsOf 27)) = some y2 := hg 2 _ rfl
  have g3 : DataW.trod enc Try.prog W 0 (fun _ => true) true n 3 (([c0, c1, c2, c3, c4].drop 3).take (Try.prog.cellsOf 3)) = some y3 := hg 3 _ rfl
  have g4 : DataW.trod enc Try.prog W 0 (fun _ => true) true n 3 (([c0, c1, c2, c3, c4].drop 4).take (Try.prog.cellsOf 3)) = some y4 := hg 4 _ rfl
  simp only [k1, k2, k3, List.drop_zero, List.drop_succ_cons, List.take_succ_cons, List.take_zero] at g0 g1 g2 g3 g4
  subst hy
  have hw2 : (DataW.weightsEach Try.prog [31, 27, 27, 3, 3] [y0.1, y1.1, y2.1, y3.1, y4.1]).all (· ≤ reachBytes) = true := by
    have e : DataW.weights Try.prog 33 (.agg [y0.1, y1.1, y2.1, y3.1, y4.1]) = DataW.weightsEach Try.prog [31, 27, 27, 3, 3] [y0.1, y1.1, y2.1, y3.1, y4.1] := by
      rw [DataW.weights, Try.underlying33]
      rfl
    rw [← e]
    exact hw
  obtain ⟨_, q1⟩ := reach_cons hw2
  obtain ⟨q2, q3⟩ := reach_cons q1
  obtain ⟨q4, _⟩ := reach_cons q3
  obtain ⟨a0, l0, d0, e0⟩ := Go.Joins.slice_form Try.underlying27 g1
  obtain ⟨a1, l1, d1, e1⟩ := Go.Joins.slice_form Try.underlying27 g2
  obtain ⟨z0, e2, _, w0⟩ := DataW.trod_int Try.underlying31 g0
  obtain ⟨z3, e3, _, w3⟩ := DataW.trod_int Try.underlying3 g3
  obtain ⟨z4, e4, _, w4⟩ := DataW.trod_int Try.underlying3 g4
  simp only [List.cons.injEq, and_true] at e0 e1 e2 e3 e4
  subst e0 e1 e2 e3 e4
  obtain ⟨zs, hl, hcp, hfi⟩ := row_read Try.underlying27 Try.underlying3 k3 ⟨n, g1⟩
  obtain ⟨zs', hl', hcp', hfi'⟩ := row_read Try.underlying27 Try.underlying3 k3 ⟨n, g2⟩
  have hr := len_reach (k := 8) Try.underlying27 (by kernel_rfl) ⟨n, g1⟩ q2
  have hr' := len_reach (k := 8) Try.underlying27 (by kernel_rfl) ⟨n, g2⟩ q4
  have b0 := fits_u8 w0
  have b3 := bounds_i64 w3
  have b4 := bounds_i64 w4
  have b3' : -9223372036854775808 ≤ z3 ∧ z3 < 9223372036854775808 := by omega
  have b4' : -9223372036854775808 ≤ z4 ∧ z4 < 9223372036854775808 := by omega
  exact ⟨⟨z0, a0, l0, d0, a1, l1, d1, z3, z4, zs, zs'⟩, ⟨hl, hl', hcp, hcp', (show l0 ≤ _ by omega), (show l1 ≤ _ by omega), b0, b3', b4'⟩,
    ⟨fun z hz => by have := bounds_i64 (hfi z hz); omega, fun z hz => by have := bounds_i64 (hfi' z hz); omega, row_nil Try.underlying27 Try.underlying3 k3 ⟨n, g1⟩, row_nil Try.underlying27 Try.underlying3 k3 ⟨n, g2⟩⟩,
    hat 0 (by omega), hat 1 (by omega), hat 2 (by omega), hat 3 (by omega), hat 4 (by omega)⟩

end

theorem nodes_read {H : Type} {enc : TypeId × Value → H} {W : World} {a : Option Addr} {len cap : Nat} {d : DataW H} {ps : List MemPlace}
    (h : DataW.Trod enc Try.prog W 0 (fun _ => true) true 22 (.slice a len cap) d ps) (hw : (DataW.weights Try.prog 22 d).all (· ≤ reachBytes) = true) :
    ∃ ns : List Nd, NsIn W a len ns ∧ len ≤ cap ∧ (a = none → cap = 0) ∧ (∀ x ∈ ns, x.Fit) := by
  obtain ⟨fuel, hf⟩ := h
  rcases Go.Deep.open_slice Try.underlying22 hf with ⟨hcs, _⟩ | ⟨ad, l, c, m, n, D, Pl, hcs, _, hl, hm, hmm, hx, hi⟩
  · simp [Value.cells] at hcs
    obtain ⟨rfl, rfl, rfl⟩ := hcs
    exact ⟨[], ⟨rfl, fun h => absurd h (by omega)⟩, Nat.le_refl _, fun _ => rfl, fun x hx => by cases hx⟩
  · simp [Value.cells] at hcs
    obtain ⟨rfl, rfl, rfl⟩ := hcs
    simp at hmm
    have hd := congrArg Prod.fst hx
    simp only at hd
    subst hd
    simp only [DataW.weights, Try.underlying22, List.all_cons, List.all_append, Bool.and_eq_true] at hw
    have hone : ∀ i, i < len → ∃ x : Nd, x.Ok W ∧ x.Fit ∧ W.cell? (ad.add (i * 5 + 0)) = some (.int .u8 x.kd) ∧ W.cell? (ad.add (i * 5 + 1)) = some (.slice x.I x.ni x.ci) ∧ W.cell? (ad.add (i * 5 + 2)) = some (.slice x.S x.ns x.cs) ∧ W.cell? (ad.add (i * 5 + 3)) = some (.int .i64 x.N) ∧ W.cell? (ad.add (i * 5 + 4)) = some (.int .i64 x.P) := by
      intro i hil
      obtain ⟨cs', hc, ht⟩ := hi i (by omega)
      rw [nodeC10] at hc
      obtain ⟨x, hx1, hx2, hx3, hx4, hx5, hx6, hx7⟩ := node_one10 hc ht (weights_elem10 hw.2.1 (List.mem_map.2 ⟨i, List.mem_range.2 hil, rfl⟩))
      rw [Go.Deep.add_add] at hx3 hx4 hx5 hx6 hx7
      exact ⟨x, hx1, hx2, hx3, hx4, hx5, hx6, hx7⟩
    have hall : ∃ f : Nat → Nd, ∀ i, i < len → (f i).Ok W ∧ (f i).Fit ∧ W.cell? (ad.add (i * 5 + 0)) = some (.int .u8 (f i).kd) ∧ W.cell? (ad.add (i * 5 + 1)) = some (.slice (f i).I (f i).ni (f i).ci) ∧ W.cell? (ad.add (i * 5 + 2)) = some (.slice (f i).S (f i).ns (f i).cs) ∧ W.cell? (ad.add (i * 5 + 3)) = some (.int .i64 (f i).N) ∧ W.cell? (ad.add (i * 5 + 4)) = some (.int .i64 (f i).P) :=
      ⟨fun i => if hil : i < len then Classical.choose (hone i hil) else ⟨0, none, 0, 0, none, 0, 0, 0, 0, [], []⟩, fun i hil => by
        simp only [dif_pos hil]
        exact Classical.choose_spec (hone i hil)⟩
    obtain ⟨f, hfo⟩ := hall
    refine ⟨(List.range len).map f, ⟨by simp, fun hn => ?_⟩, by omega, (fun h => by cases h), fun x hx => ?_⟩
    · obtain ⟨b, off, spot⟩ := ad
      have h0 := (hfo 0 hn).2.2.1
      have hspot : spot = none := by simpa [Addr.add] using World.cell?_spot h0
      subst hspot
      have hb : b < W.heap.size := World.block_lt_of_cell? W _ h0
      refine ⟨b, off, rfl, hb, fun j t ht => ?_⟩
      obtain ⟨hjl, hje⟩ := List.getElem?_eq_some_iff.1 ht
      have hj : j < len := by simpa using hjl
      have hf' : f j = t := by simpa using hje
      obtain ⟨h1, h2, h3, h4, h5, h6, h7⟩ := hfo j hj
      rw [hf', Addr.add_lit] at h3 h4 h5 h6 h7
      rw [hf'] at h1
      rw [← Nat.add_assoc] at h4 h5 h6 h7
      exact ⟨by rwa [Nat.add_zero] at h3, h4, h5, h6, h7, h1⟩
    · obtain ⟨i, hi2, rfl⟩ := List.mem_map.1 hx
      exact (hfo i (List.mem_range.1 hi2)).2.1

/-- A graph, by value. -/
theorem graph_read {H : Type} {enc : TypeId × Value → H} {W : World} {r : Reach} {base : Nat} {v : Value} {d : DataW H} {ps : List MemPlace} (hv : Value.okWide Try.prog W r base 24 v) (h : DataW.Trod enc Try.prog W 0 (fun _ => true) true 24 v d ps)
    (hw : (DataW.weights Try.prog 24 d).all (· ≤ reachBytes) = true) :
    ∃ (A : Option Addr) (n c : Nat) (ns : List Nd), v = .agg #[.slice A n c] ∧ NsIn W A n ns ∧ n ≤ c ∧ (A = none → c = 0) ∧ (∀ x ∈ ns, x.Fit) ∧ n * 72 ≤ 140737488351232 := by
  obtain ⟨cs, rfl, hsz⟩ := okWide_struct Try.underlying24 hv
  have k0 : Try.prog.cellsOf 24 = 1 := by kernel_rfl
  have k1 : Try.prog.cellsOf 22 = 1 := by kernel_rfl
  obtain ⟨l⟩ := cs
  obtain ⟨c0, rfl⟩ := list1N (hsz.trans k0)
  obtain ⟨fuel, hf⟩ := h
  obtain ⟨ys, n, _, hy, _, hyl, hg⟩ := DataW.trod_struct Try.underlying24 hf
  obtain ⟨y0, rfl⟩ := list1N hyl
  have g0 : DataW.trod enc Try.prog W 0 (fun _ => true) true n 22 (([c0].drop 0).take (Try.prog.cellsOf 22)) = some y0 := hg 0 _ rfl
  simp only [k1, List.drop_zero, List.take_succ_cons, List.take_zero] at g0
  have hd' : d = .agg [y0.1] := congrArg Prod.fst hy
  subst hd'
  have hw2 : (DataW.weightsEach Try.prog [22] [y0.1]).all (· ≤ reachBytes) = true := by
    have e : DataW.weights Try.prog 24 (.agg [y0.1]) = DataW.weightsEach Try.prog [22] [y0.1] := by
      rw [DataW.weights, Try.underlying24]
      try rfl
    rw [← e]
    exact hw
  obtain ⟨q0, _⟩ := reach_cons hw2
  obtain ⟨a0, l0, d0, e0⟩ := Go.Joins.slice_form Try.underlying22 g0
  simp only [List.cons.injEq, and_true] at e0
  subst e0
  obtain ⟨ns, h1, h2, h3, h4⟩ := nodes_read ⟨n, g0⟩ q0
  have hr := len_reach (k := 72) Try.underlying22 (by kernel_rfl) ⟨n, g0⟩ q0
  exact ⟨a0, l0, d0, ns, rfl, h1, h2, h3, h4, hr⟩

end

section
open Go.RowKit
set_option linter.unusedVariables false
set_option linter.unusedSimpArgs false
set_option maxRecDepth 100000

set_option maxHeartbeats 32000000 in
theorem onext12_any (A B : Option Addr) (n c m d : Nat) (ns : List Nd) (l : List Int) (a : Int) (w : World) (h : NsIn w A n ns) (hc : n ≤ c) (hn : n ≤ 70368744177664) (hB : Lies w B m (l.map (Value.int .i64))) (hd : m ≤ d) (hm : m ≤ 281474976710656) (ha : 0 ≤ a ∧ a < 256) :
    Calls Try.prog 4 #[.agg #[.slice A n c], .slice B m d, .int .u8 a] w fun e w' => e = .returned (.bool true) ∧ Below w.heap.size w w' := by
  obtain ⟨W0, hW0⟩ : ∃ W0, W0 = w.alloc (.cells #[.slice A n c] 24) := ⟨_, rfl⟩
  have HB0 : Hid (Below w.heap.size w W0) := hide (by rw [hW0]; exact below_al6 (Below.refl _ _))
  have HX : Hid (BoxG W0 w.heap.size (.slice A n c)) := hide (by rw [hW0]; exact BoxG.new w _)
  have HN := hide (h.below HB0.out)
  have HL : Hid (ns.length = n) := hide h.1
  have HO := hide (hB.below HB0.out)
  have HM : Hid (l.length = m) := hide (lies_len9 hB)
  have hW0' := hW0.symm
  clear hW0 h hB
  go_enter Try.func4, Try.ntmps4
  go_wp2_with fail
  refine Calls.mono (alive12_any _) ?_
  rintro e w1 ⟨rfl, hb⟩
  have HBN := hide hb
  replace HX := hide (HX.out.kept hb)
  replace HN := hide (HN.out.below hb)
  replace HO := hide (HO.out.below hb)
  clear hb
  have c0 := HX.out.c0
  go_wp2_with fail
  refine Calls.mono (graph_size A n c ns w1 HN.out hn) ?_
  rintro e w2 ⟨r, rfl, hr0, hr1, hb⟩
  have hz : Below w1.heap.size w1 w2 := hb
  replace HBN := hide (below_nx6 HBN.out hz)
  replace HX := hide (HX.out.kept hz)
  replace HN := hide (HN.out.below hz)
  replace HO := hide (HO.out.below hz)
  clear hz
  clear hb c0
  by_cases hbig : 20000 < r
  · go_wp2_with fail
    refine Calls.mono (alive12_any _) ?_
    rintro e w3 ⟨rfl, hb⟩
    replace HBN := hide (below_nx6 HBN.out hb)
    clear hb
    go_wp2
    go_ret
    exact ⟨rfl, below_nx6 HB0.out HBN.out⟩
  have hsz := hr1 (by omega)
  have HSZ := hide hsz
  have hn2 : n ≤ 10000 := by have h1 := szN_len ns; rw [HL.out] at h1; omega
  clear hr1 hsz hr0
  by_cases hcond0 : m = 0
  · go_wp2_with fail
    refine Calls.mono (alive12_any _) ?_
    rintro e w3 ⟨rfl, hb⟩
    replace HBN := hide (below_nx6 HBN.out hb)
    clear hb
    go_wp2
    go_ret
    exact ⟨rfl, below_nx6 HB0.out HBN.out⟩
  by_cases hcond1 : 40 < m
  · go_wp2_with fail
    refine Calls.mono (alive12_any _) ?_
    rintro e w3 ⟨rfl, hb⟩
    replace HBN := hide (below_nx6 HBN.out hb)
    clear hb
    go_wp2
    go_ret
    exact ⟨rfl, below_nx6 HB0.out HBN.out⟩
  have hm40 : m ≤ 40 := by omega
  have hm1 : 1 ≤ m := by omega
  obtain ⟨Z, rfl⟩ := Int.eq_ofNat_of_zero_le ha.1
  obtain ⟨t, ht⟩ : ∃ z, z = Z % m := ⟨_, rfl⟩
  have r1 : Int.tmod (Z : Int) (m : Int) = (t : Int) := by rw [ht]; rfl
  have htm : t < m := by rw [ht]; exact Nat.mod_lt _ (by omega)
  have r2 : ¬ (m : Int) = 0 := by omega
  have r2' : ¬ m = 0 := by omega
  have r6 : ((m : Int) == 0) = false := by simp; omega
  have rz : IntKind.i64.wrap (Z : Int) = (Z : Int) := by rw [IntKind.wrap_i64]; omega
  have r3 : IntKind.i64.wrap (t : Int) = (t : Int) := by rw [IntKind.wrap_i64]; omega
  have r4 : IntKind.i64.wrap ((t : Int) - 1) = (t : Int) - 1 := by rw [IntKind.wrap_i64]; omega
  have r5 : IntKind.i64.wrap ((t : Int) - 1 + 1) = (t : Int) := by rw [IntKind.wrap_i64]; omega
  clear ht
  cases hord : ordB ns l with
  | false =>
    have cx := HX.out.c0
    have HCON := hide (next12_no A B n c m d ns l ((t : Int) - 1) _ HN.out (by omega) hc HO.out (by omega) hd (fun h => by rw [hord] at h; cases h.1))
    go_wp2_with fail
    refine Calls.mono HCON.out ?_
    rintro e x1 ⟨rfl, hb⟩
    have hz : Below w2.heap.size w2 x1 := hb
    replace HBN := hide (below_nx6 HBN.out hz)
    replace HX := hide (HX.out.kept hz)
    replace HN := hide (HN.out.below hz)
    replace HO := hide (HO.out.below hz)
    clear hz
    clear hb
    clear cx HCON
    have cx := HX.out.c0
    have HCON := hide (next12_no A B n c m d ns l ((t : Int)) _ HN.out (by omega) hc HO.out (by omega) hd (fun h => by rw [hord] at h; cases h.1))
    go_wp2_with fail
    refine Calls.mono HCON.out ?_
    rintro e x2 ⟨rfl, hb⟩
    have hz : Below x1.heap.size x1 x2 := hb
    replace HBN := hide (below_nx6 HBN.out hz)
    replace HX := hide (HX.out.kept hz)
    replace HN := hide (HN.out.below hz)
    replace HO := hide (HO.out.below hz)
    clear hz
    clear hb
    clear cx HCON
    go_wp2
    go_ret
    exact ⟨rfl, below_nx6 HB0.out HBN.out⟩
  | true =>
  have HORD := hide (ordB_parts.1 hord)
  have HN1 : Hid (1 ≤ n ∧ n ≤ 32) := hide (by have h := gphB_n (ordB_parts.1 hord).1; rw [HL.out] at h; exact h)
  have cx := HX.out.c0
  have HCON := hide (next12_ok A B n c m d t ns l ((t : Int) - 1) _ HN.out (by omega) hc HO.out (by omega) hd hord (by omega) (by omega))
  go_wp2_with fail
  refine Calls.mono HCON.out ?_
  rintro e x1 ⟨gx, rfl, hx⟩
  have HRx := hide (hx.lies2 (n := n) (by rw [nxL_len _ _ (by rw [HL.out]; exact HN1.out.1)]; exact HL.out))
  have hz : Below w2.heap.size w2 x1 := hx.1
  replace HBN := hide (below_nx6 HBN.out hz)
  replace HX := hide (HX.out.kept hz)
  replace HN := hide (HN.out.below hz)
  replace HO := hide (HO.out.below hz)
  clear hz
  clear hx
  clear cx HCON
  have cx := HX.out.c0
  have HCON := hide (next12_ok A B n c m d (t + 1) ns l ((t : Int)) _ HN.out (by omega) hc HO.out (by omega) hd hord (by omega) (by omega))
  go_wp2_with fail
  refine Calls.mono HCON.out ?_
  rintro e x2 ⟨gy, rfl, hy⟩
  have HRy := hide (hy.lies2 (n := n) (by rw [nxL_len _ _ (by rw [HL.out]; exact HN1.out.1)]; exact HL.out))
  have hz : Below x1.heap.size x1 x2 := hy.1
  replace HBN := hide (below_nx6 HBN.out hz)
  replace HX := hide (HX.out.kept hz)
  replace HN := hide (HN.out.below hz)
  replace HO := hide (HO.out.below hz)
  replace HRx := hide (HRx.out.below hz)
  clear hz
  clear hy
  clear cx HCON
  obtain ⟨bB, oB, eB, _, hx⟩ := byte_at HO.out (by omega)
  have hc1 := hx t htm
  obtain ⟨o, ho⟩ : ∃ o, o = l.getD t 0 := ⟨_, rfl⟩
  rw [← ho] at hc1
  have hoi := HORD.out.2.2.1 o (by rw [ho]; exact getD_mem (by rw [HM.out]; exact htm))
  rw [HL.out] at hoi
  obtain ⟨u, rfl⟩ := Int.eq_ofNat_of_zero_le hoi.1
  have hun : u < n := by omega
  have HLE : Hid (l[t]? = some (u : Int)) := hide (by
    have hel : t < l.length := by rw [HM.out]; exact htm
    rw [List.getElem?_eq_getElem hel, ho]
    simp [List.getD, hel])
  obtain ⟨bA, oA, x, eA, hxu, h0, h1, h2, h3, h4, hxo⟩ := HN.out.at hun
  have HXU : Hid (insN ns u = x.xs) := hide (insN_at hxu)
  have HLX : Hid (Lies x2 x.I x.ni (x.xs.map (Value.int .i64)) ∧ x.ni ≤ 70368744177664) := hide ⟨hxo.1, hxo.2.2.2.2.1⟩
  have g0 : (0 : Int) ≤ (u : Int) := by omega
  have g1 : (u : Int) < (n : Int) := by omega
  have t0 : (0 : Int) ≤ (t : Int) := by omega
  have t1 : (t : Int) < (m : Int) := by omega
  have cg := HX.out.c0
  subst eA eB
  have HKC : Hid (∀ v, Below x2.heap.size x2 v → v.cell? ⟨w.heap.size, 0, none⟩ = some (.slice (some ⟨bA, oA, none⟩) n c) ∧ v.cell? ⟨bB, oB + t, none⟩ = some (.int .i64 (u : Int)) ∧ v.cell? ⟨bA, oA + u * 5, none⟩ = some (.int .u8 x.kd) ∧ v.cell? ⟨bA, oA + u * 5 + 1, none⟩ = some (.slice x.I x.ni x.ci) ∧ v.cell? ⟨bA, oA + u * 5 + 2, none⟩ = some (.slice x.S x.ns x.cs) ∧ v.cell? ⟨bA, oA + u * 5 + 3, none⟩ = some (.int .i64 x.N) ∧ v.cell? ⟨bA, oA + u * 5 + 4, none⟩ = some (.int .i64 x.P)) := hide (fun v hv => by
    have k := fun {b o : Nat} {z : Value} (h : x2.cell? ⟨b, o, none⟩ = some z) => (hv.cell (World.block_lt_of_cell? x2 _ h)).trans h
    exact ⟨k cg, k hc1, k h0, k h1, k h2, k h3, k h4⟩)
  have hd0 : Below x2.heap.size x2 x2.drew := below_drewN (Below.refl _ _) 1
  clear hx ho hoi hxu hxo h0 h1 h2 h3 h4 hc1 cg
  go_wp2
  have hS0 : Hid (x2.drew.cell? ⟨w.heap.size, 0, none⟩ = some (.slice (some ⟨bA, oA, none⟩) n c) ∧ x2.drew.cell? ⟨bB, oB + t, none⟩ = some (.int .i64 (u : Int)) ∧ x2.drew.cell? ⟨bA, oA + u * 5, none⟩ = some (.int .u8 x.kd) ∧ x2.drew.cell? ⟨bA, oA + u * 5 + 1, none⟩ = some (.slice x.I x.ni x.ci) ∧ x2.drew.cell? ⟨bA, oA + u * 5 + 2, none⟩ = some (.slice x.S x.ns x.cs) ∧ x2.drew.cell? ⟨bA, oA + u * 5 + 3, none⟩ = some (.int .i64 x.N) ∧ x2.drew.cell? ⟨bA, oA + u * 5 + 4, none⟩ = some (.int .i64 x.P)) := hide (HKC.out _ hd0)
  refine wp_region_U (fun _ v => v.cell? ⟨w.heap.size, 0, none⟩ = some (.slice (some ⟨bA, oA, none⟩) n c) ∧ v.cell? ⟨bB, oB + t, none⟩ = some (.int .i64 (u : Int)) ∧ v.cell? ⟨bA, oA + u * 5, none⟩ = some (.int .u8 x.kd) ∧ v.cell? ⟨bA, oA + u * 5 + 1, none⟩ = some (.slice x.I x.ni x.ci) ∧ v.cell? ⟨bA, oA + u * 5 + 2, none⟩ = some (.slice x.S x.ns x.cs) ∧ v.cell? ⟨bA, oA + u * 5 + 3, none⟩ = some (.int .i64 x.N) ∧ v.cell? ⟨bA, oA + u * 5 + 4, none⟩ = some (.int .i64 x.P)) 99 (by kernel_rfl) ?_
  refine wpAnyU_take (i := 0) (oi := { dst := some 68, op := _, type := _, pos := _, after := _, guard := none }) (v := .pointer (some ⟨w.heap.size, 0, none⟩)) rfl (by kernel_rfl) (by kernel_rfl) (by kernel_rfl) (by kernel_rfl) (fun _ _ _ h => h) (yields_take rfl (fun w' hw => by obtain ⟨h1, h2, h3, h4, h5, h6, h7⟩ := hw.const; go_simp)) hS0.out ?_
  simp only [Act.put, List.setIfInBounds_toArray, List.set_cons_zero, List.set_cons_succ]
  refine wpAnyU_take (i := 1) (oi := { dst := some 69, op := _, type := _, pos := _, after := _, guard := none }) (v := .slice (some ⟨bA, oA, none⟩) n c) rfl (by kernel_rfl) (by kernel_rfl) (by kernel_rfl) (by kernel_rfl) (fun _ _ _ h => h) (yields_take rfl (fun w' hw => by obtain ⟨h1, h2, h3, h4, h5, h6, h7⟩ := hw.const; go_simp)) hS0.out ?_
  simp only [Act.put, List.setIfInBounds_toArray, List.set_cons_zero, List.set_cons_succ]
  refine wpAnyU_take (i := 2) (oi := { dst := some 70, op := _, type := _, pos := _, after := _, guard := none }) (v := .slice (some ⟨bB, oB, none⟩) m d) rfl (by kernel_rfl) (by kernel_rfl) (by kernel_rfl) (by kernel_rfl) (fun _ _ _ h => h) (yields_take rfl (fun w' hw => by obtain ⟨h1, h2, h3, h4, h5, h6, h7⟩ := hw.const; go_simp)) hS0.out ?_
  simp only [Act.put, List.setIfInBounds_toArray, List.set_cons_zero, List.set_cons_succ]
  refine wpAnyU_take (i := 3) (oi := { dst := some 71, op := _, type := _, pos := _, after := _, guard := none }) (v := .int .i64 ((t : Int) - 1)) rfl (by kernel_rfl) (by kernel_rfl) (by kernel_rfl) (by kernel_rfl) (fun _ _ _ h => h) (yields_take rfl (fun w' hw => by obtain ⟨h1, h2, h3, h4, h5, h6, h7⟩ := hw.const; go_simp)) hS0.out ?_
  simp only [Act.put, List.setIfInBounds_toArray, List.set_cons_zero, List.set_cons_succ]
  refine wpAnyU_take (i := 4) (oi := { dst := some 72, op := _, type := _, pos := _, after := _, guard := none }) (v := .int .i64 (t : Int)) rfl (by kernel_rfl) (by kernel_rfl) (by kernel_rfl) (by kernel_rfl) (fun _ _ _ h => h) (yields_take rfl (fun w' hw => by obtain ⟨h1, h2, h3, h4, h5, h6, h7⟩ := hw.const; go_simp)) hS0.out ?_
  simp only [Act.put, List.setIfInBounds_toArray, List.set_cons_zero, List.set_cons_succ]
  refine wpAnyU_take (i := 5) (oi := { dst := some 73, op := _, type := _, pos := _, after := _, guard := none }) (v := .pointer (some ⟨bB, oB + t, none⟩)) rfl (by kernel_rfl) (by kernel_rfl) (by kernel_rfl) (by kernel_rfl) (fun _ _ _ h => h) (yields_take rfl (fun w' hw => by obtain ⟨h1, h2, h3, h4, h5, h6, h7⟩ := hw.const; go_simp)) hS0.out ?_
  simp only [Act.put, List.setIfInBounds_toArray, List.set_cons_zero, List.set_cons_succ]
  refine wpAnyU_take (i := 6) (oi := { dst := some 74, op := _, type := _, pos := _, after := _, guard := none }) (v := .int .i64 (u : Int)) rfl (by kernel_rfl) (by kernel_rfl) (by kernel_rfl) (by kernel_rfl) (fun _ _ _ h => h) (yields_take rfl (fun w' hw => by obtain ⟨h1, h2, h3, h4, h5, h6, h7⟩ := hw.const; go_simp)) hS0.out ?_
  simp only [Act.put, List.setIfInBounds_toArray, List.set_cons_zero, List.set_cons_succ]
  refine wpAnyU_take (i := 7) (oi := { dst := some 75, op := _, type := _, pos := _, after := _, guard := none }) (v := .pointer (some ⟨bA, oA + u * 5, none⟩)) rfl (by kernel_rfl) (by kernel_rfl) (by kernel_rfl) (by kernel_rfl) (fun _ _ _ h => h) (yields_take rfl (fun w' hw => by obtain ⟨h1, h2, h3, h4, h5, h6, h7⟩ := hw.const; go_simp)) hS0.out ?_
  simp only [Act.put, List.setIfInBounds_toArray, List.set_cons_zero, List.set_cons_succ]
  refine wpAnyU_take (i := 8) (oi := { dst := some 76, op := _, type := _, pos := _, after := _, guard := none }) (v := .agg #[.int .u8 x.kd, .slice x.I x.ni x.ci, .slice x.S x.ns x.cs, .int .i64 x.N, .int .i64 x.P]) rfl (by kernel_rfl) (by kernel_rfl) (by kernel_rfl) (by kernel_rfl) (fun _ _ _ h => h) (yields_take rfl (fun w' hw => by obtain ⟨h1, h2, h3, h4, h5, h6, h7⟩ := hw.const; go_simp)) hS0.out ?_
  simp only [Act.put, List.setIfInBounds_toArray, List.set_cons_zero, List.set_cons_succ]
  refine wpAnyU_one (i := 9) (by kernel_rfl) rfl ?_
  intro K hK
  go_simp
  have hS1 : Hid ((x2.drew.alloc (.cells #[.int .u8 0, .slice none 0 0, .slice none 0 0, .int .i64 0, .int .i64 0] 33)).cell? ⟨w.heap.size, 0, none⟩ = some (.slice (some ⟨bA, oA, none⟩) n c) ∧ (x2.drew.alloc (.cells #[.int .u8 0, .slice none 0 0, .slice none 0 0, .int .i64 0, .int .i64 0] 33)).cell? ⟨bB, oB + t, none⟩ = some (.int .i64 (u : Int)) ∧ (x2.drew.alloc (.cells #[.int .u8 0, .slice none 0 0, .slice none 0 0, .int .i64 0, .int .i64 0] 33)).cell? ⟨bA, oA + u * 5, none⟩ = some (.int .u8 x.kd) ∧ (x2.drew.alloc (.cells #[.int .u8 0, .slice none 0 0, .slice none 0 0, .int .i64 0, .int .i64 0] 33)).cell? ⟨bA, oA + u * 5 + 1, none⟩ = some (.slice x.I x.ni x.ci) ∧ (x2.drew.alloc (.cells #[.int .u8 0, .slice none 0 0, .slice none 0 0, .int .i64 0, .int .i64 0] 33)).cell? ⟨bA, oA + u * 5 + 2, none⟩ = some (.slice x.S x.ns x.cs) ∧ (x2.drew.alloc (.cells #[.int .u8 0, .slice none 0 0, .slice none 0 0, .int .i64 0, .int .i64 0] 33)).cell? ⟨bA, oA + u * 5 + 3, none⟩ = some (.int .i64 x.N) ∧ (x2.drew.alloc (.cells #[.int .u8 0, .slice none 0 0, .slice none 0 0, .int .i64 0, .int .i64 0] 33)).cell? ⟨bA, oA + u * 5 + 4, none⟩ = some (.int .i64 x.P)) := hide (HKC.out _ (below_al6 hd0))
  refine hK.out _ _ hS1.out (fun _ => ?_)
  clear hK K hS0
  refine wpAnyU_one (i := 10) (by kernel_rfl) rfl ?_
  intro K hK
  go_simp
  have hS2 : Hid ((x2.alloc (.cells #[.int .u8 x.kd, .slice x.I x.ni x.ci, .slice x.S x.ns x.cs, .int .i64 x.N, .int .i64 x.P] 33)).drew.cell? ⟨w.heap.size, 0, none⟩ = some (.slice (some ⟨bA, oA, none⟩) n c) ∧ (x2.alloc (.cells #[.int .u8 x.kd, .slice x.I x.ni x.ci, .slice x.S x.ns x.cs, .int .i64 x.N, .int .i64 x.P] 33)).drew.cell? ⟨bB, oB + t, none⟩ = some (.int .i64 (u : Int)) ∧ (x2.alloc (.cells #[.int .u8 x.kd, .slice x.I x.ni x.ci, .slice x.S x.ns x.cs, .int .i64 x.N, .int .i64 x.P] 33)).drew.cell? ⟨bA, oA + u * 5, none⟩ = some (.int .u8 x.kd) ∧ (x2.alloc (.cells #[.int .u8 x.kd, .slice x.I x.ni x.ci, .slice x.S x.ns x.cs, .int .i64 x.N, .int .i64 x.P] 33)).drew.cell? ⟨bA, oA + u * 5 + 1, none⟩ = some (.slice x.I x.ni x.ci) ∧ (x2.alloc (.cells #[.int .u8 x.kd, .slice x.I x.ni x.ci, .slice x.S x.ns x.cs, .int .i64 x.N, .int .i64 x.P] 33)).drew.cell? ⟨bA, oA + u * 5 + 2, none⟩ = some (.slice x.S x.ns x.cs) ∧ (x2.alloc (.cells #[.int .u8 x.kd, .slice x.I x.ni x.ci, .slice x.S x.ns x.cs, .int .i64 x.N, .int .i64 x.P] 33)).drew.cell? ⟨bA, oA + u * 5 + 3, none⟩ = some (.int .i64 x.N) ∧ (x2.alloc (.cells #[.int .u8 x.kd, .slice x.I x.ni x.ci, .slice x.S x.ns x.cs, .int .i64 x.N, .int .i64 x.P] 33)).drew.cell? ⟨bA, oA + u * 5 + 4, none⟩ = some (.int .i64 x.P)) := hide (HKC.out _ (below_drewN (below_al6 (Below.refl _ _)) 1))
  refine hK.out _ _ hS2.out (fun _ => ?_)
  clear hK K hS1
  refine wpAnyU_done (by kernel_rfl) ?_ _
  clear hS2
  obtain ⟨V, hV⟩ : ∃ V, V = (x2.alloc (.cells #[.int .u8 x.kd, .slice x.I x.ni x.ci, .slice x.S x.ns x.cs, .int .i64 x.N, .int .i64 x.P] 33)).drew := ⟨_, rfl⟩
  rw [← hV]
  have HXB : Hid (BoxN V x2.heap.size x) := hide (by rw [hV]; exact BoxN.new x2 x)
  have hbv : Below x2.heap.size x2 V := by rw [hV]; exact below_drewN (below_al6 (Below.refl _ _)) 1
  replace HLX : Hid (Lies V x.I x.ni (x.xs.map (Value.int .i64)) ∧ x.ni ≤ 70368744177664) := hide ⟨HLX.out.1.below hbv, HLX.out.2⟩
  clear hV hd0 HKC
  have hz : Below x2.heap.size x2 V := hbv
  replace HBN := hide (below_nx6 HBN.out hz)
  replace HX := hide (HX.out.kept hz)
  replace HN := hide (HN.out.below hz)
  replace HO := hide (HO.out.below hz)
  replace HRx := hide (HRx.out.below hz)
  replace HRy := hide (HRy.out.below hz)
  clear hz
  have hn1 : 1 ≤ n := HN1.out.1
  have hn32 : n ≤ 32 := HN1.out.2
  have cx := HX.out.c0
  clear hbv
  go_wp2
  clear cx
  go_loopw [13] (fun v wr => ∃ j : Nat, j ≤ n - 1 ∧ v = .int .i64 j ∧ Hid (Below V.heap.size V wr)) (fun v _ => n - 1 - (intOf v).toNat)
  case atStart => exact ⟨0, Nat.zero_le _, rfl, hide (Below.refl _ _)⟩
  case round =>
    obtain ⟨j, hj, rfl, HB⟩ := hrel
    by_cases hlt : j < n - 1
    · have j0 : (0 : Int) ≤ (j : Int) := by omega
      have j1 : (j : Int) < (n : Int) - 1 := by omega
      have j2 : (j : Int) < (n : Int) := by omega
      have cb := (HXB.out.kept HB.out).cs.2.1
      have HC := hide (in12_any x.I x.ni x.ci x.xs (j : Int) wr (HLX.out.1.below HB.out) (by have := HLX.out.2; omega))
      obtain ⟨T, hT⟩ : ∃ T, T = decide ((j : Int) ∈ x.xs) := ⟨_, rfl⟩
      rw [← hT] at HC
      have HT := hide hT
      clear hT
      go_wp2_with fail
      refine Calls.mono HC.out ?_
      rintro e v1 ⟨rfl, hb⟩
      replace HB := hide (below_nx6 HB.out hb)
      clear hb HC cb
      obtain ⟨_, _, ex, _, hx⟩ := byte_at (HRx.out.below HB.out) (by omega)
      cases ex
      obtain ⟨_, _, ey, _, hy⟩ := byte_at (HRy.out.below HB.out) (by omega)
      cases ey
      have cx := hx j (by omega)
      have cy := hy j (by omega)
      rw [nxL_getD (by rw [HL.out]; exact hlt), Nat.zero_add] at cx cy
      have k1 := nx_next ns l t j _ HLE.out
      rw [Int.toNat_natCast, HXU.out] at k1
      have k2 := nxF_range ns (l.drop (t + 1)) (t + 1) j
      obtain ⟨X, hX⟩ : ∃ X, X = nxF ns (l.drop t) t j := ⟨_, rfl⟩
      obtain ⟨Y, hY⟩ : ∃ Y, Y = nxF ns (l.drop (t + 1)) (t + 1) j := ⟨_, rfl⟩
      rw [← hX] at cx k1
      rw [← hY] at cy k1 k2
      have hYb : Y = -1 ∨ (t : Int) < Y := by omega
      have hYt : Y < 1000000000 := by
        have h1 := List.length_drop (i := t + 1) (l := l)
        rw [HM.out] at h1
        omega
      clear hx hy hX hY k2
      have fin : ∀ nq : Nat, Hid (Below V.heap.size V (v1.drewN nq)) := fun nq => hide (below_drewN HB.out _)
      by_cases hm : (j : Int) ∈ x.xs
      · obtain rfl : T = true := by rw [HT.out]; exact decide_eq_true hm
        rw [if_pos hm] at k1
        subst k1
        have e1 : ((t : Int) == (t : Int)) = true := by simp
        rcases hYb with rfl | hYg
        · clear hm HT hYt
          go_wp2
          go_quiet (fail)
          go_wp2
          go_roundw
          case rel => exact ⟨j + 1, by omega, by go_num, hide (below_drewN HB.out _)⟩
          case measure => simp [intOf] <;> omega
        · have d1 : decide (0 ≤ Y) = true := decide_eq_true (by omega)
          have d2 : decide (Y ≤ (t : Int)) = false := decide_eq_false (by omega)
          clear hm HT hYt hYg
          go_wp2
          go_quiet (fail)
          go_wp2
          go_roundw
          case rel => exact ⟨j + 1, by omega, by go_num, hide (below_drewN HB.out _)⟩
          case measure => simp [intOf] <;> omega
      · obtain rfl : T = false := by rw [HT.out]; exact decide_eq_false hm
        rw [if_neg hm] at k1
        subst k1
        have e2 : (X != X) = false := by simp
        rcases hYb with rfl | hYg
        · have e1 : ((-1 : Int) == (t : Int)) = false := beq_eq_false_iff_ne.2 (by omega)
          clear hm HT hYt
          go_wp2
          go_quiet (fail)
          go_wp2
          go_roundw
          case rel => exact ⟨j + 1, by omega, by go_num, hide (below_drewN HB.out _)⟩
          case measure => simp [intOf] <;> omega
        · have e1 : (X == (t : Int)) = false := beq_eq_false_iff_ne.2 (by omega)
          have d1 : decide (0 ≤ X) = true := decide_eq_true (by omega)
          have d2 : decide (X ≤ (t : Int)) = false := decide_eq_false (by omega)
          clear hm HT hYt hYg
          go_wp2
          go_quiet (fail)
          go_wp2
          go_roundw
          case rel => exact ⟨j + 1, by omega, by go_num, hide (below_drewN HB.out _)⟩
          case measure => simp [intOf] <;> omega
    · obtain rfl : j = n - 1 := by omega
      have j1 : ¬ ((n - 1 : Nat) : Int) < (n : Int) - 1 := by omega
      have l1 : (0 : Int) ≤ (n : Int) - 1 := by omega
      have l2 : (n : Int) - 1 < (n : Int) := by omega
      have l3 : ((n : Int) - 1).toNat = n - 1 := by omega
      obtain ⟨_, _, ex, _, hx⟩ := byte_at (HRx.out.below HB.out) (by omega)
      cases ex
      obtain ⟨_, _, ey, _, hy⟩ := byte_at (HRy.out.below HB.out) (by omega)
      cases ey
      have cx := hx (n - 1) (by omega)
      have cy := hy (n - 1) (by omega)
      have hlast : ∀ q, (nxL ns l q).getD (n - 1) 0 = (m : Int) := fun q => by
        have h := nxL_getD_last (ns := ns) (l := l) (p := q)
        rw [HL.out, HM.out] at h
        exact h
      rw [hlast, Nat.zero_add] at cx cy
      have e1 : ((m : Int) == (m : Int)) = true := by simp
      clear hx hy hlast
      go_wp2
      go_ret
      exact ⟨rfl, below_nx6 HB0.out (below_nx6 HBN.out HB.out)⟩

end

end Go.Proofs.Yteagmlaahnpkhaa
