/- Merged: Frame, Frame6. -/
import Derived.Test.YtdlhhkegkfhmoaaWA
import Derived.ProofKit
import Derived.OpenShut
import Derived.ShutString
import Derived.ChangeOld
import Derived.Below
import Derived.SizedLaws
import Derived.Lib.SmallJoins
import Derived.Deep.Fields
namespace Go.Proofs.Ytdlhhkegkfhmoaa

section
open Go.ChangeShapes Go.WideShapes Go.ChangeAt Go.RowKit

theorem row_read {H : Type} {enc : TypeId × Value → H} {P : Program} {W : World} {t e : TypeId} {k : IntKind} {a : Option Addr} {len cap : Nat} {d : DataW H} {ps : List MemPlace}
    (ht : P.underlying t = some (.slice e)) (he : P.underlying e = some (.int k)) (hc : P.cellsOf e = 1) (h : DataW.Trod enc P W 0 (fun _ => true) true t (.slice a len cap) d ps) :
    ∃ zs : List Int, Lies W a len (zs.map (Value.int k)) ∧ len ≤ cap ∧ ∀ z ∈ zs, (Lit.int k z).wf = true := by
  obtain ⟨fuel, hf⟩ := h
  rcases open_ints ht he hc hf with ⟨hcs, _⟩ | ⟨x, l, c, zs, hcs, _, hl, hm, hz, _, hcell, hwz⟩
  · simp [Value.cells] at hcs
    obtain ⟨rfl, rfl, rfl⟩ := hcs
    exact ⟨[], Lies.nothing, Nat.le_refl _, by simp⟩
  · simp [Value.cells] at hcs
    obtain ⟨rfl, rfl, rfl⟩ := hcs
    have hzl : zs.length = cap := by simpa using hz
    refine ⟨zs.take len, ⟨by simp; omega, fun hn => ?_⟩, hl, fun z hz => hwz z (List.mem_of_mem_take hz)⟩
    obtain ⟨b, o, rfl, hx⟩ := ints_at hcell (by omega)
    refine ⟨b, o, rfl, ?_, fun j hj => ?_⟩
    · exact World.block_lt_of_cell? W _ (hx 0 (by omega))
    · rw [hx j (by omega), List.getElem?_map, List.getElem?_take, if_pos hj, List.getElem?_eq_getElem (by omega)]
      simp [List.getD, show j < zs.length by omega]

theorem row_nil {H : Type} {enc : TypeId × Value → H} {P : Program} {W : World} {t e : TypeId} {k : IntKind} {a : Option Addr} {len cap : Nat} {d : DataW H} {ps : List MemPlace}
    (ht : P.underlying t = some (.slice e)) (he : P.underlying e = some (.int k)) (hc : P.cellsOf e = 1) (h : DataW.Trod enc P W 0 (fun _ => true) true t (.slice a len cap) d ps) : a = none → cap = 0 := by
  intro ha
  subst ha
  obtain ⟨fuel, hf⟩ := h
  rcases open_ints ht he hc hf with ⟨hcs, _⟩ | ⟨x, l, c, zs, hcs, _⟩
  · simp [Value.cells] at hcs
    exact hcs.2
  · simp [Value.cells] at hcs

theorem fits_u8 {n : Int} (h : (Lit.int .u8 n).wf = true) : 0 ≤ n ∧ n < 256 := by have := bounds_u8 h; omega

theorem fits_u32 {n : Int} (h : (Lit.int .u32 n).wf = true) : 0 ≤ n ∧ n < 4294967296 := by have := bounds_u32 h; omega

theorem fits_i32 {n : Int} (h : (Lit.int .i32 n).wf = true) : -2147483648 ≤ n ∧ n < 2147483648 := by have := bounds_i32 h; omega

/-- The form's own reach, of a slice that was read. -/
theorem len_reach {H : Type} {enc : TypeId × Value → H} {P : Program} {W : World} {t e : TypeId} {a : Option Addr} {len cap k : Nat} {d : DataW H} {ps : List MemPlace}
    (ht : P.underlying t = some (.slice e)) (hk : P.bytesOf e = k) (h : DataW.Trod enc P W 0 (fun _ => true) true t (.slice a len cap) d ps) (hw : (DataW.weights P t d).all (· ≤ reachBytes) = true) : len * k ≤ 140737488351232 := by
  have hl := Go.Joins.sliceLen_Trod ht h
  cases d with
  | slice el sp =>
    simp only [DataW.weights, ht, List.all_cons, Bool.and_eq_true, hk, reachBytes] at hw
    have hl' : el.length = len := hl
    have h1 : (el.length + sp.length) * k ≤ 140737488351232 := of_decide_eq_true hw.1
    rw [hl', Nat.add_mul] at h1
    exact Nat.le_trans (Nat.le_add_right _ _) h1
  | _ =>
    have h0 : 0 = len := hl
    rw [← h0, Nat.zero_mul]
    omega

theorem reach_cons {H : Type} {P : Program} {t : TypeId} {ts : List TypeId} {d : DataW H} {ds : List (DataW H)} (h : (DataW.weightsEach P (t :: ts) (d :: ds)).all (· ≤ reachBytes) = true) :
    (DataW.weights P t d).all (· ≤ reachBytes) = true ∧ (DataW.weightsEach P ts ds).all (· ≤ reachBytes) = true := by
  simpa only [DataW.weightsEach, List.all_append, Bool.and_eq_true] using h

theorem reach_array2 {H : Type} {P : Program} {t e : TypeId} {n : Nat} {d0 d1 : DataW H} (ht : P.underlying t = some (.array n e)) (h : (DataW.weights P t (.agg [d0, d1])).all (· ≤ reachBytes) = true) :
    (DataW.weights P e d0).all (· ≤ reachBytes) = true ∧ (DataW.weights P e d1).all (· ≤ reachBytes) = true := by
  simpa only [DataW.weights, ht, DataW.weightsAll, List.all_append, Bool.and_eq_true, List.append_nil] using h

/-- An array of two slices, by value, opened. -/
theorem array2_read {H : Type} {enc : TypeId × Value → H} {P : Program} {W : World} {r : Reach} {base : Nat} {t e q : TypeId} {v : Value} {d : DataW H} {ps : List MemPlace}
    (ht : P.underlying t = some (.array 2 e)) (he : P.underlying e = some (.slice q)) (hc : P.cellsOf t = 2) (hc1 : P.cellsOf e = 1) (hv : Value.okWide P W r base t v) (h : DataW.Trod enc P W 0 (fun _ => true) true t v d ps) :
    ∃ (a0 a1 : Option Addr) (l0 c0 l1 c1 : Nat) (d0 d1 : DataW H) (p0 p1 : List MemPlace), v = .agg #[.slice a0 l0 c0, .slice a1 l1 c1] ∧ d = .agg [d0, d1] ∧ ps = p0 ++ p1 ∧
      DataW.Trod enc P W 0 (fun _ => true) true e (.slice a0 l0 c0) d0 p0 ∧ DataW.Trod enc P W 0 (fun _ => true) true e (.slice a1 l1 c1) d1 p1 := by
  obtain ⟨cs, rfl, hsz⟩ : ∃ cs, v = .agg cs ∧ cs.size = P.cellsOf t := by
    cases v <;> simp_all [Value.okWide]
  obtain ⟨x0, x1, rfl⟩ := Go.Joins.array2 (hsz.trans hc)
  obtain ⟨fuel, hf⟩ := h
  obtain ⟨xs, m, _, hx, _, hl, hel⟩ := DataW.trod_array ht hf
  have e0 := hel 0 (by omega)
  have e1 := hel 1 (by omega)
  rw [hc1] at e0 e1
  match xs, hl with
  | [y0, y1], _ =>
    simp [Value.cells] at e0 e1 hx
    obtain ⟨a0, l0, c0, h0⟩ := Go.Joins.slice_form he e0
    obtain ⟨a1, l1, c1, h1⟩ := Go.Joins.slice_form he e1
    simp only [List.cons.injEq, and_true] at h0 h1
    subst h0
    subst h1
    exact ⟨a0, a1, l0, c0, l1, c1, y0.1, y1.1, y0.2, y1.2, rfl, hx.1, hx.2, ⟨m, by simpa [Value.cells] using e0⟩, ⟨m, by simpa [Value.cells] using e1⟩⟩

end

section
open Go.ChangeShapes Go.WideShapes Go.ChangeAt Go.RowKit
set_option maxRecDepth 100000

theorem list2T {α : Type} {l : List α} (h : l.length = 2) : ∃ a b, l = [a, b] := by
  match l, h with
  | [a, b], _ => exact ⟨a, b, rfl⟩

end

end Go.Proofs.Ytdlhhkegkfhmoaa
