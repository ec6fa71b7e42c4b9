/- Merged: Lw11T, Lv11T, Frame, Frame6, Frame12, Frame13. -/
import Derived.Test.YtohndckbhjakfaaGreatDoorWZ35
import Derived.Test.YtohndckbhjakfaaGreatDoorCards
import Derived.Deep.DeepHandedRow
import Derived.Lay
import Derived.Stop.LaidErr
import Derived.Lib.LaidTab
import Derived.Lib.LaidU8
import Derived.OpenShut
import Derived.Shelf.Vars
import Derived.Test.YtohndckbhjakfaaGreatDoorWZ00
import Derived.ProofKit
import Derived.ShutString
import Derived.ChangeOld
import Derived.Below
import Derived.SizedLaws
import Derived.Lib.SmallJoins
import Derived.Test.YtohndckbhjakfaaGreatDoorWZ01
import Derived.Deep.Fields
import Derived.Test.YtohndckbhjakfaaGreatDoorWZ14
import Derived.Deep.Slices
import Derived.Test.YtohndckbhjakfaaGreatDoorWZ31
namespace Go.Proofs.YtohndckbhjakfaaGreatDoor

section
open Go.ChangeShapes Go.WideShapes Go.ChangeAt Go.RowKit
set_option linter.unusedVariables false
set_option maxRecDepth 100000

noncomputable def laidWorld (os : Os) : World := World.laidAll Tryz.prog os Rows.modelsTurnedRow.laid

theorem laid_met (os : Os) (args : Array Value) : laidMet Tryz.prog Rows.modelsTurnedRow.laid ((laidWorld os).forCall (fun _ _ => 0) ⟨#[], args, []⟩).memory :=
  laidMet_laidAll args (by kernel_rfl) (by kernel_rfl)

end

section
open Go.ChangeShapes Go.WideShapes Go.ChangeAt Go.RowKit
set_option linter.unusedVariables false
set_option maxRecDepth 100000

theorem three16 {w : World} {fuel : Nat} {cs : List Value} {x y z : Int} {p : List MemPlace}
    (h : DataW.trod (fun _ => ()) Tryz.prog w 0 (fun _ => true) false fuel 193 cs = some (.agg [.lit (.int .u16 x), .lit (.int .u16 y), .lit (.int .u16 z)], p)) : cs = [.int .u16 x, .int .u16 y, .int .u16 z] := by
  have hu : Tryz.prog.underlying 193 = some (TypeDesc.struct #[{ name := "Lo", type := 51, offset := 0, embedded := false, tag := "", pkgPath := "", byteOffset := 0 }, { name := "Hi", type := 51, offset := 1, embedded := false, tag := "", pkgPath := "", byteOffset := 2 }, { name := "Stride", type := 51, offset := 2, embedded := false, tag := "", pkgPath := "", byteOffset := 4 }]) := by kernel_rfl
  have h16 : Tryz.prog.underlying 51 = some (.int .u16) := by kernel_rfl
  have c16 : Tryz.prog.cellsOf 51 = 1 := by kernel_rfl
  exact Lib.ints_of_struct (zs := [x, y, z]) hu (fun q f hq => by
    match q, hq with
    | 0, hq => simp at hq; subst hq; exact ⟨h16, rfl, c16⟩
    | 1, hq => simp at hq; subst hq; exact ⟨h16, rfl, c16⟩
    | 2, hq => simp at hq; subst hq; exact ⟨h16, rfl, c16⟩
    | q + 3, hq => simp at hq) (by kernel_rfl) h

def whiteD : List (DataW Unit) := (List.range 7).map fun i => .agg [.lit (.int .u16 ((Lib.whiteT.getD (i * 3) 0 : Nat) : Int)), .lit (.int .u16 ((Lib.whiteT.getD (i * 3 + 1) 0 : Nat) : Int)), .lit (.int .u16 ((Lib.whiteT.getD (i * 3 + 2) 0 : Nat) : Int))]

theorem white_of {w : World} (h : Lib.VarReads Tryz.prog w "unicode.White_Space" Rows.laid_unicode_White_Space) : Lib.WhiteTab 2 w := by
  obtain ⟨g', t, cs, fuel, p, hg, hty, hvar, hd⟩ := h
  obtain rfl := Option.some.inj ((show Tryz.prog.globalNamed "unicode.White_Space" = some 2 by kernel_rfl).symm.trans hg)
  obtain rfl := Option.some.inj ((show (Tryz.prog.globals[2]?).map (·.type) = some 180 by kernel_rfl).symm.trans hty)
  have hdat : (Rows.laid_unicode_White_Space : DataW Unit) = .ptr (.agg [.slice whiteD [], .nil, .lit (.int .i64 2)]) := by kernel_rfl
  rw [hdat] at hd
  have up : Tryz.prog.underlying 180 = some (.pointer 191) := by kernel_rfl
  have us : Tryz.prog.underlying 191 = some (TypeDesc.struct #[{ name := "R16", type := 188, offset := 0, embedded := false, tag := "", pkgPath := "", byteOffset := 0 }, { name := "R32", type := 189, offset := 1, embedded := false, tag := "", pkgPath := "", byteOffset := 24 }, { name := "LatinOffset", type := 3, offset := 2, embedded := false, tag := "", pkgPath := "", byteOffset := 48 }]) := by kernel_rfl
  have u16 : Tryz.prog.underlying 188 = some (.slice 193) := by kernel_rfl
  have u32 : Tryz.prog.underlying 189 = some (.slice 196) := by kernel_rfl
  have ui : Tryz.prog.underlying 3 = some (.int .i64) := by kernel_rfl
  have ct : Tryz.prog.cellsOf 191 = 3 := by kernel_rfl
  have c1 : Tryz.prog.cellsOf 188 = 1 := by kernel_rfl
  have c2 : Tryz.prog.cellsOf 189 = 1 := by kernel_rfl
  have c3 : Tryz.prog.cellsOf 3 = 1 := by kernel_rfl
  have c4 : Tryz.prog.cellsOf 193 = 3 := by kernel_rfl
  rcases DataW.trod_pointer up hd with ⟨_, hx⟩ | ⟨a, cs', y, n, rfl, hcs, hx, hcells, hy⟩
  · cases hx
  have hy1 : y.1 = .agg [.slice whiteD [], .nil, .lit (.int .i64 2)] := by
    have := congrArg Prod.fst hx
    simpa using this.symm
  rw [ct] at hcells
  obtain ⟨_, hl', hc'⟩ := World.cells?_some hcells
  obtain ⟨xs, n', rfl, hxs, _, hxl, hall⟩ := DataW.trod_struct us hy
  have hx3 : xs.map (·.1) = [.slice whiteD [], .nil, .lit (.int .i64 2)] := by
    rw [hxs] at hy1
    simpa using hy1
  obtain ⟨x0, x1, x2, rfl⟩ : ∃ x0 x1 x2, xs = [x0, x1, x2] := by
    match xs, hx3 with
    | [x0, x1, x2], _ => exact ⟨x0, x1, x2, rfl⟩
  simp only [List.map_cons, List.map_nil, List.cons.injEq, and_true] at hx3
  obtain ⟨e0, e1, e2⟩ := hx3
  have f0 := hall 0 _ rfl
  have f1 := hall 1 _ rfl
  have f2 := hall 2 _ rfl
  obtain ⟨y0, y1, y2, rfl⟩ : ∃ y0 y1 y2, cs' = [y0, y1, y2] := by
    match cs', hl' with
    | [y0, y1, y2], _ => exact ⟨y0, y1, y2, rfl⟩
  change DataW.trod _ _ _ _ _ _ _ 188 (([y0, y1, y2].drop 0).take (Tryz.prog.cellsOf 188)) = some x0 at f0
  change DataW.trod _ _ _ _ _ _ _ 189 (([y0, y1, y2].drop 1).take (Tryz.prog.cellsOf 189)) = some x1 at f1
  change DataW.trod _ _ _ _ _ _ _ 3 (([y0, y1, y2].drop 2).take (Tryz.prog.cellsOf 3)) = some x2 at f2
  rw [c1] at f0
  rw [c2] at f1
  rw [c3] at f2
  simp only [List.drop_zero, List.drop_succ_cons, List.take_succ_cons, List.take_zero] at f0 f1 f2
  rcases DataW.trod_slice u16 f0 with ⟨_, hx0⟩ | ⟨b, len, cap, el, rs, m, rfl, hc0, hx0, _, hlc, _, hel, helem, hsp, _⟩
  · rw [hx0] at e0; cases e0
  rw [hx0] at e0
  simp only [DataW.slice.injEq] at e0
  obtain ⟨eE, eR⟩ := e0
  have hlen : len = 7 := by
    have := congrArg List.length eE
    simp [whiteD] at this
    omega
  subst hlen
  have hcap : cap = 7 := by
    have h1 := (hsp rfl).1
    have h2 := congrArg List.length eR
    simp at h2
    subst h2
    simp at h1
    omega
  subst hcap
  rcases DataW.trod_slice u32 f1 with ⟨hc1, _⟩ | ⟨b', _, _, _, _, _, _, _, hx1, _⟩
  rotate_left
  · rw [hx1] at e1; cases e1
  obtain ⟨i2, hc2, hx2, _⟩ := DataW.trod_int ui f2
  rw [hx2] at e2
  simp only [DataW.lit.injEq, Lit.int.injEq, true_and] at e2
  subst e2
  have hrange : ∀ i, i < 7 → ∀ j, j < 3 → w.cell? ((b.add (i * 3)).add j) = some (.int .u16 ((Lib.whiteT.getD (i * 3 + j) 0 : Nat) : Int)) := by
    intro i hi j hj
    have h1 := helem i hi
    rw [c4] at h1
    obtain ⟨bb, hb⟩ : ∃ bb, el[i]? = some bb := ⟨el[i]'(by omega), List.getElem?_eq_getElem (by omega)⟩
    rw [hb] at h1
    obtain ⟨ce, hce, hte⟩ := Option.bind_eq_some_iff.1 h1
    have hb1 : bb.1 = .agg [.lit (.int .u16 ((Lib.whiteT.getD (i * 3) 0 : Nat) : Int)), .lit (.int .u16 ((Lib.whiteT.getD (i * 3 + 1) 0 : Nat) : Int)), .lit (.int .u16 ((Lib.whiteT.getD (i * 3 + 2) 0 : Nat) : Int))] := by
      have := congrArg (·[i]?) eE
      simp only [List.getElem?_map, hb, whiteD, Option.map_some, List.getElem?_range hi, Option.some.injEq] at this
      exact this
    obtain ⟨bb1, bb2⟩ := bb
    simp only at hb1
    subst hb1
    have hcs := three16 hte
    subst hcs
    obtain ⟨_, _, hcc⟩ := World.cells?_some hce
    rw [hcc j hj]
    match j, hj with
    | 0, _ => rfl
    | 1, _ => rfl
    | 2, _ => rfl
  obtain ⟨R, oR, sR⟩ := b
  obtain rfl : sR = none := by
    have h00 := hrange 0 (by omega) 0 (by omega)
    have : (Addr.add (Addr.add ⟨R, oR, sR⟩ (0 * 3)) 0) = ⟨R, oR, sR⟩ := by simp [Addr.add]
    rw [this] at h00
    exact cell_spot h00
  obtain ⟨T, oT, sT⟩ := a
  have k0 := hc' 0 (by omega)
  obtain rfl : sT = none := by
    have : (Addr.add ⟨T, oT, sT⟩ 0) = ⟨T, oT, sT⟩ := by simp [Addr.add]
    rw [this] at k0
    exact cell_spot k0
  have k1 := hc' 1 (by omega)
  have k2 := hc' 2 (by omega)
  rw [Addr.add_lit] at k0 k1 k2
  simp only [List.cons.injEq, and_true] at hc0 hc1 hc2
  subst hc0 hc1 hc2
  refine ⟨T, oT, R, oR, ?_, by simpa using k0, by simpa using k1, by simpa using k2, fun i hi => ?_⟩
  · rw [World.var?_cell hg hvar 0, ← Array.getElem?_toList, hcs]
    rfl
  · have := hrange (i / 3) (by omega) (i % 3) (by omega)
    rw [Addr.add_lit, Addr.add_lit] at this
    have e : i / 3 * 3 + i % 3 = i := by omega
    rw [Nat.add_assoc, e] at this
    exact this

def rowsD : List (DataW Unit) := (List.range 14).map fun k => .lit (.string (rowB k))

theorem rows_of {w : World} (h : Lib.VarReads Tryz.prog w "drydock/models.rows" Rows.laid_drydock_models_rows) : ∀ k, k < 14 → w.cell? ⟨0, k, none⟩ = some (strV (rowB k)) := by
  obtain ⟨g', t, cs, fuel, p, hg, hty, hvar, hd⟩ := h
  obtain rfl := Option.some.inj ((show Tryz.prog.globalNamed "drydock/models.rows" = some 0 by kernel_rfl).symm.trans hg)
  obtain rfl := Option.some.inj ((show (Tryz.prog.globals[0]?).map (·.type) = some 134 by kernel_rfl).symm.trans hty)
  have hdat : (Rows.laid_drydock_models_rows : DataW Unit) = .agg rowsD := by kernel_rfl
  rw [hdat] at hd
  have ua : Tryz.prog.underlying 134 = some (.array 14 9) := by kernel_rfl
  have us : Tryz.prog.underlying 9 = some .string := by kernel_rfl
  have c1 : Tryz.prog.cellsOf 9 = 1 := by kernel_rfl
  obtain ⟨xs, m, rfl, hx, hl, hxl, hall⟩ := DataW.trod_array ua hd
  have hx1 : xs.map (·.1) = rowsD := by
    have := congrArg Prod.fst hx
    simpa using this.symm
  intro k hk
  have h1 := hall k hk
  obtain ⟨b, hb⟩ : ∃ b, xs[k]? = some b := ⟨xs[k]'(by omega), List.getElem?_eq_getElem (by omega)⟩
  rw [hb] at h1
  obtain ⟨s, hs, hxs, _⟩ := DataW.trod_string us h1
  have hb1 : b.1 = .lit (.string (rowB k)) := by
    have := congrArg (·[k]?) hx1
    simp only [List.getElem?_map, hb, rowsD, Option.map_some, List.getElem?_range hk, Option.some.injEq] at this
    exact this
  rw [hxs] at hb1
  simp only [DataW.lit.injEq, Lit.string.injEq] at hb1
  rw [c1] at hs
  have hcell : cs.toList[k]? = some (.string s) := by
    have := congrArg (·[0]?) hs
    simpa using this
  rw [World.var?_cell hg hvar k, ← Array.getElem?_toList, hcell, strV, ← hb1]

theorem laidv_of {w : World} (hL : laidMet Tryz.prog Rows.modelsTurnedRow.laid w) (hS : w.ShapedOpen Tryz.prog) : LaidV w := by
  have star : "*" ++ "errors.errorString" = "*errors.errorString" := by decide
  have hE : ∀ u, Tryz.prog.typeName? 3 u = some "*errors.errorString" → u = 238 := fun u h =>
    typeName_ptr_named (nm := "errors.errorString") (by rw [star]; kernel_rfl) (by kernel_rfl) (by decide) u (by rw [star]; exact h)
  have t2 := hL.tail.tail
  have t4 := t2.tail.tail
  have t5 := t4.tail
  have t7 := t5.tail.tail
  refine ⟨?_, ?_, ?_, ?_, ?_, white_of (Lib.laidMet.reads hL (.tail _ (.tail _ (.tail _ (.tail _ (.tail _ (.tail _ (.head _)))))))), rows_of (Lib.laidMet.reads hL (.tail _ (.tail _ (.tail _ (.tail _ (.tail _ (.tail _ (.tail _ (.tail _ (.head _)))))))))), ?_⟩
  · obtain ⟨cs, hh, _⟩ := hS.1 11 #[.pointer none] 180 (by decide +kernel) (by kernel_rfl)
    have := (Array.getElem?_eq_some_iff.1 hh).1
    omega
  · obtain ⟨a, s, hv, _⟩ := laid_sentinel (g := 7) (ti := 89) (ms := #[("Error", 95)]) (tp := 238) (te := 240) (ts := 9) (f := { name := "s", type := 9, offset := 0, embedded := false, tag := "", pkgPath := "errors", byteOffset := 0 }) t5 (by kernel_rfl) (by kernel_rfl) (by kernel_rfl) hE (by kernel_rfl) (by kernel_rfl) rfl rfl (by kernel_rfl) (by kernel_rfl) (by kernel_rfl)
    exact ⟨_, _, hv⟩
  · obtain ⟨a, s, hv, _⟩ := laid_sentinel (g := 8) (ti := 89) (ms := #[("Error", 95)]) (tp := 238) (te := 240) (ts := 9) (f := { name := "s", type := 9, offset := 0, embedded := false, tag := "", pkgPath := "errors", byteOffset := 0 }) t4 (by kernel_rfl) (by kernel_rfl) (by kernel_rfl) hE (by kernel_rfl) (by kernel_rfl) rfl rfl (by kernel_rfl) (by kernel_rfl) (by kernel_rfl)
    exact ⟨_, _, hv⟩
  · exact Lib.tabIs_of_head (g := 4) (t := 215) (e := 206) (n := 20) (by kernel_rfl) (by kernel_rfl) (by kernel_rfl) (by kernel_rfl) (by kernel_rfl) (by kernel_rfl) t2
  · exact Lib.tabIs_of_head (g := 1) (t := 161) (e := 5) (n := 256) (by kernel_rfl) (by kernel_rfl) (by kernel_rfl) (by kernel_rfl) (by kernel_rfl) (by kernel_rfl) t7
  · exact cell_of_shapedOpen_int (t := 3) (zero := #[.int .i64 0]) hS (by decide +kernel) (by kernel_rfl) rfl (by kernel_rfl) (by kernel_rfl) (by kernel_rfl)

end

section
open Go.ChangeShapes Go.WideShapes Go.ChangeAt Go.RowKit

theorem row_read {H : Type} {enc : TypeId × Value → H} {P : Program} {W : World} {t e : TypeId} {k : IntKind} {a : Option Addr} {len cap : Nat} {d : DataW H} {ps : List MemPlace}
    (ht : P.underlying t = some (.slice e)) (he : P.underlying e = some (.int k)) (hc : P.cellsOf e = 1) (h : DataW.Trod enc P W 0 (fun _ => true) true t (.slice a len cap) d ps) :
    ∃ zs : List Int, Lies W a len (zs.map (Value.int k)) ∧ len ≤ cap ∧ ∀ z ∈ zs, (Lit.int k z).wf = true := by
  obtain ⟨fuel, hf⟩ := h
  rcases open_ints ht he hc hf with ⟨hcs, _⟩ | ⟨x, l, c, zs, hcs, _, hl, hm, hz, _, hcell, hwz⟩
  · simp [Value.cells] at hcs
    obtain ⟨rfl, rfl, rfl⟩ := hcs
    exact ⟨[], Lies.nothing, Nat.le_refl _, by simp⟩
  · simp [Value.cells] at hcs
    obtain ⟨rfl, rfl, rfl⟩ := hcs
    have hzl : zs.length = cap := by simpa using hz
    refine ⟨zs.take len, ⟨by simp; omega, fun hn => ?_⟩, hl, fun z hz => hwz z (List.mem_of_mem_take hz)⟩
    obtain ⟨b, o, rfl, hx⟩ := ints_at hcell (by omega)
    refine ⟨b, o, rfl, ?_, fun j hj => ?_⟩
    · exact World.block_lt_of_cell? W _ (hx 0 (by omega))
    · rw [hx j (by omega), List.getElem?_map, List.getElem?_take, if_pos hj, List.getElem?_eq_getElem (by omega)]
      simp [List.getD, show j < zs.length by omega]

theorem row_nil {H : Type} {enc : TypeId × Value → H} {P : Program} {W : World} {t e : TypeId} {k : IntKind} {a : Option Addr} {len cap : Nat} {d : DataW H} {ps : List MemPlace}
    (ht : P.underlying t = some (.slice e)) (he : P.underlying e = some (.int k)) (hc : P.cellsOf e = 1) (h : DataW.Trod enc P W 0 (fun _ => true) true t (.slice a len cap) d ps) : a = none → cap = 0 := by
  intro ha
  subst ha
  obtain ⟨fuel, hf⟩ := h
  rcases open_ints ht he hc hf with ⟨hcs, _⟩ | ⟨x, l, c, zs, hcs, _⟩
  · simp [Value.cells] at hcs
    exact hcs.2
  · simp [Value.cells] at hcs

theorem fits_u8 {n : Int} (h : (Lit.int .u8 n).wf = true) : 0 ≤ n ∧ n < 256 := by have := bounds_u8 h; omega

theorem fits_u32 {n : Int} (h : (Lit.int .u32 n).wf = true) : 0 ≤ n ∧ n < 4294967296 := by have := bounds_u32 h; omega

theorem fits_i32 {n : Int} (h : (Lit.int .i32 n).wf = true) : -2147483648 ≤ n ∧ n < 2147483648 := by have := bounds_i32 h; omega

/-- The form's own reach, of a slice that was read. -/
theorem len_reach {H : Type} {enc : TypeId × Value → H} {P : Program} {W : World} {t e : TypeId} {a : Option Addr} {len cap k : Nat} {d : DataW H} {ps : List MemPlace}
    (ht : P.underlying t = some (.slice e)) (hk : P.bytesOf e = k) (h : DataW.Trod enc P W 0 (fun _ => true) true t (.slice a len cap) d ps) (hw : (DataW.weights P t d).all (· ≤ reachBytes) = true) : len * k ≤ 140737488351232 := by
  have hl := Go.Joins.sliceLen_Trod ht h
  cases d with
  | slice el sp =>
    simp only [DataW.weights, ht, List.all_cons, Bool.and_eq_true, hk, reachBytes] at hw
    have hl' : el.length = len := hl
    have h1 : (el.length + sp.length) * k ≤ 140737488351232 := of_decide_eq_true hw.1
    rw [hl', Nat.add_mul] at h1
    exact Nat.le_trans (Nat.le_add_right _ _) h1
  | _ =>
    have h0 : 0 = len := hl
    rw [← h0, Nat.zero_mul]
    omega

theorem reach_cons {H : Type} {P : Program} {t : TypeId} {ts : List TypeId} {d : DataW H} {ds : List (DataW H)} (h : (DataW.weightsEach P (t :: ts) (d :: ds)).all (· ≤ reachBytes) = true) :
    (DataW.weights P t d).all (· ≤ reachBytes) = true ∧ (DataW.weightsEach P ts ds).all (· ≤ reachBytes) = true := by
  simpa only [DataW.weightsEach, List.all_append, Bool.and_eq_true] using h

end

section
open Go.ChangeShapes Go.WideShapes Go.ChangeAt Go.RowKit
set_option maxRecDepth 100000

theorem list2T {α : Type} {l : List α} (h : l.length = 2) : ∃ a b, l = [a, b] := by
  match l, h with
  | [a, b], _ => exact ⟨a, b, rfl⟩

end

section
open Go.ChangeShapes Go.WideShapes Go.ChangeAt Go.RowKit
set_option linter.unusedVariables false
set_option linter.unusedSimpArgs false
set_option maxRecDepth 100000

theorem weights_elem10 {H : Type} {P : Program} {e : TypeId} {elems : List (DataW H)} {d : DataW H} (h : (DataW.weightsAll P e elems).all (· ≤ reachBytes) = true) (hd : d ∈ elems) : (DataW.weights P e d).all (· ≤ reachBytes) = true := by
  induction elems with
  | nil => cases hd
  | cons x r ih =>
    simp only [DataW.weightsAll, List.all_append, Bool.and_eq_true] at h
    rcases List.mem_cons.1 hd with rfl | hd
    · exact h.1
    · exact ih h.2 hd

theorem list5N {α : Type} {l : List α} (h : l.length = 5) : ∃ a b c d e, l = [a, b, c, d, e] := by
  match l, h with
  | [a, b, c, d, e], _ => exact ⟨a, b, c, d, e, rfl⟩

theorem list1N {α : Type} {l : List α} (h : l.length = 1) : ∃ a, l = [a] := by
  match l, h with
  | [a], _ => exact ⟨a, rfl⟩

/-- Its lists' numbers are such numbers. -/
def Nd.Fit (x : Nd) : Prop := (∀ z ∈ x.xs, -9223372036854775808 ≤ z ∧ z < 9223372036854775808) ∧ (∀ z ∈ x.sh, -9223372036854775808 ≤ z ∧ z < 9223372036854775808) ∧ (x.I = none → x.ci = 0) ∧ (x.S = none → x.cs = 0)

section
variable {H : Type} {enc : TypeId × Value → H} {W : World}

theorem nodeC10 : Tryz.prog.cellsOf 44 = 5 := by kernel_rfl

theorem node_one10 {A : Addr} {cs : List Value} {fuel : Nat} {y : DataW H × List MemPlace} (hc : W.cells? 0 A 5 = some cs) (h : DataW.trod enc Tryz.prog W 0 (fun _ => true) true fuel 44 cs = some y)
    (hw : (DataW.weights Tryz.prog 44 y.1).all (· ≤ reachBytes) = true) : ∃ x : Nd, x.Ok W ∧ x.Fit ∧ W.cell? (A.add 0) = some (.int .u8 x.kd) ∧ W.cell? (A.add 1) = some (.slice x.I x.ni x.ci) ∧ W.cell? (A.add 2) = some (.slice x.S x.ns x.cs) ∧ W.cell? (A.add 3) = some (.int .i64 x.N) ∧ W.cell? (A.add 4) = some (.int .i64 x.P) := by
  obtain ⟨_, hcl, hat⟩ := World.cells?_some hc
  have k1 : Tryz.prog.cellsOf 35 = 1 := by kernel_rfl
  have k2 : Tryz.prog.cellsOf 42 = 1 := by kernel_rfl
  have k3 : Tryz.prog.cellsOf 3 = 1 := by kernel_rfl
  obtain ⟨ys, n, _, hy, _, hyl, hg⟩ := DataW.trod_struct Tryz.underlying44 h
  obtain ⟨y0, y1, y2, y3, y4, rfl⟩ := list5N hyl
  obtain ⟨c0, c1, c2, c3, c4, rfl⟩ := list5N hcl
  have g0 : DataW.trod enc Tryz.prog W 0 (fun _ => true) true n 42 (([c0, c1, c2, c3, c4].drop 0).take (Tryz.prog.cellsOf 42)) = some y0 := hg 0 _ rfl
  have g1 : DataW.trod enc Tryz.prog W 0 (fun _ => true) true n 35 (([c0, c1, c2, c3, c4].drop 1).take (Tryz.prog.cellsOf 35)) = some y1 := hg 1 _ rfl
  have g2 : DataW.trod enc Tryz.prog W 0 (fun _ => true) true n 35 (([c0, c1, c2, c3, c4].drop 2).take (Tryz.prog.cellsOf 35)) = some y2 := hg 2 _ rfl
  have g3 : DataW.trod enc Tryz.prog W 0 (fun _ => true) true n 3 (([c0, c1, c2, c3, c4].drop 3).take (Tryz.prog.cellsOf 3)) = some y3 := hg 3 _ rfl
  have g4 : DataW.trod enc Tryz.prog W 0 (fun _ => true) true n 3 (([c0, c1, c2, c3, c4].drop 4).take (Tryz.prog.cellsOf 3)) = some y4 := hg 4 _ rfl
  simp only [k1, k2, k3, List.drop_zero, List.drop_succ_cons, List.take_succ_cons, List.take_zero] at g0 g1 g2 g3 g4
  subst hy
  have hw2 : (DataW.weightsEach Tryz.prog [42, 35, 35, 3, 3] [y0.1, y1.1, y2.1, y3.1, y4.1]).all (· ≤ reachBytes) = true := by
    have e : DataW.weights Tryz.prog 44 (.agg [y0.1, y1.1, y2.1, y3.1, y4.1]) = DataW.weightsEach Tryz.prog [42, 35, 35, 3, 3] [y0.1, y1.1, y2.1, y3.1, y4.1] := by
      rw [DataW.weights, Tryz.underlying44]
      rfl
    rw [← e]
    exact hw
  obtain ⟨_, q1⟩ := reach_cons hw2
  obtain ⟨q2, q3⟩ := reach_cons q1
  obtain ⟨q4, _⟩ := reach_cons q3
  obtain ⟨a0, l0, d0, e0⟩ := Go.Joins.slice_form Tryz.underlying35 g1
  obtain ⟨a1, l1, d1, e1⟩ := Go.Joins.slice_form Tryz.underlying35 g2
  obtain ⟨z0, e2, _, w0⟩ := DataW.trod_int Tryz.underlying42 g0
  obtain ⟨z3, e3, _, w3⟩ := DataW.trod_int Tryz.underlying3 g3
  obtain ⟨z4, e4, _, w4⟩ := DataW.trod_int Tryz.underlying3 g4
  simp only [List.cons.injEq, and_true] at e0 e1 e2 e3 e4
  subst e0 e1 e2 e3 e4
  obtain ⟨zs, hl, hcp, hfi⟩ := row_read Tryz.underlying35 Tryz.underlying3 k3 ⟨n, g1⟩
  obtain ⟨zs', hl', hcp', hfi'⟩ := row_read Tryz.underlying35 Tryz.underlying3 k3 ⟨n, g2⟩
  have hr := len_reach (k := 8) Tryz.underlying35 (by kernel_rfl) ⟨n, g1⟩ q2
  have hr' := len_reach (k := 8) Tryz.underlying35 (by kernel_rfl) ⟨n, g2⟩ q4
  have b0 := fits_u8 w0
  have b3 := bounds_i64 w3
  have b4 := bounds_i64 w4
  have b3' : -9223372036854775808 ≤ z3 ∧ z3 < 9223372036854775808 := by omega
  have b4' : -9223372036854775808 ≤ z4 ∧ z4 < 9223372036854775808 := by omega
  exact ⟨⟨z0, a0, l0, d0, a1, l1, d1, z3, z4, zs, zs'⟩, ⟨hl, hl', hcp, hcp', (show l0 ≤ _ by omega), (show l1 ≤ _ by omega), b0, b3', b4'⟩,
    ⟨fun z hz => by have := bounds_i64 (hfi z hz); omega, fun z hz => by have := bounds_i64 (hfi' z hz); omega, row_nil Tryz.underlying35 Tryz.underlying3 k3 ⟨n, g1⟩, row_nil Tryz.underlying35 Tryz.underlying3 k3 ⟨n, g2⟩⟩,
    hat 0 (by omega), hat 1 (by omega), hat 2 (by omega), hat 3 (by omega), hat 4 (by omega)⟩

end

theorem nodes_read {H : Type} {enc : TypeId × Value → H} {W : World} {a : Option Addr} {len cap : Nat} {d : DataW H} {ps : List MemPlace}
    (h : DataW.Trod enc Tryz.prog W 0 (fun _ => true) true 22 (.slice a len cap) d ps) (hw : (DataW.weights Tryz.prog 22 d).all (· ≤ reachBytes) = true) :
    ∃ ns : List Nd, NsIn W a len ns ∧ len ≤ cap ∧ (a = none → cap = 0) ∧ (∀ x ∈ ns, x.Fit) := by
  obtain ⟨fuel, hf⟩ := h
  rcases Go.Deep.open_slice Tryz.underlying22 hf with ⟨hcs, _⟩ | ⟨ad, l, c, m, n, D, Pl, hcs, _, hl, hm, hmm, hx, hi⟩
  · simp [Value.cells] at hcs
    obtain ⟨rfl, rfl, rfl⟩ := hcs
    exact ⟨[], ⟨rfl, fun h => absurd h (by omega)⟩, Nat.le_refl _, fun _ => rfl, fun x hx => by cases hx⟩
  · simp [Value.cells] at hcs
    obtain ⟨rfl, rfl, rfl⟩ := hcs
    simp at hmm
    have hd := congrArg Prod.fst hx
    simp only at hd
    subst hd
    simp only [DataW.weights, Tryz.underlying22, List.all_cons, List.all_append, Bool.and_eq_true] at hw
    have hone : ∀ i, i < len → ∃ x : Nd, x.Ok W ∧ x.Fit ∧ W.cell? (ad.add (i * 5 + 0)) = some (.int .u8 x.kd) ∧ W.cell? (ad.add (i * 5 + 1)) = some (.slice x.I x.ni x.ci) ∧ W.cell? (ad.add (i * 5 + 2)) = some (.slice x.S x.ns x.cs) ∧ W.cell? (ad.add (i * 5 + 3)) = some (.int .i64 x.N) ∧ W.cell? (ad.add (i * 5 + 4)) = some (.int .i64 x.P) := by
      intro i hil
      obtain ⟨cs', hc, ht⟩ := hi i (by omega)
      rw [nodeC10] at hc
      obtain ⟨x, hx1, hx2, hx3, hx4, hx5, hx6, hx7⟩ := node_one10 hc ht (weights_elem10 hw.2.1 (List.mem_map.2 ⟨i, List.mem_range.2 hil, rfl⟩))
      rw [Go.Deep.add_add] at hx3 hx4 hx5 hx6 hx7
      exact ⟨x, hx1, hx2, hx3, hx4, hx5, hx6, hx7⟩
    have hall : ∃ f : Nat → Nd, ∀ i, i < len → (f i).Ok W ∧ (f i).Fit ∧ W.cell? (ad.add (i * 5 + 0)) = some (.int .u8 (f i).kd) ∧ W.cell? (ad.add (i * 5 + 1)) = some (.slice (f i).I (f i).ni (f i).ci) ∧ W.cell? (ad.add (i * 5 + 2)) = some (.slice (f i).S (f i).ns (f i).cs) ∧ W.cell? (ad.add (i * 5 + 3)) = some (.int .i64 (f i).N) ∧ W.cell? (ad.add (i * 5 + 4)) = some (.int .i64 (f i).P) :=
      ⟨fun i => if hil : i < len then Classical.choose (hone i hil) else ⟨0, none, 0, 0, none, 0, 0, 0, 0, [], []⟩, fun i hil => by
        simp only [dif_pos hil]
        exact Classical.choose_spec (hone i hil)⟩
    obtain ⟨f, hfo⟩ := hall
    refine ⟨(List.range len).map f, ⟨by simp, fun hn => ?_⟩, by omega, (fun h => by cases h), fun x hx => ?_⟩
    · obtain ⟨b, off, spot⟩ := ad
      have h0 := (hfo 0 hn).2.2.1
      have hspot : spot = none := by simpa [Addr.add] using World.cell?_spot h0
      subst hspot
      have hb : b < W.heap.size := World.block_lt_of_cell? W _ h0
      refine ⟨b, off, rfl, hb, fun j t ht => ?_⟩
      obtain ⟨hjl, hje⟩ := List.getElem?_eq_some_iff.1 ht
      have hj : j < len := by simpa using hjl
      have hf' : f j = t := by simpa using hje
      obtain ⟨h1, h2, h3, h4, h5, h6, h7⟩ := hfo j hj
      rw [hf', Addr.add_lit] at h3 h4 h5 h6 h7
      rw [hf'] at h1
      rw [← Nat.add_assoc] at h4 h5 h6 h7
      exact ⟨by rwa [Nat.add_zero] at h3, h4, h5, h6, h7, h1⟩
    · obtain ⟨i, hi2, rfl⟩ := List.mem_map.1 hx
      exact (hfo i (List.mem_range.1 hi2)).2.1

end

section
open Go.ChangeShapes Go.WideShapes Go.ChangeAt Go.RowKit
set_option linter.unusedVariables false
set_option linter.unusedSimpArgs false
set_option maxRecDepth 100000

section
variable {H : Type} {enc : TypeId × Value → H} {W : World}

theorem tenC11 : Tryz.prog.cellsOf 40 = 2 := by kernel_rfl

theorem ten_one11 {A : Addr} {cs : List Value} {fuel : Nat} {y : DataW H × List MemPlace} (hc : W.cells? 0 A 2 = some cs) (h : DataW.trod enc Tryz.prog W 0 (fun _ => true) true fuel 40 cs = some y)
    (hw : (DataW.weights Tryz.prog 40 y.1).all (· ≤ reachBytes) = true) : ∃ t : Wt, t.Ok W ∧ W.cell? (A.add 0) = some (.slice t.A t.n t.c) ∧ W.cell? (A.add 1) = some (.slice t.B t.m t.d) := by
  obtain ⟨_, hcl, hat⟩ := World.cells?_some hc
  have k1 : Tryz.prog.cellsOf 35 = 1 := by kernel_rfl
  have k2 : Tryz.prog.cellsOf 38 = 1 := by kernel_rfl
  have k3 : Tryz.prog.cellsOf 3 = 1 := by kernel_rfl
  have k4 : Tryz.prog.cellsOf 21 = 1 := by kernel_rfl
  obtain ⟨ys, n, _, hy, _, hyl, hg⟩ := DataW.trod_struct Tryz.underlying40 h
  obtain ⟨y0, y1, rfl⟩ := list2T hyl
  obtain ⟨c0, c1, rfl⟩ := list2T hcl
  have g0 : DataW.trod enc Tryz.prog W 0 (fun _ => true) true n 35 (([c0, c1].drop 0).take (Tryz.prog.cellsOf 35)) = some y0 := hg 0 _ rfl
  have g1 : DataW.trod enc Tryz.prog W 0 (fun _ => true) true n 38 (([c0, c1].drop 1).take (Tryz.prog.cellsOf 38)) = some y1 := hg 1 _ rfl
  simp only [k1, k2, List.drop_zero, List.drop_succ_cons, List.take_succ_cons, List.take_zero] at g0 g1
  subst hy
  have hw2 : (DataW.weightsEach Tryz.prog [35, 38] [y0.1, y1.1]).all (· ≤ reachBytes) = true := by
    have e : DataW.weights Tryz.prog 40 (.agg [y0.1, y1.1]) = DataW.weightsEach Tryz.prog [35, 38] [y0.1, y1.1] := by
      rw [DataW.weights, Tryz.underlying40]
      rfl
    rw [← e]
    exact hw
  obtain ⟨q0, q1⟩ := reach_cons hw2
  obtain ⟨q2, _⟩ := reach_cons q1
  obtain ⟨a0, l0, d0, e0⟩ := Go.Joins.slice_form Tryz.underlying35 g0
  obtain ⟨a1, l1, d1, e1⟩ := Go.Joins.slice_form Tryz.underlying38 g1
  simp only [List.cons.injEq, and_true] at e0 e1
  subst e0 e1
  obtain ⟨zs, hl, hcp, hfi⟩ := row_read Tryz.underlying35 Tryz.underlying3 k3 ⟨n, g0⟩
  obtain ⟨zs', hl', hcp', hfi'⟩ := row_read Tryz.underlying38 Tryz.underlying21 k4 ⟨n, g1⟩
  have hr := len_reach (k := 8) Tryz.underlying35 (by kernel_rfl) ⟨n, g0⟩ q0
  have hr' := len_reach (k := 4) Tryz.underlying38 (by kernel_rfl) ⟨n, g1⟩ q2
  exact ⟨⟨a0, l0, d0, a1, l1, d1, zs, zs'⟩, ⟨⟨hl, hl'⟩, ⟨hcp, hcp'⟩, ⟨(show l0 ≤ _ by omega), (show l1 ≤ _ by omega)⟩, fun z hz => fits_i32 (hfi' z hz)⟩, hat 0 (by omega), hat 1 (by omega)⟩

end

theorem tens_read {H : Type} {enc : TypeId × Value → H} {W : World} {a : Option Addr} {len cap : Nat} {d : DataW H} {ps : List MemPlace}
    (h : DataW.Trod enc Tryz.prog W 0 (fun _ => true) true 25 (.slice a len cap) d ps) (hw : (DataW.weights Tryz.prog 25 d).all (· ≤ reachBytes) = true) :
    ∃ ts : List Wt, WsIn W a len ts ∧ len ≤ cap := by
  obtain ⟨fuel, hf⟩ := h
  rcases Go.Deep.open_slice Tryz.underlying25 hf with ⟨hcs, _⟩ | ⟨ad, l, c, m, n, D, Pl, hcs, _, hl, hm, hmm, hx, hi⟩
  · simp [Value.cells] at hcs
    obtain ⟨rfl, rfl, rfl⟩ := hcs
    exact ⟨[], ⟨rfl, fun h => absurd h (by omega)⟩, Nat.le_refl _⟩
  · simp [Value.cells] at hcs
    obtain ⟨rfl, rfl, rfl⟩ := hcs
    simp at hmm
    have hd := congrArg Prod.fst hx
    simp only at hd
    subst hd
    simp only [DataW.weights, Tryz.underlying25, List.all_cons, List.all_append, Bool.and_eq_true] at hw
    have hone : ∀ i, i < len → ∃ t : Wt, t.Ok W ∧ W.cell? (ad.add (i * 2 + 0)) = some (.slice t.A t.n t.c) ∧ W.cell? (ad.add (i * 2 + 1)) = some (.slice t.B t.m t.d) := by
      intro i hil
      obtain ⟨cs', hc, ht⟩ := hi i (by omega)
      rw [tenC11] at hc
      obtain ⟨x, hx1, hx3, hx4⟩ := ten_one11 hc ht (weights_elem10 hw.2.1 (List.mem_map.2 ⟨i, List.mem_range.2 hil, rfl⟩))
      rw [Go.Deep.add_add] at hx3 hx4
      exact ⟨x, hx1, hx3, hx4⟩
    have hall : ∃ f : Nat → Wt, ∀ i, i < len → (f i).Ok W ∧ W.cell? (ad.add (i * 2 + 0)) = some (.slice (f i).A (f i).n (f i).c) ∧ W.cell? (ad.add (i * 2 + 1)) = some (.slice (f i).B (f i).m (f i).d) :=
      ⟨fun i => if hil : i < len then Classical.choose (hone i hil) else ⟨none, 0, 0, none, 0, 0, [], []⟩, fun i hil => by
        simp only [dif_pos hil]
        exact Classical.choose_spec (hone i hil)⟩
    obtain ⟨f, hfo⟩ := hall
    refine ⟨(List.range len).map f, ⟨by simp, fun hn => ?_⟩, by omega⟩
    obtain ⟨b, off, spot⟩ := ad
    have h0 := (hfo 0 hn).2.1
    have hspot : spot = none := by simpa [Addr.add] using World.cell?_spot h0
    subst hspot
    have hb : b < W.heap.size := World.block_lt_of_cell? W _ h0
    refine ⟨b, off, rfl, hb, fun j t ht => ?_⟩
    obtain ⟨hjl, hje⟩ := List.getElem?_eq_some_iff.1 ht
    have hj : j < len := by simpa using hjl
    have hf' : f j = t := by simpa using hje
    obtain ⟨h1, h3, h4⟩ := hfo j hj
    rw [hf', Addr.add_lit] at h3 h4
    rw [hf'] at h1
    rw [← Nat.add_assoc] at h4
    exact ⟨by rwa [Nat.add_zero] at h3, h4, h1⟩

/-- A model, by value. -/
theorem model_read {H : Type} {enc : TypeId × Value → H} {W : World} {r : Reach} {base : Nat} {v : Value} {d : DataW H} {ps : List MemPlace} (hv : Value.okWide Tryz.prog W r base 27 v) (h : DataW.Trod enc Tryz.prog W 0 (fun _ => true) true 27 v d ps)
    (hw : (DataW.weights Tryz.prog 27 d).all (· ≤ reachBytes) = true) :
    ∃ (A B : Option Addr) (n c m k : Nat) (ns : List Nd) (ts : List Wt), v = .agg #[.slice A n c, .slice B m k] ∧ NsIn W A n ns ∧ n ≤ c ∧ WsIn W B m ts ∧ n * 72 ≤ 140737488351232 ∧ m * 48 ≤ 140737488351232 := by
  obtain ⟨cs, rfl, hsz⟩ := okWide_struct Tryz.underlying27 hv
  have k0 : Tryz.prog.cellsOf 27 = 2 := by kernel_rfl
  have k1 : Tryz.prog.cellsOf 24 = 1 := by kernel_rfl
  have k2 : Tryz.prog.cellsOf 25 = 1 := by kernel_rfl
  have k3 : Tryz.prog.cellsOf 22 = 1 := by kernel_rfl
  obtain ⟨l⟩ := cs
  obtain ⟨c0, c1, rfl⟩ := list2T (hsz.trans k0)
  obtain ⟨fuel, hf⟩ := h
  obtain ⟨ys, n, _, hy, _, hyl, hg⟩ := DataW.trod_struct Tryz.underlying27 hf
  obtain ⟨y0, y1, rfl⟩ := list2T hyl
  have g0 : DataW.trod enc Tryz.prog W 0 (fun _ => true) true n 24 (([c0, c1].drop 0).take (Tryz.prog.cellsOf 24)) = some y0 := hg 0 _ rfl
  have g1 : DataW.trod enc Tryz.prog W 0 (fun _ => true) true n 25 (([c0, c1].drop 1).take (Tryz.prog.cellsOf 25)) = some y1 := hg 1 _ rfl
  simp only [k1, k2, List.drop_zero, List.drop_succ_cons, List.take_succ_cons, List.take_zero] at g0 g1
  have hd' : d = .agg [y0.1, y1.1] := congrArg Prod.fst hy
  subst hd'
  have hw2 : (DataW.weightsEach Tryz.prog [24, 25] [y0.1, y1.1]).all (· ≤ reachBytes) = true := by
    have e : DataW.weights Tryz.prog 27 (.agg [y0.1, y1.1]) = DataW.weightsEach Tryz.prog [24, 25] [y0.1, y1.1] := by
      rw [DataW.weights, Tryz.underlying27]
      try rfl
    rw [← e]
    exact hw
  obtain ⟨q0, q1⟩ := reach_cons hw2
  obtain ⟨q2, _⟩ := reach_cons q1
  obtain ⟨ys2, n2, _, hy2, _, hyl2, hg2⟩ := DataW.trod_struct Tryz.underlying24 g0
  obtain ⟨z0, rfl⟩ := list1N hyl2
  have f0 : DataW.trod enc Tryz.prog W 0 (fun _ => true) true n2 22 (([c0].drop 0).take (Tryz.prog.cellsOf 22)) = some z0 := hg2 0 _ rfl
  simp only [k3, List.drop_zero, List.take_succ_cons, List.take_zero] at f0
  subst hy2
  have hw3 : (DataW.weightsEach Tryz.prog [22] [z0.1]).all (· ≤ reachBytes) = true := by
    have e : DataW.weights Tryz.prog 24 (.agg [z0.1]) = DataW.weightsEach Tryz.prog [22] [z0.1] := by
      rw [DataW.weights, Tryz.underlying24]
      try rfl
    rw [← e]
    exact q0
  obtain ⟨p0, _⟩ := reach_cons hw3
  obtain ⟨a0, l0, d0, e0⟩ := Go.Joins.slice_form Tryz.underlying22 f0
  obtain ⟨a1, l1, d1, e1⟩ := Go.Joins.slice_form Tryz.underlying25 g1
  simp only [List.cons.injEq, and_true] at e0 e1
  subst e0 e1
  obtain ⟨ns, h1, h2, h3, h4⟩ := nodes_read ⟨n2, f0⟩ p0
  obtain ⟨ts, t1, t2⟩ := tens_read ⟨n, g1⟩ q2
  have hr := len_reach (k := 72) Tryz.underlying22 (by kernel_rfl) ⟨n2, f0⟩ p0
  have hr' := len_reach (k := 48) Tryz.underlying25 (by kernel_rfl) ⟨n, g1⟩ q2
  exact ⟨a0, a1, l0, d0, l1, d1, ns, ts, rfl, h1, h2, t1, hr, hr'⟩

end

end Go.Proofs.YtohndckbhjakfaaGreatDoor

