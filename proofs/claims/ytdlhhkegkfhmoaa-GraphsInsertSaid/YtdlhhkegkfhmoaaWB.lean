/- Merged: Ten5, Ten6, Get, Lits, Ten7, Ten8, Ten9, TLaw, Ma3, Ma4, Ma5, Alive6, Beyond, Ml6, Pm7, Pm8, RegU, RegV. -/
import Derived.Test.YtdlhhkegkfhmoaaWA
import Derived.RangeFuncBound
import Derived.Shelf.RegionOpen
import Derived.Laws.BytesArg
import Derived.Lib.SmallJoins
import Derived.Deep.RegionHeld
import Derived.NoCompiler
import Derived.Great.BuildSlice
import Derived.Deep.Cut
namespace Go.Proofs.Ytdlhhkegkfhmoaa

section
open Go.RowKit
set_option linter.unusedVariables false
set_option linter.unusedSimpArgs false
set_option maxRecDepth 20000

theorem mod_small {d : Int} (h : 1 ≤ d ∧ d ≤ 64 ∧ dz d = d) : IntKind.u8.wrap d = d := by
  rw [IntKind.wrap_u8]; omega

/-- A row of the call's own, seen as far as it reaches. -/
theorem own_full {w : World} {base : Nat} {e : TypeId} {g n c : Nat} {xs : List Value} (h : w.ownsRow base e 1 (.slice (some ⟨g, 0, none⟩) n c) n xs) :
    ∃ ys, w.ownsRow base e 1 (.slice (some ⟨g, 0, none⟩) c c) c ys ∧ ys.take n = xs ∧ n ≤ c := by
  rcases h.2 with ⟨h0, _⟩ | ⟨g', cap, cur, h0, hb, hg, hm, hl, hz, ht⟩
  · cases h0
  · cases h0
    exact ⟨cur.toList, own_of_block hb (by simpa using hg) (by simp [hz]) (Nat.le_refl _) hl (by rw [List.take_of_length_le (by simp [hz])]), by simpa using ht, hm⟩

end

section
open Go.RowKit Go.Shelf
set_option linter.unusedVariables false
set_option linter.unusedSimpArgs false
set_option maxRecDepth 20000
attribute [local go_sem] Oper.semAt_some

/-- The bytes of a tensor. -/
def tenB (s l : List Int) : List Int := (s.length : Int) :: s ++ enc l

theorem four_wrap (z : Int) : four (IntKind.u32.wrap z) = four z := by
  unfold four
  rw [IntKind.wrap_u32]
  congr 1
  · omega
  · congr 1
    · omega
    · congr 1
      · omega
      · congr 1
        omega

theorem own_setCell {w : World} {base : Nat} {e : TypeId} {g n c : Nat} {xs : List Value} (h : w.ownsRow base e 1 (.slice (some ⟨g, 0, none⟩) n c) n xs) {p : Nat} (hp : p ≠ g) (v : Value) : (w.setCell ⟨p, 0, none⟩ v).ownsRow base e 1 (.slice (some ⟨g, 0, none⟩) n c) n xs :=
  h.kept (row := some p) (grownBy_setCell' w p v) (by right; intro e; cases e; exact hp rfl)

theorem own_not {w : World} {base : Nat} {e t : TypeId} {g n c p : Nat} {xs : List Value} {v : Value} (h : w.ownsRow base e 1 (.slice (some ⟨g, 0, none⟩) n c) n xs) (hb : Box1 w p t v) (hne : t ≠ e) : p ≠ g := by
  obtain ⟨cur, hg, _⟩ := own_heap h
  intro e'
  subst e'
  have hb' : w.heap[p]? = some (.cells #[v] t (0, 0)) := hb
  rw [hg] at hb'
  cases hb'
  exact hne rfl

theorem own_put {w : World} {base : Nat} {e : TypeId} {g n c : Nat} {xs : List Value} (h : w.ownsRow base e 1 (.slice (some ⟨g, 0, none⟩) n c) n xs) {B : Nat} {W' : World} {row : Option Nat} (hg : w.grownBy W' row) (hr : ∀ r, row = some r → B ≤ r ∧ ∃ o : Obj, w.heap[r]? = some o ∧ o.isCells = false) : W'.ownsRow base e 1 (.slice (some ⟨g, 0, none⟩) n c) n xs := by
  obtain ⟨cur, hh, _⟩ := own_heap h
  refine h.kept hg ?_
  right
  intro e'
  obtain ⟨_, o, ho, hc⟩ := hr g e'.symm
  rw [hh] at ho
  cases ho
  cases hc

theorem own_some {w : World} {base : Nat} {e : TypeId} {A : Option Addr} {n c : Nat} {xs : List Value} (h : w.ownsRow base e 1 (.slice A n c) n xs) (hn : 0 < n) : ∃ g, A = some ⟨g, 0, none⟩ := by
  rcases h.2 with ⟨_, h0⟩ | ⟨g', cap, cur, h0, _⟩
  · omega
  · cases h0; exact ⟨g', rfl⟩

end

section
open Go.RowKit

theorem dec_take (bs : List Int) (q : Nat) : dec (bs.take (4 * q)) q = dec bs q := by
  unfold dec
  refine List.map_congr_left fun j hj => ?_
  have hj' : j < q := by simpa using hj
  simp only [wd, List.getD, List.getElem?_take]
  rw [if_pos (by omega), if_pos (by omega), if_pos (by omega), if_pos (by omega)]

end

section
open Go.RowKit

theorem quiet_below {f : FuncId} {args : Array Value} {w : World} {E : Ending} (h : Calls Try.prog f args w fun e w' => e = E ∧ ∃ k, w' = w.drewN k) :
    Calls Try.prog f args w fun e w' => e = E ∧ Below w.heap.size w w' :=
  h.mono fun _ _ ⟨he, k, hk⟩ => ⟨he, by subst hk; exact below_drewN (Below.refl _ _) k⟩

theorem still_below {f : FuncId} {args : Array Value} {w : World} {E : Ending} (h : Calls Try.prog f args w fun e w' => e = E ∧ w = w') :
    Calls Try.prog f args w fun e w' => e = E ∧ Below w.heap.size w w' :=
  h.mono fun _ _ ⟨he, hk⟩ => ⟨he, by subst hk; exact Below.refl _ _⟩

/-- A literal of bytes, laid in a new block. -/
theorem lies_lit (w : World) (k : IntKind) (zs : List Int) (t : TypeId) : Lies (w.alloc (.cells (zs.map (Value.int k)).toArray t)) (some ⟨w.heap.size, 0, none⟩) zs.length (zs.map (Value.int k)) := by
  have h := lies_new w (zs.map (Value.int k)) t
  rwa [List.length_map] at h

theorem below_lit {B : Nat} {a w w' : World} {o : Obj} (h : Below B a w) (hB : B ≤ w.heap.size) (hb : Below (w.alloc o).heap.size (w.alloc o) w') : Below B a w' :=
  (h.alloc hB o).trans (hb.mono (by simp; omega))

theorem lies_mark (w : World) (zs : List Int) (t : TypeId) (fr : Nat × Nat) : Lies (w.alloc (.cells (zs.map (Value.int .u8)).toArray t fr)) (some ⟨w.heap.size, 0, none⟩) zs.length (zs.map (Value.int .u8)) := by
  refine ⟨by simp, fun _ => ⟨w.heap.size, 0, rfl, by simp, fun j _ => ?_⟩⟩
  rw [Nat.zero_add, World.cell?_alloc_mark]
  simp

end

section
open Go.RowKit
set_option linter.unusedVariables false
set_option linter.unusedSimpArgs false
set_option maxRecDepth 20000

theorem lies_slice {w : World} {b o n : Nat} {bs : List Int} {k : IntKind} (h : Lies w (some ⟨b, o, none⟩) n (bs.map (Value.int k))) {i j : Nat} (hij : i ≤ j) (hj : j ≤ n) :
    Lies w (some ⟨b, o + i, none⟩) (j - i) (((bs.drop i).take (j - i)).map (Value.int k)) := by
  have hl : bs.length = n := by have := h.len; simpa using this
  refine ⟨by simp [hl]; omega, fun hp => ?_⟩
  obtain ⟨b', o', e, hb, hx⟩ := h.cells (by omega)
  cases e
  refine ⟨b, o + i, rfl, hb, fun m hm => ?_⟩
  rw [Nat.add_assoc, hx (i + m) (by omega)]
  simp [List.getElem?_take, hm, List.getElem?_drop]

theorem lies_empty {w : World} {A : Option Addr} {k : IntKind} : Lies w A 0 (([] : List Int).map (Value.int k)) := ⟨rfl, fun h => absurd h (by omega)⟩

/-- The dimensions that bytes begin with. -/
def shpOf (bs : List Int) (k : Nat) : List Int := (bs.drop 1).take k

theorem shpOf_succ {bs : List Int} {k : Nat} (h : 1 + k < bs.length) : shpOf bs (k + 1) = shpOf bs k ++ [bs.getD (1 + k) 0] := by
  have hkl : k < (bs.drop 1).length := by rw [List.length_drop]; omega
  have e : (bs.drop 1)[k] = bs.getD (1 + k) 0 := by rw [List.getElem_drop]; simp [List.getD, h]
  rw [shpOf, List.take_succ_eq_append_getElem hkl, e]
  rfl

theorem shpOf_len {bs : List Int} {k : Nat} (h : 1 + k ≤ bs.length) : (shpOf bs k).length = k := by simp [shpOf]; omega

end

section
open Go.RowKit Go.Shelf
set_option linter.unusedVariables false
set_option linter.unusedSimpArgs false
set_option maxRecDepth 20000
attribute [local go_sem] Oper.semAt_some

/-- How many dimensions bytes tell. -/
def dimsOf (bs : List Int) : Nat := (bs.getD 0 0).toNat

/-- Are bytes those of a tensor? -/
def getOk (bs : List Int) : Bool := decide (1 + dimsOf bs ≤ bs.length) && decide (0 < sizeI (shpOf bs (dimsOf bs))) && decide (((bs.length - (1 + dimsOf bs) : Nat) : Int) = 4 * sizeI (shpOf bs (dimsOf bs)))

end

section
open Go.RowKit Go.Shelf
set_option linter.unusedVariables false
set_option linter.unusedSimpArgs false
set_option maxRecDepth 20000
attribute [local go_sem] Oper.semAt_some

theorem own_setCell' {w : World} {base : Nat} {e : TypeId} {g n c : Nat} {xs : List Value} (h : w.ownsRow base e 1 (.slice (some ⟨g, 0, none⟩) n c) n xs) {a : Addr} (hp : g ≠ a.block) (v : Value) : (w.setCell a v).ownsRow base e 1 (.slice (some ⟨g, 0, none⟩) n c) n xs := by
  obtain ⟨cur, hh, hr⟩ := own_heap h
  refine h.kept (row := some a.block) ⟨rfl, rfl, rfl, by simp, fun k _ hk => Below.heap_setCell w a v k (by intro e; exact hk (by rw [e]))⟩ ?_
  right
  intro e'
  cases e'
  exact hp rfl

theorem getD_part (l : List Int) (a m i : Nat) (h : i < m) : ((l.drop a).take m).getD i 0 = l.getD (a + i) 0 := by
  simp [List.getD, List.getElem?_take, h, List.getElem?_drop]

theorem head_wd (l : List Int) (j m : Nat) (h : 4 ≤ m) : IntKind.i32.wrap (head4 ((l.drop (4 * j)).take m)) = wd l j := by
  rw [head4, getD_part _ _ _ _ (by omega), getD_part _ _ _ _ (by omega), getD_part _ _ _ _ (by omega), getD_part _ _ _ _ (by omega)]
  rfl

end

section
open Go.RowKit
set_option linter.unusedVariables false
set_option linter.unusedSimpArgs false
set_option maxRecDepth 20000

/-- How great a tensor counts. -/
def tsz (n m : Nat) : Nat := if 1 + n ≤ 1048576 then 1 + n + m else 1 + n

end

section
open Go.RowKit
set_option linter.unusedVariables false
set_option linter.unusedSimpArgs false
set_option maxRecDepth 20000

/-- q numbers of which the first k are those of zs, the others 0. -/
def fillN (zs : List Int) (q k : Nat) : List Value := (List.range q).map fun j => .int .i32 (if j < k then zs.getD j 0 else 0)

section
variable {zs : List Int} {q k : Nat}

theorem fillN_len : (fillN zs q k).length = q := by simp [fillN]

theorem fillN_at {j : Nat} (h : j < q) : (fillN zs q k)[j]? = some (.int .i32 (if j < k then zs.getD j 0 else 0)) := by simp [fillN, h]

theorem fillN_none : fillN zs q 0 = List.replicate q (.int .i32 0) := by
  apply List.ext_getElem <;> simp [fillN]

theorem fillN_all (h : zs.length = q) : fillN zs q q = zs.map (Value.int .i32) := by
  apply List.ext_getElem
  · simp [fillN, h]
  · intro j h1 h2
    have : j < q := by simpa [fillN] using h1
    simp [fillN, this, List.getD, h]

theorem fillN_set : (fillN zs q k).set k (.int .i32 (zs.getD k 0)) = fillN zs q (k + 1) := by
  apply List.ext_getElem
  · simp [fillN]
  · intro j h1 h2
    simp only [fillN, List.getElem_set, List.getElem_map, List.getElem_range]
    by_cases e : k = j
    · subst e; simp
    · rw [if_neg e]
      by_cases h : j < k
      · rw [if_pos h, if_pos (by omega)]
      · rw [if_neg h, if_neg (by omega)]

end

/-- A block of q numbers, of which the first k are those of zs. -/
def FillAt (w : World) (g q : Nat) (zs : List Int) (k : Nat) : Prop := w.heap[g]? = some (.cells (fillN zs q k).toArray 21 (0, 0))

section
variable {w : World} {g q k : Nat} {zs : List Int}

theorem FillAt.cell (h : FillAt w g q zs k) {j : Nat} (hj : j < q) : w.cell? ⟨g, j, none⟩ = some (.int .i32 (if j < k then zs.getD j 0 else 0)) := by
  rw [cell_of_row _ _ j _ _ (0, 0) h, List.getElem?_toArray, fillN_at hj]

theorem FillAt.frozen (h : FillAt w g q zs k) (j : Nat) : w.frozen? ⟨g, j, none⟩ = false := frozen_of_row w g j _ _ h

theorem FillAt.lt (h : FillAt w g q zs k) : g < w.heap.size := lt_of_heap h

theorem FillAt.set (h : FillAt w g q zs k) : FillAt (w.setCell ⟨g, k, none⟩ (.int .i32 (zs.getD k 0))) g q zs (k + 1) := by
  have e1 := setCell_eq_setRow w g k _ _ (0, 0) (.int .i32 (zs.getD k 0)) h
  have h1 := setRow_heap w g _ ((fillN zs q k).toArray.setIfInBounds k (.int .i32 (zs.getD k 0))) _ _ h
  rw [e1]
  unfold FillAt
  rw [h1, ← fillN_set]
  simp

theorem FillAt.below (h : FillAt w g q zs k) {w' : World} (hb : Below w.heap.size w w') : FillAt w' g q zs k := (hb.block g h.lt).trans h

theorem FillAt.of_own {base : Nat} (h : w.ownsRow base 21 1 (.slice (some ⟨g, 0, none⟩) q q) q (List.replicate q (.int .i32 0))) (zs : List Int) : FillAt w g q zs 0 := by
  obtain ⟨cur, hh, _, _, _, hs, ht⟩ := own_heap h
  unfold FillAt
  rw [hh, fillN_none, ← ht, Nat.mul_one, List.take_of_length_le (by simp; omega)]

theorem FillAt.own (h : FillAt w g q zs q) (hz : zs.length = q) {base : Nat} (hb : base ≤ g) (hq : q ≤ maxLen) : w.ownsRow base 21 1 (.slice (some ⟨g, 0, none⟩) q q) q (zs.map (Value.int .i32)) :=
  own_of_block hb h fillN_len (Nat.le_refl _) hq (by rw [fillN_all hz, List.take_of_length_le (by simp [hz])])

end

theorem grown_cell6 (w : World) (a : Addr) (v : Value) : w.grownBy (w.setCell a v) (some a.block) :=
  ⟨rfl, rfl, rfl, by simp, fun k _ hk => Below.heap_setCell w a v k (by intro e; exact hk (by rw [e]))⟩

theorem grown_lies {w w' : World} {r n : Nat} {A : Option Addr} {xs : List Value} (hg : w.grownBy w' (some r)) (h : Lies w A n xs) (hne : ∀ b o, A = some ⟨b, o, none⟩ → b ≠ r) : Lies w' A n xs :=
  h.grown hg (fun b o e => by simpa using hne b o e)

theorem lies_block {w : World} {A : Option Addr} {n B : Nat} {xs : List Value} (h : Lies w A n xs) (hn : 0 < n) (hB : w.heap.size ≤ B) : ∀ b o, A = some ⟨b, o, none⟩ → b ≠ B := by
  intro b o e
  obtain ⟨b', o', e', hb, _⟩ := h.cells hn
  rw [e] at e'
  cases e'
  omega

end

section
open Go.RowKit
set_option linter.unusedVariables false
set_option linter.unusedSimpArgs false
set_option maxRecDepth 20000

/-- Why two tensors can't be put together. -/
def twoE (s : List Int) (m : Nat) (s' : List Int) (m' : Nat) : Int := if tenOk s m = true ∧ tenOk s' m' = true then (if s = s' then 0 else 10) else 1

theorem twoE_ok {s s' : List Int} {m m' : Nat} (h1 : tenOk s m = true) (h2 : tenOk s' m' = true) (h3 : s = s') : twoE s m s' m' = 0 := by rw [twoE, if_pos ⟨h1, h2⟩, if_pos h3]

theorem twoE_shape {s s' : List Int} {m m' : Nat} (h1 : tenOk s m = true) (h2 : tenOk s' m' = true) (h3 : ¬ s = s') : twoE s m s' m' = 10 := by rw [twoE, if_pos ⟨h1, h2⟩, if_neg h3]

theorem twoE_arg {s s' : List Int} {m m' : Nat} (h : ¬ (tenOk s m = true ∧ tenOk s' m' = true)) : twoE s m s' m' = 1 := by rw [twoE, if_neg h]

/-- What two tensors' shape is put together. -/
def twoS (s : List Int) (m : Nat) (s' : List Int) (m' : Nat) : List Int := if twoE s m s' m' = 0 then s else []

def twoL (f : Int → Int → Int) (s : List Int) (m : Nat) (s' : List Int) (m' : Nat) (l l' : List Int) : List Int := if twoE s m s' m' = 0 then List.zipWith f l l' else []

theorem twoE_iff {s s' : List Int} {m m' : Nat} : twoE s m s' m' = 0 ↔ tenOk s m = true ∧ tenOk s' m' = true ∧ s = s' := by
  unfold twoE
  by_cases h : tenOk s m = true ∧ tenOk s' m' = true
  · rw [if_pos h]
    by_cases h3 : s = s'
    · rw [if_pos h3]; exact ⟨fun _ => ⟨h.1, h.2, h3⟩, fun _ => rfl⟩
    · rw [if_neg h3]; exact ⟨fun e => absurd e (by decide), fun e => absurd e.2.2 h3⟩
  · rw [if_neg h]; exact ⟨fun e => absurd e (by decide), fun e => absurd ⟨e.1, e.2.1⟩ h⟩

end

section
open Go.RowKit
set_option linter.unusedVariables false
set_option linter.unusedSimpArgs false
set_option maxRecDepth 20000

/-- Why a tensor can't be taken. -/
def oneE (s : List Int) (m : Nat) : Int := if tenOk s m = true then 0 else 1

def oneS (s : List Int) (m : Nat) : List Int := if tenOk s m = true then s else []

def oneL (f : Int → Int) (s : List Int) (m : Nat) (l : List Int) : List Int := if tenOk s m = true then l.map f else []

def shE (s : List Int) (m : Nat) (n : Int) : Int := if tenOk s m = true ∧ 0 ≤ n ∧ n ≤ 31 then 0 else 1

def shS (s : List Int) (m : Nat) (n : Int) : List Int := if tenOk s m = true ∧ 0 ≤ n ∧ n ≤ 31 then s else []

def shL (s : List Int) (m : Nat) (n : Int) (l : List Int) : List Int := if tenOk s m = true ∧ 0 ≤ n ∧ n ≤ 31 then l.map (shf n.toNat) else []

end

section
open Go.RowKit
set_option linter.unusedVariables false
set_option linter.unusedSimpArgs false
set_option maxRecDepth 100000

theorem below_al6 {W v : World} {o : Obj} (h : Below W.heap.size W v) : Below W.heap.size W (v.alloc o) := h.alloc h.size o

theorem below_nx6 {W v w' : World} (h : Below W.heap.size W v) (k : Below v.heap.size v w') : Below W.heap.size W w' := h.trans (k.mono h.size)

end

section
open Go.RowKit

def sumTo (zs : List Int) (k : Nat) : Int := (zs.take k).sum

theorem sumTo_snoc (zs : List Int) (k : Nat) (h : k < zs.length) : sumTo zs (k + 1) = sumTo zs k + zs.getD k 0 := by
  have e : zs.getD k 0 = zs[k] := by simp [List.getD, h]
  rw [e, sumTo, List.take_succ_eq_append_getElem h, List.sum_append]
  simp [sumTo]

theorem sumTo_all (zs : List Int) : sumTo zs zs.length = zs.sum := by rw [sumTo, List.take_length]

theorem sum_nonneg : ∀ (l : List Int), (∀ z ∈ l, 0 ≤ z) → 0 ≤ l.sum
  | [], _ => by simp
  | z :: l, h => by
    have h1 := h z (by simp)
    have h2 := sum_nonneg l (fun x hx => h x (by simp [hx]))
    simp only [List.sum_cons]
    omega

theorem sumTo_le (zs : List Int) (k : Nat) (h : ∀ z ∈ zs, 0 ≤ z) : 0 ≤ sumTo zs k ∧ sumTo zs k ≤ zs.sum := by
  constructor
  · exact sum_nonneg _ (fun z hz => h z (List.mem_of_mem_take hz))
  · have h1 := sum_nonneg (zs.drop k) (fun z hz => h z (List.mem_of_mem_drop hz))
    have h2 : zs.sum = (zs.take k).sum + (zs.drop k).sum := by rw [← List.sum_append, List.take_append_drop]
    unfold sumTo
    omega

end

section
open Go.RowKit
set_option linter.unusedVariables false
set_option linter.unusedSimpArgs false
set_option maxRecDepth 20000

theorem wrap32_some (a : Int) : ∃ k, wrap32 a = a + 4294967296 * k := ⟨-((a + 2147483648) / 4294967296), by unfold wrap32; omega⟩

theorem wrap32_more (a k : Int) : wrap32 (a + 4294967296 * k) = wrap32 a := by unfold wrap32; omega

theorem wrap32_range (a : Int) : -2147483648 ≤ wrap32 a ∧ wrap32 a < 2147483648 := by unfold wrap32; omega

theorem wrap32_id {a : Int} (h : -2147483648 ≤ a ∧ a < 2147483648) : wrap32 a = a := by unfold wrap32; omega

theorem add32_comm (x y : Int) : add32 x y = add32 y x := by unfold add32; rw [Int.add_comm]

theorem add32_assoc (x y z : Int) : add32 (add32 x y) z = add32 x (add32 y z) := by unfold add32 wrap32; omega

theorem mul32_comm (x y : Int) : mul32 x y = mul32 y x := by unfold mul32; rw [Int.mul_comm]

theorem mul32_assoc (x y z : Int) : mul32 (mul32 x y) z = mul32 x (mul32 y z) := by
  unfold mul32
  obtain ⟨k, hk⟩ := wrap32_some (x * y)
  obtain ⟨j, hj⟩ := wrap32_some (y * z)
  rw [hk, hj, show (x * y + 4294967296 * k) * z = x * y * z + 4294967296 * (k * z) by rw [Int.add_mul, Int.mul_assoc 4294967296], show x * (y * z + 4294967296 * j) = x * y * z + 4294967296 * (x * j) by rw [Int.mul_add, Int.mul_assoc x y, Int.mul_left_comm x 4294967296], wrap32_more, wrap32_more]

theorem mul32_add (x y z : Int) : mul32 x (add32 y z) = add32 (mul32 x y) (mul32 x z) := by
  unfold mul32 add32
  obtain ⟨k, hk⟩ := wrap32_some (y + z)
  obtain ⟨i, hi⟩ := wrap32_some (x * y)
  obtain ⟨j, hj⟩ := wrap32_some (x * z)
  rw [hk, hi, hj, show x * (y + z + 4294967296 * k) = x * y + x * z + 4294967296 * (x * k) by rw [Int.mul_add, Int.mul_add, Int.mul_left_comm x 4294967296], show x * y + 4294967296 * i + (x * z + 4294967296 * j) = x * y + x * z + 4294967296 * (i + j) by omega, wrap32_more, wrap32_more]

theorem zip_comm {f : Int → Int → Int} (h : ∀ x y, f x y = f y x) : ∀ (a b : List Int), List.zipWith f a b = List.zipWith f b a
  | [], b => by cases b <;> rfl
  | x :: a, [] => rfl
  | x :: a, y :: b => by rw [List.zipWith_cons_cons, List.zipWith_cons_cons, h, zip_comm h]

theorem zip_assoc {f : Int → Int → Int} (h : ∀ x y z, f (f x y) z = f x (f y z)) : ∀ (a b c : List Int), List.zipWith f (List.zipWith f a b) c = List.zipWith f a (List.zipWith f b c)
  | [], b, c => by cases b <;> cases c <;> rfl
  | x :: a, [], c => by cases c <;> rfl
  | x :: a, y :: b, [] => rfl
  | x :: a, y :: b, z :: c => by rw [List.zipWith_cons_cons, List.zipWith_cons_cons, List.zipWith_cons_cons, List.zipWith_cons_cons, h, zip_assoc h]

theorem zip_dist {f g : Int → Int → Int} (h : ∀ x y z, g x (f y z) = f (g x y) (g x z)) : ∀ (a b c : List Int), List.zipWith g a (List.zipWith f b c) = List.zipWith f (List.zipWith g a b) (List.zipWith g a c)
  | [], b, c => by cases b <;> cases c <;> rfl
  | x :: a, [], c => by cases c <;> rfl
  | x :: a, y :: b, [] => rfl
  | x :: a, y :: b, z :: c => by rw [List.zipWith_cons_cons, List.zipWith_cons_cons, List.zipWith_cons_cons, List.zipWith_cons_cons, List.zipWith_cons_cons, h, zip_dist h]

theorem zip_right {f : Int → Int → Int} {l : List Int} {m : Nat} {u : Int} {g : Int → Int} (hl : l.length = m) (h : ∀ x ∈ l, f x u = g x) : List.zipWith f l (List.replicate m u) = l.map g := by
  apply List.ext_getElem
  · simp [hl]
  · intro j h1 h2
    simp [h _ (List.getElem_mem _)]

theorem zip_left {f : Int → Int → Int} {l : List Int} {m : Nat} {u : Int} {g : Int → Int} (hl : l.length = m) (h : ∀ x ∈ l, f u x = g x) : List.zipWith f (List.replicate m u) l = l.map g := by
  apply List.ext_getElem
  · simp [hl]
  · intro j h1 h2
    simp [h _ (List.getElem_mem _)]

theorem map_same {l : List Int} {g : Int → Int} (h : ∀ x ∈ l, g x = x) : l.map g = l := by
  induction l with
  | nil => rfl
  | cons a t ih => rw [List.map_cons, h a List.mem_cons_self, ih (fun x hx => h x (List.mem_cons_of_mem _ hx))]

theorem map_const {l : List Int} {m : Nat} {u : Int} (hl : l.length = m) : l.map (fun _ => u) = List.replicate m u := by
  rw [List.map_const', hl]

/-- m numbers and a mark behind, of which the first k are those of zs, the others those of xs. -/
def mixN (zs xs : List Int) (k : Nat) : List Value := (zs.take k ++ xs.drop k).map (Value.int .i32) ++ [.int .i32 77]

section
variable {zs xs : List Int} {m k : Nat}

theorem mixN_len (h1 : zs.length = m) (h2 : xs.length = m) (hk : k ≤ m) : (mixN zs xs k).length = m + 1 := by simp [mixN]; omega

theorem mixN_at (h1 : zs.length = m) (h2 : xs.length = m) (hk : k < m) : (mixN zs xs k)[k]? = some (.int .i32 (xs.getD k 0)) := by
  unfold mixN
  rw [List.getElem?_append_left (by simp; omega), List.getElem?_map, List.getElem?_append_right (by simp; omega)]
  simp [List.getD, List.getElem?_drop, show min k zs.length = k by omega, show k < xs.length by omega]

theorem mixN_none : mixN zs xs 0 = xs.map (Value.int .i32) ++ [.int .i32 77] := by simp [mixN]

theorem mixN_all (h1 : zs.length = m) (h2 : xs.length = m) : mixN zs xs m = zs.map (Value.int .i32) ++ [.int .i32 77] := by
  unfold mixN
  rw [List.take_of_length_le (by omega), List.drop_of_length_le (by omega), List.append_nil]

theorem mixN_set (h1 : zs.length = m) (h2 : xs.length = m) (hk : k < m) : (mixN zs xs k).set k (.int .i32 (zs.getD k 0)) = mixN zs xs (k + 1) := by
  apply List.ext_getElem?
  intro j
  rw [List.getElem?_set]
  have hl := mixN_len h1 h2 (Nat.le_of_lt hk)
  by_cases e : k = j
  · subst e
    rw [if_pos rfl, if_pos (by omega)]
    unfold mixN
    rw [List.getElem?_append_left (by simp; omega), List.getElem?_map, List.getElem?_append_left (by simp; omega), List.getElem?_take, if_pos (by omega)]
    simp [List.getD, show k < zs.length by omega]
  · rw [if_neg e]
    unfold mixN
    by_cases hj : j < m
    · rw [List.getElem?_append_left (by simp; omega), List.getElem?_append_left (by simp; omega), List.getElem?_map, List.getElem?_map]
      by_cases h : j < k
      · rw [List.getElem?_append_left (by simp; omega), List.getElem?_append_left (by simp; omega), List.getElem?_take, List.getElem?_take, if_pos h, if_pos (by omega)]
      · rw [List.getElem?_append_right (by simp; omega), List.getElem?_append_right (by simp; omega), List.getElem?_drop, List.getElem?_drop]
        simp only [List.length_take]
        congr 2
        omega
    · rw [List.getElem?_append_right (by simp; omega), List.getElem?_append_right (by simp; omega)]
      simp only [List.length_map, List.length_append, List.length_take, List.length_drop]
      congr 1
      omega

end

def MixAt (w : World) (g : Nat) (zs xs : List Int) (k : Nat) : Prop := w.heap[g]? = some (.cells (mixN zs xs k).toArray 21 (0, 0))

section
variable {w : World} {g m k : Nat} {zs xs : List Int}

theorem MixAt.cell (h : MixAt w g zs xs k) (h1 : zs.length = m) (h2 : xs.length = m) (hk : k < m) : w.cell? ⟨g, k, none⟩ = some (.int .i32 (xs.getD k 0)) := by
  rw [cell_of_row _ _ k _ _ (0, 0) h, List.getElem?_toArray, mixN_at h1 h2 hk]

theorem MixAt.frozen (h : MixAt w g zs xs k) (j : Nat) : w.frozen? ⟨g, j, none⟩ = false := frozen_of_row w g j _ _ h

theorem MixAt.lt (h : MixAt w g zs xs k) : g < w.heap.size := lt_of_heap h

theorem MixAt.set (h : MixAt w g zs xs k) (h1 : zs.length = m) (h2 : xs.length = m) (hk : k < m) : MixAt (w.setCell ⟨g, k, none⟩ (.int .i32 (zs.getD k 0))) g zs xs (k + 1) := by
  have e1 := setCell_eq_setRow w g k _ _ (0, 0) (.int .i32 (zs.getD k 0)) h
  have h3 := setRow_heap w g _ ((mixN zs xs k).toArray.setIfInBounds k (.int .i32 (zs.getD k 0))) _ _ h
  rw [e1]
  unfold MixAt
  rw [h3, ← mixN_set h1 h2 hk]
  simp

theorem MixAt.other (h : MixAt w g zs xs k) {a : Addr} (ha : g ≠ a.block) (v : Value) : MixAt (w.setCell a v) g zs xs k := (Below.heap_setCell w a v g ha).trans h

theorem MixAt.keep (h : MixAt w g zs xs k) {w' : World} {B : Nat} (hb : Below B w w') (hB : g < B) : MixAt w' g zs xs k := (hb.block g hB).trans h

theorem MixAt.of_own {base : Nat} (h : w.ownsRow base 21 1 (.slice (some ⟨g, 0, none⟩) (m + 1) (m + 1)) (m + 1) (xs.map (Value.int .i32) ++ [.int .i32 77])) (zs : List Int) : MixAt w g zs xs 0 := by
  obtain ⟨cur, hh, _, _, _, hs, ht⟩ := own_heap h
  unfold MixAt
  rw [hh, mixN_none, ← ht, Nat.mul_one, List.take_of_length_le (by simp; omega)]

theorem MixAt.lies (h : MixAt w g zs xs m) (h1 : zs.length = m) (h2 : xs.length = m) : Lies w (some ⟨g, 0, none⟩) m (zs.map (Value.int .i32)) :=
  ⟨by simp [h1], fun hm => ⟨g, 0, rfl, h.lt, fun j hj => by
    rw [Nat.zero_add, cell_of_row _ _ j _ _ (0, 0) h, List.getElem?_toArray, mixN_all h1 h2, List.getElem?_append_left (by simp; omega)]⟩⟩

end

section
variable {w : World} {p : Nat} {A B : Option Addr} {n c m d : Nat} {s l : List Int}

end

theorem tsz_nn6 (n m : Nat) : 0 ≤ (tsz n m : Int) := by omega

theorem tsz_hi6 {n m N : Nat} (hn : n ≤ N) (hm : m ≤ N) : (tsz n m : Int) ≤ 1 + 2 * N := by unfold tsz; split <;> omega

theorem tsz_lo6 {n m : Nat} (h : tsz n m ≤ 1048576) : n ≤ 1048576 ∧ m ≤ 1048576 := by unfold tsz at h; split at h <;> omega

end

section
open Go.RowKit
set_option linter.unusedVariables false
set_option linter.unusedSimpArgs false

/-- What the first k places of the row i of l and the column j of l' come to; rows of l have K numbers, those of l' n. -/
def dotN (l l' : List Int) (K n i j : Nat) : Nat → Int
  | 0 => 0
  | p + 1 => add32 (dotN l l' K n i j p) (mul32 (l.getD (i * K + p) 0) (l'.getD (p * n + j) 0))

/-- The numbers of a product: M rows, n columns, K places between. -/
def prodL (l l' : List Int) (M K n : Nat) : List Int := (List.range (M * n)).map fun q => dotN l l' K n (q / n) (q % n) K

def sm (f : Nat → Int) : Nat → Int
  | 0 => 0
  | k + 1 => sm f k + f k

theorem w32_add (a b : Int) : wrap32 (wrap32 a + b) = wrap32 (a + b) := by unfold wrap32; omega

theorem w32_add' (a b : Int) : wrap32 (a + wrap32 b) = wrap32 (a + b) := by unfold wrap32; omega

theorem w32_mul (a b : Int) : wrap32 (wrap32 a * b) = wrap32 (a * b) := by
  obtain ⟨k, hk⟩ := wrap32_some a
  rw [hk, Int.add_mul, Int.mul_assoc, wrap32_more]

theorem w32_mul' (a b : Int) : wrap32 (a * wrap32 b) = wrap32 (a * b) := by rw [Int.mul_comm, w32_mul, Int.mul_comm]

theorem w32_both {a b c d : Int} (h1 : wrap32 a = wrap32 c) (h2 : wrap32 b = wrap32 d) : wrap32 (a + b) = wrap32 (c + d) := by
  rw [← w32_add, h1, w32_add, ← w32_add', h2, w32_add']

theorem w32_w32 (a : Int) : wrap32 (wrap32 a) = wrap32 a := by unfold wrap32; omega

theorem sm_congr {f g : Nat → Int} : ∀ {k : Nat}, (∀ p, p < k → f p = g p) → sm f k = sm g k
  | 0, _ => rfl
  | k + 1, h => by rw [sm, sm, sm_congr fun p hp => h p (by omega), h k (by omega)]

theorem sm_wrap {f g : Nat → Int} : ∀ {k : Nat}, (∀ p, p < k → wrap32 (f p) = wrap32 (g p)) → wrap32 (sm f k) = wrap32 (sm g k)
  | 0, _ => rfl
  | k + 1, h => by rw [sm, sm]; exact w32_both (sm_wrap fun p hp => h p (by omega)) (h k (by omega))

theorem sm_add (f g : Nat → Int) : ∀ k, sm (fun p => f p + g p) k = sm f k + sm g k
  | 0 => rfl
  | k + 1 => by rw [sm, sm, sm, sm_add f g k]; omega

theorem sm_mul (c : Int) (f : Nat → Int) : ∀ k, sm (fun p => c * f p) k = c * sm f k
  | 0 => by simp [sm]
  | k + 1 => by rw [sm, sm, sm_mul c f k, Int.mul_add]

theorem sm_mul' (c : Int) (f : Nat → Int) (k : Nat) : sm (fun p => f p * c) k = sm f k * c := by
  rw [Int.mul_comm, ← sm_mul]; exact sm_congr fun p _ => Int.mul_comm _ _

theorem sm_zero {f : Nat → Int} : ∀ {k : Nat}, (∀ p, p < k → f p = 0) → sm f k = 0
  | 0, _ => rfl
  | k + 1, h => by rw [sm, sm_zero fun p hp => h p (by omega), h k (by omega)]; rfl

theorem sm_swap (f : Nat → Nat → Int) (k : Nat) : ∀ m, sm (fun p => sm (fun q => f p q) k) m = sm (fun q => sm (fun p => f p q) m) k
  | 0 => by simp only [sm]; exact (sm_zero fun _ _ => rfl).symm
  | m + 1 => by
    rw [sm, sm_swap f k m, ← sm_add]
    exact sm_congr fun q _ => rfl

theorem sm_one {f : Nat → Int} {i : Nat} : ∀ {k : Nat}, i < k → (∀ p, p < k → p ≠ i → f p = 0) → sm f k = f i
  | k + 1, hi, h => by
    rw [sm]
    by_cases e : i = k
    · subst e; rw [sm_zero fun p hp => h p (by omega) (by omega)]; omega
    · rw [sm_one (k := k) (by omega) fun p hp hne => h p (by omega) hne, h k (by omega) (by omega)]; omega

theorem dotN_sm (l l' : List Int) (K n i j : Nat) : ∀ k, dotN l l' K n i j k = wrap32 (sm (fun p => l.getD (i * K + p) 0 * l'.getD (p * n + j) 0) k)
  | 0 => by simp [dotN, sm, wrap32]
  | k + 1 => by rw [dotN, dotN_sm l l' K n i j k, sm]; unfold add32 mul32; rw [w32_add, w32_add']

theorem dotN_range (l l' : List Int) (K n i j k : Nat) : -2147483648 ≤ dotN l l' K n i j k ∧ dotN l l' K n i j k < 2147483648 := by rw [dotN_sm]; exact wrap32_range _

theorem prodL_len (l l' : List Int) (M K n : Nat) : (prodL l l' M K n).length = M * n := by simp [prodL]

theorem place_lt {M n i j : Nat} (hi : i < M) (hj : j < n) : i * n + j < M * n := by
  have h : i * n + n ≤ M * n := by rw [← Nat.succ_mul]; exact Nat.mul_le_mul_right n hi
  omega

theorem prodL_at {l l' : List Int} {M K n i j : Nat} (hi : i < M) (hj : j < n) : (prodL l l' M K n).getD (i * n + j) 0 = dotN l l' K n i j K := by
  have h := place_lt hi hj
  have h1 : (i * n + j) / n = i := by rw [Nat.mul_comm, Nat.mul_add_div (by omega), Nat.div_eq_of_lt hj]; omega
  have h2 : (i * n + j) % n = j := by rw [Nat.mul_comm, Nat.mul_add_mod, Nat.mod_eq_of_lt hj]
  simp [prodL, List.getD, h, h1, h2]

theorem prodL_words (l l' : List Int) (M K n : Nat) : ∀ z ∈ prodL l l' M K n, -2147483648 ≤ z ∧ z < 2147483648 := by
  intro z hz
  simp only [prodL, List.mem_map] at hz
  obtain ⟨q, _, rfl⟩ := hz
  exact dotN_range _ _ _ _ _ _ _

/-- Two lists of M * n numbers are one if they are so at each row and column. -/
theorem ext_rows {x y : List Int} {M n : Nat} (hx : x.length = M * n) (hy : y.length = M * n) (h : ∀ i j, i < M → j < n → x.getD (i * n + j) 0 = y.getD (i * n + j) 0) : x = y := by
  apply List.ext_getElem (by rw [hx, hy])
  intro q h1 h2
  rw [hx] at h1
  have hn : 0 < n := by
    rcases Nat.eq_zero_or_pos n with e | e
    · subst e; simp at h1
    · exact e
  have e1 : q / n < M := Nat.div_lt_of_lt_mul (by rw [Nat.mul_comm]; exact h1)
  have e2 : q % n < n := Nat.mod_lt _ hn
  have e3 : q / n * n + q % n = q := by rw [Nat.mul_comm]; exact Nat.div_add_mod q n
  have := h _ _ e1 e2
  rw [e3] at this
  simpa [List.getD, hx, hy, h1] using this

theorem prod_three (a b c : List Int) (M K L n : Nat) : prodL (prodL a b M K L) c M L n = prodL a (prodL b c K L n) M K n := by
  refine ext_rows (prodL_len _ _ _ _ _) (prodL_len _ _ _ _ _) fun i j hi hj => ?_
  rw [prodL_at hi hj, prodL_at hi hj, dotN_sm, dotN_sm]
  have h1 : wrap32 (sm (fun q => (prodL a b M K L).getD (i * L + q) 0 * c.getD (q * n + j) 0) L) = wrap32 (sm (fun q => sm (fun p => a.getD (i * K + p) 0 * b.getD (p * L + q) 0 * c.getD (q * n + j) 0) K) L) :=
    sm_wrap fun q hq => by rw [prodL_at hi hq, dotN_sm, w32_mul, ← sm_mul']
  have h2 : wrap32 (sm (fun p => a.getD (i * K + p) 0 * (prodL b c K L n).getD (p * n + j) 0) K) = wrap32 (sm (fun p => sm (fun q => a.getD (i * K + p) 0 * b.getD (p * L + q) 0 * c.getD (q * n + j) 0) L) K) :=
    sm_wrap fun p hp => by
      rw [prodL_at hp hj, dotN_sm, w32_mul', ← sm_mul]
      exact congrArg wrap32 (sm_congr fun q _ => (Int.mul_assoc _ _ _).symm)
  rw [h1, h2, sm_swap]

theorem zip_at {f : Int → Int → Int} {a b : List Int} {q : Nat} (h1 : q < a.length) (h2 : q < b.length) : (List.zipWith f a b).getD q 0 = f (a.getD q 0) (b.getD q 0) := by
  simp [List.getD, List.getElem?_zipWith, h1, h2]

theorem prod_left {a b : List Int} (c : List Int) {M K : Nat} (n : Nat) (ha : a.length = M * K) (hb : b.length = M * K) : prodL (List.zipWith add32 a b) c M K n = List.zipWith add32 (prodL a c M K n) (prodL b c M K n) := by
  refine ext_rows (prodL_len _ _ _ _ _) (by simp [prodL_len]) fun i j hi hj => ?_
  have hq := place_lt hi hj
  rw [prodL_at hi hj, zip_at (by rw [prodL_len]; exact hq) (by rw [prodL_len]; exact hq), prodL_at hi hj, prodL_at hi hj, dotN_sm, dotN_sm, dotN_sm]
  unfold add32
  rw [w32_add, w32_add', ← sm_add]
  refine sm_wrap fun p hp => ?_
  have hz := place_lt hi hp
  rw [zip_at (by omega) (by omega), w32_mul, Int.add_mul]

theorem prod_right (a : List Int) {c x : List Int} (M : Nat) {K n : Nat} (hc : c.length = K * n) (hx : x.length = K * n) : prodL a (List.zipWith add32 c x) M K n = List.zipWith add32 (prodL a c M K n) (prodL a x M K n) := by
  refine ext_rows (prodL_len _ _ _ _ _) (by simp [prodL_len]) fun i j hi hj => ?_
  have hq := place_lt hi hj
  rw [prodL_at hi hj, zip_at (by rw [prodL_len]; exact hq) (by rw [prodL_len]; exact hq), prodL_at hi hj, prodL_at hi hj, dotN_sm, dotN_sm, dotN_sm]
  unfold add32
  rw [w32_add, w32_add', ← sm_add]
  refine sm_wrap fun p hp => ?_
  have hz := place_lt hp hj
  rw [zip_at (by omega) (by omega), w32_mul', Int.mul_add]

/-- Ones where both directions are the same, as far as k rows are done. -/
def oneTo (n k : Nat) : List Int := (List.range (n * n)).map fun q => if q / n < k ∧ q / n = q % n then 1 else 0

theorem oneTo_len (n k : Nat) : (oneTo n k).length = n * n := by simp [oneTo]

theorem oneTo_none (n : Nat) : oneTo n 0 = List.replicate (n * n) 0 := by
  apply List.ext_getElem <;> simp [oneTo]

theorem oneTo_at {n k i j : Nat} (hi : i < n) (hj : j < n) : (oneTo n k).getD (i * n + j) 0 = if i < k ∧ i = j then 1 else 0 := by
  have h := place_lt hi hj
  have h1 : (i * n + j) / n = i := by rw [Nat.mul_comm, Nat.mul_add_div (by omega), Nat.div_eq_of_lt hj]; omega
  have h2 : (i * n + j) % n = j := by rw [Nat.mul_comm, Nat.mul_add_mod, Nat.mod_eq_of_lt hj]
  simp [oneTo, List.getD, h, h1, h2]

theorem oneTo_set {n k : Nat} (hk : k < n) : (oneTo n k).set (k * n + k) 1 = oneTo n (k + 1) := by
  have hl := place_lt hk hk
  refine ext_rows (M := n) (n := n) (by simp [oneTo_len]) (oneTo_len _ _) fun i j hi hj => ?_
  rw [oneTo_at hi hj]
  by_cases e : i = k ∧ j = k
  · obtain ⟨rfl, rfl⟩ := e
    rw [if_pos ⟨by omega, rfl⟩]
    simp [List.getD, oneTo_len, hl]
  · have hne : k * n + k ≠ i * n + j := by
      intro h
      have h1 : (k * n + k) / n = k := by rw [Nat.mul_comm, Nat.mul_add_div (by omega), Nat.div_eq_of_lt hk]; omega
      have h2 : (i * n + j) / n = i := by rw [Nat.mul_comm, Nat.mul_add_div (by omega), Nat.div_eq_of_lt hj]; omega
      rw [h, h2] at h1
      subst h1
      exact e ⟨rfl, by omega⟩
    have h := oneTo_at (k := k) hi hj
    rw [List.getD_eq_getElem?_getD] at h ⊢
    rw [List.getElem?_set_ne hne, h]
    by_cases c : i = j
    · subst c
      have : i ≠ k := fun c => e ⟨c, c⟩
      by_cases d : i < k
      · rw [if_pos ⟨d, rfl⟩, if_pos ⟨by omega, rfl⟩]
      · rw [if_neg fun x => d x.1, if_neg fun x => by omega]
    · rw [if_neg fun x => c x.2, if_neg fun x => c x.2]

theorem prod_one_left {t : List Int} {m n : Nat} (ht : t.length = m * n) (hw : ∀ z ∈ t, -2147483648 ≤ z ∧ z < 2147483648) : prodL (oneTo m m) t m m n = t := by
  refine ext_rows (prodL_len _ _ _ _ _) ht fun i j hi hj => ?_
  have hq := place_lt hi hj
  rw [prodL_at hi hj, dotN_sm, sm_one hi fun p hp hne => by rw [oneTo_at hi hp, if_neg fun x => hne x.2.symm, Int.zero_mul], oneTo_at hi hi, if_pos ⟨hi, rfl⟩, Int.one_mul]
  refine wrap32_id (hw _ ?_)
  rw [List.getD_eq_getElem?_getD, List.getElem?_eq_getElem (by omega)]
  exact List.getElem_mem _

theorem prod_one_right {t : List Int} {m n : Nat} (ht : t.length = m * n) (hw : ∀ z ∈ t, -2147483648 ≤ z ∧ z < 2147483648) : prodL t (oneTo n n) m n n = t := by
  refine ext_rows (prodL_len _ _ _ _ _) ht fun i j hi hj => ?_
  have hq := place_lt hi hj
  rw [prodL_at hi hj, dotN_sm, sm_one hj fun p hp hne => by rw [oneTo_at hp hj, if_neg fun x => hne x.2, Int.mul_zero], oneTo_at hj hj, if_pos ⟨hj, rfl⟩, Int.mul_one]
  refine wrap32_id (hw _ ?_)
  rw [List.getD_eq_getElem?_getD, List.getElem?_eq_getElem (by omega)]
  exact List.getElem_mem _

theorem prod_noughts (t : List Int) (m n k q : Nat) : prodL t (List.replicate q 0) m n k = List.replicate (m * k) 0 := by
  refine ext_rows (prodL_len _ _ _ _ _) (by simp) fun i j hi hj => ?_
  rw [prodL_at hi hj, dotN_sm, sm_zero fun p hp => ?_]
  · have := place_lt hi hj
    simp [List.getD, this, wrap32]
  · have : (List.replicate q (0 : Int)).getD (p * k + j) 0 = 0 := by
      rw [List.getD_eq_getElem?_getD, List.getElem?_replicate]; split <;> rfl
    rw [this, Int.mul_zero]

/-- The sum of the squares of the first k numbers. -/
def sqN (t : List Int) : Nat → Int
  | 0 => 0
  | p + 1 => add32 (sqN t p) (mul32 (t.getD p 0) (t.getD p 0))

theorem sqN_dot (t : List Int) (K : Nat) : ∀ k, dotN t t K 1 0 0 k = sqN t k
  | 0 => rfl
  | k + 1 => by rw [dotN, sqN, sqN_dot t K k]; simp

theorem prod_square {t : List Int} {k : Nat} : prodL t t 1 k 1 = [sqN t k] := by
  refine ext_rows (M := 1) (n := 1) (prodL_len _ _ _ _ _) rfl fun i j hi hj => ?_
  obtain rfl : i = 0 := by omega
  obtain rfl : j = 0 := by omega
  rw [prodL_at hi hj, sqN_dot]
  rfl

end

section
open Go.RowKit
set_option linter.unusedVariables false
set_option linter.unusedSimpArgs false

/-- The number of a picture at a row and a column of its c-th sheet; 0 beyond it. -/
def numAt (l : List Int) (H W c : Nat) (y x : Int) : Int :=
  if 0 ≤ y ∧ y < (H : Int) ∧ 0 ≤ x ∧ x < (W : Int) then l.getD ((c * H + y.toNat) * W + x.toNat) 0 else 0

/-- What the first k places of a window of a rows and b columns come to, whose first row and column are y and x; its own numbers begin at o. -/
def covN (l l' : List Int) (H W a b o : Nat) (y x : Int) : Nat → Int
  | 0 => 0
  | q + 1 => add32 (covN l l' H W a b o y x q) (mul32 (numAt l H W (q / (a * b)) (y + ((q / b % a : Nat) : Int)) (x + ((q % b : Nat) : Int))) (l'.getD (o + q) 0))

/-- The numbers of a convolution: O windows, Y rows and X columns of places. -/
def winL (l l' : List Int) (C H W O a b step pad Y X : Nat) : List Int :=
  (List.range (O * Y * X)).map fun k => covN l l' H W a b (k / (Y * X) * (C * (a * b))) (((k / X % Y * step : Nat) : Int) - (pad : Int)) (((k % X * step : Nat) : Int) - (pad : Int)) (C * (a * b))

/-- The greatest of the first number of a square and its first k ones. -/
def greatN (l : List Int) (H W c y x wide : Nat) : Nat → Int
  | 0 => numAt l H W c (y : Int) (x : Int)
  | q + 1 => max (greatN l H W c y x wide q) (numAt l H W c ((y + q / wide : Nat) : Int) ((x + q % wide : Nat) : Int))

def poolL (l : List Int) (C H W wide Y X : Nat) : List Int :=
  (List.range (C * Y * X)).map fun k => greatN l H W (k / (Y * X)) (k / X % Y * wide) (k % X * wide) wide (wide * wide)

theorem winL_len (l l' : List Int) (C H W O a b step pad Y X : Nat) : (winL l l' C H W O a b step pad Y X).length = O * Y * X := by simp [winL]

theorem poolL_len (l : List Int) (C H W wide Y X : Nat) : (poolL l C H W wide Y X).length = C * Y * X := by simp [poolL]

/-- The place of a coordinate triple, taken apart again. -/
theorem place3 {Y X c y x : Nat} (hy : y < Y) (hx : x < X) : ((c * Y + y) * X + x) / (Y * X) = c ∧ ((c * Y + y) * X + x) / X % Y = y ∧ ((c * Y + y) * X + x) % X = x := by
  have h1 : ((c * Y + y) * X + x) / X = c * Y + y := by rw [Nat.mul_comm, Nat.mul_add_div (by omega), Nat.div_eq_of_lt hx]; omega
  have h2 : (c * Y + y) / Y = c := by rw [Nat.mul_comm, Nat.mul_add_div (by omega), Nat.div_eq_of_lt hy]; omega
  refine ⟨?_, ?_, ?_⟩
  · rw [Nat.mul_comm Y X, ← Nat.div_div_eq_div_mul, h1, h2]
  · rw [h1, Nat.mul_comm, Nat.mul_add_mod, Nat.mod_eq_of_lt hy]
  · rw [Nat.mul_comm, Nat.mul_add_mod, Nat.mod_eq_of_lt hx]

theorem place3_lt {C Y X c y x : Nat} (hc : c < C) (hy : y < Y) (hx : x < X) : (c * Y + y) * X + x < C * Y * X :=
  place_lt (place_lt hc hy) hx

theorem winL_at {l l' : List Int} {C H W O a b step pad Y X o y x : Nat} (ho : o < O) (hy : y < Y) (hx : x < X) :
    (winL l l' C H W O a b step pad Y X).getD ((o * Y + y) * X + x) 0 = covN l l' H W a b (o * (C * (a * b))) (((y * step : Nat) : Int) - (pad : Int)) (((x * step : Nat) : Int) - (pad : Int)) (C * (a * b)) := by
  have h := place3_lt ho hy hx
  obtain ⟨h1, h2, h3⟩ := place3 (c := o) hy hx
  rw [List.getD_eq_getElem?_getD, winL, List.getElem?_map, List.getElem?_range h]
  simp only [Option.map_some, Option.getD_some, h1, h2, h3]

theorem poolL_at {l : List Int} {C H W wide Y X c y x : Nat} (hc : c < C) (hy : y < Y) (hx : x < X) :
    (poolL l C H W wide Y X).getD ((c * Y + y) * X + x) 0 = greatN l H W c (y * wide) (x * wide) wide (wide * wide) := by
  have h := place3_lt hc hy hx
  obtain ⟨h1, h2, h3⟩ := place3 (c := c) hy hx
  rw [List.getD_eq_getElem?_getD, poolL, List.getElem?_map, List.getElem?_range h]
  simp only [Option.map_some, Option.getD_some, h1, h2, h3]

/-- A step of a window's sum at its sheet, row and column. -/
theorem covN_step {l l' : List Int} {H W a b o c i j : Nat} {y x : Int} (hi : i < a) (hj : j < b) :
    covN l l' H W a b o y x ((c * a + i) * b + (j + 1)) = add32 (covN l l' H W a b o y x ((c * a + i) * b + j)) (mul32 (numAt l H W c (y + (i : Int)) (x + (j : Int))) (l'.getD (o + ((c * a + i) * b + j)) 0)) := by
  obtain ⟨h1, h2, h3⟩ := place3 (c := c) hi hj
  rw [← Nat.add_assoc, covN, h1, h2, h3]

theorem greatN_step {l : List Int} {H W c y x wide i j : Nat} (hi : i < wide) (hj : j < wide) :
    greatN l H W c y x wide (i * wide + (j + 1)) = max (greatN l H W c y x wide (i * wide + j)) (numAt l H W c ((y + i : Nat) : Int) ((x + j : Nat) : Int)) := by
  have h1 : (i * wide + j) / wide = i := by rw [Nat.mul_comm, Nat.mul_add_div (by omega), Nat.div_eq_of_lt hj]; omega
  have h2 : (i * wide + j) % wide = j := by rw [Nat.mul_comm, Nat.mul_add_mod, Nat.mod_eq_of_lt hj]
  rw [← Nat.add_assoc, greatN, h1, h2]

theorem numAt_in {l : List Int} {H W c : Nat} {y x : Int} (h : 0 ≤ y ∧ y < (H : Int) ∧ 0 ≤ x ∧ x < (W : Int)) : numAt l H W c y x = l.getD ((c * H + y.toNat) * W + x.toNat) 0 := by rw [numAt, if_pos h]

theorem numAt_out {l : List Int} {H W c : Nat} {y x : Int} (h : ¬ (0 ≤ y ∧ y < (H : Int) ∧ 0 ≤ x ∧ x < (W : Int))) : numAt l H W c y x = 0 := by rw [numAt, if_neg h]

theorem covN_range (l l' : List Int) (H W a b o : Nat) (y x : Int) : ∀ k, -2147483648 ≤ covN l l' H W a b o y x k ∧ covN l l' H W a b o y x k < 2147483648
  | 0 => by simp [covN]
  | k + 1 => by rw [covN, add32]; exact wrap32_range _

end

section
open Go.RowKit

section
variable {P : Program} {ops : Array Oper} {Q : Exit → Act → World → Prop} {md : Region.Mode} {S : Bool → World → Prop} {t : Nat}

/-- Does operation t wait for operation i? -/
def waitsB (md : Region.Mode) (ops : Array Oper) (t i : Nat) : Bool :=
  match ops[t]? with
  | some o => o.after.any fun e => Region.binds md e && e.on == i
  | none => false

/-- What holds where operation i has not come up. -/
def Yet (md : Region.Mode) (ops : Array Oper) (S : Bool → World → Prop) (t i : Nat) (w : World) : Prop := ∃ b, (b = true → waitsB md ops t i = false) ∧ S b w

def wpAnyU (P : Program) (md : Region.Mode) (ops : Array Oper) (Q : Exit → Act → World → Prop) (S : Bool → World → Prop) (t : Nat) : Nat → Array Bool → Act → World → Prop
  | 0, listed, a, w => Region.ready md ops listed = [] ∧ Q .normal a w
  | fuel + 1, listed, a, w =>
    (Region.ready md ops listed = [] → Q .normal a w) ∧
    ∀ i ∈ Region.ready md ops listed, wpOp P ops Q i (fun a' w' => S ((listed.setIfInBounds i true).getD t true) w' ∧ wpAnyU P md ops Q S t fuel (listed.setIfInBounds i true) a' w') a w

theorem wpAny_of_U : ∀ (fuel : Nat) (listed : Array Bool) (a : Act) (w : World), wpAnyU P md ops Q S t fuel listed a w → wpAny P md ops Q fuel listed a w
  | 0, _, _, _, h => h
  | fuel + 1, _, _, _, h => ⟨h.1, fun i hi => wpOp_mono (fun a' w' h' => wpAny_of_U fuel _ a' w' h'.2) (h.2 i hi)⟩

theorem wpAnyU_first {i : Nat} {oi : Oper} {v : Value} (hi : ops[i]? = some oi) (hsel : ∀ (j : Nat) (o : Oper) cs b, ops[j]? = some o → o.op ≠ .select cs b)
    (hQ : ∀ c a w, Q (.panic c) (a.put oi.dst v) w → Q (.panic c) a w) (hit : i ≠ t) :
    ∀ (fuel : Nat) (listed : Array Bool) (a : Act) (w : World),
      (∀ j oj, ops[j]? = some oj → j ≠ i → listed.getD j true = false → (∀ e ∈ oj.after, Region.binds md e = true → e.on ≠ i) → oi.apart ops oj = true) →
      i ∈ Region.ready md ops listed → YieldsIf P ops (Yet md ops S t i) oi v a → (listed.getD t true = true → waitsB md ops t i = false) → S (listed.getD t true) w →
      wpAnyU P md ops Q S t fuel (listed.setIfInBounds i true) (a.put oi.dst v) w → wpAnyU P md ops Q S t (fuel + 1) listed a w := by
  intro fuel
  induction fuel with
  | zero =>
    intro listed a w _ hr hy hw hS H
    refine ⟨fun h => (by rw [h] at hr; cases hr), fun j hj => ?_⟩
    by_cases hji : j = i
    · subst hji; exact hy.wpOp hi ⟨_, hw, hS⟩ ⟨by rw [getD_set_ne true hit]; exact hS, H⟩
    · have := ready_mono hj hji
      rw [H.1] at this
      cases this
  | succ fuel ih =>
    intro listed a w hfree hr hy hw hS H
    refine ⟨fun h => (by rw [h] at hr; cases hr), fun j hj => ?_⟩
    by_cases hji : j = i
    · subst hji; exact hy.wpOp hi ⟨_, hw, hS⟩ ⟨by rw [getD_set_ne true hit]; exact hS, H⟩
    · have h1 := H.2 j (ready_mono hj hji)
      obtain ⟨hjun, oj, hoj, hall⟩ := mem_ready.1 hj
      have hnot : ∀ e ∈ oj.after, Region.binds md e = true → e.on ≠ i := fun e he hb heq => by
        have h1 := hall e he hb
        have h0 := (mem_ready.1 hr).1
        rw [heq] at h1
        rcases Nat.lt_or_ge i listed.size with h' | h'
        · simp [h'] at h0 h1; rw [h0] at h1; cases h1
        · simp [Array.getElem?_eq_none h'] at h1
      have h2 := wpOp_putIf hoj (hfree j oj hoj hji hjun hnot) (fun cs b => hsel i oi cs b hi) (fun cs b => hsel j oj cs b hoj) hQ hy h1
      have hfree' : ∀ k ok, ops[k]? = some ok → k ≠ i → (listed.setIfInBounds j true).getD k true = false →
          (∀ e ∈ ok.after, Region.binds md e = true → e.on ≠ i) → oi.apart ops ok = true := fun k ok hk hki hun hno => by
        refine hfree k ok hk hki ?_ hno
        by_cases hjk : j = k
        · subst hjk; exact hjun
        · rw [getD_set_ne true hjk] at hun; exact hun
      have hw' : (listed.setIfInBounds j true).getD t true = true → waitsB md ops t i = false := fun hl => by
        by_cases hjt : j = t
        · subst hjt
          unfold waitsB
          rw [hoj]
          simp only [Array.any_eq_false']
          intro e he hb
          simp only [Bool.and_eq_true, beq_iff_eq] at hb
          exact hnot e he hb.1 hb.2
        · rw [getD_set_ne true hjt] at hl
          exact hw hl
      have hS2 : ∀ w', S (((listed.setIfInBounds i true).setIfInBounds j true).getD t true) w' → S ((listed.setIfInBounds j true).getD t true) w' := fun w' h => by
        rw [Array.setIfInBounds_comm _ _ (Ne.symm hji), getD_set_ne true hit] at h
        exact h
      refine wpOp_mono (fun a' w' h3 => ⟨hS2 w' h3.2.1, ih (listed.setIfInBounds j true) a' w' hfree' (ready_mono hr (Ne.symm hji)) h3.1 hw' (hS2 w' h3.2.1) ?_⟩) h2
      rw [Array.setIfInBounds_comm _ _ hji]
      exact h3.2.2

theorem wpAnyU_take {i : Nat} {oi : Oper} {v : Value} {fuel : Nat} {listed : Array Bool} {a : Act} {w : World} (hi : ops[i]? = some oi)
    (hs : Region.noSelect ops = true) (hf : Region.free md ops listed i = true) (hr : (Region.ready md ops listed).contains i = true) (ht : (i != t && (!listed.getD t true || !waitsB md ops t i)) = true)
    (hQ : ∀ c a w, Q (.panic c) (a.put oi.dst v) w → Q (.panic c) a w) (hy : YieldsIf P ops (Yet md ops S t i) oi v a) (hS : S (listed.getD t true) w)
    (h : wpAnyU P md ops Q S t fuel (listed.setIfInBounds i true) (a.put oi.dst v) w) : wpAnyU P md ops Q S t (fuel + 1) listed a w := by
  simp only [Bool.and_eq_true, bne_iff_ne, ne_eq, Bool.or_eq_true, Bool.not_eq_true'] at ht
  exact wpAnyU_first hi (Region.noSelect_spec hs) hQ ht.1 fuel listed a w (Region.free_spec hi hf) (by simpa using hr) hy (fun hl => ht.2.resolve_left (by rw [hl]; simp)) hS h

/-- One operation alone may come up. -/
theorem wpAnyU_one {i : Nat} {o : Oper} {fuel : Nat} {listed : Array Bool} {a : Act} {w : World} (hr : Region.ready md ops listed = [i]) (ho : ops[i]? = some o)
    (h : ∀ K' : Act → World → Prop, Shut (∀ a w, S ((listed.setIfInBounds i true).getD t true) w → (S ((listed.setIfInBounds i true).getD t true) w → wpAnyU P md ops Q S t fuel (listed.setIfInBounds i true) a w) → K' a w) → if Region.wanted o (yielded ops a.tmps) = true then Oper.wp P o a w K' Q else K' (a.put o.dst undef) w) :
    wpAnyU P md ops Q S t (fuel + 1) listed a w := by
  refine ⟨(fun h0 => by rw [hr] at h0; cases h0), fun j hj => ?_⟩
  rw [hr] at hj
  obtain rfl : j = i := by simpa using hj
  exact wpOp_step ho (fun K' hK => h K' (fun a w hS hW => hK a w ⟨hS, hW hS⟩))

theorem wpAnyU_done {listed : Array Bool} {a : Act} {w : World} (hr : Region.ready md ops listed = []) (h : Q .normal a w) :
    ∀ fuel, wpAnyU P md ops Q S t fuel listed a w
  | 0 => ⟨hr, h⟩
  | _ + 1 => ⟨fun _ => h, by rw [hr]; simp⟩

theorem wp_region_U {id : Nat} {a : Act} {w : World} (S : Bool → World → Prop) (t : Nat) (hm : P.follows .mixedOrders = true)
    (h : wpAnyU P .any ops Q S t ops.size (Array.replicate ops.size false) a w.drew) : (Code.region id ops true).wp P Q a w :=
  wp_region_any hm (wpAny_of_U _ _ _ _ h)

theorem yields_take {o : Oper} {v : Value} {a : Act} {S : World → Prop} (hw : Region.wanted o (yielded ops a.tmps) = true) (h : ∀ w, S w → (execOp a.eval o).run P w = .ok (.value v) w) : YieldsIf P ops S o v a := .inl ⟨hw, h⟩

theorem Yet.no {i : Nat} {w : World} (h : Yet md ops S t i w) (hw : waitsB md ops t i = true) : S false w := by
  obtain ⟨b, hb, hs⟩ := h
  cases b
  · exact hs
  · rw [hb rfl] at hw; cases hw

theorem Yet.const {S : World → Prop} {i : Nat} {w : World} (h : Yet md ops (fun _ => S) t i w) : S w := by
  obtain ⟨_, _, hs⟩ := h
  exact hs

/-- Two operations may come up, in either order; what they yield and leave is told by R. -/
theorem wpAnyU_two {S0 : World → Prop} {i j di dj : Nat} {oi oj : Oper} {fuel : Nat} {listed : Array Bool} {a : Act} {w : World} (R : Value → Value → World → Prop)
    (hr : Region.ready md ops listed = [i, j]) (hri : Region.ready md ops (listed.setIfInBounds i true) = [j]) (hrj : Region.ready md ops (listed.setIfInBounds j true) = [i]) (hi : ops[i]? = some oi) (hj : ops[j]? = some oj)
    (hdi : oi.dst = some di) (hdj : oj.dst = some dj) (hd : di ≠ dj) (hij : i ≠ j)
    (hwi : Region.wanted oi (yielded ops a.tmps) = true) (hwj : Region.wanted oj (yielded ops a.tmps) = true)
    (hwj' : ∀ v, Region.wanted oj (yielded ops (a.put (some di) v).tmps) = true) (hwi' : ∀ v, Region.wanted oi (yielded ops (a.put (some dj) v).tmps) = true)
    (h1 : ∃ v1 w1, (execOp a.eval oi).run P w = .ok (.value v1) w1 ∧ S0 w1 ∧ ∃ v2 w2, (execOp (a.put (some di) v1).eval oj).run P w1 = .ok (.value v2) w2 ∧ R v1 v2 w2)
    (h2 : ∃ v2 w1, (execOp a.eval oj).run P w = .ok (.value v2) w1 ∧ S0 w1 ∧ ∃ v1 w2, (execOp (a.put (some dj) v2).eval oi).run P w1 = .ok (.value v1) w2 ∧ R v1 v2 w2)
    (hS : ∀ v1 v2 u, R v1 v2 u → S0 u)
    (h : ∀ v1 v2 u, R v1 v2 u → wpAnyU P md ops Q (fun _ => S0) t fuel ((listed.setIfInBounds i true).setIfInBounds j true) ((a.put (some di) v1).put (some dj) v2) u) :
    wpAnyU P md ops Q (fun _ => S0) t (fuel + 2) listed a w := by
  refine ⟨(fun h0 => by rw [hr] at h0; cases h0), fun k hk => ?_⟩
  rw [hr] at hk
  have hk' : k = i ∨ k = j := by simpa using hk
  rcases hk' with rfl | rfl
  · obtain ⟨v1, w1, e1, s1, v2, w2, e2, r⟩ := h1
    unfold wpOp
    rw [hi]
    show if Region.wanted oi (yielded ops a.tmps) = true then _ else _
    rw [if_pos hwi]
    refine .inl ?_
    unfold Oper.wp
    rw [e1, Oper.upon_value, hdi]
    refine ⟨s1, (fun h0 => by rw [hri] at h0; cases h0), fun m hm => ?_⟩
    rw [hri] at hm
    obtain rfl : m = j := by simpa using hm
    unfold wpOp
    rw [hj]
    show if Region.wanted oj (yielded ops (a.put (some di) v1).tmps) = true then _ else _
    rw [if_pos (hwj' v1)]
    refine .inl ?_
    unfold Oper.wp
    rw [e2, Oper.upon_value, hdj]
    exact ⟨hS _ _ _ r, h _ _ _ r⟩
  · obtain ⟨v2, w1, e1, s1, v1, w2, e2, r⟩ := h2
    unfold wpOp
    rw [hj]
    show if Region.wanted oj (yielded ops a.tmps) = true then _ else _
    rw [if_pos hwj]
    refine .inl ?_
    unfold Oper.wp
    rw [e1, Oper.upon_value, hdj]
    refine ⟨s1, (fun h0 => by rw [hrj] at h0; cases h0), fun m hm => ?_⟩
    rw [hrj] at hm
    obtain rfl : m = i := by simpa using hm
    unfold wpOp
    rw [hi]
    show if Region.wanted oi (yielded ops (a.put (some dj) v2).tmps) = true then _ else _
    rw [if_pos (hwi' v2)]
    refine .inl ?_
    unfold Oper.wp
    rw [e2, Oper.upon_value, hdi]
    have hc : (a.put (some dj) v2).put (some di) v1 = (a.put (some di) v1).put (some dj) v2 := by
      simp only [Act.put]
      rw [Array.setIfInBounds_comm _ _ (Ne.symm hd)]
    rw [hc, Array.setIfInBounds_comm _ _ (Ne.symm hij)]
    exact ⟨hS _ _ _ r, h _ _ _ r⟩

/-- Two literals of numbers, each in a new block. -/
def TwoL (W : World) (k k' : IntKind) (xs ys : List Int) (x y : Value) (v : World) : Prop :=
  ∃ gx gy, x = .slice (some ⟨gx, 0, none⟩) xs.length xs.length ∧ y = .slice (some ⟨gy, 0, none⟩) ys.length ys.length ∧ Lies v (some ⟨gx, 0, none⟩) xs.length (xs.map (Value.int k)) ∧ Lies v (some ⟨gy, 0, none⟩) ys.length (ys.map (Value.int k')) ∧ Below W.heap.size W v

theorem lit_lies (w : World) (k : IntKind) (zs : List Int) (t : TypeId) : Lies (w.alloc (.cells (zs.map (Value.int k)).toArray t)) (some ⟨w.heap.size, 0, none⟩) zs.length (zs.map (Value.int k)) :=
  ⟨by simp, fun _ => ⟨w.heap.size, 0, rfl, by simp, fun j hj => by rw [Nat.zero_add, cell_of_row _ _ j _ _ (0, 0) (heap_alloc_new w _)]; simp⟩⟩

theorem TwoL.fst {W u : World} {k k' : IntKind} {xs ys : List Int} (t t' : TypeId) (hb : Below W.heap.size W u) :
    TwoL W k k' xs ys (.slice (some ⟨u.heap.size, 0, none⟩) xs.length xs.length) (.slice (some ⟨u.heap.size + 1, 0, none⟩) ys.length ys.length) ((u.alloc (.cells (xs.map (Value.int k)).toArray t)).alloc (.cells (ys.map (Value.int k')).toArray t')) :=
  ⟨_, _, rfl, rfl, (lit_lies u k xs t).alloc _, by have h := lit_lies (u.alloc (.cells (xs.map (Value.int k)).toArray t)) k' ys t'; rwa [World.size_alloc] at h, (hb.alloc hb.size _).alloc (by simp; have := hb.size; omega) _⟩

theorem TwoL.snd {W u : World} {k k' : IntKind} {xs ys : List Int} (t t' : TypeId) (hb : Below W.heap.size W u) :
    TwoL W k k' xs ys (.slice (some ⟨u.heap.size + 1, 0, none⟩) xs.length xs.length) (.slice (some ⟨u.heap.size, 0, none⟩) ys.length ys.length) ((u.alloc (.cells (ys.map (Value.int k')).toArray t')).alloc (.cells (xs.map (Value.int k)).toArray t)) :=
  ⟨_, _, rfl, rfl, by have h := lit_lies (u.alloc (.cells (ys.map (Value.int k')).toArray t')) k xs t; rwa [World.size_alloc] at h, (lit_lies u k' ys t').alloc _, (hb.alloc hb.size _).alloc (by simp; have := hb.size; omega) _⟩

/-- A slice literal of one element of several cells. -/
theorem step_buildSlice_one {o : Oper} {a : Act} {w : World} {K : Act → World → Prop} {E : Prop} (hgd : o.guard = none) (t e : TypeId) (x : Operand) (ho : o.op = .buildSlice t 1 #[(0, x)])
    (cs : List Value) (hx : a.eval x = .agg cs.toArray) (ie : TypeInfo) (z : Value) (hu : P.underlying t = some (.slice e)) (hie : P.info? e = some ie) (hz : ie.zero = some z) (hs : ie.size = cs.length) (hpos : 0 < cs.length) (hsm : cs.length ≤ 16777216)
    (h : K (a.put o.dst (.slice (some ⟨w.heap.size, 0, none⟩) 1 1)) (w.alloc (.cells cs.toArray e))) : if Region.wanted o (yielded ops a.tmps) = true then Oper.wp P o a w K Q else E := by
  have hw : Region.wanted o (yielded ops a.tmps) = true := by simp [Region.wanted, hgd]
  rw [if_pos hw]
  refine wp_buildSlice t e 1 #[(0, x)] ho cs.toArray ie z hu hie hz (by rw [hs]; omega) (by rw [hs]; omega) ?_ h
  have hf := Great.fill_whole (s := cs.length) hpos [.agg cs.toArray] ((Array.range (1 * cs.length)).map (z.cells[· % z.cells.size]!)) (by intro v hv; simp at hv; subst hv; simp [Value.cells]) (by simp)
  rw [hs]
  simp only [List.map_toArray, List.map_cons, List.map_nil, hx]
  simpa [Value.cells] using hf

end

end

section
open Go.RowKit

section
variable {P : Program} {ops : Array Oper} {Q : Exit → Act → World → Prop} {md : Region.Mode} {S : Bool → World → Prop} {t : Nat}

theorem wpAnyU_or {i j : Nat} {o o' : Oper} {fuel : Nat} {listed : Array Bool} {a : Act} {w : World} (hr : Region.ready md ops listed = [i, j]) (ho : ops[i]? = some o) (ho' : ops[j]? = some o')
    (h : ∀ K' : Act → World → Prop, Shut (∀ a w, S ((listed.setIfInBounds i true).getD t true) w → (S ((listed.setIfInBounds i true).getD t true) w → wpAnyU P md ops Q S t fuel (listed.setIfInBounds i true) a w) → K' a w) → if Region.wanted o (yielded ops a.tmps) = true then Oper.wp P o a w K' Q else K' (a.put o.dst undef) w)
    (h' : ∀ K' : Act → World → Prop, Shut (∀ a w, S ((listed.setIfInBounds j true).getD t true) w → (S ((listed.setIfInBounds j true).getD t true) w → wpAnyU P md ops Q S t fuel (listed.setIfInBounds j true) a w) → K' a w) → if Region.wanted o' (yielded ops a.tmps) = true then Oper.wp P o' a w K' Q else K' (a.put o'.dst undef) w) :
    wpAnyU P md ops Q S t (fuel + 1) listed a w := by
  refine ⟨(fun h0 => by rw [hr] at h0; cases h0), fun k hk => ?_⟩
  rw [hr] at hk
  have hk' : k = i ∨ k = j := by simpa using hk
  rcases hk' with e | e
  · rw [e]; exact wpOp_step ho (fun K' hK => h K' (fun a w hS hW => hK a w ⟨hS, hW hS⟩))
  · rw [e]; exact wpOp_step ho' (fun K' hK => h' K' (fun a w hS hW => hK a w ⟨hS, hW hS⟩))

theorem wpAnyU_or3 {i j k : Nat} {o o' o'' : Oper} {fuel : Nat} {listed : Array Bool} {a : Act} {w : World} (hr : Region.ready md ops listed = [i, j, k]) (ho : ops[i]? = some o) (ho' : ops[j]? = some o') (ho'' : ops[k]? = some o'')
    (h : ∀ K' : Act → World → Prop, Shut (∀ a w, S ((listed.setIfInBounds i true).getD t true) w → (S ((listed.setIfInBounds i true).getD t true) w → wpAnyU P md ops Q S t fuel (listed.setIfInBounds i true) a w) → K' a w) → if Region.wanted o (yielded ops a.tmps) = true then Oper.wp P o a w K' Q else K' (a.put o.dst undef) w)
    (h' : ∀ K' : Act → World → Prop, Shut (∀ a w, S ((listed.setIfInBounds j true).getD t true) w → (S ((listed.setIfInBounds j true).getD t true) w → wpAnyU P md ops Q S t fuel (listed.setIfInBounds j true) a w) → K' a w) → if Region.wanted o' (yielded ops a.tmps) = true then Oper.wp P o' a w K' Q else K' (a.put o'.dst undef) w)
    (h'' : ∀ K' : Act → World → Prop, Shut (∀ a w, S ((listed.setIfInBounds k true).getD t true) w → (S ((listed.setIfInBounds k true).getD t true) w → wpAnyU P md ops Q S t fuel (listed.setIfInBounds k true) a w) → K' a w) → if Region.wanted o'' (yielded ops a.tmps) = true then Oper.wp P o'' a w K' Q else K' (a.put o''.dst undef) w) :
    wpAnyU P md ops Q S t (fuel + 1) listed a w := by
  refine ⟨(fun h0 => by rw [hr] at h0; cases h0), fun q hq => ?_⟩
  rw [hr] at hq
  have hq' : q = i ∨ q = j ∨ q = k := by simpa using hq
  rcases hq' with e | e | e
  · rw [e]; exact wpOp_step ho (fun K' hK => h K' (fun a w hS hW => hK a w ⟨hS, hW hS⟩))
  · rw [e]; exact wpOp_step ho' (fun K' hK => h' K' (fun a w hS hW => hK a w ⟨hS, hW hS⟩))
  · rw [e]; exact wpOp_step ho'' (fun K' hK => h'' K' (fun a w hS hW => hK a w ⟨hS, hW hS⟩))

end

end

end Go.Proofs.Ytdlhhkegkfhmoaa
