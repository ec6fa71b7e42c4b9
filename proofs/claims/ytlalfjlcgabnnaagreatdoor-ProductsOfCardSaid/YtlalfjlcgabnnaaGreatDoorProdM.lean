/- Merged: Ma1, Ma2, Ma3, Ma4, Ma5, Alive6, Ml6, Pm7. -/
import Derived.Test.YtlalfjlcgabnnaaGreatDoorTen2
import Derived.Test.YtlalfjlcgabnnaaGreatDoorRowsOf
import Derived.Test.YtlalfjlcgabnnaaGreatDoorTLaw
import Derived.Test.YtlalfjlcgabnnaaGreatDoorSameG
import Derived.Test.YtlalfjlcgabnnaaGreatDoorBeyond
namespace Go.Proofs.YtlalfjlcgabnnaaGreatDoor

section
open Go.RowKit
set_option linter.unusedVariables false
set_option linter.unusedSimpArgs false
set_option maxRecDepth 20000

def add32 (x y : Int) : Int := wrap32 (x + y)

def mul32 (x y : Int) : Int := wrap32 (x * y)

def relu32 (x : Int) : Int := if x < 0 then 0 else x

/-- What a shift by n makes of x. -/
def shf (n : Nat) (x : Int) : Int := if (x + 2 ^ n / 2) / 2 ^ n < -128 then -128 else if 127 < (x + 2 ^ n / 2) / 2 ^ n then 127 else (x + 2 ^ n / 2) / 2 ^ n

section
variable {w : World} {p : Nat} {x y : Int}

end

theorem pow_bounds {n : Nat} (hn : n ≤ 31) : 1 ≤ (2 : Int) ^ n ∧ (2 : Int) ^ n ≤ 2147483648 := by
  have h1 : 2 ^ n ≤ 2 ^ 31 := Nat.pow_le_pow_right (by omega) hn
  have h2 : 0 < 2 ^ n := Nat.pow_pos (by omega)
  have h3 : ((2 ^ n : Nat) : Int) = (2 : Int) ^ n := by simp
  omega

theorem shf_parts {n : Nat} {x : Int} (hn : n ≤ 31) (hx : -2147483648 ≤ x ∧ x < 2147483648) : wrap64 (x + wrap64 (2 ^ n) / 2) / 2 ^ n = (x + 2 ^ n / 2) / 2 ^ n := by
  obtain ⟨h1, h2⟩ := pow_bounds hn
  have e1 : wrap64 ((2 : Int) ^ n) = 2 ^ n := by unfold wrap64; omega
  have e2 : wrap64 (x + (2 : Int) ^ n / 2) = x + 2 ^ n / 2 := by unfold wrap64; omega
  rw [e1, e2]

end

section
open Go.RowKit
set_option linter.unusedVariables false
set_option linter.unusedSimpArgs false
set_option maxRecDepth 20000

/-- One cell of the pairs. -/
def pairN (xs ys : List Int) (j : Nat) : Int := if j % 2 = 0 then xs.getD (j / 2) 0 else ys.getD (j / 2) 0

/-- The cells of q pairs of which the first k are there. -/
def pairC (xs ys : List Int) (q k : Nat) : List Value := (List.range (q * 2)).map fun j => .int .i32 (if j / 2 < k then pairN xs ys j else 0)

section
variable {xs ys : List Int} {q k : Nat}

theorem pairC_len : (pairC xs ys q k).length = q * 2 := by simp [pairC]

theorem pairC_at {j : Nat} (h : j < q * 2) : (pairC xs ys q k)[j]? = some (.int .i32 (if j / 2 < k then pairN xs ys j else 0)) := by simp [pairC, h]

theorem pairC_none : pairC xs ys q 0 = List.replicate (q * 2) (.int .i32 0) := by
  apply List.ext_getElem <;> simp [pairC]

theorem pairC_set : ((pairC xs ys q k).set (k * 2) (.int .i32 (xs.getD k 0))).set (k * 2 + 1) (.int .i32 (ys.getD k 0)) = pairC xs ys q (k + 1) := by
  apply List.ext_getElem
  · simp [pairC]
  · intro j h1 h2
    simp only [pairC, List.getElem_set, List.getElem_map, List.getElem_range]
    by_cases e1 : k * 2 + 1 = j
    · rw [if_pos e1, if_pos (by omega), pairN, if_neg (by omega), show j / 2 = k by omega]
    · rw [if_neg e1]
      by_cases e : k * 2 = j
      · rw [if_pos e, if_pos (by omega), pairN, if_pos (by omega), show j / 2 = k by omega]
      · rw [if_neg e]
        by_cases h : j / 2 < k
        · rw [if_pos h, if_pos (by omega)]
        · rw [if_neg h, if_neg (by omega)]

end

section
variable {w : World} {g q k : Nat} {xs ys : List Int}

end

end

section
open Go.RowKit
set_option linter.unusedVariables false
set_option linter.unusedSimpArgs false
set_option maxRecDepth 20000

/-- q numbers of which the first k are those of zs, the others 0. -/
def fillN (zs : List Int) (q k : Nat) : List Value := (List.range q).map fun j => .int .i32 (if j < k then zs.getD j 0 else 0)

section
variable {zs : List Int} {q k : Nat}

theorem fillN_len : (fillN zs q k).length = q := by simp [fillN]

theorem fillN_at {j : Nat} (h : j < q) : (fillN zs q k)[j]? = some (.int .i32 (if j < k then zs.getD j 0 else 0)) := by simp [fillN, h]

theorem fillN_none : fillN zs q 0 = List.replicate q (.int .i32 0) := by
  apply List.ext_getElem <;> simp [fillN]

theorem fillN_all (h : zs.length = q) : fillN zs q q = zs.map (Value.int .i32) := by
  apply List.ext_getElem
  · simp [fillN, h]
  · intro j h1 h2
    have : j < q := by simpa [fillN] using h1
    simp [fillN, this, List.getD, h]

theorem fillN_set : (fillN zs q k).set k (.int .i32 (zs.getD k 0)) = fillN zs q (k + 1) := by
  apply List.ext_getElem
  · simp [fillN]
  · intro j h1 h2
    simp only [fillN, List.getElem_set, List.getElem_map, List.getElem_range]
    by_cases e : k = j
    · subst e; simp
    · rw [if_neg e]
      by_cases h : j < k
      · rw [if_pos h, if_pos (by omega)]
      · rw [if_neg h, if_neg (by omega)]

end

/-- A block of q numbers, of which the first k are those of zs. -/
def FillAt (w : World) (g q : Nat) (zs : List Int) (k : Nat) : Prop := w.heap[g]? = some (.cells (fillN zs q k).toArray 21 (0, 0))

section
variable {w : World} {g q k : Nat} {zs : List Int}

theorem FillAt.cell (h : FillAt w g q zs k) {j : Nat} (hj : j < q) : w.cell? ⟨g, j, none⟩ = some (.int .i32 (if j < k then zs.getD j 0 else 0)) := by
  rw [cell_of_row _ _ j _ _ (0, 0) h, List.getElem?_toArray, fillN_at hj]

theorem FillAt.frozen (h : FillAt w g q zs k) (j : Nat) : w.frozen? ⟨g, j, none⟩ = false := frozen_of_row w g j _ _ h

theorem FillAt.lt (h : FillAt w g q zs k) : g < w.heap.size := lt_of_heap h

theorem FillAt.set (h : FillAt w g q zs k) : FillAt (w.setCell ⟨g, k, none⟩ (.int .i32 (zs.getD k 0))) g q zs (k + 1) := by
  have e1 := setCell_eq_setRow w g k _ _ (0, 0) (.int .i32 (zs.getD k 0)) h
  have h1 := setRow_heap w g _ ((fillN zs q k).toArray.setIfInBounds k (.int .i32 (zs.getD k 0))) _ _ h
  rw [e1]
  unfold FillAt
  rw [h1, ← fillN_set]
  simp

theorem FillAt.below (h : FillAt w g q zs k) {w' : World} (hb : Below w.heap.size w w') : FillAt w' g q zs k := (hb.block g h.lt).trans h

theorem FillAt.of_own {base : Nat} (h : w.ownsRow base 21 1 (.slice (some ⟨g, 0, none⟩) q q) q (List.replicate q (.int .i32 0))) (zs : List Int) : FillAt w g q zs 0 := by
  obtain ⟨cur, hh, _, _, _, hs, ht⟩ := own_heap h
  unfold FillAt
  rw [hh, fillN_none, ← ht, Nat.mul_one, List.take_of_length_le (by simp; omega)]

theorem FillAt.own (h : FillAt w g q zs q) (hz : zs.length = q) {base : Nat} (hb : base ≤ g) (hq : q ≤ maxLen) : w.ownsRow base 21 1 (.slice (some ⟨g, 0, none⟩) q q) q (zs.map (Value.int .i32)) :=
  own_of_block hb h fillN_len (Nat.le_refl _) hq (by rw [fillN_all hz, List.take_of_length_le (by simp [hz])])

end

theorem grown_cell6 (w : World) (a : Addr) (v : Value) : w.grownBy (w.setCell a v) (some a.block) :=
  ⟨rfl, rfl, rfl, by simp, fun k _ hk => Below.heap_setCell w a v k (by intro e; exact hk (by rw [e]))⟩

theorem grown_lies {w w' : World} {r n : Nat} {A : Option Addr} {xs : List Value} (hg : w.grownBy w' (some r)) (h : Lies w A n xs) (hne : ∀ b o, A = some ⟨b, o, none⟩ → b ≠ r) : Lies w' A n xs :=
  h.grown hg (fun b o e => by simpa using hne b o e)

theorem lies_block {w : World} {A : Option Addr} {n B : Nat} {xs : List Value} (h : Lies w A n xs) (hn : 0 < n) (hB : w.heap.size ≤ B) : ∀ b o, A = some ⟨b, o, none⟩ → b ≠ B := by
  intro b o e
  obtain ⟨b', o', e', hb, _⟩ := h.cells hn
  rw [e] at e'
  cases e'
  omega

end

section
open Go.RowKit
set_option linter.unusedVariables false
set_option linter.unusedSimpArgs false
set_option maxRecDepth 20000

/-- Why two tensors can't be put together. -/
def twoE (s : List Int) (m : Nat) (s' : List Int) (m' : Nat) : Int := if tenOk s m = true ∧ tenOk s' m' = true then (if s = s' then 0 else 10) else 1

theorem twoE_ok {s s' : List Int} {m m' : Nat} (h1 : tenOk s m = true) (h2 : tenOk s' m' = true) (h3 : s = s') : twoE s m s' m' = 0 := by rw [twoE, if_pos ⟨h1, h2⟩, if_pos h3]

theorem twoE_shape {s s' : List Int} {m m' : Nat} (h1 : tenOk s m = true) (h2 : tenOk s' m' = true) (h3 : ¬ s = s') : twoE s m s' m' = 10 := by rw [twoE, if_pos ⟨h1, h2⟩, if_neg h3]

theorem twoE_arg {s s' : List Int} {m m' : Nat} (h : ¬ (tenOk s m = true ∧ tenOk s' m' = true)) : twoE s m s' m' = 1 := by rw [twoE, if_neg h]

/-- What two tensors' shape is put together. -/
def twoS (s : List Int) (m : Nat) (s' : List Int) (m' : Nat) : List Int := if twoE s m s' m' = 0 then s else []

def twoL (f : Int → Int → Int) (s : List Int) (m : Nat) (s' : List Int) (m' : Nat) (l l' : List Int) : List Int := if twoE s m s' m' = 0 then List.zipWith f l l' else []

theorem twoE_iff {s s' : List Int} {m m' : Nat} : twoE s m s' m' = 0 ↔ tenOk s m = true ∧ tenOk s' m' = true ∧ s = s' := by
  unfold twoE
  by_cases h : tenOk s m = true ∧ tenOk s' m' = true
  · rw [if_pos h]
    by_cases h3 : s = s'
    · rw [if_pos h3]; exact ⟨fun _ => ⟨h.1, h.2, h3⟩, fun _ => rfl⟩
    · rw [if_neg h3]; exact ⟨fun e => absurd e (by decide), fun e => absurd e.2.2 h3⟩
  · rw [if_neg h]; exact ⟨fun e => absurd e (by decide), fun e => absurd ⟨e.1, e.2.1⟩ h⟩

end

section
open Go.RowKit
set_option linter.unusedVariables false
set_option linter.unusedSimpArgs false
set_option maxRecDepth 20000

/-- Why a tensor can't be taken. -/
def oneE (s : List Int) (m : Nat) : Int := if tenOk s m = true then 0 else 1

def oneS (s : List Int) (m : Nat) : List Int := if tenOk s m = true then s else []

def oneL (f : Int → Int) (s : List Int) (m : Nat) (l : List Int) : List Int := if tenOk s m = true then l.map f else []

def shE (s : List Int) (m : Nat) (n : Int) : Int := if tenOk s m = true ∧ 0 ≤ n ∧ n ≤ 31 then 0 else 1

def shS (s : List Int) (m : Nat) (n : Int) : List Int := if tenOk s m = true ∧ 0 ≤ n ∧ n ≤ 31 then s else []

def shL (s : List Int) (m : Nat) (n : Int) (l : List Int) : List Int := if tenOk s m = true ∧ 0 ≤ n ∧ n ≤ 31 then l.map (shf n.toNat) else []

end

section
open Go.RowKit
set_option linter.unusedVariables false
set_option linter.unusedSimpArgs false
set_option maxRecDepth 100000

theorem below_al6 {W v : World} {o : Obj} (h : Below W.heap.size W v) : Below W.heap.size W (v.alloc o) := h.alloc h.size o

theorem below_nx6 {W v w' : World} (h : Below W.heap.size W v) (k : Below v.heap.size v w') : Below W.heap.size W w' := h.trans (k.mono h.size)

end

section
open Go.RowKit
set_option linter.unusedVariables false
set_option linter.unusedSimpArgs false
set_option maxRecDepth 20000

theorem wrap32_some (a : Int) : ∃ k, wrap32 a = a + 4294967296 * k := ⟨-((a + 2147483648) / 4294967296), by unfold wrap32; omega⟩

theorem wrap32_more (a k : Int) : wrap32 (a + 4294967296 * k) = wrap32 a := by unfold wrap32; omega

theorem wrap32_range (a : Int) : -2147483648 ≤ wrap32 a ∧ wrap32 a < 2147483648 := by unfold wrap32; omega

theorem wrap32_id {a : Int} (h : -2147483648 ≤ a ∧ a < 2147483648) : wrap32 a = a := by unfold wrap32; omega

theorem add32_comm (x y : Int) : add32 x y = add32 y x := by unfold add32; rw [Int.add_comm]

theorem add32_assoc (x y z : Int) : add32 (add32 x y) z = add32 x (add32 y z) := by unfold add32 wrap32; omega

theorem mul32_comm (x y : Int) : mul32 x y = mul32 y x := by unfold mul32; rw [Int.mul_comm]

theorem mul32_assoc (x y z : Int) : mul32 (mul32 x y) z = mul32 x (mul32 y z) := by
  unfold mul32
  obtain ⟨k, hk⟩ := wrap32_some (x * y)
  obtain ⟨j, hj⟩ := wrap32_some (y * z)
  rw [hk, hj, show (x * y + 4294967296 * k) * z = x * y * z + 4294967296 * (k * z) by rw [Int.add_mul, Int.mul_assoc 4294967296], show x * (y * z + 4294967296 * j) = x * y * z + 4294967296 * (x * j) by rw [Int.mul_add, Int.mul_assoc x y, Int.mul_left_comm x 4294967296], wrap32_more, wrap32_more]

theorem mul32_add (x y z : Int) : mul32 x (add32 y z) = add32 (mul32 x y) (mul32 x z) := by
  unfold mul32 add32
  obtain ⟨k, hk⟩ := wrap32_some (y + z)
  obtain ⟨i, hi⟩ := wrap32_some (x * y)
  obtain ⟨j, hj⟩ := wrap32_some (x * z)
  rw [hk, hi, hj, show x * (y + z + 4294967296 * k) = x * y + x * z + 4294967296 * (x * k) by rw [Int.mul_add, Int.mul_add, Int.mul_left_comm x 4294967296], show x * y + 4294967296 * i + (x * z + 4294967296 * j) = x * y + x * z + 4294967296 * (i + j) by omega, wrap32_more, wrap32_more]

theorem zip_comm {f : Int → Int → Int} (h : ∀ x y, f x y = f y x) : ∀ (a b : List Int), List.zipWith f a b = List.zipWith f b a
  | [], b => by cases b <;> rfl
  | x :: a, [] => rfl
  | x :: a, y :: b => by rw [List.zipWith_cons_cons, List.zipWith_cons_cons, h, zip_comm h]

theorem zip_assoc {f : Int → Int → Int} (h : ∀ x y z, f (f x y) z = f x (f y z)) : ∀ (a b c : List Int), List.zipWith f (List.zipWith f a b) c = List.zipWith f a (List.zipWith f b c)
  | [], b, c => by cases b <;> cases c <;> rfl
  | x :: a, [], c => by cases c <;> rfl
  | x :: a, y :: b, [] => rfl
  | x :: a, y :: b, z :: c => by rw [List.zipWith_cons_cons, List.zipWith_cons_cons, List.zipWith_cons_cons, List.zipWith_cons_cons, h, zip_assoc h]

theorem zip_dist {f g : Int → Int → Int} (h : ∀ x y z, g x (f y z) = f (g x y) (g x z)) : ∀ (a b c : List Int), List.zipWith g a (List.zipWith f b c) = List.zipWith f (List.zipWith g a b) (List.zipWith g a c)
  | [], b, c => by cases b <;> cases c <;> rfl
  | x :: a, [], c => by cases c <;> rfl
  | x :: a, y :: b, [] => rfl
  | x :: a, y :: b, z :: c => by rw [List.zipWith_cons_cons, List.zipWith_cons_cons, List.zipWith_cons_cons, List.zipWith_cons_cons, List.zipWith_cons_cons, h, zip_dist h]

theorem zip_right {f : Int → Int → Int} {l : List Int} {m : Nat} {u : Int} {g : Int → Int} (hl : l.length = m) (h : ∀ x ∈ l, f x u = g x) : List.zipWith f l (List.replicate m u) = l.map g := by
  apply List.ext_getElem
  · simp [hl]
  · intro j h1 h2
    simp [h _ (List.getElem_mem _)]

theorem zip_left {f : Int → Int → Int} {l : List Int} {m : Nat} {u : Int} {g : Int → Int} (hl : l.length = m) (h : ∀ x ∈ l, f u x = g x) : List.zipWith f (List.replicate m u) l = l.map g := by
  apply List.ext_getElem
  · simp [hl]
  · intro j h1 h2
    simp [h _ (List.getElem_mem _)]

theorem map_same {l : List Int} {g : Int → Int} (h : ∀ x ∈ l, g x = x) : l.map g = l := by
  induction l with
  | nil => rfl
  | cons a t ih => rw [List.map_cons, h a List.mem_cons_self, ih (fun x hx => h x (List.mem_cons_of_mem _ hx))]

theorem map_const {l : List Int} {m : Nat} {u : Int} (hl : l.length = m) : l.map (fun _ => u) = List.replicate m u := by
  rw [List.map_const', hl]

/-- m numbers and a mark behind, of which the first k are those of zs, the others those of xs. -/
def mixN (zs xs : List Int) (k : Nat) : List Value := (zs.take k ++ xs.drop k).map (Value.int .i32) ++ [.int .i32 77]

section
variable {zs xs : List Int} {m k : Nat}

theorem mixN_len (h1 : zs.length = m) (h2 : xs.length = m) (hk : k ≤ m) : (mixN zs xs k).length = m + 1 := by simp [mixN]; omega

theorem mixN_at (h1 : zs.length = m) (h2 : xs.length = m) (hk : k < m) : (mixN zs xs k)[k]? = some (.int .i32 (xs.getD k 0)) := by
  unfold mixN
  rw [List.getElem?_append_left (by simp; omega), List.getElem?_map, List.getElem?_append_right (by simp; omega)]
  simp [List.getD, List.getElem?_drop, show min k zs.length = k by omega, show k < xs.length by omega]

theorem mixN_none : mixN zs xs 0 = xs.map (Value.int .i32) ++ [.int .i32 77] := by simp [mixN]

theorem mixN_all (h1 : zs.length = m) (h2 : xs.length = m) : mixN zs xs m = zs.map (Value.int .i32) ++ [.int .i32 77] := by
  unfold mixN
  rw [List.take_of_length_le (by omega), List.drop_of_length_le (by omega), List.append_nil]

theorem mixN_set (h1 : zs.length = m) (h2 : xs.length = m) (hk : k < m) : (mixN zs xs k).set k (.int .i32 (zs.getD k 0)) = mixN zs xs (k + 1) := by
  apply List.ext_getElem?
  intro j
  rw [List.getElem?_set]
  have hl := mixN_len h1 h2 (Nat.le_of_lt hk)
  by_cases e : k = j
  · subst e
    rw [if_pos rfl, if_pos (by omega)]
    unfold mixN
    rw [List.getElem?_append_left (by simp; omega), List.getElem?_map, List.getElem?_append_left (by simp; omega), List.getElem?_take, if_pos (by omega)]
    simp [List.getD, show k < zs.length by omega]
  · rw [if_neg e]
    unfold mixN
    by_cases hj : j < m
    · rw [List.getElem?_append_left (by simp; omega), List.getElem?_append_left (by simp; omega), List.getElem?_map, List.getElem?_map]
      by_cases h : j < k
      · rw [List.getElem?_append_left (by simp; omega), List.getElem?_append_left (by simp; omega), List.getElem?_take, List.getElem?_take, if_pos h, if_pos (by omega)]
      · rw [List.getElem?_append_right (by simp; omega), List.getElem?_append_right (by simp; omega), List.getElem?_drop, List.getElem?_drop]
        simp only [List.length_take]
        congr 2
        omega
    · rw [List.getElem?_append_right (by simp; omega), List.getElem?_append_right (by simp; omega)]
      simp only [List.length_map, List.length_append, List.length_take, List.length_drop]
      congr 1
      omega

end

def MixAt (w : World) (g : Nat) (zs xs : List Int) (k : Nat) : Prop := w.heap[g]? = some (.cells (mixN zs xs k).toArray 21 (0, 0))

section
variable {w : World} {g m k : Nat} {zs xs : List Int}

theorem MixAt.cell (h : MixAt w g zs xs k) (h1 : zs.length = m) (h2 : xs.length = m) (hk : k < m) : w.cell? ⟨g, k, none⟩ = some (.int .i32 (xs.getD k 0)) := by
  rw [cell_of_row _ _ k _ _ (0, 0) h, List.getElem?_toArray, mixN_at h1 h2 hk]

theorem MixAt.frozen (h : MixAt w g zs xs k) (j : Nat) : w.frozen? ⟨g, j, none⟩ = false := frozen_of_row w g j _ _ h

theorem MixAt.lt (h : MixAt w g zs xs k) : g < w.heap.size := lt_of_heap h

theorem MixAt.set (h : MixAt w g zs xs k) (h1 : zs.length = m) (h2 : xs.length = m) (hk : k < m) : MixAt (w.setCell ⟨g, k, none⟩ (.int .i32 (zs.getD k 0))) g zs xs (k + 1) := by
  have e1 := setCell_eq_setRow w g k _ _ (0, 0) (.int .i32 (zs.getD k 0)) h
  have h3 := setRow_heap w g _ ((mixN zs xs k).toArray.setIfInBounds k (.int .i32 (zs.getD k 0))) _ _ h
  rw [e1]
  unfold MixAt
  rw [h3, ← mixN_set h1 h2 hk]
  simp

theorem MixAt.other (h : MixAt w g zs xs k) {a : Addr} (ha : g ≠ a.block) (v : Value) : MixAt (w.setCell a v) g zs xs k := (Below.heap_setCell w a v g ha).trans h

theorem MixAt.keep (h : MixAt w g zs xs k) {w' : World} {B : Nat} (hb : Below B w w') (hB : g < B) : MixAt w' g zs xs k := (hb.block g hB).trans h

theorem MixAt.of_own {base : Nat} (h : w.ownsRow base 21 1 (.slice (some ⟨g, 0, none⟩) (m + 1) (m + 1)) (m + 1) (xs.map (Value.int .i32) ++ [.int .i32 77])) (zs : List Int) : MixAt w g zs xs 0 := by
  obtain ⟨cur, hh, _, _, _, hs, ht⟩ := own_heap h
  unfold MixAt
  rw [hh, mixN_none, ← ht, Nat.mul_one, List.take_of_length_le (by simp; omega)]

theorem MixAt.lies (h : MixAt w g zs xs m) (h1 : zs.length = m) (h2 : xs.length = m) : Lies w (some ⟨g, 0, none⟩) m (zs.map (Value.int .i32)) :=
  ⟨by simp [h1], fun hm => ⟨g, 0, rfl, h.lt, fun j hj => by
    rw [Nat.zero_add, cell_of_row _ _ j _ _ (0, 0) h, List.getElem?_toArray, mixN_all h1 h2, List.getElem?_append_left (by simp; omega)]⟩⟩

end

/-- A tensor in a box. -/
def TenAt (w : World) (p : Nat) (A B : Option Addr) (n c m d : Nat) (s l : List Int) : Prop := BoxT w p (.slice A n c) (.slice B m d) ∧ Lies w A n (s.map (Value.int .i64)) ∧ Lies w B m (l.map (Value.int .i32))

section
variable {w : World} {p : Nat} {A B : Option Addr} {n c m d : Nat} {s l : List Int}

theorem TenAt.kept (h : TenAt w p A B n c m d s l) {w' : World} (hb : Below w.heap.size w w') : TenAt w' p A B n c m d s l := ⟨h.1.kept hb, h.2.1.below hb, h.2.2.below hb⟩

theorem TenAt.c0 (h : TenAt w p A B n c m d s l) : w.cell? ⟨p, 0, none⟩ = some (.slice A n c) := h.1.c0

theorem TenAt.c1 (h : TenAt w p A B n c m d s l) : w.cell? ⟨p, 1, none⟩ = some (.slice B m d) := h.1.c1

theorem TenAt.S (h : TenAt w p A B n c m d s l) : Lies w A n (s.map (Value.int .i64)) := h.2.1

theorem TenAt.L (h : TenAt w p A B n c m d s l) : Lies w B m (l.map (Value.int .i32)) := h.2.2

theorem TenAt.made {g1 g2 c1 b1 b2 : Nat} (h1 : w.ownsRow b1 3 1 (.slice (some ⟨g1, 0, none⟩) n c1) n (s.map (Value.int .i64))) (h2 : w.ownsRow b2 21 1 (.slice (some ⟨g2, 0, none⟩) m d) m (l.map (Value.int .i32))) :
    TenAt (w.alloc (.cells #[.slice (some ⟨g1, 0, none⟩) n c1, .slice (some ⟨g2, 0, none⟩) m d] 25)) w.heap.size (some ⟨g1, 0, none⟩) (some ⟨g2, 0, none⟩) n c1 m d s l :=
  ⟨BoxT.new w _ _, (lies_of_own h1).alloc _, (lies_of_own h2).alloc _⟩

end

theorem tsz_nn6 (n m : Nat) : 0 ≤ (tsz n m : Int) := by omega

theorem tsz_hi6 {n m N : Nat} (hn : n ≤ N) (hm : m ≤ N) : (tsz n m : Int) ≤ 1 + 2 * N := by unfold tsz; split <;> omega

theorem tsz_lo6 {n m : Nat} (h : tsz n m ≤ 1048576) : n ≤ 1048576 ∧ m ≤ 1048576 := by unfold tsz at h; split at h <;> omega

end

section
open Go.RowKit
set_option linter.unusedVariables false
set_option linter.unusedSimpArgs false

/-- What the first k places of the row i of l and the column j of l' come to; rows of l have K numbers, those of l' n. -/
def dotN (l l' : List Int) (K n i j : Nat) : Nat → Int
  | 0 => 0
  | p + 1 => add32 (dotN l l' K n i j p) (mul32 (l.getD (i * K + p) 0) (l'.getD (p * n + j) 0))

/-- The numbers of a product: M rows, n columns, K places between. -/
def prodL (l l' : List Int) (M K n : Nat) : List Int := (List.range (M * n)).map fun q => dotN l l' K n (q / n) (q % n) K

def sm (f : Nat → Int) : Nat → Int
  | 0 => 0
  | k + 1 => sm f k + f k

theorem w32_add (a b : Int) : wrap32 (wrap32 a + b) = wrap32 (a + b) := by unfold wrap32; omega

theorem w32_add' (a b : Int) : wrap32 (a + wrap32 b) = wrap32 (a + b) := by unfold wrap32; omega

theorem w32_mul (a b : Int) : wrap32 (wrap32 a * b) = wrap32 (a * b) := by
  obtain ⟨k, hk⟩ := wrap32_some a
  rw [hk, Int.add_mul, Int.mul_assoc, wrap32_more]

theorem w32_mul' (a b : Int) : wrap32 (a * wrap32 b) = wrap32 (a * b) := by rw [Int.mul_comm, w32_mul, Int.mul_comm]

theorem w32_both {a b c d : Int} (h1 : wrap32 a = wrap32 c) (h2 : wrap32 b = wrap32 d) : wrap32 (a + b) = wrap32 (c + d) := by
  rw [← w32_add, h1, w32_add, ← w32_add', h2, w32_add']

theorem w32_w32 (a : Int) : wrap32 (wrap32 a) = wrap32 a := by unfold wrap32; omega

theorem sm_congr {f g : Nat → Int} : ∀ {k : Nat}, (∀ p, p < k → f p = g p) → sm f k = sm g k
  | 0, _ => rfl
  | k + 1, h => by rw [sm, sm, sm_congr fun p hp => h p (by omega), h k (by omega)]

theorem sm_wrap {f g : Nat → Int} : ∀ {k : Nat}, (∀ p, p < k → wrap32 (f p) = wrap32 (g p)) → wrap32 (sm f k) = wrap32 (sm g k)
  | 0, _ => rfl
  | k + 1, h => by rw [sm, sm]; exact w32_both (sm_wrap fun p hp => h p (by omega)) (h k (by omega))

theorem sm_add (f g : Nat → Int) : ∀ k, sm (fun p => f p + g p) k = sm f k + sm g k
  | 0 => rfl
  | k + 1 => by rw [sm, sm, sm, sm_add f g k]; omega

theorem sm_mul (c : Int) (f : Nat → Int) : ∀ k, sm (fun p => c * f p) k = c * sm f k
  | 0 => by simp [sm]
  | k + 1 => by rw [sm, sm, sm_mul c f k, Int.mul_add]

theorem sm_mul' (c : Int) (f : Nat → Int) (k : Nat) : sm (fun p => f p * c) k = sm f k * c := by
  rw [Int.mul_comm, ← sm_mul]; exact sm_congr fun p _ => Int.mul_comm _ _

theorem sm_zero {f : Nat → Int} : ∀ {k : Nat}, (∀ p, p < k → f p = 0) → sm f k = 0
  | 0, _ => rfl
  | k + 1, h => by rw [sm, sm_zero fun p hp => h p (by omega), h k (by omega)]; rfl

theorem sm_swap (f : Nat → Nat → Int) (k : Nat) : ∀ m, sm (fun p => sm (fun q => f p q) k) m = sm (fun q => sm (fun p => f p q) m) k
  | 0 => by simp only [sm]; exact (sm_zero fun _ _ => rfl).symm
  | m + 1 => by
    rw [sm, sm_swap f k m, ← sm_add]
    exact sm_congr fun q _ => rfl

theorem sm_one {f : Nat → Int} {i : Nat} : ∀ {k : Nat}, i < k → (∀ p, p < k → p ≠ i → f p = 0) → sm f k = f i
  | k + 1, hi, h => by
    rw [sm]
    by_cases e : i = k
    · subst e; rw [sm_zero fun p hp => h p (by omega) (by omega)]; omega
    · rw [sm_one (k := k) (by omega) fun p hp hne => h p (by omega) hne, h k (by omega) (by omega)]; omega

theorem dotN_sm (l l' : List Int) (K n i j : Nat) : ∀ k, dotN l l' K n i j k = wrap32 (sm (fun p => l.getD (i * K + p) 0 * l'.getD (p * n + j) 0) k)
  | 0 => by simp [dotN, sm, wrap32]
  | k + 1 => by rw [dotN, dotN_sm l l' K n i j k, sm]; unfold add32 mul32; rw [w32_add, w32_add']

theorem dotN_range (l l' : List Int) (K n i j k : Nat) : -2147483648 ≤ dotN l l' K n i j k ∧ dotN l l' K n i j k < 2147483648 := by rw [dotN_sm]; exact wrap32_range _

theorem prodL_len (l l' : List Int) (M K n : Nat) : (prodL l l' M K n).length = M * n := by simp [prodL]

theorem place_lt {M n i j : Nat} (hi : i < M) (hj : j < n) : i * n + j < M * n := by
  have h : i * n + n ≤ M * n := by rw [← Nat.succ_mul]; exact Nat.mul_le_mul_right n hi
  omega

theorem prodL_at {l l' : List Int} {M K n i j : Nat} (hi : i < M) (hj : j < n) : (prodL l l' M K n).getD (i * n + j) 0 = dotN l l' K n i j K := by
  have h := place_lt hi hj
  have h1 : (i * n + j) / n = i := by rw [Nat.mul_comm, Nat.mul_add_div (by omega), Nat.div_eq_of_lt hj]; omega
  have h2 : (i * n + j) % n = j := by rw [Nat.mul_comm, Nat.mul_add_mod, Nat.mod_eq_of_lt hj]
  simp [prodL, List.getD, h, h1, h2]

theorem prodL_words (l l' : List Int) (M K n : Nat) : ∀ z ∈ prodL l l' M K n, -2147483648 ≤ z ∧ z < 2147483648 := by
  intro z hz
  simp only [prodL, List.mem_map] at hz
  obtain ⟨q, _, rfl⟩ := hz
  exact dotN_range _ _ _ _ _ _ _

/-- Two lists of M * n numbers are one if they are so at each row and column. -/
theorem ext_rows {x y : List Int} {M n : Nat} (hx : x.length = M * n) (hy : y.length = M * n) (h : ∀ i j, i < M → j < n → x.getD (i * n + j) 0 = y.getD (i * n + j) 0) : x = y := by
  apply List.ext_getElem (by rw [hx, hy])
  intro q h1 h2
  rw [hx] at h1
  have hn : 0 < n := by
    rcases Nat.eq_zero_or_pos n with e | e
    · subst e; simp at h1
    · exact e
  have e1 : q / n < M := Nat.div_lt_of_lt_mul (by rw [Nat.mul_comm]; exact h1)
  have e2 : q % n < n := Nat.mod_lt _ hn
  have e3 : q / n * n + q % n = q := by rw [Nat.mul_comm]; exact Nat.div_add_mod q n
  have := h _ _ e1 e2
  rw [e3] at this
  simpa [List.getD, hx, hy, h1] using this

theorem prod_three (a b c : List Int) (M K L n : Nat) : prodL (prodL a b M K L) c M L n = prodL a (prodL b c K L n) M K n := by
  refine ext_rows (prodL_len _ _ _ _ _) (prodL_len _ _ _ _ _) fun i j hi hj => ?_
  rw [prodL_at hi hj, prodL_at hi hj, dotN_sm, dotN_sm]
  have h1 : wrap32 (sm (fun q => (prodL a b M K L).getD (i * L + q) 0 * c.getD (q * n + j) 0) L) = wrap32 (sm (fun q => sm (fun p => a.getD (i * K + p) 0 * b.getD (p * L + q) 0 * c.getD (q * n + j) 0) K) L) :=
    sm_wrap fun q hq => by rw [prodL_at hi hq, dotN_sm, w32_mul, ← sm_mul']
  have h2 : wrap32 (sm (fun p => a.getD (i * K + p) 0 * (prodL b c K L n).getD (p * n + j) 0) K) = wrap32 (sm (fun p => sm (fun q => a.getD (i * K + p) 0 * b.getD (p * L + q) 0 * c.getD (q * n + j) 0) L) K) :=
    sm_wrap fun p hp => by
      rw [prodL_at hp hj, dotN_sm, w32_mul', ← sm_mul]
      exact congrArg wrap32 (sm_congr fun q _ => (Int.mul_assoc _ _ _).symm)
  rw [h1, h2, sm_swap]

theorem zip_at {f : Int → Int → Int} {a b : List Int} {q : Nat} (h1 : q < a.length) (h2 : q < b.length) : (List.zipWith f a b).getD q 0 = f (a.getD q 0) (b.getD q 0) := by
  simp [List.getD, List.getElem?_zipWith, h1, h2]

theorem prod_left {a b : List Int} (c : List Int) {M K : Nat} (n : Nat) (ha : a.length = M * K) (hb : b.length = M * K) : prodL (List.zipWith add32 a b) c M K n = List.zipWith add32 (prodL a c M K n) (prodL b c M K n) := by
  refine ext_rows (prodL_len _ _ _ _ _) (by simp [prodL_len]) fun i j hi hj => ?_
  have hq := place_lt hi hj
  rw [prodL_at hi hj, zip_at (by rw [prodL_len]; exact hq) (by rw [prodL_len]; exact hq), prodL_at hi hj, prodL_at hi hj, dotN_sm, dotN_sm, dotN_sm]
  unfold add32
  rw [w32_add, w32_add', ← sm_add]
  refine sm_wrap fun p hp => ?_
  have hz := place_lt hi hp
  rw [zip_at (by omega) (by omega), w32_mul, Int.add_mul]

theorem prod_right (a : List Int) {c x : List Int} (M : Nat) {K n : Nat} (hc : c.length = K * n) (hx : x.length = K * n) : prodL a (List.zipWith add32 c x) M K n = List.zipWith add32 (prodL a c M K n) (prodL a x M K n) := by
  refine ext_rows (prodL_len _ _ _ _ _) (by simp [prodL_len]) fun i j hi hj => ?_
  have hq := place_lt hi hj
  rw [prodL_at hi hj, zip_at (by rw [prodL_len]; exact hq) (by rw [prodL_len]; exact hq), prodL_at hi hj, prodL_at hi hj, dotN_sm, dotN_sm, dotN_sm]
  unfold add32
  rw [w32_add, w32_add', ← sm_add]
  refine sm_wrap fun p hp => ?_
  have hz := place_lt hp hj
  rw [zip_at (by omega) (by omega), w32_mul', Int.mul_add]

/-- Ones where both directions are the same, as far as k rows are done. -/
def oneTo (n k : Nat) : List Int := (List.range (n * n)).map fun q => if q / n < k ∧ q / n = q % n then 1 else 0

theorem oneTo_len (n k : Nat) : (oneTo n k).length = n * n := by simp [oneTo]

theorem oneTo_none (n : Nat) : oneTo n 0 = List.replicate (n * n) 0 := by
  apply List.ext_getElem <;> simp [oneTo]

theorem oneTo_at {n k i j : Nat} (hi : i < n) (hj : j < n) : (oneTo n k).getD (i * n + j) 0 = if i < k ∧ i = j then 1 else 0 := by
  have h := place_lt hi hj
  have h1 : (i * n + j) / n = i := by rw [Nat.mul_comm, Nat.mul_add_div (by omega), Nat.div_eq_of_lt hj]; omega
  have h2 : (i * n + j) % n = j := by rw [Nat.mul_comm, Nat.mul_add_mod, Nat.mod_eq_of_lt hj]
  simp [oneTo, List.getD, h, h1, h2]

theorem oneTo_set {n k : Nat} (hk : k < n) : (oneTo n k).set (k * n + k) 1 = oneTo n (k + 1) := by
  have hl := place_lt hk hk
  refine ext_rows (M := n) (n := n) (by simp [oneTo_len]) (oneTo_len _ _) fun i j hi hj => ?_
  rw [oneTo_at hi hj]
  by_cases e : i = k ∧ j = k
  · obtain ⟨rfl, rfl⟩ := e
    rw [if_pos ⟨by omega, rfl⟩]
    simp [List.getD, oneTo_len, hl]
  · have hne : k * n + k ≠ i * n + j := by
      intro h
      have h1 : (k * n + k) / n = k := by rw [Nat.mul_comm, Nat.mul_add_div (by omega), Nat.div_eq_of_lt hk]; omega
      have h2 : (i * n + j) / n = i := by rw [Nat.mul_comm, Nat.mul_add_div (by omega), Nat.div_eq_of_lt hj]; omega
      rw [h, h2] at h1
      subst h1
      exact e ⟨rfl, by omega⟩
    have h := oneTo_at (k := k) hi hj
    rw [List.getD_eq_getElem?_getD] at h ⊢
    rw [List.getElem?_set_ne hne, h]
    by_cases c : i = j
    · subst c
      have : i ≠ k := fun c => e ⟨c, c⟩
      by_cases d : i < k
      · rw [if_pos ⟨d, rfl⟩, if_pos ⟨by omega, rfl⟩]
      · rw [if_neg fun x => d x.1, if_neg fun x => by omega]
    · rw [if_neg fun x => c x.2, if_neg fun x => c x.2]

theorem prod_one_left {t : List Int} {m n : Nat} (ht : t.length = m * n) (hw : ∀ z ∈ t, -2147483648 ≤ z ∧ z < 2147483648) : prodL (oneTo m m) t m m n = t := by
  refine ext_rows (prodL_len _ _ _ _ _) ht fun i j hi hj => ?_
  have hq := place_lt hi hj
  rw [prodL_at hi hj, dotN_sm, sm_one hi fun p hp hne => by rw [oneTo_at hi hp, if_neg fun x => hne x.2.symm, Int.zero_mul], oneTo_at hi hi, if_pos ⟨hi, rfl⟩, Int.one_mul]
  refine wrap32_id (hw _ ?_)
  rw [List.getD_eq_getElem?_getD, List.getElem?_eq_getElem (by omega)]
  exact List.getElem_mem _

theorem prod_one_right {t : List Int} {m n : Nat} (ht : t.length = m * n) (hw : ∀ z ∈ t, -2147483648 ≤ z ∧ z < 2147483648) : prodL t (oneTo n n) m n n = t := by
  refine ext_rows (prodL_len _ _ _ _ _) ht fun i j hi hj => ?_
  have hq := place_lt hi hj
  rw [prodL_at hi hj, dotN_sm, sm_one hj fun p hp hne => by rw [oneTo_at hp hj, if_neg fun x => hne x.2, Int.mul_zero], oneTo_at hj hj, if_pos ⟨hj, rfl⟩, Int.mul_one]
  refine wrap32_id (hw _ ?_)
  rw [List.getD_eq_getElem?_getD, List.getElem?_eq_getElem (by omega)]
  exact List.getElem_mem _

theorem prod_noughts (t : List Int) (m n k q : Nat) : prodL t (List.replicate q 0) m n k = List.replicate (m * k) 0 := by
  refine ext_rows (prodL_len _ _ _ _ _) (by simp) fun i j hi hj => ?_
  rw [prodL_at hi hj, dotN_sm, sm_zero fun p hp => ?_]
  · have := place_lt hi hj
    simp [List.getD, this, wrap32]
  · have : (List.replicate q (0 : Int)).getD (p * k + j) 0 = 0 := by
      rw [List.getD_eq_getElem?_getD, List.getElem?_replicate]; split <;> rfl
    rw [this, Int.mul_zero]

/-- The sum of the squares of the first k numbers. -/
def sqN (t : List Int) : Nat → Int
  | 0 => 0
  | p + 1 => add32 (sqN t p) (mul32 (t.getD p 0) (t.getD p 0))

theorem sqN_dot (t : List Int) (K : Nat) : ∀ k, dotN t t K 1 0 0 k = sqN t k
  | 0 => rfl
  | k + 1 => by rw [dotN, sqN, sqN_dot t K k]; simp

theorem prod_square {t : List Int} {k : Nat} : prodL t t 1 k 1 = [sqN t k] := by
  refine ext_rows (M := 1) (n := 1) (prodL_len _ _ _ _ _) rfl fun i j hi hj => ?_
  obtain rfl : i = 0 := by omega
  obtain rfl : j = 0 := by omega
  rw [prodL_at hi hj, sqN_dot]
  rfl

end

end Go.Proofs.YtlalfjlcgabnnaaGreatDoor
