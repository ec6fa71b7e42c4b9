/- Plain facts on the numbers of package maths, and a tensor in a box. -/
import Derived.Test.YtlalfjlcgabnnaaAlive6
import Derived.Test.YtlalfjlcgabnnaaBeyond
namespace Go.Proofs.Ytlalfjlcgabnnaa
open Go.RowKit
set_option linter.unusedVariables false
set_option linter.unusedSimpArgs false
set_option maxRecDepth 20000

theorem wrap32_some (a : Int) : ∃ k, wrap32 a = a + 4294967296 * k := ⟨-((a + 2147483648) / 4294967296), by unfold wrap32; omega⟩

theorem wrap32_more (a k : Int) : wrap32 (a + 4294967296 * k) = wrap32 a := by unfold wrap32; omega

theorem wrap32_range (a : Int) : -2147483648 ≤ wrap32 a ∧ wrap32 a < 2147483648 := by unfold wrap32; omega

theorem wrap32_id {a : Int} (h : -2147483648 ≤ a ∧ a < 2147483648) : wrap32 a = a := by unfold wrap32; omega

theorem add32_comm (x y : Int) : add32 x y = add32 y x := by unfold add32; rw [Int.add_comm]

theorem add32_assoc (x y z : Int) : add32 (add32 x y) z = add32 x (add32 y z) := by unfold add32 wrap32; omega

theorem mul32_comm (x y : Int) : mul32 x y = mul32 y x := by unfold mul32; rw [Int.mul_comm]

theorem mul32_assoc (x y z : Int) : mul32 (mul32 x y) z = mul32 x (mul32 y z) := by
  unfold mul32
  obtain ⟨k, hk⟩ := wrap32_some (x * y)
  obtain ⟨j, hj⟩ := wrap32_some (y * z)
  rw [hk, hj, show (x * y + 4294967296 * k) * z = x * y * z + 4294967296 * (k * z) by rw [Int.add_mul, Int.mul_assoc 4294967296], show x * (y * z + 4294967296 * j) = x * y * z + 4294967296 * (x * j) by rw [Int.mul_add, Int.mul_assoc x y, Int.mul_left_comm x 4294967296], wrap32_more, wrap32_more]

theorem mul32_add (x y z : Int) : mul32 x (add32 y z) = add32 (mul32 x y) (mul32 x z) := by
  unfold mul32 add32
  obtain ⟨k, hk⟩ := wrap32_some (y + z)
  obtain ⟨i, hi⟩ := wrap32_some (x * y)
  obtain ⟨j, hj⟩ := wrap32_some (x * z)
  rw [hk, hi, hj, show x * (y + z + 4294967296 * k) = x * y + x * z + 4294967296 * (x * k) by rw [Int.mul_add, Int.mul_add, Int.mul_left_comm x 4294967296], show x * y + 4294967296 * i + (x * z + 4294967296 * j) = x * y + x * z + 4294967296 * (i + j) by omega, wrap32_more, wrap32_more]

theorem zip_comm {f : Int → Int → Int} (h : ∀ x y, f x y = f y x) : ∀ (a b : List Int), List.zipWith f a b = List.zipWith f b a
  | [], b => by cases b <;> rfl
  | x :: a, [] => rfl
  | x :: a, y :: b => by rw [List.zipWith_cons_cons, List.zipWith_cons_cons, h, zip_comm h]

theorem zip_assoc {f : Int → Int → Int} (h : ∀ x y z, f (f x y) z = f x (f y z)) : ∀ (a b c : List Int), List.zipWith f (List.zipWith f a b) c = List.zipWith f a (List.zipWith f b c)
  | [], b, c => by cases b <;> cases c <;> rfl
  | x :: a, [], c => by cases c <;> rfl
  | x :: a, y :: b, [] => rfl
  | x :: a, y :: b, z :: c => by rw [List.zipWith_cons_cons, List.zipWith_cons_cons, List.zipWith_cons_cons, List.zipWith_cons_cons, h, zip_assoc h]

theorem zip_dist {f g : Int → Int → Int} (h : ∀ x y z, g x (f y z) = f (g x y) (g x z)) : ∀ (a b c : List Int), List.zipWith g a (List.zipWith f b c) = List.zipWith f (List.zipWith g a b) (List.zipWith g a c)
  | [], b, c => by cases b <;> cases c <;> rfl
  | x :: a, [], c => by cases c <;> rfl
  | x :: a, y :: b, [] => rfl
  | x :: a, y :: b, z :: c => by rw [List.zipWith_cons_cons, List.zipWith_cons_cons, List.zipWith_cons_cons, List.zipWith_cons_cons, List.zipWith_cons_cons, h, zip_dist h]

theorem zip_right {f : Int → Int → Int} {l : List Int} {m : Nat} {u : Int} {g : Int → Int} (hl : l.length = m) (h : ∀ x ∈ l, f x u = g x) : List.zipWith f l (List.replicate m u) = l.map g := by
  apply List.ext_getElem
  · simp [hl]
  · intro j h1 h2
    simp [h _ (List.getElem_mem _)]

theorem zip_left {f : Int → Int → Int} {l : List Int} {m : Nat} {u : Int} {g : Int → Int} (hl : l.length = m) (h : ∀ x ∈ l, f u x = g x) : List.zipWith f (List.replicate m u) l = l.map g := by
  apply List.ext_getElem
  · simp [hl]
  · intro j h1 h2
    simp [h _ (List.getElem_mem _)]

theorem map_same {l : List Int} {g : Int → Int} (h : ∀ x ∈ l, g x = x) : l.map g = l := by
  induction l with
  | nil => rfl
  | cons a t ih => rw [List.map_cons, h a List.mem_cons_self, ih (fun x hx => h x (List.mem_cons_of_mem _ hx))]

theorem map_const {l : List Int} {m : Nat} {u : Int} (hl : l.length = m) : l.map (fun _ => u) = List.replicate m u := by
  rw [List.map_const', hl]

/-- m numbers and a mark behind, of which the first k are those of zs, the others those of xs. -/
def mixN (zs xs : List Int) (k : Nat) : List Value := (zs.take k ++ xs.drop k).map (Value.int .i32) ++ [.int .i32 77]

section
variable {zs xs : List Int} {m k : Nat}

theorem mixN_len (h1 : zs.length = m) (h2 : xs.length = m) (hk : k ≤ m) : (mixN zs xs k).length = m + 1 := by simp [mixN]; omega

theorem mixN_at (h1 : zs.length = m) (h2 : xs.length = m) (hk : k < m) : (mixN zs xs k)[k]? = some (.int .i32 (xs.getD k 0)) := by
  unfold mixN
  rw [List.getElem?_append_left (by simp; omega), List.getElem?_map, List.getElem?_append_right (by simp; omega)]
  simp [List.getD, List.getElem?_drop, show min k zs.length = k by omega, show k < xs.length by omega]

theorem mixN_none : mixN zs xs 0 = xs.map (Value.int .i32) ++ [.int .i32 77] := by simp [mixN]

theorem mixN_all (h1 : zs.length = m) (h2 : xs.length = m) : mixN zs xs m = zs.map (Value.int .i32) ++ [.int .i32 77] := by
  unfold mixN
  rw [List.take_of_length_le (by omega), List.drop_of_length_le (by omega), List.append_nil]

theorem mixN_set (h1 : zs.length = m) (h2 : xs.length = m) (hk : k < m) : (mixN zs xs k).set k (.int .i32 (zs.getD k 0)) = mixN zs xs (k + 1) := by
  apply List.ext_getElem?
  intro j
  rw [List.getElem?_set]
  have hl := mixN_len h1 h2 (Nat.le_of_lt hk)
  by_cases e : k = j
  · subst e
    rw [if_pos rfl, if_pos (by omega)]
    unfold mixN
    rw [List.getElem?_append_left (by simp; omega), List.getElem?_map, List.getElem?_append_left (by simp; omega), List.getElem?_take, if_pos (by omega)]
    simp [List.getD, show k < zs.length by omega]
  · rw [if_neg e]
    unfold mixN
    by_cases hj : j < m
    · rw [List.getElem?_append_left (by simp; omega), List.getElem?_append_left (by simp; omega), List.getElem?_map, List.getElem?_map]
      by_cases h : j < k
      · rw [List.getElem?_append_left (by simp; omega), List.getElem?_append_left (by simp; omega), List.getElem?_take, List.getElem?_take, if_pos h, if_pos (by omega)]
      · rw [List.getElem?_append_right (by simp; omega), List.getElem?_append_right (by simp; omega), List.getElem?_drop, List.getElem?_drop]
        simp only [List.length_take]
        congr 2
        omega
    · rw [List.getElem?_append_right (by simp; omega), List.getElem?_append_right (by simp; omega)]
      simp only [List.length_map, List.length_append, List.length_take, List.length_drop]
      congr 1
      omega

end

def MixAt (w : World) (g : Nat) (zs xs : List Int) (k : Nat) : Prop := w.heap[g]? = some (.cells (mixN zs xs k).toArray 21 (0, 0))

section
variable {w : World} {g m k : Nat} {zs xs : List Int}

theorem MixAt.cell (h : MixAt w g zs xs k) (h1 : zs.length = m) (h2 : xs.length = m) (hk : k < m) : w.cell? ⟨g, k, none⟩ = some (.int .i32 (xs.getD k 0)) := by
  rw [cell_of_row _ _ k _ _ (0, 0) h, List.getElem?_toArray, mixN_at h1 h2 hk]

theorem MixAt.frozen (h : MixAt w g zs xs k) (j : Nat) : w.frozen? ⟨g, j, none⟩ = false := frozen_of_row w g j _ _ h

theorem MixAt.lt (h : MixAt w g zs xs k) : g < w.heap.size := lt_of_heap h

theorem MixAt.set (h : MixAt w g zs xs k) (h1 : zs.length = m) (h2 : xs.length = m) (hk : k < m) : MixAt (w.setCell ⟨g, k, none⟩ (.int .i32 (zs.getD k 0))) g zs xs (k + 1) := by
  have e1 := setCell_eq_setRow w g k _ _ (0, 0) (.int .i32 (zs.getD k 0)) h
  have h3 := setRow_heap w g _ ((mixN zs xs k).toArray.setIfInBounds k (.int .i32 (zs.getD k 0))) _ _ h
  rw [e1]
  unfold MixAt
  rw [h3, ← mixN_set h1 h2 hk]
  simp

theorem MixAt.other (h : MixAt w g zs xs k) {a : Addr} (ha : g ≠ a.block) (v : Value) : MixAt (w.setCell a v) g zs xs k := (Below.heap_setCell w a v g ha).trans h

theorem MixAt.keep (h : MixAt w g zs xs k) {w' : World} {B : Nat} (hb : Below B w w') (hB : g < B) : MixAt w' g zs xs k := (hb.block g hB).trans h

theorem MixAt.of_own {base : Nat} (h : w.ownsRow base 21 1 (.slice (some ⟨g, 0, none⟩) (m + 1) (m + 1)) (m + 1) (xs.map (Value.int .i32) ++ [.int .i32 77])) (zs : List Int) : MixAt w g zs xs 0 := by
  obtain ⟨cur, hh, _, _, _, hs, ht⟩ := own_heap h
  unfold MixAt
  rw [hh, mixN_none, ← ht, Nat.mul_one, List.take_of_length_le (by simp; omega)]

theorem MixAt.lies (h : MixAt w g zs xs m) (h1 : zs.length = m) (h2 : xs.length = m) : Lies w (some ⟨g, 0, none⟩) m (zs.map (Value.int .i32)) :=
  ⟨by simp [h1], fun hm => ⟨g, 0, rfl, h.lt, fun j hj => by
    rw [Nat.zero_add, cell_of_row _ _ j _ _ (0, 0) h, List.getElem?_toArray, mixN_all h1 h2, List.getElem?_append_left (by simp; omega)]⟩⟩

end

/-- A tensor in a box. -/
def TenAt (w : World) (p : Nat) (A B : Option Addr) (n c m d : Nat) (s l : List Int) : Prop := BoxT w p (.slice A n c) (.slice B m d) ∧ Lies w A n (s.map (Value.int .i64)) ∧ Lies w B m (l.map (Value.int .i32))

section
variable {w : World} {p : Nat} {A B : Option Addr} {n c m d : Nat} {s l : List Int}

theorem TenAt.kept (h : TenAt w p A B n c m d s l) {w' : World} (hb : Below w.heap.size w w') : TenAt w' p A B n c m d s l := ⟨h.1.kept hb, h.2.1.below hb, h.2.2.below hb⟩

theorem TenAt.c0 (h : TenAt w p A B n c m d s l) : w.cell? ⟨p, 0, none⟩ = some (.slice A n c) := h.1.c0

theorem TenAt.c1 (h : TenAt w p A B n c m d s l) : w.cell? ⟨p, 1, none⟩ = some (.slice B m d) := h.1.c1

theorem TenAt.S (h : TenAt w p A B n c m d s l) : Lies w A n (s.map (Value.int .i64)) := h.2.1

theorem TenAt.L (h : TenAt w p A B n c m d s l) : Lies w B m (l.map (Value.int .i32)) := h.2.2

theorem TenAt.made {g1 g2 c1 b1 b2 : Nat} (h1 : w.ownsRow b1 3 1 (.slice (some ⟨g1, 0, none⟩) n c1) n (s.map (Value.int .i64))) (h2 : w.ownsRow b2 21 1 (.slice (some ⟨g2, 0, none⟩) m d) m (l.map (Value.int .i32))) :
    TenAt (w.alloc (.cells #[.slice (some ⟨g1, 0, none⟩) n c1, .slice (some ⟨g2, 0, none⟩) m d] 28)) w.heap.size (some ⟨g1, 0, none⟩) (some ⟨g2, 0, none⟩) n c1 m d s l :=
  ⟨BoxT.new w _ _, (lies_of_own h1).alloc _, (lies_of_own h2).alloc _⟩

end

theorem tsz_nn6 (n m : Nat) : 0 ≤ (tsz n m : Int) := by omega

theorem tsz_hi6 {n m N : Nat} (hn : n ≤ N) (hm : m ≤ N) : (tsz n m : Int) ≤ 1 + 2 * N := by unfold tsz; split <;> omega

theorem tsz_lo6 {n m : Nat} (h : tsz n m ≤ 1048576) : n ≤ 1048576 ∧ m ≤ 1048576 := by unfold tsz at h; split at h <;> omega

end Go.Proofs.Ytlalfjlcgabnnaa
