/- Merged: Gr2, Pm7, Pr1. -/
import Derived.Test.YteagmlaahnpkhaaWZ11
import Derived.Test.YteagmlaahnpkhaaWZ10
import Derived.Test.YteagmlaahnpkhaaWZ08
import Derived.Deep.QuietTactic
import Derived.BigQuiet
namespace Go.Proofs.Yteagmlaahnpkhaa

section
open Go.RowKit
set_option linter.unusedVariables false
set_option linter.unusedSimpArgs false
set_option maxRecDepth 100000

/-- The indices of the weights. -/
def wtF : Nat → List Nd → List Int
  | _, [] => []
  | i, x :: r => if x.kd = 2 then (i : Int) :: wtF (i + 1) r else wtF (i + 1) r

theorem wtF_snoc : ∀ (i : Nat) (us : List Nd) (x : Nd), wtF i (us ++ [x]) = wtF i us ++ (if x.kd = 2 then [((i + us.length : Nat) : Int)] else [])
  | i, [], x => by simp only [List.nil_append, wtF, List.length_nil, Nat.add_zero]
  | i, y :: r, x => by
    have e : i + (y :: r).length = i + 1 + r.length := by simp; omega
    rw [List.cons_append, wtF, wtF, wtF_snoc (i + 1) r x, e]
    split
    · rfl
    · rfl

theorem wtF_len : ∀ (i : Nat) (us : List Nd), (wtF i us).length ≤ us.length
  | _, [] => Nat.le_refl _
  | i, y :: r => by
    have := wtF_len (i + 1) r
    rw [wtF]
    split <;> simp <;> omega

theorem take_oneN {ns : List Nd} {k : Nat} {x : Nd} (h : ns[k]? = some x) : ns.take (k + 1) = ns.take k ++ [x] := by
  obtain ⟨h1, h2⟩ := List.getElem?_eq_some_iff.1 h
  rw [List.take_succ_eq_append_getElem h1, h2]

set_option maxHeartbeats 1000000 in
theorem span_any (a b z : Int) (w : World) :
    Calls Try.prog 49 #[.agg #[.int .i64 a, .int .i64 b], .int .i64 z] w fun e w' => e = .returned (.bool (decide (a ≤ z ∧ z ≤ b))) ∧ Below w.heap.size w w' := by
  obtain ⟨W0, hW0⟩ : ∃ W0, W0 = w.alloc (.cells #[.int .i64 a, .int .i64 b] 66) := ⟨_, rfl⟩
  have HB0 : Hid (Below w.heap.size w W0) := hide (by rw [hW0]; exact below_al6 (Below.refl _ _))
  have c0 : W0.cell? ⟨w.heap.size, 0, none⟩ = some (.int .i64 a) := by rw [hW0]; exact cell_of_row _ _ 0 _ _ (0, 0) (heap_alloc_new w _)
  have c1 : W0.cell? ⟨w.heap.size, 1, none⟩ = some (.int .i64 b) := by rw [hW0]; exact cell_of_row _ _ 1 _ _ (0, 0) (heap_alloc_new w _)
  have hW0' := hW0.symm
  clear hW0
  obtain ⟨R, hR⟩ : ∃ y, y = decide (a ≤ z ∧ z ≤ b) := ⟨_, rfl⟩
  rw [← hR]
  go_enter Try.func49, Try.ntmps49
  by_cases h1 : a ≤ z
  · by_cases h2 : z ≤ b
    · obtain rfl : R = true := by rw [hR]; exact decide_eq_true ⟨h1, h2⟩
      clear hR
      go_wp2
      go_ret
      exact ⟨rfl, HB0.out⟩
    · obtain rfl : R = false := by rw [hR]; exact decide_eq_false (fun h => h2 h.2)
      clear hR
      go_wp2
      go_ret
      exact ⟨rfl, HB0.out⟩
  · obtain rfl : R = false := by rw [hR]; exact decide_eq_false (fun h => h1 h.1)
    clear hR
    go_wp2
    go_ret
    exact ⟨rfl, HB0.out⟩

/-- Is a list an order? -/
def isOrd (u : List Int) : Bool := decide (1 ≤ u.length ∧ u.length ≤ 4) && ordOk u u.length

set_option maxHeartbeats 2000000 in
theorem isOrder_any (A : Option Addr) (n c : Nat) (u : List Int) (w : World) (hA : Lies w A n (u.map (Value.int .i64))) (hn : n ≤ 281474976710656) :
    Calls Try.prog 45 #[.slice A n c] w fun e w' => e = .returned (.bool (isOrd u)) ∧ Below w.heap.size w w' := by
  have HL : Hid (u.length = n) := hide (lies_len9 hA)
  have HA := hide hA
  obtain ⟨R, hR⟩ : ∃ z, z = isOrd u := ⟨_, rfl⟩
  rw [← hR]
  have HR := hide hR
  clear hA hR
  go_enter Try.func45, Try.ntmps45
  by_cases h1 : n < 1
  · obtain rfl : R = false := by rw [HR.out, isOrd, decide_eq_false (by rw [HL.out]; omega)]; rfl
    have f1 : (n : Int) < 1 := by omega
    go_wp2
    go_ret
    exact ⟨rfl, Below.refl _ _⟩
  have f1 : ¬ ((n : Int) < 1) := by omega
  by_cases h4 : 4 < n
  · obtain rfl : R = false := by rw [HR.out, isOrd, decide_eq_false (by rw [HL.out]; omega)]; rfl
    have f2 : (4 : Int) < (n : Int) := by omega
    go_wp2
    go_ret
    exact ⟨rfl, Below.refl _ _⟩
  have f2 : ¬ ((4 : Int) < (n : Int)) := by omega
  go_wp2
  clear f1 f2
  go_loopw [14] (fun i wr => ∃ k : Nat, k ≤ n ∧ i = .int .i64 k ∧ Hid (∀ d, d < k → (d : Int) ∈ u) ∧ Hid (Below w.heap.size w wr)) (fun i _ => n - (intOf i).toNat)
  case atStart => exact ⟨0, Nat.zero_le _, rfl, hide (fun d hd => absurd hd (by omega)), hide (Below.refl _ _)⟩
  case round =>
    obtain ⟨k, hk, rfl, HP, HB⟩ := hrel
    by_cases hlt : k < n
    · have f1 : (k : Int) < (n : Int) := by omega
      go_wp2_with fail
      refine Calls.mono (contains_ints A n c u (k : Int) _ (HA.out.below HB.out) hn) ?_
      rintro e w1 ⟨rfl, hb⟩
      have HB1 := hide (below_nx6 HB.out hb)
      clear hb
      by_cases hx : (k : Int) ∈ u
      · have HP2 : Hid (∀ d, d < k + 1 → (d : Int) ∈ u) := hide (fun d hd => by
          by_cases e : d = k
          · rw [e]; exact hx
          · exact HP.out d (by omega))
        rw [decide_eq_true hx]
        go_wp2
        go_roundw
        case rel => exact ⟨k + 1, by omega, by go_num, HP2, HB1⟩
        case measure => simp [intOf] <;> omega
      · obtain rfl : R = false := by
          rw [HR.out, isOrd]
          cases h : ordOk u u.length with
          | false => simp
          | true => exact absurd ((ordOk_iff.1 h).2 k (by rw [HL.out]; exact hlt)) hx
        rw [decide_eq_false hx]
        go_wp2
        go_ret
        exact ⟨rfl, HB1.out⟩
    · obtain rfl : k = n := by omega
      obtain rfl : R = true := by
        have h9 : ordOk u u.length = true := ordOk_iff.2 ⟨rfl, by rw [HL.out]; exact HP.out⟩
        rw [HR.out, isOrd, h9, decide_eq_true (by rw [HL.out]; omega)]
        rfl
      have f1 : ¬ ((k : Int) < (k : Int)) := by omega
      go_wp2
      go_ret
      exact ⟨rfl, HB.out⟩

/-- A shape as it lies in a list of shapes. -/
structure Sg where
  A : Option Addr
  n : Nat
  c : Nat
  s : List Int

/-- A list of shapes lies there. -/
def SgAt (w : World) (A : Option Addr) (n : Nat) (gs : List Sg) : Prop := gs.length = n ∧ (1 ≤ n → ∃ b o, A = some ⟨b, o, none⟩ ∧ b < w.heap.size ∧ ∀ j g, gs[j]? = some g → w.cell? ⟨b, o + j, none⟩ = some (.slice g.A g.n g.c)) ∧ ∀ g ∈ gs, Lies w g.A g.n (g.s.map (Value.int .i64)) ∧ g.n ≤ g.c ∧ g.n ≤ 4

theorem SgAt.below {w w' : World} {A : Option Addr} {n : Nat} {gs : List Sg} (h : SgAt w A n gs) (hb : Below w.heap.size w w') : SgAt w' A n gs :=
  ⟨h.1, fun hn => by
    obtain ⟨b, o, e, hlt, hx⟩ := h.2.1 hn
    exact ⟨b, o, e, Nat.lt_of_lt_of_le hlt hb.size, fun j g hj => (World.cell?_of_block (hb.block b hlt)).trans (hx j g hj)⟩, fun g hg => ⟨(h.2.2 g hg).1.below hb, (h.2.2 g hg).2⟩⟩

theorem SgAt.at {w : World} {A : Option Addr} {n k : Nat} {gs : List Sg} (h : SgAt w A n gs) (hk : k < n) : ∃ b o g, A = some ⟨b, o, none⟩ ∧ gs[k]? = some g ∧ w.cell? ⟨b, o + k, none⟩ = some (.slice g.A g.n g.c) ∧ Lies w g.A g.n (g.s.map (Value.int .i64)) ∧ g.n ≤ g.c ∧ g.n ≤ 4 := by
  obtain ⟨b, o, e, _, hx⟩ := h.2.1 (by omega)
  obtain ⟨g, hg⟩ : ∃ g, gs[k]? = some g := ⟨gs[k]'(by rw [h.1]; exact hk), List.getElem?_eq_getElem (by rw [h.1]; exact hk)⟩
  exact ⟨b, o, g, e, hg, hx k g hg, h.2.2 g (List.mem_of_getElem? hg)⟩

/-- The shapes that are known lie in the block p. -/
def KnAt (w : World) (p : Nat) (A : Option Addr) (n c : Nat) (gs : List Sg) : Prop := w.heap[p]? = some (.cells #[.slice A n c] 62 (0, 0)) ∧ SgAt w A n gs

theorem KnAt.lt {w : World} {p : Nat} {A : Option Addr} {n c : Nat} {gs : List Sg} (h : KnAt w p A n c gs) : p < w.heap.size := lt_of_heap h.1

theorem KnAt.below {w w' : World} {p : Nat} {A : Option Addr} {n c : Nat} {gs : List Sg} (h : KnAt w p A n c gs) (hb : Below w.heap.size w w') : KnAt w' p A n c gs := ⟨(hb.block p h.lt).trans h.1, h.2.below hb⟩

theorem KnAt.c0 {w : World} {p : Nat} {A : Option Addr} {n c : Nat} {gs : List Sg} (h : KnAt w p A n c gs) : w.cell? ⟨p, 0, none⟩ = some (.slice A n c) := cell_of_row _ _ 0 _ _ (0, 0) h.1

/-- Are all nodes that are taken in known? -/
def allKn (xs : List Int) (n : Nat) : Bool := xs.all (fun z => decide (0 ≤ z) && decide (z < (n : Int)))

set_option maxHeartbeats 2000000 in
theorem have_any (p : Nat) (A B : Option Addr) (n c m d : Nat) (gs : List Sg) (xs : List Int) (w : World) (hK : KnAt w p A n c gs) (hB : Lies w B m (xs.map (Value.int .i64))) (hm : m ≤ 281474976710656) :
    Calls Try.prog 31 #[.pointer (some ⟨p, 0, none⟩), .slice B m d] w fun e w' => e = .returned (.bool (allKn xs n)) ∧ Below w.heap.size w w' := by
  have HL : Hid (xs.length = m) := hide (lies_len9 hB)
  have HB := hide hB
  have c0 := hK.c0
  obtain ⟨R, hR⟩ : ∃ z, z = allKn xs n := ⟨_, rfl⟩
  rw [← hR]
  have HR := hide hR
  clear hB hR hK
  go_enter Try.func31, Try.ntmps31
  go_wp2
  go_loop [9] (fun i => ∃ k : Nat, k ≤ m ∧ i = .int .i64 k ∧ Hid (∀ j, j < k → 0 ≤ xs.getD j 0 ∧ xs.getD j 0 < (n : Int))) (fun i => m - (intOf i).toNat)
  case atStart => exact ⟨0, Nat.zero_le _, rfl, hide (fun j hj => absurd hj (by omega))⟩
  case round =>
    obtain ⟨k, hk, rfl, HP⟩ := hrel
    by_cases hlt : k < m
    · obtain ⟨b, o, rfl, _, hx⟩ := byte_at HB.out (by omega)
      have hc := hx k hlt
      obtain ⟨x, hxe⟩ : ∃ x, x = xs.getD k 0 := ⟨_, rfl⟩
      rw [← hxe] at hc
      have HX := hide hxe
      clear hx hxe
      have f0 : (0 : Int) ≤ (k : Int) := by omega
      have f1 : (k : Int) < (m : Int) := by omega
      have HNO : Hid (¬ (0 ≤ x ∧ x < (n : Int)) → R = false) := hide (fun h => by
        rw [HR.out, allKn]
        refine List.all_eq_false.2 ⟨x, ?_, by simpa using h⟩
        have hkl : k < xs.length := by rw [HL.out]; exact hlt
        have : x = xs[k] := by rw [HX.out]; simp [List.getD, hkl]
        rw [this]
        exact List.getElem_mem hkl)
      by_cases h1 : x < 0
      · obtain rfl : R = false := HNO.out (fun h => by omega)
        go_wp2
        go_ret
        exact ⟨rfl, Below.refl _ _⟩
      · by_cases h2 : (n : Int) ≤ x
        · obtain rfl : R = false := HNO.out (fun h => by omega)
          go_wp2
          go_ret
          exact ⟨rfl, Below.refl _ _⟩
        · have HP2 : Hid (∀ j, j < k + 1 → 0 ≤ xs.getD j 0 ∧ xs.getD j 0 < (n : Int)) := hide (fun j hj => by
            by_cases e : j = k
            · rw [e, ← HX.out]; omega
            · exact HP.out j (by omega))
          clear HNO
          go_wp2
          go_round
          case rel => exact ⟨k + 1, by omega, by go_num, HP2⟩
          case measure => simp [intOf] <;> omega
    · obtain rfl : k = m := by omega
      obtain rfl : R = true := by
        rw [HR.out, allKn]
        refine List.all_eq_true.2 fun z hz => ?_
        obtain ⟨j, hj, e⟩ := List.getElem_of_mem hz
        have := HP.out j (by rw [← HL.out]; exact hj)
        have e2 : xs.getD j 0 = z := by simp [List.getD, hj, e]
        rw [e2] at this
        simp [this]
      have f1 : ¬ ((k : Int) < (k : Int)) := by omega
      go_wp2
      go_ret
      exact ⟨rfl, Below.refl _ _⟩

end

section
open Go.RowKit
set_option linter.unusedVariables false
set_option linter.unusedSimpArgs false

/-- What the first k places of the row i of l and the column j of l' come to; rows of l have K numbers, those of l' n. -/
def dotN (l l' : List Int) (K n i j : Nat) : Nat → Int
  | 0 => 0
  | p + 1 => add32 (dotN l l' K n i j p) (mul32 (l.getD (i * K + p) 0) (l'.getD (p * n + j) 0))

/-- The numbers of a product: M rows, n columns, K places between. -/
def prodL (l l' : List Int) (M K n : Nat) : List Int := (List.range (M * n)).map fun q => dotN l l' K n (q / n) (q % n) K

def sm (f : Nat → Int) : Nat → Int
  | 0 => 0
  | k + 1 => sm f k + f k

theorem w32_add (a b : Int) : wrap32 (wrap32 a + b) = wrap32 (a + b) := by unfold wrap32; omega

theorem w32_add' (a b : Int) : wrap32 (a + wrap32 b) = wrap32 (a + b) := by unfold wrap32; omega

theorem w32_mul (a b : Int) : wrap32 (wrap32 a * b) = wrap32 (a * b) := by
  obtain ⟨k, hk⟩ := wrap32_some a
  rw [hk, Int.add_mul, Int.mul_assoc, wrap32_more]

theorem w32_mul' (a b : Int) : wrap32 (a * wrap32 b) = wrap32 (a * b) := by rw [Int.mul_comm, w32_mul, Int.mul_comm]

theorem w32_both {a b c d : Int} (h1 : wrap32 a = wrap32 c) (h2 : wrap32 b = wrap32 d) : wrap32 (a + b) = wrap32 (c + d) := by
  rw [← w32_add, h1, w32_add, ← w32_add', h2, w32_add']

theorem w32_w32 (a : Int) : wrap32 (wrap32 a) = wrap32 a := by unfold wrap32; omega

theorem sm_congr {f g : Nat → Int} : ∀ {k : Nat}, (∀ p, p < k → f p = g p) → sm f k = sm g k
  | 0, _ => rfl
  | k + 1, h => by rw [sm, sm, sm_congr fun p hp => h p (by omega), h k (by omega)]

theorem sm_wrap {f g : Nat → Int} : ∀ {k : Nat}, (∀ p, p < k → wrap32 (f p) = wrap32 (g p)) → wrap32 (sm f k) = wrap32 (sm g k)
  | 0, _ => rfl
  | k + 1, h => by rw [sm, sm]; exact w32_both (sm_wrap fun p hp => h p (by omega)) (h k (by omega))

theorem sm_add (f g : Nat → Int) : ∀ k, sm (fun p => f p + g p) k = sm f k + sm g k
  | 0 => rfl
  | k + 1 => by rw [sm, sm, sm, sm_add f g k]; omega

theorem sm_mul (c : Int) (f : Nat → Int) : ∀ k, sm (fun p => c * f p) k = c * sm f k
  | 0 => by simp [sm]
  | k + 1 => by rw [sm, sm, sm_mul c f k, Int.mul_add]

theorem sm_mul' (c : Int) (f : Nat → Int) (k : Nat) : sm (fun p => f p * c) k = sm f k * c := by
  rw [Int.mul_comm, ← sm_mul]; exact sm_congr fun p _ => Int.mul_comm _ _

theorem sm_zero {f : Nat → Int} : ∀ {k : Nat}, (∀ p, p < k → f p = 0) → sm f k = 0
  | 0, _ => rfl
  | k + 1, h => by rw [sm, sm_zero fun p hp => h p (by omega), h k (by omega)]; rfl

theorem sm_swap (f : Nat → Nat → Int) (k : Nat) : ∀ m, sm (fun p => sm (fun q => f p q) k) m = sm (fun q => sm (fun p => f p q) m) k
  | 0 => by simp only [sm]; exact (sm_zero fun _ _ => rfl).symm
  | m + 1 => by
    rw [sm, sm_swap f k m, ← sm_add]
    exact sm_congr fun q _ => rfl

theorem sm_one {f : Nat → Int} {i : Nat} : ∀ {k : Nat}, i < k → (∀ p, p < k → p ≠ i → f p = 0) → sm f k = f i
  | k + 1, hi, h => by
    rw [sm]
    by_cases e : i = k
    · subst e; rw [sm_zero fun p hp => h p (by omega) (by omega)]; omega
    · rw [sm_one (k := k) (by omega) fun p hp hne => h p (by omega) hne, h k (by omega) (by omega)]; omega

theorem dotN_sm (l l' : List Int) (K n i j : Nat) : ∀ k, dotN l l' K n i j k = wrap32 (sm (fun p => l.getD (i * K + p) 0 * l'.getD (p * n + j) 0) k)
  | 0 => by simp [dotN, sm, wrap32]
  | k + 1 => by rw [dotN, dotN_sm l l' K n i j k, sm]; unfold add32 mul32; rw [w32_add, w32_add']

theorem dotN_range (l l' : List Int) (K n i j k : Nat) : -2147483648 ≤ dotN l l' K n i j k ∧ dotN l l' K n i j k < 2147483648 := by rw [dotN_sm]; exact wrap32_range _

theorem prodL_len (l l' : List Int) (M K n : Nat) : (prodL l l' M K n).length = M * n := by simp [prodL]

theorem place_lt {M n i j : Nat} (hi : i < M) (hj : j < n) : i * n + j < M * n := by
  have h : i * n + n ≤ M * n := by rw [← Nat.succ_mul]; exact Nat.mul_le_mul_right n hi
  omega

theorem prodL_at {l l' : List Int} {M K n i j : Nat} (hi : i < M) (hj : j < n) : (prodL l l' M K n).getD (i * n + j) 0 = dotN l l' K n i j K := by
  have h := place_lt hi hj
  have h1 : (i * n + j) / n = i := by rw [Nat.mul_comm, Nat.mul_add_div (by omega), Nat.div_eq_of_lt hj]; omega
  have h2 : (i * n + j) % n = j := by rw [Nat.mul_comm, Nat.mul_add_mod, Nat.mod_eq_of_lt hj]
  simp [prodL, List.getD, h, h1, h2]

theorem prodL_words (l l' : List Int) (M K n : Nat) : ∀ z ∈ prodL l l' M K n, -2147483648 ≤ z ∧ z < 2147483648 := by
  intro z hz
  simp only [prodL, List.mem_map] at hz
  obtain ⟨q, _, rfl⟩ := hz
  exact dotN_range _ _ _ _ _ _ _

/-- Two lists of M * n numbers are one if they are so at each row and column. -/
theorem ext_rows {x y : List Int} {M n : Nat} (hx : x.length = M * n) (hy : y.length = M * n) (h : ∀ i j, i < M → j < n → x.getD (i * n + j) 0 = y.getD (i * n + j) 0) : x = y := by
  apply List.ext_getElem (by rw [hx, hy])
  intro q h1 h2
  rw [hx] at h1
  have hn : 0 < n := by
    rcases Nat.eq_zero_or_pos n with e | e
    · subst e; simp at h1
    · exact e
  have e1 : q / n < M := Nat.div_lt_of_lt_mul (by rw [Nat.mul_comm]; exact h1)
  have e2 : q % n < n := Nat.mod_lt _ hn
  have e3 : q / n * n + q % n = q := by rw [Nat.mul_comm]; exact Nat.div_add_mod q n
  have := h _ _ e1 e2
  rw [e3] at this
  simpa [List.getD, hx, hy, h1] using this

theorem prod_three (a b c : List Int) (M K L n : Nat) : prodL (prodL a b M K L) c M L n = prodL a (prodL b c K L n) M K n := by
  refine ext_rows (prodL_len _ _ _ _ _) (prodL_len _ _ _ _ _) fun i j hi hj => ?_
  rw [prodL_at hi hj, prodL_at hi hj, dotN_sm, dotN_sm]
  have h1 : wrap32 (sm (fun q => (prodL a b M K L).getD (i * L + q) 0 * c.getD (q * n + j) 0) L) = wrap32 (sm (fun q => sm (fun p => a.getD (i * K + p) 0 * b.getD (p * L + q) 0 * c.getD (q * n + j) 0) K) L) :=
    sm_wrap fun q hq => by rw [prodL_at hi hq, dotN_sm, w32_mul, ← sm_mul']
  have h2 : wrap32 (sm (fun p => a.getD (i * K + p) 0 * (prodL b c K L n).getD (p * n + j) 0) K) = wrap32 (sm (fun p => sm (fun q => a.getD (i * K + p) 0 * b.getD (p * L + q) 0 * c.getD (q * n + j) 0) L) K) :=
    sm_wrap fun p hp => by
      rw [prodL_at hp hj, dotN_sm, w32_mul', ← sm_mul]
      exact congrArg wrap32 (sm_congr fun q _ => (Int.mul_assoc _ _ _).symm)
  rw [h1, h2, sm_swap]

theorem zip_at {f : Int → Int → Int} {a b : List Int} {q : Nat} (h1 : q < a.length) (h2 : q < b.length) : (List.zipWith f a b).getD q 0 = f (a.getD q 0) (b.getD q 0) := by
  simp [List.getD, List.getElem?_zipWith, h1, h2]

theorem prod_left {a b : List Int} (c : List Int) {M K : Nat} (n : Nat) (ha : a.length = M * K) (hb : b.length = M * K) : prodL (List.zipWith add32 a b) c M K n = List.zipWith add32 (prodL a c M K n) (prodL b c M K n) := by
  refine ext_rows (prodL_len _ _ _ _ _) (by simp [prodL_len]) fun i j hi hj => ?_
  have hq := place_lt hi hj
  rw [prodL_at hi hj, zip_at (by rw [prodL_len]; exact hq) (by rw [prodL_len]; exact hq), prodL_at hi hj, prodL_at hi hj, dotN_sm, dotN_sm, dotN_sm]
  unfold add32
  rw [w32_add, w32_add', ← sm_add]
  refine sm_wrap fun p hp => ?_
  have hz := place_lt hi hp
  rw [zip_at (by omega) (by omega), w32_mul, Int.add_mul]

theorem prod_right (a : List Int) {c x : List Int} (M : Nat) {K n : Nat} (hc : c.length = K * n) (hx : x.length = K * n) : prodL a (List.zipWith add32 c x) M K n = List.zipWith add32 (prodL a c M K n) (prodL a x M K n) := by
  refine ext_rows (prodL_len _ _ _ _ _) (by simp [prodL_len]) fun i j hi hj => ?_
  have hq := place_lt hi hj
  rw [prodL_at hi hj, zip_at (by rw [prodL_len]; exact hq) (by rw [prodL_len]; exact hq), prodL_at hi hj, prodL_at hi hj, dotN_sm, dotN_sm, dotN_sm]
  unfold add32
  rw [w32_add, w32_add', ← sm_add]
  refine sm_wrap fun p hp => ?_
  have hz := place_lt hp hj
  rw [zip_at (by omega) (by omega), w32_mul', Int.mul_add]

/-- Ones where both directions are the same, as far as k rows are done. -/
def oneTo (n k : Nat) : List Int := (List.range (n * n)).map fun q => if q / n < k ∧ q / n = q % n then 1 else 0

theorem oneTo_len (n k : Nat) : (oneTo n k).length = n * n := by simp [oneTo]

theorem oneTo_none (n : Nat) : oneTo n 0 = List.replicate (n * n) 0 := by
  apply List.ext_getElem <;> simp [oneTo]

theorem oneTo_at {n k i j : Nat} (hi : i < n) (hj : j < n) : (oneTo n k).getD (i * n + j) 0 = if i < k ∧ i = j then 1 else 0 := by
  have h := place_lt hi hj
  have h1 : (i * n + j) / n = i := by rw [Nat.mul_comm, Nat.mul_add_div (by omega), Nat.div_eq_of_lt hj]; omega
  have h2 : (i * n + j) % n = j := by rw [Nat.mul_comm, Nat.mul_add_mod, Nat.mod_eq_of_lt hj]
  simp [oneTo, List.getD, h, h1, h2]

theorem oneTo_set {n k : Nat} (hk : k < n) : (oneTo n k).set (k * n + k) 1 = oneTo n (k + 1) := by
  have hl := place_lt hk hk
  refine ext_rows (M := n) (n := n) (by simp [oneTo_len]) (oneTo_len _ _) fun i j hi hj => ?_
  rw [oneTo_at hi hj]
  by_cases e : i = k ∧ j = k
  · obtain ⟨rfl, rfl⟩ := e
    rw [if_pos ⟨by omega, rfl⟩]
    simp [List.getD, oneTo_len, hl]
  · have hne : k * n + k ≠ i * n + j := by
      intro h
      have h1 : (k * n + k) / n = k := by rw [Nat.mul_comm, Nat.mul_add_div (by omega), Nat.div_eq_of_lt hk]; omega
      have h2 : (i * n + j) / n = i := by rw [Nat.mul_comm, Nat.mul_add_div (by omega), Nat.div_eq_of_lt hj]; omega
      rw [h, h2] at h1
      subst h1
      exact e ⟨rfl, by omega⟩
    have h := oneTo_at (k := k) hi hj
    rw [List.getD_eq_getElem?_getD] at h ⊢
    rw [List.getElem?_set_ne hne, h]
    by_cases c : i = j
    · subst c
      have : i ≠ k := fun c => e ⟨c, c⟩
      by_cases d : i < k
      · rw [if_pos ⟨d, rfl⟩, if_pos ⟨by omega, rfl⟩]
      · rw [if_neg fun x => d x.1, if_neg fun x => by omega]
    · rw [if_neg fun x => c x.2, if_neg fun x => c x.2]

theorem prod_one_left {t : List Int} {m n : Nat} (ht : t.length = m * n) (hw : ∀ z ∈ t, -2147483648 ≤ z ∧ z < 2147483648) : prodL (oneTo m m) t m m n = t := by
  refine ext_rows (prodL_len _ _ _ _ _) ht fun i j hi hj => ?_
  have hq := place_lt hi hj
  rw [prodL_at hi hj, dotN_sm, sm_one hi fun p hp hne => by rw [oneTo_at hi hp, if_neg fun x => hne x.2.symm, Int.zero_mul], oneTo_at hi hi, if_pos ⟨hi, rfl⟩, Int.one_mul]
  refine wrap32_id (hw _ ?_)
  rw [List.getD_eq_getElem?_getD, List.getElem?_eq_getElem (by omega)]
  exact List.getElem_mem _

theorem prod_one_right {t : List Int} {m n : Nat} (ht : t.length = m * n) (hw : ∀ z ∈ t, -2147483648 ≤ z ∧ z < 2147483648) : prodL t (oneTo n n) m n n = t := by
  refine ext_rows (prodL_len _ _ _ _ _) ht fun i j hi hj => ?_
  have hq := place_lt hi hj
  rw [prodL_at hi hj, dotN_sm, sm_one hj fun p hp hne => by rw [oneTo_at hp hj, if_neg fun x => hne x.2, Int.mul_zero], oneTo_at hj hj, if_pos ⟨hj, rfl⟩, Int.mul_one]
  refine wrap32_id (hw _ ?_)
  rw [List.getD_eq_getElem?_getD, List.getElem?_eq_getElem (by omega)]
  exact List.getElem_mem _

theorem prod_noughts (t : List Int) (m n k q : Nat) : prodL t (List.replicate q 0) m n k = List.replicate (m * k) 0 := by
  refine ext_rows (prodL_len _ _ _ _ _) (by simp) fun i j hi hj => ?_
  rw [prodL_at hi hj, dotN_sm, sm_zero fun p hp => ?_]
  · have := place_lt hi hj
    simp [List.getD, this, wrap32]
  · have : (List.replicate q (0 : Int)).getD (p * k + j) 0 = 0 := by
      rw [List.getD_eq_getElem?_getD, List.getElem?_replicate]; split <;> rfl
    rw [this, Int.mul_zero]

/-- The sum of the squares of the first k numbers. -/
def sqN (t : List Int) : Nat → Int
  | 0 => 0
  | p + 1 => add32 (sqN t p) (mul32 (t.getD p 0) (t.getD p 0))

theorem sqN_dot (t : List Int) (K : Nat) : ∀ k, dotN t t K 1 0 0 k = sqN t k
  | 0 => rfl
  | k + 1 => by rw [dotN, sqN, sqN_dot t K k]; simp

theorem prod_square {t : List Int} {k : Nat} : prodL t t 1 k 1 = [sqN t k] := by
  refine ext_rows (M := 1) (n := 1) (prodL_len _ _ _ _ _) rfl fun i j hi hj => ?_
  obtain rfl : i = 0 := by omega
  obtain rfl : j = 0 := by omega
  rw [prodL_at hi hj, sqN_dot]
  rfl

end

section
open Go.RowKit
set_option linter.unusedVariables false
set_option linter.unusedSimpArgs false
set_option maxRecDepth 100000

theorem setCell_self (w : World) (a : Addr) (u : Value) : w.grownBy (w.setCell a u) (some a.block) := grown_cell6 w a u

end

end Go.Proofs.Yteagmlaahnpkhaa
