/- Merged: Gr2, Pm7, Pr1. -/
import Derived.Test.YtohndckbhjakfaaGreatDoorWZ11
import Derived.Test.YtohndckbhjakfaaGreatDoorWZ10
import Derived.Test.YtohndckbhjakfaaGreatDoorWZ08
import Derived.Deep.QuietTactic
import Derived.BigQuiet
namespace Go.Proofs.YtohndckbhjakfaaGreatDoor

section
open Go.RowKit
set_option linter.unusedVariables false
set_option linter.unusedSimpArgs false
set_option maxRecDepth 100000

/-- The indices of the weights. -/
def wtF : Nat → List Nd → List Int
  | _, [] => []
  | i, x :: r => if x.kd = 2 then (i : Int) :: wtF (i + 1) r else wtF (i + 1) r

theorem wtF_snoc : ∀ (i : Nat) (us : List Nd) (x : Nd), wtF i (us ++ [x]) = wtF i us ++ (if x.kd = 2 then [((i + us.length : Nat) : Int)] else [])
  | i, [], x => by simp only [List.nil_append, wtF, List.length_nil, Nat.add_zero]
  | i, y :: r, x => by
    have e : i + (y :: r).length = i + 1 + r.length := by simp; omega
    rw [List.cons_append, wtF, wtF, wtF_snoc (i + 1) r x, e]
    split
    · rfl
    · rfl

theorem take_oneN {ns : List Nd} {k : Nat} {x : Nd} (h : ns[k]? = some x) : ns.take (k + 1) = ns.take k ++ [x] := by
  obtain ⟨h1, h2⟩ := List.getElem?_eq_some_iff.1 h
  rw [List.take_succ_eq_append_getElem h1, h2]

set_option maxHeartbeats 2000000 in
theorem weights_any (A : Option Addr) (n c : Nat) (ns : List Nd) (w : World) (h : NsIn w A n ns) (hn : n ≤ 1073741824) :
    Calls Tryz.prog 10 #[.agg #[.slice A n c]] w fun e w' => ∃ A' k' c', e = .returned (.slice A' k' c') ∧ w'.ownsRow w.heap.size 3 1 (.slice A' k' c') k' ((wtF 0 ns).map (Value.int .i64)) ∧ Below w.heap.size w w' := by
  obtain ⟨W0, hW0⟩ : ∃ W0, W0 = w.alloc (.cells #[.slice A n c] 24) := ⟨_, rfl⟩
  have HB0 : Hid (Below w.heap.size w W0) := hide (by rw [hW0]; exact below_al6 (Below.refl _ _))
  have c0 : W0.cell? ⟨w.heap.size, 0, none⟩ = some (.slice A n c) := by rw [hW0]; exact cell_of_row _ _ 0 _ _ (0, 0) (heap_alloc_new w _)
  have HN := hide h
  have hW0' := hW0.symm
  clear hW0 h
  obtain ⟨i0, hi, hz0, hz1, hz2⟩ := info_parts Tryz.infoI
  have HI := hide hi
  have HZ0 := hide hz0
  have HZ1 := hide hz1
  have HZ2 := hide hz2
  clear hi hz0 hz1 hz2
  go_enter Tryz.func10, Tryz.ntmps10
  go_wp2
  clear c0
  go_loopw [3, 9] (fun v i wr => ∃ (k m : Nat) (A2 : Option Addr) (c2 : Nat), k ≤ n ∧ m ≤ k ∧ i = .int .i64 k ∧ v = .slice A2 m c2 ∧ Hid (wr.ownsRow w.heap.size 3 1 (.slice A2 m c2) m ((wtF 0 (ns.take k)).map (Value.int .i64))) ∧ Hid (Below w.heap.size w wr)) (fun _ i _ => n - (intOf i).toNat)
  case atStart => exact ⟨0, 0, none, 0, Nat.zero_le _, Nat.le_refl _, rfl, rfl, hide (by simpa [wtF] using World.ownsRow_nil _ _ _ _), HB0⟩
  case round =>
    obtain ⟨k, m, A2, c2, hk, hmk, rfl, rfl, HR, HB⟩ := hrel
    by_cases hlt : k < n
    · obtain ⟨b, o, x, rfl, hxk, h0, h1, h2, h3, h4, _⟩ := (HN.out.below HB.out).at hlt
      have HT : Hid (ns.take (k + 1) = ns.take k ++ [x]) := hide (take_oneN hxk)
      have HL : Hid ((ns.take k).length = k) := hide (by rw [List.length_take, HN.out.1]; omega)
      have f0 : (0 : Int) ≤ (k : Int) := by omega
      have f1 : (k : Int) < (n : Int) := by omega
      obtain ⟨W1, hW1⟩ : ∃ W1, W1 = wr.alloc (.cells #[.int .u8 x.kd, .slice x.I x.ni x.ci, .slice x.S x.ns x.cs, .int .i64 x.N, .int .i64 x.P] 44) := ⟨_, rfl⟩
      have hsr := HB.out.size
      have HB1 : Hid (Below w.heap.size w W1) := hide (by rw [hW1]; exact HB.out.alloc hsr _)
      have q0 : W1.cell? ⟨wr.heap.size, 0, none⟩ = some (.int .u8 x.kd) := by rw [hW1]; exact cell_of_row _ _ 0 _ _ (0, 0) (heap_alloc_new wr _)
      have HR1 : Hid (W1.ownsRow w.heap.size 3 1 (.slice A2 m c2) m ((wtF 0 (ns.take k)).map (Value.int .i64))) := hide (by rw [hW1]; exact HR.out.alloc _)
      have hs1 := HB1.out.size
      have hW1' := hW1.symm
      clear hW1 hxk
      by_cases hx : x.kd = 2
      · have HF : Hid (wtF 0 (ns.take (k + 1)) = wtF 0 (ns.take k) ++ [(k : Int)]) := hide (by rw [HT.out, wtF_snoc, if_pos hx, HL.out, Nat.zero_add])
        have g1 : (x.kd == 2) = true := by simpa using hx
        clear hx
        have HX3 : Hid ((W1.alloc (.cells #[.int .i64 (k : Int)] 3)).cell? ⟨W1.heap.size, 0, none⟩ = some (.int .i64 (k : Int))) := hide (by have h := cells_new W1 [.int .i64 (k : Int)] 3 0 _ rfl; rwa [Addr.add_lit] at h)
        go_wp2_with (at_builtin; with_reducible refine wpList_append_one rfl (.tmp 17) (.tmp 19) 35 rfl 3 i0 (.int .i64 0) 8 Tryz.underlying35 HI.out HZ0.out HZ1.out HZ2.out rfl w.heap.size A2 m c2 ((wtF 0 (ns.take k)).map (Value.int .i64)) rfl (HR1.out.alloc _) (Nat.le_trans hs1 (by simp)) ⟨W1.heap.size, 0, none⟩ (.int .i64 (k : Int)) rfl HX3.out rfl (by omega) (by unfold maxLen; omega) ?_)
        intro A3 c3 w3 ho3 hm3
        have HR3 : Hid (w3.ownsRow w.heap.size 3 1 (.slice A3 (m + 1) c3) (m + 1) ((wtF 0 (ns.take (k + 1))).map (Value.int .i64))) := hide (by
          rw [HF.out, List.map_append]
          exact ho3)
        have HB3 := hide (below_moved (HB1.out.alloc hs1 (.cells #[.int .i64 (k : Int)] 3)) (Nat.le_trans hs1 (by simp)) (HR1.out.alloc _) hm3)
        clear ho3 hm3 HR HR1 HB HB1 HX3 h0 h1 h2 h3 h4 q0 HF
        go_wp2
        go_roundw
        case rel => exact ⟨k + 1, m + 1, A3, c3, by omega, by omega, by go_num, rfl, HR3, HB3⟩
        case measure => simp [intOf] <;> omega
      · have HF : Hid (wtF 0 (ns.take (k + 1)) = wtF 0 (ns.take k)) := hide (by rw [HT.out, wtF_snoc, if_neg hx, List.append_nil])
        have g1 : (x.kd == 2) = false := by simpa using hx
        clear hx
        go_wp2
        go_roundw
        case rel => exact ⟨k + 1, m, A2, c2, by omega, by omega, by go_num, rfl, by rw [HF.out]; exact HR1, HB1⟩
        case measure => simp [intOf] <;> omega
    · obtain rfl : k = n := by omega
      have hall : ns.take k = ns := List.take_of_length_le (by rw [HN.out.1]; exact Nat.le_refl _)
      have h9 := HR.out
      rw [hall] at h9
      have HRF := hide h9
      have f1 : ¬ ((k : Int) < (k : Int)) := by omega
      clear h9 HR hall
      go_wp2
      go_ret
      exact ⟨A2, m, c2, rfl, HRF.out, HB.out⟩

set_option maxHeartbeats 1000000 in
theorem span_any (a b z : Int) (w : World) :
    Calls Tryz.prog 99 #[.agg #[.int .i64 a, .int .i64 b], .int .i64 z] w fun e w' => e = .returned (.bool (decide (a ≤ z ∧ z ≤ b))) ∧ Below w.heap.size w w' := by
  obtain ⟨W0, hW0⟩ : ∃ W0, W0 = w.alloc (.cells #[.int .i64 a, .int .i64 b] 117) := ⟨_, rfl⟩
  have HB0 : Hid (Below w.heap.size w W0) := hide (by rw [hW0]; exact below_al6 (Below.refl _ _))
  have c0 : W0.cell? ⟨w.heap.size, 0, none⟩ = some (.int .i64 a) := by rw [hW0]; exact cell_of_row _ _ 0 _ _ (0, 0) (heap_alloc_new w _)
  have c1 : W0.cell? ⟨w.heap.size, 1, none⟩ = some (.int .i64 b) := by rw [hW0]; exact cell_of_row _ _ 1 _ _ (0, 0) (heap_alloc_new w _)
  have hW0' := hW0.symm
  clear hW0
  obtain ⟨R, hR⟩ : ∃ y, y = decide (a ≤ z ∧ z ≤ b) := ⟨_, rfl⟩
  rw [← hR]
  go_enter Tryz.func99, Tryz.ntmps99
  by_cases h1 : a ≤ z
  · by_cases h2 : z ≤ b
    · obtain rfl : R = true := by rw [hR]; exact decide_eq_true ⟨h1, h2⟩
      clear hR
      go_wp2
      go_ret
      exact ⟨rfl, HB0.out⟩
    · obtain rfl : R = false := by rw [hR]; exact decide_eq_false (fun h => h2 h.2)
      clear hR
      go_wp2
      go_ret
      exact ⟨rfl, HB0.out⟩
  · obtain rfl : R = false := by rw [hR]; exact decide_eq_false (fun h => h1 h.1)
    clear hR
    go_wp2
    go_ret
    exact ⟨rfl, HB0.out⟩

/-- Is a list an order? -/
def isOrd (u : List Int) : Bool := decide (1 ≤ u.length ∧ u.length ≤ 4) && ordOk u u.length

set_option maxHeartbeats 2000000 in
theorem isOrder_any (A : Option Addr) (n c : Nat) (u : List Int) (w : World) (hA : Lies w A n (u.map (Value.int .i64))) (hn : n ≤ 281474976710656) :
    Calls Tryz.prog 95 #[.slice A n c] w fun e w' => e = .returned (.bool (isOrd u)) ∧ Below w.heap.size w w' := by
  have HL : Hid (u.length = n) := hide (lies_len9 hA)
  have HA := hide hA
  obtain ⟨R, hR⟩ : ∃ z, z = isOrd u := ⟨_, rfl⟩
  rw [← hR]
  have HR := hide hR
  clear hA hR
  go_enter Tryz.func95, Tryz.ntmps95
  by_cases h1 : n < 1
  · obtain rfl : R = false := by rw [HR.out, isOrd, decide_eq_false (by rw [HL.out]; omega)]; rfl
    have f1 : (n : Int) < 1 := by omega
    go_wp2
    go_ret
    exact ⟨rfl, Below.refl _ _⟩
  have f1 : ¬ ((n : Int) < 1) := by omega
  by_cases h4 : 4 < n
  · obtain rfl : R = false := by rw [HR.out, isOrd, decide_eq_false (by rw [HL.out]; omega)]; rfl
    have f2 : (4 : Int) < (n : Int) := by omega
    go_wp2
    go_ret
    exact ⟨rfl, Below.refl _ _⟩
  have f2 : ¬ ((4 : Int) < (n : Int)) := by omega
  go_wp2
  clear f1 f2
  go_loopw [14] (fun i wr => ∃ k : Nat, k ≤ n ∧ i = .int .i64 k ∧ Hid (∀ d, d < k → (d : Int) ∈ u) ∧ Hid (Below w.heap.size w wr)) (fun i _ => n - (intOf i).toNat)
  case atStart => exact ⟨0, Nat.zero_le _, rfl, hide (fun d hd => absurd hd (by omega)), hide (Below.refl _ _)⟩
  case round =>
    obtain ⟨k, hk, rfl, HP, HB⟩ := hrel
    by_cases hlt : k < n
    · have f1 : (k : Int) < (n : Int) := by omega
      go_wp2_with fail
      refine Calls.mono (contains_ints A n c u (k : Int) _ (HA.out.below HB.out) hn) ?_
      rintro e w1 ⟨rfl, hb⟩
      have HB1 := hide (below_nx6 HB.out hb)
      clear hb
      by_cases hx : (k : Int) ∈ u
      · have HP2 : Hid (∀ d, d < k + 1 → (d : Int) ∈ u) := hide (fun d hd => by
          by_cases e : d = k
          · rw [e]; exact hx
          · exact HP.out d (by omega))
        rw [decide_eq_true hx]
        go_wp2
        go_roundw
        case rel => exact ⟨k + 1, by omega, by go_num, HP2, HB1⟩
        case measure => simp [intOf] <;> omega
      · obtain rfl : R = false := by
          rw [HR.out, isOrd]
          cases h : ordOk u u.length with
          | false => simp
          | true => exact absurd ((ordOk_iff.1 h).2 k (by rw [HL.out]; exact hlt)) hx
        rw [decide_eq_false hx]
        go_wp2
        go_ret
        exact ⟨rfl, HB1.out⟩
    · obtain rfl : k = n := by omega
      obtain rfl : R = true := by
        have h9 : ordOk u u.length = true := ordOk_iff.2 ⟨rfl, by rw [HL.out]; exact HP.out⟩
        rw [HR.out, isOrd, h9, decide_eq_true (by rw [HL.out]; omega)]
        rfl
      have f1 : ¬ ((k : Int) < (k : Int)) := by omega
      go_wp2
      go_ret
      exact ⟨rfl, HB.out⟩

/-- A shape as it lies in a list of shapes. -/
structure Sg where
  A : Option Addr
  n : Nat
  c : Nat
  s : List Int

/-- A list of shapes lies there. -/
def SgAt (w : World) (A : Option Addr) (n : Nat) (gs : List Sg) : Prop := gs.length = n ∧ (1 ≤ n → ∃ b o, A = some ⟨b, o, none⟩ ∧ b < w.heap.size ∧ ∀ j g, gs[j]? = some g → w.cell? ⟨b, o + j, none⟩ = some (.slice g.A g.n g.c)) ∧ ∀ g ∈ gs, Lies w g.A g.n (g.s.map (Value.int .i64)) ∧ g.n ≤ g.c ∧ g.n ≤ 4

theorem SgAt.below {w w' : World} {A : Option Addr} {n : Nat} {gs : List Sg} (h : SgAt w A n gs) (hb : Below w.heap.size w w') : SgAt w' A n gs :=
  ⟨h.1, fun hn => by
    obtain ⟨b, o, e, hlt, hx⟩ := h.2.1 hn
    exact ⟨b, o, e, Nat.lt_of_lt_of_le hlt hb.size, fun j g hj => (World.cell?_of_block (hb.block b hlt)).trans (hx j g hj)⟩, fun g hg => ⟨(h.2.2 g hg).1.below hb, (h.2.2 g hg).2⟩⟩

theorem SgAt.at {w : World} {A : Option Addr} {n k : Nat} {gs : List Sg} (h : SgAt w A n gs) (hk : k < n) : ∃ b o g, A = some ⟨b, o, none⟩ ∧ gs[k]? = some g ∧ w.cell? ⟨b, o + k, none⟩ = some (.slice g.A g.n g.c) ∧ Lies w g.A g.n (g.s.map (Value.int .i64)) ∧ g.n ≤ g.c ∧ g.n ≤ 4 := by
  obtain ⟨b, o, e, _, hx⟩ := h.2.1 (by omega)
  obtain ⟨g, hg⟩ : ∃ g, gs[k]? = some g := ⟨gs[k]'(by rw [h.1]; exact hk), List.getElem?_eq_getElem (by rw [h.1]; exact hk)⟩
  exact ⟨b, o, g, e, hg, hx k g hg, h.2.2 g (List.mem_of_getElem? hg)⟩

/-- The shapes that are known lie in the block p. -/
def KnAt (w : World) (p : Nat) (A : Option Addr) (n c : Nat) (gs : List Sg) : Prop := w.heap[p]? = some (.cells #[.slice A n c] 113 (0, 0)) ∧ SgAt w A n gs

theorem KnAt.lt {w : World} {p : Nat} {A : Option Addr} {n c : Nat} {gs : List Sg} (h : KnAt w p A n c gs) : p < w.heap.size := lt_of_heap h.1

theorem KnAt.below {w w' : World} {p : Nat} {A : Option Addr} {n c : Nat} {gs : List Sg} (h : KnAt w p A n c gs) (hb : Below w.heap.size w w') : KnAt w' p A n c gs := ⟨(hb.block p h.lt).trans h.1, h.2.below hb⟩

theorem KnAt.c0 {w : World} {p : Nat} {A : Option Addr} {n c : Nat} {gs : List Sg} (h : KnAt w p A n c gs) : w.cell? ⟨p, 0, none⟩ = some (.slice A n c) := cell_of_row _ _ 0 _ _ (0, 0) h.1

/-- Are all nodes that are taken in known? -/
def allKn (xs : List Int) (n : Nat) : Bool := xs.all (fun z => decide (0 ≤ z) && decide (z < (n : Int)))

set_option maxHeartbeats 2000000 in
theorem have_any (p : Nat) (A B : Option Addr) (n c m d : Nat) (gs : List Sg) (xs : List Int) (w : World) (hK : KnAt w p A n c gs) (hB : Lies w B m (xs.map (Value.int .i64))) (hm : m ≤ 281474976710656) :
    Calls Tryz.prog 59 #[.pointer (some ⟨p, 0, none⟩), .slice B m d] w fun e w' => e = .returned (.bool (allKn xs n)) ∧ Below w.heap.size w w' := by
  have HL : Hid (xs.length = m) := hide (lies_len9 hB)
  have HB := hide hB
  have c0 := hK.c0
  obtain ⟨R, hR⟩ : ∃ z, z = allKn xs n := ⟨_, rfl⟩
  rw [← hR]
  have HR := hide hR
  clear hB hR hK
  go_enter Tryz.func59, Tryz.ntmps59
  go_wp2
  go_loop [9] (fun i => ∃ k : Nat, k ≤ m ∧ i = .int .i64 k ∧ Hid (∀ j, j < k → 0 ≤ xs.getD j 0 ∧ xs.getD j 0 < (n : Int))) (fun i => m - (intOf i).toNat)
  case atStart => exact ⟨0, Nat.zero_le _, rfl, hide (fun j hj => absurd hj (by omega))⟩
  case round =>
    obtain ⟨k, hk, rfl, HP⟩ := hrel
    by_cases hlt : k < m
    · obtain ⟨b, o, rfl, _, hx⟩ := byte_at HB.out (by omega)
      have hc := hx k hlt
      obtain ⟨x, hxe⟩ : ∃ x, x = xs.getD k 0 := ⟨_, rfl⟩
      rw [← hxe] at hc
      have HX := hide hxe
      clear hx hxe
      have f0 : (0 : Int) ≤ (k : Int) := by omega
      have f1 : (k : Int) < (m : Int) := by omega
      have HNO : Hid (¬ (0 ≤ x ∧ x < (n : Int)) → R = false) := hide (fun h => by
        rw [HR.out, allKn]
        refine List.all_eq_false.2 ⟨x, ?_, by simpa using h⟩
        have hkl : k < xs.length := by rw [HL.out]; exact hlt
        have : x = xs[k] := by rw [HX.out]; simp [List.getD, hkl]
        rw [this]
        exact List.getElem_mem hkl)
      by_cases h1 : x < 0
      · obtain rfl : R = false := HNO.out (fun h => by omega)
        go_wp2
        go_ret
        exact ⟨rfl, Below.refl _ _⟩
      · by_cases h2 : (n : Int) ≤ x
        · obtain rfl : R = false := HNO.out (fun h => by omega)
          go_wp2
          go_ret
          exact ⟨rfl, Below.refl _ _⟩
        · have HP2 : Hid (∀ j, j < k + 1 → 0 ≤ xs.getD j 0 ∧ xs.getD j 0 < (n : Int)) := hide (fun j hj => by
            by_cases e : j = k
            · rw [e, ← HX.out]; omega
            · exact HP.out j (by omega))
          clear HNO
          go_wp2
          go_round
          case rel => exact ⟨k + 1, by omega, by go_num, HP2⟩
          case measure => simp [intOf] <;> omega
    · obtain rfl : k = m := by omega
      obtain rfl : R = true := by
        rw [HR.out, allKn]
        refine List.all_eq_true.2 fun z hz => ?_
        obtain ⟨j, hj, e⟩ := List.getElem_of_mem hz
        have := HP.out j (by rw [← HL.out]; exact hj)
        have e2 : xs.getD j 0 = z := by simp [List.getD, hj, e]
        rw [e2] at this
        simp [this]
      have f1 : ¬ ((k : Int) < (k : Int)) := by omega
      go_wp2
      go_ret
      exact ⟨rfl, Below.refl _ _⟩

end

section
open Go.RowKit
set_option linter.unusedVariables false
set_option linter.unusedSimpArgs false

/-- What the first k places of the row i of l and the column j of l' come to; rows of l have K numbers, those of l' n. -/
def dotN (l l' : List Int) (K n i j : Nat) : Nat → Int
  | 0 => 0
  | p + 1 => add32 (dotN l l' K n i j p) (mul32 (l.getD (i * K + p) 0) (l'.getD (p * n + j) 0))

/-- The numbers of a product: M rows, n columns, K places between. -/
def prodL (l l' : List Int) (M K n : Nat) : List Int := (List.range (M * n)).map fun q => dotN l l' K n (q / n) (q % n) K

def sm (f : Nat → Int) : Nat → Int
  | 0 => 0
  | k + 1 => sm f k + f k

theorem place_lt {M n i j : Nat} (hi : i < M) (hj : j < n) : i * n + j < M * n := by
  have h : i * n + n ≤ M * n := by rw [← Nat.succ_mul]; exact Nat.mul_le_mul_right n hi
  omega

/-- Ones where both directions are the same, as far as k rows are done. -/
def oneTo (n k : Nat) : List Int := (List.range (n * n)).map fun q => if q / n < k ∧ q / n = q % n then 1 else 0

/-- The sum of the squares of the first k numbers. -/
def sqN (t : List Int) : Nat → Int
  | 0 => 0
  | p + 1 => add32 (sqN t p) (mul32 (t.getD p 0) (t.getD p 0))

end

section
open Go.RowKit
set_option linter.unusedVariables false
set_option linter.unusedSimpArgs false
set_option maxRecDepth 100000

end

end Go.Proofs.YtohndckbhjakfaaGreatDoor

