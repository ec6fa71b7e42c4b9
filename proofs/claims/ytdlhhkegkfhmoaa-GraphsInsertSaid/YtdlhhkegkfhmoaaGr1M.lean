/- Nodes of graphs, and the first contracts of package graphs: isInput, IndexFunc, ContainsFunc, Input, Weights, span.has, isOrder. -/
import Derived.Test.YtdlhhkegkfhmoaaMv9M
import Derived.Test.YtdlhhkegkfhmoaaWA
namespace Go.Proofs.Ytdlhhkegkfhmoaa
open Go.RowKit
set_option linter.unusedVariables false
set_option linter.unusedSimpArgs false
set_option maxRecDepth 100000

/-- A node as it lies there: its kind, what it takes in, its list, its two numbers. -/
structure Nd where
  kd : Int
  I : Option Addr
  ni : Nat
  ci : Nat
  S : Option Addr
  ns : Nat
  cs : Nat
  N : Int
  P : Int
  xs : List Int
  sh : List Int

def Nd.v (x : Nd) : Value := .agg #[.int .u8 x.kd, .slice x.I x.ni x.ci, .slice x.S x.ns x.cs, .int .i64 x.N, .int .i64 x.P]

/-- Its lists lie there, its numbers are such numbers. -/
def Nd.Ok (x : Nd) (w : World) : Prop := Lies w x.I x.ni (x.xs.map (Value.int .i64)) ∧ Lies w x.S x.ns (x.sh.map (Value.int .i64)) ∧ x.ni ≤ x.ci ∧ x.ns ≤ x.cs ∧ x.ni ≤ 70368744177664 ∧ x.ns ≤ 70368744177664 ∧ (0 ≤ x.kd ∧ x.kd < 256) ∧ (-9223372036854775808 ≤ x.N ∧ x.N < 9223372036854775808) ∧ (-9223372036854775808 ≤ x.P ∧ x.P < 9223372036854775808)

theorem Nd.Ok.below {x : Nd} {w w' : World} (h : x.Ok w) (hb : Below w.heap.size w w') : x.Ok w' := ⟨h.1.below hb, h.2.1.below hb, h.2.2⟩

/-- A node in a block. -/
def BoxN (w : World) (p : Nat) (x : Nd) : Prop := w.heap[p]? = some (.cells #[.int .u8 x.kd, .slice x.I x.ni x.ci, .slice x.S x.ns x.cs, .int .i64 x.N, .int .i64 x.P] 35 (0, 0))

theorem BoxN.new (w : World) (x : Nd) : BoxN (w.alloc (.cells #[.int .u8 x.kd, .slice x.I x.ni x.ci, .slice x.S x.ns x.cs, .int .i64 x.N, .int .i64 x.P] 35)) w.heap.size x := heap_alloc_new w _

theorem BoxN.lt {w : World} {p : Nat} {x : Nd} (h : BoxN w p x) : p < w.heap.size := lt_of_heap h

theorem BoxN.kept {w w' : World} {p : Nat} {x : Nd} (h : BoxN w p x) (hb : Below w.heap.size w w') : BoxN w' p x := (hb.block p h.lt).trans h

theorem BoxN.cs {w : World} {p : Nat} {x : Nd} (h : BoxN w p x) : w.cell? ⟨p, 0, none⟩ = some (.int .u8 x.kd) ∧ w.cell? ⟨p, 1, none⟩ = some (.slice x.I x.ni x.ci) ∧ w.cell? ⟨p, 2, none⟩ = some (.slice x.S x.ns x.cs) ∧ w.cell? ⟨p, 3, none⟩ = some (.int .i64 x.N) ∧ w.cell? ⟨p, 4, none⟩ = some (.int .i64 x.P) :=
  ⟨cell_of_row _ _ 0 _ _ (0, 0) h, cell_of_row _ _ 1 _ _ (0, 0) h, cell_of_row _ _ 2 _ _ (0, 0) h, cell_of_row _ _ 3 _ _ (0, 0) h, cell_of_row _ _ 4 _ _ (0, 0) h⟩

/-- A list of nodes lies there. -/
def NsAt (w : World) (b o : Nat) (ns : List Nd) : Prop :=
  ∀ j x, ns[j]? = some x → w.cell? ⟨b, o + j * 5, none⟩ = some (.int .u8 x.kd) ∧ w.cell? ⟨b, o + j * 5 + 1, none⟩ = some (.slice x.I x.ni x.ci) ∧ w.cell? ⟨b, o + j * 5 + 2, none⟩ = some (.slice x.S x.ns x.cs) ∧ w.cell? ⟨b, o + j * 5 + 3, none⟩ = some (.int .i64 x.N) ∧ w.cell? ⟨b, o + j * 5 + 4, none⟩ = some (.int .i64 x.P) ∧ x.Ok w

/-- Where a list of nodes lies, nil let in. -/
def NsIn (w : World) (A : Option Addr) (n : Nat) (ns : List Nd) : Prop := ns.length = n ∧ (1 ≤ n → ∃ b o, A = some ⟨b, o, none⟩ ∧ b < w.heap.size ∧ NsAt w b o ns)

theorem NsAt.below {w w' : World} {b o : Nat} {ns : List Nd} (h : NsAt w b o ns) (hb : Below w.heap.size w w') (hlt : b < w.heap.size) : NsAt w' b o ns := by
  intro j x hj
  obtain ⟨h0, h1, h2, h3, h4, h5⟩ := h j x hj
  have e := fun k => World.cell?_of_block (w := w) (w' := w') (a := ⟨b, k, none⟩) (hb.block b hlt)
  exact ⟨(e _).trans h0, (e _).trans h1, (e _).trans h2, (e _).trans h3, (e _).trans h4, h5.below hb⟩

theorem NsIn.below {w w' : World} {A : Option Addr} {n : Nat} {ns : List Nd} (h : NsIn w A n ns) (hb : Below w.heap.size w w') : NsIn w' A n ns :=
  ⟨h.1, fun hn => by
    obtain ⟨b, o, e, hlt, hx⟩ := h.2 hn
    exact ⟨b, o, e, Nat.lt_of_lt_of_le hlt hb.size, hx.below hb hlt⟩⟩

theorem NsIn.at {w : World} {A : Option Addr} {n k : Nat} {ns : List Nd} (h : NsIn w A n ns) (hk : k < n) : ∃ b o x, A = some ⟨b, o, none⟩ ∧ ns[k]? = some x ∧ w.cell? ⟨b, o + k * 5, none⟩ = some (.int .u8 x.kd) ∧ w.cell? ⟨b, o + k * 5 + 1, none⟩ = some (.slice x.I x.ni x.ci) ∧ w.cell? ⟨b, o + k * 5 + 2, none⟩ = some (.slice x.S x.ns x.cs) ∧ w.cell? ⟨b, o + k * 5 + 3, none⟩ = some (.int .i64 x.N) ∧ w.cell? ⟨b, o + k * 5 + 4, none⟩ = some (.int .i64 x.P) ∧ x.Ok w := by
  obtain ⟨b, o, e, _, hx⟩ := h.2 (by omega)
  obtain ⟨x, hxk⟩ : ∃ x, ns[k]? = some x := ⟨ns[k]'(by rw [h.1]; exact hk), List.getElem?_eq_getElem (by rw [h.1]; exact hk)⟩
  exact ⟨b, o, x, e, hxk, hx k x hxk⟩

/-- The index of the first input, or -1. -/
def inIx : List Nd → Int
  | [] => -1
  | x :: r => if x.kd = 1 then 0 else if inIx r = -1 then -1 else inIx r + 1

theorem inIx_ge : ∀ ns : List Nd, inIx ns = -1 ∨ (0 ≤ inIx ns ∧ inIx ns < (ns.length : Int))
  | [] => .inl rfl
  | x :: r => by
    have ih := inIx_ge r
    rw [inIx, List.length_cons]
    split
    · right; omega
    · split
      · exact .inl rfl
      · right; omega

theorem inIx_at : ∀ (ns : List Nd) (k : Nat), (∀ (j : Nat) (x : Nd), j < k → ns[j]? = some x → x.kd ≠ 1) → (∀ x, ns[k]? = some x → x.kd = 1) → k < ns.length → inIx ns = (k : Int)
  | [], k, _, _, h => by simp at h
  | x :: r, 0, _, h1, _ => by rw [inIx, if_pos (h1 x rfl)]; rfl
  | x :: r, k + 1, h0, h1, hl => by
    have ih := inIx_at r k (fun j y hj hy => h0 (j + 1) y (by omega) (by simpa using hy)) (fun y hy => h1 y (by simpa using hy)) (by simpa using hl)
    rw [inIx, if_neg (h0 0 x (by omega) rfl), ih, if_neg (by omega)]
    omega

theorem inIx_none : ∀ (ns : List Nd), (∀ (j : Nat) (x : Nd), ns[j]? = some x → x.kd ≠ 1) → inIx ns = -1
  | [], _ => rfl
  | x :: r, h => by
    have ih := inIx_none r (fun j y hy => h (j + 1) y (by simpa using hy))
    rw [inIx, if_neg (h 0 x rfl), if_pos ih]

set_option maxHeartbeats 1000000 in
theorem isInput_any (x : Nd) (w : World) : Calls Try.prog 26 #[x.v] w fun e w' => e = .returned (.bool (x.kd == 1)) ∧ Below w.heap.size w w' := by
  unfold Nd.v
  obtain ⟨W0, hW0⟩ : ∃ W0, W0 = w.alloc (.cells #[.int .u8 x.kd, .slice x.I x.ni x.ci, .slice x.S x.ns x.cs, .int .i64 x.N, .int .i64 x.P] 35) := ⟨_, rfl⟩
  have HB0 : Hid (Below w.heap.size w W0) := hide (by rw [hW0]; exact below_al6 (Below.refl _ _))
  have HX : Hid (BoxN W0 w.heap.size x) := hide (by rw [hW0]; exact BoxN.new w x)
  have hW0' := hW0.symm
  clear hW0
  obtain ⟨c0, _⟩ := HX.out.cs
  go_enter Try.func26, Try.ntmps26
  go_wp2
  go_ret
  exact ⟨rfl, HB0.out⟩

set_option maxHeartbeats 2000000 in
theorem indexFunc_any (A : Option Addr) (n c : Nat) (ns : List Nd) (w : World) (h : NsIn w A n ns) (hn : n ≤ 70368744177664) :
    Calls Try.prog 25 #[.slice A n c, .func (.func 26) #[] #[]] w fun e w' => e = .returned (.int .i64 (inIx ns)) ∧ Below w.heap.size w w' := by
  have HN := hide h
  obtain ⟨R, hR⟩ : ∃ z, z = inIx ns := ⟨_, rfl⟩
  rw [← hR]
  have HR := hide hR
  clear h hR
  go_enter Try.func25, Try.ntmps25
  go_wp2
  go_loopw [8] (fun i wr => ∃ k : Nat, k ≤ n ∧ i = .int .i64 k ∧ Hid (∀ j x, j < k → ns[j]? = some x → x.kd ≠ 1) ∧ Hid (Below w.heap.size w wr)) (fun i _ => n - (intOf i).toNat)
  case atStart => exact ⟨0, Nat.zero_le _, rfl, hide (fun j x hj => absurd hj (by omega)), hide (Below.refl _ _)⟩
  case round =>
    obtain ⟨k, hk, rfl, HP, HB⟩ := hrel
    by_cases hlt : k < n
    · obtain ⟨b, o, x, rfl, hxk, h0, h1, h2, h3, h4, _⟩ := (HN.out.below HB.out).at hlt
      have HXK := hide hxk
      have f0 : (0 : Int) ≤ (k : Int) := by omega
      have f1 : (k : Int) < (n : Int) := by omega
      clear hxk
      go_wp2_with fail
      refine Calls.mono (isInput_any x _) ?_
      rintro e w1 ⟨rfl, hb⟩
      have HB1 := hide (below_nx6 HB.out hb)
      clear hb h0 h1 h2 h3 h4
      by_cases hx : x.kd = 1
      · obtain rfl : R = (k : Int) := by rw [HR.out]; exact inIx_at ns k HP.out (fun y hy => by rw [HXK.out] at hy; cases hy; exact hx) (by rw [HN.out.1]; exact hlt)
        have g1 : (x.kd == 1) = true := by simpa using hx
        go_wp2
        go_ret
        exact ⟨rfl, HB1.out⟩
      · have HP2 : Hid (∀ j x, j < k + 1 → ns[j]? = some x → x.kd ≠ 1) := hide (fun j y hj hy => by
          by_cases e : j = k
          · rw [e, HXK.out] at hy; cases hy; exact hx
          · exact HP.out j y (by omega) hy)
        have g1 : (x.kd == 1) = false := by simpa using hx
        go_wp2
        go_roundw
        case rel => exact ⟨k + 1, by omega, by go_num, HP2, HB1⟩
        case measure => simp [intOf] <;> omega
    · obtain rfl : k = n := by omega
      obtain rfl : R = -1 := by rw [HR.out]; exact inIx_none ns (fun j x hj => HP.out j x (by have := (List.getElem?_eq_some_iff.1 hj).1; have := HN.out.1; omega) hj)
      have f1 : ¬ ((k : Int) < (k : Int)) := by omega
      go_wp2
      go_ret
      exact ⟨rfl, HB.out⟩

set_option maxHeartbeats 1000000 in
theorem containsFunc_any (A : Option Addr) (n c : Nat) (ns : List Nd) (w : World) (h : NsIn w A n ns) (hn : n ≤ 70368744177664) :
    Calls Try.prog 30 #[.slice A n c, .func (.func 26) #[] #[]] w fun e w' => e = .returned (.bool (decide (0 ≤ inIx ns))) ∧ Below w.heap.size w w' := by
  have HN := hide h
  obtain ⟨R, hR⟩ : ∃ z, z = inIx ns := ⟨_, rfl⟩
  have HC := hide (indexFunc_any A n c ns w h hn)
  rw [← hR] at HC ⊢
  clear h hR
  go_enter Try.func30, Try.ntmps30
  go_wp2_with fail
  refine Calls.mono HC.out ?_
  rintro e w1 ⟨rfl, hb⟩
  have HB := hide hb
  clear hb
  by_cases h0 : 0 ≤ R
  · have e0 := decide_eq_true h0
    go_wp2
    go_ret
    exact ⟨by first | rfl | simp [h0], HB.out⟩
  · have e0 := decide_eq_false h0
    go_wp2
    go_ret
    exact ⟨by first | rfl | simp [h0], HB.out⟩

end Go.Proofs.Ytdlhhkegkfhmoaa
