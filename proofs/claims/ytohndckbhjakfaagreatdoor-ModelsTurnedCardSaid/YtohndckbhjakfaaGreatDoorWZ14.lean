/- Merged: Gr1, Gr2, Pm7. -/
import Derived.Test.YtohndckbhjakfaaGreatDoorWZ13
import Derived.Test.YtohndckbhjakfaaGreatDoorWZ02
import Derived.Test.YtohndckbhjakfaaGreatDoorWZ12
namespace Go.Proofs.YtohndckbhjakfaaGreatDoor

section
open Go.RowKit
set_option linter.unusedVariables false
set_option linter.unusedSimpArgs false
set_option maxRecDepth 100000

/-- A node as it lies there: its kind, what it takes in, its list, its two numbers. -/
structure Nd where
  kd : Int
  I : Option Addr
  ni : Nat
  ci : Nat
  S : Option Addr
  ns : Nat
  cs : Nat
  N : Int
  P : Int
  xs : List Int
  sh : List Int

def Nd.v (x : Nd) : Value := .agg #[.int .u8 x.kd, .slice x.I x.ni x.ci, .slice x.S x.ns x.cs, .int .i64 x.N, .int .i64 x.P]

/-- Its lists lie there, its numbers are such numbers. -/
def Nd.Ok (x : Nd) (w : World) : Prop := Lies w x.I x.ni (x.xs.map (Value.int .i64)) ∧ Lies w x.S x.ns (x.sh.map (Value.int .i64)) ∧ x.ni ≤ x.ci ∧ x.ns ≤ x.cs ∧ x.ni ≤ 70368744177664 ∧ x.ns ≤ 70368744177664 ∧ (0 ≤ x.kd ∧ x.kd < 256) ∧ (-9223372036854775808 ≤ x.N ∧ x.N < 9223372036854775808) ∧ (-9223372036854775808 ≤ x.P ∧ x.P < 9223372036854775808)

theorem Nd.Ok.below {x : Nd} {w w' : World} (h : x.Ok w) (hb : Below w.heap.size w w') : x.Ok w' := ⟨h.1.below hb, h.2.1.below hb, h.2.2⟩

/-- A node in a block. -/
def BoxN (w : World) (p : Nat) (x : Nd) : Prop := w.heap[p]? = some (.cells #[.int .u8 x.kd, .slice x.I x.ni x.ci, .slice x.S x.ns x.cs, .int .i64 x.N, .int .i64 x.P] 44 (0, 0))

theorem BoxN.new (w : World) (x : Nd) : BoxN (w.alloc (.cells #[.int .u8 x.kd, .slice x.I x.ni x.ci, .slice x.S x.ns x.cs, .int .i64 x.N, .int .i64 x.P] 44)) w.heap.size x := heap_alloc_new w _

theorem BoxN.lt {w : World} {p : Nat} {x : Nd} (h : BoxN w p x) : p < w.heap.size := lt_of_heap h

theorem BoxN.kept {w w' : World} {p : Nat} {x : Nd} (h : BoxN w p x) (hb : Below w.heap.size w w') : BoxN w' p x := (hb.block p h.lt).trans h

theorem BoxN.cs {w : World} {p : Nat} {x : Nd} (h : BoxN w p x) : w.cell? ⟨p, 0, none⟩ = some (.int .u8 x.kd) ∧ w.cell? ⟨p, 1, none⟩ = some (.slice x.I x.ni x.ci) ∧ w.cell? ⟨p, 2, none⟩ = some (.slice x.S x.ns x.cs) ∧ w.cell? ⟨p, 3, none⟩ = some (.int .i64 x.N) ∧ w.cell? ⟨p, 4, none⟩ = some (.int .i64 x.P) :=
  ⟨cell_of_row _ _ 0 _ _ (0, 0) h, cell_of_row _ _ 1 _ _ (0, 0) h, cell_of_row _ _ 2 _ _ (0, 0) h, cell_of_row _ _ 3 _ _ (0, 0) h, cell_of_row _ _ 4 _ _ (0, 0) h⟩

/-- A list of nodes lies there. -/
def NsAt (w : World) (b o : Nat) (ns : List Nd) : Prop :=
  ∀ j x, ns[j]? = some x → w.cell? ⟨b, o + j * 5, none⟩ = some (.int .u8 x.kd) ∧ w.cell? ⟨b, o + j * 5 + 1, none⟩ = some (.slice x.I x.ni x.ci) ∧ w.cell? ⟨b, o + j * 5 + 2, none⟩ = some (.slice x.S x.ns x.cs) ∧ w.cell? ⟨b, o + j * 5 + 3, none⟩ = some (.int .i64 x.N) ∧ w.cell? ⟨b, o + j * 5 + 4, none⟩ = some (.int .i64 x.P) ∧ x.Ok w

/-- Where a list of nodes lies, nil let in. -/
def NsIn (w : World) (A : Option Addr) (n : Nat) (ns : List Nd) : Prop := ns.length = n ∧ (1 ≤ n → ∃ b o, A = some ⟨b, o, none⟩ ∧ b < w.heap.size ∧ NsAt w b o ns)

theorem NsAt.below {w w' : World} {b o : Nat} {ns : List Nd} (h : NsAt w b o ns) (hb : Below w.heap.size w w') (hlt : b < w.heap.size) : NsAt w' b o ns := by
  intro j x hj
  obtain ⟨h0, h1, h2, h3, h4, h5⟩ := h j x hj
  have e := fun k => World.cell?_of_block (w := w) (w' := w') (a := ⟨b, k, none⟩) (hb.block b hlt)
  exact ⟨(e _).trans h0, (e _).trans h1, (e _).trans h2, (e _).trans h3, (e _).trans h4, h5.below hb⟩

theorem NsIn.below {w w' : World} {A : Option Addr} {n : Nat} {ns : List Nd} (h : NsIn w A n ns) (hb : Below w.heap.size w w') : NsIn w' A n ns :=
  ⟨h.1, fun hn => by
    obtain ⟨b, o, e, hlt, hx⟩ := h.2 hn
    exact ⟨b, o, e, Nat.lt_of_lt_of_le hlt hb.size, hx.below hb hlt⟩⟩

theorem NsIn.at {w : World} {A : Option Addr} {n k : Nat} {ns : List Nd} (h : NsIn w A n ns) (hk : k < n) : ∃ b o x, A = some ⟨b, o, none⟩ ∧ ns[k]? = some x ∧ w.cell? ⟨b, o + k * 5, none⟩ = some (.int .u8 x.kd) ∧ w.cell? ⟨b, o + k * 5 + 1, none⟩ = some (.slice x.I x.ni x.ci) ∧ w.cell? ⟨b, o + k * 5 + 2, none⟩ = some (.slice x.S x.ns x.cs) ∧ w.cell? ⟨b, o + k * 5 + 3, none⟩ = some (.int .i64 x.N) ∧ w.cell? ⟨b, o + k * 5 + 4, none⟩ = some (.int .i64 x.P) ∧ x.Ok w := by
  obtain ⟨b, o, e, _, hx⟩ := h.2 (by omega)
  obtain ⟨x, hxk⟩ : ∃ x, ns[k]? = some x := ⟨ns[k]'(by rw [h.1]; exact hk), List.getElem?_eq_getElem (by rw [h.1]; exact hk)⟩
  exact ⟨b, o, x, e, hxk, hx k x hxk⟩

/-- The index of the first input, or -1. -/
def inIx : List Nd → Int
  | [] => -1
  | x :: r => if x.kd = 1 then 0 else if inIx r = -1 then -1 else inIx r + 1

theorem inIx_ge : ∀ ns : List Nd, inIx ns = -1 ∨ (0 ≤ inIx ns ∧ inIx ns < (ns.length : Int))
  | [] => .inl rfl
  | x :: r => by
    have ih := inIx_ge r
    rw [inIx, List.length_cons]
    split
    · right; omega
    · split
      · exact .inl rfl
      · right; omega

theorem inIx_at : ∀ (ns : List Nd) (k : Nat), (∀ (j : Nat) (x : Nd), j < k → ns[j]? = some x → x.kd ≠ 1) → (∀ x, ns[k]? = some x → x.kd = 1) → k < ns.length → inIx ns = (k : Int)
  | [], k, _, _, h => by simp at h
  | x :: r, 0, _, h1, _ => by rw [inIx, if_pos (h1 x rfl)]; rfl
  | x :: r, k + 1, h0, h1, hl => by
    have ih := inIx_at r k (fun j y hj hy => h0 (j + 1) y (by omega) (by simpa using hy)) (fun y hy => h1 y (by simpa using hy)) (by simpa using hl)
    rw [inIx, if_neg (h0 0 x (by omega) rfl), ih, if_neg (by omega)]
    omega

theorem inIx_none : ∀ (ns : List Nd), (∀ (j : Nat) (x : Nd), ns[j]? = some x → x.kd ≠ 1) → inIx ns = -1
  | [], _ => rfl
  | x :: r, h => by
    have ih := inIx_none r (fun j y hy => h (j + 1) y (by simpa using hy))
    rw [inIx, if_neg (h 0 x rfl), if_pos ih]

set_option maxHeartbeats 1000000 in
theorem isInput_any (x : Nd) (w : World) : Calls Tryz.prog 85 #[x.v] w fun e w' => e = .returned (.bool (x.kd == 1)) ∧ Below w.heap.size w w' := by
  unfold Nd.v
  obtain ⟨W0, hW0⟩ : ∃ W0, W0 = w.alloc (.cells #[.int .u8 x.kd, .slice x.I x.ni x.ci, .slice x.S x.ns x.cs, .int .i64 x.N, .int .i64 x.P] 44) := ⟨_, rfl⟩
  have HB0 : Hid (Below w.heap.size w W0) := hide (by rw [hW0]; exact below_al6 (Below.refl _ _))
  have HX : Hid (BoxN W0 w.heap.size x) := hide (by rw [hW0]; exact BoxN.new w x)
  have hW0' := hW0.symm
  clear hW0
  obtain ⟨c0, _⟩ := HX.out.cs
  go_enter Tryz.func85, Tryz.ntmps85
  go_wp2
  go_ret
  exact ⟨rfl, HB0.out⟩

set_option maxHeartbeats 2000000 in
theorem indexFunc_any (A : Option Addr) (n c : Nat) (ns : List Nd) (w : World) (h : NsIn w A n ns) (hn : n ≤ 70368744177664) :
    Calls Tryz.prog 84 #[.slice A n c, .func (.func 85) #[] #[]] w fun e w' => e = .returned (.int .i64 (inIx ns)) ∧ Below w.heap.size w w' := by
  have HN := hide h
  obtain ⟨R, hR⟩ : ∃ z, z = inIx ns := ⟨_, rfl⟩
  rw [← hR]
  have HR := hide hR
  clear h hR
  go_enter Tryz.func84, Tryz.ntmps84
  go_wp2
  go_loopw [8] (fun i wr => ∃ k : Nat, k ≤ n ∧ i = .int .i64 k ∧ Hid (∀ j x, j < k → ns[j]? = some x → x.kd ≠ 1) ∧ Hid (Below w.heap.size w wr)) (fun i _ => n - (intOf i).toNat)
  case atStart => exact ⟨0, Nat.zero_le _, rfl, hide (fun j x hj => absurd hj (by omega)), hide (Below.refl _ _)⟩
  case round =>
    obtain ⟨k, hk, rfl, HP, HB⟩ := hrel
    by_cases hlt : k < n
    · obtain ⟨b, o, x, rfl, hxk, h0, h1, h2, h3, h4, _⟩ := (HN.out.below HB.out).at hlt
      have HXK := hide hxk
      have f0 : (0 : Int) ≤ (k : Int) := by omega
      have f1 : (k : Int) < (n : Int) := by omega
      clear hxk
      go_wp2_with fail
      refine Calls.mono (isInput_any x _) ?_
      rintro e w1 ⟨rfl, hb⟩
      have HB1 := hide (below_nx6 HB.out hb)
      clear hb h0 h1 h2 h3 h4
      by_cases hx : x.kd = 1
      · obtain rfl : R = (k : Int) := by rw [HR.out]; exact inIx_at ns k HP.out (fun y hy => by rw [HXK.out] at hy; cases hy; exact hx) (by rw [HN.out.1]; exact hlt)
        have g1 : (x.kd == 1) = true := by simpa using hx
        go_wp2
        go_ret
        exact ⟨rfl, HB1.out⟩
      · have HP2 : Hid (∀ j x, j < k + 1 → ns[j]? = some x → x.kd ≠ 1) := hide (fun j y hj hy => by
          by_cases e : j = k
          · rw [e, HXK.out] at hy; cases hy; exact hx
          · exact HP.out j y (by omega) hy)
        have g1 : (x.kd == 1) = false := by simpa using hx
        go_wp2
        go_roundw
        case rel => exact ⟨k + 1, by omega, by go_num, HP2, HB1⟩
        case measure => simp [intOf] <;> omega
    · obtain rfl : k = n := by omega
      obtain rfl : R = -1 := by rw [HR.out]; exact inIx_none ns (fun j x hj => HP.out j x (by have := (List.getElem?_eq_some_iff.1 hj).1; have := HN.out.1; omega) hj)
      have f1 : ¬ ((k : Int) < (k : Int)) := by omega
      go_wp2
      go_ret
      exact ⟨rfl, HB.out⟩

set_option maxHeartbeats 1000000 in
theorem containsFunc_any (A : Option Addr) (n c : Nat) (ns : List Nd) (w : World) (h : NsIn w A n ns) (hn : n ≤ 70368744177664) :
    Calls Tryz.prog 86 #[.slice A n c, .func (.func 85) #[] #[]] w fun e w' => e = .returned (.bool (decide (0 ≤ inIx ns))) ∧ Below w.heap.size w w' := by
  have HN := hide h
  obtain ⟨R, hR⟩ : ∃ z, z = inIx ns := ⟨_, rfl⟩
  have HC := hide (indexFunc_any A n c ns w h hn)
  rw [← hR] at HC ⊢
  clear h hR
  go_enter Tryz.func86, Tryz.ntmps86
  go_wp2_with fail
  refine Calls.mono HC.out ?_
  rintro e w1 ⟨rfl, hb⟩
  have HB := hide hb
  clear hb
  by_cases h0 : 0 ≤ R
  · have e0 := decide_eq_true h0
    go_wp2
    go_ret
    exact ⟨by first | rfl | simp [h0], HB.out⟩
  · have e0 := decide_eq_false h0
    go_wp2
    go_ret
    exact ⟨by first | rfl | simp [h0], HB.out⟩

end

section
open Go.RowKit
set_option linter.unusedVariables false
set_option linter.unusedSimpArgs false
set_option maxRecDepth 100000

/-- The indices of the weights. -/
def wtF : Nat → List Nd → List Int
  | _, [] => []
  | i, x :: r => if x.kd = 2 then (i : Int) :: wtF (i + 1) r else wtF (i + 1) r

theorem wtF_snoc : ∀ (i : Nat) (us : List Nd) (x : Nd), wtF i (us ++ [x]) = wtF i us ++ (if x.kd = 2 then [((i + us.length : Nat) : Int)] else [])
  | i, [], x => by simp only [List.nil_append, wtF, List.length_nil, Nat.add_zero]
  | i, y :: r, x => by
    have e : i + (y :: r).length = i + 1 + r.length := by simp; omega
    rw [List.cons_append, wtF, wtF, wtF_snoc (i + 1) r x, e]
    split
    · rfl
    · rfl

theorem take_oneN {ns : List Nd} {k : Nat} {x : Nd} (h : ns[k]? = some x) : ns.take (k + 1) = ns.take k ++ [x] := by
  obtain ⟨h1, h2⟩ := List.getElem?_eq_some_iff.1 h
  rw [List.take_succ_eq_append_getElem h1, h2]

set_option maxHeartbeats 2000000 in
theorem weights_any (A : Option Addr) (n c : Nat) (ns : List Nd) (w : World) (h : NsIn w A n ns) (hn : n ≤ 1073741824) :
    Calls Tryz.prog 10 #[.agg #[.slice A n c]] w fun e w' => ∃ A' k' c', e = .returned (.slice A' k' c') ∧ w'.ownsRow w.heap.size 3 1 (.slice A' k' c') k' ((wtF 0 ns).map (Value.int .i64)) ∧ Below w.heap.size w w' := by
  obtain ⟨W0, hW0⟩ : ∃ W0, W0 = w.alloc (.cells #[.slice A n c] 24) := ⟨_, rfl⟩
  have HB0 : Hid (Below w.heap.size w W0) := hide (by rw [hW0]; exact below_al6 (Below.refl _ _))
  have c0 : W0.cell? ⟨w.heap.size, 0, none⟩ = some (.slice A n c) := by rw [hW0]; exact cell_of_row _ _ 0 _ _ (0, 0) (heap_alloc_new w _)
  have HN := hide h
  have hW0' := hW0.symm
  clear hW0 h
  obtain ⟨i0, hi, hz0, hz1, hz2⟩ := info_parts Tryz.infoI
  have HI := hide hi
  have HZ0 := hide hz0
  have HZ1 := hide hz1
  have HZ2 := hide hz2
  clear hi hz0 hz1 hz2
  go_enter Tryz.func10, Tryz.ntmps10
  go_wp2
  clear c0
  go_loopw [3, 9] (fun v i wr => ∃ (k m : Nat) (A2 : Option Addr) (c2 : Nat), k ≤ n ∧ m ≤ k ∧ i = .int .i64 k ∧ v = .slice A2 m c2 ∧ Hid (wr.ownsRow w.heap.size 3 1 (.slice A2 m c2) m ((wtF 0 (ns.take k)).map (Value.int .i64))) ∧ Hid (Below w.heap.size w wr)) (fun _ i _ => n - (intOf i).toNat)
  case atStart => exact ⟨0, 0, none, 0, Nat.zero_le _, Nat.le_refl _, rfl, rfl, hide (by simpa [wtF] using World.ownsRow_nil _ _ _ _), HB0⟩
  case round =>
    obtain ⟨k, m, A2, c2, hk, hmk, rfl, rfl, HR, HB⟩ := hrel
    by_cases hlt : k < n
    · obtain ⟨b, o, x, rfl, hxk, h0, h1, h2, h3, h4, _⟩ := (HN.out.below HB.out).at hlt
      have HT : Hid (ns.take (k + 1) = ns.take k ++ [x]) := hide (take_oneN hxk)
      have HL : Hid ((ns.take k).length = k) := hide (by rw [List.length_take, HN.out.1]; omega)
      have f0 : (0 : Int) ≤ (k : Int) := by omega
      have f1 : (k : Int) < (n : Int) := by omega
      obtain ⟨W1, hW1⟩ : ∃ W1, W1 = wr.alloc (.cells #[.int .u8 x.kd, .slice x.I x.ni x.ci, .slice x.S x.ns x.cs, .int .i64 x.N, .int .i64 x.P] 44) := ⟨_, rfl⟩
      have hsr := HB.out.size
      have HB1 : Hid (Below w.heap.size w W1) := hide (by rw [hW1]; exact HB.out.alloc hsr _)
      have q0 : W1.cell? ⟨wr.heap.size, 0, none⟩ = some (.int .u8 x.kd) := by rw [hW1]; exact cell_of_row _ _ 0 _ _ (0, 0) (heap_alloc_new wr _)
      have HR1 : Hid (W1.ownsRow w.heap.size 3 1 (.slice A2 m c2) m ((wtF 0 (ns.take k)).map (Value.int .i64))) := hide (by rw [hW1]; exact HR.out.alloc _)
      have hs1 := HB1.out.size
      have hW1' := hW1.symm
      clear hW1 hxk
      by_cases hx : x.kd = 2
      · have HF : Hid (wtF 0 (ns.take (k + 1)) = wtF 0 (ns.take k) ++ [(k : Int)]) := hide (by rw [HT.out, wtF_snoc, if_pos hx, HL.out, Nat.zero_add])
        have g1 : (x.kd == 2) = true := by simpa using hx
        clear hx
        have HX3 : Hid ((W1.alloc (.cells #[.int .i64 (k : Int)] 3)).cell? ⟨W1.heap.size, 0, none⟩ = some (.int .i64 (k : Int))) := hide (by have h := cells_new W1 [.int .i64 (k : Int)] 3 0 _ rfl; rwa [Addr.add_lit] at h)
        go_wp2_with (at_builtin; with_reducible refine wpList_append_one rfl (.tmp 17) (.tmp 19) 35 rfl 3 i0 (.int .i64 0) 8 Tryz.underlying35 HI.out HZ0.out HZ1.out HZ2.out rfl w.heap.size A2 m c2 ((wtF 0 (ns.take k)).map (Value.int .i64)) rfl (HR1.out.alloc _) (Nat.le_trans hs1 (by simp)) ⟨W1.heap.size, 0, none⟩ (.int .i64 (k : Int)) rfl HX3.out rfl (by omega) (by unfold maxLen; omega) ?_)
        intro A3 c3 w3 ho3 hm3
        have HR3 : Hid (w3.ownsRow w.heap.size 3 1 (.slice A3 (m + 1) c3) (m + 1) ((wtF 0 (ns.take (k + 1))).map (Value.int .i64))) := hide (by
          rw [HF.out, List.map_append]
          exact ho3)
        have HB3 := hide (below_moved (HB1.out.alloc hs1 (.cells #[.int .i64 (k : Int)] 3)) (Nat.le_trans hs1 (by simp)) (HR1.out.alloc _) hm3)
        clear ho3 hm3 HR HR1 HB HB1 HX3 h0 h1 h2 h3 h4 q0 HF
        go_wp2
        go_roundw
        case rel => exact ⟨k + 1, m + 1, A3, c3, by omega, by omega, by go_num, rfl, HR3, HB3⟩
        case measure => simp [intOf] <;> omega
      · have HF : Hid (wtF 0 (ns.take (k + 1)) = wtF 0 (ns.take k)) := hide (by rw [HT.out, wtF_snoc, if_neg hx, List.append_nil])
        have g1 : (x.kd == 2) = false := by simpa using hx
        clear hx
        go_wp2
        go_roundw
        case rel => exact ⟨k + 1, m, A2, c2, by omega, by omega, by go_num, rfl, by rw [HF.out]; exact HR1, HB1⟩
        case measure => simp [intOf] <;> omega
    · obtain rfl : k = n := by omega
      have hall : ns.take k = ns := List.take_of_length_le (by rw [HN.out.1]; exact Nat.le_refl _)
      have h9 := HR.out
      rw [hall] at h9
      have HRF := hide h9
      have f1 : ¬ ((k : Int) < (k : Int)) := by omega
      clear h9 HR hall
      go_wp2
      go_ret
      exact ⟨A2, m, c2, rfl, HRF.out, HB.out⟩

set_option maxHeartbeats 1000000 in
theorem span_any (a b z : Int) (w : World) :
    Calls Tryz.prog 99 #[.agg #[.int .i64 a, .int .i64 b], .int .i64 z] w fun e w' => e = .returned (.bool (decide (a ≤ z ∧ z ≤ b))) ∧ Below w.heap.size w w' := by
  obtain ⟨W0, hW0⟩ : ∃ W0, W0 = w.alloc (.cells #[.int .i64 a, .int .i64 b] 117) := ⟨_, rfl⟩
  have HB0 : Hid (Below w.heap.size w W0) := hide (by rw [hW0]; exact below_al6 (Below.refl _ _))
  have c0 : W0.cell? ⟨w.heap.size, 0, none⟩ = some (.int .i64 a) := by rw [hW0]; exact cell_of_row _ _ 0 _ _ (0, 0) (heap_alloc_new w _)
  have c1 : W0.cell? ⟨w.heap.size, 1, none⟩ = some (.int .i64 b) := by rw [hW0]; exact cell_of_row _ _ 1 _ _ (0, 0) (heap_alloc_new w _)
  have hW0' := hW0.symm
  clear hW0
  obtain ⟨R, hR⟩ : ∃ y, y = decide (a ≤ z ∧ z ≤ b) := ⟨_, rfl⟩
  rw [← hR]
  go_enter Tryz.func99, Tryz.ntmps99
  by_cases h1 : a ≤ z
  · by_cases h2 : z ≤ b
    · obtain rfl : R = true := by rw [hR]; exact decide_eq_true ⟨h1, h2⟩
      clear hR
      go_wp2
      go_ret
      exact ⟨rfl, HB0.out⟩
    · obtain rfl : R = false := by rw [hR]; exact decide_eq_false (fun h => h2 h.2)
      clear hR
      go_wp2
      go_ret
      exact ⟨rfl, HB0.out⟩
  · obtain rfl : R = false := by rw [hR]; exact decide_eq_false (fun h => h1 h.1)
    clear hR
    go_wp2
    go_ret
    exact ⟨rfl, HB0.out⟩

/-- Is a list an order? -/
def isOrd (u : List Int) : Bool := decide (1 ≤ u.length ∧ u.length ≤ 4) && ordOk u u.length

set_option maxHeartbeats 2000000 in
theorem isOrder_any (A : Option Addr) (n c : Nat) (u : List Int) (w : World) (hA : Lies w A n (u.map (Value.int .i64))) (hn : n ≤ 281474976710656) :
    Calls Tryz.prog 95 #[.slice A n c] w fun e w' => e = .returned (.bool (isOrd u)) ∧ Below w.heap.size w w' := by
  have HL : Hid (u.length = n) := hide (lies_len9 hA)
  have HA := hide hA
  obtain ⟨R, hR⟩ : ∃ z, z = isOrd u := ⟨_, rfl⟩
  rw [← hR]
  have HR := hide hR
  clear hA hR
  go_enter Tryz.func95, Tryz.ntmps95
  by_cases h1 : n < 1
  · obtain rfl : R = false := by rw [HR.out, isOrd, decide_eq_false (by rw [HL.out]; omega)]; rfl
    have f1 : (n : Int) < 1 := by omega
    go_wp2
    go_ret
    exact ⟨rfl, Below.refl _ _⟩
  have f1 : ¬ ((n : Int) < 1) := by omega
  by_cases h4 : 4 < n
  · obtain rfl : R = false := by rw [HR.out, isOrd, decide_eq_false (by rw [HL.out]; omega)]; rfl
    have f2 : (4 : Int) < (n : Int) := by omega
    go_wp2
    go_ret
    exact ⟨rfl, Below.refl _ _⟩
  have f2 : ¬ ((4 : Int) < (n : Int)) := by omega
  go_wp2
  clear f1 f2
  go_loopw [14] (fun i wr => ∃ k : Nat, k ≤ n ∧ i = .int .i64 k ∧ Hid (∀ d, d < k → (d : Int) ∈ u) ∧ Hid (Below w.heap.size w wr)) (fun i _ => n - (intOf i).toNat)
  case atStart => exact ⟨0, Nat.zero_le _, rfl, hide (fun d hd => absurd hd (by omega)), hide (Below.refl _ _)⟩
  case round =>
    obtain ⟨k, hk, rfl, HP, HB⟩ := hrel
    by_cases hlt : k < n
    · have f1 : (k : Int) < (n : Int) := by omega
      go_wp2_with fail
      refine Calls.mono (contains_ints A n c u (k : Int) _ (HA.out.below HB.out) hn) ?_
      rintro e w1 ⟨rfl, hb⟩
      have HB1 := hide (below_nx6 HB.out hb)
      clear hb
      by_cases hx : (k : Int) ∈ u
      · have HP2 : Hid (∀ d, d < k + 1 → (d : Int) ∈ u) := hide (fun d hd => by
          by_cases e : d = k
          · rw [e]; exact hx
          · exact HP.out d (by omega))
        rw [decide_eq_true hx]
        go_wp2
        go_roundw
        case rel => exact ⟨k + 1, by omega, by go_num, HP2, HB1⟩
        case measure => simp [intOf] <;> omega
      · obtain rfl : R = false := by
          rw [HR.out, isOrd]
          cases h : ordOk u u.length with
          | false => simp
          | true => exact absurd ((ordOk_iff.1 h).2 k (by rw [HL.out]; exact hlt)) hx
        rw [decide_eq_false hx]
        go_wp2
        go_ret
        exact ⟨rfl, HB1.out⟩
    · obtain rfl : k = n := by omega
      obtain rfl : R = true := by
        have h9 : ordOk u u.length = true := ordOk_iff.2 ⟨rfl, by rw [HL.out]; exact HP.out⟩
        rw [HR.out, isOrd, h9, decide_eq_true (by rw [HL.out]; omega)]
        rfl
      have f1 : ¬ ((k : Int) < (k : Int)) := by omega
      go_wp2
      go_ret
      exact ⟨rfl, HB.out⟩

/-- A shape as it lies in a list of shapes. -/
structure Sg where
  A : Option Addr
  n : Nat
  c : Nat
  s : List Int

/-- A list of shapes lies there. -/
def SgAt (w : World) (A : Option Addr) (n : Nat) (gs : List Sg) : Prop := gs.length = n ∧ (1 ≤ n → ∃ b o, A = some ⟨b, o, none⟩ ∧ b < w.heap.size ∧ ∀ j g, gs[j]? = some g → w.cell? ⟨b, o + j, none⟩ = some (.slice g.A g.n g.c)) ∧ ∀ g ∈ gs, Lies w g.A g.n (g.s.map (Value.int .i64)) ∧ g.n ≤ g.c ∧ g.n ≤ 4

theorem SgAt.below {w w' : World} {A : Option Addr} {n : Nat} {gs : List Sg} (h : SgAt w A n gs) (hb : Below w.heap.size w w') : SgAt w' A n gs :=
  ⟨h.1, fun hn => by
    obtain ⟨b, o, e, hlt, hx⟩ := h.2.1 hn
    exact ⟨b, o, e, Nat.lt_of_lt_of_le hlt hb.size, fun j g hj => (World.cell?_of_block (hb.block b hlt)).trans (hx j g hj)⟩, fun g hg => ⟨(h.2.2 g hg).1.below hb, (h.2.2 g hg).2⟩⟩

theorem SgAt.at {w : World} {A : Option Addr} {n k : Nat} {gs : List Sg} (h : SgAt w A n gs) (hk : k < n) : ∃ b o g, A = some ⟨b, o, none⟩ ∧ gs[k]? = some g ∧ w.cell? ⟨b, o + k, none⟩ = some (.slice g.A g.n g.c) ∧ Lies w g.A g.n (g.s.map (Value.int .i64)) ∧ g.n ≤ g.c ∧ g.n ≤ 4 := by
  obtain ⟨b, o, e, _, hx⟩ := h.2.1 (by omega)
  obtain ⟨g, hg⟩ : ∃ g, gs[k]? = some g := ⟨gs[k]'(by rw [h.1]; exact hk), List.getElem?_eq_getElem (by rw [h.1]; exact hk)⟩
  exact ⟨b, o, g, e, hg, hx k g hg, h.2.2 g (List.mem_of_getElem? hg)⟩

/-- The shapes that are known lie in the block p. -/
def KnAt (w : World) (p : Nat) (A : Option Addr) (n c : Nat) (gs : List Sg) : Prop := w.heap[p]? = some (.cells #[.slice A n c] 113 (0, 0)) ∧ SgAt w A n gs

theorem KnAt.lt {w : World} {p : Nat} {A : Option Addr} {n c : Nat} {gs : List Sg} (h : KnAt w p A n c gs) : p < w.heap.size := lt_of_heap h.1

theorem KnAt.below {w w' : World} {p : Nat} {A : Option Addr} {n c : Nat} {gs : List Sg} (h : KnAt w p A n c gs) (hb : Below w.heap.size w w') : KnAt w' p A n c gs := ⟨(hb.block p h.lt).trans h.1, h.2.below hb⟩

theorem KnAt.c0 {w : World} {p : Nat} {A : Option Addr} {n c : Nat} {gs : List Sg} (h : KnAt w p A n c gs) : w.cell? ⟨p, 0, none⟩ = some (.slice A n c) := cell_of_row _ _ 0 _ _ (0, 0) h.1

/-- Are all nodes that are taken in known? -/
def allKn (xs : List Int) (n : Nat) : Bool := xs.all (fun z => decide (0 ≤ z) && decide (z < (n : Int)))

set_option maxHeartbeats 2000000 in
theorem have_any (p : Nat) (A B : Option Addr) (n c m d : Nat) (gs : List Sg) (xs : List Int) (w : World) (hK : KnAt w p A n c gs) (hB : Lies w B m (xs.map (Value.int .i64))) (hm : m ≤ 281474976710656) :
    Calls Tryz.prog 59 #[.pointer (some ⟨p, 0, none⟩), .slice B m d] w fun e w' => e = .returned (.bool (allKn xs n)) ∧ Below w.heap.size w w' := by
  have HL : Hid (xs.length = m) := hide (lies_len9 hB)
  have HB := hide hB
  have c0 := hK.c0
  obtain ⟨R, hR⟩ : ∃ z, z = allKn xs n := ⟨_, rfl⟩
  rw [← hR]
  have HR := hide hR
  clear hB hR hK
  go_enter Tryz.func59, Tryz.ntmps59
  go_wp2
  go_loop [9] (fun i => ∃ k : Nat, k ≤ m ∧ i = .int .i64 k ∧ Hid (∀ j, j < k → 0 ≤ xs.getD j 0 ∧ xs.getD j 0 < (n : Int))) (fun i => m - (intOf i).toNat)
  case atStart => exact ⟨0, Nat.zero_le _, rfl, hide (fun j hj => absurd hj (by omega))⟩
  case round =>
    obtain ⟨k, hk, rfl, HP⟩ := hrel
    by_cases hlt : k < m
    · obtain ⟨b, o, rfl, _, hx⟩ := byte_at HB.out (by omega)
      have hc := hx k hlt
      obtain ⟨x, hxe⟩ : ∃ x, x = xs.getD k 0 := ⟨_, rfl⟩
      rw [← hxe] at hc
      have HX := hide hxe
      clear hx hxe
      have f0 : (0 : Int) ≤ (k : Int) := by omega
      have f1 : (k : Int) < (m : Int) := by omega
      have HNO : Hid (¬ (0 ≤ x ∧ x < (n : Int)) → R = false) := hide (fun h => by
        rw [HR.out, allKn]
        refine List.all_eq_false.2 ⟨x, ?_, by simpa using h⟩
        have hkl : k < xs.length := by rw [HL.out]; exact hlt
        have : x = xs[k] := by rw [HX.out]; simp [List.getD, hkl]
        rw [this]
        exact List.getElem_mem hkl)
      by_cases h1 : x < 0
      · obtain rfl : R = false := HNO.out (fun h => by omega)
        go_wp2
        go_ret
        exact ⟨rfl, Below.refl _ _⟩
      · by_cases h2 : (n : Int) ≤ x
        · obtain rfl : R = false := HNO.out (fun h => by omega)
          go_wp2
          go_ret
          exact ⟨rfl, Below.refl _ _⟩
        · have HP2 : Hid (∀ j, j < k + 1 → 0 ≤ xs.getD j 0 ∧ xs.getD j 0 < (n : Int)) := hide (fun j hj => by
            by_cases e : j = k
            · rw [e, ← HX.out]; omega
            · exact HP.out j (by omega))
          clear HNO
          go_wp2
          go_round
          case rel => exact ⟨k + 1, by omega, by go_num, HP2⟩
          case measure => simp [intOf] <;> omega
    · obtain rfl : k = m := by omega
      obtain rfl : R = true := by
        rw [HR.out, allKn]
        refine List.all_eq_true.2 fun z hz => ?_
        obtain ⟨j, hj, e⟩ := List.getElem_of_mem hz
        have := HP.out j (by rw [← HL.out]; exact hj)
        have e2 : xs.getD j 0 = z := by simp [List.getD, hj, e]
        rw [e2] at this
        simp [this]
      have f1 : ¬ ((k : Int) < (k : Int)) := by omega
      go_wp2
      go_ret
      exact ⟨rfl, Below.refl _ _⟩

end

section
open Go.RowKit
set_option linter.unusedVariables false
set_option linter.unusedSimpArgs false

/-- What the first k places of the row i of l and the column j of l' come to; rows of l have K numbers, those of l' n. -/
def dotN (l l' : List Int) (K n i j : Nat) : Nat → Int
  | 0 => 0
  | p + 1 => add32 (dotN l l' K n i j p) (mul32 (l.getD (i * K + p) 0) (l'.getD (p * n + j) 0))

/-- The numbers of a product: M rows, n columns, K places between. -/
def prodL (l l' : List Int) (M K n : Nat) : List Int := (List.range (M * n)).map fun q => dotN l l' K n (q / n) (q % n) K

def sm (f : Nat → Int) : Nat → Int
  | 0 => 0
  | k + 1 => sm f k + f k

theorem place_lt {M n i j : Nat} (hi : i < M) (hj : j < n) : i * n + j < M * n := by
  have h : i * n + n ≤ M * n := by rw [← Nat.succ_mul]; exact Nat.mul_le_mul_right n hi
  omega

/-- Ones where both directions are the same, as far as k rows are done. -/
def oneTo (n k : Nat) : List Int := (List.range (n * n)).map fun q => if q / n < k ∧ q / n = q % n then 1 else 0

/-- The sum of the squares of the first k numbers. -/
def sqN (t : List Int) : Nat → Int
  | 0 => 0
  | p + 1 => add32 (sqN t p) (mul32 (t.getD p 0) (t.getD p 0))

end

end Go.Proofs.YtohndckbhjakfaaGreatDoor

