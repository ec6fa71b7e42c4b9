/- Contracts of rule.hasList, rule.allows and hasEnds. -/
import Derived.Test.YtdlhhkegkfhmoaaGr7M
namespace Go.Proofs.Ytdlhhkegkfhmoaa
open Go.RowKit
set_option linter.unusedVariables false
set_option linter.unusedSimpArgs false
set_option maxRecDepth 100000

/-- A rule: what its three numbers may be, what its list must be (0: none, 1: a shape, 2: an order), which function it is followed by. -/
structure Rl where
  a : Int
  b : Int
  nl : Int
  nm : Int
  pl : Int
  pm : Int
  lk : Nat
  f : Nat

def lv : Nat → Value
  | 0 => .nilFunc
  | 1 => .func (.func 14) #[] #[]
  | _ => .func (.func 38) #[] #[]

def lOk (k : Nat) (s : List Int) : Bool := match k with
  | 0 => decide (s.length = 0)
  | 1 => decide (0 < sizeI s)
  | _ => isOrd s

def Rl.v (r : Rl) (p : Nat) : Value := .agg #[.int .i64 r.a, .int .i64 r.b, .int .i64 r.nl, .int .i64 r.nm, .int .i64 r.pl, .int .i64 r.pm, lv r.lk, .func (.func r.f) #[.pointer (some ⟨p, 0, none⟩)] #[]]

/-- Does a node conform to a rule? -/
def alw (r : Rl) (x : Nd) : Bool := decide (r.a ≤ (x.xs.length : Int) ∧ (x.xs.length : Int) ≤ r.b) && decide (r.nl ≤ x.N ∧ x.N ≤ r.nm) && decide (r.pl ≤ x.P ∧ x.P ≤ r.pm) && lOk r.lk x.sh

/-- A rule in a block. -/
def BoxR (w : World) (q : Nat) (r : Rl) (p : Nat) : Prop := w.heap[q]? = some (.cells #[.int .i64 r.a, .int .i64 r.b, .int .i64 r.nl, .int .i64 r.nm, .int .i64 r.pl, .int .i64 r.pm, lv r.lk, .func (.func r.f) #[.pointer (some ⟨p, 0, none⟩)] #[]] 59 (0, 0))

theorem BoxR.new (w : World) (r : Rl) (p : Nat) : BoxR (w.alloc (.cells #[.int .i64 r.a, .int .i64 r.b, .int .i64 r.nl, .int .i64 r.nm, .int .i64 r.pl, .int .i64 r.pm, lv r.lk, .func (.func r.f) #[.pointer (some ⟨p, 0, none⟩)] #[]] 59)) w.heap.size r p := heap_alloc_new w _

theorem BoxR.lt {w : World} {q : Nat} {r : Rl} {p : Nat} (h : BoxR w q r p) : q < w.heap.size := lt_of_heap h

theorem BoxR.kept {w w' : World} {q : Nat} {r : Rl} {p : Nat} (h : BoxR w q r p) (hb : Below w.heap.size w w') : BoxR w' q r p := (hb.block q h.lt).trans h

theorem BoxR.cs {w : World} {q : Nat} {r : Rl} {p : Nat} (h : BoxR w q r p) : w.cell? ⟨q, 0, none⟩ = some (.int .i64 r.a) ∧ w.cell? ⟨q, 1, none⟩ = some (.int .i64 r.b) ∧ w.cell? ⟨q, 2, none⟩ = some (.int .i64 r.nl) ∧ w.cell? ⟨q, 3, none⟩ = some (.int .i64 r.nm) ∧ w.cell? ⟨q, 4, none⟩ = some (.int .i64 r.pl) ∧ w.cell? ⟨q, 5, none⟩ = some (.int .i64 r.pm) ∧ w.cell? ⟨q, 6, none⟩ = some (lv r.lk) ∧ w.cell? ⟨q, 7, none⟩ = some (.func (.func r.f) #[.pointer (some ⟨p, 0, none⟩)] #[]) :=
  ⟨cell_of_row _ _ 0 _ _ (0, 0) h, cell_of_row _ _ 1 _ _ (0, 0) h, cell_of_row _ _ 2 _ _ (0, 0) h, cell_of_row _ _ 3 _ _ (0, 0) h, cell_of_row _ _ 4 _ _ (0, 0) h, cell_of_row _ _ 5 _ _ (0, 0) h, cell_of_row _ _ 6 _ _ (0, 0) h, cell_of_row _ _ 7 _ _ (0, 0) h⟩

theorem eqlF_nil (w : World) : (binOp BinOp.eql 37 .nilFunc .nilFunc).run Try.prog w = .ok (.bool true) w := by kernel_rfl

theorem eqlF_one (w : World) : (binOp BinOp.eql 37 (.func (.func 14) #[] #[]) .nilFunc).run Try.prog w = .ok (.bool false) w := by kernel_rfl

theorem eqlF_two (w : World) : (binOp BinOp.eql 37 (.func (.func 38) #[] #[]) .nilFunc).run Try.prog w = .ok (.bool false) w := by kernel_rfl

set_option maxHeartbeats 2000000 in
theorem hasList_any (r : Rl) (p : Nat) (A : Option Addr) (n c : Nat) (s : List Int) (w : World) (hA : Lies w A n (s.map (Value.int .i64))) (hn : n ≤ 281474976710656) :
    Calls Try.prog 43 #[r.v p, .slice A n c] w fun e w' => e = .returned (.bool (lOk r.lk s)) ∧ Below w.heap.size w w' := by
  unfold Rl.v
  obtain ⟨W0, hW0⟩ : ∃ W0, W0 = w.alloc (.cells #[.int .i64 r.a, .int .i64 r.b, .int .i64 r.nl, .int .i64 r.nm, .int .i64 r.pl, .int .i64 r.pm, lv r.lk, .func (.func r.f) #[.pointer (some ⟨p, 0, none⟩)] #[]] 59) := ⟨_, rfl⟩
  have HB0 : Hid (Below w.heap.size w W0) := hide (by rw [hW0]; exact below_al6 (Below.refl _ _))
  have c6 : W0.cell? ⟨w.heap.size, 6, none⟩ = some (lv r.lk) := (by rw [hW0]; exact (BoxR.new w r p).cs.2.2.2.2.2.2.1)
  have HA := hide (hA.below HB0.out)
  have HL : Hid (s.length = n) := hide (lies_len9 hA)
  obtain ⟨k, hk⟩ : ∃ z, z = r.lk := ⟨_, rfl⟩
  rw [← hk] at hW0 c6 ⊢
  have hW0' := hW0.symm
  clear hW0 hA hk
  match k with
  | 0 =>
    have c7 : W0.cell? ⟨w.heap.size, 6, none⟩ = some .nilFunc := c6
    have hl : lOk 0 s = decide ((n : Int) = 0) := by rw [lOk, HL.out]; exact decide_eq_decide.2 (by omega)
    rw [hl]
    clear c6 hl
    simp only [lv] at hW0'
    simp only [lv]
    have heq := eqlF_nil
    go_enter Try.func43, Try.ntmps43
    go_wp2
    go_ret
    exact ⟨by first | rfl | simp, HB0.out⟩
  | 1 =>
    have c7 : W0.cell? ⟨w.heap.size, 6, none⟩ = some (.func (.func 14) #[] #[]) := c6
    have hl : lOk 1 s = decide (0 < sizeI s) := rfl
    rw [hl]
    clear c6 hl
    simp only [lv] at hW0'
    simp only [lv]
    have heq := eqlF_one
    go_enter Try.func43, Try.ntmps43
    go_wp2_with fail
    refine Calls.mono (check_any A n c s _ HA.out hn) ?_
    rintro e w1 ⟨rfl, hb⟩
    have HB := hide (below_nx6 HB0.out hb)
    clear hb c7
    go_wp2
    go_ret
    exact ⟨rfl, HB.out⟩
  | k + 2 =>
    have c7 : W0.cell? ⟨w.heap.size, 6, none⟩ = some (.func (.func 38) #[] #[]) := c6
    have hl : lOk (k + 2) s = isOrd s := rfl
    rw [hl]
    clear c6 hl
    simp only [lv] at hW0'
    simp only [lv]
    have heq := eqlF_two
    go_enter Try.func43, Try.ntmps43
    go_wp2_with fail
    refine Calls.mono (isOrder_any A n c s _ HA.out hn) ?_
    rintro e w1 ⟨rfl, hb⟩
    have HB := hide (below_nx6 HB0.out hb)
    clear hb c7
    go_wp2
    go_ret
    exact ⟨rfl, HB.out⟩

set_option maxHeartbeats 4000000 in
theorem allows_any (r : Rl) (p : Nat) (x : Nd) (w : World) (hx : x.Ok w) :
    Calls Try.prog 23 #[r.v p, x.v] w fun e w' => e = .returned (.bool (alw r x)) ∧ Below w.heap.size w w' := by
  unfold Rl.v Nd.v
  obtain ⟨W1, hW1⟩ : ∃ W1, W1 = w.alloc (.cells #[.int .i64 r.a, .int .i64 r.b, .int .i64 r.nl, .int .i64 r.nm, .int .i64 r.pl, .int .i64 r.pm, lv r.lk, .func (.func r.f) #[.pointer (some ⟨p, 0, none⟩)] #[]] 59) := ⟨_, rfl⟩
  obtain ⟨W0, hW0⟩ : ∃ W0, W0 = W1.alloc (.cells #[.int .u8 x.kd, .slice x.I x.ni x.ci, .slice x.S x.ns x.cs, .int .i64 x.N, .int .i64 x.P] 35) := ⟨_, rfl⟩
  have HB1 : Hid (Below w.heap.size w W1) := hide (by rw [hW1]; exact below_al6 (Below.refl _ _))
  have hs1 : W1.heap.size = w.heap.size + 1 := by rw [hW1]; simp
  have HB0 : Hid (Below w.heap.size w W0) := hide (by rw [hW0]; exact below_al6 HB1.out)
  have HX : Hid (BoxN W0 W1.heap.size x) := hide (by rw [hW0]; exact BoxN.new W1 x)
  have HR : Hid (BoxR W0 w.heap.size r p) := hide (by
    have h : BoxR W1 w.heap.size r p := by rw [hW1]; exact BoxR.new w r p
    rw [hW0]
    exact h.kept (below_al6 (Below.refl _ _)))
  have HO := hide (hx.below HB0.out)
  have HLI : Hid (x.xs.length = x.ni) := hide (lies_len9 hx.1)
  rw [hs1] at HX
  have HC : Hid (∀ v, Below W0.heap.size W0 v → v.cell? ⟨w.heap.size + 1, 0, none⟩ = some (.int .u8 x.kd) ∧ v.cell? ⟨w.heap.size + 1, 1, none⟩ = some (.slice x.I x.ni x.ci) ∧ v.cell? ⟨w.heap.size + 1, 2, none⟩ = some (.slice x.S x.ns x.cs) ∧ v.cell? ⟨w.heap.size + 1, 3, none⟩ = some (.int .i64 x.N) ∧ v.cell? ⟨w.heap.size + 1, 4, none⟩ = some (.int .i64 x.P) ∧ v.cell? ⟨w.heap.size, 0, none⟩ = some (.int .i64 r.a) ∧ v.cell? ⟨w.heap.size, 1, none⟩ = some (.int .i64 r.b) ∧ v.cell? ⟨w.heap.size, 2, none⟩ = some (.int .i64 r.nl) ∧ v.cell? ⟨w.heap.size, 3, none⟩ = some (.int .i64 r.nm) ∧ v.cell? ⟨w.heap.size, 4, none⟩ = some (.int .i64 r.pl) ∧ v.cell? ⟨w.heap.size, 5, none⟩ = some (.int .i64 r.pm) ∧ v.cell? ⟨w.heap.size, 6, none⟩ = some (lv r.lk) ∧ v.cell? ⟨w.heap.size, 7, none⟩ = some (.func (.func r.f) #[.pointer (some ⟨p, 0, none⟩)] #[])) := hide (fun v hv => by
    obtain ⟨q0, q1, q2, q3, q4⟩ := (HX.out.kept hv).cs
    obtain ⟨r0, r1, r2, r3, r4, r5, r6, r7⟩ := (HR.out.kept hv).cs
    exact ⟨q0, q1, q2, q3, q4, r0, r1, r2, r3, r4, r5, r6, r7⟩)
  obtain ⟨E, hE⟩ : ∃ z, z = alw r x := ⟨_, rfl⟩
  rw [← hE]
  have HE : Hid (E = (decide (r.a ≤ (x.ni : Int) ∧ (x.ni : Int) ≤ r.b) && decide (r.nl ≤ x.N ∧ x.N ≤ r.nm) && decide (r.pl ≤ x.P ∧ x.P ≤ r.pm) && lOk r.lk x.sh)) := hide (by rw [hE, alw, HLI.out])
  obtain ⟨B1, hB1⟩ : ∃ z, z = decide (r.a ≤ (x.ni : Int) ∧ (x.ni : Int) ≤ r.b) := ⟨_, rfl⟩
  obtain ⟨B2, hB2⟩ : ∃ z, z = decide (r.nl ≤ x.N ∧ x.N ≤ r.nm) := ⟨_, rfl⟩
  obtain ⟨B3, hB3⟩ : ∃ z, z = decide (r.pl ≤ x.P ∧ x.P ≤ r.pm) := ⟨_, rfl⟩
  obtain ⟨B4, hB4⟩ : ∃ z, z = lOk r.lk x.sh := ⟨_, rfl⟩
  rw [← hB1, ← hB2, ← hB3, ← hB4] at HE
  have HS1 := hide (fun v => span_any r.a r.b (x.ni : Int) v)
  have HS2 := hide (fun v => span_any r.nl r.nm x.N v)
  have HS3 := hide (fun v => span_any r.pl r.pm x.P v)
  have HS4 := hide (fun v hv => hasList_any r p x.S x.ns x.cs x.sh v (HO.out.2.1.below hv) (by have := HO.out.2.2.2.2.2.1; omega))
  simp only [Rl.v] at HS4
  rw [← hB1] at HS1
  rw [← hB2] at HS2
  rw [← hB3] at HS3
  rw [← hB4] at HS4
  have hW0' := hW0.symm
  have hW1' := hW1.symm
  have hs1' := hs1
  clear hW0 hW1 hx hE hB1 hB2 hB3 hB4 hs1
  obtain ⟨q0, q1, q2, q3, q4, r0, r1, r2, r3, r4, r5, r6, r7⟩ := HC.out _ (Below.refl _ _)
  go_enter Try.func23, Try.ntmps23
  go_wp2_with fail
  refine Calls.mono (HS1.out _) ?_
  rintro e w1 ⟨rfl, hb⟩
  have HN1 := hide hb
  clear hb q0 q1 q2 q3 q4 r0 r1 r2 r3 r4 r5 r6 r7
  obtain ⟨q0, q1, q2, q3, q4, r0, r1, r2, r3, r4, r5, r6, r7⟩ := HC.out _ HN1.out
  cases B1 with
  | false =>
    obtain rfl : E = false := by rw [HE.out]; rfl
    go_wp2
    go_ret
    exact ⟨rfl, below_nx6 HB0.out HN1.out⟩
  | true =>
  go_wp2_with fail
  refine Calls.mono (HS2.out _) ?_
  rintro e w2 ⟨rfl, hb⟩
  have HN2 := hide (below_nx6 HN1.out hb)
  clear hb q0 q1 q2 q3 q4 r0 r1 r2 r3 r4 r5 r6 r7
  obtain ⟨q0, q1, q2, q3, q4, r0, r1, r2, r3, r4, r5, r6, r7⟩ := HC.out _ HN2.out
  cases B2 with
  | false =>
    obtain rfl : E = false := by rw [HE.out]; rfl
    go_wp2
    go_ret
    exact ⟨rfl, below_nx6 HB0.out HN2.out⟩
  | true =>
  go_wp2_with fail
  refine Calls.mono (HS3.out _) ?_
  rintro e w3 ⟨rfl, hb⟩
  have HN3 := hide (below_nx6 HN2.out hb)
  clear hb q0 q1 q2 q3 q4 r0 r1 r2 r3 r4 r5 r6 r7
  obtain ⟨q0, q1, q2, q3, q4, r0, r1, r2, r3, r4, r5, r6, r7⟩ := HC.out _ HN3.out
  cases B3 with
  | false =>
    obtain rfl : E = false := by rw [HE.out]; rfl
    go_wp2
    go_ret
    exact ⟨rfl, below_nx6 HB0.out HN3.out⟩
  | true =>
  obtain rfl : E = B4 := by rw [HE.out]; rfl
  go_wp2_with fail
  refine Calls.mono (HS4.out _ HN3.out) ?_
  rintro e w4 ⟨rfl, hb⟩
  have HN4 := hide (below_nx6 HN3.out hb)
  clear hb q0 q1 q2 q3 q4 r0 r1 r2 r3 r4 r5 r6 r7
  go_wp2
  go_ret
  exact ⟨rfl, below_nx6 HB0.out HN4.out⟩

end Go.Proofs.Ytdlhhkegkfhmoaa
