/- Merged: Gr8, Gr9, Gr10, Pm16, Pm17. -/
import Derived.Test.YtohndckbhjakfaaGreatDoorWZ23
import Derived.Test.YtohndckbhjakfaaGreatDoorWZ13
import Derived.Test.YtohndckbhjakfaaGreatDoorWZ07
namespace Go.Proofs.YtohndckbhjakfaaGreatDoor

section
open Go.RowKit
set_option linter.unusedVariables false
set_option linter.unusedSimpArgs false
set_option maxRecDepth 100000

/-- A rule: what its three numbers may be, what its list must be (0: none, 1: a shape, 2: an order), which function it is followed by. -/
structure Rl where
  a : Int
  b : Int
  nl : Int
  nm : Int
  pl : Int
  pm : Int
  lk : Nat
  f : Nat

def lv : Nat → Value
  | 0 => .nilFunc
  | 1 => .func (.func 87) #[] #[]
  | _ => .func (.func 95) #[] #[]

def lOk (k : Nat) (s : List Int) : Bool := match k with
  | 0 => decide (s.length = 0)
  | 1 => decide (0 < sizeI s)
  | _ => isOrd s

def Rl.v (r : Rl) (p : Nat) : Value := .agg #[.int .i64 r.a, .int .i64 r.b, .int .i64 r.nl, .int .i64 r.nm, .int .i64 r.pl, .int .i64 r.pm, lv r.lk, .func (.func r.f) #[.pointer (some ⟨p, 0, none⟩)] #[]]

/-- Does a node conform to a rule? -/
def alw (r : Rl) (x : Nd) : Bool := decide (r.a ≤ (x.xs.length : Int) ∧ (x.xs.length : Int) ≤ r.b) && decide (r.nl ≤ x.N ∧ x.N ≤ r.nm) && decide (r.pl ≤ x.P ∧ x.P ≤ r.pm) && lOk r.lk x.sh

/-- A rule in a block. -/
def BoxR (w : World) (q : Nat) (r : Rl) (p : Nat) : Prop := w.heap[q]? = some (.cells #[.int .i64 r.a, .int .i64 r.b, .int .i64 r.nl, .int .i64 r.nm, .int .i64 r.pl, .int .i64 r.pm, lv r.lk, .func (.func r.f) #[.pointer (some ⟨p, 0, none⟩)] #[]] 121 (0, 0))

theorem BoxR.new (w : World) (r : Rl) (p : Nat) : BoxR (w.alloc (.cells #[.int .i64 r.a, .int .i64 r.b, .int .i64 r.nl, .int .i64 r.nm, .int .i64 r.pl, .int .i64 r.pm, lv r.lk, .func (.func r.f) #[.pointer (some ⟨p, 0, none⟩)] #[]] 121)) w.heap.size r p := heap_alloc_new w _

theorem BoxR.lt {w : World} {q : Nat} {r : Rl} {p : Nat} (h : BoxR w q r p) : q < w.heap.size := lt_of_heap h

theorem BoxR.kept {w w' : World} {q : Nat} {r : Rl} {p : Nat} (h : BoxR w q r p) (hb : Below w.heap.size w w') : BoxR w' q r p := (hb.block q h.lt).trans h

theorem BoxR.cs {w : World} {q : Nat} {r : Rl} {p : Nat} (h : BoxR w q r p) : w.cell? ⟨q, 0, none⟩ = some (.int .i64 r.a) ∧ w.cell? ⟨q, 1, none⟩ = some (.int .i64 r.b) ∧ w.cell? ⟨q, 2, none⟩ = some (.int .i64 r.nl) ∧ w.cell? ⟨q, 3, none⟩ = some (.int .i64 r.nm) ∧ w.cell? ⟨q, 4, none⟩ = some (.int .i64 r.pl) ∧ w.cell? ⟨q, 5, none⟩ = some (.int .i64 r.pm) ∧ w.cell? ⟨q, 6, none⟩ = some (lv r.lk) ∧ w.cell? ⟨q, 7, none⟩ = some (.func (.func r.f) #[.pointer (some ⟨p, 0, none⟩)] #[]) :=
  ⟨cell_of_row _ _ 0 _ _ (0, 0) h, cell_of_row _ _ 1 _ _ (0, 0) h, cell_of_row _ _ 2 _ _ (0, 0) h, cell_of_row _ _ 3 _ _ (0, 0) h, cell_of_row _ _ 4 _ _ (0, 0) h, cell_of_row _ _ 5 _ _ (0, 0) h, cell_of_row _ _ 6 _ _ (0, 0) h, cell_of_row _ _ 7 _ _ (0, 0) h⟩

theorem eqlF_nil (w : World) : (binOp BinOp.eql 118 .nilFunc .nilFunc).run Tryz.prog w = .ok (.bool true) w := by kernel_rfl

theorem eqlF_one (w : World) : (binOp BinOp.eql 118 (.func (.func 87) #[] #[]) .nilFunc).run Tryz.prog w = .ok (.bool false) w := by kernel_rfl

theorem eqlF_two (w : World) : (binOp BinOp.eql 118 (.func (.func 95) #[] #[]) .nilFunc).run Tryz.prog w = .ok (.bool false) w := by kernel_rfl

set_option maxHeartbeats 2000000 in
theorem hasList_any (r : Rl) (p : Nat) (A : Option Addr) (n c : Nat) (s : List Int) (w : World) (hA : Lies w A n (s.map (Value.int .i64))) (hn : n ≤ 281474976710656) :
    Calls Tryz.prog 100 #[r.v p, .slice A n c] w fun e w' => e = .returned (.bool (lOk r.lk s)) ∧ Below w.heap.size w w' := by
  unfold Rl.v
  obtain ⟨W0, hW0⟩ : ∃ W0, W0 = w.alloc (.cells #[.int .i64 r.a, .int .i64 r.b, .int .i64 r.nl, .int .i64 r.nm, .int .i64 r.pl, .int .i64 r.pm, lv r.lk, .func (.func r.f) #[.pointer (some ⟨p, 0, none⟩)] #[]] 121) := ⟨_, rfl⟩
  have HB0 : Hid (Below w.heap.size w W0) := hide (by rw [hW0]; exact below_al6 (Below.refl _ _))
  have c6 : W0.cell? ⟨w.heap.size, 6, none⟩ = some (lv r.lk) := (by rw [hW0]; exact (BoxR.new w r p).cs.2.2.2.2.2.2.1)
  have HA := hide (hA.below HB0.out)
  have HL : Hid (s.length = n) := hide (lies_len9 hA)
  obtain ⟨k, hk⟩ : ∃ z, z = r.lk := ⟨_, rfl⟩
  rw [← hk] at hW0 c6 ⊢
  have hW0' := hW0.symm
  clear hW0 hA hk
  match k with
  | 0 =>
    have c7 : W0.cell? ⟨w.heap.size, 6, none⟩ = some .nilFunc := c6
    have hl : lOk 0 s = decide ((n : Int) = 0) := by rw [lOk, HL.out]; exact decide_eq_decide.2 (by omega)
    rw [hl]
    clear c6 hl
    simp only [lv] at hW0'
    simp only [lv]
    have heq := eqlF_nil
    go_enter Tryz.func100, Tryz.ntmps100
    go_wp2
    go_ret
    exact ⟨by first | rfl | simp, HB0.out⟩
  | 1 =>
    have c7 : W0.cell? ⟨w.heap.size, 6, none⟩ = some (.func (.func 87) #[] #[]) := c6
    have hl : lOk 1 s = decide (0 < sizeI s) := rfl
    rw [hl]
    clear c6 hl
    simp only [lv] at hW0'
    simp only [lv]
    have heq := eqlF_one
    go_enter Tryz.func100, Tryz.ntmps100
    go_wp2_with fail
    refine Calls.mono (check_any A n c s _ HA.out hn) ?_
    rintro e w1 ⟨rfl, hb⟩
    have HB := hide (below_nx6 HB0.out hb)
    clear hb c7
    go_wp2
    go_ret
    exact ⟨rfl, HB.out⟩
  | k + 2 =>
    have c7 : W0.cell? ⟨w.heap.size, 6, none⟩ = some (.func (.func 95) #[] #[]) := c6
    have hl : lOk (k + 2) s = isOrd s := rfl
    rw [hl]
    clear c6 hl
    simp only [lv] at hW0'
    simp only [lv]
    have heq := eqlF_two
    go_enter Tryz.func100, Tryz.ntmps100
    go_wp2_with fail
    refine Calls.mono (isOrder_any A n c s _ HA.out hn) ?_
    rintro e w1 ⟨rfl, hb⟩
    have HB := hide (below_nx6 HB0.out hb)
    clear hb c7
    go_wp2
    go_ret
    exact ⟨rfl, HB.out⟩

set_option maxHeartbeats 4000000 in
theorem allows_any (r : Rl) (p : Nat) (x : Nd) (w : World) (hx : x.Ok w) :
    Calls Tryz.prog 58 #[r.v p, x.v] w fun e w' => e = .returned (.bool (alw r x)) ∧ Below w.heap.size w w' := by
  unfold Rl.v Nd.v
  obtain ⟨W1, hW1⟩ : ∃ W1, W1 = w.alloc (.cells #[.int .i64 r.a, .int .i64 r.b, .int .i64 r.nl, .int .i64 r.nm, .int .i64 r.pl, .int .i64 r.pm, lv r.lk, .func (.func r.f) #[.pointer (some ⟨p, 0, none⟩)] #[]] 121) := ⟨_, rfl⟩
  obtain ⟨W0, hW0⟩ : ∃ W0, W0 = W1.alloc (.cells #[.int .u8 x.kd, .slice x.I x.ni x.ci, .slice x.S x.ns x.cs, .int .i64 x.N, .int .i64 x.P] 44) := ⟨_, rfl⟩
  have HB1 : Hid (Below w.heap.size w W1) := hide (by rw [hW1]; exact below_al6 (Below.refl _ _))
  have hs1 : W1.heap.size = w.heap.size + 1 := by rw [hW1]; simp
  have HB0 : Hid (Below w.heap.size w W0) := hide (by rw [hW0]; exact below_al6 HB1.out)
  have HX : Hid (BoxN W0 W1.heap.size x) := hide (by rw [hW0]; exact BoxN.new W1 x)
  have HR : Hid (BoxR W0 w.heap.size r p) := hide (by
    have h : BoxR W1 w.heap.size r p := by rw [hW1]; exact BoxR.new w r p
    rw [hW0]
    exact h.kept (below_al6 (Below.refl _ _)))
  have HO := hide (hx.below HB0.out)
  have HLI : Hid (x.xs.length = x.ni) := hide (lies_len9 hx.1)
  rw [hs1] at HX
  have HC : Hid (∀ v, Below W0.heap.size W0 v → v.cell? ⟨w.heap.size + 1, 0, none⟩ = some (.int .u8 x.kd) ∧ v.cell? ⟨w.heap.size + 1, 1, none⟩ = some (.slice x.I x.ni x.ci) ∧ v.cell? ⟨w.heap.size + 1, 2, none⟩ = some (.slice x.S x.ns x.cs) ∧ v.cell? ⟨w.heap.size + 1, 3, none⟩ = some (.int .i64 x.N) ∧ v.cell? ⟨w.heap.size + 1, 4, none⟩ = some (.int .i64 x.P) ∧ v.cell? ⟨w.heap.size, 0, none⟩ = some (.int .i64 r.a) ∧ v.cell? ⟨w.heap.size, 1, none⟩ = some (.int .i64 r.b) ∧ v.cell? ⟨w.heap.size, 2, none⟩ = some (.int .i64 r.nl) ∧ v.cell? ⟨w.heap.size, 3, none⟩ = some (.int .i64 r.nm) ∧ v.cell? ⟨w.heap.size, 4, none⟩ = some (.int .i64 r.pl) ∧ v.cell? ⟨w.heap.size, 5, none⟩ = some (.int .i64 r.pm) ∧ v.cell? ⟨w.heap.size, 6, none⟩ = some (lv r.lk) ∧ v.cell? ⟨w.heap.size, 7, none⟩ = some (.func (.func r.f) #[.pointer (some ⟨p, 0, none⟩)] #[])) := hide (fun v hv => by
    obtain ⟨q0, q1, q2, q3, q4⟩ := (HX.out.kept hv).cs
    obtain ⟨r0, r1, r2, r3, r4, r5, r6, r7⟩ := (HR.out.kept hv).cs
    exact ⟨q0, q1, q2, q3, q4, r0, r1, r2, r3, r4, r5, r6, r7⟩)
  obtain ⟨E, hE⟩ : ∃ z, z = alw r x := ⟨_, rfl⟩
  rw [← hE]
  have HE : Hid (E = (decide (r.a ≤ (x.ni : Int) ∧ (x.ni : Int) ≤ r.b) && decide (r.nl ≤ x.N ∧ x.N ≤ r.nm) && decide (r.pl ≤ x.P ∧ x.P ≤ r.pm) && lOk r.lk x.sh)) := hide (by rw [hE, alw, HLI.out])
  obtain ⟨B1, hB1⟩ : ∃ z, z = decide (r.a ≤ (x.ni : Int) ∧ (x.ni : Int) ≤ r.b) := ⟨_, rfl⟩
  obtain ⟨B2, hB2⟩ : ∃ z, z = decide (r.nl ≤ x.N ∧ x.N ≤ r.nm) := ⟨_, rfl⟩
  obtain ⟨B3, hB3⟩ : ∃ z, z = decide (r.pl ≤ x.P ∧ x.P ≤ r.pm) := ⟨_, rfl⟩
  obtain ⟨B4, hB4⟩ : ∃ z, z = lOk r.lk x.sh := ⟨_, rfl⟩
  rw [← hB1, ← hB2, ← hB3, ← hB4] at HE
  have HS1 := hide (fun v => span_any r.a r.b (x.ni : Int) v)
  have HS2 := hide (fun v => span_any r.nl r.nm x.N v)
  have HS3 := hide (fun v => span_any r.pl r.pm x.P v)
  have HS4 := hide (fun v hv => hasList_any r p x.S x.ns x.cs x.sh v (HO.out.2.1.below hv) (by have := HO.out.2.2.2.2.2.1; omega))
  simp only [Rl.v] at HS4
  rw [← hB1] at HS1
  rw [← hB2] at HS2
  rw [← hB3] at HS3
  rw [← hB4] at HS4
  have hW0' := hW0.symm
  have hW1' := hW1.symm
  have hs1' := hs1
  clear hW0 hW1 hx hE hB1 hB2 hB3 hB4 hs1
  obtain ⟨q0, q1, q2, q3, q4, r0, r1, r2, r3, r4, r5, r6, r7⟩ := HC.out _ (Below.refl _ _)
  go_enter Tryz.func58, Tryz.ntmps58
  go_wp2_with fail
  refine Calls.mono (HS1.out _) ?_
  rintro e w1 ⟨rfl, hb⟩
  have HN1 := hide hb
  clear hb q0 q1 q2 q3 q4 r0 r1 r2 r3 r4 r5 r6 r7
  obtain ⟨q0, q1, q2, q3, q4, r0, r1, r2, r3, r4, r5, r6, r7⟩ := HC.out _ HN1.out
  cases B1 with
  | false =>
    obtain rfl : E = false := by rw [HE.out]; rfl
    go_wp2
    go_ret
    exact ⟨rfl, below_nx6 HB0.out HN1.out⟩
  | true =>
  go_wp2_with fail
  refine Calls.mono (HS2.out _) ?_
  rintro e w2 ⟨rfl, hb⟩
  have HN2 := hide (below_nx6 HN1.out hb)
  clear hb q0 q1 q2 q3 q4 r0 r1 r2 r3 r4 r5 r6 r7
  obtain ⟨q0, q1, q2, q3, q4, r0, r1, r2, r3, r4, r5, r6, r7⟩ := HC.out _ HN2.out
  cases B2 with
  | false =>
    obtain rfl : E = false := by rw [HE.out]; rfl
    go_wp2
    go_ret
    exact ⟨rfl, below_nx6 HB0.out HN2.out⟩
  | true =>
  go_wp2_with fail
  refine Calls.mono (HS3.out _) ?_
  rintro e w3 ⟨rfl, hb⟩
  have HN3 := hide (below_nx6 HN2.out hb)
  clear hb q0 q1 q2 q3 q4 r0 r1 r2 r3 r4 r5 r6 r7
  obtain ⟨q0, q1, q2, q3, q4, r0, r1, r2, r3, r4, r5, r6, r7⟩ := HC.out _ HN3.out
  cases B3 with
  | false =>
    obtain rfl : E = false := by rw [HE.out]; rfl
    go_wp2
    go_ret
    exact ⟨rfl, below_nx6 HB0.out HN3.out⟩
  | true =>
  obtain rfl : E = B4 := by rw [HE.out]; rfl
  go_wp2_with fail
  refine Calls.mono (HS4.out _ HN3.out) ?_
  rintro e w4 ⟨rfl, hb⟩
  have HN4 := hide (below_nx6 HN3.out hb)
  clear hb q0 q1 q2 q3 q4 r0 r1 r2 r3 r4 r5 r6 r7
  go_wp2
  go_ret
  exact ⟨rfl, below_nx6 HB0.out HN4.out⟩

end

section
open Go.RowKit
set_option linter.unusedVariables false
set_option linter.unusedSimpArgs false
set_option maxRecDepth 100000

theorem NsIn.drop {w : World} {b o n k : Nat} {ns : List Nd} (h : NsIn w (some ⟨b, o, none⟩) n ns) (hk : k ≤ n) : NsIn w (some ⟨b, o + k * 5, none⟩) (n - k) (ns.drop k) :=
  ⟨by rw [List.length_drop, h.1], fun hn => by
    obtain ⟨b2, o2, e, hlt, hx⟩ := h.2 (by omega)
    cases e
    refine ⟨b, o + k * 5, rfl, hlt, fun j x hj => ?_⟩
    rw [List.getElem?_drop] at hj
    have := hx (k + j) x hj
    rw [show o + (k + j) * 5 = o + k * 5 + j * 5 by omega] at this
    exact this⟩

theorem NsIn.nil0 {w : World} (A : Option Addr) {ns : List Nd} (h : ns.length = 0) : NsIn w A 0 ns := ⟨h, fun hn => absurd hn (by omega)⟩

/-- May the last of a list of nodes be the output? -/
def lastOk (ns : List Nd) : Bool := match ns[ns.length - 1]? with
  | some x => !(x.kd == 1) && (x.kd != 2)
  | none => false

/-- At most 32 nodes, one input, a last one that may be the output. -/
def endsOk (ns : List Nd) : Bool := decide (ns.length ≤ 32) && decide (0 ≤ inIx ns) && !(decide (0 ≤ inIx (ns.drop ((inIx ns).toNat + 1)))) && lastOk ns

set_option maxHeartbeats 4000000 in
theorem hasEnds_any (A : Option Addr) (n c : Nat) (ns : List Nd) (w : World) (h : NsIn w A n ns) (hn : n ≤ 1073741824) (hc : n ≤ c) :
    Calls Tryz.prog 56 #[.slice A n c] w fun e w' => e = .returned (.bool (endsOk ns)) ∧ Below w.heap.size w w' := by
  have HL : Hid (ns.length = n) := hide h.1
  have HN := hide h
  have HIX := hide (indexFunc_any A n c ns w h (by omega))
  obtain ⟨E, hE⟩ : ∃ z, z = endsOk ns := ⟨_, rfl⟩
  rw [← hE]
  have HE : Hid (E = (decide (n ≤ 32) && decide (0 ≤ inIx ns) && !(decide (0 ≤ inIx (ns.drop ((inIx ns).toNat + 1)))) && lastOk ns)) := hide (by rw [hE, endsOk, HL.out])
  have HGE := hide (inIx_ge ns)
  obtain ⟨f, hf⟩ : ∃ z, z = inIx ns := ⟨_, rfl⟩
  rw [← hf] at HIX HGE HE
  clear h hE hf
  go_enter Tryz.func56, Tryz.ntmps56
  go_wp2_with fail
  refine Calls.mono HIX.out ?_
  rintro e w1 ⟨rfl, hb⟩
  have HB1 := hide hb
  clear hb
  by_cases h32 : 32 < n
  · have f1 : (32 : Int) < (n : Int) := by omega
    obtain rfl : E = false := by rw [HE.out, decide_eq_false (by omega)]; rfl
    clear h32
    go_wp2
    go_ret
    exact ⟨rfl, HB1.out⟩
  have f1 : ¬ ((32 : Int) < (n : Int)) := by omega
  by_cases hf0 : f < 0
  · obtain rfl : E = false := by rw [HE.out, decide_eq_false (show ¬ 0 ≤ f by omega)]; simp
    clear h32
    go_wp2
    go_ret
    exact ⟨rfl, HB1.out⟩
  obtain ⟨k, hk⟩ := Int.eq_ofNat_of_zero_le (show 0 ≤ f by omega)
  subst hk
  have hkn : k < n := by
    rcases HGE.out with h | h
    · omega
    · have := HL.out; omega
  obtain ⟨b, o, rfl, hbl, _⟩ := HN.out.2 (by omega)
  obtain ⟨a2, ha2⟩ : ∃ z, z = k + 1 := ⟨_, rfl⟩
  obtain ⟨r, hr⟩ : ∃ z, z = n - a2 := ⟨_, rfl⟩
  obtain ⟨rc, hrc⟩ : ∃ z, z = c - a2 := ⟨_, rfl⟩
  have m1 : IntKind.i64.wrap ((k : Int) + 1) = (a2 : Int) := by rw [IntKind.wrap_i64]; omega
  have k3 : (0 : Int) ≤ (a2 : Int) := by omega
  have k4 : (a2 : Int) ≤ (n : Int) := by omega
  have k5 : (n : Int) ≤ (c : Int) := by omega
  have k7 : a2 ≤ n := by omega
  have k8 : n ≤ c := hc
  have k9 : n - a2 = r := hr.symm
  have k10 : c - a2 = rc := hrc.symm
  have HR4 : Hid (r ≤ 32 ∧ a2 = k + 1 ∧ n - a2 = r ∧ a2 ≤ n ∧ n ≤ c ∧ 1 ≤ n ∧ n ≤ 32) := hide (by omega)
  obtain ⟨B, hB⟩ : ∃ z : Bool, z = decide (0 ≤ inIx (ns.drop a2)) := ⟨_, rfl⟩
  have HE2 : Hid (E = (!B && lastOk ns)) := hide (by rw [HE.out, hB, ha2, decide_eq_true (show n ≤ 32 by omega), decide_eq_true (show (0 : Int) ≤ (k : Int) by omega), Int.toNat_natCast]; simp)
  have HCF : Hid (∀ v, Below w.heap.size w v → ∀ A2, A2 = (if c = a2 then some ⟨b, o, none⟩ else some ⟨b, o + a2 * 5, none⟩) → Calls Tryz.prog 86 #[.slice A2 r rc, .func (.func 85) #[] #[]] v fun e w' => e = .returned (.bool B) ∧ Below v.heap.size v w') := hide (fun v hv A2 hA2 => by
    rw [hB]
    refine containsFunc_any A2 r rc (ns.drop a2) v ?_ (by omega)
    have h := (HN.out.below hv).drop (k := a2) k7
    rw [k9] at h
    rw [hA2]
    by_cases e : c = a2
    · rw [if_pos e]
      obtain rfl : r = 0 := by omega
      exact NsIn.nil0 _ h.1
    · rw [if_neg e]; exact h)
  clear hr hrc h32 hkn hB hf0 hc
  clear ha2
  by_cases e : c = a2
  · obtain rfl : c = a2 := e
    obtain rfl : rc = 0 := by omega
    have HCG := hide (HCF.out w1 HB1.out _ (if_pos rfl).symm)
    clear HCF
    go_wp2_with fail
    refine Calls.mono HCG.out ?_
    rintro e w2 ⟨rfl, hb⟩
    have HB2 := hide (below_nx6 HB1.out hb)
    clear hb HCG
    cases B with
    | true =>
      obtain rfl : E = false := by rw [HE2.out]; rfl
      go_wp2
      go_ret
      exact ⟨rfl, HB2.out⟩
    | false =>
      have hE3 : E = lastOk ns := by rw [HE2.out]; rfl
      obtain ⟨l, hl⟩ : ∃ z, z = n - 1 := ⟨_, rfl⟩
      have m2 : IntKind.i64.wrap ((n : Int) - 1) = (l : Int) := by rw [IntKind.wrap_i64]; have := HR4.out; omega
      have hln : l < n := by have := HR4.out; omega
      obtain ⟨b2, o2, x, eA, hxl, h0, h1, h2, h3, h4, hxo⟩ := (HN.out.below HB2.out).at hln
      cases eA
      have hE4 : E = (!(x.kd == 1) && (x.kd != 2)) := by rw [hE3, lastOk, HL.out, ← hl, hxl]
      have g0 : (0 : Int) ≤ (l : Int) := by omega
      have g1 : (l : Int) < (n : Int) := by omega
      obtain ⟨U, hU⟩ : ∃ U, U = w2.alloc (.cells #[.int .u8 x.kd, .slice x.I x.ni x.ci, .slice x.S x.ns x.cs, .int .i64 x.N, .int .i64 x.P] 44) := ⟨_, rfl⟩
      have HBU : Hid (Below w.heap.size w U) := hide (by rw [hU]; exact below_al6 HB2.out)
      have HXU : Hid (BoxN U w2.heap.size x) := hide (by rw [hU]; exact BoxN.new w2 x)
      have hU' := hU.symm
      have HIN := hide (isInput_any x U)
      unfold Nd.v at HIN
      obtain ⟨q0, q1, q2, q3, q4⟩ := HXU.out.cs
      have HE4 := hide hE4
      clear hU hE3 hE4 hl hxl hln hxo
      go_wp2_with fail
      refine Calls.mono HIN.out ?_
      rintro e w3 ⟨rfl, hb⟩
      have HB3 := hide (below_nx6 HBU.out hb)
      obtain ⟨p0, p1, p2, p3, p4⟩ := (HXU.out.kept hb).cs
      clear hb HIN q0 q1 q2 q3 q4 h0 h1 h2 h3 h4
      obtain ⟨B5, hB5⟩ : ∃ z, z = (x.kd == 1) := ⟨_, rfl⟩
      rw [← hB5] at HE4 ⊢
      clear hB5
      cases B5 with
      | true =>
        obtain rfl : E = false := by rw [HE4.out]; rfl
        go_wp2
        go_ret
        exact ⟨rfl, HB3.out⟩
      | false =>
        obtain rfl : E = (x.kd != 2) := by rw [HE4.out]; rfl
        go_wp2
        go_ret
        exact ⟨by first | rfl | simp, HB3.out⟩
  · have HCG := hide (HCF.out w1 HB1.out _ (if_neg e).symm)
    clear HCF
    go_wp2_with fail
    refine Calls.mono HCG.out ?_
    rintro e w2 ⟨rfl, hb⟩
    have HB2 := hide (below_nx6 HB1.out hb)
    clear hb HCG
    cases B with
    | true =>
      obtain rfl : E = false := by rw [HE2.out]; rfl
      go_wp2
      go_ret
      exact ⟨rfl, HB2.out⟩
    | false =>
      have hE3 : E = lastOk ns := by rw [HE2.out]; rfl
      obtain ⟨l, hl⟩ : ∃ z, z = n - 1 := ⟨_, rfl⟩
      have m2 : IntKind.i64.wrap ((n : Int) - 1) = (l : Int) := by rw [IntKind.wrap_i64]; have := HR4.out; omega
      have hln : l < n := by have := HR4.out; omega
      obtain ⟨b2, o2, x, eA, hxl, h0, h1, h2, h3, h4, hxo⟩ := (HN.out.below HB2.out).at hln
      cases eA
      have hE4 : E = (!(x.kd == 1) && (x.kd != 2)) := by rw [hE3, lastOk, HL.out, ← hl, hxl]
      have g0 : (0 : Int) ≤ (l : Int) := by omega
      have g1 : (l : Int) < (n : Int) := by omega
      obtain ⟨U, hU⟩ : ∃ U, U = w2.alloc (.cells #[.int .u8 x.kd, .slice x.I x.ni x.ci, .slice x.S x.ns x.cs, .int .i64 x.N, .int .i64 x.P] 44) := ⟨_, rfl⟩
      have HBU : Hid (Below w.heap.size w U) := hide (by rw [hU]; exact below_al6 HB2.out)
      have HXU : Hid (BoxN U w2.heap.size x) := hide (by rw [hU]; exact BoxN.new w2 x)
      have hU' := hU.symm
      have HIN := hide (isInput_any x U)
      unfold Nd.v at HIN
      obtain ⟨q0, q1, q2, q3, q4⟩ := HXU.out.cs
      have HE4 := hide hE4
      clear hU hE3 hE4 hl hxl hln hxo
      go_wp2_with fail
      refine Calls.mono HIN.out ?_
      rintro e w3 ⟨rfl, hb⟩
      have HB3 := hide (below_nx6 HBU.out hb)
      obtain ⟨p0, p1, p2, p3, p4⟩ := (HXU.out.kept hb).cs
      clear hb HIN q0 q1 q2 q3 q4 h0 h1 h2 h3 h4
      obtain ⟨B5, hB5⟩ : ∃ z, z = (x.kd == 1) := ⟨_, rfl⟩
      rw [← hB5] at HE4 ⊢
      clear hB5
      cases B5 with
      | true =>
        obtain rfl : E = false := by rw [HE4.out]; rfl
        go_wp2
        go_ret
        exact ⟨rfl, HB3.out⟩
      | false =>
        obtain rfl : E = (x.kd != 2) := by rw [HE4.out]; rfl
        go_wp2
        go_ret
        exact ⟨by first | rfl | simp, HB3.out⟩

end

section
open Go.RowKit
set_option linter.unusedVariables false
set_option linter.unusedSimpArgs false
set_option maxRecDepth 100000

/-- The rules of the kinds, from 1 on. -/
def rlT : Nat → Rl
  | 1 => ⟨0, 0, 0, 0, 0, 0, 1, 88⟩
  | 2 => ⟨0, 0, 0, 0, 0, 0, 1, 88⟩
  | 3 => ⟨2, 2, 0, 0, 0, 0, 0, 89⟩
  | 4 => ⟨2, 2, 0, 0, 0, 0, 0, 89⟩
  | 5 => ⟨1, 1, 0, 0, 0, 0, 0, 90⟩
  | 6 => ⟨1, 1, 0, 31, 0, 0, 0, 90⟩
  | 7 => ⟨2, 2, 0, 0, 0, 0, 0, 91⟩
  | 8 => ⟨2, 2, 1, 8, 0, 8, 0, 92⟩
  | 9 => ⟨1, 1, 1, 64, 0, 0, 0, 93⟩
  | 10 => ⟨1, 1, 0, 0, 0, 0, 1, 94⟩
  | 11 => ⟨1, 1, 0, 0, 0, 0, 2, 96⟩
  | 12 => ⟨1, 4, 0, 3, 0, 0, 0, 97⟩
  | _ => ⟨1, 1, 0, 3, 0, 0, 0, 98⟩

/-- The first n entries of the map of rules. -/
def ruEs (p n : Nat) : Array MapEntry := ((List.range n).map (fun (i : Nat) => (⟨.int .u8 ((i : Int) + 1), (rlT (i + 1)).v p, i⟩ : MapEntry))).toArray

theorem ruEs_succ (p n : Nat) : ruEs p (n + 1) = (ruEs p n).push ⟨.int .u8 ((n : Int) + 1), (rlT (n + 1)).v p, n⟩ := by
  simp [ruEs, List.range_succ]

/-- The map of rules while it is filled, and what the call has laid beside it. -/
def RuAt (w0 w : World) (q p n : Nat) : Prop := w.heap[q + 4]? = some (.map (ruEs p n) n) ∧ w.heap[q]? = some (.cells #[.int .i64 0, .int .i64 0] 117 (0, 0)) ∧ w.heap[q + 1]? = some (.cells #[.int .i64 1, .int .i64 1] 117 (0, 0)) ∧ w.heap[q + 2]? = some (.cells #[.int .i64 2, .int .i64 2] 117 (0, 0)) ∧ w.heap[q + 3]? = some (.cells #[.int .i64 0, .int .i64 3] 117 (0, 0)) ∧ Below q w0 w

theorem RuAt.cs {w0 w : World} {q p n : Nat} (h : RuAt w0 w q p n) : w.cell? ⟨q, 0, none⟩ = some (.int .i64 0) ∧ w.cell? ⟨q, 1, none⟩ = some (.int .i64 0) ∧ w.cell? ⟨q + 1, 0, none⟩ = some (.int .i64 1) ∧ w.cell? ⟨q + 1, 1, none⟩ = some (.int .i64 1) ∧ w.cell? ⟨q + 1 + 1, 0, none⟩ = some (.int .i64 2) ∧ w.cell? ⟨q + 1 + 1, 1, none⟩ = some (.int .i64 2) ∧ w.cell? ⟨q + 1 + 1 + 1, 0, none⟩ = some (.int .i64 0) ∧ w.cell? ⟨q + 1 + 1 + 1, 1, none⟩ = some (.int .i64 3) := by
  obtain ⟨_, h0, h1, h2, h3, _⟩ := h
  exact ⟨cell_of_row _ _ 0 _ _ (0, 0) h0, cell_of_row _ _ 1 _ _ (0, 0) h0, cell_of_row _ _ 0 _ _ (0, 0) h1, cell_of_row _ _ 1 _ _ (0, 0) h1, cell_of_row _ _ 0 _ _ (0, 0) h2, cell_of_row _ _ 1 _ _ (0, 0) h2, cell_of_row _ _ 0 _ _ (0, 0) h3, cell_of_row _ _ 1 _ _ (0, 0) h3⟩

theorem ruKeys (p n : Nat) : ∀ x ∈ (ruEs p n).toList, MapKept.IsKey (.int .u8) x.key := by
  intro x hx
  simp only [ruEs, List.mem_map, List.mem_range] at hx
  obtain ⟨i, _, rfl⟩ := hx
  rfl

theorem RuAt.ins {w0 w : World} {q p n : Nat} (h : RuAt w0 w q p n) : ∃ w', (Instr.mapUpdate 114 (.map (some (q + 4))) (.int .u8 ((n : Int) + 1)) ((rlT (n + 1)).v p)).run Tryz.prog w = .ok () w' ∧ RuAt w0 w' q p (n + 1) := by
  obtain ⟨hm, h0, h1, h2, h3, hb⟩ := h
  have hkey : MapKept.IsKey (.int .u8) (.int .u8 ((n : Int) + 1)) := rfl
  have ht : Tryz.prog.underlying 114 = some (.map 42 121) := Tryz.underlying114
  have hk : Tryz.prog.underlying 42 = some (.int .u8) := Tryz.underlying42
  have hfn : Instr.findNow (.int .u8) (.int .u8 ((n : Int) + 1)) (ruEs p n).toList 0 = some none := by
    rcases MapKept.findNow_spec hkey (ruEs p n).toList 0 (ruKeys p n) with ⟨h, _⟩ | ⟨j, e, _, h5, h6⟩
    · exact h
    · exfalso
      have hmem := List.mem_of_getElem? h5
      simp only [ruEs, List.mem_map, List.mem_range] at hmem
      obtain ⟨i, hi, rfl⟩ := hmem
      simp only [Value.int.injEq, true_and] at h6
      omega
  have hlt : q + 4 < w.heap.size := (Array.getElem?_eq_some_iff.1 hm).1
  refine ⟨{ w with heap := w.heap.setIfInBounds (q + 4) (.map (ruEs p (n + 1)) (n + 1)) }, ?_, ?_, ?_, ?_, ?_, ?_, ?_⟩
  · simp [Instr.mapUpdate, run_underlying ht, MapKept.run_getObj_map hm, MapKept.run_checkKey hk hkey, MapKept.run_findKey hk hfn, MapKept.run_setObj_map _ hm, Result.andThen, ruEs_succ]
  · exact (MapKept.heap_set hm).1
  · exact ((MapKept.heap_set hm).2 q (by omega)).trans h0
  · exact ((MapKept.heap_set hm).2 (q + 1) (by omega)).trans h1
  · exact ((MapKept.heap_set hm).2 (q + 2) (by omega)).trans h2
  · exact ((MapKept.heap_set hm).2 (q + 3) (by omega)).trans h3
  · exact ⟨hb.os, hb.tape, hb.output, by simpa using hb.size, fun k hk => ((MapKept.heap_set hm).2 k (by omega)).trans (hb.block k hk)⟩

theorem upon_ins {w0 w : World} {q p n : Nat} {o : Oper} {a : Act} {next : Act → World → Prop} {Q : Exit → Act → World → Prop} {f : Unit → World → Result Next} {k : Int} {v : Value} (h : RuAt w0 w q p n) (hk : k = (n : Int) + 1) (hv : v = (rlT (n + 1)).v p)
    (hK : ∀ w', RuAt w0 w' q p (n + 1) → Oper.upon Tryz.prog o a next Q (f () w')) :
    Oper.upon Tryz.prog o a next Q (((Instr.mapUpdate 114 (.map (some (q + 1 + 1 + 1 + 1))) (.int .u8 k) v).run Tryz.prog w).andThen f) := by
  subst hk hv
  obtain ⟨w', hr, hm⟩ := h.ins
  rw [hr]
  exact hK w' hm

set_option maxHeartbeats 8000000 in
theorem rules_any (p : Nat) (w : World) :
    Calls Tryz.prog 57 #[.pointer (some ⟨p, 0, none⟩)] w fun e w' => ∃ b, e = .returned (.map (some b)) ∧ w.heap.size ≤ b ∧ w'.heap[b]? = some (.map (ruEs p 13) 13) ∧ Below w.heap.size w w' := by
  obtain ⟨q, hq⟩ : ∃ q, q = w.heap.size := ⟨_, rfl⟩
  have hq' := hq.symm
  have hmm := @run_makeMap Tryz.prog
  obtain ⟨W1, hW1⟩ : ∃ W, W = w.alloc (.cells #[.int .i64 0, .int .i64 0] 117) := ⟨_, rfl⟩
  obtain ⟨W2, hW2⟩ : ∃ W, W = W1.alloc (.cells #[.int .i64 1, .int .i64 1] 117) := ⟨_, rfl⟩
  obtain ⟨W3, hW3⟩ : ∃ W, W = W2.alloc (.cells #[.int .i64 2, .int .i64 2] 117) := ⟨_, rfl⟩
  obtain ⟨W4, hW4⟩ : ∃ W, W = W3.alloc (.cells #[.int .i64 0, .int .i64 3] 117) := ⟨_, rfl⟩
  obtain ⟨W5, hW5⟩ : ∃ W, W = W4.alloc (.map #[] 0) := ⟨_, rfl⟩
  have hs1 : W1.heap.size = q + 1 := by rw [hW1, hq]; simp
  have hs2 : W2.heap.size = q + 2 := by rw [hW2]; simp [hs1]
  have hs3 : W3.heap.size = q + 3 := by rw [hW3]; simp [hs2]
  have hs4 : W4.heap.size = q + 4 := by rw [hW4]; simp [hs3]
  have HM0 : Hid (RuAt w W5 q p 0) := hide (by
    have b1 : Below q w W1 := by rw [hW1]; exact (Below.refl q w).alloc (by omega) _
    have b2 : Below (q + 1) W1 W2 := by rw [hW2]; exact (Below.refl (q + 1) W1).alloc (by omega) _
    have b3 : Below (q + 2) W2 W3 := by rw [hW3]; exact (Below.refl (q + 2) W2).alloc (by omega) _
    have b4 : Below (q + 3) W3 W4 := by rw [hW4]; exact (Below.refl (q + 3) W3).alloc (by omega) _
    have b5 : Below (q + 4) W4 W5 := by rw [hW5]; exact (Below.refl (q + 4) W4).alloc (by omega) _
    have g1 : W1.heap[q]? = some (.cells #[.int .i64 0, .int .i64 0] 117 (0, 0)) := by rw [hW1, hq]; exact heap_alloc_new w _
    have g2 : W2.heap[q + 1]? = some (.cells #[.int .i64 1, .int .i64 1] 117 (0, 0)) := by rw [hW2, ← hs1]; exact heap_alloc_new W1 _
    have g3 : W3.heap[q + 2]? = some (.cells #[.int .i64 2, .int .i64 2] 117 (0, 0)) := by rw [hW3, ← hs2]; exact heap_alloc_new W2 _
    have g4 : W4.heap[q + 3]? = some (.cells #[.int .i64 0, .int .i64 3] 117 (0, 0)) := by rw [hW4, ← hs3]; exact heap_alloc_new W3 _
    have g5 : W5.heap[q + 4]? = some (.map #[] 0) := by rw [hW5, ← hs4]; exact heap_alloc_new W4 _
    have e0 : ruEs p 0 = #[] := rfl
    rw [← e0] at g5
    refine ⟨g5, ?_, ?_, ?_, ?_, ?_⟩
    · rw [b5.block q (by omega), b4.block q (by omega), b3.block q (by omega), b2.block q (by omega)]; exact g1
    · rw [b5.block _ (by omega), b4.block _ (by omega), b3.block _ (by omega)]; exact g2
    · rw [b5.block _ (by omega), b4.block _ (by omega)]; exact g3
    · rw [b5.block _ (by omega)]; exact g4
    · exact (((b1.trans (b2.mono (by omega))).trans (b3.mono (by omega))).trans (b4.mono (by omega))).trans (b5.mono (by omega)))
  rw [hW4, hW3, hW2, hW1] at hW5
  have hW5' := hW5.symm
  clear hW1 hW2 hW3 hW4 hW5 hs1 hs2 hs3 hs4
  have HQ := hide hq
  clear hq
  obtain ⟨c0, c1, c2, c3, c4, c5, c6, c7⟩ := HM0.out.cs
  go_enter Tryz.func57, Tryz.ntmps57
  go_wp2_with fail
  refine upon_ins (n := 0) HM0.out ?_ ?_ ?_
  · decide
  · rfl
  intro w1 hm
  have HM1 := hide hm
  clear hm c0 c1 c2 c3 c4 c5 c6 c7 hmm hW5' HM0
  obtain ⟨c0, c1, c2, c3, c4, c5, c6, c7⟩ := HM1.out.cs
  go_wp2_with fail
  refine upon_ins (n := 1) HM1.out ?_ ?_ ?_
  · decide
  · rfl
  intro w2 hm
  have HM2 := hide hm
  clear hm c0 c1 c2 c3 c4 c5 c6 c7 HM1
  obtain ⟨c0, c1, c2, c3, c4, c5, c6, c7⟩ := HM2.out.cs
  go_wp2_with fail
  refine upon_ins (n := 2) HM2.out ?_ ?_ ?_
  · decide
  · rfl
  intro w3 hm
  have HM3 := hide hm
  clear hm c0 c1 c2 c3 c4 c5 c6 c7 HM2
  obtain ⟨c0, c1, c2, c3, c4, c5, c6, c7⟩ := HM3.out.cs
  go_wp2_with fail
  refine upon_ins (n := 3) HM3.out ?_ ?_ ?_
  · decide
  · rfl
  intro w4 hm
  have HM4 := hide hm
  clear hm c0 c1 c2 c3 c4 c5 c6 c7 HM3
  obtain ⟨c0, c1, c2, c3, c4, c5, c6, c7⟩ := HM4.out.cs
  go_wp2_with fail
  refine upon_ins (n := 4) HM4.out ?_ ?_ ?_
  · decide
  · rfl
  intro w5 hm
  have HM5 := hide hm
  clear hm c0 c1 c2 c3 c4 c5 c6 c7 HM4
  obtain ⟨c0, c1, c2, c3, c4, c5, c6, c7⟩ := HM5.out.cs
  go_wp2_with fail
  refine upon_ins (n := 5) HM5.out ?_ ?_ ?_
  · decide
  · rfl
  intro w6 hm
  have HM6 := hide hm
  clear hm c0 c1 c2 c3 c4 c5 c6 c7 HM5
  obtain ⟨c0, c1, c2, c3, c4, c5, c6, c7⟩ := HM6.out.cs
  go_wp2_with fail
  refine upon_ins (n := 6) HM6.out ?_ ?_ ?_
  · decide
  · rfl
  intro w7 hm
  have HM7 := hide hm
  clear hm c0 c1 c2 c3 c4 c5 c6 c7 HM6
  obtain ⟨c0, c1, c2, c3, c4, c5, c6, c7⟩ := HM7.out.cs
  go_wp2_with fail
  refine upon_ins (n := 7) HM7.out ?_ ?_ ?_
  · decide
  · rfl
  intro w8 hm
  have HM8 := hide hm
  clear hm c0 c1 c2 c3 c4 c5 c6 c7 HM7
  obtain ⟨c0, c1, c2, c3, c4, c5, c6, c7⟩ := HM8.out.cs
  go_wp2_with fail
  refine upon_ins (n := 8) HM8.out ?_ ?_ ?_
  · decide
  · rfl
  intro w9 hm
  have HM9 := hide hm
  clear hm c0 c1 c2 c3 c4 c5 c6 c7 HM8
  obtain ⟨c0, c1, c2, c3, c4, c5, c6, c7⟩ := HM9.out.cs
  go_wp2_with fail
  refine upon_ins (n := 9) HM9.out ?_ ?_ ?_
  · decide
  · rfl
  intro w10 hm
  have HM10 := hide hm
  clear hm c0 c1 c2 c3 c4 c5 c6 c7 HM9
  obtain ⟨c0, c1, c2, c3, c4, c5, c6, c7⟩ := HM10.out.cs
  go_wp2_with fail
  refine upon_ins (n := 10) HM10.out ?_ ?_ ?_
  · decide
  · rfl
  intro w11 hm
  have HM11 := hide hm
  clear hm c0 c1 c2 c3 c4 c5 c6 c7 HM10
  obtain ⟨c0, c1, c2, c3, c4, c5, c6, c7⟩ := HM11.out.cs
  go_wp2_with fail
  refine upon_ins (n := 11) HM11.out ?_ ?_ ?_
  · decide
  · rfl
  intro w12 hm
  have HM12 := hide hm
  clear hm c0 c1 c2 c3 c4 c5 c6 c7 HM11
  obtain ⟨c0, c1, c2, c3, c4, c5, c6, c7⟩ := HM12.out.cs
  go_wp2_with fail
  refine upon_ins (n := 12) HM12.out ?_ ?_ ?_
  · decide
  · rfl
  intro w13 hm
  have HM13 := hide hm
  clear hm c0 c1 c2 c3 c4 c5 c6 c7 HM12
  obtain ⟨c0, c1, c2, c3, c4, c5, c6, c7⟩ := HM13.out.cs
  go_wp2
  go_ret
  exact ⟨q + 4, rfl, by rw [HQ.out]; omega, HM13.out.1, by have h := HM13.out.2.2.2.2.2; rw [HQ.out] at h; exact h⟩

end

section
open Go.RowKit
set_option linter.unusedVariables false
set_option linter.unusedSimpArgs false

/-- The sum of the first numbers of a row. -/
def sumF (f : Nat → Int) : Nat → Int
  | 0 => 0
  | q + 1 => add32 (sumF f q) (f q)

theorem sumF_range (f : Nat → Int) (q : Nat) : -2147483648 ≤ sumF f q ∧ sumF f q < 2147483648 := by
  cases q with
  | zero => exact ⟨by rw [sumF]; decide, by rw [sumF]; decide⟩
  | succ q => exact wrap32_range _

theorem add32_zero {x : Int} (h : -2147483648 ≤ x ∧ x < 2147483648) : add32 0 x = x := by
  unfold add32
  rw [Int.zero_add]
  exact wrap32_id h

theorem add32_zero' {x : Int} (h : -2147483648 ≤ x ∧ x < 2147483648) : add32 x 0 = x := by rw [add32_comm]; exact add32_zero h

theorem add32_00 : add32 0 0 = 0 := add32_zero ⟨by decide, by decide⟩

theorem add32_mix (a b x y : Int) : add32 (add32 a b) (add32 x y) = add32 (add32 a x) (add32 b y) := by unfold add32 wrap32; omega

theorem sumF_congr {f g : Nat → Int} {q : Nat} (h : ∀ j, j < q → f j = g j) : sumF f q = sumF g q := by
  induction q with
  | zero => rfl
  | succ q ih => rw [sumF, sumF, ih (fun j hj => h j (by omega)), h q (by omega)]

theorem sumF_add (f g : Nat → Int) (q : Nat) : sumF (fun j => add32 (f j) (g j)) q = add32 (sumF f q) (sumF g q) := by
  induction q with
  | zero => rw [sumF, sumF, sumF, add32_00]
  | succ q ih => rw [sumF, sumF, sumF, ih, add32_mix]

theorem sumF_none (q : Nat) : sumF (fun _ => 0) q = 0 := by
  induction q with
  | zero => rfl
  | succ q ih => rw [sumF, ih, add32_00]

theorem sumF_swap (g : Nat → Nat → Int) (a b : Nat) : sumF (fun i => sumF (fun j => g i j) b) a = sumF (fun j => sumF (fun i => g i j) a) b := by
  induction a with
  | zero => rw [sumF, show (fun j => sumF (fun i => g i j) 0) = fun _ => (0 : Int) from rfl, sumF_none]
  | succ a ih =>
    rw [sumF, ih, ← sumF_add]
    rfl

theorem sumF_more (f : Nat → Int) (a b : Nat) : sumF f (a + b) = add32 (sumF f a) (sumF (fun j => f (a + j)) b) := by
  induction b with
  | zero => rw [Nat.add_zero, sumF, add32_zero' (sumF_range f a)]
  | succ b ih => rw [← Nat.add_assoc, sumF, ih, sumF, add32_assoc]

theorem sumF_rows (f : Nat → Int) (a b : Nat) : sumF (fun i => sumF (fun j => f (i * b + j)) b) a = sumF f (a * b) := by
  induction a with
  | zero => rw [Nat.zero_mul]; rfl
  | succ a ih => rw [sumF, ih, Nat.succ_mul, sumF_more]

theorem sumN9_eq (l : List Int) (K st k : Nat) : ∀ q, sumN9 l K st k q = sumF (fun j => l.getD ((k / st * K + j) * st + k % st) 0) q
  | 0 => rfl
  | q + 1 => by rw [sumN9, sumF, sumN9_eq l K st k q]

/-- The sum of all numbers of a list. -/
def allF (l : List Int) : Int := sumF (fun i => l.getD i 0) l.length

theorem allF_sum {l : List Int} {K st : Nat} (hl : l.length = K * st) : allF (sumL9 l K st st) = allF l := by
  unfold allF
  rw [sumL9_len, hl, ← sumF_rows, ← sumF_swap]
  refine sumF_congr fun k hk => ?_
  rw [sumL9_at hk, sumN9_eq]
  refine sumF_congr fun j _ => ?_
  rw [Nat.div_eq_of_lt hk, Nat.mod_eq_of_lt hk, Nat.zero_mul, Nat.zero_add]

end

section
open Go.RowKit
set_option linter.unusedVariables false
set_option linter.unusedSimpArgs false

/-- The sums of a tensor along a direction. -/
def sumT (s l : List Int) (a : Nat) : List Int := sumL9 l (s.getD a 0).toNat (prodZ (s.drop (a + 1))).toNat ((prodZ (s.take a)).toNat * (prodZ (s.drop (a + 1))).toNat)

theorem sumT_len {s l : List Int} {m a : Nat} (h : tenOk s m = true) (ha : a < s.length) : sizeI (woL s a) = ((sumT s l a).length : Int) ∧ 0 < sizeI (woL s a) := by
  obtain ⟨P, KK, st, e1, e2, e3, _, p1, _, p3, e4, _⟩ := wo_facts h ha
  have e5 : (sumT s l a).length = P * st := by rw [sumT, sumL9_len, e2, e3]; rfl
  rw [e5, e4]
  have : 0 < P * st := Nat.mul_pos p1 p3
  exact ⟨rfl, by omega⟩

theorem sumT_ok {s l : List Int} {m a : Nat} (h : tenOk s m = true) (ha : a < s.length) : tenOk (woL s a) (sumT s l a).length = true := by
  obtain ⟨h1, h2⟩ := sumT_len (l := l) h ha
  exact tenOk_iff.2 ⟨h2, h1⟩

theorem wo_len {s : List Int} {a : Nat} (ha : a < s.length) (h2 : 2 ≤ s.length) : (woL s a).length = s.length - 1 := by
  rw [woL_more (by omega), List.length_append, List.length_take, List.length_drop]
  omega

/-- What is left of a tensor when it is summed up along its first direction k times. -/
def AllK (s l : List Int) (k : Nat) (s' l' : List Int) : Prop :=
  tenOk s' l'.length = true ∧ allF l' = allF l ∧ (k < s.length → s'.length = s.length - k) ∧ (0 < k → k = s.length → s' = [1]) ∧ (0 < k → ∀ z ∈ l', -2147483648 ≤ z ∧ z < 2147483648)

theorem AllK.zero {s l : List Int} (h : tenOk s l.length = true) : AllK s l 0 s l := ⟨h, rfl, fun _ => by omega, fun h0 => absurd h0 (by omega), fun h0 => absurd h0 (by omega)⟩

theorem AllK.step {s l s' l' : List Int} {k : Nat} (h : AllK s l k s' l') (hk : k < s.length) : AllK s l (k + 1) (woL s' 0) (sumT s' l' 0) := by
  obtain ⟨h1, h2, h3, _, _⟩ := h
  have hl := h3 hk
  have h0 : 0 < s'.length := by omega
  refine ⟨sumT_ok h1 h0, ?_, fun hk2 => ?_, fun _ hk2 => ?_, fun _ => ?_⟩
  · rw [← h2]
    obtain ⟨P, KK, st, e1, e2, e3, e4, p1, _, _, _, _⟩ := wo_facts h1 h0
    have eP : P = 1 := by
      have : (P : Int) = 1 := by rw [← e3]; rfl
      omega
    rw [sumT, e1, e2, e3, eP]
    have : ((1 : Nat) : Int).toNat * ((st : Int)).toNat = st := by rw [Int.toNat_natCast, Int.toNat_natCast, Nat.one_mul]
    rw [this, Int.toNat_natCast, Int.toNat_natCast]
    exact allF_sum (by rw [e4, eP, Nat.one_mul])
  · rw [wo_len h0 (by omega)]; omega
  · exact woL_one (by omega)
  · intro z hz
    rw [sumT, sumL9] at hz
    obtain ⟨k', _, rfl⟩ := List.mem_map.1 hz
    rw [sumN9_eq]
    exact sumF_range _ _

theorem AllK.last {s l s' l' : List Int} (h : AllK s l s.length s' l') (hp : 0 < s.length) : s' = [1] ∧ l' = [allF l] := by
  obtain ⟨h1, h2, _, h4, h5⟩ := h
  have e := h4 hp rfl
  subst e
  refine ⟨rfl, ?_⟩
  have hz := (tenOk_iff.1 h1).2
  have e1 : sizeI [1] = 1 := by decide
  rw [e1] at hz
  have hl : l'.length = 1 := by omega
  match l', hl with
  | [x], _ =>
    rw [← h2]
    have : allF [x] = add32 0 x := rfl
    rw [this, add32_zero (h5 hp x (by simp))]

end

end Go.Proofs.YtohndckbhjakfaaGreatDoor

