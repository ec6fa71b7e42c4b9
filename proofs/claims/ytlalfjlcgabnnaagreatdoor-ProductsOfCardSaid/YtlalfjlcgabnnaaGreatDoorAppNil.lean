/- Laws for the walk: append of a whole slice onto nil, and onto a row of the call's own, told with 'Below'; lists of integers. No program is named here. -/
import Derived.Test.YtlalfjlcgabnnaaGreatDoorOwn
namespace Go.Proofs.YtlalfjlcgabnnaaGreatDoor
open Go.RowKit

theorem cell_kept {a w : World} {b o : Nat} {v : Value} (hb : Below a.heap.size a w) (h : a.cell? ⟨b, o, none⟩ = some v) : w.cell? ⟨b, o, none⟩ = some v :=
  (hb.cell (World.block_lt_of_cell? a _ h)).trans h

theorem ints_one (k : IntKind) (zs : List Int) : ∀ u ∈ zs.map (Value.int k), u.oneCell' = true := by
  intro u hu
  simp at hu
  obtain ⟨_, _, rfl⟩ := hu
  rfl

section
variable {P : Program} {w : World}

theorem step_append_nil {ops : Array Oper} {op : Oper} {a : Act} {K : Act → World → Prop} {Q : Exit → Act → World → Prop} {E : Prop} (hgd : op.guard = none) (s x : Operand) (t : TypeId)
    (hop : op.op = .call { callee := .builtin .append, args := #[s, x], argTypes := #[t, t] })
    (e : TypeId) (i : TypeInfo) (z : Value) (bytes : Nat) (ht : P.underlying t = some (.slice e)) (hi : P.info? e = some i) (hz : i.zero = some z) (hsize : i.size = 1) (hby : i.bytes = bytes) (hzs : z.cells.size = 1)
    (hs : a.eval s = .slice none 0 0) (A : Option Addr) (m c : Nat) (k : IntKind) (zs : List Int) (hx : a.eval x = .slice A m c) (hn : Lies w A m (zs.map (Value.int k))) (hnil : A = none → c = 0) (hb : m * bytes ≤ 140737488355328) (h63 : m ≤ maxLen)
    (h : ∀ A' c' w', w'.ownsRow w.heap.size e 1 (.slice A' m c') m (zs.map (Value.int k)) → Below w.heap.size w w' → K (a.put op.dst (.slice A' m c')) w') :
    if Region.wanted op (yielded ops a.tmps) = true then Oper.wp P op a w K Q else E := by
  refine step_append_src hgd s x t hop e i z bytes ht hi hz hsize hby hzs w.heap.size (.slice none 0 0) 0 [] hs (World.ownsRow_nil _ _ _ _) (Nat.le_refl _) A m c _ hx hn hnil (ints_one k zs) (by rw [Nat.zero_add]; exact hb) (by omega) ?_
  rw [Nat.zero_add, List.nil_append]
  intro A' c' w' ho hg
  exact h A' c' w' ho ⟨hg.os, hg.tape, hg.output, hg.size, fun j hj => hg.block j hj (by simp [Value.ownBlock])⟩

theorem wpList_append_nil {ops : Array Oper} {rest : List Oper} {op : Oper} {a : Act} {Q : Exit → Act → World → Prop} (hgd : op.guard = none) (s x : Operand) (t : TypeId)
    (hop : op.op = .call { callee := .builtin .append, args := #[s, x], argTypes := #[t, t] })
    (e : TypeId) (i : TypeInfo) (z : Value) (bytes : Nat) (ht : P.underlying t = some (.slice e)) (hi : P.info? e = some i) (hz : i.zero = some z) (hsize : i.size = 1) (hby : i.bytes = bytes) (hzs : z.cells.size = 1)
    (hs : a.eval s = .slice none 0 0) (A : Option Addr) (m c : Nat) (k : IntKind) (zs : List Int) (hx : a.eval x = .slice A m c) (hn : Lies w A m (zs.map (Value.int k))) (hnil : A = none → c = 0) (hb : m * bytes ≤ 140737488355328) (h63 : m ≤ maxLen)
    (h : ∀ A' c' w', w'.ownsRow w.heap.size e 1 (.slice A' m c') m (zs.map (Value.int k)) → Below w.heap.size w w' → wpList P ops Q rest (a.put op.dst (.slice A' m c')) w') : wpList P ops Q (op :: rest) a w := by
  refine wpList_append_src hgd s x t hop e i z bytes ht hi hz hsize hby hzs w.heap.size (.slice none 0 0) 0 [] hs (World.ownsRow_nil _ _ _ _) (Nat.le_refl _) A m c _ hx hn hnil (ints_one k zs) (by rw [Nat.zero_add]; exact hb) (by omega) ?_
  rw [Nat.zero_add, List.nil_append]
  intro A' c' w' ho hg
  exact h A' c' w' ho ⟨hg.os, hg.tape, hg.output, hg.size, fun j hj => hg.block j hj (by simp [Value.ownBlock])⟩

theorem step_append_ints {ops : Array Oper} {op : Oper} {a : Act} {K : Act → World → Prop} {Q : Exit → Act → World → Prop} {E : Prop} (hgd : op.guard = none) (s x : Operand) (t : TypeId)
    (hop : op.op = .call { callee := .builtin .append, args := #[s, x], argTypes := #[t, t] })
    (e : TypeId) (i : TypeInfo) (z : Value) (bytes : Nat) (ht : P.underlying t = some (.slice e)) (hi : P.info? e = some i) (hz : i.zero = some z) (hsize : i.size = 1) (hby : i.bytes = bytes) (hzs : z.cells.size = 1)
    (base : Nat) (A0 : Option Addr) (n c0 N : Nat) (k : IntKind) (xs : List Int) (hs : a.eval s = .slice A0 n c0) (ho : w.ownsRow base e 1 (.slice A0 n c0) n (xs.map (Value.int k))) (hbase : base ≤ w.heap.size)
    (A : Option Addr) (m c : Nat) (zs : List Int) (hx : a.eval x = .slice A m c) (hn : Lies w A m (zs.map (Value.int k))) (hnil : A = none → c = 0) (hN : n + m = N) (hb : N * bytes ≤ 140737488355328) (h63 : N ≤ maxLen)
    (h : ∀ A' c' w', w'.ownsRow base e 1 (.slice A' N c') N ((xs ++ zs).map (Value.int k)) → Below base w w' → K (a.put op.dst (.slice A' N c')) w') :
    if Region.wanted op (yielded ops a.tmps) = true then Oper.wp P op a w K Q else E := by
  subst hN
  refine step_append_src hgd s x t hop e i z bytes ht hi hz hsize hby hzs base (.slice A0 n c0) n _ hs ho hbase A m c _ hx hn hnil (ints_one k zs) hb h63 ?_
  intro A' c' w' ho' hg
  rw [← List.map_append] at ho'
  exact h A' c' w' ho' ((Below.refl base w).grown hg hbase (fun g hgg => (ho.lt g hgg).1))

theorem wpList_append_ints {ops : Array Oper} {rest : List Oper} {op : Oper} {a : Act} {Q : Exit → Act → World → Prop} (hgd : op.guard = none) (s x : Operand) (t : TypeId)
    (hop : op.op = .call { callee := .builtin .append, args := #[s, x], argTypes := #[t, t] })
    (e : TypeId) (i : TypeInfo) (z : Value) (bytes : Nat) (ht : P.underlying t = some (.slice e)) (hi : P.info? e = some i) (hz : i.zero = some z) (hsize : i.size = 1) (hby : i.bytes = bytes) (hzs : z.cells.size = 1)
    (base : Nat) (A0 : Option Addr) (n c0 N : Nat) (k : IntKind) (xs : List Int) (hs : a.eval s = .slice A0 n c0) (ho : w.ownsRow base e 1 (.slice A0 n c0) n (xs.map (Value.int k))) (hbase : base ≤ w.heap.size)
    (A : Option Addr) (m c : Nat) (zs : List Int) (hx : a.eval x = .slice A m c) (hn : Lies w A m (zs.map (Value.int k))) (hnil : A = none → c = 0) (hN : n + m = N) (hb : N * bytes ≤ 140737488355328) (h63 : N ≤ maxLen)
    (h : ∀ A' c' w', w'.ownsRow base e 1 (.slice A' N c') N ((xs ++ zs).map (Value.int k)) → Below base w w' → wpList P ops Q rest (a.put op.dst (.slice A' N c')) w') : wpList P ops Q (op :: rest) a w := by
  subst hN
  refine wpList_append_src hgd s x t hop e i z bytes ht hi hz hsize hby hzs base (.slice A0 n c0) n _ hs ho hbase A m c _ hx hn hnil (ints_one k zs) hb h63 ?_
  intro A' c' w' ho' hg
  rw [← List.map_append] at ho'
  exact h A' c' w' ho' ((Below.refl base w).grown hg hbase (fun g hgg => (ho.lt g hgg).1))

end

end Go.Proofs.YtlalfjlcgabnnaaGreatDoor
