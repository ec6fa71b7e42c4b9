/- A law for the walk: append onto a slice without spare room, whatever is appended: nil, empty or not. -/
import Derived.Test.YtknlllpfjineaaaWA
import Derived.ArgAppend
namespace Go.Proofs.Ytknlllpfjineaaa
open Go.RowKit

section
variable {P : Program} {w : World}

theorem run_append_full (t ty e : TypeId) (i : TypeInfo) (z : Value) (bytes : Nat) (ht : P.underlying t = some (.slice e)) (hi : P.info? e = some i) (hz : i.zero = some z) (hsize : i.size = 1) (hby : i.bytes = bytes) (hzs : z.cells.size = 1)
    (b o n : Nat) (olds : List Value) (ho : Lies w (some ⟨b, o, none⟩) n olds)
    (A : Option Addr) (m c : Nat) (news : List Value) (hn : Lies w A m news) (hb : (n + m) * bytes ≤ 140737488355328) (h63 : n + m ≤ maxLen) :
    ∃ A' c' w', (Builtin.append_ #[t, t] ty #[.slice (some ⟨b, o, none⟩) n n, .slice A m c]).run P w = .ok (.slice A' (n + m) c') w' ∧ n + m ≤ c' ∧ Lies w' A' (n + m) (olds ++ news) ∧ Below w.heap.size w w' := by
  rcases Nat.eq_zero_or_pos m with rfl | hm
  · have hnil : news = [] := List.eq_nil_of_length_eq_zero hn.len
    subst hnil
    refine ⟨some ⟨b, o, none⟩, n, w, ?_, by omega, by simpa using ho, Below.refl _ _⟩
    cases A with
    | none => simp [Builtin.append_, run_underlying ht, sizeOf, typeInfo, hi, Builtin.lenOf, Builtin.firstCells, storeCells]
    | some ad =>
      have h := run_append_room_cells (P := P) w t ty e i ht hi b o n n ad 0 c [] (by simp) (by simp) (by simp) (by omega) (by simp) (by simp)
      simpa [World.setCells] using h
  · obtain ⟨b', o', rfl, _, hx⟩ := hn.cells hm
    have holds : ∀ j u, olds[j]? = some u → w.cell? ((⟨b, o, none⟩ : Addr).add j) = some u := by
      intro j u hj
      have hjl : j < n := by have := (List.getElem?_eq_some_iff.1 hj).1; have := ho.len; omega
      obtain ⟨b2, o2, e2, _, hy⟩ := ho.cells (by omega)
      injection e2 with e2
      injection e2 with e3 e4
      subst e3
      subst e4
      rw [Addr.add_lit, hy j hjl, hj]
    have hnews : ∀ j u, news[j]? = some u → w.cell? ((⟨b', o', none⟩ : Addr).add j) = some u := by
      intro j u hj
      have hjl : j < m := by have := (List.getElem?_eq_some_iff.1 hj).1; have := hn.len; omega
      rw [Addr.add_lit, hx j hjl, hj]
    obtain ⟨v', w', hrun, hown, hg⟩ := run_append_arg_grows (P := P) w t ty e i z 1 bytes ht hi hz hsize hby hzs (by omega) ⟨b, o, none⟩ n n olds (by have := ho.len; omega) holds ⟨b', o', none⟩ m c news (by have := hn.len; omega) hnews (by omega) h63 hb
    have hbel : Below w.heap.size w w' := ⟨hg.os, hg.tape, hg.output, hg.size, fun k hk => hg.block k hk (by simp)⟩
    rcases hown.2 with ⟨rfl, h0⟩ | ⟨g, cap, cur, rfl, hgb, hh, hnc, r⟩
    · omega
    · exact ⟨some ⟨g, 0, none⟩, cap, w', hrun, hnc, Lies.own hown, hbel⟩

theorem wpList_append_full {ops : Array Oper} {rest : List Oper} {op : Oper} {a : Act} {Q : Exit → Act → World → Prop} (hgd : op.guard = none) (s x : Operand) (t : TypeId)
    (hop : op.op = .call { callee := .builtin .append, args := #[s, x], argTypes := #[t, t] })
    (e : TypeId) (i : TypeInfo) (z : Value) (bytes : Nat) (ht : P.underlying t = some (.slice e)) (hi : P.info? e = some i) (hz : i.zero = some z) (hsize : i.size = 1) (hby : i.bytes = bytes) (hzs : z.cells.size = 1)
    (b o n : Nat) (olds : List Value) (hs : a.eval s = .slice (some ⟨b, o, none⟩) n n) (ho : Lies w (some ⟨b, o, none⟩) n olds)
    (A : Option Addr) (m c : Nat) (news : List Value) (hx : a.eval x = .slice A m c) (hn : Lies w A m news) (hb : (n + m) * bytes ≤ 140737488355328) (h63 : n + m ≤ maxLen)
    (h : ∀ A' c' w', n + m ≤ c' → Lies w' A' (n + m) (olds ++ news) → Below w.heap.size w w' → wpList P ops Q rest (a.put op.dst (.slice A' (n + m) c')) w') : wpList P ops Q (op :: rest) a w := by
  refine wpList_plain hgd fun K hK => ?_
  obtain ⟨A', c', w', hrun, h1, h2, h3⟩ := run_append_full (P := P) (w := w) t op.type e i z bytes ht hi hz hsize hby hzs b o n olds ho A m c news hn hb h63
  unfold Oper.wp
  simp [execOp, hop, resolve, invoke, builtin, hs, hx, hrun, Result.andThen]
  exact hK _ _ (h A' c' w' h1 h2 h3)

/-- The same as one step of a region that draws its order. -/
theorem step_append_full {ops : Array Oper} {op : Oper} {a : Act} {K : Act → World → Prop} {Q : Exit → Act → World → Prop} {E : Prop} (hgd : op.guard = none) (s x : Operand) (t : TypeId)
    (hop : op.op = .call { callee := .builtin .append, args := #[s, x], argTypes := #[t, t] })
    (e : TypeId) (i : TypeInfo) (z : Value) (bytes : Nat) (ht : P.underlying t = some (.slice e)) (hi : P.info? e = some i) (hz : i.zero = some z) (hsize : i.size = 1) (hby : i.bytes = bytes) (hzs : z.cells.size = 1)
    (b o n : Nat) (olds : List Value) (hs : a.eval s = .slice (some ⟨b, o, none⟩) n n) (ho : Lies w (some ⟨b, o, none⟩) n olds)
    (A : Option Addr) (m c : Nat) (news : List Value) (hx : a.eval x = .slice A m c) (hn : Lies w A m news) (hb : (n + m) * bytes ≤ 140737488355328) (h63 : n + m ≤ maxLen)
    (h : ∀ A' c' w', n + m ≤ c' → Lies w' A' (n + m) (olds ++ news) → Below w.heap.size w w' → K (a.put op.dst (.slice A' (n + m) c')) w') :
    if Region.wanted op (yielded ops a.tmps) = true then Oper.wp P op a w K Q else E := by
  have hw : Region.wanted op (yielded ops a.tmps) = true := by simp [Region.wanted, hgd]
  rw [if_pos hw]
  obtain ⟨A', c', w', hrun, h1, h2, h3⟩ := run_append_full (P := P) (w := w) t op.type e i z bytes ht hi hz hsize hby hzs b o n olds ho A m c news hn hb h63
  unfold Oper.wp
  simp [execOp, hop, resolve, invoke, builtin, hs, hx, hrun, Result.andThen]
  exact h A' c' w' h1 h2 h3

end

end Go.Proofs.Ytknlllpfjineaaa
