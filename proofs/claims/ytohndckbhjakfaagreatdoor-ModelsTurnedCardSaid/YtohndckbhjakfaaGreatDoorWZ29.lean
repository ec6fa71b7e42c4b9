/- Merged: AppN, Wi10, Wi11, Wi12. -/
import Derived.Test.YtohndckbhjakfaaGreatDoorWZ01
import Derived.Maps.AppendAt
import Derived.Test.YtohndckbhjakfaaGreatDoorWZ26
import Derived.Test.YtohndckbhjakfaaGreatDoorWZ09
import Derived.OneCell
namespace Go.Proofs.YtohndckbhjakfaaGreatDoor

section
open Go.RowKit
set_option linter.unusedVariables false

section
variable {P : Program} {w : World}

theorem run_append_srcN (t ty e : TypeId) (i : TypeInfo) (z : Value) (size bytes : Nat) (ht : P.underlying t = some (.slice e)) (hi : P.info? e = some i) (hz : i.zero = some z) (hsize : i.size = size) (hby : i.bytes = bytes) (hzs : z.cells.size = size) (hsz : 0 < size)
    (base : Nat) (v : Value) (n : Nat) (xs : List Value) (ho : w.ownsRow base e size v n xs) (hbase : base ≤ w.heap.size)
    (A : Option Addr) (m c : Nat) (news : List Value) (hl : news.length = m * size) (hn : 1 ≤ m → ∃ ad, A = some ad ∧ ∀ j u, news[j]? = some u → w.cell? (ad.add j) = some u) (hnil : A = none → c = 0) (h1 : ∀ u ∈ news, u.oneCell' = true) (hb : (n + m) * bytes ≤ 140737488355328) (h63 : n + m ≤ maxLen) :
    ∃ A' c' w', (Builtin.append_ #[t, t] ty #[v, .slice A m c]).run P w = .ok (.slice A' (n + m) c') w' ∧ w'.ownsRow base e size (.slice A' (n + m) c') (n + m) (xs ++ news) ∧ w.grownBy w' v.ownBlock ∧ (Value.ownBlock (.slice A' (n + m) c') = v.ownBlock ∨ Value.ownBlock (.slice A' (n + m) c') = some w.heap.size) := by
  cases A with
  | none =>
    obtain rfl : c = 0 := hnil rfl
    have hm : m = 0 := by
      rcases Nat.eq_zero_or_pos m with h | h
      · exact h
      · obtain ⟨_, h2, _⟩ := hn h; cases h2
    subst hm
    have hnn : news = [] := List.eq_nil_of_length_eq_zero (by simpa using hl)
    subst hnn
    have hrun := run_append_owned_none (P := P) w base t ty e i size ht hi v n xs ho
    rcases ho.2 with ⟨rfl, rfl⟩ | ⟨g, cap, cur, rfl, r⟩
    · exact ⟨none, 0, w, hrun, by simpa using ho, World.grownBy.refl _ _, .inl rfl⟩
    · exact ⟨some ⟨g, 0, none⟩, cap, w, hrun, by simpa using ho, World.grownBy.refl _ _, .inl rfl⟩
  | some ad =>
    have hcells : ∀ j u, news[j]? = some u → w.cell? (ad.add j) = some u := by
      intro j u hj
      have hjl : 1 ≤ m := by
        rcases Nat.eq_zero_or_pos m with h | h
        · subst h
          have hnn : news = [] := List.eq_nil_of_length_eq_zero (by simpa using hl)
          subst hnn
          simp at hj
        · exact h
      obtain ⟨a2, e2, hx⟩ := hn hjl
      injection e2 with e2
      subst e2
      exact hx j u hj
    obtain ⟨v', w', hrun, hown, hg, _, hat⟩ := run_append_own_at (P := P) w base t ty e i z size bytes ht hi hz hsize hby hzs hsz v n xs ho ad m c news hl hcells h1 h63 hb hbase
    rcases hown.2 with ⟨rfl, h0⟩ | ⟨g, cap, cur, rfl, r⟩
    · refine ⟨none, 0, w', ?_, ?_, hg, ?_⟩
      · rw [h0]; exact hrun
      · rw [h0]; rw [h0] at hown; exact hown
      · exact hat
    · exact ⟨some ⟨g, 0, none⟩, cap, w', hrun, hown, hg, hat⟩

theorem wpList_append_srcN {ops : Array Oper} {rest : List Oper} {op : Oper} {a : Act} {Q : Exit → Act → World → Prop} (hgd : op.guard = none) (s x : Operand) (t : TypeId)
    (hop : op.op = .call { callee := .builtin .append, args := #[s, x], argTypes := #[t, t] })
    (e : TypeId) (i : TypeInfo) (z : Value) (size bytes : Nat) (ht : P.underlying t = some (.slice e)) (hi : P.info? e = some i) (hz : i.zero = some z) (hsize : i.size = size) (hby : i.bytes = bytes) (hzs : z.cells.size = size) (hsz : 0 < size)
    (base : Nat) (v : Value) (n : Nat) (xs : List Value) (hs : a.eval s = v) (ho : w.ownsRow base e size v n xs) (hbase : base ≤ w.heap.size)
    (A : Option Addr) (m c : Nat) (news : List Value) (hx : a.eval x = .slice A m c) (hl : news.length = m * size) (hn : 1 ≤ m → ∃ ad, A = some ad ∧ ∀ j u, news[j]? = some u → w.cell? (ad.add j) = some u) (hnil : A = none → c = 0) (h1 : ∀ u ∈ news, u.oneCell' = true) (hb : (n + m) * bytes ≤ 140737488355328) (h63 : n + m ≤ maxLen)
    (h : ∀ A' c' w', w'.ownsRow base e size (.slice A' (n + m) c') (n + m) (xs ++ news) → w.grownBy w' v.ownBlock → (Value.ownBlock (.slice A' (n + m) c') = v.ownBlock ∨ Value.ownBlock (.slice A' (n + m) c') = some w.heap.size) → wpList P ops Q rest (a.put op.dst (.slice A' (n + m) c')) w') : wpList P ops Q (op :: rest) a w := by
  refine wpList_plain hgd fun K hK => ?_
  obtain ⟨A', c', w', hrun, h2, h3, h4⟩ := run_append_srcN (P := P) (w := w) t op.type e i z size bytes ht hi hz hsize hby hzs hsz base v n xs ho hbase A m c news hl hn hnil h1 hb h63
  unfold Oper.wp
  simp [execOp, hop, resolve, invoke, builtin, hs, hx, hrun, Result.andThen]
  exact hK _ _ (h A' c' w' h2 h3 h4)

theorem step_append_srcN {ops : Array Oper} {op : Oper} {a : Act} {K : Act → World → Prop} {Q : Exit → Act → World → Prop} {E : Prop} (hgd : op.guard = none) (s x : Operand) (t : TypeId)
    (hop : op.op = .call { callee := .builtin .append, args := #[s, x], argTypes := #[t, t] })
    (e : TypeId) (i : TypeInfo) (z : Value) (size bytes : Nat) (ht : P.underlying t = some (.slice e)) (hi : P.info? e = some i) (hz : i.zero = some z) (hsize : i.size = size) (hby : i.bytes = bytes) (hzs : z.cells.size = size) (hsz : 0 < size)
    (base : Nat) (v : Value) (n : Nat) (xs : List Value) (hs : a.eval s = v) (ho : w.ownsRow base e size v n xs) (hbase : base ≤ w.heap.size)
    (A : Option Addr) (m c : Nat) (news : List Value) (hx : a.eval x = .slice A m c) (hl : news.length = m * size) (hn : 1 ≤ m → ∃ ad, A = some ad ∧ ∀ j u, news[j]? = some u → w.cell? (ad.add j) = some u) (hnil : A = none → c = 0) (h1 : ∀ u ∈ news, u.oneCell' = true) (hb : (n + m) * bytes ≤ 140737488355328) (h63 : n + m ≤ maxLen)
    (h : ∀ A' c' w', w'.ownsRow base e size (.slice A' (n + m) c') (n + m) (xs ++ news) → w.grownBy w' v.ownBlock → (Value.ownBlock (.slice A' (n + m) c') = v.ownBlock ∨ Value.ownBlock (.slice A' (n + m) c') = some w.heap.size) → K (a.put op.dst (.slice A' (n + m) c')) w') :
    if Region.wanted op (yielded ops a.tmps) = true then Oper.wp P op a w K Q else E := by
  have hw : Region.wanted op (yielded ops a.tmps) = true := by simp [Region.wanted, hgd]
  rw [if_pos hw]
  obtain ⟨A', c', w', hrun, h2, h3, h4⟩ := run_append_srcN (P := P) (w := w) t op.type e i z size bytes ht hi hz hsize hby hzs hsz base v n xs ho hbase A m c news hl hn hnil h1 hb h63
  unfold Oper.wp
  simp [execOp, hop, resolve, invoke, builtin, hs, hx, hrun, Result.andThen]
  exact h A' c' w' h2 h3 h4

end

/-- A row of the call's own of elements of several cells: its cells. -/
theorem ownN_cells {w : World} {base size : Nat} {e : TypeId} {A : Option Addr} {n c : Nat} {xs : List Value} (h : w.ownsRow base e size (.slice A n c) n xs) (hn : 1 ≤ n) : ∃ g, A = some ⟨g, 0, none⟩ ∧ base ≤ g ∧ g < w.heap.size ∧ ∀ j u, xs[j]? = some u → w.cell? ⟨g, j, none⟩ = some u := by
  rcases h.2 with ⟨_, h0⟩ | ⟨g, cap, cur, e0, hb, hg, _⟩
  · omega
  · injection e0 with eA en ec
    subst eA
    refine ⟨g, rfl, hb, (Array.getElem?_eq_some_iff.1 hg).1, fun j u hj => ?_⟩
    have := h.cells (g := g) rfl j u hj
    rwa [Addr.add_lit, Nat.zero_add] at this

end

section
open Go.RowKit
set_option linter.unusedVariables false
set_option linter.unusedSimpArgs false
set_option maxRecDepth 100000

def Nd.five (x : Nd) : List Value := [.int .u8 x.kd, .slice x.I x.ni x.ci, .slice x.S x.ns x.cs, .int .i64 x.N, .int .i64 x.P]

/-- A list of nodes, cell by cell. -/
def cellsN (ns : List Nd) : List Value := ns.flatMap Nd.five

theorem cellsN_cons (x : Nd) (r : List Nd) : cellsN (x :: r) = .int .u8 x.kd :: .slice x.I x.ni x.ci :: .slice x.S x.ns x.cs :: .int .i64 x.N :: .int .i64 x.P :: cellsN r := by simp [cellsN, Nd.five]

theorem cellsN_append (a b : List Nd) : cellsN (a ++ b) = cellsN a ++ cellsN b := by simp [cellsN, List.flatMap_append]

theorem cellsN_len : ∀ ns : List Nd, (cellsN ns).length = ns.length * 5
  | [] => rfl
  | x :: r => by rw [cellsN_cons]; simp only [List.length_cons]; rw [cellsN_len r]; omega

theorem cellsN_at : ∀ (ns : List Nd) (j : Nat) (x : Nd), ns[j]? = some x → (cellsN ns)[j * 5]? = some (.int .u8 x.kd) ∧ (cellsN ns)[j * 5 + 1]? = some (.slice x.I x.ni x.ci) ∧ (cellsN ns)[j * 5 + 2]? = some (.slice x.S x.ns x.cs) ∧ (cellsN ns)[j * 5 + 3]? = some (.int .i64 x.N) ∧ (cellsN ns)[j * 5 + 4]? = some (.int .i64 x.P)
  | [], j, x, h => by simp at h
  | y :: r, 0, x, h => by
    obtain rfl : y = x := by simpa using h
    rw [cellsN_cons]
    exact ⟨rfl, rfl, rfl, rfl, rfl⟩
  | y :: r, j + 1, x, h => by
    have ih := cellsN_at r j x (by simpa using h)
    rw [cellsN_cons, show (j + 1) * 5 = j * 5 + 1 + 1 + 1 + 1 + 1 by omega]
    have e : ∀ k, j * 5 + 1 + 1 + 1 + 1 + 1 + k = (j * 5 + k) + 1 + 1 + 1 + 1 + 1 := fun k => by omega
    rw [e 1, e 2, e 3, e 4]
    simpa using ih

theorem cellsN_get : ∀ (ns : List Nd) (j : Nat) (u : Value), (cellsN ns)[j]? = some u → ∃ x, ns[j / 5]? = some x ∧ x.five[j % 5]? = some u
  | [], j, u, h => by simp [cellsN] at h
  | x :: r, j, u, h => by
    by_cases hj : j < 5
    · refine ⟨x, by rw [Nat.div_eq_of_lt hj]; rfl, ?_⟩
      rw [Nat.mod_eq_of_lt hj]
      have e : cellsN (x :: r) = x.five ++ cellsN r := by simp [cellsN]
      rw [e, List.getElem?_append_left (by simpa [Nd.five] using hj)] at h
      exact h
    · obtain ⟨i, rfl⟩ : ∃ i, j = i + 5 := ⟨j - 5, by omega⟩
      have e : cellsN (x :: r) = x.five ++ cellsN r := by simp [cellsN]
      rw [e, List.getElem?_append_right (by simp [Nd.five])] at h
      obtain ⟨y, h1, h2⟩ := cellsN_get r i u (by simpa [Nd.five] using h)
      refine ⟨y, ?_, ?_⟩
      · rw [Nat.add_div_right _ (by omega)]; simpa using h1
      · rw [Nat.add_mod_right]; exact h2

/-- A list of nodes that lies there, cell by cell. -/
theorem NsIn.cells {w : World} {A : Option Addr} {n : Nat} {ns : List Nd} (h : NsIn w A n ns) : 1 ≤ n → ∃ ad, A = some ad ∧ ∀ j u, (cellsN ns)[j]? = some u → w.cell? (ad.add j) = some u := by
  intro hn
  obtain ⟨b, o, e, _, hx⟩ := h.2 hn
  refine ⟨⟨b, o, none⟩, e, fun j u hj => ?_⟩
  obtain ⟨x, hx1, hx2⟩ := cellsN_get ns j u hj
  obtain ⟨h0, h1, h2, h3, h4, _⟩ := hx _ x hx1
  rw [Addr.add_lit]
  have hd := Nat.div_add_mod j 5
  have hm := Nat.mod_lt j (show 5 > 0 by omega)
  generalize j / 5 = q at hd h0 h1 h2 h3 h4
  generalize hr : j % 5 = r at hd hm hx2
  clear hr
  have hjq : j = q * 5 + r := by omega
  subst hjq
  match r, hm with
  | 0, _ => cases hx2; exact h0
  | 1, _ => cases hx2; rw [← Nat.add_assoc]; exact h1
  | 2, _ => cases hx2; rw [← Nat.add_assoc]; exact h2
  | 3, _ => cases hx2; rw [← Nat.add_assoc]; exact h3
  | 4, _ => cases hx2; rw [← Nat.add_assoc]; exact h4

/-- A graph that is answered. -/
theorem results_gr {fn : Func} {p : Tmp} (h : fn.results = #[.cell p 24]) (tmps : Array Value) (w : World) (g : Nat) (cs : Array Value)
    (hp : tmps.getD p undef = .pointer (some ⟨g, 0, none⟩)) (hg : w.heap[g]? = some (.cells cs 24 (0, 0))) (hs : cs.size = 1) :
    (results fn tmps).run Tryz.prog w = .ok (.agg cs) w :=
  results_cell_row h tmps w g 24 cs (0, 0) _ hp hg Tryz.underlying24 rfl (by rw [hs]; kernel_rfl)

theorem ret_gr {fn : Func} {p : Tmp} {R : Ending → World → Prop} {a : Act} {w : World} (h : fn.results = #[.cell p 24]) (hd : a.defers = []) (g : Nat) (cs : Array Value)
    (hp : a.tmps.getD p undef = .pointer (some ⟨g, 0, none⟩)) (hg : w.heap[g]? = some (.cells cs 24 (0, 0))) (hs : cs.size = 1) (hR : R (.returned (.agg cs)) w) : bodyPost Tryz.prog fn R .ret a w :=
  bodyPost_ret (results_gr h _ w g cs hp hg hs) hd hR

/-- A graph in a block. -/
def BoxG (w : World) (p : Nat) (v : Value) : Prop := w.heap[p]? = some (.cells #[v] 24 (0, 0))

theorem BoxG.new (w : World) (v : Value) : BoxG (w.alloc (.cells #[v] 24)) w.heap.size v := heap_alloc_new w _

theorem BoxG.lt {w : World} {p : Nat} {v : Value} (h : BoxG w p v) : p < w.heap.size := lt_of_heap h

theorem BoxG.kept {w w' : World} {p : Nat} {v : Value} (h : BoxG w p v) (hb : Below w.heap.size w w') : BoxG w' p v := (hb.block p h.lt).trans h

theorem BoxG.c0 {w : World} {p : Nat} {v : Value} (h : BoxG w p v) : w.cell? ⟨p, 0, none⟩ = some v := cell_of_row _ _ 0 _ _ (0, 0) h

theorem BoxG.set {w : World} {p : Nat} {v : Value} (h : BoxG w p v) (u : Value) : BoxG (w.setCell ⟨p, 0, none⟩ u) p u := by
  unfold BoxG
  exact one_setCell h

theorem BoxG.f0 {w : World} {p : Nat} {v : Value} (h : BoxG w p v) (k : Nat) : w.frozen? ⟨p, k, none⟩ = false := frozen_of_row w p k _ _ h

end

section
open Go.RowKit
set_option linter.unusedVariables false
set_option linter.unusedSimpArgs false
set_option maxRecDepth 100000

theorem infoN10 : (Tryz.prog.info? 44).map (fun i => (i.zero, i.size, i.bytes)) = some (some (.agg #[.int .u8 0, .slice none 0 0, .slice none 0 0, .int .i64 0, .int .i64 0]), 5, 72) := by kernel_rfl

/-- The chapter's graph, where it lies. -/
def knN (q : Nat) : List Nd := [⟨1, none, 0, 0, some ⟨q + 1, 0, none⟩, 2, 2, 0, 0, [], [2, 3]⟩, ⟨2, none, 0, 0, some ⟨q + 2, 0, none⟩, 2, 2, 0, 0, [], [3, 2]⟩, ⟨7, some ⟨q + 3, 0, none⟩, 2, 2, none, 0, 0, 0, 0, [0, 1], []⟩, ⟨5, some ⟨q + 4, 0, none⟩, 1, 1, none, 0, 0, 0, 0, [2], []⟩]

end

section
open Go.RowKit
set_option linter.unusedVariables false
set_option linter.unusedSimpArgs false
set_option maxRecDepth 100000

/-- What the copy of the nodes and the new one come to, in either order. -/
def WithR (W : World) (x : Nd) (ns : List Nd) (n : Nat) (v1 v2 : Value) (u : World) : Prop :=
  ∃ A1 c1 g, v1 = .slice A1 n c1 ∧ v2 = .slice (some ⟨g, 0, none⟩) 1 1 ∧ u.ownsRow W.heap.size 44 5 (.slice A1 n c1) n (cellsN ns) ∧ (∀ j y, x.five[j]? = some y → u.cell? ((⟨g, 0, none⟩ : Addr).add j) = some y) ∧ Below W.heap.size W u

theorem five_new (w : World) (x : Nd) : ∀ j y, x.five[j]? = some y → (w.alloc (.cells #[.int .u8 x.kd, .slice x.I x.ni x.ci, .slice x.S x.ns x.cs, .int .i64 x.N, .int .i64 x.P] 44)).cell? ((⟨w.heap.size, 0, none⟩ : Addr).add j) = some y := cells_new w x.five 44

theorem own_keep10 {w w' : World} {base size : Nat} {e : TypeId} {v : Value} {n : Nat} {xs : List Value} (h : w.ownsRow base e size v n xs) (hb : Below w.heap.size w w') : w'.ownsRow base e size v n xs :=
  h.kept (row := none) ⟨hb.os, hb.tape, hb.output, hb.size, fun i hi _ => hb.block i hi⟩ (by cases v.ownBlock <;> simp)

theorem below_own10 {W w w' : World} {base size : Nat} {e : TypeId} {v : Value} {n : Nat} {xs : List Value} (hb : Below W.heap.size W w) (ho : w.ownsRow base e size v n xs) (hg : w.grownBy w' v.ownBlock) (hbb : W.heap.size ≤ base) : Below W.heap.size W w' :=
  hb.grown hg hb.size (fun g hgg => Nat.le_trans hbb (ho.lt g hgg).1)

end

end Go.Proofs.YtohndckbhjakfaaGreatDoor

