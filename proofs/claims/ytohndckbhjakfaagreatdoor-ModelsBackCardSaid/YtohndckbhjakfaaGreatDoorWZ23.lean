/- Merged: AppN, Wi10, Wi11, Tx1. -/
import Derived.Test.YtohndckbhjakfaaGreatDoorWZ01
import Derived.Maps.AppendAt
import Derived.Test.YtohndckbhjakfaaGreatDoorWZ22
import Derived.Test.YtohndckbhjakfaaGreatDoorWZ08
import Derived.OneCell
import Derived.Lib.SpaceU
import Derived.Lib.AtoiAll
import Derived.Lib.ItoaLen
import Derived.Lib.SplitLaws
import Derived.Lib.Join
namespace Go.Proofs.YtohndckbhjakfaaGreatDoor

section
open Go.RowKit
set_option linter.unusedVariables false

section
variable {P : Program} {w : World}

theorem run_append_srcN (t ty e : TypeId) (i : TypeInfo) (z : Value) (size bytes : Nat) (ht : P.underlying t = some (.slice e)) (hi : P.info? e = some i) (hz : i.zero = some z) (hsize : i.size = size) (hby : i.bytes = bytes) (hzs : z.cells.size = size) (hsz : 0 < size)
    (base : Nat) (v : Value) (n : Nat) (xs : List Value) (ho : w.ownsRow base e size v n xs) (hbase : base ≤ w.heap.size)
    (A : Option Addr) (m c : Nat) (news : List Value) (hl : news.length = m * size) (hn : 1 ≤ m → ∃ ad, A = some ad ∧ ∀ j u, news[j]? = some u → w.cell? (ad.add j) = some u) (hnil : A = none → c = 0) (h1 : ∀ u ∈ news, u.oneCell' = true) (hb : (n + m) * bytes ≤ 140737488355328) (h63 : n + m ≤ maxLen) :
    ∃ A' c' w', (Builtin.append_ #[t, t] ty #[v, .slice A m c]).run P w = .ok (.slice A' (n + m) c') w' ∧ w'.ownsRow base e size (.slice A' (n + m) c') (n + m) (xs ++ news) ∧ w.grownBy w' v.ownBlock ∧ (Value.ownBlock (.slice A' (n + m) c') = v.ownBlock ∨ Value.ownBlock (.slice A' (n + m) c') = some w.heap.size) := by
  cases A with
  | none =>
    obtain rfl : c = 0 := hnil rfl
    have hm : m = 0 := by
      rcases Nat.eq_zero_or_pos m with h | h
      · exact h
      · obtain ⟨_, h2, _⟩ := hn h; cases h2
    subst hm
    have hnn : news = [] := List.eq_nil_of_length_eq_zero (by simpa using hl)
    subst hnn
    have hrun := run_append_owned_none (P := P) w base t ty e i size ht hi v n xs ho
    rcases ho.2 with ⟨rfl, rfl⟩ | ⟨g, cap, cur, rfl, r⟩
    · exact ⟨none, 0, w, hrun, by simpa using ho, World.grownBy.refl _ _, .inl rfl⟩
    · exact ⟨some ⟨g, 0, none⟩, cap, w, hrun, by simpa using ho, World.grownBy.refl _ _, .inl rfl⟩
  | some ad =>
    have hcells : ∀ j u, news[j]? = some u → w.cell? (ad.add j) = some u := by
      intro j u hj
      have hjl : 1 ≤ m := by
        rcases Nat.eq_zero_or_pos m with h | h
        · subst h
          have hnn : news = [] := List.eq_nil_of_length_eq_zero (by simpa using hl)
          subst hnn
          simp at hj
        · exact h
      obtain ⟨a2, e2, hx⟩ := hn hjl
      injection e2 with e2
      subst e2
      exact hx j u hj
    obtain ⟨v', w', hrun, hown, hg, _, hat⟩ := run_append_own_at (P := P) w base t ty e i z size bytes ht hi hz hsize hby hzs hsz v n xs ho ad m c news hl hcells h1 h63 hb hbase
    rcases hown.2 with ⟨rfl, h0⟩ | ⟨g, cap, cur, rfl, r⟩
    · refine ⟨none, 0, w', ?_, ?_, hg, ?_⟩
      · rw [h0]; exact hrun
      · rw [h0]; rw [h0] at hown; exact hown
      · exact hat
    · exact ⟨some ⟨g, 0, none⟩, cap, w', hrun, hown, hg, hat⟩

theorem wpList_append_srcN {ops : Array Oper} {rest : List Oper} {op : Oper} {a : Act} {Q : Exit → Act → World → Prop} (hgd : op.guard = none) (s x : Operand) (t : TypeId)
    (hop : op.op = .call { callee := .builtin .append, args := #[s, x], argTypes := #[t, t] })
    (e : TypeId) (i : TypeInfo) (z : Value) (size bytes : Nat) (ht : P.underlying t = some (.slice e)) (hi : P.info? e = some i) (hz : i.zero = some z) (hsize : i.size = size) (hby : i.bytes = bytes) (hzs : z.cells.size = size) (hsz : 0 < size)
    (base : Nat) (v : Value) (n : Nat) (xs : List Value) (hs : a.eval s = v) (ho : w.ownsRow base e size v n xs) (hbase : base ≤ w.heap.size)
    (A : Option Addr) (m c : Nat) (news : List Value) (hx : a.eval x = .slice A m c) (hl : news.length = m * size) (hn : 1 ≤ m → ∃ ad, A = some ad ∧ ∀ j u, news[j]? = some u → w.cell? (ad.add j) = some u) (hnil : A = none → c = 0) (h1 : ∀ u ∈ news, u.oneCell' = true) (hb : (n + m) * bytes ≤ 140737488355328) (h63 : n + m ≤ maxLen)
    (h : ∀ A' c' w', w'.ownsRow base e size (.slice A' (n + m) c') (n + m) (xs ++ news) → w.grownBy w' v.ownBlock → (Value.ownBlock (.slice A' (n + m) c') = v.ownBlock ∨ Value.ownBlock (.slice A' (n + m) c') = some w.heap.size) → wpList P ops Q rest (a.put op.dst (.slice A' (n + m) c')) w') : wpList P ops Q (op :: rest) a w := by
  refine wpList_plain hgd fun K hK => ?_
  obtain ⟨A', c', w', hrun, h2, h3, h4⟩ := run_append_srcN (P := P) (w := w) t op.type e i z size bytes ht hi hz hsize hby hzs hsz base v n xs ho hbase A m c news hl hn hnil h1 hb h63
  unfold Oper.wp
  simp [execOp, hop, resolve, invoke, builtin, hs, hx, hrun, Result.andThen]
  exact hK _ _ (h A' c' w' h2 h3 h4)

theorem step_append_srcN {ops : Array Oper} {op : Oper} {a : Act} {K : Act → World → Prop} {Q : Exit → Act → World → Prop} {E : Prop} (hgd : op.guard = none) (s x : Operand) (t : TypeId)
    (hop : op.op = .call { callee := .builtin .append, args := #[s, x], argTypes := #[t, t] })
    (e : TypeId) (i : TypeInfo) (z : Value) (size bytes : Nat) (ht : P.underlying t = some (.slice e)) (hi : P.info? e = some i) (hz : i.zero = some z) (hsize : i.size = size) (hby : i.bytes = bytes) (hzs : z.cells.size = size) (hsz : 0 < size)
    (base : Nat) (v : Value) (n : Nat) (xs : List Value) (hs : a.eval s = v) (ho : w.ownsRow base e size v n xs) (hbase : base ≤ w.heap.size)
    (A : Option Addr) (m c : Nat) (news : List Value) (hx : a.eval x = .slice A m c) (hl : news.length = m * size) (hn : 1 ≤ m → ∃ ad, A = some ad ∧ ∀ j u, news[j]? = some u → w.cell? (ad.add j) = some u) (hnil : A = none → c = 0) (h1 : ∀ u ∈ news, u.oneCell' = true) (hb : (n + m) * bytes ≤ 140737488355328) (h63 : n + m ≤ maxLen)
    (h : ∀ A' c' w', w'.ownsRow base e size (.slice A' (n + m) c') (n + m) (xs ++ news) → w.grownBy w' v.ownBlock → (Value.ownBlock (.slice A' (n + m) c') = v.ownBlock ∨ Value.ownBlock (.slice A' (n + m) c') = some w.heap.size) → K (a.put op.dst (.slice A' (n + m) c')) w') :
    if Region.wanted op (yielded ops a.tmps) = true then Oper.wp P op a w K Q else E := by
  have hw : Region.wanted op (yielded ops a.tmps) = true := by simp [Region.wanted, hgd]
  rw [if_pos hw]
  obtain ⟨A', c', w', hrun, h2, h3, h4⟩ := run_append_srcN (P := P) (w := w) t op.type e i z size bytes ht hi hz hsize hby hzs hsz base v n xs ho hbase A m c news hl hn hnil h1 hb h63
  unfold Oper.wp
  simp [execOp, hop, resolve, invoke, builtin, hs, hx, hrun, Result.andThen]
  exact h A' c' w' h2 h3 h4

end

/-- A row of the call's own of elements of several cells: its cells. -/
theorem ownN_cells {w : World} {base size : Nat} {e : TypeId} {A : Option Addr} {n c : Nat} {xs : List Value} (h : w.ownsRow base e size (.slice A n c) n xs) (hn : 1 ≤ n) : ∃ g, A = some ⟨g, 0, none⟩ ∧ base ≤ g ∧ g < w.heap.size ∧ ∀ j u, xs[j]? = some u → w.cell? ⟨g, j, none⟩ = some u := by
  rcases h.2 with ⟨_, h0⟩ | ⟨g, cap, cur, e0, hb, hg, _⟩
  · omega
  · injection e0 with eA en ec
    subst eA
    refine ⟨g, rfl, hb, (Array.getElem?_eq_some_iff.1 hg).1, fun j u hj => ?_⟩
    have := h.cells (g := g) rfl j u hj
    rwa [Addr.add_lit, Nat.zero_add] at this

end

section
open Go.RowKit
set_option linter.unusedVariables false
set_option linter.unusedSimpArgs false
set_option maxRecDepth 100000

def Nd.five (x : Nd) : List Value := [.int .u8 x.kd, .slice x.I x.ni x.ci, .slice x.S x.ns x.cs, .int .i64 x.N, .int .i64 x.P]

/-- A list of nodes, cell by cell. -/
def cellsN (ns : List Nd) : List Value := ns.flatMap Nd.five

theorem cellsN_cons (x : Nd) (r : List Nd) : cellsN (x :: r) = .int .u8 x.kd :: .slice x.I x.ni x.ci :: .slice x.S x.ns x.cs :: .int .i64 x.N :: .int .i64 x.P :: cellsN r := by simp [cellsN, Nd.five]

theorem cellsN_append (a b : List Nd) : cellsN (a ++ b) = cellsN a ++ cellsN b := by simp [cellsN, List.flatMap_append]

theorem cellsN_len : ∀ ns : List Nd, (cellsN ns).length = ns.length * 5
  | [] => rfl
  | x :: r => by rw [cellsN_cons]; simp only [List.length_cons]; rw [cellsN_len r]; omega

theorem cellsN_at : ∀ (ns : List Nd) (j : Nat) (x : Nd), ns[j]? = some x → (cellsN ns)[j * 5]? = some (.int .u8 x.kd) ∧ (cellsN ns)[j * 5 + 1]? = some (.slice x.I x.ni x.ci) ∧ (cellsN ns)[j * 5 + 2]? = some (.slice x.S x.ns x.cs) ∧ (cellsN ns)[j * 5 + 3]? = some (.int .i64 x.N) ∧ (cellsN ns)[j * 5 + 4]? = some (.int .i64 x.P)
  | [], j, x, h => by simp at h
  | y :: r, 0, x, h => by
    obtain rfl : y = x := by simpa using h
    rw [cellsN_cons]
    exact ⟨rfl, rfl, rfl, rfl, rfl⟩
  | y :: r, j + 1, x, h => by
    have ih := cellsN_at r j x (by simpa using h)
    rw [cellsN_cons, show (j + 1) * 5 = j * 5 + 1 + 1 + 1 + 1 + 1 by omega]
    have e : ∀ k, j * 5 + 1 + 1 + 1 + 1 + 1 + k = (j * 5 + k) + 1 + 1 + 1 + 1 + 1 := fun k => by omega
    rw [e 1, e 2, e 3, e 4]
    simpa using ih

theorem cellsN_get : ∀ (ns : List Nd) (j : Nat) (u : Value), (cellsN ns)[j]? = some u → ∃ x, ns[j / 5]? = some x ∧ x.five[j % 5]? = some u
  | [], j, u, h => by simp [cellsN] at h
  | x :: r, j, u, h => by
    by_cases hj : j < 5
    · refine ⟨x, by rw [Nat.div_eq_of_lt hj]; rfl, ?_⟩
      rw [Nat.mod_eq_of_lt hj]
      have e : cellsN (x :: r) = x.five ++ cellsN r := by simp [cellsN]
      rw [e, List.getElem?_append_left (by simpa [Nd.five] using hj)] at h
      exact h
    · obtain ⟨i, rfl⟩ : ∃ i, j = i + 5 := ⟨j - 5, by omega⟩
      have e : cellsN (x :: r) = x.five ++ cellsN r := by simp [cellsN]
      rw [e, List.getElem?_append_right (by simp [Nd.five])] at h
      obtain ⟨y, h1, h2⟩ := cellsN_get r i u (by simpa [Nd.five] using h)
      refine ⟨y, ?_, ?_⟩
      · rw [Nat.add_div_right _ (by omega)]; simpa using h1
      · rw [Nat.add_mod_right]; exact h2

/-- A list of nodes that lies there, cell by cell. -/
theorem NsIn.cells {w : World} {A : Option Addr} {n : Nat} {ns : List Nd} (h : NsIn w A n ns) : 1 ≤ n → ∃ ad, A = some ad ∧ ∀ j u, (cellsN ns)[j]? = some u → w.cell? (ad.add j) = some u := by
  intro hn
  obtain ⟨b, o, e, _, hx⟩ := h.2 hn
  refine ⟨⟨b, o, none⟩, e, fun j u hj => ?_⟩
  obtain ⟨x, hx1, hx2⟩ := cellsN_get ns j u hj
  obtain ⟨h0, h1, h2, h3, h4, _⟩ := hx _ x hx1
  rw [Addr.add_lit]
  have hd := Nat.div_add_mod j 5
  have hm := Nat.mod_lt j (show 5 > 0 by omega)
  generalize j / 5 = q at hd h0 h1 h2 h3 h4
  generalize hr : j % 5 = r at hd hm hx2
  clear hr
  have hjq : j = q * 5 + r := by omega
  subst hjq
  match r, hm with
  | 0, _ => cases hx2; exact h0
  | 1, _ => cases hx2; rw [← Nat.add_assoc]; exact h1
  | 2, _ => cases hx2; rw [← Nat.add_assoc]; exact h2
  | 3, _ => cases hx2; rw [← Nat.add_assoc]; exact h3
  | 4, _ => cases hx2; rw [← Nat.add_assoc]; exact h4

/-- A graph that is answered. -/
theorem results_gr {fn : Func} {p : Tmp} (h : fn.results = #[.cell p 24]) (tmps : Array Value) (w : World) (g : Nat) (cs : Array Value)
    (hp : tmps.getD p undef = .pointer (some ⟨g, 0, none⟩)) (hg : w.heap[g]? = some (.cells cs 24 (0, 0))) (hs : cs.size = 1) :
    (results fn tmps).run Tryz.prog w = .ok (.agg cs) w :=
  results_cell_row h tmps w g 24 cs (0, 0) _ hp hg Tryz.underlying24 rfl (by rw [hs]; kernel_rfl)

theorem ret_gr {fn : Func} {p : Tmp} {R : Ending → World → Prop} {a : Act} {w : World} (h : fn.results = #[.cell p 24]) (hd : a.defers = []) (g : Nat) (cs : Array Value)
    (hp : a.tmps.getD p undef = .pointer (some ⟨g, 0, none⟩)) (hg : w.heap[g]? = some (.cells cs 24 (0, 0))) (hs : cs.size = 1) (hR : R (.returned (.agg cs)) w) : bodyPost Tryz.prog fn R .ret a w :=
  bodyPost_ret (results_gr h _ w g cs hp hg hs) hd hR

/-- A graph in a block. -/
def BoxG (w : World) (p : Nat) (v : Value) : Prop := w.heap[p]? = some (.cells #[v] 24 (0, 0))

theorem BoxG.new (w : World) (v : Value) : BoxG (w.alloc (.cells #[v] 24)) w.heap.size v := heap_alloc_new w _

theorem BoxG.lt {w : World} {p : Nat} {v : Value} (h : BoxG w p v) : p < w.heap.size := lt_of_heap h

theorem BoxG.kept {w w' : World} {p : Nat} {v : Value} (h : BoxG w p v) (hb : Below w.heap.size w w') : BoxG w' p v := (hb.block p h.lt).trans h

theorem BoxG.c0 {w : World} {p : Nat} {v : Value} (h : BoxG w p v) : w.cell? ⟨p, 0, none⟩ = some v := cell_of_row _ _ 0 _ _ (0, 0) h

theorem BoxG.set {w : World} {p : Nat} {v : Value} (h : BoxG w p v) (u : Value) : BoxG (w.setCell ⟨p, 0, none⟩ u) p u := by
  unfold BoxG
  exact one_setCell h

theorem BoxG.f0 {w : World} {p : Nat} {v : Value} (h : BoxG w p v) (k : Nat) : w.frozen? ⟨p, k, none⟩ = false := frozen_of_row w p k _ _ h

end

section
open Go.RowKit
set_option linter.unusedVariables false
set_option linter.unusedSimpArgs false
set_option maxRecDepth 100000

theorem infoN10 : (Tryz.prog.info? 44).map (fun i => (i.zero, i.size, i.bytes)) = some (some (.agg #[.int .u8 0, .slice none 0 0, .slice none 0 0, .int .i64 0, .int .i64 0]), 5, 72) := by kernel_rfl

/-- The chapter's graph, where it lies. -/
def knN (q : Nat) : List Nd := [⟨1, none, 0, 0, some ⟨q + 1, 0, none⟩, 2, 2, 0, 0, [], [2, 3]⟩, ⟨2, none, 0, 0, some ⟨q + 2, 0, none⟩, 2, 2, 0, 0, [], [3, 2]⟩, ⟨7, some ⟨q + 3, 0, none⟩, 2, 2, none, 0, 0, 0, 0, [0, 1], []⟩, ⟨5, some ⟨q + 4, 0, none⟩, 1, 1, none, 0, 0, 0, 0, [2], []⟩]

end

section
open Go
set_option linter.unusedVariables false
set_option linter.unusedSimpArgs false
set_option maxRecDepth 100000

/-- A word. -/
abbrev Wd := List UInt8

/-- A node, plainly. -/
structure Tn where
  kd : Nat
  xs : List Int
  sh : List Int
  N : Int
  P : Int

/-- The row of a kind. -/
def rowB : Nat → Wd
  | 0 => []
  | 1 => [105, 110, 112, 117, 116, 32, 83]
  | 2 => [119, 101, 105, 103, 104, 116, 32, 83]
  | 3 => [97, 100, 100, 32, 65, 32, 66]
  | 4 => [109, 117, 108, 32, 65, 32, 66]
  | 5 => [114, 101, 108, 117, 32, 65]
  | 6 => [115, 104, 105, 102, 116, 32, 65, 32, 98, 121, 32, 78]
  | 7 => [112, 114, 111, 100, 117, 99, 116, 32, 65, 32, 66]
  | 8 => [119, 105, 110, 100, 111, 119, 32, 65, 32, 66, 32, 115, 116, 101, 112, 32, 78, 32, 112, 97, 100, 32, 80]
  | 9 => [112, 111, 111, 108, 32, 65, 32, 119, 105, 100, 101, 32, 78]
  | 10 => [115, 104, 97, 112, 101, 32, 65, 32, 116, 111, 32, 83]
  | 11 => [116, 117, 114, 110, 32, 65, 32, 116, 111, 32, 83]
  | 12 => [106, 111, 105, 110, 32, 65, 46, 46, 32, 97, 108, 111, 110, 103, 32, 78]
  | 13 => [115, 117, 109, 32, 65, 32, 97, 108, 111, 110, 103, 32, 78]
  | _ => []

/-- Its parts. -/
def partsB : Nat → List Wd
  | 0 => []
  | 1 => [[105, 110, 112, 117, 116], [83]]
  | 2 => [[119, 101, 105, 103, 104, 116], [83]]
  | 3 => [[97, 100, 100], [65], [66]]
  | 4 => [[109, 117, 108], [65], [66]]
  | 5 => [[114, 101, 108, 117], [65]]
  | 6 => [[115, 104, 105, 102, 116], [65], [98, 121], [78]]
  | 7 => [[112, 114, 111, 100, 117, 99, 116], [65], [66]]
  | 8 => [[119, 105, 110, 100, 111, 119], [65], [66], [115, 116, 101, 112], [78], [112, 97, 100], [80]]
  | 9 => [[112, 111, 111, 108], [65], [119, 105, 100, 101], [78]]
  | 10 => [[115, 104, 97, 112, 101], [65], [116, 111], [83]]
  | 11 => [[116, 117, 114, 110], [65], [116, 111], [83]]
  | 12 => [[106, 111, 105, 110], [65, 46, 46], [97, 108, 111, 110, 103], [78]]
  | 13 => [[115, 117, 109], [65], [97, 108, 111, 110, 103], [78]]
  | _ => []

/-- The kind of a first word. -/
def kindB (w : Wd) : Nat :=
  if w = [105, 110, 112, 117, 116] then 1 else if w = [119, 101, 105, 103, 104, 116] then 2 else if w = [97, 100, 100] then 3 else if w = [109, 117, 108] then 4 else if w = [114, 101, 108, 117] then 5 else if w = [115, 104, 105, 102, 116] then 6 else if w = [112, 114, 111, 100, 117, 99, 116] then 7 else if w = [119, 105, 110, 100, 111, 119] then 8 else if w = [112, 111, 111, 108] then 9 else if w = [115, 104, 97, 112, 101] then 10 else if w = [116, 117, 114, 110] then 11 else if w = [106, 111, 105, 110] then 12 else if w = [115, 117, 109] then 13 else 0

/-- The words for a part. -/
def stepW (x : Tn) (p : Wd) : List Wd :=
  if p = [65] then [Lib.itoa (x.xs.getD 0 0)]
  else if p = [66] then [Lib.itoa (x.xs.getD 1 0)]
  else if p = [65, 46, 46] then x.xs.map Lib.itoa
  else if p = [83] then x.sh.map Lib.itoa
  else if p = [78] then [Lib.itoa x.N]
  else if p = [80] then [Lib.itoa x.P]
  else [p]

/-- A node's words, its line, a graph's text. -/
def wordsB (x : Tn) : List Wd := (partsB x.kd).flatMap (stepW x)

def lineB (x : Tn) : Wd := Lib.join (wordsB x) [32]

def textB (ns : List Tn) : Wd := ns.flatMap fun x => lineB x ++ [10]

/-- The number that a word is. -/
def numB (w : Wd) : Option Int := if 9 < w.length then none else match Lib.atoiAll w with
  | .ok n => if n < 0 ∨ Lib.itoa n ≠ w then none else some n
  | _ => none

/-- As many numbers as there are. -/
def numsB : List Wd → List Int
  | [] => []
  | w :: r => match numB w with
    | none => []
    | some n => n :: numsB r

/-- What is read so far, and the words that are left. -/
structure Rd where
  xs : List Int
  sh : List Int
  N : Int
  P : Int
  rest : List Wd

def stepR (r : Rd) (p : Wd) : Option Rd :=
  if p = [65] ∨ p = [66] then match r.rest with
    | [] => none
    | w :: t => (numB w).map fun n => { r with xs := r.xs ++ [n], rest := t }
  else if p = [65, 46, 46] then if numsB r.rest = [] then none else some { r with xs := numsB r.rest, rest := r.rest.drop (numsB r.rest).length }
  else if p = [83] then if numsB r.rest = [] then none else some { r with sh := numsB r.rest, rest := r.rest.drop (numsB r.rest).length }
  else if p = [78] then match r.rest with
    | [] => none
    | w :: t => (numB w).map fun n => { r with N := n, rest := t }
  else if p = [80] then match r.rest with
    | [] => none
    | w :: t => (numB w).map fun n => { r with P := n, rest := t }
  else match r.rest with
    | [] => none
    | w :: t => if w = p then some { r with rest := t } else none

/-- All parts, one behind the other. -/
def readB : List Wd → Rd → Option Rd
  | [], r => some r
  | p :: ps, r => (stepR r p).bind (readB ps)

/-- The node whose words these are. -/
def nodeW (ws : List Wd) : Option Tn :=
  if kindB (ws.headD []) = 0 then none else (readB (partsB (kindB (ws.headD []))) ⟨[], [], 0, 0, ws⟩).bind fun r => if r.rest = [] then some ⟨kindB (ws.headD []), r.xs, r.sh, r.N, r.P⟩ else none

def nodeB (line : Wd) : Option Tn := nodeW (Lib.split line [32])

/-- The lines of a text. -/
def linesB (s : Wd) : List Wd := if (Lib.split s [10]).getLast? = some [] then (Lib.split s [10]).dropLast else Lib.split s [10]

/-- The nodes of lines, or the line that is at fault. -/
def goP : Nat → List Tn → List Wd → List Tn ⊕ Nat
  | at', done, [] => .inl done
  | at', done, l :: r => match nodeB l with
    | none => .inr at'
    | some x => if 32 ≤ at' then .inr at' else goP (at' + 1) (done ++ [x]) r

/-! ### Splitting at one byte -/

def splitC (c : UInt8) : Wd → List Wd
  | [] => [[]]
  | b :: l => if b = c then [] :: splitC c l else match splitC c l with
    | [] => [[b]]
    | w :: r => (b :: w) :: r

theorem splitC_ne (c : UInt8) (s : Wd) : splitC c s ≠ [] := by
  cases s with
  | nil => simp [splitC]
  | cons b l => rw [splitC]; split; · simp
                split <;> simp

theorem split_eq (c : UInt8) (s : Wd) : Lib.split s [c] = splitC c s := by
  have key : ∀ (s : Wd), Lib.splitK [c] 0 (s.count c) s = splitC c s := by
    intro s
    induction s with
    | nil => rfl
    | cons b l ih =>
      by_cases hb : b = c
      · subst hb
        rw [List.count_cons_self, Lib.splitK, splitC, if_pos rfl]
        have h0 : Lib.index (b :: l) [b] = 0 := by simp [Lib.index]
        rw [h0]
        simpa using ih
      · rw [List.count_cons_of_ne (by simpa using hb), splitC, if_neg hb]
        have hidx : Lib.index (b :: l) [c] = if Lib.index l [c] == -1 then -1 else Lib.index l [c] + 1 := by
          rw [Lib.index, if_neg (by simp [List.isPrefixOf]; exact fun e => hb e.symm)]
        cases hk : l.count c with
        | zero =>
          rw [hk] at ih
          rw [← ih]
          rfl
        | succ k =>
          rw [hk] at ih
          rw [← ih, Lib.splitK, Lib.splitK, hidx]
          by_cases hm : Lib.index l [c] = -1
          · simp [hm]
          · have hge := Lib.index_ge l [c]
            have hn : (Lib.index l [c] == -1) = false := by simpa using hm
            have hn2 : (Lib.index l [c] + 1 == -1) = false := by simp; omega
            rw [hn]
            simp only [Bool.false_eq_true, if_false]
            rw [hn2]
            simp only [Bool.false_eq_true, if_false]
            have e : (Lib.index l [c] + 1).toNat = (Lib.index l [c]).toNat + 1 := by omega
            rw [e]
            simp [Nat.add_right_comm]
  rw [Lib.split, Lib.count_one]
  exact key s

theorem splitC_none (c : UInt8) : ∀ s : Wd, c ∉ s → splitC c s = [s]
  | [], _ => rfl
  | b :: l, h => by
    rw [splitC, if_neg (by intro e; exact h (by simp [e])), splitC_none c l (by intro e; exact h (by simp [e]))]

theorem splitC_app (c : UInt8) : ∀ (a s : Wd), c ∉ a → splitC c (a ++ c :: s) = a :: splitC c s
  | [], s, _ => by rw [List.nil_append, splitC, if_pos rfl]
  | b :: l, s, h => by
    rw [List.cons_append, splitC, if_neg (by intro e; exact h (by simp [e])), splitC_app c l s (by intro e; exact h (by simp [e]))]

theorem split_join (c : UInt8) : ∀ ws : List Wd, ws ≠ [] → (∀ w ∈ ws, c ∉ w) → splitC c (Lib.join ws [c]) = ws
  | [], h, _ => absurd rfl h
  | [w], _, h => by rw [Lib.join_one]; exact splitC_none c w (h w (by simp))
  | w :: v :: r, _, h => by
    have ih := split_join c (v :: r) (by simp) (fun u hu => h u (List.mem_cons_of_mem _ hu))
    have e : Lib.join (w :: v :: r) [c] = w ++ c :: Lib.join (v :: r) [c] := by
      rw [Lib.join_cons, Lib.join_cons, Lib.joinTail, Lib.joinTail]; simp
    rw [e, splitC_app c w _ (h w (by simp)), ih]

/-! ### Numbers as words -/

theorem dec_digits : ∀ (u : Nat) (b : UInt8), b ∈ Lib.decDigits u → 48 ≤ b.toNat ∧ b.toNat ≤ 57 := by
  intro u
  induction u using Nat.strongRecOn with
  | _ u ih =>
    intro b hb
    rw [Lib.decDigits] at hb
    split at hb
    · rename_i h
      simp only [List.mem_singleton] at hb
      subst hb
      rw [UInt8.toNat_ofNat']
      omega
    · rename_i h
      rw [List.mem_append] at hb
      rcases hb with hb | hb
      · exact ih (u / 10) (by omega) b hb
      · simp only [List.mem_singleton] at hb
        subst hb
        rw [UInt8.toNat_ofNat']
        omega

theorem dec_ne (u : Nat) : Lib.decDigits u ≠ [] := by
  rw [Lib.decDigits]; split <;> simp

theorem parse_app : ∀ (a b : Wd) (acc m : Nat), Lib.parseUint10 acc a = .ok m → Lib.parseUint10 acc (a ++ b) = Lib.parseUint10 m b
  | [], b, acc, m, h => by simp only [Lib.parseUint10] at h; injection h with h; subst h; rfl
  | c :: r, b, acc, m, h => by
    simp only [Lib.parseUint10, List.cons_append] at h ⊢
    split at h
    · rename_i h1
      rw [if_pos h1]
      split at h
      · cases h
      · rename_i h2
        rw [if_neg h2]
        split at h
        · cases h
        · rename_i h3
          rw [if_neg h3]
          exact parse_app r b _ m h
    · cases h

theorem parse_dec : ∀ u : Nat, u < 1000000000 → Lib.parseUint10 0 (Lib.decDigits u) = .ok u := by
  intro u
  induction u using Nat.strongRecOn with
  | _ u ih =>
    intro hu
    rw [Lib.decDigits]
    split
    · rename_i h
      have e : (UInt8.ofNat (48 + u)).toNat = 48 + u := by rw [UInt8.toNat_ofNat']; omega
      simp only [Lib.parseUint10, e]
      rw [if_pos (by omega), if_neg (by omega), if_neg (by omega)]
      congr 1; omega
    · rename_i h
      rw [parse_app _ _ _ _ (ih (u / 10) (by omega) (by omega))]
      have e : (UInt8.ofNat (48 + u % 10)).toNat = 48 + u % 10 := by rw [UInt8.toNat_ofNat']; omega
      simp only [Lib.parseUint10, e]
      rw [if_pos (by omega), if_neg (by omega), if_neg (by omega)]
      congr 1; omega

theorem itoa_nat (n : Int) (h : 0 ≤ n) : Lib.itoa n = Lib.decDigits n.toNat := by rw [Lib.itoa, if_neg (by omega)]

theorem nDig9 (u : Nat) (h : u < 1000000000) : Lib.nDigits u ≤ 9 := by
  rcases Nat.lt_or_ge (Lib.nDigits u) 10 with h2 | h2
  · omega
  · exfalso
    have h3 : ∀ (k u : Nat), k + 1 ≤ Lib.nDigits u → 10 ^ k ≤ u ∨ k = 0 := by
      intro k
      induction k with
      | zero => intro u _; exact .inr rfl
      | succ k ih =>
        intro u hk
        left
        by_cases hs : u < 10
        · rw [Lib.nDigits_small hs] at hk; omega
        · rw [Lib.nDigits_big hs] at hk
          rcases ih (u / 10) (by omega) with h4 | h4
          · rw [Nat.pow_succ]; omega
          · subst h4; simp; omega
    rcases h3 9 u (by omega) with h4 | h4
    · simp at h4; omega
    · omega

/-- A number is read back. -/
theorem num_itoa (n : Int) (h0 : 0 ≤ n) (h1 : n < 1000000000) : numB (Lib.itoa n) = some n := by
  have hl : (Lib.itoa n).length ≤ 9 := by rw [itoa_nat n h0, Lib.decDigits_length]; exact nDig9 _ (by omega)
  have ha : Lib.atoiAll (Lib.itoa n) = .ok n := by
    rw [itoa_nat n h0]
    cases hd : Lib.decDigits n.toNat with
    | nil => exact absurd hd (dec_ne _)
    | cons c r =>
      have hc := dec_digits n.toNat c (by rw [hd]; simp)
      have hp := parse_dec n.toNat (by omega)
      rw [hd] at hp
      simp only [Lib.atoiAll]
      rw [if_neg (by omega), Lib.parseMag, if_neg (by simp), hp]
      simp only
      rw [if_neg (by omega), if_neg (by omega), if_neg (by omega)]
      congr 1; omega
  rw [numB, if_neg (by omega), ha]
  simp only
  rw [if_neg (by simp; exact h0)]

theorem itoa_clean (n : Int) (h : 0 ≤ n) (b : UInt8) (hb : b ∈ Lib.itoa n) : 48 ≤ b.toNat ∧ b.toNat ≤ 57 := by
  rw [itoa_nat n h] at hb
  exact dec_digits _ b hb

/-- Numbers that are words. -/
def Small (l : List Int) : Prop := ∀ n ∈ l, 0 ≤ n ∧ n < 1000000000

theorem nums_app : ∀ (l : List Int) (r : List Wd), Small l → (∀ w, r.head? = some w → numB w = none) → numsB (l.map Lib.itoa ++ r) = l
  | [], r, _, h => by
    rw [List.map_nil, List.nil_append]
    cases r with
    | nil => rfl
    | cons w t => rw [numsB, h w rfl]
  | n :: l, r, hs, h => by
    have ih := nums_app l r (fun m hm => hs m (List.mem_cons_of_mem _ hm)) h
    rw [List.map_cons, List.cons_append, numsB, num_itoa n (hs n (by simp)).1 (hs n (by simp)).2]
    simp only
    rw [ih]
/-! ### What is written is read -/

/-- The form of a node of a kind. -/
def FormK : Nat → Tn → Prop
  | 1, x => x.xs = [] ∧ x.sh ≠ [] ∧ x.N = 0 ∧ x.P = 0
  | 2, x => x.xs = [] ∧ x.sh ≠ [] ∧ x.N = 0 ∧ x.P = 0
  | 3, x => x.xs.length = 2 ∧ x.sh = [] ∧ x.N = 0 ∧ x.P = 0
  | 4, x => x.xs.length = 2 ∧ x.sh = [] ∧ x.N = 0 ∧ x.P = 0
  | 5, x => x.xs.length = 1 ∧ x.sh = [] ∧ x.N = 0 ∧ x.P = 0
  | 6, x => x.xs.length = 1 ∧ x.sh = [] ∧ x.P = 0
  | 7, x => x.xs.length = 2 ∧ x.sh = [] ∧ x.N = 0 ∧ x.P = 0
  | 8, x => x.xs.length = 2 ∧ x.sh = []
  | 9, x => x.xs.length = 1 ∧ x.sh = [] ∧ x.P = 0
  | 10, x => x.xs.length = 1 ∧ x.sh ≠ [] ∧ x.N = 0 ∧ x.P = 0
  | 11, x => x.xs.length = 1 ∧ x.sh ≠ [] ∧ x.N = 0 ∧ x.P = 0
  | 12, x => x.xs ≠ [] ∧ x.sh = [] ∧ x.P = 0
  | 13, x => x.xs.length = 1 ∧ x.sh = [] ∧ x.P = 0
  | _, _ => False

def FormT (x : Tn) : Prop := Small x.xs ∧ Small x.sh ∧ (0 ≤ x.N ∧ x.N < 1000000000) ∧ (0 ≤ x.P ∧ x.P < 1000000000) ∧ FormK x.kd x

theorem len_one {l : List Int} (h : l.length = 1) : ∃ a, l = [a] := by
  match l, h with
  | [a], _ => exact ⟨a, rfl⟩

theorem len_two {l : List Int} (h : l.length = 2) : ∃ a b, l = [a, b] := by
  match l, h with
  | [a, b], _ => exact ⟨a, b, rfl⟩

theorem nums_all (l : List Int) (h : Small l) : numsB (l.map Lib.itoa) = l := by
  have := nums_app l [] h (by simp)
  rwa [List.append_nil] at this

theorem num_along : numB [97, 108, 111, 110, 103] = none := by decide

theorem nums_along (l : List Int) (h : Small l) (t : List Wd) : numsB (l.map Lib.itoa ++ [97, 108, 111, 110, 103] :: t) = l :=
  nums_app l _ h (by intro w hw; simp at hw; subst hw; exact num_along)

theorem node_words (x : Tn) (h : FormT x) : nodeW (wordsB x) = some x := by
  obtain ⟨k, xs, sh, N, P⟩ := x
  obtain ⟨hx, hs, hN, hP, hk⟩ := h
  simp only at hx hs hN hP hk
  have nN := num_itoa N hN.1 hN.2
  have nP := num_itoa P hP.1 hP.2
  match k, hk with
  | 1, ⟨e1, e2, e3, e4⟩ | 2, ⟨e1, e2, e3, e4⟩ =>
    simp only at e1 e2 e3 e4
    subst e1 e3 e4
    simp [nodeW, wordsB, partsB, stepW, kindB, readB, stepR, nums_all sh hs, e2, List.drop_length]
  | 3, ⟨e1, e2, e3, e4⟩ | 4, ⟨e1, e2, e3, e4⟩ | 7, ⟨e1, e2, e3, e4⟩ =>
    simp only at e1 e2 e3 e4
    obtain ⟨a, b, rfl⟩ := len_two e1
    subst e2 e3 e4
    have na := num_itoa a (hx a (by simp)).1 (hx a (by simp)).2
    have nb := num_itoa b (hx b (by simp)).1 (hx b (by simp)).2
    simp [nodeW, wordsB, partsB, stepW, kindB, readB, stepR, na, nb]
  | 5, ⟨e1, e2, e3, e4⟩ =>
    simp only at e1 e2 e3 e4
    obtain ⟨a, rfl⟩ := len_one e1
    subst e2 e3 e4
    have na := num_itoa a (hx a (by simp)).1 (hx a (by simp)).2
    simp [nodeW, wordsB, partsB, stepW, kindB, readB, stepR, na]
  | 6, ⟨e1, e2, e4⟩ | 9, ⟨e1, e2, e4⟩ | 13, ⟨e1, e2, e4⟩ =>
    simp only at e1 e2 e4
    obtain ⟨a, rfl⟩ := len_one e1
    subst e2 e4
    have na := num_itoa a (hx a (by simp)).1 (hx a (by simp)).2
    simp [nodeW, wordsB, partsB, stepW, kindB, readB, stepR, na, nN]
  | 8, ⟨e1, e2⟩ =>
    simp only at e1 e2
    obtain ⟨a, b, rfl⟩ := len_two e1
    subst e2
    have na := num_itoa a (hx a (by simp)).1 (hx a (by simp)).2
    have nb := num_itoa b (hx b (by simp)).1 (hx b (by simp)).2
    simp [nodeW, wordsB, partsB, stepW, kindB, readB, stepR, na, nb, nN, nP]
  | 10, ⟨e1, e2, e3, e4⟩ | 11, ⟨e1, e2, e3, e4⟩ =>
    simp only at e1 e2 e3 e4
    obtain ⟨a, rfl⟩ := len_one e1
    subst e3 e4
    have na := num_itoa a (hx a (by simp)).1 (hx a (by simp)).2
    simp [nodeW, wordsB, partsB, stepW, kindB, readB, stepR, na, nums_all sh hs, e2]
  | 12, ⟨e1, e2, e4⟩ =>
    simp only at e1 e2 e4
    subst e2 e4
    have hn := nums_along xs hx [Lib.itoa N]
    have hd : (List.map Lib.itoa xs ++ [[97, 108, 111, 110, 103], Lib.itoa N]).drop xs.length = [[97, 108, 111, 110, 103], Lib.itoa N] := by
      rw [List.drop_append_of_le_length (by simp)]; simp
    simp [nodeW, wordsB, partsB, stepW, kindB, readB, stepR, hn, hd, e1, nN]

theorem parts_clean : ∀ k, k < 14 → ∀ p ∈ partsB k, 32 ∉ p ∧ 10 ∉ p := by decide

theorem FormK.lt {k : Nat} {x : Tn} (h : FormK k x) : 1 ≤ k ∧ k < 14 := by
  match k, h with
  | 1, _ | 2, _ | 3, _ | 4, _ | 5, _ | 6, _ | 7, _ | 8, _ | 9, _ | 10, _ | 11, _ | 12, _ | 13, _ => omega

theorem itoa_cl (n : Int) (h : 0 ≤ n) : (32 : UInt8) ∉ Lib.itoa n ∧ (10 : UInt8) ∉ Lib.itoa n := by
  constructor
  · intro e; have := itoa_clean n h _ e; simp at this
  · intro e; have := itoa_clean n h _ e; simp at this

theorem getD_nn (l : List Int) (h : Small l) (k : Nat) : 0 ≤ l.getD k 0 := by
  rw [List.getD_eq_getElem?_getD]
  cases hk : l[k]? with
  | none => simp
  | some n => exact (h n (List.mem_of_getElem? hk)).1

theorem words_clean (x : Tn) (h : FormT x) (w : Wd) (hw : w ∈ wordsB x) : 32 ∉ w ∧ 10 ∉ w := by
  obtain ⟨hx, hs, hN, hP, hk⟩ := h
  rw [wordsB, List.mem_flatMap] at hw
  obtain ⟨p, hp, hw⟩ := hw
  have hpc := parts_clean x.kd hk.lt.2 p hp
  rw [stepW] at hw
  repeat' split at hw
  · simp only [List.mem_singleton] at hw; subst hw; exact itoa_cl _ (getD_nn _ hx 0)
  · simp only [List.mem_singleton] at hw; subst hw; exact itoa_cl _ (getD_nn _ hx 1)
  · obtain ⟨n, hn, rfl⟩ := List.mem_map.1 hw; exact itoa_cl _ (hx n hn).1
  · obtain ⟨n, hn, rfl⟩ := List.mem_map.1 hw; exact itoa_cl _ (hs n hn).1
  · simp only [List.mem_singleton] at hw; subst hw; exact itoa_cl _ hN.1
  · simp only [List.mem_singleton] at hw; subst hw; exact itoa_cl _ hP.1
  · simp only [List.mem_singleton] at hw; subst hw; exact hpc

theorem words_head (x : Tn) (h : 1 ≤ x.kd ∧ x.kd < 14) : ∃ c t r, wordsB x = (c :: t) :: r := by
  obtain ⟨k, xs, sh, N, P⟩ := x
  simp only at h
  match k, h with
  | 1, _ | 2, _ | 3, _ | 4, _ | 5, _ | 6, _ | 7, _ | 8, _ | 9, _ | 10, _ | 11, _ | 12, _ | 13, _ => exact ⟨_, _, _, rfl⟩

theorem words_ne (x : Tn) (h : 1 ≤ x.kd ∧ x.kd < 14) : wordsB x ≠ [] := by
  obtain ⟨c, t, r, e⟩ := words_head x h
  rw [e]; simp

/-- The line of a node is read. -/
theorem node_line (x : Tn) (h : FormT x) : nodeB (lineB x) = some x := by
  rw [nodeB, split_eq, lineB, split_join 32 _ (words_ne x h.2.2.2.2.lt) (fun w hw => (words_clean x h w hw).1)]
  exact node_words x h

theorem text_cons (x : Tn) (r : List Tn) : textB (x :: r) = lineB x ++ 10 :: textB r := by simp [textB]
/-! ### What is read, written again -/

theorem ite_lt14 {c : Prop} [Decidable c] {a b n : Nat} (ha : a < n) (hb : b < n) : (if c then a else b) < n := by split <;> assumption

theorem kind_lt (w : Wd) : kindB w < 14 := by
  unfold kindB
  repeat refine ite_lt14 (by decide) ?_
  decide

end

end Go.Proofs.YtohndckbhjakfaaGreatDoor

