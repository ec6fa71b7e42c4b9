/- With: a graph with one node more; known: the chapter's graph. -/
import Derived.Test.YtdlhhkegkfhmoaaGp1M
import Derived.Test.YtdlhhkegkfhmoaaAppNM
import Derived.Test.YtdlhhkegkfhmoaaWB
import Derived.OneCell
namespace Go.Proofs.Ytdlhhkegkfhmoaa
open Go.RowKit
set_option linter.unusedVariables false
set_option linter.unusedSimpArgs false
set_option maxRecDepth 100000

def Nd.five (x : Nd) : List Value := [.int .u8 x.kd, .slice x.I x.ni x.ci, .slice x.S x.ns x.cs, .int .i64 x.N, .int .i64 x.P]

/-- A list of nodes, cell by cell. -/
def cellsN (ns : List Nd) : List Value := ns.flatMap Nd.five

theorem cellsN_cons (x : Nd) (r : List Nd) : cellsN (x :: r) = .int .u8 x.kd :: .slice x.I x.ni x.ci :: .slice x.S x.ns x.cs :: .int .i64 x.N :: .int .i64 x.P :: cellsN r := by simp [cellsN, Nd.five]

theorem cellsN_append (a b : List Nd) : cellsN (a ++ b) = cellsN a ++ cellsN b := by simp [cellsN, List.flatMap_append]

theorem cellsN_len : ∀ ns : List Nd, (cellsN ns).length = ns.length * 5
  | [] => rfl
  | x :: r => by rw [cellsN_cons]; simp only [List.length_cons]; rw [cellsN_len r]; omega

theorem cellsN_at : ∀ (ns : List Nd) (j : Nat) (x : Nd), ns[j]? = some x → (cellsN ns)[j * 5]? = some (.int .u8 x.kd) ∧ (cellsN ns)[j * 5 + 1]? = some (.slice x.I x.ni x.ci) ∧ (cellsN ns)[j * 5 + 2]? = some (.slice x.S x.ns x.cs) ∧ (cellsN ns)[j * 5 + 3]? = some (.int .i64 x.N) ∧ (cellsN ns)[j * 5 + 4]? = some (.int .i64 x.P)
  | [], j, x, h => by simp at h
  | y :: r, 0, x, h => by
    obtain rfl : y = x := by simpa using h
    rw [cellsN_cons]
    exact ⟨rfl, rfl, rfl, rfl, rfl⟩
  | y :: r, j + 1, x, h => by
    have ih := cellsN_at r j x (by simpa using h)
    rw [cellsN_cons, show (j + 1) * 5 = j * 5 + 1 + 1 + 1 + 1 + 1 by omega]
    have e : ∀ k, j * 5 + 1 + 1 + 1 + 1 + 1 + k = (j * 5 + k) + 1 + 1 + 1 + 1 + 1 := fun k => by omega
    rw [e 1, e 2, e 3, e 4]
    simpa using ih

theorem cellsN_one : ∀ ns : List Nd, ∀ u ∈ cellsN ns, u.oneCell' = true
  | [], u, h => by cases h
  | x :: r, u, h => by
    rw [cellsN_cons] at h
    rcases List.mem_cons.1 h with rfl | h
    · rfl
    rcases List.mem_cons.1 h with rfl | h
    · rfl
    rcases List.mem_cons.1 h with rfl | h
    · rfl
    rcases List.mem_cons.1 h with rfl | h
    · rfl
    rcases List.mem_cons.1 h with rfl | h
    · rfl
    exact cellsN_one r u h

theorem cellsN_get : ∀ (ns : List Nd) (j : Nat) (u : Value), (cellsN ns)[j]? = some u → ∃ x, ns[j / 5]? = some x ∧ x.five[j % 5]? = some u
  | [], j, u, h => by simp [cellsN] at h
  | x :: r, j, u, h => by
    by_cases hj : j < 5
    · refine ⟨x, by rw [Nat.div_eq_of_lt hj]; rfl, ?_⟩
      rw [Nat.mod_eq_of_lt hj]
      have e : cellsN (x :: r) = x.five ++ cellsN r := by simp [cellsN]
      rw [e, List.getElem?_append_left (by simpa [Nd.five] using hj)] at h
      exact h
    · obtain ⟨i, rfl⟩ : ∃ i, j = i + 5 := ⟨j - 5, by omega⟩
      have e : cellsN (x :: r) = x.five ++ cellsN r := by simp [cellsN]
      rw [e, List.getElem?_append_right (by simp [Nd.five])] at h
      obtain ⟨y, h1, h2⟩ := cellsN_get r i u (by simpa [Nd.five] using h)
      refine ⟨y, ?_, ?_⟩
      · rw [Nat.add_div_right _ (by omega)]; simpa using h1
      · rw [Nat.add_mod_right]; exact h2

/-- A list of nodes that lies there, cell by cell. -/
theorem NsIn.cells {w : World} {A : Option Addr} {n : Nat} {ns : List Nd} (h : NsIn w A n ns) : 1 ≤ n → ∃ ad, A = some ad ∧ ∀ j u, (cellsN ns)[j]? = some u → w.cell? (ad.add j) = some u := by
  intro hn
  obtain ⟨b, o, e, _, hx⟩ := h.2 hn
  refine ⟨⟨b, o, none⟩, e, fun j u hj => ?_⟩
  obtain ⟨x, hx1, hx2⟩ := cellsN_get ns j u hj
  obtain ⟨h0, h1, h2, h3, h4, _⟩ := hx _ x hx1
  rw [Addr.add_lit]
  have hd := Nat.div_add_mod j 5
  have hm := Nat.mod_lt j (show 5 > 0 by omega)
  generalize j / 5 = q at hd h0 h1 h2 h3 h4
  generalize hr : j % 5 = r at hd hm hx2
  clear hr
  have hjq : j = q * 5 + r := by omega
  subst hjq
  match r, hm with
  | 0, _ => cases hx2; exact h0
  | 1, _ => cases hx2; rw [← Nat.add_assoc]; exact h1
  | 2, _ => cases hx2; rw [← Nat.add_assoc]; exact h2
  | 3, _ => cases hx2; rw [← Nat.add_assoc]; exact h3
  | 4, _ => cases hx2; rw [← Nat.add_assoc]; exact h4

/-- A row of the call's own that holds nodes. -/
theorem NsIn.ofOwn {w : World} {base : Nat} {e : TypeId} {A : Option Addr} {n c : Nat} {ns : List Nd} (h : w.ownsRow base e 5 (.slice A n c) n (cellsN ns)) (hl : ns.length = n) (ho : ∀ x ∈ ns, x.Ok w) : NsIn w A n ns :=
  ⟨hl, fun hn => by
    obtain ⟨g, rfl, _, hg, hx⟩ := ownN_cells h hn
    refine ⟨g, 0, rfl, hg, fun j x hj => ?_⟩
    obtain ⟨h0, h1, h2, h3, h4⟩ := cellsN_at ns j x hj
    rw [Nat.zero_add]
    exact ⟨hx _ _ h0, hx _ _ h1, hx _ _ h2, hx _ _ h3, hx _ _ h4, ho x (List.mem_of_getElem? hj)⟩⟩

theorem NsIn.oks {w : World} {A : Option Addr} {n : Nat} {ns : List Nd} (h : NsIn w A n ns) : ∀ x ∈ ns, x.Ok w := by
  intro x hx
  obtain ⟨j, hj, e⟩ := List.mem_iff_getElem.1 hx
  have hn : 1 ≤ n := by rw [← h.1]; omega
  obtain ⟨b, o, _, _, hx⟩ := h.2 hn
  exact (hx j x (by rw [List.getElem?_eq_getElem hj, e])).2.2.2.2.2

/-- A graph that is answered. -/
theorem results_gr {fn : Func} {p : Tmp} (h : fn.results = #[.cell p 24]) (tmps : Array Value) (w : World) (g : Nat) (cs : Array Value)
    (hp : tmps.getD p undef = .pointer (some ⟨g, 0, none⟩)) (hg : w.heap[g]? = some (.cells cs 24 (0, 0))) (hs : cs.size = 1) :
    (results fn tmps).run Try.prog w = .ok (.agg cs) w :=
  results_cell_row h tmps w g 24 cs (0, 0) _ hp hg Try.underlying24 rfl (by rw [hs]; kernel_rfl)

theorem ret_gr {fn : Func} {p : Tmp} {R : Ending → World → Prop} {a : Act} {w : World} (h : fn.results = #[.cell p 24]) (hd : a.defers = []) (g : Nat) (cs : Array Value)
    (hp : a.tmps.getD p undef = .pointer (some ⟨g, 0, none⟩)) (hg : w.heap[g]? = some (.cells cs 24 (0, 0))) (hs : cs.size = 1) (hR : R (.returned (.agg cs)) w) : bodyPost Try.prog fn R .ret a w :=
  bodyPost_ret (results_gr h _ w g cs hp hg hs) hd hR

/-- A graph in a block. -/
def BoxG (w : World) (p : Nat) (v : Value) : Prop := w.heap[p]? = some (.cells #[v] 24 (0, 0))

theorem BoxG.new (w : World) (v : Value) : BoxG (w.alloc (.cells #[v] 24)) w.heap.size v := heap_alloc_new w _

theorem BoxG.lt {w : World} {p : Nat} {v : Value} (h : BoxG w p v) : p < w.heap.size := lt_of_heap h

theorem BoxG.kept {w w' : World} {p : Nat} {v : Value} (h : BoxG w p v) (hb : Below w.heap.size w w') : BoxG w' p v := (hb.block p h.lt).trans h

theorem BoxG.c0 {w : World} {p : Nat} {v : Value} (h : BoxG w p v) : w.cell? ⟨p, 0, none⟩ = some v := cell_of_row _ _ 0 _ _ (0, 0) h

theorem BoxG.set {w : World} {p : Nat} {v : Value} (h : BoxG w p v) (u : Value) : BoxG (w.setCell ⟨p, 0, none⟩ u) p u := by
  unfold BoxG
  exact one_setCell h

theorem BoxG.f0 {w : World} {p : Nat} {v : Value} (h : BoxG w p v) (k : Nat) : w.frozen? ⟨p, k, none⟩ = false := frozen_of_row w p k _ _ h

end Go.Proofs.Ytdlhhkegkfhmoaa
