/- Merged: Help11, AppN, Wi10, Od2, Od3, Od4. -/
import Derived.Test.YteagmlaahnpkhaaWZ23
import Derived.Test.YteagmlaahnpkhaaWZ08
import Derived.Test.YteagmlaahnpkhaaWZ01
import Derived.Maps.AppendAt
import Derived.Test.YteagmlaahnpkhaaWZ22
import Derived.OneCell
import Derived.Test.YteagmlaahnpkhaaWZ09
import Derived.Deep.RegionLaw
import Derived.Laws.CopyOwn
namespace Go.Proofs.Yteagmlaahnpkhaa

section
open Go.RowKit
set_option linter.unusedVariables false
set_option linter.unusedSimpArgs false
set_option maxRecDepth 100000

set_option maxHeartbeats 1000000 in
theorem gcheck_any (A : Option Addr) (n c : Nat) (ns : List Nd) (w : World) (h : NsIn w A n ns) (hn : n ≤ 1073741824) (hc : n ≤ c) :
    Calls Try.prog 18 #[.agg #[.slice A n c]] w fun e w' => e = .returned (.bool (gphB ns)) ∧ Below w.heap.size w w' := by
  obtain ⟨W0, hW0⟩ : ∃ W0, W0 = w.alloc (.cells #[.slice A n c] 24) := ⟨_, rfl⟩
  have HB0 : Hid (Below w.heap.size w W0) := hide (by rw [hW0]; exact below_al6 (Below.refl _ _))
  have c0 : W0.cell? ⟨w.heap.size, 0, none⟩ = some (.slice A n c) := by rw [hW0]; exact cell_of_row _ _ 0 _ _ (0, 0) (heap_alloc_new w _)
  have HC := hide (gshapes_any A n c ns W0 (h.below HB0.out) hn hc)
  have hW0' := hW0.symm
  clear hW0 h
  have HE := hide (@gphE_zero ns)
  obtain ⟨E, hE⟩ : ∃ z, z = gphE ns := ⟨_, rfl⟩
  obtain ⟨B, hB⟩ : ∃ z, z = gphB ns := ⟨_, rfl⟩
  rw [← hE] at HC HE
  rw [← hB] at HE ⊢
  clear hE hB
  go_enter Try.func18, Try.ntmps18
  go_wp2_with fail
  refine Calls.mono HC.out ?_
  rintro e w1 ⟨R, m, kc, gs, rfl, _, _, hb⟩
  have HB := hide (below_nx6 HB0.out hb)
  clear hb c0 HC
  by_cases h0 : E = 0
  · obtain rfl : B = true := HE.out.1 h0
    subst h0
    go_wp2
    go_ret
    exact ⟨rfl, HB.out⟩
  · obtain rfl : B = false := by
      cases B with
      | false => rfl
      | true => exact absurd (HE.out.2 rfl) h0
    have e0 : (E == 0) = false := by simpa using h0
    clear h0
    go_wp2
    go_ret
    exact ⟨rfl, HB.out⟩

theorem take_oneS {α : Type} {l : List α} {k : Nat} {x : α} (h : l[k]? = some x) : l.take (k + 1) = l.take k ++ [x] := by
  obtain ⟨h1, h2⟩ := List.getElem?_eq_some_iff.1 h
  rw [List.take_succ_eq_append_getElem h1, h2]

theorem sameI_any (A B : Option Addr) (n c m d : Nat) (xs ys : List Int) (w : World) (h : Lies w A n (xs.map (Value.int .i64))) (k : Lies w B m (ys.map (Value.int .i64))) (hm : n ≤ 281474976710656) :
    Calls Try.prog 15 #[.slice A n c, .slice B m d] w fun e w' => e = .returned (.bool (decide (xs = ys))) ∧ Below w.heap.size w w' :=
  Calls.mono (sameG_Ints A B n c m d xs ys w h k hm) (fun e w' h => ⟨h.1, by obtain ⟨j, rfl⟩ := h.2; exact below_drewN (Below.refl _ _) j⟩)

end

section
open Go.RowKit
set_option linter.unusedVariables false

section
variable {P : Program} {w : World}

theorem run_append_srcN (t ty e : TypeId) (i : TypeInfo) (z : Value) (size bytes : Nat) (ht : P.underlying t = some (.slice e)) (hi : P.info? e = some i) (hz : i.zero = some z) (hsize : i.size = size) (hby : i.bytes = bytes) (hzs : z.cells.size = size) (hsz : 0 < size)
    (base : Nat) (v : Value) (n : Nat) (xs : List Value) (ho : w.ownsRow base e size v n xs) (hbase : base ≤ w.heap.size)
    (A : Option Addr) (m c : Nat) (news : List Value) (hl : news.length = m * size) (hn : 1 ≤ m → ∃ ad, A = some ad ∧ ∀ j u, news[j]? = some u → w.cell? (ad.add j) = some u) (hnil : A = none → c = 0) (h1 : ∀ u ∈ news, u.oneCell' = true) (hb : (n + m) * bytes ≤ 140737488355328) (h63 : n + m ≤ maxLen) :
    ∃ A' c' w', (Builtin.append_ #[t, t] ty #[v, .slice A m c]).run P w = .ok (.slice A' (n + m) c') w' ∧ w'.ownsRow base e size (.slice A' (n + m) c') (n + m) (xs ++ news) ∧ w.grownBy w' v.ownBlock ∧ (Value.ownBlock (.slice A' (n + m) c') = v.ownBlock ∨ Value.ownBlock (.slice A' (n + m) c') = some w.heap.size) := by
  cases A with
  | none =>
    obtain rfl : c = 0 := hnil rfl
    have hm : m = 0 := by
      rcases Nat.eq_zero_or_pos m with h | h
      · exact h
      · obtain ⟨_, h2, _⟩ := hn h; cases h2
    subst hm
    have hnn : news = [] := List.eq_nil_of_length_eq_zero (by simpa using hl)
    subst hnn
    have hrun := run_append_owned_none (P := P) w base t ty e i size ht hi v n xs ho
    rcases ho.2 with ⟨rfl, rfl⟩ | ⟨g, cap, cur, rfl, r⟩
    · exact ⟨none, 0, w, hrun, by simpa using ho, World.grownBy.refl _ _, .inl rfl⟩
    · exact ⟨some ⟨g, 0, none⟩, cap, w, hrun, by simpa using ho, World.grownBy.refl _ _, .inl rfl⟩
  | some ad =>
    have hcells : ∀ j u, news[j]? = some u → w.cell? (ad.add j) = some u := by
      intro j u hj
      have hjl : 1 ≤ m := by
        rcases Nat.eq_zero_or_pos m with h | h
        · subst h
          have hnn : news = [] := List.eq_nil_of_length_eq_zero (by simpa using hl)
          subst hnn
          simp at hj
        · exact h
      obtain ⟨a2, e2, hx⟩ := hn hjl
      injection e2 with e2
      subst e2
      exact hx j u hj
    obtain ⟨v', w', hrun, hown, hg, _, hat⟩ := run_append_own_at (P := P) w base t ty e i z size bytes ht hi hz hsize hby hzs hsz v n xs ho ad m c news hl hcells h1 h63 hb hbase
    rcases hown.2 with ⟨rfl, h0⟩ | ⟨g, cap, cur, rfl, r⟩
    · refine ⟨none, 0, w', ?_, ?_, hg, ?_⟩
      · rw [h0]; exact hrun
      · rw [h0]; rw [h0] at hown; exact hown
      · exact hat
    · exact ⟨some ⟨g, 0, none⟩, cap, w', hrun, hown, hg, hat⟩

theorem wpList_append_srcN {ops : Array Oper} {rest : List Oper} {op : Oper} {a : Act} {Q : Exit → Act → World → Prop} (hgd : op.guard = none) (s x : Operand) (t : TypeId)
    (hop : op.op = .call { callee := .builtin .append, args := #[s, x], argTypes := #[t, t] })
    (e : TypeId) (i : TypeInfo) (z : Value) (size bytes : Nat) (ht : P.underlying t = some (.slice e)) (hi : P.info? e = some i) (hz : i.zero = some z) (hsize : i.size = size) (hby : i.bytes = bytes) (hzs : z.cells.size = size) (hsz : 0 < size)
    (base : Nat) (v : Value) (n : Nat) (xs : List Value) (hs : a.eval s = v) (ho : w.ownsRow base e size v n xs) (hbase : base ≤ w.heap.size)
    (A : Option Addr) (m c : Nat) (news : List Value) (hx : a.eval x = .slice A m c) (hl : news.length = m * size) (hn : 1 ≤ m → ∃ ad, A = some ad ∧ ∀ j u, news[j]? = some u → w.cell? (ad.add j) = some u) (hnil : A = none → c = 0) (h1 : ∀ u ∈ news, u.oneCell' = true) (hb : (n + m) * bytes ≤ 140737488355328) (h63 : n + m ≤ maxLen)
    (h : ∀ A' c' w', w'.ownsRow base e size (.slice A' (n + m) c') (n + m) (xs ++ news) → w.grownBy w' v.ownBlock → (Value.ownBlock (.slice A' (n + m) c') = v.ownBlock ∨ Value.ownBlock (.slice A' (n + m) c') = some w.heap.size) → wpList P ops Q rest (a.put op.dst (.slice A' (n + m) c')) w') : wpList P ops Q (op :: rest) a w := by
  refine wpList_plain hgd fun K hK => ?_
  obtain ⟨A', c', w', hrun, h2, h3, h4⟩ := run_append_srcN (P := P) (w := w) t op.type e i z size bytes ht hi hz hsize hby hzs hsz base v n xs ho hbase A m c news hl hn hnil h1 hb h63
  unfold Oper.wp
  simp [execOp, hop, resolve, invoke, builtin, hs, hx, hrun, Result.andThen]
  exact hK _ _ (h A' c' w' h2 h3 h4)

theorem step_append_srcN {ops : Array Oper} {op : Oper} {a : Act} {K : Act → World → Prop} {Q : Exit → Act → World → Prop} {E : Prop} (hgd : op.guard = none) (s x : Operand) (t : TypeId)
    (hop : op.op = .call { callee := .builtin .append, args := #[s, x], argTypes := #[t, t] })
    (e : TypeId) (i : TypeInfo) (z : Value) (size bytes : Nat) (ht : P.underlying t = some (.slice e)) (hi : P.info? e = some i) (hz : i.zero = some z) (hsize : i.size = size) (hby : i.bytes = bytes) (hzs : z.cells.size = size) (hsz : 0 < size)
    (base : Nat) (v : Value) (n : Nat) (xs : List Value) (hs : a.eval s = v) (ho : w.ownsRow base e size v n xs) (hbase : base ≤ w.heap.size)
    (A : Option Addr) (m c : Nat) (news : List Value) (hx : a.eval x = .slice A m c) (hl : news.length = m * size) (hn : 1 ≤ m → ∃ ad, A = some ad ∧ ∀ j u, news[j]? = some u → w.cell? (ad.add j) = some u) (hnil : A = none → c = 0) (h1 : ∀ u ∈ news, u.oneCell' = true) (hb : (n + m) * bytes ≤ 140737488355328) (h63 : n + m ≤ maxLen)
    (h : ∀ A' c' w', w'.ownsRow base e size (.slice A' (n + m) c') (n + m) (xs ++ news) → w.grownBy w' v.ownBlock → (Value.ownBlock (.slice A' (n + m) c') = v.ownBlock ∨ Value.ownBlock (.slice A' (n + m) c') = some w.heap.size) → K (a.put op.dst (.slice A' (n + m) c')) w') :
    if Region.wanted op (yielded ops a.tmps) = true then Oper.wp P op a w K Q else E := by
  have hw : Region.wanted op (yielded ops a.tmps) = true := by simp [Region.wanted, hgd]
  rw [if_pos hw]
  obtain ⟨A', c', w', hrun, h2, h3, h4⟩ := run_append_srcN (P := P) (w := w) t op.type e i z size bytes ht hi hz hsize hby hzs hsz base v n xs ho hbase A m c news hl hn hnil h1 hb h63
  unfold Oper.wp
  simp [execOp, hop, resolve, invoke, builtin, hs, hx, hrun, Result.andThen]
  exact h A' c' w' h2 h3 h4

theorem step_append_nilN {ops : Array Oper} {op : Oper} {a : Act} {K : Act → World → Prop} {Q : Exit → Act → World → Prop} {E : Prop} (hgd : op.guard = none) (s x : Operand) (t : TypeId)
    (hop : op.op = .call { callee := .builtin .append, args := #[s, x], argTypes := #[t, t] })
    (e : TypeId) (i : TypeInfo) (z : Value) (size bytes : Nat) (ht : P.underlying t = some (.slice e)) (hi : P.info? e = some i) (hz : i.zero = some z) (hsize : i.size = size) (hby : i.bytes = bytes) (hzs : z.cells.size = size) (hsz : 0 < size)
    (base : Nat) (hs : a.eval s = .slice none 0 0) (hbase : base ≤ w.heap.size)
    (A : Option Addr) (m c : Nat) (news : List Value) (hx : a.eval x = .slice A m c) (hl : news.length = m * size) (hn : 1 ≤ m → ∃ ad, A = some ad ∧ ∀ j u, news[j]? = some u → w.cell? (ad.add j) = some u) (hnil : A = none → c = 0) (h1 : ∀ u ∈ news, u.oneCell' = true) (hb : m * bytes ≤ 140737488355328) (h63 : m ≤ maxLen)
    (h : ∀ A' c' w', w'.ownsRow base e size (.slice A' m c') m news → Below w.heap.size w w' → K (a.put op.dst (.slice A' m c')) w') :
    if Region.wanted op (yielded ops a.tmps) = true then Oper.wp P op a w K Q else E := by
  refine step_append_srcN hgd s x t hop e i z size bytes ht hi hz hsize hby hzs hsz base (.slice none 0 0) 0 [] hs (World.ownsRow_nil _ _ _ _) hbase A m c news hx hl hn hnil h1 (by rw [Nat.zero_add]; exact hb) (by omega) ?_
  rw [Nat.zero_add, List.nil_append]
  intro A' c' w' ho hg _
  exact h A' c' w' ho ⟨hg.os, hg.tape, hg.output, hg.size, fun j hj => hg.block j hj (by simp [Value.ownBlock])⟩

end

/-- A row of the call's own of elements of several cells: its cells. -/
theorem ownN_cells {w : World} {base size : Nat} {e : TypeId} {A : Option Addr} {n c : Nat} {xs : List Value} (h : w.ownsRow base e size (.slice A n c) n xs) (hn : 1 ≤ n) : ∃ g, A = some ⟨g, 0, none⟩ ∧ base ≤ g ∧ g < w.heap.size ∧ ∀ j u, xs[j]? = some u → w.cell? ⟨g, j, none⟩ = some u := by
  rcases h.2 with ⟨_, h0⟩ | ⟨g, cap, cur, e0, hb, hg, _⟩
  · omega
  · injection e0 with eA en ec
    subst eA
    refine ⟨g, rfl, hb, (Array.getElem?_eq_some_iff.1 hg).1, fun j u hj => ?_⟩
    have := h.cells (g := g) rfl j u hj
    rwa [Addr.add_lit, Nat.zero_add] at this

end

section
open Go.RowKit
set_option linter.unusedVariables false
set_option linter.unusedSimpArgs false
set_option maxRecDepth 100000

def Nd.five (x : Nd) : List Value := [.int .u8 x.kd, .slice x.I x.ni x.ci, .slice x.S x.ns x.cs, .int .i64 x.N, .int .i64 x.P]

/-- A list of nodes, cell by cell. -/
def cellsN (ns : List Nd) : List Value := ns.flatMap Nd.five

theorem cellsN_cons (x : Nd) (r : List Nd) : cellsN (x :: r) = .int .u8 x.kd :: .slice x.I x.ni x.ci :: .slice x.S x.ns x.cs :: .int .i64 x.N :: .int .i64 x.P :: cellsN r := by simp [cellsN, Nd.five]

theorem cellsN_append (a b : List Nd) : cellsN (a ++ b) = cellsN a ++ cellsN b := by simp [cellsN, List.flatMap_append]

theorem cellsN_len : ∀ ns : List Nd, (cellsN ns).length = ns.length * 5
  | [] => rfl
  | x :: r => by rw [cellsN_cons]; simp only [List.length_cons]; rw [cellsN_len r]; omega

theorem cellsN_at : ∀ (ns : List Nd) (j : Nat) (x : Nd), ns[j]? = some x → (cellsN ns)[j * 5]? = some (.int .u8 x.kd) ∧ (cellsN ns)[j * 5 + 1]? = some (.slice x.I x.ni x.ci) ∧ (cellsN ns)[j * 5 + 2]? = some (.slice x.S x.ns x.cs) ∧ (cellsN ns)[j * 5 + 3]? = some (.int .i64 x.N) ∧ (cellsN ns)[j * 5 + 4]? = some (.int .i64 x.P)
  | [], j, x, h => by simp at h
  | y :: r, 0, x, h => by
    obtain rfl : y = x := by simpa using h
    rw [cellsN_cons]
    exact ⟨rfl, rfl, rfl, rfl, rfl⟩
  | y :: r, j + 1, x, h => by
    have ih := cellsN_at r j x (by simpa using h)
    rw [cellsN_cons, show (j + 1) * 5 = j * 5 + 1 + 1 + 1 + 1 + 1 by omega]
    have e : ∀ k, j * 5 + 1 + 1 + 1 + 1 + 1 + k = (j * 5 + k) + 1 + 1 + 1 + 1 + 1 := fun k => by omega
    rw [e 1, e 2, e 3, e 4]
    simpa using ih

theorem cellsN_one : ∀ ns : List Nd, ∀ u ∈ cellsN ns, u.oneCell' = true
  | [], u, h => by cases h
  | x :: r, u, h => by
    rw [cellsN_cons] at h
    rcases List.mem_cons.1 h with rfl | h
    · rfl
    rcases List.mem_cons.1 h with rfl | h
    · rfl
    rcases List.mem_cons.1 h with rfl | h
    · rfl
    rcases List.mem_cons.1 h with rfl | h
    · rfl
    rcases List.mem_cons.1 h with rfl | h
    · rfl
    exact cellsN_one r u h

theorem cellsN_get : ∀ (ns : List Nd) (j : Nat) (u : Value), (cellsN ns)[j]? = some u → ∃ x, ns[j / 5]? = some x ∧ x.five[j % 5]? = some u
  | [], j, u, h => by simp [cellsN] at h
  | x :: r, j, u, h => by
    by_cases hj : j < 5
    · refine ⟨x, by rw [Nat.div_eq_of_lt hj]; rfl, ?_⟩
      rw [Nat.mod_eq_of_lt hj]
      have e : cellsN (x :: r) = x.five ++ cellsN r := by simp [cellsN]
      rw [e, List.getElem?_append_left (by simpa [Nd.five] using hj)] at h
      exact h
    · obtain ⟨i, rfl⟩ : ∃ i, j = i + 5 := ⟨j - 5, by omega⟩
      have e : cellsN (x :: r) = x.five ++ cellsN r := by simp [cellsN]
      rw [e, List.getElem?_append_right (by simp [Nd.five])] at h
      obtain ⟨y, h1, h2⟩ := cellsN_get r i u (by simpa [Nd.five] using h)
      refine ⟨y, ?_, ?_⟩
      · rw [Nat.add_div_right _ (by omega)]; simpa using h1
      · rw [Nat.add_mod_right]; exact h2

/-- A list of nodes that lies there, cell by cell. -/
theorem NsIn.cells {w : World} {A : Option Addr} {n : Nat} {ns : List Nd} (h : NsIn w A n ns) : 1 ≤ n → ∃ ad, A = some ad ∧ ∀ j u, (cellsN ns)[j]? = some u → w.cell? (ad.add j) = some u := by
  intro hn
  obtain ⟨b, o, e, _, hx⟩ := h.2 hn
  refine ⟨⟨b, o, none⟩, e, fun j u hj => ?_⟩
  obtain ⟨x, hx1, hx2⟩ := cellsN_get ns j u hj
  obtain ⟨h0, h1, h2, h3, h4, _⟩ := hx _ x hx1
  rw [Addr.add_lit]
  have hd := Nat.div_add_mod j 5
  have hm := Nat.mod_lt j (show 5 > 0 by omega)
  generalize j / 5 = q at hd h0 h1 h2 h3 h4
  generalize hr : j % 5 = r at hd hm hx2
  clear hr
  have hjq : j = q * 5 + r := by omega
  subst hjq
  match r, hm with
  | 0, _ => cases hx2; exact h0
  | 1, _ => cases hx2; rw [← Nat.add_assoc]; exact h1
  | 2, _ => cases hx2; rw [← Nat.add_assoc]; exact h2
  | 3, _ => cases hx2; rw [← Nat.add_assoc]; exact h3
  | 4, _ => cases hx2; rw [← Nat.add_assoc]; exact h4

/-- A row of the call's own that holds nodes. -/
theorem NsIn.ofOwn {w : World} {base : Nat} {e : TypeId} {A : Option Addr} {n c : Nat} {ns : List Nd} (h : w.ownsRow base e 5 (.slice A n c) n (cellsN ns)) (hl : ns.length = n) (ho : ∀ x ∈ ns, x.Ok w) : NsIn w A n ns :=
  ⟨hl, fun hn => by
    obtain ⟨g, rfl, _, hg, hx⟩ := ownN_cells h hn
    refine ⟨g, 0, rfl, hg, fun j x hj => ?_⟩
    obtain ⟨h0, h1, h2, h3, h4⟩ := cellsN_at ns j x hj
    rw [Nat.zero_add]
    exact ⟨hx _ _ h0, hx _ _ h1, hx _ _ h2, hx _ _ h3, hx _ _ h4, ho x (List.mem_of_getElem? hj)⟩⟩

theorem NsIn.oks {w : World} {A : Option Addr} {n : Nat} {ns : List Nd} (h : NsIn w A n ns) : ∀ x ∈ ns, x.Ok w := by
  intro x hx
  obtain ⟨j, hj, e⟩ := List.mem_iff_getElem.1 hx
  have hn : 1 ≤ n := by rw [← h.1]; omega
  obtain ⟨b, o, _, _, hx⟩ := h.2 hn
  exact (hx j x (by rw [List.getElem?_eq_getElem hj, e])).2.2.2.2.2

/-- A graph that is answered. -/
theorem results_gr {fn : Func} {p : Tmp} (h : fn.results = #[.cell p 24]) (tmps : Array Value) (w : World) (g : Nat) (cs : Array Value)
    (hp : tmps.getD p undef = .pointer (some ⟨g, 0, none⟩)) (hg : w.heap[g]? = some (.cells cs 24 (0, 0))) (hs : cs.size = 1) :
    (results fn tmps).run Try.prog w = .ok (.agg cs) w :=
  results_cell_row h tmps w g 24 cs (0, 0) _ hp hg Try.underlying24 rfl (by rw [hs]; kernel_rfl)

theorem ret_gr {fn : Func} {p : Tmp} {R : Ending → World → Prop} {a : Act} {w : World} (h : fn.results = #[.cell p 24]) (hd : a.defers = []) (g : Nat) (cs : Array Value)
    (hp : a.tmps.getD p undef = .pointer (some ⟨g, 0, none⟩)) (hg : w.heap[g]? = some (.cells cs 24 (0, 0))) (hs : cs.size = 1) (hR : R (.returned (.agg cs)) w) : bodyPost Try.prog fn R .ret a w :=
  bodyPost_ret (results_gr h _ w g cs hp hg hs) hd hR

/-- A graph in a block. -/
def BoxG (w : World) (p : Nat) (v : Value) : Prop := w.heap[p]? = some (.cells #[v] 24 (0, 0))

theorem BoxG.new (w : World) (v : Value) : BoxG (w.alloc (.cells #[v] 24)) w.heap.size v := heap_alloc_new w _

theorem BoxG.lt {w : World} {p : Nat} {v : Value} (h : BoxG w p v) : p < w.heap.size := lt_of_heap h

theorem BoxG.kept {w w' : World} {p : Nat} {v : Value} (h : BoxG w p v) (hb : Below w.heap.size w w') : BoxG w' p v := (hb.block p h.lt).trans h

theorem BoxG.c0 {w : World} {p : Nat} {v : Value} (h : BoxG w p v) : w.cell? ⟨p, 0, none⟩ = some v := cell_of_row _ _ 0 _ _ (0, 0) h

theorem BoxG.set {w : World} {p : Nat} {v : Value} (h : BoxG w p v) (u : Value) : BoxG (w.setCell ⟨p, 0, none⟩ u) p u := by
  unfold BoxG
  exact one_setCell h

theorem BoxG.f0 {w : World} {p : Nat} {v : Value} (h : BoxG w p v) (k : Nat) : w.frozen? ⟨p, k, none⟩ = false := frozen_of_row w p k _ _ h

end

section
open Go.RowKit
set_option linter.unusedVariables false
set_option linter.unusedSimpArgs false
set_option maxRecDepth 100000

/-- The entries of a map that counts the numbers of l. -/
def CtEs (es : Array MapEntry) (l : List Int) : Prop := ∃ ks : List Int, es.size = ks.length ∧ ks.Nodup ∧ (∀ k, k ∈ ks ↔ k ∈ l) ∧ ((l.Nodup ∧ ks.length = l.length) ∨ (¬ l.Nodup ∧ ks.length < l.length)) ∧ ∀ (j : Nat) (k : Int), ks[j]? = some k → ∃ b, es[j]? = some ⟨.int .i64 k, .int .i64 (l.count k : Int), b⟩

theorem CtEs.nil : CtEs #[] [] := ⟨[], rfl, List.nodup_nil, fun _ => Iff.rfl, .inl ⟨List.nodup_nil, rfl⟩, fun j k h => by simp at h⟩

theorem CtEs.keys {es : Array MapEntry} {l : List Int} (h : CtEs es l) : ∀ x ∈ es.toList, MapKept.IsKey (.int .i64) x.key := by
  obtain ⟨ks, h1, _, _, _, h5⟩ := h
  intro x hx
  obtain ⟨j, hj⟩ := List.mem_iff_getElem?.1 hx
  rw [Array.getElem?_toList] at hj
  have hlt := (Array.getElem?_eq_some_iff.1 hj).1
  obtain ⟨b, e⟩ := h5 j (ks[j]'(by omega)) (List.getElem?_eq_getElem (by omega))
  rw [hj] at e
  cases e
  exact rfl

theorem CtEs.find {es : Array MapEntry} {l : List Int} (h : CtEs es l) (x : Int) : (Instr.findNow (.int .i64) (.int .i64 x) es.toList 0 = some none ∧ x ∉ l) ∨
    ∃ j b, Instr.findNow (.int .i64) (.int .i64 x) es.toList 0 = some (some (j, .int .i64 (l.count x : Int))) ∧ es[j]? = some ⟨.int .i64 x, .int .i64 (l.count x : Int), b⟩ ∧ x ∈ l := by
  have hk : MapKept.IsKey (.int .i64) (.int .i64 x) := rfl
  rcases MapKept.findNow_spec hk es.toList 0 h.keys with ⟨h1, h2⟩ | ⟨j, e, h1, h2, h3⟩
  · refine .inl ⟨h1, fun hx => ?_⟩
    obtain ⟨ks, g1, _, g3, _, g5⟩ := h
    obtain ⟨j, hj⟩ := List.mem_iff_getElem?.1 ((g3 x).2 hx)
    obtain ⟨b, e⟩ := g5 j x hj
    exact h2 _ (Array.mem_toList_iff.2 (Array.mem_of_getElem? e)) rfl
  · obtain ⟨ks, g1, _, g3, _, g5⟩ := h
    rw [Array.getElem?_toList] at h2
    have hlt := (Array.getElem?_eq_some_iff.1 h2).1
    have hkj : ks[j]? = some (ks[j]'(by omega)) := List.getElem?_eq_getElem (by omega)
    obtain ⟨b, e'⟩ := g5 j _ hkj
    rw [h2] at e'
    cases e'
    simp only [Value.int.injEq, true_and] at h3
    rw [h3] at h1 h2 hkj
    refine .inr ⟨j, b, by rw [h1, Nat.zero_add], h2, (g3 x).1 (List.mem_of_getElem? hkj)⟩

theorem CtEs.push {es : Array MapEntry} {l : List Int} (h : CtEs es l) {x : Int} (hx : x ∉ l) (b : Nat) : CtEs (es.push ⟨.int .i64 x, .int .i64 1, b⟩) (l ++ [x]) := by
  obtain ⟨ks, g1, g2, g3, g4, g5⟩ := h
  have hxk : x ∉ ks := fun h => hx ((g3 x).1 h)
  refine ⟨ks ++ [x], by simp [g1], ?_, ?_, ?_, ?_⟩
  · rw [List.nodup_append]
    refine ⟨g2, by simp, fun a ha c hc e => ?_⟩
    rw [List.mem_singleton] at hc
    subst hc e
    exact hxk ha
  · intro k
    rw [List.mem_append, List.mem_append, g3 k]
  · rw [List.length_append, List.length_append]
    have hnd : (l ++ [x]).Nodup ↔ l.Nodup := by
      rw [List.nodup_append]
      constructor
      · exact fun h => h.1
      · intro h
        refine ⟨h, by simp, fun a ha c hc e => ?_⟩
        rw [List.mem_singleton] at hc
        subst hc e
        exact hx ha
    rcases g4 with ⟨h1, h2⟩ | ⟨h1, h2⟩
    · exact .inl ⟨hnd.2 h1, by simp [h2]⟩
    · exact .inr ⟨fun h => h1 (hnd.1 h), by simp [h2]⟩
  · intro j k hj
    rw [Array.getElem?_push, g1]
    by_cases hl : j = ks.length
    · subst hl
      rw [List.getElem?_append_right (Nat.le_refl _), Nat.sub_self] at hj
      cases hj
      rw [if_pos rfl, List.count_append, List.count_eq_zero.2 hx]
      exact ⟨b, by simp⟩
    · have hlt : j < ks.length := by
        have := (List.getElem?_eq_some_iff.1 hj).1
        rw [List.length_append] at this
        simp at this
        omega
      rw [List.getElem?_append_left hlt] at hj
      obtain ⟨c, e⟩ := g5 j k hj
      have hne : x ≠ k := fun e => hxk (e ▸ List.mem_of_getElem? hj)
      rw [if_neg hl, e, List.count_append, List.count_eq_zero.2 (show k ∉ [x] by simpa using fun e => hne e.symm)]
      exact ⟨c, by simp⟩

theorem CtEs.more {es : Array MapEntry} {l : List Int} (h : CtEs es l) {x : Int} {j b : Nat} (hx : x ∈ l) (hj : es[j]? = some ⟨.int .i64 x, .int .i64 (l.count x : Int), b⟩) : CtEs (es.modify j fun e => { e with key := .int .i64 x, val := .int .i64 ((l.count x : Int) + 1) }) (l ++ [x]) := by
  obtain ⟨ks, g1, g2, g3, g4, g5⟩ := h
  refine ⟨ks, by simp [g1], g2, ?_, ?_, ?_⟩
  · intro k
    rw [List.mem_append, g3 k, List.mem_singleton]
    constructor
    · exact .inl
    · rintro (h | rfl)
      · exact h
      · exact hx
  · right
    refine ⟨fun h => ?_, ?_⟩
    · rw [List.nodup_append] at h
      exact h.2.2 x hx x (by simp) rfl
    · rw [List.length_append]
      simp only [List.length_cons, List.length_nil]
      rcases g4 with ⟨_, h⟩ | ⟨_, h⟩ <;> omega
  · intro i k hi
    obtain ⟨c, e⟩ := g5 i k hi
    rw [Array.getElem?_modify]
    by_cases hij : j = i
    · subst hij
      rw [hj] at e
      cases e
      rw [if_pos rfl, hj, List.count_append]
      exact ⟨b, by simp⟩
    · have hne : x ≠ k := by
        intro e2
        subst e2
        have hjl : j < ks.length := by have := (Array.getElem?_eq_some_iff.1 hj).1; omega
        obtain ⟨d, e3⟩ := g5 j _ (List.getElem?_eq_getElem hjl)
        rw [hj] at e3
        simp only [Option.some.injEq, MapEntry.mk.injEq, Value.int.injEq, true_and] at e3
        have hil := (List.getElem?_eq_some_iff.1 hi).1
        have hik := (List.getElem?_eq_some_iff.1 hi).2
        have hp := List.pairwise_iff_getElem.1 g2
        rcases Nat.lt_or_ge i j with h | h
        · exact hp i j hil hjl h (by rw [hik, e3.1])
        · exact hp j i hjl hil (by omega) (by rw [hik, e3.1])
      rw [if_neg hij, e, List.count_append, List.count_eq_zero.2 (show k ∉ [x] by simpa using fun e => hne e.symm)]
      exact ⟨c, by simp⟩

/-- A map that counts, in block q. -/
def CtAt (w0 w : World) (q : Nat) (l : List Int) : Prop := (∃ es ck, w.heap[q]? = some (.map es ck) ∧ CtEs es l) ∧ Below q w0 w

theorem CtAt.below {w0 w w' : World} {q : Nat} {l : List Int} (h : CtAt w0 w q l) (hb : Below w.heap.size w w') : CtAt w0 w' q l := by
  obtain ⟨⟨es, ck, h1, h2⟩, h3⟩ := h
  exact ⟨⟨es, ck, (hb.block q (lt_of_heap h1)).trans h1, h2⟩, h3.trans (hb.mono (Nat.le_of_lt (lt_of_heap h1)))⟩

theorem CtAt.look {w0 w : World} {q : Nat} {l : List Int} (h : CtAt w0 w q l) (x : Int) : (Instr.lookup 49 (.map (some q)) (.int .i64 x) false).run Try.prog w = .ok (.int .i64 (l.count x : Int)) w := by
  obtain ⟨⟨es, ck, hb, hc⟩, _⟩ := h
  have hkey : MapKept.IsKey (.int .i64) (.int .i64 x) := rfl
  have ht : Try.prog.underlying 49 = some (.map 3 3) := Try.underlying49
  have hk : Try.prog.underlying 3 = some (.int .i64) := Try.underlying3
  rcases hc.find x with ⟨h1, h2⟩ | ⟨j, b, h1, h2, h3⟩
  · rw [List.count_eq_zero.2 h2]
    simp [Instr.lookup, run_underlying ht, MapKept.run_getObj_map hb, MapKept.run_checkKey hk hkey, MapKept.run_findKey hk h1, Result.andThen]
  · simp [Instr.lookup, run_underlying ht, MapKept.run_getObj_map hb, MapKept.run_checkKey hk hkey, MapKept.run_findKey hk h1, Result.andThen]

theorem CtAt.ins {w0 w : World} {q : Nat} {l : List Int} (h : CtAt w0 w q l) (x : Int) : ∃ w', (Instr.mapUpdate 49 (.map (some q)) (.int .i64 x) (.int .i64 ((l.count x : Int) + 1))).run Try.prog w = .ok () w' ∧ CtAt w0 w' q (l ++ [x]) := by
  obtain ⟨⟨es, ck, hb, hc⟩, hB⟩ := h
  have hkey : MapKept.IsKey (.int .i64) (.int .i64 x) := rfl
  have ht : Try.prog.underlying 49 = some (.map 3 3) := Try.underlying49
  have hk : Try.prog.underlying 3 = some (.int .i64) := Try.underlying3
  have hB2 : ∀ o, Below q w0 { w with heap := w.heap.setIfInBounds q o } := fun o =>
    ⟨hB.os, hB.tape, hB.output, by simpa using hB.size, fun k hk => ((MapKept.heap_set hb).2 k (by omega)).trans (hB.block k hk)⟩
  rcases hc.find x with ⟨h1, h2⟩ | ⟨j, b, h1, h2, h3⟩
  · refine ⟨{ w with heap := w.heap.setIfInBounds q (.map (es.push ⟨.int .i64 x, .int .i64 1, ck⟩) (ck + 1)) }, ?_, ⟨_, _, (MapKept.heap_set hb).1, hc.push h2 ck⟩, hB2 _⟩
    rw [List.count_eq_zero.2 h2]
    simp [Instr.mapUpdate, run_underlying ht, MapKept.run_getObj_map hb, MapKept.run_checkKey hk hkey, MapKept.run_findKey hk h1, MapKept.run_setObj_map _ hb, Result.andThen]
  · refine ⟨{ w with heap := w.heap.setIfInBounds q (.map (es.modify j fun e => { e with key := .int .i64 x, val := .int .i64 ((l.count x : Int) + 1) }) ck) }, ?_, ⟨_, _, (MapKept.heap_set hb).1, hc.more h3 h2⟩, hB2 _⟩
    simp [Instr.mapUpdate, run_underlying ht, MapKept.run_getObj_map hb, MapKept.run_checkKey hk hkey, MapKept.run_findKey hk h1, h2, MapKept.run_keyThatStays hkey, MapKept.run_setObj_map _ hb, Result.andThen]

theorem upon_insC {w0 w : World} {q : Nat} {l : List Int} {o : Oper} {a : Act} {next : Act → World → Prop} {Q : Exit → Act → World → Prop} {f : Unit → World → Result Next} {x v : Int} (h : CtAt w0 w q l) (hv : v = (l.count x : Int) + 1)
    (hK : ∀ w', CtAt w0 w' q (l ++ [x]) → Oper.upon Try.prog o a next Q (f () w')) :
    Oper.upon Try.prog o a next Q (((Instr.mapUpdate 49 (.map (some q)) (.int .i64 x) (.int .i64 v)).run Try.prog w).andThen f) := by
  subst hv
  obtain ⟨w', hr, hm⟩ := h.ins x
  rw [hr]
  exact hK w' hm

/-- A list of lists of numbers lies there. -/
def LlAt (w : World) (A : Option Addr) (n : Nat) (gs : List Sg) : Prop := gs.length = n ∧ (1 ≤ n → ∃ b o, A = some ⟨b, o, none⟩ ∧ b < w.heap.size ∧ ∀ j g, gs[j]? = some g → w.cell? ⟨b, o + j, none⟩ = some (.slice g.A g.n g.c)) ∧ ∀ g ∈ gs, Lies w g.A g.n (g.s.map (Value.int .i64)) ∧ g.n ≤ g.c ∧ g.n ≤ 70368744177664

theorem LlAt.below {w w' : World} {A : Option Addr} {n : Nat} {gs : List Sg} (h : LlAt w A n gs) (hb : Below w.heap.size w w') : LlAt w' A n gs :=
  ⟨h.1, fun hn => by
    obtain ⟨b, o, e, hlt, hx⟩ := h.2.1 hn
    exact ⟨b, o, e, Nat.lt_of_lt_of_le hlt hb.size, fun j g hj => (World.cell?_of_block (hb.block b hlt)).trans (hx j g hj)⟩, fun g hg => ⟨(h.2.2 g hg).1.below hb, (h.2.2 g hg).2⟩⟩

theorem LlAt.at {w : World} {A : Option Addr} {n k : Nat} {gs : List Sg} (h : LlAt w A n gs) (hk : k < n) : ∃ b o g, A = some ⟨b, o, none⟩ ∧ gs[k]? = some g ∧ w.cell? ⟨b, o + k, none⟩ = some (.slice g.A g.n g.c) ∧ Lies w g.A g.n (g.s.map (Value.int .i64)) ∧ g.n ≤ g.c ∧ g.n ≤ 70368744177664 := by
  obtain ⟨b, o, e, _, hx⟩ := h.2.1 (by omega)
  obtain ⟨g, hg⟩ : ∃ g, gs[k]? = some g := ⟨gs[k]'(by rw [h.1]; exact hk), List.getElem?_eq_getElem (by rw [h.1]; exact hk)⟩
  exact ⟨b, o, g, e, hg, hx k g hg, h.2.2 g (List.mem_of_getElem? hg)⟩

/-- What the first k lists hold, one behind the other. -/
def ctS (gs : List Sg) (k : Nat) : List Int := ((gs.take k).map Sg.s).flatten

theorem ctS_succ {gs : List Sg} {k : Nat} {g : Sg} (h : gs[k]? = some g) : ctS gs (k + 1) = ctS gs k ++ g.s := by
  rw [ctS, ctS, take_oneS h, List.map_append, List.flatten_append]
  simp

theorem ctS_le (gs : List Sg) (k : Nat) : (ctS gs k).length ≤ ((gs.map Sg.s).flatten).length := by
  have : (gs.map Sg.s).flatten = ctS gs k ++ ((gs.drop k).map Sg.s).flatten := by
    rw [ctS, ← List.flatten_append, ← List.map_append, List.take_append_drop]
  rw [this, List.length_append]
  omega

theorem take_getD {xs : List Int} {j : Nat} (h : j < xs.length) : xs.take (j + 1) = xs.take j ++ [xs.getD j 0] := by
  have e : xs.getD j 0 = xs[j] := by simp [List.getD, h]
  rw [e]
  exact take_oneS (List.getElem?_eq_getElem h)

set_option maxHeartbeats 4000000 in
theorem counts_any (A : Option Addr) (n c : Nat) (gs : List Sg) (w : World) (h : LlAt w A n gs) (hn : n ≤ 70368744177664) (ht : ((gs.map Sg.s).flatten).length ≤ 4611686018427387904) :
    Calls Try.prog 22 #[.slice A n c] w fun e w' => ∃ q, e = .returned (.map (some q)) ∧ w.heap.size ≤ q ∧ CtAt w w' q (gs.map Sg.s).flatten ∧ Below w.heap.size w w' := by
  have hmm := @run_makeMap Try.prog
  obtain ⟨W1, hW1⟩ : ∃ W1, W1 = w.alloc (.map #[] 0) := ⟨_, rfl⟩
  have HC1 : Hid (CtAt w W1 w.heap.size []) := hide ⟨⟨#[], 0, by rw [hW1]; exact heap_alloc_new w _, CtEs.nil⟩, by rw [hW1]; exact (Below.refl _ _).alloc (Nat.le_refl _) _⟩
  have HN := hide h
  have HT := hide ht
  have hW1' := hW1.symm
  clear hW1 h ht
  go_enter Try.func22, Try.ntmps22
  go_wp2
  obtain ⟨q, hq⟩ : ∃ q, q = w.heap.size := ⟨_, rfl⟩
  rw [← hq]
  rw [← hq] at HC1
  have HQ := hide hq
  clear hq hmm hW1'
  go_loopw [11] (fun i wr => ∃ k : Nat, k ≤ n ∧ i = .int .i64 k ∧ Hid (CtAt w wr q (ctS gs k))) (fun i _ => n - (intOf i).toNat)
  case atStart => exact ⟨0, Nat.zero_le _, rfl, HC1⟩
  case round =>
    obtain ⟨k, hk, rfl, HC⟩ := hrel
    by_cases hlt : k < n
    · obtain ⟨b, o, g, rfl, hg, hcg, hlg, hgc, hgn⟩ := (HN.out.below (by rw [← HQ.out]; exact HC.out.2)).at hlt
      have HG := hide hg
      have HLG : Hid (Lies w g.A g.n (g.s.map (Value.int .i64))) := hide (HN.out.2.2 g (List.mem_of_getElem? hg)).1
      have HLN : Hid (g.s.length = g.n) := hide (lies_len9 hlg)
      have f0 : (0 : Int) ≤ (k : Int) := by omega
      have f1 : (k : Int) < (n : Int) := by omega
      clear hg hlg
      go_wp2
      go_loopw [17] (fun i wv => ∃ j : Nat, j ≤ g.n ∧ i = .int .i64 j ∧ Hid (CtAt w wv q (ctS gs k ++ g.s.take j))) (fun i _ => g.n - (intOf i).toNat)
      case atStart => exact ⟨0, Nat.zero_le _, rfl, hide (by simpa using HC.out)⟩
      case round =>
        obtain ⟨j, hj, rfl, HD⟩ := hrel
        by_cases hlt2 : j < g.n
        · obtain ⟨b2, o2, eA, _, hx⟩ := byte_at (HLG.out.below (by rw [← HQ.out]; exact HD.out.2)) (by omega)
          have hc := hx j hlt2
          obtain ⟨x, hxe⟩ : ∃ x, x = g.s.getD j 0 := ⟨_, rfl⟩
          rw [← hxe] at hc
          have HTK : Hid (g.s.take (j + 1) = g.s.take j ++ [x]) := hide (by rw [hxe]; exact take_getD (by rw [HLN.out]; exact hlt2))
          have g0 : (0 : Int) ≤ (j : Int) := by omega
          have g1 : (j : Int) < (g.n : Int) := by omega
          rw [eA]
          have HEA := hide eA
          clear hx hxe eA
          obtain ⟨z, hz⟩ : ∃ z : Int, z = ((ctS gs k ++ g.s.take j).count x : Int) := ⟨_, rfl⟩
          have hlk := HD.out.look x
          rw [← hz] at hlk
          have hzb : 0 ≤ z ∧ z ≤ 4611686018427387904 := by
            have h1 := List.count_le_length (a := x) (l := ctS gs k ++ g.s.take j)
            have h2 := ctS_le gs (k + 1)
            have h3 := HT.out
            rw [ctS_succ HG.out, List.length_append] at h2
            rw [List.length_append, List.length_take] at h1
            omega
          have HZ := hide hz
          have HZB := hide hzb
          have hz1 : 0 ≤ z := hzb.1
          have hz2 : z ≤ 4611686018427387904 := hzb.2
          clear hz hzb
          go_wp2
          refine upon_insC HD.out (by rw [← HZ.out]) ?_
          intro w3 hc3
          have HD3 : Hid (CtAt w w3 q (ctS gs k ++ g.s.take (j + 1))) := hide (by rw [HTK.out, ← List.append_assoc]; exact hc3)
          clear hlk hc
          go_wp2
          go_roundw
          case rel => exact ⟨j + 1, by omega, by go_num, HD3⟩
          case measure => simp [intOf] <;> omega
        · obtain rfl : j = g.n := by omega
          have HC2 : Hid (CtAt w wr q (ctS gs (k + 1))) := hide (by
            have h := HD.out
            rw [List.take_of_length_le (by rw [HLN.out]; exact Nat.le_refl _), ← ctS_succ HG.out] at h
            exact h)
          have g1 : ¬ ((g.n : Int) < (g.n : Int)) := by omega
          go_wp2
          go_roundw
          case rel => exact ⟨k + 1, by omega, by go_num, HC2⟩
          case measure => simp [intOf] <;> omega
    · obtain rfl : k = n := by omega
      have hall : ctS gs k = (gs.map Sg.s).flatten := by rw [ctS, List.take_of_length_le (by rw [HN.out.1]; exact Nat.le_refl _)]
      have f1 : ¬ ((k : Int) < (k : Int)) := by omega
      go_wp2
      go_ret
      exact ⟨q, rfl, by rw [HQ.out]; exact Nat.le_refl _, by rw [← hall]; exact HC.out, by rw [← HQ.out]; exact HC.out.2⟩

end

section
open Go.RowKit
set_option linter.unusedVariables false
set_option linter.unusedSimpArgs false
set_option maxRecDepth 100000

theorem CtAt.size {w0 w : World} {q : Nat} {l : List Int} (h : CtAt w0 w q l) : ∃ es ck, w.heap[q]? = some (.map es ck) ∧ (es.size = l.length ↔ l.Nodup) ∧ es.size ≤ l.length := by
  obtain ⟨⟨es, ck, hb, ks, g1, g2, g3, g4, g5⟩, _⟩ := h
  refine ⟨es, ck, hb, ?_, ?_⟩
  · rw [g1]
    rcases g4 with ⟨h1, h2⟩ | ⟨h1, h2⟩
    · exact ⟨fun _ => h1, fun _ => h2⟩
    · exact ⟨fun h => by omega, fun h => absurd h h1⟩
  · rcases g4 with ⟨h1, h2⟩ | ⟨h1, h2⟩ <;> omega

theorem ordB_no {ns : List Nd} {l : List Int} (h : ¬ (gphB ns = true ∧ l.length ≤ ns.length ∧ (∀ o ∈ l, 0 ≤ o ∧ o < (ns.length : Int)) ∧ l.Nodup)) : ordB ns l = false := by
  cases e : ordB ns l with
  | false => rfl
  | true => exact absurd (ordB_parts.1 e) h

theorem getD_mem {l : List Int} {j : Nat} (h : j < l.length) : l.getD j 0 ∈ l := by
  have e : l.getD j 0 = l[j] := by simp [List.getD, h]
  rw [e]
  exact List.getElem_mem h

set_option maxHeartbeats 4000000 in
theorem isOrd12_any (A B : Option Addr) (n c m d : Nat) (ns : List Nd) (l : List Int) (w : World) (h : NsIn w A n ns) (hn : n ≤ 1073741824) (hc : n ≤ c) (hB : Lies w B m (l.map (Value.int .i64))) (hm : m ≤ 70368744177664) (hd : m ≤ d) :
    Calls Try.prog 20 #[.agg #[.slice A n c], .slice B m d] w fun e w' => e = .returned (.bool (ordB ns l)) ∧ Below w.heap.size w w' := by
  obtain ⟨W0, hW0⟩ : ∃ W0, W0 = w.alloc (.cells #[.slice A n c] 24) := ⟨_, rfl⟩
  have HB0 : Hid (Below w.heap.size w W0) := hide (by rw [hW0]; exact below_al6 (Below.refl _ _))
  have HX : Hid (BoxG W0 w.heap.size (.slice A n c)) := hide (by rw [hW0]; exact BoxG.new w _)
  have HL : Hid (ns.length = n) := hide h.1
  have HM : Hid (l.length = m) := hide (lies_len9 hB)
  have HN := hide (h.below HB0.out)
  have HBL := hide (hB.below HB0.out)
  have HC := hide (gcheck_any A n c ns W0 HN.out hn hc)
  obtain ⟨R, hR⟩ : ∃ z, z = ordB ns l := ⟨_, rfl⟩
  obtain ⟨G, hG⟩ : ∃ z, z = gphB ns := ⟨_, rfl⟩
  rw [← hR]
  rw [← hG] at HC
  have HR := hide hR
  have HG := hide hG
  have HNO : Hid (¬ (G = true ∧ m ≤ n ∧ (∀ o ∈ l, 0 ≤ o ∧ o < (n : Int)) ∧ l.Nodup) → R = false) := hide (fun h => by
    rw [HR.out]
    exact ordB_no (by rw [← HG.out, HL.out, HM.out]; exact h))
  have c0 := HX.out.c0
  have hW0' := hW0.symm
  clear hW0 h hB hR hG
  go_enter Try.func20, Try.ntmps20
  go_wp2_with fail
  refine Calls.mono HC.out ?_
  rintro e w1 ⟨rfl, hb⟩
  have HB1 := hide (below_nx6 HB0.out hb)
  have HBL1 := hide (HBL.out.below hb)
  clear hb HC c0
  cases G with
  | false =>
    obtain rfl : R = false := HNO.out (fun h => by cases h.1)
    go_wp2
    go_ret
    exact ⟨rfl, HB1.out⟩
  | true =>
  by_cases hmn : m ≤ n
  · have g1 : ¬ (n : Int) < (m : Int) := by omega
    go_wp2
    go_loopw [22] (fun i wr => ∃ k : Nat, k ≤ m ∧ i = .int .i64 k ∧ Hid (∀ j, j < k → 0 ≤ l.getD j 0 ∧ l.getD j 0 < (n : Int)) ∧ Hid (Below w1.heap.size w1 wr)) (fun i _ => m - (intOf i).toNat)
    case atStart => exact ⟨0, Nat.zero_le _, rfl, hide (fun j hj => absurd hj (by omega)), hide (Below.refl _ _)⟩
    case round =>
      obtain ⟨k, hk, rfl, HP, HBR⟩ := hrel
      by_cases hlt : k < m
      · obtain ⟨b, o, rfl, _, hx⟩ := byte_at (HBL1.out.below HBR.out) (by omega)
        have hc := hx k hlt
        obtain ⟨x, hxe⟩ : ∃ x, x = l.getD k 0 := ⟨_, rfl⟩
        rw [← hxe] at hc
        have HX2 := hide hxe
        have HMEM : Hid (x ∈ l) := hide (by rw [hxe]; exact getD_mem (by rw [HM.out]; exact hlt))
        clear hx hxe
        have f0 : (0 : Int) ≤ (k : Int) := by omega
        have f1 : (k : Int) < (m : Int) := by omega
        by_cases h1 : x < 0
        · obtain rfl : R = false := HNO.out (fun h => by have := h.2.2.1 x HMEM.out; omega)
          go_wp2
          go_ret
          exact ⟨rfl, below_nx6 HB1.out HBR.out⟩
        · by_cases h2 : (n : Int) ≤ x
          · obtain rfl : R = false := HNO.out (fun h => by have := h.2.2.1 x HMEM.out; omega)
            go_wp2
            go_ret
            exact ⟨rfl, below_nx6 HB1.out HBR.out⟩
          · have HP2 : Hid (∀ j, j < k + 1 → 0 ≤ l.getD j 0 ∧ l.getD j 0 < (n : Int)) := hide (fun j hj => by
              by_cases e : j = k
              · rw [e, ← HX2.out]; omega
              · exact HP.out j (by omega))
            go_wp2
            go_roundw
            case rel => exact ⟨k + 1, by omega, by go_num, HP2, HBR⟩
            case measure => simp [intOf] <;> omega
      · obtain rfl : k = m := by omega
        have f1 : ¬ ((k : Int) < (k : Int)) := by omega
        have HIN : Hid (∀ o ∈ l, 0 ≤ o ∧ o < (n : Int)) := hide (fun z hz => by
          obtain ⟨j, hj, e⟩ := List.getElem_of_mem hz
          have := HP.out j (by rw [← HM.out]; exact hj)
          have e2 : l.getD j 0 = z := by simp [List.getD, hj, e]
          rwa [e2] at this)
        obtain ⟨V, hV⟩ : ∃ V, V = wr.alloc (.cells #[.slice B k d] 27) := ⟨_, rfl⟩
        have hbv : Below wr.heap.size wr V := by rw [hV]; exact below_al6 (Below.refl _ _)
        have hll : LlAt V (some ⟨wr.heap.size, 0, none⟩) 1 [⟨B, k, d, l⟩] := ⟨rfl, fun _ => ⟨wr.heap.size, 0, rfl, by rw [hV]; simp, fun j g hj => by
          have hh : V.heap[wr.heap.size]? = some (.cells #[.slice B k d] 27 (0, 0)) := by rw [hV]; exact heap_alloc_new wr _
          match j, hj with
          | 0, hj => cases hj; exact cell_of_row _ _ 0 _ _ (0, 0) hh
          | j + 1, hj => simp at hj⟩, fun g hg => by
          rw [List.mem_singleton] at hg
          subst hg
          exact ⟨(HBL1.out.below HBR.out).below hbv, hd, hm⟩⟩
        have HCC := hide (counts_any (some ⟨wr.heap.size, 0, none⟩) 1 1 [⟨B, k, d, l⟩] V hll (by omega) (by simp only [List.map_cons, List.map_nil, List.flatten_cons, List.flatten_nil, List.append_nil]; rw [HM.out]; omega))
        have hfl : (([⟨B, k, d, l⟩] : List Sg).map Sg.s).flatten = l := by simp
        rw [hfl] at HCC
        have HBV := hide (below_nx6 HBR.out hbv)
        have hV' := hV.symm
        clear hV hbv hll hfl
        go_wp2_with fail
        refine Calls.mono HCC.out ?_
        rintro e w4 ⟨q, rfl, hq, hct, hb⟩
        obtain ⟨es, ck, hmq, hnd, hle⟩ := hct.size
        have HB4 := hide (below_nx6 HB1.out (below_nx6 HBV.out hb))
        rw [HM.out] at hnd hle
        have HND := hide hnd
        have ht : Try.prog.underlying 49 = some (.map 3 3) := Try.underlying49
        have hln : (Builtin.len_ #[49] 3 #[.map (some q)]).run Try.prog w4 = .ok (.int .i64 (es.size : Int)) w4 := by
          simp [Builtin.len_, run_underlying ht, MapKept.run_getObj_map hmq, Result.andThen, goInt]
        clear hb hct HCC ht hmq
        by_cases hz : es.size = k
        · obtain rfl : R = true := by
            rw [HR.out, ordB_parts]
            exact ⟨HG.out.symm, by rw [HM.out, HL.out]; exact hmn, by rw [HL.out]; exact HIN.out, HND.out.1 hz⟩
          go_wp2
          go_ret
          exact ⟨by simp [hz], HB4.out⟩
        · obtain rfl : R = false := HNO.out (fun h => hz (HND.out.2 h.2.2.2))
          have e0 : ((es.size : Int) == (k : Int)) = false := by simp; omega
          go_wp2
          go_ret
          exact ⟨by simp [e0], HB4.out⟩
  · obtain rfl : R = false := HNO.out (fun h => hmn h.2.1)
    have g1 : (n : Int) < (m : Int) := by omega
    go_wp2
    go_ret
    exact ⟨rfl, HB1.out⟩

end

section
open Go.RowKit
set_option linter.unusedVariables false
set_option linter.unusedSimpArgs false
set_option maxRecDepth 100000

theorem and_low (y : Nat) (hy : y < 4294967296) : bits BinOp.and IntKind.u64 (y : Int) 4294967295 = (y : Int) := by
  have h := u64_and_nat y 4294967295 (by omega) (by omega)
  rw [show (4294967295 : Nat) = 2 ^ 32 - 1 from rfl, Nat.and_two_pow_sub_one_eq_mod, Nat.mod_eq_of_lt (by omega)] at h
  exact h

set_option maxHeartbeats 2000000 in
theorem mul64_one (y : Nat) (hy : y ≤ 1073741824) (w : World) : Calls Try.prog 33 #[.int .u64 1, .int .u64 (y : Int)] w fun e w' => e = .returned (.tuple #[.int .u64 0, .int .u64 (y : Int)]) ∧ w' = w := by
  have b1 : bits BinOp.and IntKind.u64 1 4294967295 = 1 := by decide +kernel
  have b0 : bits BinOp.and IntKind.u64 0 4294967295 = 0 := by decide +kernel
  have b2 : bits BinOp.and IntKind.u64 (y : Int) 4294967295 = (y : Int) := and_low y (by omega)
  have b3 : (y : Int) / 4294967296 = 0 := by omega
  go_enter Try.func33, Try.ntmps33
  go_wp2
  go_ret2
  exact ⟨rfl, rfl⟩

set_option maxHeartbeats 2000000 in
theorem mul_one12 (y : Nat) (hy : y ≤ 1073741824) (w : World) : Calls Try.prog 26 #[.int .u64 1, .int .u64 (y : Int)] w fun e w' => e = .returned (.tuple #[.int .u64 0, .int .u64 (y : Int)]) ∧ w' = w := by
  go_enter Try.func26, Try.ntmps26
  go_wp2_with fail
  refine Calls.mono (mul64_one y hy _) ?_
  rintro e w1 ⟨rfl, rfl⟩
  go_wp2
  go_ret2
  exact ⟨rfl, rfl⟩

/-- A row while it is filled with one number. -/
def repL (a : Int) (k n : Nat) : List Int := List.replicate k a ++ List.replicate (n - k) 0

theorem repL_len {a : Int} {k n : Nat} (h : k ≤ n) : (repL a k n).length = n := by simp [repL]; omega

theorem repL_all (a : Int) (n : Nat) : repL a n n = List.replicate n a := by simp [repL]

theorem repL_splice {a : Int} {k j n : Nat} (h : k + j ≤ n) : splice ((repL a k n).map (Value.int .i64)) k ((List.replicate j a).map (Value.int .i64)) = (repL a (k + j) n).map (Value.int .i64) := by
  have e2 : List.replicate (n - k) (0 : Int) = List.replicate j 0 ++ List.replicate (n - (k + j)) 0 := by rw [List.replicate_append_replicate]; congr 1; omega
  have e3 : List.replicate (k + j) a = List.replicate k a ++ List.replicate j a := by rw [List.replicate_append_replicate]
  unfold splice repL
  rw [e2, e3]
  simp only [List.map_append, List.map_replicate, List.length_replicate]
  have h1 : List.take k (List.replicate k (Value.int .i64 a) ++ (List.replicate j (Value.int .i64 0) ++ List.replicate (n - (k + j)) (Value.int .i64 0))) = List.replicate k (Value.int .i64 a) := List.take_left' (by simp)
  have h2 : List.drop (k + j) (List.replicate k (Value.int .i64 a) ++ (List.replicate j (Value.int .i64 0) ++ List.replicate (n - (k + j)) (Value.int .i64 0))) = List.replicate (n - (k + j)) (Value.int .i64 0) := by
    rw [← List.append_assoc]
    exact List.drop_left' (by simp)
  rw [h1, h2, List.append_assoc]

theorem repL_at {a : Int} {k n j : Nat} (h : j < k) : ((repL a k n).map (Value.int .i64))[j]? = some (.int .i64 a) := by
  rw [repL, List.getElem?_map, List.getElem?_append_left (by simpa using h), List.getElem?_replicate, if_pos h]
  rfl

set_option maxHeartbeats 4000000 in
theorem repeat_any (A : Option Addr) (n : Nat) (a : Int) (w : World) (hA : Lies w A 1 (([a] : List Int).map (Value.int .i64))) (h1 : 1 ≤ n) (hn : n ≤ 1048576) :
    Calls Try.prog 21 #[.slice A 1 1, .int .i64 (n : Int)] w fun e w' => ∃ g, e = .returned (.slice (some ⟨g, 0, none⟩) n n) ∧ w.heap.size ≤ g ∧ w'.heap[g]? = some (.cells ((List.replicate n a).map (Value.int .i64)).toArray 3 (0, 0)) ∧ Below w.heap.size w w' := by
  obtain ⟨b, o, rfl, hbl, hx⟩ := byte_at hA (by omega)
  have hx0 := hx 0 (by omega)
  have HX0 : Hid (w.cell? ⟨b, o, none⟩ = some (.int .i64 a)) := hide hx0
  have HBL : Hid (b < w.heap.size) := hide hbl
  have hmk := make_ints9 w n hn
  obtain ⟨W1, hW1⟩ : ∃ W1, W1 = w.alloc (.cells ((List.replicate n (0 : Int)).map (Value.int .i64)).toArray 3) := ⟨_, rfl⟩
  have HB1 : Hid (Below w.heap.size w W1) := hide (by rw [hW1]; exact below_al6 (Below.refl _ _))
  have HG1 : Hid (W1.heap[w.heap.size]? = some (.cells ((repL a 0 n).map (Value.int .i64)).toArray 3 (0, 0))) := hide (by rw [hW1]; simpa [repL] using heap_alloc_new w _)
  rw [← hW1] at hmk
  have HCA := hide (mul_one12 n (by omega) w)
  have e1 : IntKind.u64.wrap (n : Int) = (n : Int) := by rw [IntKind.wrap_u64]; omega
  have e2 : IntKind.i64.wrap (n : Int) = (n : Int) := by rw [IntKind.wrap_i64]; omega
  have e3 : ¬ (n : Int) < 0 := by omega
  have e4 : ¬ (9223372036854775807 : Int) < (n : Int) := by omega
  clear hx hx0 hA hW1 hbl
  go_enter Try.func21, Try.ntmps21
  go_wp2_with fail
  refine Calls.mono HCA.out ?_
  rintro e w1 ⟨rfl, rfl⟩
  have H2 : Hid ((([a] : List Int).map (Value.int .i64)).length = Nat.min 1 n) := hide (by show 1 = min 1 n; omega)
  have H3 : Hid (0 < (([a] : List Int).map (Value.int .i64)).length → ∃ ad, some (⟨b, o, none⟩ : Addr) = some ad ∧ ∀ j v, (([a] : List Int).map (Value.int .i64))[j]? = some v → W1.cell? (ad.add j) = some v) := hide (fun _ => ⟨_, rfl, fun j v hj => by
    match j, hj with
    | 0, hj => cases hj; rw [Addr.add_lit]; exact (HB1.out.cell HBL.out).trans HX0.out
    | j + 1, hj => simp at hj⟩)
  have H4 : Hid (0 + (([a] : List Int).map (Value.int .i64)).length ≤ ((repL a 0 n).map (Value.int .i64)).length) := hide (by rw [List.length_map, List.length_map, repL_len (Nat.zero_le _)]; simpa using h1)
  have H5 : Hid (∀ v ∈ (([a] : List Int).map (Value.int .i64)), v.oneCell' = true) := hide (by intro v hv; simp at hv; subst hv; rfl)
  go_wp2_with (refine wpList_copy_splice rfl (.tmp 31) (.tmp 32) 27 27 rfl 3 Try.underlying27 (by kernel_rfl) _ _ _ _ _ _ rfl rfl w1.heap.size 0 ((repL a 0 n).map (Value.int .i64)) 3 HG1.out (([a] : List Int).map (Value.int .i64)) H2.out (fun h => ⟨rfl, H3.out h⟩) H4.out H5.out w1.heap.size w1 HB1.out (Nat.le_refl _) ?_)
  intro w2 hg2 hb2
  have HG2 : Hid (w2.heap[w1.heap.size]? = some (.cells ((repL a 1 n).map (Value.int .i64)).toArray 3 (0, 0))) := hide (by
    have h := hg2.out
    have e := repL_splice (a := a) (k := 0) (j := 1) (n := n) (by omega)
    rw [Nat.zero_add] at e
    rw [← e]
    exact h)
  have HB2 := hide hb2
  obtain ⟨g, hg⟩ : ∃ g, g = w1.heap.size := ⟨_, rfl⟩
  rw [← hg]
  rw [← hg] at HG2 HB2
  have HGE := hide hg
  clear hg hg2 hb2 H2 H3 H4 H5 hmk HCA HG1 HB1
  go_wp2
  go_loopw [8] (fun v wr => ∃ k : Nat, 1 ≤ k ∧ k ≤ n ∧ v = .int .i64 k ∧ Hid (wr.heap[g]? = some (.cells ((repL a k n).map (Value.int .i64)).toArray 3 (0, 0))) ∧ Hid (Below g w1 wr)) (fun v _ => n - (intOf v).toNat)
  case atStart => exact ⟨1, Nat.le_refl _, h1, rfl, HG2, HB2⟩
  case round =>
    obtain ⟨k, hk1, hk, rfl, HG, HB⟩ := hrel
    by_cases hlt : k < n
    · obtain ⟨j, hj⟩ : ∃ j, j = min k (n - k) := ⟨_, rfl⟩
      have hj1 : 1 ≤ j ∧ k + j ≤ n ∧ j ≤ k := by omega
      have f0 : (0 : Int) ≤ (k : Int) := by omega
      have f1 : (k : Int) < (n : Int) := by omega
      have f2 : (k : Int) ≤ (n : Int) := by omega
      have f3 : ¬ n = k := by omega
      have HJ := hide hj
      have HJ1 := hide hj1
      have H2 : Hid (((List.replicate j a).map (Value.int .i64)).length = Nat.min k (n - k)) := hide (by rw [List.length_map, List.length_replicate]; exact HJ.out)
      have HL := lt_of_heap HG.out
      clear hj hj1
      have H3 : Hid (0 < ((List.replicate j a).map (Value.int .i64)).length → ∃ ad, some (⟨g, 0, none⟩ : Addr) = some ad ∧ ∀ i v, ((List.replicate j a).map (Value.int .i64))[i]? = some v → wr.drew.cell? (ad.add i) = some v) := hide (fun _ => ⟨_, rfl, fun i v hi => by
        have hij : i < j := by have h := (List.getElem?_eq_some_iff.1 hi).1; simpa using h
        rw [List.getElem?_map, List.getElem?_replicate, if_pos hij] at hi
        cases hi
        rw [Addr.add_lit, Nat.zero_add]
        exact (cell_of_row wr g i _ _ (0, 0) HG.out).trans (by have h := repL_at (a := a) (n := n) (show i < k by have := HJ1.out; omega); simpa using h)⟩)
      have H4 : Hid (k + ((List.replicate j a).map (Value.int .i64)).length ≤ ((repL a k n).map (Value.int .i64)).length) := hide (by rw [List.length_map, List.length_map, repL_len hk, List.length_replicate]; exact HJ1.out.2.1)
      have H5 : Hid (∀ v ∈ ((List.replicate j a).map (Value.int .i64)), v.oneCell' = true) := hide (by intro v hv; obtain ⟨z, _, rfl⟩ := List.mem_map.1 hv; rfl)
      have HGD : Hid (wr.drew.heap[g]? = some (.cells ((repL a k n).map (Value.int .i64)).toArray 3 (0, 0))) := HG
      have HBD : Hid (Below g w1 wr.drew) := hide (below_drewN HB.out 1)
      go_wp2
      go_region_law (refine step_copy_splice rfl (.tmp 41) (.tmp 44) 27 27 rfl 3 Try.underlying27 (by kernel_rfl) (some ⟨g, k, none⟩) (some ⟨g, 0, none⟩) (n - k) (n - k) k n (by simp [Act.eval, Act.put]) (by simp [Act.eval, Act.put]) g k ((repL a k n).map (Value.int .i64)) 3 HGD.out ((List.replicate j a).map (Value.int .i64)) H2.out (fun h => ⟨rfl, H3.out h⟩) H4.out H5.out g w1 HBD.out (Nat.le_refl _) ?_; intro w4 hg4 hb4)
      have HG4 : Hid (w4.heap[g]? = some (.cells ((repL a (k + j) n).map (Value.int .i64)).toArray 3 (0, 0))) := hide (by
        have h := hg4.out
        rwa [repL_splice HJ1.out.2.1] at h)
      have HB4 := hide hb4
      have e6 : (((List.replicate j a).map (Value.int .i64)).length : Int) = (j : Int) := by simp
      have e7 : IntKind.i64.wrap ((k : Int) + (j : Int)) = ((k + j : Nat) : Int) := by have := HJ1.out.2.1; rw [IntKind.wrap_i64]; omega
      have j1 := HJ1.out.1
      have j2 := HJ1.out.2.1
      clear hg4 hb4 HGD HBD H2 H3 H4 H5
      simp only [Act.put, List.setIfInBounds_toArray, List.set_cons_zero, List.set_cons_succ, List.getElem_toArray, List.getElem_cons_succ, List.getElem_cons_zero, goInt, e6]
      go_wp2
      go_roundw
      case rel => exact ⟨k + j, by omega, by omega, by rw [e7], HG4, HB4⟩
      case measure => simp only [intOf, e7]; omega
    · obtain rfl : k = n := by omega
      have HG3 := HG.out
      rw [repL_all] at HG3
      have f1 : ¬ ((k : Int) < (k : Int)) := by omega
      have HGG := hide HG3
      clear HG3
      go_wp2
      go_ret
      exact ⟨g, rfl, by rw [HGE.out]; exact Nat.le_refl _, by simpa using HGG.out, by rw [← HGE.out]; exact HB.out⟩

end

end Go.Proofs.Yteagmlaahnpkhaa
