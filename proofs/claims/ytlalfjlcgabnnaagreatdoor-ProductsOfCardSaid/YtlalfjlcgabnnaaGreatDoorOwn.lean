/- Laws for the walk: append of one more, and of a whole slice, onto a list of the call's own, nil let in. No program is named here. -/
import Derived.Test.YtlalfjlcgabnnaaGreatDoorMem
import Derived.ArgAppend
import Derived.OwnWalk
namespace Go.Proofs.YtlalfjlcgabnnaaGreatDoor
open Go.RowKit

section
variable {P : Program} {w : World}

/-- Where the longer list lies: where it was, that row turning alone; or in a new row, nothing turning. -/
def Moved (w w' : World) (v v' : Value) : Prop := (v'.ownBlock = v.ownBlock ∧ w.grownBy w' v.ownBlock) ∨ (w.grownBy w' none ∧ ∀ g, v'.ownBlock = some g → w.heap.size ≤ g)

theorem run_append_one (t ty e : TypeId) (i : TypeInfo) (z : Value) (bytes : Nat) (ht : P.underlying t = some (.slice e)) (hi : P.info? e = some i) (hz : i.zero = some z) (hsize : i.size = 1) (hby : i.bytes = bytes) (hzs : z.cells.size = 1)
    (base : Nat) (A : Option Addr) (n c : Nat) (xs : List Value) (ho : w.ownsRow base e 1 (.slice A n c) n xs) (hbase : base ≤ w.heap.size)
    (ad : Addr) (x : Value) (hx : w.cell? ad = some x) (h1 : x.oneCell' = true) (hb : (n + 1) * bytes ≤ 140737488355328) (h63 : n + 1 ≤ maxLen) :
    ∃ A' c' w', (Builtin.append_ #[t, t] ty #[.slice A n c, .slice (some ad) 1 1]).run P w = .ok (.slice A' (n + 1) c') w' ∧ w'.ownsRow base e 1 (.slice A' (n + 1) c') (n + 1) (xs ++ [x]) ∧ Moved w w' (.slice A n c) (.slice A' (n + 1) c') := by
  have hnews : ∀ j u, [x][j]? = some u → w.cell? (ad.add j) = some u := by
    intro j u hj
    match j, hj with
    | 0, hj => simp at hj; subst hj; simpa [Addr.add] using hx
  have h1' : ∀ u ∈ [x], u.oneCell' = true := by intro u hu; simp at hu; subst hu; exact h1
  rcases ho.2 with ⟨e0, h0⟩ | ⟨g, cap, cur, e0, hg, hh, hnc, hcm, hcs, hta⟩
  · injection e0 with eA en ec
    subst eA
    subst en
    subst ec
    have hnil : xs = [] := List.eq_nil_of_length_eq_zero (by simpa using ho.1)
    subst hnil
    obtain ⟨v', w', hrun, hown, hgr, _⟩ := run_append_own (P := P) w w.heap.size t ty e i z 1 bytes ht hi hz hsize hby hzs (by omega) (.slice none 0 0) 0 [] (World.ownsRow_nil _ _ _ _) ad 1 1 [x] rfl hnews h1' h63 hb (Nat.le_refl _)
    rcases hown.2 with ⟨_, h0⟩ | ⟨g, cap, cur, rfl, hgb, r⟩
    · omega
    · exact ⟨some ⟨g, 0, none⟩, cap, w', hrun, own_base hown hbase, .inr ⟨hgr, fun b hb' => by simp [Value.ownBlock] at hb'; omega⟩⟩
  · injection e0 with eA en ec
    subst eA
    subst ec
    by_cases hfit : n + 1 ≤ c
    · obtain ⟨w', hrun, h2, h3⟩ := run_append_fits (P := P) w base t ty e i 1 ht hi hsize g n c xs ho ad 1 1 [x] rfl hnews h1' hfit
      exact ⟨some ⟨g, 0, none⟩, c, w', hrun, h2, .inl ⟨rfl, h3⟩⟩
    · have holds : ∀ j u, xs[j]? = some u → w.cell? ((⟨g, 0, none⟩ : Addr).add j) = some u := ho.cells (g := g) rfl
      obtain ⟨v', w', hrun, hown, hgr⟩ := run_append_arg_grows (P := P) w t ty e i z 1 bytes ht hi hz hsize hby hzs (by omega) ⟨g, 0, none⟩ n c xs ho.1 holds ad 1 1 [x] rfl hnews (by omega) h63 hb
      rcases hown.2 with ⟨_, h0⟩ | ⟨g', cap', cur', rfl, hgb, r⟩
      · omega
      · exact ⟨some ⟨g', 0, none⟩, cap', w', hrun, own_base hown hbase, .inr ⟨hgr, fun b hb' => by simp [Value.ownBlock] at hb'; omega⟩⟩

theorem wpList_append_one {ops : Array Oper} {rest : List Oper} {op : Oper} {a : Act} {Q : Exit → Act → World → Prop} (hgd : op.guard = none) (s x : Operand) (t : TypeId)
    (hop : op.op = .call { callee := .builtin .append, args := #[s, x], argTypes := #[t, t] })
    (e : TypeId) (i : TypeInfo) (z : Value) (bytes : Nat) (ht : P.underlying t = some (.slice e)) (hi : P.info? e = some i) (hz : i.zero = some z) (hsize : i.size = 1) (hby : i.bytes = bytes) (hzs : z.cells.size = 1)
    (base : Nat) (A : Option Addr) (n c : Nat) (xs : List Value) (hs : a.eval s = .slice A n c) (ho : w.ownsRow base e 1 (.slice A n c) n xs) (hbase : base ≤ w.heap.size)
    (ad : Addr) (u : Value) (hxe : a.eval x = .slice (some ad) 1 1) (hx : w.cell? ad = some u) (h1 : u.oneCell' = true) (hb : (n + 1) * bytes ≤ 140737488355328) (h63 : n + 1 ≤ maxLen)
    (h : ∀ A' c' w', w'.ownsRow base e 1 (.slice A' (n + 1) c') (n + 1) (xs ++ [u]) → Moved w w' (.slice A n c) (.slice A' (n + 1) c') → wpList P ops Q rest (a.put op.dst (.slice A' (n + 1) c')) w') : wpList P ops Q (op :: rest) a w := by
  refine wpList_plain hgd fun K hK => ?_
  obtain ⟨A', c', w', hrun, h2, h3⟩ := run_append_one (P := P) (w := w) t op.type e i z bytes ht hi hz hsize hby hzs base A n c xs ho hbase ad u hx h1 hb h63
  unfold Oper.wp
  simp [execOp, hop, resolve, invoke, builtin, hs, hxe, hrun, Result.andThen]
  exact hK _ _ (h A' c' w' h2 h3)

end

section
variable {P : Program} {w : World}

/-- append of one more onto a list of the call's own, as one step of a region that draws its order; where the longer list lies is told. -/
theorem step_append_one {ops : Array Oper} {op : Oper} {a : Act} {K : Act → World → Prop} {Q : Exit → Act → World → Prop} {E : Prop} (hgd : op.guard = none) (s x : Operand) (t : TypeId)
    (hop : op.op = .call { callee := .builtin .append, args := #[s, x], argTypes := #[t, t] })
    (e : TypeId) (i : TypeInfo) (z : Value) (bytes : Nat) (ht : P.underlying t = some (.slice e)) (hi : P.info? e = some i) (hz : i.zero = some z) (hsize : i.size = 1) (hby : i.bytes = bytes) (hzs : z.cells.size = 1)
    (base : Nat) (A : Option Addr) (n c : Nat) (xs : List Value) (hs : a.eval s = .slice A n c) (ho : w.ownsRow base e 1 (.slice A n c) n xs) (hbase : base ≤ w.heap.size)
    (ad : Addr) (u : Value) (hxe : a.eval x = .slice (some ad) 1 1) (hx : w.cell? ad = some u) (h1 : u.oneCell' = true) (hb : (n + 1) * bytes ≤ 140737488355328) (h63 : n + 1 ≤ maxLen)
    (h : ∀ g' c' w', w'.ownsRow base e 1 (.slice (some ⟨g', 0, none⟩) (n + 1) c') (n + 1) (xs ++ [u]) → Moved w w' (.slice A n c) (.slice (some ⟨g', 0, none⟩) (n + 1) c') → K (a.put op.dst (.slice (some ⟨g', 0, none⟩) (n + 1) c')) w') :
    if Region.wanted op (yielded ops a.tmps) = true then Oper.wp P op a w K Q else E := by
  have hw : Region.wanted op (yielded ops a.tmps) = true := by simp [Region.wanted, hgd]
  rw [if_pos hw]
  obtain ⟨A', c', w', hrun, h2, h3⟩ := run_append_one (P := P) (w := w) t op.type e i z bytes ht hi hz hsize hby hzs base A n c xs ho hbase ad u hx h1 hb h63
  obtain ⟨g', rfl⟩ : ∃ g', A' = some ⟨g', 0, none⟩ := by
    rcases h2.2 with ⟨e0, h0⟩ | ⟨g, cap, cur, e0, _⟩
    · omega
    · injection e0 with e0; exact ⟨g, e0⟩
  unfold Oper.wp
  simp [execOp, hop, resolve, invoke, builtin, hs, hxe, hrun, Result.andThen]
  exact h g' c' w' h2 h3

end

theorem own_addr {w : World} {base : Nat} {e : TypeId} {A : Option Addr} {n c : Nat} {xs : List Value} (h : w.ownsRow base e 1 (.slice A n c) n xs) : A = none ∨ ∃ g, A = some ⟨g, 0, none⟩ := by
  rcases h.2 with ⟨e0, _⟩ | ⟨g, cap, cur, e0, _⟩ <;> injection e0 with e0
  · exact .inl e0
  · exact .inr ⟨g, e0⟩

theorem lies_of_own {w : World} {base : Nat} {e : TypeId} {A : Option Addr} {n c : Nat} {xs : List Value} (h : w.ownsRow base e 1 (.slice A n c) n xs) : Lies w A n xs := by
  rcases own_addr h with rfl | ⟨g, rfl⟩
  · rcases h.2 with ⟨_, h0⟩ | ⟨g, cap, cur, e0, _⟩
    · subst h0
      exact ⟨by simpa using h.1, fun hn => absurd hn (by omega)⟩
    · injection e0 with e0; cases e0
  · exact Lies.own h

section
variable {P : Program} {w : World}

/-- append of a whole slice, nil let in, onto a row of the call's own, nil let in. -/
theorem run_append_src (t ty e : TypeId) (i : TypeInfo) (z : Value) (bytes : Nat) (ht : P.underlying t = some (.slice e)) (hi : P.info? e = some i) (hz : i.zero = some z) (hsize : i.size = 1) (hby : i.bytes = bytes) (hzs : z.cells.size = 1)
    (base : Nat) (v : Value) (n : Nat) (xs : List Value) (ho : w.ownsRow base e 1 v n xs) (hbase : base ≤ w.heap.size)
    (A : Option Addr) (m c : Nat) (news : List Value) (hn : Lies w A m news) (hnil : A = none → c = 0) (h1 : ∀ u ∈ news, u.oneCell' = true) (hb : (n + m) * bytes ≤ 140737488355328) (h63 : n + m ≤ maxLen) :
    ∃ A' c' w', (Builtin.append_ #[t, t] ty #[v, .slice A m c]).run P w = .ok (.slice A' (n + m) c') w' ∧ w'.ownsRow base e 1 (.slice A' (n + m) c') (n + m) (xs ++ news) ∧ w.grownBy w' v.ownBlock := by
  cases A with
  | none =>
    obtain rfl : c = 0 := hnil rfl
    have hm : m = 0 := by
      rcases Nat.eq_zero_or_pos m with h | h
      · exact h
      · obtain ⟨_, _, h2, _⟩ := hn.cells h; cases h2
    subst hm
    have hnn : news = [] := List.eq_nil_of_length_eq_zero hn.len
    subst hnn
    have hrun := run_append_owned_none (P := P) w base t ty e i 1 ht hi v n xs ho
    rcases ho.2 with ⟨rfl, rfl⟩ | ⟨g, cap, cur, rfl, r⟩
    · exact ⟨none, 0, w, hrun, by simpa using ho, World.grownBy.refl _ _⟩
    · exact ⟨some ⟨g, 0, none⟩, cap, w, hrun, by simpa using ho, World.grownBy.refl _ _⟩
  | some ad =>
    have hcells : ∀ j u, news[j]? = some u → w.cell? (ad.add j) = some u := by
      intro j u hj
      have hjl : j < m := by have := (List.getElem?_eq_some_iff.1 hj).1; have := hn.len; omega
      obtain ⟨b, o, e1, _, hx⟩ := hn.cells (by omega)
      injection e1 with e1
      subst e1
      rw [Addr.add_lit, hx j hjl, hj]
    obtain ⟨v', w', hrun, hown, hg, _⟩ := run_append_own (P := P) w base t ty e i z 1 bytes ht hi hz hsize hby hzs (by omega) v n xs ho ad m c news (by have := hn.len; omega) hcells h1 h63 hb hbase
    rcases hown.2 with ⟨rfl, h0⟩ | ⟨g, cap, cur, rfl, r⟩
    · refine ⟨none, 0, w', ?_, ?_, hg⟩
      · rw [h0]; exact hrun
      · rw [h0]; rw [h0] at hown; exact hown
    · exact ⟨some ⟨g, 0, none⟩, cap, w', hrun, hown, hg⟩

theorem wpList_append_src {ops : Array Oper} {rest : List Oper} {op : Oper} {a : Act} {Q : Exit → Act → World → Prop} (hgd : op.guard = none) (s x : Operand) (t : TypeId)
    (hop : op.op = .call { callee := .builtin .append, args := #[s, x], argTypes := #[t, t] })
    (e : TypeId) (i : TypeInfo) (z : Value) (bytes : Nat) (ht : P.underlying t = some (.slice e)) (hi : P.info? e = some i) (hz : i.zero = some z) (hsize : i.size = 1) (hby : i.bytes = bytes) (hzs : z.cells.size = 1)
    (base : Nat) (v : Value) (n : Nat) (xs : List Value) (hs : a.eval s = v) (ho : w.ownsRow base e 1 v n xs) (hbase : base ≤ w.heap.size)
    (A : Option Addr) (m c : Nat) (news : List Value) (hx : a.eval x = .slice A m c) (hn : Lies w A m news) (hnil : A = none → c = 0) (h1 : ∀ u ∈ news, u.oneCell' = true) (hb : (n + m) * bytes ≤ 140737488355328) (h63 : n + m ≤ maxLen)
    (h : ∀ A' c' w', w'.ownsRow base e 1 (.slice A' (n + m) c') (n + m) (xs ++ news) → w.grownBy w' v.ownBlock → wpList P ops Q rest (a.put op.dst (.slice A' (n + m) c')) w') : wpList P ops Q (op :: rest) a w := by
  refine wpList_plain hgd fun K hK => ?_
  obtain ⟨A', c', w', hrun, h2, h3⟩ := run_append_src (P := P) (w := w) t op.type e i z bytes ht hi hz hsize hby hzs base v n xs ho hbase A m c news hn hnil h1 hb h63
  unfold Oper.wp
  simp [execOp, hop, resolve, invoke, builtin, hs, hx, hrun, Result.andThen]
  exact hK _ _ (h A' c' w' h2 h3)

end

section
variable {P : Program} {w : World}

/-- append of one element of several cells onto a row of the call's own, as one step of a region that draws its order. -/
theorem step_append_held {ops : Array Oper} {op : Oper} {a : Act} {K : Act → World → Prop} {Q : Exit → Act → World → Prop} {E : Prop} (hgd : op.guard = none) (s x : Operand) (t : TypeId)
    (hop : op.op = .call { callee := .builtin .append, args := #[s, x], argTypes := #[t, t] })
    (e : TypeId) (i : TypeInfo) (z : Value) (size bytes : Nat) (ht : P.underlying t = some (.slice e)) (hi : P.info? e = some i) (hz : i.zero = some z) (hsize : i.size = size) (hby : i.bytes = bytes) (hzs : z.cells.size = size) (hpos : 0 < size)
    (base : Nat) (v : Value) (n : Nat) (xs : List Value) (hs : a.eval s = v) (ho : w.ownsRow base e size v n xs) (hbase : base ≤ w.heap.size)
    (ad : Addr) (news : List Value) (hxe : a.eval x = .slice (some ad) 1 1) (hl : news.length = 1 * size) (hx : ∀ j u, news[j]? = some u → w.cell? (ad.add j) = some u) (h1 : ∀ u ∈ news, u.oneCell' = true) (hb : (n + 1) * bytes ≤ 140737488355328) (h63 : n + 1 ≤ maxLen)
    (h : ∀ g' c' w', w'.ownsRow base e size (.slice (some ⟨g', 0, none⟩) (n + 1) c') (n + 1) (xs ++ news) → w.grownBy w' v.ownBlock → K (a.put op.dst (.slice (some ⟨g', 0, none⟩) (n + 1) c')) w') :
    if Region.wanted op (yielded ops a.tmps) = true then Oper.wp P op a w K Q else E := by
  have hw : Region.wanted op (yielded ops a.tmps) = true := by simp [Region.wanted, hgd]
  rw [if_pos hw]
  obtain ⟨v', w', hrun, hown, hg, _⟩ := run_append_own (P := P) w base t op.type e i z size bytes ht hi hz hsize hby hzs hpos v n xs ho ad 1 1 news hl hx h1 h63 hb hbase
  obtain ⟨g', c', rfl⟩ : ∃ g' c', v' = .slice (some ⟨g', 0, none⟩) (n + 1) c' := by
    rcases hown.2 with ⟨_, h0⟩ | ⟨g', c', _, h0, _⟩
    · omega
    · exact ⟨g', c', h0⟩
  unfold Oper.wp
  simp [execOp, hop, resolve, invoke, builtin, hs, hxe, hrun, Result.andThen]
  exact h g' c' w' hown hg

end

section
variable {P : Program} {w : World}

/-- append of a whole slice, nil let in, onto a row of the call's own, nil let in, as one step of a region that draws its order. -/
theorem step_append_src {ops : Array Oper} {op : Oper} {a : Act} {K : Act → World → Prop} {Q : Exit → Act → World → Prop} {E : Prop} (hgd : op.guard = none) (s x : Operand) (t : TypeId)
    (hop : op.op = .call { callee := .builtin .append, args := #[s, x], argTypes := #[t, t] })
    (e : TypeId) (i : TypeInfo) (z : Value) (bytes : Nat) (ht : P.underlying t = some (.slice e)) (hi : P.info? e = some i) (hz : i.zero = some z) (hsize : i.size = 1) (hby : i.bytes = bytes) (hzs : z.cells.size = 1)
    (base : Nat) (v : Value) (n : Nat) (xs : List Value) (hs : a.eval s = v) (ho : w.ownsRow base e 1 v n xs) (hbase : base ≤ w.heap.size)
    (A : Option Addr) (m c : Nat) (news : List Value) (hx : a.eval x = .slice A m c) (hn : Lies w A m news) (hnil : A = none → c = 0) (h1 : ∀ u ∈ news, u.oneCell' = true) (hb : (n + m) * bytes ≤ 140737488355328) (h63 : n + m ≤ maxLen)
    (h : ∀ A' c' w', w'.ownsRow base e 1 (.slice A' (n + m) c') (n + m) (xs ++ news) → w.grownBy w' v.ownBlock → K (a.put op.dst (.slice A' (n + m) c')) w') :
    if Region.wanted op (yielded ops a.tmps) = true then Oper.wp P op a w K Q else E := by
  have hw : Region.wanted op (yielded ops a.tmps) = true := by simp [Region.wanted, hgd]
  rw [if_pos hw]
  obtain ⟨A', c', w', hrun, h2, h3⟩ := run_append_src (P := P) (w := w) t op.type e i z bytes ht hi hz hsize hby hzs base v n xs ho hbase A m c news hn hnil h1 hb h63
  unfold Oper.wp
  simp [execOp, hop, resolve, invoke, builtin, hs, hx, hrun, Result.andThen]
  exact h A' c' w' h2 h3

end

theorem below_moved {B : Nat} {a w w' : World} {base : Nat} {e : TypeId} {v v' : Value} {n : Nat} {xs : List Value} (hb : Below B a w) (hB : B ≤ w.heap.size) (ho : w.ownsRow base e 1 v n xs) (hm : Moved w w' v v') (hbb : B ≤ base := by exact Nat.le_refl _) : Below B a w' := by
  rcases hm with ⟨_, hg⟩ | ⟨hg, _⟩
  · exact hb.grown hg hB (fun g hgg => Nat.le_trans hbb (ho.lt g hgg).1)
  · exact hb.grown hg hB (by simp)

end Go.Proofs.YtlalfjlcgabnnaaGreatDoor
