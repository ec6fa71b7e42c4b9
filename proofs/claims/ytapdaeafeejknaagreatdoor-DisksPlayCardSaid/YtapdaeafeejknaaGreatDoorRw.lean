/- Rows of one-cell elements whose block is of one of several element types (bytes of a row of their own, or the bytes of a struct that came out whole), as the book of lists holds them; filling them, growing behind them. No program is named here. -/
import Derived.Test.YtapdaeafeejknaaGreatDoorBook
import Derived.Test.YtapdaeafeejknaaGreatDoorOwn
namespace Go.Proofs.YtapdaeafeejknaaGreatDoor
open Go.RowKit
set_option linter.unusedVariables false

/-- A list of the call's own: nil, or at the beginning of a block whose elements are of a type of E; where it is not full, the block is all its own, of type e. -/
def Rw (w : World) (base : Nat) (e : TypeId) (E : List TypeId) (v : Value) (n : Nat) (xs : List Value) : Prop :=
  xs.length = n ∧ ((v = .slice none 0 0 ∧ n = 0) ∨
    ∃ g cap cur t, v = .slice (some ⟨g, 0, none⟩) n cap ∧ base ≤ g ∧ w.heap[g]? = some (.cells cur t (0, 0)) ∧ t ∈ E ∧ n ≤ cap ∧ cap ≤ maxLen ∧ cap ≤ cur.size ∧ (cap = n ∨ (t = e ∧ cur.size = cap)) ∧ cur.toList.take n = xs)

section
variable {w w' : World} {base : Nat} {e : TypeId} {E : List TypeId} {v : Value} {n : Nat} {xs : List Value}
theorem Rw.of_own (h : w.ownsRow base e 1 v n xs) (he : e ∈ E) : Rw w base e E v n xs := by
  refine ⟨by have := h.1; omega, ?_⟩
  rcases h.2 with h2 | ⟨g, cap, cur, rfl, hb, hh, hnc, hcm, hcs, hta⟩
  · exact .inl h2
  · exact .inr ⟨g, cap, cur, e, rfl, hb, hh, he, hnc, hcm, by omega, .inr ⟨rfl, by omega⟩, by simpa using hta⟩
theorem Rw.nil : Rw w base e E (.slice none 0 0) 0 [] := ⟨rfl, .inl ⟨rfl, rfl⟩⟩
theorem Rw.lt (h : Rw w base e E v n xs) : ∀ k, v.ownBlock = some k → base ≤ k ∧ k < w.heap.size := by
  intro k hk
  rcases h.2 with ⟨rfl, _⟩ | ⟨g, cap, cur, t, rfl, hb, hg, _⟩
  · simp [Value.ownBlock] at hk
  · simp [Value.ownBlock] at hk
    subst hk
    exact ⟨hb, lt_of_heap hg⟩
theorem Rw.type (h : Rw w base e E v n xs) {g : Nat} (hg : v.ownBlock = some g) : ∃ cur t, t ∈ E ∧ w.heap[g]? = some (.cells cur t (0, 0)) := by
  rcases h.2 with ⟨rfl, _⟩ | ⟨g', cap, cur, t, rfl, _, hh, ht, _⟩
  · simp [Value.ownBlock] at hg
  · simp [Value.ownBlock] at hg
    subst hg
    exact ⟨cur, t, ht, hh⟩
theorem Rw.same (h : Rw w base e E v n xs) (hk : ∀ g, v.ownBlock = some g → w'.heap[g]? = w.heap[g]?) : Rw w' base e E v n xs := by
  refine ⟨h.1, ?_⟩
  rcases h.2 with h2 | ⟨g, cap, cur, t, rfl, hb, hh, r⟩
  · exact .inl h2
  · exact .inr ⟨g, cap, cur, t, rfl, hb, (hk g rfl).trans hh, r⟩
theorem Rw.kept {row : Option Nat} (h : Rw w base e E v n xs) (hg : w.grownBy w' row) (hne : v.ownBlock = none ∨ v.ownBlock ≠ row) : Rw w' base e E v n xs :=
  h.same fun g hgg => hg.block g (h.lt g hgg).2 (by
    rcases hne with h2 | h2
    · rw [hgg] at h2; cases h2
    · rw [← hgg]; exact h2)
theorem Rw.below (h : Rw w base e E v n xs) (hb : Below w.heap.size w w') : Rw w' base e E v n xs := h.same fun g hgg => hb.block g (h.lt g hgg).2
theorem Rw.alloc (h : Rw w base e E v n xs) (o : Obj) : Rw (w.alloc o) base e E v n xs := h.below ((Below.refl _ _).alloc (Nat.le_refl _) o)
theorem Rw.base_le {b : Nat} (h : Rw w base e E v n xs) (hb : b ≤ base) : Rw w b e E v n xs := by
  refine ⟨h.1, ?_⟩
  rcases h.2 with h2 | ⟨g, cap, cur, t, rfl, hg, r⟩
  · exact .inl h2
  · exact .inr ⟨g, cap, cur, t, rfl, Nat.le_trans hb hg, r⟩
theorem Rw.cellAt {g cap : Nat} (h : Rw w base e E (.slice (some ⟨g, 0, none⟩) n cap) n xs) (j : Nat) (hj : j < n) : w.cell? ⟨g, j, none⟩ = xs[j]? := by
  rcases h.2 with ⟨h', _⟩ | ⟨g', cap', cur, t, h', _, hg, _, _, _, _, _, htake⟩
  · cases h'
  · injection h' with h1 h2 h3
    injection h1 with h1
    injection h1 with h1
    subst h1
    rw [cell_of_row w g j cur t (0, 0) hg, ← htake, List.getElem?_take, if_pos hj]
    simp
theorem Rw.frozenAt {g cap : Nat} (h : Rw w base e E (.slice (some ⟨g, 0, none⟩) n cap) n xs) (j : Nat) : w.frozen? ⟨g, j, none⟩ = false := by
  rcases h.2 with ⟨h', _⟩ | ⟨g', cap', cur, t, h', _, hg, _⟩
  · cases h'
  · injection h' with h1 h2 h3
    injection h1 with h1
    injection h1 with h1
    subst h1
    simp [World.frozen?, hg]
theorem Rw.stored {g cap : Nat} (h : Rw w base e E (.slice (some ⟨g, 0, none⟩) n cap) n xs) (j : Nat) (u : Value) : Rw (w.setCell ⟨g, j, none⟩ u) base e E (.slice (some ⟨g, 0, none⟩) n cap) n (xs.set j u) := by
  rcases h.2 with ⟨h', _⟩ | ⟨g', cap', cur, t, h', hb, hg, ht, hnc, hcm, hcs, hor, htake⟩
  · cases h'
  · injection h' with h1 h2 h3
    injection h1 with h1
    injection h1 with h1
    subst h1
    subst h3
    refine ⟨by simpa using h.1, .inr ⟨g, cap, cur.setIfInBounds j u, t, rfl, hb, heap_setCell_same w g j cur t u hg, ht, hnc, hcm, by simpa using hcs, ?_, ?_⟩⟩
    · rcases hor with h4 | ⟨h4, h5⟩
      · exact .inl h4
      · exact .inr ⟨h4, by simpa using h5⟩
    · rw [Array.toList_setIfInBounds, List.take_set, htake]
theorem Rw.addr {A : Option Addr} {c : Nat} (h : Rw w base e E (.slice A n c) n xs) : A = none ∨ ∃ g, A = some ⟨g, 0, none⟩ := by
  rcases h.2 with ⟨e0, _⟩ | ⟨g, cap, cur, t, e0, _⟩ <;> injection e0 with e0
  · exact .inl e0
  · exact .inr ⟨g, e0⟩
theorem Rw.lies {A : Option Addr} {c : Nat} (h : Rw w base e E (.slice A n c) n xs) : Lies w A n xs := by
  rcases h.addr with rfl | ⟨g, rfl⟩
  · rcases h.2 with ⟨_, h0⟩ | ⟨g, cap, cur, t, e0, _⟩
    · subst h0
      exact ⟨h.1, fun hn => absurd hn (by omega)⟩
    · cases e0
  · exact ⟨h.1, fun _ => ⟨g, 0, rfl, (h.lt g rfl).2, fun j hj => by rw [Nat.zero_add]; exact h.cellAt j hj⟩⟩
theorem Rw.ne {base' : Nat} {hT : TypeId} {s' : Nat} {v' : Value} {n' : Nat} {xs' : List Value} (h : Rw w base e E v n xs) (h' : w.ownsRow base' hT s' v' n' xs') (hne : hT ∉ E) : v.ownBlock = none ∨ v.ownBlock ≠ v'.ownBlock := by
  rcases hv : v.ownBlock with _ | g
  · exact .inl rfl
  · refine .inr fun e1 => ?_
    obtain ⟨c1, t, ht, h1⟩ := h.type hv
    obtain ⟨c2, h2⟩ := own_type h' e1.symm
    rw [h1] at h2
    injection h2 with h2
    injection h2 with _ h2
    exact hne (h2 ▸ ht)
theorem Rw.ne' {base' : Nat} {hT : TypeId} {s' : Nat} {v' : Value} {n' : Nat} {xs' : List Value} (h : Rw w base e E v n xs) (h' : w.ownsRow base' hT s' v' n' xs') (hne : hT ∉ E) : v'.ownBlock = none ∨ v'.ownBlock ≠ v.ownBlock := by
  rcases hv : v'.ownBlock with _ | g
  · exact .inl rfl
  · refine .inr fun e1 => ?_
    obtain ⟨c1, t, ht, h1⟩ := h.type e1.symm
    obtain ⟨c2, h2⟩ := own_type h' hv
    rw [h1] at h2
    injection h2 with h2
    injection h2 with _ h2
    exact hne (h2 ▸ ht)
theorem KeepT.rw {T : List TypeId} (h : KeepT T w w') (ho : Rw w base e E v n xs) (hd : ∀ t ∈ E, t ∉ T) : Rw w' base e E v n xs :=
  ho.same fun g hgg => by
    obtain ⟨cur, t, ht, hh⟩ := ho.type hgg
    exact h.block g (lt_of_heap hh) (fun cur' e' fr' hh' => by rw [hh] at hh'; injection hh' with hh'; injection hh' with _ hh'; exact hh' ▸ hd t ht)
theorem KeepT.of_rw {row : Option Nat} (h : w.grownBy w' row) (ho : Rw w base e E v n xs) (hr : row = v.ownBlock) : KeepT E w w' :=
  KeepT.grown h fun g hgg => by
    obtain ⟨cur, t, ht, hh⟩ := ho.type (hr.symm.trans hgg)
    exact ⟨cur, t, (0, 0), hh, ht⟩
end

section
variable {P : Program} {w : World}
theorem run_append_rw (t ty e : TypeId) (E : List TypeId) (heE : e ∈ E) (i : TypeInfo) (z : Value) (bytes : Nat) (ht : P.underlying t = some (.slice e)) (hi : P.info? e = some i) (hz : i.zero = some z) (hsize : i.size = 1) (hby : i.bytes = bytes) (hzs : z.cells.size = 1)
    (base : Nat) (A : Option Addr) (n c : Nat) (xs : List Value) (ho : Rw w base e E (.slice A n c) n xs) (hbase : base ≤ w.heap.size)
    (ad : Addr) (x : Value) (hx : w.cell? ad = some x) (h1 : x.oneCell' = true) (hb : (n + 1) * bytes ≤ 140737488355328) (h63 : n + 1 ≤ maxLen) :
    ∃ A' c' w', (Builtin.append_ #[t, t] ty #[.slice A n c, .slice (some ad) 1 1]).run P w = .ok (.slice A' (n + 1) c') w' ∧ w'.ownsRow base e 1 (.slice A' (n + 1) c') (n + 1) (xs ++ [x]) ∧ Moved w w' (.slice A n c) (.slice A' (n + 1) c') := by
  rcases ho.2 with ⟨e0, h0⟩ | ⟨g, cap, cur, t', e0, hg, hh, htE, hnc, hcm, hcs, hor, hta⟩
  · injection e0 with eA en ec
    subst eA
    subst en
    subst ec
    have hnil : xs = [] := List.eq_nil_of_length_eq_zero (by simpa using ho.1)
    subst hnil
    exact run_append_one t ty e i z bytes ht hi hz hsize hby hzs base none 0 0 [] (World.ownsRow_nil _ _ _ _) hbase ad x hx h1 hb h63
  · injection e0 with eA en ec
    subst eA
    subst ec
    rcases hor with hfull | ⟨rfl, hsz⟩
    · subst hfull
      have holds : ∀ j u, xs[j]? = some u → w.cell? ((⟨g, 0, none⟩ : Addr).add j) = some u := by
        intro j u hj
        have hjl := (List.getElem?_eq_some_iff.1 hj).1
        rw [Addr.add_lit, Nat.zero_add, ho.cellAt j (by have := ho.1; omega)]
        exact hj
      have hnews : ∀ j u, [x][j]? = some u → w.cell? (ad.add j) = some u := by
        intro j u hj
        match j, hj with
        | 0, hj => simp at hj; subst hj; simpa [Addr.add] using hx
      obtain ⟨v', w', hrun, hown, hgr⟩ := run_append_arg_grows (P := P) w t ty e i z 1 bytes ht hi hz hsize hby hzs (by omega) ⟨g, 0, none⟩ c c xs (by have := ho.1; omega) holds ad 1 1 [x] rfl hnews (by omega) h63 hb
      rcases hown.2 with ⟨_, h0⟩ | ⟨g', cap', cur', rfl, hgb, r⟩
      · omega
      · exact ⟨some ⟨g', 0, none⟩, cap', w', hrun, own_base hown hbase, .inr ⟨hgr, fun b hb' => by simp [Value.ownBlock] at hb'; omega⟩⟩
    · exact run_append_one t ty t' i z bytes ht hi hz hsize hby hzs base (some ⟨g, 0, none⟩) n c xs ⟨by have := ho.1; omega, .inr ⟨g, c, cur, rfl, hg, hh, hnc, hcm, by omega, by simpa using hta⟩⟩ hbase ad x hx h1 hb h63
theorem wpList_append_rw {ops : Array Oper} {rest : List Oper} {op : Oper} {a : Act} {Q : Exit → Act → World → Prop} (hgd : op.guard = none) (s x : Operand) (t : TypeId)
    (hop : op.op = .call { callee := .builtin .append, args := #[s, x], argTypes := #[t, t] })
    (e : TypeId) (E : List TypeId) (heE : e ∈ E) (i : TypeInfo) (z : Value) (bytes : Nat) (ht : P.underlying t = some (.slice e)) (hi : P.info? e = some i) (hz : i.zero = some z) (hsize : i.size = 1) (hby : i.bytes = bytes) (hzs : z.cells.size = 1)
    (base : Nat) (A : Option Addr) (n c : Nat) (xs : List Value) (hs : a.eval s = .slice A n c) (ho : Rw w base e E (.slice A n c) n xs) (hbase : base ≤ w.heap.size)
    (ad : Addr) (u : Value) (hxe : a.eval x = .slice (some ad) 1 1) (hx : w.cell? ad = some u) (h1 : u.oneCell' = true) (hb : (n + 1) * bytes ≤ 140737488355328) (h63 : n + 1 ≤ maxLen)
    (h : ∀ A' c' w', w'.ownsRow base e 1 (.slice A' (n + 1) c') (n + 1) (xs ++ [u]) → Moved w w' (.slice A n c) (.slice A' (n + 1) c') → wpList P ops Q rest (a.put op.dst (.slice A' (n + 1) c')) w') : wpList P ops Q (op :: rest) a w := by
  refine wpList_plain hgd fun K hK => ?_
  obtain ⟨A', c', w', hrun, h2, h3⟩ := run_append_rw (P := P) (w := w) t op.type e E heE i z bytes ht hi hz hsize hby hzs base A n c xs ho hbase ad u hx h1 hb h63
  unfold Oper.wp
  simp [execOp, hop, resolve, invoke, builtin, hs, hxe, hrun, Result.andThen]
  exact hK _ _ (h A' c' w' h2 h3)
end
end Go.Proofs.YtapdaeafeejknaaGreatDoor
