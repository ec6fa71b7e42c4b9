/- Merged: Gr12, Gp2, Od1, Gr13, Help10. -/
import Derived.Test.YteagmlaahnpkhaaWZ22
import Derived.Outline
import Derived.Laws.EntriesVeiled
import Derived.Test.YteagmlaahnpkhaaWZ12
import Derived.Test.YteagmlaahnpkhaaWZ02
namespace Go.Proofs.Yteagmlaahnpkhaa

section
open Go.RowKit
set_option linter.unusedVariables false
set_option linter.unusedSimpArgs false
set_option maxRecDepth 100000

def Sg.v (g : Sg) : Value := .slice g.A g.n g.c

/-- A list of shapes of the call's own, all its shapes too, no two of which share memory. -/
def Grd (w : World) (base : Nat) (A : Option Addr) (n c : Nat) (gs : List Sg) : Prop :=
  gs.length = n ∧ w.ownsRow base 27 1 (.slice A n c) n (gs.map Sg.v) ∧ (∀ g ∈ gs, w.ownsRow base 3 1 (.slice g.A g.n g.c) g.n (g.s.map (Value.int .i64)) ∧ g.n ≤ 4) ∧ gs.Pairwise (fun g h => ∀ a b, Value.ownBlock (.slice g.A g.n g.c) = some a → Value.ownBlock (.slice h.A h.n h.c) = some b → a < b)

theorem Grd.nil (w : World) (base : Nat) : Grd w base none 0 0 [] := ⟨rfl, World.ownsRow_nil _ _ _ _, (fun g hg => by cases hg), List.Pairwise.nil⟩

theorem own_types10 {w : World} {base base' size size' : Nat} {e e' : TypeId} {v v' : Value} {n n' : Nat} {xs xs' : List Value} (h : w.ownsRow base e size v n xs) (h' : w.ownsRow base' e' size' v' n' xs') (he : e ≠ e') : v.ownBlock = none ∨ v.ownBlock ≠ v'.ownBlock := by
  rcases h.2 with ⟨rfl, _⟩ | ⟨g, cap, cur, rfl, _, hg, _⟩
  · exact .inl rfl
  · right
    rcases h'.2 with ⟨rfl, _⟩ | ⟨g', cap', cur', rfl, _, hg', _⟩
    · simp [Value.ownBlock]
    · simp only [Value.ownBlock, ne_eq, Option.some.injEq]
      rintro rfl
      rw [hg] at hg'
      simp at hg'
      exact he hg'.2

theorem Grd.kept {w w' : World} {base : Nat} {A : Option Addr} {n c : Nat} {gs : List Sg} {row : Option Nat} (h : Grd w base A n c gs) (hg : w.grownBy w' row) (hr : ∀ k, row = some k → k < base) : Grd w' base A n c gs := by
  have hne : ∀ {e : TypeId} {v : Value} {m : Nat} {xs : List Value}, w.ownsRow base e 1 v m xs → v.ownBlock = none ∨ v.ownBlock ≠ row := fun {e v m xs} ho => by
    rcases hv : v.ownBlock with _ | g
    · exact .inl rfl
    · right
      intro h2
      have h1 := (ho.lt g hv).1
      have h3 := hr g h2.symm
      omega
  exact ⟨h.1, h.2.1.kept hg (hne h.2.1), fun g hgm => ⟨(h.2.2.1 g hgm).1.kept hg (hne (h.2.2.1 g hgm).1), (h.2.2.1 g hgm).2⟩, h.2.2.2⟩

theorem Grd.below {w w' : World} {base : Nat} {A : Option Addr} {n c : Nat} {gs : List Sg} (h : Grd w base A n c gs) (hb : Below w.heap.size w w') : Grd w' base A n c gs :=
  h.kept (row := none) ⟨hb.os, hb.tape, hb.output, hb.size, fun i hi _ => hb.block i hi⟩ (fun k hk => by cases hk)

theorem Grd.set {w : World} {base p : Nat} {A : Option Addr} {n c : Nat} {gs : List Sg} (h : Grd w base A n c gs) (hp : p < base) (u : Value) : Grd (w.setCell ⟨p, 0, none⟩ u) base A n c gs :=
  h.kept (row := some p) ⟨rfl, rfl, rfl, by simp [World.setCell], fun k _ hk => heap_setCell_other _ _ _ _ (by simpa using hk)⟩ (fun k hk => by cases hk; exact hp)

theorem Grd.base {w : World} {base base' : Nat} {A : Option Addr} {n c : Nat} {gs : List Sg} (h : Grd w base A n c gs) (hb : base' ≤ base) : Grd w base' A n c gs :=
  ⟨h.1, own_base h.2.1 hb, fun g hg => ⟨own_base (h.2.2.1 g hg).1 hb, (h.2.2.1 g hg).2⟩, h.2.2.2⟩

theorem own_le10 {w : World} {base : Nat} {e : TypeId} {A : Option Addr} {n c : Nat} {xs : List Value} (h : w.ownsRow base e 1 (.slice A n c) n xs) : n ≤ c := by
  rcases h.2 with ⟨e0, h0⟩ | ⟨g, cap, cur, e0, _, _, hc, _⟩
  · omega
  · injection e0 with _ _ e0; omega

theorem Grd.sg {w : World} {base : Nat} {A : Option Addr} {n c : Nat} {gs : List Sg} (h : Grd w base A n c gs) : SgAt w A n gs :=
  ⟨h.1, fun hn => by
    obtain ⟨b, o, e, hlt, hx⟩ := (lies_of_own h.2.1).cells (by omega)
    refine ⟨b, o, e, hlt, fun j g hj => ?_⟩
    have hjl := (List.getElem?_eq_some_iff.1 hj).1
    rw [hx j (by rw [← h.1]; exact hjl), List.getElem?_map, hj]
    rfl, fun g hg => ⟨lies_of_own (h.2.2.1 g hg).1, own_le10 (h.2.2.1 g hg).1, (h.2.2.1 g hg).2⟩⟩

theorem Grd.push {w w' : World} {base B : Nat} {A A' : Option Addr} {n c c' : Nat} {gs : List Sg} {g : Sg} (h : Grd w base A n c gs) (hB : ∀ h ∈ gs, ∀ a, Value.ownBlock (.slice h.A h.n h.c) = some a → a < B) (hbb : base ≤ B) (hg : w.ownsRow B 3 1 (.slice g.A g.n g.c) g.n (g.s.map (Value.int .i64))) (hg4 : g.n ≤ 4)
    (ho : w'.ownsRow base 27 1 (.slice A' (n + 1) c') (n + 1) (gs.map Sg.v ++ [Sg.v g])) (hm : Moved w w' (.slice A n c) (.slice A' (n + 1) c')) : Grd w' base A' (n + 1) c' (gs ++ [g]) := by
  have hk : ∀ {bs : Nat} {v : Value} {m : Nat} {xs : List Value}, w.ownsRow bs 3 1 v m xs → w'.ownsRow bs 3 1 v m xs := fun {bs v m xs} hv => by
    rcases hm with ⟨_, hgr⟩ | ⟨hgr, _⟩
    · exact hv.kept hgr (own_types10 hv h.2.1 (by decide))
    · exact hv.kept hgr (by cases v.ownBlock <;> simp)
  refine ⟨by simp [h.1], by rw [List.map_append]; exact ho, fun x hx => ?_, ?_⟩
  · rcases List.mem_append.1 hx with hx | hx
    · exact ⟨hk (h.2.2.1 x hx).1, (h.2.2.1 x hx).2⟩
    · rw [List.mem_singleton.1 hx]; exact ⟨own_base (hk hg) hbb, hg4⟩
  · rw [List.pairwise_append]
    refine ⟨h.2.2.2, List.pairwise_singleton _ _, fun x hx y hy a b ha hb => ?_⟩
    rw [List.mem_singleton.1 hy] at hb
    have h1 := hB x hx a ha
    have h2 := (hg.lt b hb).1
    omega

theorem allSh_stop {ns : List Nd} {k : Nat} {x : Nd} {ss : List (List Int)} (h : allSh (ns.take k) [] = some ss) (hx : ns[k]? = some x) (hf : fitN x ss = false) : allSh ns [] = none := by
  have hl := (List.getElem?_eq_some_iff.1 hx).1
  have e : ns.drop k = x :: ns.drop (k + 1) := by rw [List.drop_eq_getElem_cons hl]; congr 1; exact (List.getElem?_eq_some_iff.1 hx).2
  rw [← List.take_append_drop k ns, allSh_append, h, e]
  show allSh (x :: ns.drop (k + 1)) ss = none
  rw [allSh, hf]
  rfl

theorem allSh_next {ns : List Nd} {k : Nat} {x : Nd} {ss : List (List Int)} (h : allSh (ns.take k) [] = some ss) (hx : ns[k]? = some x) (hf : fitN x ss = true) : allSh (ns.take (k + 1)) [] = some (ss ++ [shN x ss]) := by
  rw [take_oneN hx, allSh_append, h]
  show allSh [x] ss = _
  rw [allSh, if_pos hf, allSh]

theorem gph_stop {ns : List Nd} {k : Nat} {x : Nd} {ss : List (List Int)} (h : allSh (ns.take k) [] = some ss) (hx : ns[k]? = some x) (hf : fitN x ss = false) : gphE ns = 1 ∧ gphS ns = [] := by
  have hb : gphB ns = false := by rw [gphB, allSh_stop h hx hf]; simp
  exact ⟨by rw [gphE, hb]; rfl, gphS_no hb⟩

theorem fitN_no {x : Nd} {ss : List (List Int)} (h : ¬ ((1 ≤ x.kd ∧ x.kd ≤ 13) ∧ alw (rlT x.kd.toNat) x = true ∧ allKn x.xs ss.length = true ∧ nodeE x (knL ss x.xs) x.kd.toNat = 0)) : fitN x ss = false := by
  cases hf : fitN x ss with
  | false => rfl
  | true => exact absurd (fitN_parts hf) h

/-- How far the loop of Shapes is. -/
def ShSt (w0 : World) (p b base : Nat) (ns : List Nd) (k : Nat) (A : Option Addr) (c : Nat) (gs : List Sg) (w : World) : Prop :=
  w.heap[p]? = some (.cells #[.slice A k c] 62 (0, 0)) ∧ Grd w base A k c gs ∧ w.heap[b]? = some (.map (ruEs p 13) 13) ∧ allSh (ns.take k) [] = some (gs.map Sg.s) ∧ Below w0.heap.size w0 w ∧ base ≤ w.heap.size ∧ p < base ∧ w0.heap.size ≤ p

theorem ShSt.below {w0 w w' : World} {p b base : Nat} {ns : List Nd} {k : Nat} {A : Option Addr} {c : Nat} {gs : List Sg} (h : ShSt w0 p b base ns k A c gs w) (hb : Below w.heap.size w w') : ShSt w0 p b base ns k A c gs w' :=
  ⟨(hb.block p (lt_of_heap h.1)).trans h.1, h.2.1.below hb, (hb.block b (lt_of_heap h.2.2.1)).trans h.2.2.1, h.2.2.2.1, h.2.2.2.2.1.trans (hb.mono h.2.2.2.2.1.size), Nat.le_trans h.2.2.2.2.2.1 hb.size, h.2.2.2.2.2.2⟩

theorem ShSt.kn {w0 w : World} {p b base : Nat} {ns : List Nd} {k : Nat} {A : Option Addr} {c : Nat} {gs : List Sg} (h : ShSt w0 p b base ns k A c gs w) : KnAt w p A k c gs := ⟨h.1, h.2.1.sg⟩

theorem ShSt.pos {w0 w : World} {p b base : Nat} {ns : List Nd} {k : Nat} {A : Option Addr} {c : Nat} {gs : List Sg} (h : ShSt w0 p b base ns k A c gs w) : ∀ g ∈ gs, 0 < sizeI g.s := fun g hg =>
  allSh_pos (ns.take k) [] _ (fun s hs => by cases hs) h.2.2.2.1 g.s (List.mem_map.2 ⟨g, hg, rfl⟩)

theorem ShSt.cell {w0 w : World} {p b base : Nat} {ns : List Nd} {k : Nat} {A : Option Addr} {c : Nat} {gs : List Sg} (h : ShSt w0 p b base ns k A c gs w) : w.cell? ⟨p, 0, none⟩ = some (.slice A k c) ∧ w.frozen? ⟨p, 0, none⟩ = false := ⟨cell_of_row _ _ 0 _ _ (0, 0) h.1, frozen_of_row w p 0 _ _ h.1⟩

theorem ShSt.moved {w0 w w2 : World} {p b base : Nat} {ns : List Nd} {k : Nat} {A : Option Addr} {c : Nat} {gs : List Sg} {v' : Value} (h : ShSt w0 p b base ns k A c gs w) (hm : Moved w w2 (.slice A k c) v') : w2.cell? ⟨p, 0, none⟩ = some (.slice A k c) ∧ w2.frozen? ⟨p, 0, none⟩ = false := by
  have hgr : w.grownBy w2 (Value.ownBlock (.slice A k c)) := by
    rcases hm with ⟨_, hgr⟩ | ⟨hgr, _⟩
    · exact hgr
    · exact ⟨hgr.os, hgr.tape, hgr.output, hgr.size, fun i hi _ => hgr.block i hi (by simp)⟩
  have hpr : some p ≠ Value.ownBlock (.slice A k c) := fun e => by have := (h.2.1.2.1.lt p e.symm).1; have := h.2.2.2.2.2.2.1; omega
  have p2 := (hgr.block p (lt_of_heap h.1) hpr).trans h.1
  exact ⟨cell_of_row _ _ 0 _ _ (0, 0) p2, frozen_of_row w2 p 0 _ _ p2⟩

/-- One shape more: behind the append and the store. -/
theorem ShSt.push {w0 w w1 w2 : World} {p b base : Nat} {ns : List Nd} {k : Nat} {A A' : Option Addr} {c c' : Nat} {gs : List Sg} {x : Nd} {g : Sg} (h : ShSt w0 p b base ns k A c gs w) (hb : Below w.heap.size w w1) (hg : w1.ownsRow w.heap.size 3 1 (.slice g.A g.n g.c) g.n (g.s.map (Value.int .i64))) (hg4 : g.n ≤ 4)
    (ho : w2.ownsRow base 27 1 (.slice A' (k + 1) c') (k + 1) (gs.map Sg.v ++ [Sg.v g])) (hm : Moved w1 w2 (.slice A k c) (.slice A' (k + 1) c')) (hx : ns[k]? = some x) (hf : fitN x (gs.map Sg.s) = true) (hs : g.s = shN x (gs.map Sg.s)) :
    ShSt w0 p b base ns (k + 1) A' c' (gs ++ [g]) (w2.setCell ⟨p, 0, none⟩ (.slice A' (k + 1) c')) := by
  have h1 := h.below hb
  obtain ⟨a1, a2, a3, a4, a5, a6, a7, a8⟩ := h1
  have hgr : w1.grownBy w2 (Value.ownBlock (.slice A k c)) := by
    rcases hm with ⟨_, hgr⟩ | ⟨hgr, _⟩
    · exact hgr
    · exact ⟨hgr.os, hgr.tape, hgr.output, hgr.size, fun i hi _ => hgr.block i hi (by simp)⟩
  have hpr : some p ≠ Value.ownBlock (.slice A k c) := fun e => by have := (a2.2.1.lt p e.symm).1; omega
  have hbr : some b ≠ Value.ownBlock (.slice A k c) := fun e => by
    rcases a2.2.1.2 with ⟨h0, _⟩ | ⟨g', cap, cur, h0, _, hh, _⟩
    · rw [h0] at e; cases e
    · rw [h0] at e; injection e with e; have e' : b = g' := e; rw [← e', a3] at hh; cases hh
  have p2 := (hgr.block p (lt_of_heap a1) hpr).trans a1
  have b2 := (hgr.block b (lt_of_heap a3) hbr).trans a3
  have hpb : b ≠ p := fun e => by rw [e, a1] at a3; cases a3
  have hG : Grd w2 base A' (k + 1) c' (gs ++ [g]) := a2.push (fun q hq a ha => ((h.2.1.2.2.1 q hq).1.lt a ha).2) h.2.2.2.2.2.1 hg hg4 ho hm
  refine ⟨?_, hG.set a7 _, ?_, ?_, ?_, ?_, a7, a8⟩
  · have := heap_setCell_same w2 p 0 _ _ (.slice A' (k + 1) c') p2; simpa using this
  · exact (heap_setCell_other _ _ _ _ (by simpa using hpb)).trans b2
  · rw [List.map_append, List.map_cons, List.map_nil, hs]; exact allSh_next a4 hx hf
  · exact (a5.grown hgr a5.size (fun q hq => by have := (a2.2.1.lt q hq).1; omega)).setCell (by dsimp only; omega) _
  · have := hgr.size; simp only [World.setCell, Array.size_modify]; omega

theorem infoS10 : (Try.prog.info? 27).map (fun i => (i.zero, i.size, i.bytes)) = some (some (.slice none 0 0), 1, 24) := by kernel_rfl

end

section
open Go.RowKit
set_option linter.unusedVariables false
set_option linter.unusedSimpArgs false
set_option maxRecDepth 100000

theorem inIx_snoc : ∀ (us : List Nd) (x : Nd), inIx (us ++ [x]) = if inIx us = -1 then (if x.kd = 1 then (us.length : Int) else -1) else inIx us
  | [], x => by
    simp only [List.nil_append, inIx, List.length_nil]
    by_cases hx : x.kd = 1 <;> simp [hx]
  | y :: r, x => by
    have ih := inIx_snoc r x
    have h2 := inIx_ge r
    rw [List.cons_append, inIx, inIx]
    by_cases hy : y.kd = 1
    · rw [if_pos hy, if_pos hy, if_neg (by omega)]
    · rw [if_neg hy, if_neg hy, ih]
      by_cases h3 : inIx r = -1
      · rw [if_pos h3, if_pos h3, if_pos rfl]
        by_cases hx : x.kd = 1
        · rw [if_pos hx, if_pos hx, if_neg (by omega), List.length_cons]; omega
        · rw [if_neg hx, if_neg hx, if_pos rfl]
      · rw [if_neg h3, if_neg h3, if_neg (by omega)]

theorem wtF_append : ∀ (i : Nat) (a b : List Nd), wtF i (a ++ b) = wtF i a ++ wtF (i + a.length) b
  | i, [], b => by simp [wtF]
  | i, y :: r, b => by
    rw [List.cons_append, wtF, wtF, wtF_append (i + 1) r b, List.length_cons, show i + 1 + r.length = i + (r.length + 1) by omega]
    split <;> simp

/-- Where a weight stands among the weights. -/
theorem wt_at {ns : List Nd} {k : Nat} {x : Nd} (h : ns[k]? = some x) (hx : x.kd = 2) : (wtF 0 (ns.take k)).length < (wtF 0 ns).length ∧ (wtF 0 ns).getD (wtF 0 (ns.take k)).length 0 = (k : Int) := by
  obtain ⟨hl, he⟩ := List.getElem?_eq_some_iff.1 h
  have e : ns.drop k = x :: ns.drop (k + 1) := by rw [List.drop_eq_getElem_cons hl, he]
  have h1 : wtF 0 ns = wtF 0 (ns.take k) ++ ((k : Int) :: wtF (k + 1) (ns.drop (k + 1))) := by
    have h2 := wtF_append 0 (ns.take k) (ns.drop k)
    rw [List.take_append_drop, e, wtF, if_pos hx, List.length_take, Nat.min_eq_left (by omega), Nat.zero_add] at h2
    exact h2
  rw [h1]
  refine ⟨by simp, ?_⟩
  simp [List.getD]

theorem wt_snoc {ns : List Nd} {k : Nat} {x : Nd} (h : ns[k]? = some x) : (wtF 0 (ns.take (k + 1))).length = (wtF 0 (ns.take k)).length + (if x.kd = 2 then 1 else 0) := by
  rw [take_oneN h, wtF_snoc]
  split <;> simp

theorem in_snoc {ns : List Nd} {k : Nat} {x : Nd} (h : ns[k]? = some x) : inIx (ns.take (k + 1)) = if inIx (ns.take k) = -1 then (if x.kd = 1 then (k : Int) else -1) else inIx (ns.take k) := by
  have hl := (List.getElem?_eq_some_iff.1 h).1
  rw [take_oneN h, inIx_snoc, List.length_take, Nat.min_eq_left (by omega)]

/-- One input alone. -/
theorem may_input {ns : List Nd} {k : Nat} {x : Nd} (hb : gphB ns = true) (h : ns[k]? = some x) (hx : x.kd = 1) : inIx (ns.take k) = -1 := by
  obtain ⟨he, _⟩ := gphB_parts hb
  obtain ⟨e1, e2, e3, e4⟩ := endsOk_parts he
  rw [inIx_take]
  by_cases hf : inIx ns < (k : Int)
  · exfalso
    have h3 := inIx_ge (ns.drop ((inIx ns).toNat + 1))
    have h4 : inIx (ns.drop ((inIx ns).toNat + 1)) = -1 := by omega
    refine inIx_neg _ h4 x (List.mem_of_getElem? (i := k - ((inIx ns).toNat + 1)) ?_) hx
    rw [List.getElem?_drop, show (inIx ns).toNat + 1 + (k - ((inIx ns).toNat + 1)) = k by omega]
    exact h
  · rw [if_neg (by omega)]

/-- Each node of a graph that may be fits. -/
theorem allSh_fit {ns : List Nd} {ts : List (List Int)} {k : Nat} {x : Nd} (h : allSh ns [] = some ts) (hx : ns[k]? = some x) : fitN x (ts.take k) = true ∧ ts[k]? = some (shN x (ts.take k)) := by
  have hl := (List.getElem?_eq_some_iff.1 hx).1
  have h1 := allSh_take h k (by omega)
  have hf : fitN x (ts.take k) = true := by
    cases hf : fitN x (ts.take k) with
    | true => rfl
    | false => rw [allSh_stop h1 hx hf] at h; cases h
  refine ⟨hf, ?_⟩
  have h2 := allSh_take h (k + 1) (by omega)
  rw [allSh_next h1 hx hf] at h2
  injection h2 with h2
  have hlt := allSh_len h
  have h3 : (ts.take (k + 1))[k]? = ts[k]? := by rw [List.getElem?_take, if_pos (by omega)]
  rw [← h3, ← h2, List.getElem?_append_right (by rw [List.length_take]; omega), List.length_take, Nat.min_eq_left (by omega), Nat.sub_self]
  rfl

theorem may_fit {ns : List Nd} {k : Nat} {x : Nd} (hb : gphB ns = true) (hx : ns[k]? = some x) : fitN x ((gphS ns).take k) = true ∧ (gphS ns)[k]? = some (shN x ((gphS ns).take k)) := by
  obtain ⟨_, ss, hs, e⟩ := gphB_parts hb
  rw [e]
  exact allSh_fit hs hx

theorem fit_none {x : Nd} {ss : List (List Int)} (h : fitN x ss = true) : x.xs.length = 0 ↔ (x.kd = 2 ∨ x.kd = 1) := by
  obtain ⟨h1, h2, _, _⟩ := fitN_parts h
  obtain ⟨h3, _⟩ := alw_parts h2
  obtain ⟨d, hd⟩ := Int.eq_ofNat_of_zero_le (show 0 ≤ x.kd by omega)
  rw [hd, Int.toNat_natCast] at h3
  rw [hd]
  rw [hd] at h1
  have h1' : 1 ≤ d ∧ d ≤ 13 := by omega
  clear h1 h2 hd
  match d, h1' with
  | 1, _ => simp only [rlT] at h3; omega
  | 2, _ => simp only [rlT] at h3; omega
  | 3, _ => simp only [rlT] at h3; omega
  | 4, _ => simp only [rlT] at h3; omega
  | 5, _ => simp only [rlT] at h3; omega
  | 6, _ => simp only [rlT] at h3; omega
  | 7, _ => simp only [rlT] at h3; omega
  | 8, _ => simp only [rlT] at h3; omega
  | 9, _ => simp only [rlT] at h3; omega
  | 10, _ => simp only [rlT] at h3; omega
  | 11, _ => simp only [rlT] at h3; omega
  | 12, _ => simp only [rlT] at h3; omega
  | 13, _ => simp only [rlT] at h3; omega

end

section
open Go.RowKit
set_option linter.unusedVariables false
set_option linter.unusedSimpArgs false
set_option maxRecDepth 100000

/-- What node i takes in. -/
def insN (ns : List Nd) (i : Nat) : List Int := match ns[i]? with
  | some x => x.xs
  | none => []

theorem insN_at {ns : List Nd} {i : Nat} {x : Nd} (h : ns[i]? = some x) : insN ns i = x.xs := by rw [insN, h]

theorem insN_append {ns : List Nd} {i : Nat} (x : Nd) (h : i < ns.length) : insN (ns ++ [x]) i = insN ns i := by
  unfold insN
  rw [List.getElem?_append_left h]

theorem insN_last (ns : List Nd) (x : Nd) : insN (ns ++ [x]) ns.length = x.xs := by
  unfold insN
  rw [List.getElem?_append_right (Nat.le_refl _), Nat.sub_self]
  rfl

/-- All that node i needs: itself, and what these take in. -/
def Need (ns : List Nd) (i j : Nat) : Prop := ∀ S : Nat → Prop, S i → (∀ k l : Nat, S k → (l : Int) ∈ insN ns k → S l) → S j

theorem Need.refl (ns : List Nd) (i : Nat) : Need ns i i := fun _ h _ => h

theorem Need.step {ns : List Nd} {i k j : Nat} (h : Need ns i k) (hj : (j : Int) ∈ insN ns k) : Need ns i j := fun S h0 hs => hs k j (h S h0 hs) hj

theorem Need.trans {ns : List Nd} {i k j : Nat} (h1 : Need ns i k) (h2 : Need ns k j) : Need ns i j := fun S h0 hs => h2 S (h1 S h0 hs) hs

/-- Each takes in only what stands ahead. -/
def Vld (ns : List Nd) : Prop := ∀ (k : Nat) (x : Int), x ∈ insN ns k → 0 ≤ x ∧ x < (k : Int)

theorem vld_of {ns : List Nd} (h : gphB ns = true) : Vld ns := by
  intro k x hx
  unfold insN at hx
  split at hx
  · rename_i y hy
    have h1 := (fitN_parts (may_fit h hy).1).2.2.1
    have hl : ((gphS ns).take k).length ≤ k := by rw [List.length_take]; omega
    rw [allKn, List.all_eq_true] at h1
    have h2 := h1 x hx
    simp only [Bool.and_eq_true, decide_eq_true_eq] at h2
    omega
  · cases hx

theorem Need.le {ns : List Nd} (hv : Vld ns) {i j : Nat} (h : Need ns i j) : j ≤ i := by
  refine h (fun j => j ≤ i) (Nat.le_refl _) ?_
  intro k l hk hl
  have := hv k _ hl
  omega

theorem Need.pred {ns : List Nd} {i j : Nat} (h : Need ns i j) : j = i ∨ ∃ k, Need ns i k ∧ (j : Int) ∈ insN ns k := by
  refine (h (fun j => Need ns i j ∧ (j = i ∨ ∃ k, Need ns i k ∧ (j : Int) ∈ insN ns k)) ⟨Need.refl _ _, .inl rfl⟩ ?_).2
  intro k l hk hl
  exact ⟨hk.1.step hl, .inr ⟨k, hk.1, hl⟩⟩

/-- The list of what node i needs, ascending. -/
def IsNeed (ns : List Nd) (i : Nat) (L : List Int) : Prop := ∃ mk : Nat → Bool, (∀ j, mk j = true ↔ Need ns i j) ∧ L = ((List.range (i + 1)).filter mk).map (fun j : Nat => (j : Int))

theorem IsNeed.uniq {ns : List Nd} {i : Nat} {L M : List Int} (h : IsNeed ns i L) (k : IsNeed ns i M) : L = M := by
  obtain ⟨m1, h1, rfl⟩ := h
  obtain ⟨m2, h2, rfl⟩ := k
  have : m1 = m2 := by
    funext j
    have := (h1 j).trans (h2 j).symm
    cases e1 : m1 j <;> cases e2 : m2 j <;> simp_all
  rw [this]

theorem IsNeed.mem {ns : List Nd} {i : Nat} {L : List Int} (h : IsNeed ns i L) (hv : Vld ns) (z : Int) : z ∈ L ↔ ∃ j : Nat, z = (j : Int) ∧ Need ns i j := by
  obtain ⟨mk, h1, rfl⟩ := h
  simp only [List.mem_map, List.mem_filter, List.mem_range]
  constructor
  · rintro ⟨j, ⟨hj, hm⟩, rfl⟩
    exact ⟨j, rfl, (h1 j).1 hm⟩
  · rintro ⟨j, rfl, hn⟩
    exact ⟨j, ⟨by have := hn.le hv; omega, (h1 j).2 hn⟩, rfl⟩

theorem IsNeed.asc {ns : List Nd} {i : Nat} {L : List Int} (h : IsNeed ns i L) : L.Pairwise (· < ·) := by
  obtain ⟨mk, h1, rfl⟩ := h
  rw [List.pairwise_map]
  have h := (List.pairwise_lt_range (n := i + 1)).filter mk
  exact h.imp (fun h => by omega)

theorem IsNeed.last {ns : List Nd} {i : Nat} {L : List Int} (h : IsNeed ns i L) : ∃ L0, L = L0 ++ [(i : Int)] := by
  obtain ⟨mk, h1, rfl⟩ := h
  have hm : mk i = true := (h1 i).2 (Need.refl _ _)
  refine ⟨((List.range i).filter mk).map (fun j : Nat => (j : Int)), ?_⟩
  rw [List.range_succ, List.filter_append, List.map_append]
  simp [hm]

theorem IsNeed.len {ns : List Nd} {i : Nat} {L : List Int} (h : IsNeed ns i L) : 1 ≤ L.length ∧ L.length ≤ i + 1 := by
  obtain ⟨L0, e⟩ := h.last
  refine ⟨by rw [e]; simp, ?_⟩
  obtain ⟨mk, h1, rfl⟩ := h
  rw [List.length_map]
  have := List.length_filter_le mk (List.range (i + 1))
  rw [List.length_range] at this
  exact this

/-- In a list that ascends, what is less stands ahead. -/
theorem asc_ahead {L : List Int} (h : L.Pairwise (· < ·)) {i : Nat} {y z : Int} (hz : L[i]? = some z) (hy : y ∈ L) (hlt : y < z) : y ∈ L.take i := by
  obtain ⟨k, hk⟩ := List.mem_iff_getElem?.1 hy
  refine List.mem_iff_getElem?.2 ⟨k, ?_⟩
  have hki : k < i := by
    rcases Nat.lt_or_ge k i with h1 | h1
    · exact h1
    · exfalso
      obtain ⟨hk1, hk2⟩ := List.getElem?_eq_some_iff.1 hk
      obtain ⟨hi1, hi2⟩ := List.getElem?_eq_some_iff.1 hz
      rcases Nat.lt_or_ge i k with h2 | h2
      · have := List.pairwise_iff_getElem.1 h i k hi1 hk1 h2
        omega
      · have : i = k := by omega
        subst this
        omega
  rw [List.getElem?_take, if_pos hki]
  exact hk

theorem asc_behind {L : List Int} (h : L.Pairwise (· < ·)) {i : Nat} {y z : Int} (hz : L[i]? = some z) (hy : y ∈ L) (hlt : z < y) : ∃ k, i < k ∧ L[k]? = some y := by
  obtain ⟨k, hk⟩ := List.mem_iff_getElem?.1 hy
  refine ⟨k, ?_, hk⟩
  obtain ⟨hk1, hk2⟩ := List.getElem?_eq_some_iff.1 hk
  obtain ⟨hi1, hi2⟩ := List.getElem?_eq_some_iff.1 hz
  rcases Nat.lt_or_ge i k with h2 | h2
  · exact h2
  · exfalso
    rcases Nat.lt_or_ge k i with h3 | h3
    · have := List.pairwise_iff_getElem.1 h k i hk1 hi1 h3
      omega
    · have : i = k := by omega
      subst this
      omega

/-- With a node more, that takes in k alone. -/
theorem need_more {ns : List Nd} {x : Nd} {k j : Nat} (hx : x.xs = [(k : Int)]) (hv : Vld ns) (hk : k < ns.length) : Need (ns ++ [x]) ns.length j ↔ j = ns.length ∨ Need ns k j := by
  constructor
  · intro h
    refine h (fun j => j = ns.length ∨ Need ns k j) (.inl rfl) ?_
    intro a b ha hb
    rcases ha with rfl | ha
    · rw [insN_last, hx, List.mem_singleton] at hb
      obtain rfl : b = k := by omega
      exact .inr (Need.refl _ _)
    · have := ha.le hv
      rw [insN_append x (by omega)] at hb
      exact .inr (ha.step hb)
  · rintro (rfl | h)
    · exact Need.refl _ _
    · have h1 : Need (ns ++ [x]) ns.length k := (Need.refl _ _).step (by rw [insN_last, hx]; exact List.mem_singleton.2 rfl)
      refine (h (fun j => j ≤ k ∧ Need (ns ++ [x]) ns.length j) ⟨Nat.le_refl _, h1⟩ ?_).2
      intro a b ha hb
      have := hv a _ hb
      refine ⟨by omega, ha.2.step ?_⟩
      rw [insN_append x (by omega)]
      exact hb

theorem filter_less (mk : Nat → Bool) (k n : Nat) (hk : k ≤ n) (h : ∀ j, k ≤ j → j < n → mk j = false) : (List.range n).filter mk = (List.range k).filter mk := by
  obtain ⟨d, rfl⟩ : ∃ d, n = k + d := ⟨n - k, by omega⟩
  rw [List.range_add, List.filter_append]
  have : (List.map (fun x => k + x) (List.range d)).filter mk = [] := by
    rw [List.filter_eq_nil_iff]
    intro a ha
    simp only [List.mem_map, List.mem_range] at ha
    obtain ⟨b, hb, rfl⟩ := ha
    rw [h (k + b) (by omega) (by omega)]
    simp
  rw [this, List.append_nil]

theorem isNeed_more {ns : List Nd} {x : Nd} {k : Nat} {L : List Int} (hx : x.xs = [(k : Int)]) (hv : Vld ns) (hk : k < ns.length) (h : IsNeed (ns ++ [x]) ns.length L) : ∃ L0, L = L0 ++ [(ns.length : Int)] ∧ IsNeed ns k L0 := by
  obtain ⟨mk, h1, rfl⟩ := h
  have hm : mk ns.length = true := (h1 _).2 (Need.refl _ _)
  obtain ⟨mk2, hmk2⟩ : ∃ m : Nat → Bool, m = fun j => if j < ns.length then mk j else false := ⟨_, rfl⟩
  have h2 : ∀ j, mk2 j = true ↔ Need ns k j := by
    intro j
    rw [hmk2]
    dsimp only
    split
    · rename_i hj
      rw [h1 j, need_more hx hv hk]
      constructor
      · rintro (h | h)
        · omega
        · exact h
      · exact .inr
    · rename_i hj
      constructor
      · intro h; cases h
      · intro h
        have := h.le hv
        omega
  refine ⟨((List.range (k + 1)).filter mk2).map (fun j : Nat => (j : Int)), ?_, mk2, h2, rfl⟩
  rw [← filter_less mk2 (k + 1) ns.length (by omega) (fun j hj hjn => by
    cases e : mk2 j with
    | false => rfl
    | true => have := ((h2 j).1 e).le hv; omega)]
  rw [List.range_succ, List.filter_append, List.map_append]
  have e : (List.range ns.length).filter mk = (List.range ns.length).filter mk2 := by
    apply List.filter_congr
    intro a ha
    rw [List.mem_range] at ha
    rw [hmk2]
    dsimp only
    rw [if_pos ha]
  rw [e]
  simp [hm]

/-- Where in an order, its items counted from p on, node j is taken in first: -1 for nowhere. -/
def nxF (ns : List Nd) : List Int → Nat → Nat → Int
  | [], _, _ => -1
  | o :: r, p, j => if (j : Int) ∈ insN ns o.toNat then (p : Int) else nxF ns r (p + 1) j

theorem nxF_range (ns : List Nd) : ∀ (l : List Int) (p j : Nat), nxF ns l p j = -1 ∨ ((p : Int) ≤ nxF ns l p j ∧ nxF ns l p j < ((p + l.length : Nat) : Int))
  | [], p, j => .inl rfl
  | o :: r, p, j => by
    have ih := nxF_range ns r (p + 1) j
    rw [nxF, List.length_cons]
    split
    · right; omega
    · rcases ih with h | h
      · exact .inl h
      · right; omega

theorem nxF_none (ns : List Nd) : ∀ (l : List Int) (p j : Nat), nxF ns l p j = -1 ↔ ∀ o ∈ l, (j : Int) ∉ insN ns o.toNat
  | [], p, j => by simp [nxF]
  | o :: r, p, j => by
    have ih := nxF_none ns r (p + 1) j
    rw [nxF]
    by_cases h : (j : Int) ∈ insN ns o.toNat
    · rw [if_pos h]
      constructor
      · intro h2; omega
      · intro h2; exact absurd h (h2 o (List.mem_cons_self ..))
    · rw [if_neg h, ih]
      simp [h]

theorem nxF_at (ns : List Nd) : ∀ (l : List Int) (p j q : Nat) (o : Int), l[q]? = some o → (j : Int) ∈ insN ns o.toNat → (∀ i z, i < q → l[i]? = some z → (j : Int) ∉ insN ns z.toNat) → nxF ns l p j = ((p + q : Nat) : Int)
  | [], p, j, q, o, h, _, _ => by simp at h
  | z :: r, p, j, 0, o, h, hj, _ => by
    simp at h
    subst h
    rw [nxF, if_pos hj]
    rfl
  | z :: r, p, j, q + 1, o, h, hj, hn => by
    rw [nxF, if_neg (hn 0 z (by omega) rfl), nxF_at ns r (p + 1) j q o (by simpa using h) hj (fun i y hi hy => hn (i + 1) y (by omega) (by simpa using hy))]
    omega

/-- How often the nodes of an order take node j in. -/
def usF (ns : List Nd) : List Int → Nat → Nat
  | [], _ => 0
  | o :: r, j => (insN ns o.toNat).count (j : Int) + usF ns r j

theorem usF_append (ns : List Nd) : ∀ (a b : List Int) (j : Nat), usF ns (a ++ b) j = usF ns a j + usF ns b j
  | [], b, j => by simp [usF]
  | o :: r, b, j => by rw [List.cons_append, usF, usF, usF_append ns r b j]; omega

theorem usF_rev (ns : List Nd) : ∀ (l : List Int) (j : Nat), usF ns l.reverse j = usF ns l j
  | [], j => rfl
  | o :: r, j => by
    rw [List.reverse_cons, usF_append, usF_rev ns r j]
    simp only [usF]
    omega

theorem usF_zero (ns : List Nd) : ∀ (l : List Int) (j : Nat), usF ns l j = 0 ↔ ∀ o ∈ l, (j : Int) ∉ insN ns o.toNat
  | [], j => by simp [usF]
  | o :: r, j => by
    have ih := usF_zero ns r j
    rw [usF, Nat.add_eq_zero_iff, ih, List.count_eq_zero]
    simp

theorem usF_nx (ns : List Nd) (l : List Int) (p j : Nat) : 0 < usF ns l j ↔ 0 ≤ nxF ns l p j := by
  have h1 := usF_zero ns l j
  have h2 := nxF_none ns l p j
  have h3 := nxF_range ns l p j
  have h4 : usF ns l j = 0 ↔ nxF ns l p j = -1 := h1.trans h2.symm
  omega

theorem usF_one (ns : List Nd) : ∀ (l : List Int) (j : Nat), usF ns l j = 1 → ∃ (q : Nat) (o : Int), l[q]? = some o ∧ (j : Int) ∈ insN ns o.toNat ∧ ∀ (i : Nat) (z : Int), l[i]? = some z → (j : Int) ∈ insN ns z.toNat → i = q
  | [], j, h => by simp [usF] at h
  | o :: r, j, h => by
    rw [usF] at h
    by_cases ho : (j : Int) ∈ insN ns o.toNat
    · have h1 := List.count_pos_iff.2 ho
      have h2 : usF ns r j = 0 := by omega
      rw [usF_zero] at h2
      refine ⟨0, o, rfl, ho, ?_⟩
      intro i z hi hz
      match i, hi with
      | 0, _ => rfl
      | i + 1, hi =>
        exfalso
        exact h2 z (List.mem_of_getElem? (by simpa using hi)) hz
    · have h1 : (insN ns o.toNat).count (j : Int) = 0 := List.count_eq_zero.2 ho
      obtain ⟨q, y, hq, hy, hu⟩ := usF_one ns r j (by omega)
      refine ⟨q + 1, y, by simpa using hq, hy, ?_⟩
      intro i z hi hz
      match i, hi with
      | 0, hi =>
        simp at hi
        subst hi
        exact absurd hz ho
      | i + 1, hi => rw [hu i z (by simpa using hi) hz]

theorem nx_rev (ns : List Nd) (l : List Int) (j : Nat) (h : usF ns l j = 1) : nxF ns l 0 j + nxF ns l.reverse 0 j = (l.length : Int) - 1 := by
  obtain ⟨q, o, hq, ho, hu⟩ := usF_one ns l j h
  have hql := (List.getElem?_eq_some_iff.1 hq).1
  rw [nxF_at ns l 0 j q o hq ho (fun i z hi hz hm => by have := hu i z hz hm; omega)]
  have hr : ∀ i, i < l.length → l.reverse[i]? = l[l.length - 1 - i]? := fun i hi => List.getElem?_reverse hi
  rw [nxF_at ns l.reverse 0 j (l.length - 1 - q) o (by rw [hr _ (by omega), show l.length - 1 - (l.length - 1 - q) = q by omega]; exact hq) ho (fun i z hi hz hm => by
    have hil := (List.getElem?_eq_some_iff.1 hz).1
    rw [List.length_reverse] at hil
    rw [hr _ hil] at hz
    have := hu _ z hz hm
    omega)]
  omega

/-- The sum of numbers. -/
def totN (f : Nat → Nat) : Nat → Nat
  | 0 => 0
  | n + 1 => totN f n + f n

theorem totN_add (f g : Nat → Nat) : ∀ n, totN (fun j => f j + g j) n = totN f n + totN g n
  | 0 => rfl
  | n + 1 => by rw [totN, totN, totN, totN_add f g n]; omega

theorem totN_zero : ∀ n, totN (fun _ => 0) n = 0
  | 0 => rfl
  | n + 1 => by rw [totN, totN_zero n]

theorem totN_one (k : Nat) : ∀ n, totN (fun j => if k = j then 1 else 0) n = if k < n then 1 else 0
  | 0 => rfl
  | n + 1 => by
    rw [totN, totN_one k n]
    by_cases h1 : k < n
    · rw [if_pos h1, if_neg (by omega), if_pos (by omega)]
    · by_cases h2 : k = n
      · rw [if_neg h1, if_pos h2, if_pos (by omega)]
      · rw [if_neg h1, if_neg h2, if_neg (by omega)]

theorem totN_le (f g : Nat → Nat) : ∀ n, (∀ j, j < n → f j = g j) → totN f n = totN g n
  | 0, _ => rfl
  | n + 1, h => by rw [totN, totN, totN_le f g n (fun j hj => h j (by omega)), h n (by omega)]

theorem tot_count : ∀ (l : List Int) (n : Nat), (∀ x ∈ l, 0 ≤ x ∧ x < (n : Int)) → totN (fun j => l.count (j : Int)) n = l.length
  | [], n, _ => by
    have : (fun j : Nat => ([] : List Int).count (j : Int)) = fun _ => 0 := by funext j; simp
    rw [this, totN_zero]; rfl
  | x :: r, n, h => by
    have ih := tot_count r n (fun y hy => h y (List.mem_cons_of_mem _ hy))
    obtain ⟨h1, h2⟩ := h x (List.mem_cons_self ..)
    obtain ⟨k, rfl⟩ := Int.eq_ofNat_of_zero_le h1
    have e : (fun j : Nat => ((k : Int) :: r).count (j : Int)) = fun j => (if k = j then 1 else 0) + r.count (j : Int) := by
      funext j
      rw [List.count_cons]
      by_cases hk : k = j
      · subst hk; simp; omega
      · rw [if_neg hk, if_neg (by simpa using (fun h : (k : Int) = (j : Int) => hk (by omega)))]; omega
    rw [e, totN_add (fun j => if k = j then 1 else 0) (fun j => r.count (j : Int)), ih, totN_one, if_pos (by omega), List.length_cons]
    omega

/-- How many inputs the nodes of an order have. -/
def lenF (ns : List Nd) : List Int → Nat
  | [] => 0
  | o :: r => (insN ns o.toNat).length + lenF ns r

theorem tot_us (ns : List Nd) (n : Nat) : ∀ (l : List Int), (∀ o ∈ l, ∀ x ∈ insN ns o.toNat, 0 ≤ x ∧ x < (n : Int)) → totN (fun j => usF ns l j) n = lenF ns l
  | [], _ => totN_zero n
  | o :: r, h => by
    have e : (fun j : Nat => usF ns (o :: r) j) = fun j : Nat => (insN ns o.toNat).count (j : Int) + usF ns r j := rfl
    rw [e, totN_add (fun j : Nat => (insN ns o.toNat).count (j : Int)) (fun j : Nat => usF ns r j), tot_count _ n (h o (List.mem_cons_self ..)), tot_us ns n r (fun z hz => h z (List.mem_cons_of_mem _ hz))]
    rfl

theorem lenF_append (ns : List Nd) : ∀ a b : List Int, lenF ns (a ++ b) = lenF ns a + lenF ns b
  | [], b => by simp [lenF]
  | o :: r, b => by rw [List.cons_append, lenF, lenF, lenF_append ns r b]; omega

/-- Whether a list is an order of a graph. -/
def ordB (ns : List Nd) (l : List Int) : Bool := gphB ns && decide (l.length ≤ ns.length) && l.all (fun o => decide (0 ≤ o) && decide (o < (ns.length : Int))) && decide l.Nodup

theorem ordB_parts {ns : List Nd} {l : List Int} : ordB ns l = true ↔ gphB ns = true ∧ l.length ≤ ns.length ∧ (∀ o ∈ l, 0 ≤ o ∧ o < (ns.length : Int)) ∧ l.Nodup := by
  simp only [ordB, Bool.and_eq_true, List.all_eq_true, decide_eq_true_eq]
  constructor
  · rintro ⟨⟨⟨h1, h2⟩, h3⟩, h4⟩
    exact ⟨h1, h2, h3, h4⟩
  · rintro ⟨h1, h2, h3, h4⟩
    exact ⟨⟨⟨h1, h2⟩, h3⟩, h4⟩

theorem ordB_sub {ns : List Nd} {l m : List Int} (h : ordB ns l = true) (hs : m.Sublist l) : ordB ns m = true := by
  rw [ordB_parts] at h ⊢
  exact ⟨h.1, Nat.le_trans hs.length_le h.2.1, fun o ho => h.2.2.1 o (hs.subset ho), h.2.2.2.sublist hs⟩

theorem ordB_rev (ns : List Nd) (l : List Int) : ordB ns l.reverse = ordB ns l := by
  rw [Bool.eq_iff_iff, ordB_parts, ordB_parts]
  have h : l.reverse.Nodup ↔ l.Nodup := by
    unfold List.Nodup
    rw [List.pairwise_reverse]
    constructor <;> exact fun h => h.imp (fun h e => h e.symm)
  simp only [List.length_reverse, List.mem_reverse, h]

/-- What Next answers, and Uses. -/
def nxL (ns : List Nd) (l : List Int) (p : Nat) : List Int := (List.range (ns.length - 1)).map (fun j => nxF ns (l.drop p) p j) ++ [(l.length : Int)]

def usL (ns : List Nd) (l : List Int) : List Int := (List.range ns.length).map (fun j => (usF ns l j : Int))

theorem usL_len (ns : List Nd) (l : List Int) : (usL ns l).length = ns.length := by simp [usL]

theorem usL_at {ns : List Nd} {l : List Int} {j : Nat} (h : j < ns.length) : (usL ns l)[j]? = some (usF ns l j : Int) := by
  rw [usL, List.getElem?_map, List.getElem?_range h]; rfl

theorem nxL_len {ns : List Nd} (l : List Int) (p : Nat) (h : 1 ≤ ns.length) : (nxL ns l p).length = ns.length := by simp [nxL]; omega

theorem nxL_at {ns : List Nd} {l : List Int} {p j : Nat} (h : j < ns.length - 1) : (nxL ns l p)[j]? = some (nxF ns (l.drop p) p j) := by
  rw [nxL, List.getElem?_append_left (by simpa using h), List.getElem?_map, List.getElem?_range h]; rfl

theorem nxL_last (ns : List Nd) (l : List Int) (p : Nat) : (nxL ns l p)[ns.length - 1]? = some (l.length : Int) := by
  rw [nxL, List.getElem?_append_right (by simp)]
  simp

theorem nx_next (ns : List Nd) (l : List Int) (p j : Nat) (o : Int) (h : l[p]? = some o) : nxF ns (l.drop p) p j = if (j : Int) ∈ insN ns o.toNat then (p : Int) else nxF ns (l.drop (p + 1)) (p + 1) j := by
  obtain ⟨h1, h2⟩ := List.getElem?_eq_some_iff.1 h
  rw [List.drop_eq_getElem_cons h1, h2, nxF]

theorem usF_le (ns : List Nd) : ∀ (l : List Int) (j : Nat), usF ns l j ≤ lenF ns l
  | [], j => Nat.le_refl _
  | o :: r, j => by
    have := usF_le ns r j
    have := List.count_le_length (a := (j : Int)) (l := insN ns o.toNat)
    rw [usF, lenF]
    omega

end

section
open Go.RowKit
set_option linter.unusedVariables false
set_option linter.unusedSimpArgs false
set_option maxRecDepth 100000

theorem lv_one : ∀ k : Nat, (lv k).oneCell' = true
  | 0 => rfl
  | 1 => rfl
  | _ + 2 => rfl

/-- Each rule's function is entered. -/
theorem rl_call (k : Nat) (h1 : 1 ≤ k) (h13 : k ≤ 13) (args : Array Value) (u : World) : (callFunc (rlT k).f args).run Try.prog u = .ok (.enter (rlT k).f args) u := by
  match k, h1, h13 with
  | 1, _, _ => exact Try.call38 args u
  | 2, _, _ => exact Try.call38 args u
  | 3, _, _ => exact Try.call39 args u
  | 4, _, _ => exact Try.call39 args u
  | 5, _, _ => exact Try.call40 args u
  | 6, _, _ => exact Try.call40 args u
  | 7, _, _ => exact Try.call41 args u
  | 8, _, _ => exact Try.call42 args u
  | 9, _, _ => exact Try.call43 args u
  | 10, _, _ => exact Try.call44 args u
  | 11, _, _ => exact Try.call46 args u
  | 12, _, _ => exact Try.call47 args u
  | 13, _, _ => exact Try.call48 args u

/-- What Shapes answers. -/
def ShAns (w : World) (ns : List Nd) (E : Int) (e : Ending) (w' : World) : Prop := ∃ R m kc gs, e = .returned (.tuple #[.slice R m kc, .int .i64 E]) ∧ Grd w' w.heap.size R m kc gs ∧ gs.map Sg.s = gphS ns ∧ Below w.heap.size w w'

set_option maxHeartbeats 8000000 in
theorem gshapes_any (A : Option Addr) (n c : Nat) (ns : List Nd) (w : World) (h : NsIn w A n ns) (hn : n ≤ 1073741824) (hc : n ≤ c) :
    Calls Try.prog 24 #[.agg #[.slice A n c]] w fun e w' => ShAns w ns (gphE ns) e w' := by
  obtain ⟨W0, hW0⟩ : ∃ W0, W0 = w.alloc (.cells #[.slice A n c] 24) := ⟨_, rfl⟩
  have HB0 : Hid (Below w.heap.size w W0) := hide (by rw [hW0]; exact below_al6 (Below.refl _ _))
  have HG : Hid (∀ v, Below W0.heap.size W0 v → v.cell? ⟨w.heap.size, 0, none⟩ = some (.slice A n c)) := hide (fun v hv => by
    have h : W0.heap[w.heap.size]? = some (.cells #[.slice A n c] 24 (0, 0)) := by rw [hW0]; exact heap_alloc_new w _
    exact cell_of_row _ _ 0 _ _ (0, 0) ((hv.block _ (lt_of_heap h)).trans h))
  have HN := hide (h.below HB0.out)
  have HL : Hid (ns.length = n) := hide h.1
  have HE := hide (hasEnds_any A n c ns W0 HN.out hn hc)
  obtain ⟨E, hE⟩ : ∃ z, z = gphE ns := ⟨_, rfl⟩
  rw [← hE]
  have HEE := hide hE
  have c0 := HG.out W0 (Below.refl _ _)
  have hW0' := hW0.symm
  clear hW0 h hE
  obtain ⟨i0, hi, hz0, hz1, hz2⟩ := info_parts infoS10
  have HI := hide hi
  have HZ0 := hide hz0
  have HZ1 := hide hz1
  have HZ2 := hide hz2
  clear hi hz0 hz1 hz2
  go_enter Try.func24, Try.ntmps24
  go_wp2_with fail
  refine Calls.mono HE.out ?_
  rintro e w1 ⟨rfl, hb⟩
  have HB1 := hide (below_nx6 (Below.refl _ _) hb)
  clear hb HE c0
  obtain ⟨B, hB⟩ : ∃ z, z = endsOk ns := ⟨_, rfl⟩
  rw [← hB]
  have HBE := hide hB
  clear hB
  cases B with
  | false =>
    have hb : gphB ns = false := by rw [gphB, ← HBE.out]; rfl
    obtain rfl : E = 1 := by rw [HEE.out, gphE, hb]; rfl
    have HF := hide (gphS_no hb)
    clear hb
    go_wp2
    go_ret2
    exact ⟨none, 0, 0, [], rfl, Grd.nil _ _, HF.out.symm, below_nx6 HB0.out HB1.out⟩
  | true =>
  have h32 : n ≤ 32 := by have h := (endsOk_parts HBE.out.symm).1; rw [HL.out] at h; exact h
  obtain ⟨V, hV⟩ : ∃ V, V = w1.alloc (.cells #[.slice none 0 0] 62) := ⟨_, rfl⟩
  obtain ⟨p, hp⟩ : ∃ p, p = w1.heap.size := ⟨_, rfl⟩
  have hBV : Below w.heap.size w V := by rw [hV]; exact below_al6 (below_nx6 HB0.out HB1.out)
  have hKV : V.heap[p]? = some (.cells #[.slice none 0 0] 62 (0, 0)) := by rw [hV, hp]; exact heap_alloc_new w1 _
  have HBV := hide hBV
  have HKV := hide hKV
  have HSV : Hid (V.heap.size = p + 1 ∧ w.heap.size ≤ p ∧ W0.heap.size ≤ p) := hide ⟨by rw [hV, hp]; simp, by rw [hp]; exact (below_nx6 HB0.out HB1.out).size, by rw [hp]; exact HB1.out.size⟩
  have HBV0 : Hid (Below W0.heap.size W0 V) := hide (by rw [hV]; exact below_al6 HB1.out)
  have hV' := hV.symm
  have hp' := hp.symm
  clear hV hBV hKV hp
  go_wp2_with fail
  refine Calls.mono (rules_any p _) ?_
  rintro e w2 ⟨b, rfl, hbz, hmb, hb⟩
  have HST : Hid (ShSt w p b (p + 1) ns 0 none 0 [] w2) := hide ⟨(hb.block p (by have := HSV.out; omega)).trans HKV.out, Grd.nil _ _, hmb, by rw [List.take_zero]; rfl, HBV.out.trans (hb.mono HBV.out.size), by have := HSV.out; have := hb.size; omega, by omega, HSV.out.2.1⟩
  have HB2 := hide (below_nx6 HBV0.out hb)
  have c0 := HG.out w2 HB2.out
  have HN2 := hide (HN.out.below HB2.out)
  clear hb hmb hbz HBV HKV HBV0 HB1
  go_wp2
  clear c0
  go_loopw [23] (fun i wr => ∃ (k : Nat) (A2 : Option Addr) (c2 : Nat) (gs : List Sg), k ≤ n ∧ i = .int .i64 k ∧ Hid (ShSt w p b (p + 1) ns k A2 c2 gs wr) ∧ Hid (Below W0.heap.size W0 wr)) (fun i _ => n - (intOf i).toNat)
  case atStart => exact ⟨0, none, 0, [], Nat.zero_le _, rfl, HST, HB2⟩
  case round =>
    obtain ⟨k, A2, c2, gs, hk, rfl, HST2, HBR⟩ := hrel
    by_cases hlt : k < n
    · obtain ⟨bA, oA, x, rfl, hxk, h0, h1, h2, h3, h4, hxo⟩ := (HN.out.below HBR.out).at hlt
      have HXK := hide hxk
      have HXO := hide hxo
      have HGL : Hid ((gs.map Sg.s).length = k) := hide (by rw [List.length_map, HST2.out.2.1.1])
      have f0 : (0 : Int) ≤ (k : Int) := by omega
      have f1 : (k : Int) < (n : Int) := by omega
      obtain ⟨W1, hW1⟩ : ∃ W1, W1 = wr.alloc (.cells #[.int .u8 x.kd, .slice x.I x.ni x.ci, .slice x.S x.ns x.cs, .int .i64 x.N, .int .i64 x.P] 33) := ⟨_, rfl⟩
      have hbw1 : Below wr.heap.size wr W1 := by rw [hW1]; exact below_al6 (Below.refl _ _)
      have HX1 : Hid (BoxN W1 wr.heap.size x) := hide (by rw [hW1]; exact BoxN.new wr x)
      have HS1 := hide (HST2.out.below hbw1)
      have HO1 := hide (HXO.out.below hbw1)
      have HBR1 := hide (below_nx6 HBR.out hbw1)
      obtain ⟨q0, q1, q2, q3, q4⟩ := HX1.out.cs
      have hW1' := hW1.symm
      clear hW1 hbw1 hxk hxo
      by_cases hkd : 1 ≤ x.kd ∧ x.kd ≤ 13
      · obtain ⟨kd, hkd'⟩ := Int.eq_ofNat_of_zero_le (show 0 ≤ x.kd by omega)
        have hk1 : 1 ≤ kd := by omega
        have hk13 : kd ≤ 13 := by omega
        have hlook := look_yes (p := p) HS1.out.2.2.1 hk1 hk13
        rw [← hkd'] at hlook
        unfold Rl.v at hlook
        obtain ⟨r, hr⟩ : ∃ r, r = rlT kd := ⟨_, rfl⟩
        rw [← hr] at hlook
        have HR := hide hr
        have HKD := hide hkd'
        have hst : ∀ (u : World) (a : Addr) (m : Mode), (store a (lv r.lk) m).run Try.prog u = stored Try.prog u a (lv r.lk) m := fun u a m => run_store Try.prog u a _ m (lv_one r.lk)
        obtain ⟨W2, hW2⟩ : ∃ W2, W2 = W1.alloc (.cells #[.int .i64 r.a, .int .i64 r.b, .int .i64 r.nl, .int .i64 r.nm, .int .i64 r.pl, .int .i64 r.pm, lv r.lk, .func (.func r.f) #[.pointer (some ⟨p, 0, none⟩)] #[]] 70) := ⟨_, rfl⟩
        have hbw2 : Below W1.heap.size W1 W2 := by rw [hW2]; exact below_al6 (Below.refl _ _)
        have HX2 := hide (HX1.out.kept hbw2)
        have HR2 : Hid (BoxR W2 W1.heap.size r p) := hide (by rw [hW2]; exact BoxR.new W1 r p)
        have HS2 := hide (HS1.out.below hbw2)
        have HO2 := hide (HO1.out.below hbw2)
        have HBR2 := hide (below_nx6 HBR1.out hbw2)
        obtain ⟨y0, y1, y2, y3, y4⟩ := HX2.out.cs
        obtain ⟨z0, z1, z2, z3, z4, z5, z6, z7⟩ := HR2.out.cs
        have hW2' := hW2.symm
        have HAL := hide (allows_any r p x W2 HO2.out)
        unfold Rl.v Nd.v at HAL
        obtain ⟨B1, hB1⟩ : ∃ z, z = alw r x := ⟨_, rfl⟩
        rw [← hB1] at HAL
        have HB1 := hide hB1
        clear hW2 hbw2 hr hkd' hB1 hkd
        go_wp2_with fail
        refine Calls.mono HAL.out ?_
        rintro e w3 ⟨rfl, hb⟩
        have HX3 := hide (HX2.out.kept hb)
        have HR3 := hide (HR2.out.kept hb)
        have HS3 := hide (HS2.out.below hb)
        have HO3 := hide (HO2.out.below hb)
        have HBR3 := hide (below_nx6 HBR2.out hb)
        clear hb HAL y0 y1 y2 y3 y4 z0 z1 z2 z3 z4 z5 z6 z7 q0 q1 q2 q3 q4 hlook hst
        obtain ⟨y0, y1, y2, y3, y4⟩ := HX3.out.cs
        obtain ⟨z0, z1, z2, z3, z4, z5, z6, z7⟩ := HR3.out.cs
        cases B1 with
        | false =>
          have hff := fitN_no (x := x) (ss := gs.map Sg.s) (fun h => by have h2 := h.2.1; rw [HKD.out, Int.toNat_natCast, ← HR.out, ← HB1.out] at h2; cases h2)
          obtain ⟨e1, e2⟩ := gph_stop HST2.out.2.2.2.1 HXK.out hff
          obtain rfl : E = 1 := by rw [HEE.out]; exact e1
          have HF := hide e2
          clear hff e1 e2
          go_wp2
          go_ret2
          exact ⟨none, 0, 0, [], rfl, Grd.nil _ _, HF.out.symm, HS3.out.2.2.2.2.1⟩
        | true =>
        have HHV := hide (have_any p A2 x.I k c2 x.ni x.ci gs x.xs w3 HS3.out.kn HO3.out.1 (by have := HO3.out.2.2.2.2.1; omega))
        obtain ⟨B2, hB2⟩ : ∃ z, z = allKn x.xs k := ⟨_, rfl⟩
        rw [← hB2] at HHV
        have HB2 := hide hB2
        clear hB2
        go_wp2_with fail
        refine Calls.mono HHV.out ?_
        rintro e w4 ⟨rfl, hb⟩
        have HX4 := hide (HX3.out.kept hb)
        have HR4 := hide (HR3.out.kept hb)
        have HS4 := hide (HS3.out.below hb)
        have HO4 := hide (HO3.out.below hb)
        have HBR4 := hide (below_nx6 HBR3.out hb)
        clear hb HHV y0 y1 y2 y3 y4 z0 z1 z2 z3 z4 z5 z6 z7
        obtain ⟨y0, y1, y2, y3, y4⟩ := HX4.out.cs
        obtain ⟨z0, z1, z2, z3, z4, z5, z6, z7⟩ := HR4.out.cs
        cases B2 with
        | false =>
          have hff := fitN_no (x := x) (ss := gs.map Sg.s) (fun h => by have h2 := h.2.2.1; rw [HGL.out, ← HB2.out] at h2; cases h2)
          obtain ⟨e1, e2⟩ := gph_stop HST2.out.2.2.2.1 HXK.out hff
          obtain rfl : E = 1 := by rw [HEE.out]; exact e1
          have HF := hide e2
          clear hff e1 e2
          go_wp2
          go_ret2
          exact ⟨none, 0, 0, [], rfl, Grd.nil _ _, HF.out.symm, HS4.out.2.2.2.2.1⟩
        | true =>
        have HKR := hide (krule_any kd p A2 k c2 gs x w4 hk1 hk13 HS4.out.kn HO4.out (by rw [← HR.out]; exact HB1.out.symm) HB2.out.symm HS4.out.pos)
        rw [← HR.out] at HKR
        unfold Nd.v at HKR
        obtain ⟨E2, hE2⟩ : ∃ z, z = nodeE x (kn gs x.xs) kd := ⟨_, rfl⟩
        rw [← hE2] at HKR
        have HE2 : Hid (E2 = nodeE x (knL (gs.map Sg.s) x.xs) x.kd.toNat) := hide (by rw [hE2, kn_map, HKD.out, Int.toNat_natCast])
        clear hE2
        have hcf := rl_call kd hk1 hk13
        rw [← HR.out] at hcf
        go_wp2_with fail
        refine Calls.mono HKR.out ?_
        rintro e w5 ⟨R5, m5, c5, rfl, ho5, hm5, hb⟩
        have HO5 := hide ho5
        have HS5 := hide (HS4.out.below hb)
        have HB5 := hide hb
        have HBR5 := hide (below_nx6 HBR4.out hb)
        clear hb HKR ho5 hcf y0 y1 y2 y3 y4 z0 z1 z2 z3 z4 z5 z6 z7
        by_cases hE0 : E2 = 0
        · subst hE0
          have HFT : Hid (fitN x (gs.map Sg.s) = true) := hide (fitN_mk (by have := HKD.out; omega) (by rw [HKD.out, Int.toNat_natCast, ← HR.out]; exact HB1.out.symm) (by rw [HGL.out]; exact HB2.out.symm) HE2.out.symm)
          have hshn : nodeS x (kn gs x.xs) kd = shN x (gs.map Sg.s) := by rw [shN, kn_map, HKD.out, Int.toNat_natCast]
          have HSH := hide hshn
          clear hshn
          have hsz5 : w4.heap.size ≤ w5.heap.size := HB5.out.size
          have hbs : p + 1 ≤ w5.heap.size := HS5.out.2.2.2.2.2.1
          have HSA : Hid (ShSt w p b (p + 1) ns k A2 c2 gs (w5.alloc (.cells #[.slice R5 m5 c5] 27))) := hide (HS5.out.below (below_al6 (Below.refl _ _)))
          have HX3 : Hid ((w5.alloc (.cells #[.slice R5 m5 c5] 27)).cell? ⟨w5.heap.size, 0, none⟩ = some (.slice R5 m5 c5)) := hide (by have h := cells_new w5 [.slice R5 m5 c5] 27 0 _ rfl; rwa [Addr.add_lit] at h)
          have HBA : Hid (Below w4.heap.size w4 (w5.alloc (.cells #[.slice R5 m5 c5] 27))) := hide (below_al6 HB5.out)
          obtain ⟨r0, r1⟩ := HS5.out.cell
          clear hsz5
          go_wp2_with (at_builtin; refine wpList_append_one rfl (.tmp 62) (.tmp 64) 48 rfl 27 i0 (.slice none 0 0) 24 Try.underlying48 HI.out HZ0.out HZ1.out HZ2.out rfl (p + 1) A2 k c2 (gs.map Sg.v) rfl HSA.out.2.1.2.1 HSA.out.2.2.2.2.2.1 ⟨w5.heap.size, 0, none⟩ (.slice R5 m5 c5) rfl HX3.out rfl (by omega) (by unfold maxLen; omega) ?_)
          intro A3 c3 w6 ho6 hm6
          obtain ⟨r2, r3⟩ := HSA.out.moved hm6
          have HNX : Hid (ShSt w p b (p + 1) ns (k + 1) A3 c3 (gs ++ [⟨R5, m5, c5, nodeS x (kn gs x.xs) kd⟩]) (w6.setCell ⟨p, 0, none⟩ (.slice A3 (k + 1) c3))) := hide (HS4.out.push (g := ⟨R5, m5, c5, nodeS x (kn gs x.xs) kd⟩) HBA.out (HO5.out.alloc _) hm5 ho6 hm6 HXK.out HFT.out HSH.out)
          have HBN : Hid (Below W0.heap.size W0 (w6.setCell ⟨p, 0, none⟩ (.slice A3 (k + 1) c3))) := hide ((below_moved (below_al6 HBR5.out) (below_al6 HBR5.out).size HSA.out.2.1.2.1 hm6 (by have := HSV.out; omega)).setCell (by have := HSV.out; dsimp only; omega) _)
          clear ho6 hm6 r0 r1 HX3 HBA HSA hbs
          go_wp2
          go_roundw
          case rel => exact ⟨k + 1, A3, c3, _, by omega, by go_num, HNX, HBN⟩
          case measure => simp [intOf] <;> omega
        · have hff := fitN_no (x := x) (ss := gs.map Sg.s) (fun h => by have h2 := h.2.2.2; rw [← HE2.out] at h2; exact hE0 h2)
          obtain ⟨e1, e2⟩ := gph_stop HST2.out.2.2.2.1 HXK.out hff
          obtain rfl : E = 1 := by rw [HEE.out]; exact e1
          have HF := hide e2
          have g1 : (E2 == 0) = false := by simpa using hE0
          clear hff e1 e2 hE0
          go_wp2
          go_ret2
          exact ⟨none, 0, 0, [], rfl, Grd.nil _ _, HF.out.symm, HS5.out.2.2.2.2.1⟩
      · have hlook := look_no (p := p) (k := x.kd) HS1.out.2.2.1 (by omega)
        unfold zeroR at hlook
        have hff := fitN_no (x := x) (ss := gs.map Sg.s) (fun h => hkd h.1)
        obtain ⟨e1, e2⟩ := gph_stop HST2.out.2.2.2.1 HXK.out hff
        obtain rfl : E = 1 := by rw [HEE.out]; exact e1
        have HF := hide e2
        clear hff e1 e2 hkd
        go_wp2
        go_ret2
        exact ⟨none, 0, 0, [], rfl, Grd.nil _ _, HF.out.symm, (HS1.out.below (below_al6 (Below.refl _ _))).2.2.2.2.1⟩
    · obtain rfl : k = n := by omega
      have f1 : ¬ ((k : Int) < (k : Int)) := by omega
      obtain ⟨r0, r1⟩ := HST2.out.cell
      have hall : ns.take k = ns := List.take_of_length_le (by rw [HL.out]; exact Nat.le_refl _)
      have hA := HST2.out.2.2.2.1
      rw [hall] at hA
      have hb := gphB_mk HBE.out.symm hA
      obtain rfl : E = 0 := by rw [HEE.out]; exact gphE_zero.2 hb
      have HF : Hid (gs.map Sg.s = gphS ns) := hide (by obtain ⟨_, ss, h1, h2⟩ := gphB_parts hb; rw [h2]; rw [hA] at h1; injection h1)
      clear hb hA hall
      go_wp2
      go_ret2
      exact ⟨A2, k, c2, gs, rfl, HST2.out.2.1.base (by have := HSV.out; omega), HF.out, HST2.out.2.2.2.2.1⟩

end

section
open Go.RowKit
set_option linter.unusedVariables false
set_option linter.unusedSimpArgs false
set_option maxRecDepth 100000

theorem ints_size (A : Option Addr) (n c : Nat) (w : World) : Calls Try.prog 27 #[.slice A n c] w fun e w' => e = .returned (.int .i64 (n : Int)) ∧ w = w' := by
  go_enter Try.func27, Try.ntmps27
  go_wp2
  go_ret
  exact ⟨rfl, rfl⟩

set_option maxHeartbeats 1000000 in
theorem node_size (x : Nd) (w : World) (h1 : x.ni ≤ 70368744177664) (h2 : x.ns ≤ 70368744177664) : Calls Try.prog 23 #[x.v] w fun e w' => ∃ r : Int, e = .returned (.int .i64 r) ∧ 0 ≤ r ∧ r ≤ 281474976710656 ∧ (r ≤ 1048576 → r = 1 + (x.ni : Int) + (x.ns : Int)) ∧ Below w.heap.size w w' := by
  unfold Nd.v
  obtain ⟨W0, hW0⟩ : ∃ W0, W0 = w.alloc (.cells #[.int .u8 x.kd, .slice x.I x.ni x.ci, .slice x.S x.ns x.cs, .int .i64 x.N, .int .i64 x.P] 33) := ⟨_, rfl⟩
  have HB0 : Hid (Below w.heap.size w W0) := hide (by rw [hW0]; exact below_al6 (Below.refl _ _))
  have HX : Hid (BoxN W0 w.heap.size x) := hide (by rw [hW0]; exact BoxN.new w x)
  have hW0' := hW0.symm
  clear hW0
  obtain ⟨c0, c1, c2, c3, c4⟩ := HX.out.cs
  go_enter Try.func23, Try.ntmps23
  go_wp2_with fail
  refine Calls.mono (ints_size _ _ _ _) ?_
  rintro e w1 ⟨rfl, rfl⟩
  by_cases hm : 1 + (x.ni : Int) ≤ 1048576
  · go_wp2_with fail
    refine Calls.mono (ints_size _ _ _ _) ?_
    rintro e w1 ⟨rfl, rfl⟩
    go_wp2
    go_ret
    exact ⟨_, rfl, by omega, by omega, fun _ => rfl, HB0.out⟩
  · go_wp2
    go_ret
    exact ⟨_, rfl, by omega, by omega, fun h => absurd h (by omega), HB0.out⟩

/-- How much nodes have in them. -/
def szN : List Nd → Nat
  | [] => 0
  | x :: r => x.ni + x.ns + 2 + szN r

theorem szN_len : ∀ ns : List Nd, 2 * ns.length ≤ szN ns
  | [] => Nat.le_refl _
  | x :: r => by have := szN_len r; rw [szN, List.length_cons]; omega

theorem szN_mem : ∀ (ns : List Nd) (x : Nd), x ∈ ns → x.ni + x.ns + 2 ≤ szN ns
  | [], x, h => by cases h
  | y :: r, x, h => by
    rw [szN]
    rcases List.mem_cons.1 h with rfl | h
    · omega
    · have := szN_mem r x h; omega

theorem szN_snoc : ∀ (ns : List Nd) (x : Nd), szN (ns ++ [x]) = szN ns + (x.ni + x.ns + 2)
  | [], x => by simp [szN]
  | y :: r, x => by rw [List.cons_append, szN, szN, szN_snoc r x]; omega

theorem szN_append : ∀ (ms ns : List Nd), szN (ms ++ ns) = szN ms + szN ns
  | [], ns => by rw [List.nil_append, szN]; omega
  | y :: r, ns => by rw [List.cons_append, szN, szN, szN_append r ns]; omega

set_option maxHeartbeats 2000000 in
theorem nodes_size (A : Option Addr) (n c : Nat) (ns : List Nd) (w : World) (h : NsIn w A n ns) (hn : n ≤ 70368744177664) :
    Calls Try.prog 17 #[.slice A n c] w fun e w' => ∃ r : Int, e = .returned (.int .i64 r) ∧ 0 ≤ r ∧ r ≤ 1125899906842624 ∧ (r ≤ 1048576 → r = (szN ns : Int)) ∧ Below w.heap.size w w' := by
  have HN := hide h
  clear h
  go_enter Try.func17, Try.ntmps17
  go_wp2
  go_loopw [3, 4] (fun s i wr => ∃ (k : Nat) (a : Int), k ≤ n ∧ i = .int .i64 k ∧ s = .int .i64 a ∧ 0 ≤ a ∧ a ≤ 422212465065984 ∧ Hid (a ≤ 1048576 → a = (n : Int) - (k : Int) + (szN (ns.take k) : Int)) ∧ Hid (Below w.heap.size w wr)) (fun _ i _ => n - (intOf i).toNat)
  case atStart => exact ⟨0, (n : Int), Nat.zero_le _, rfl, rfl, by omega, by omega, hide (fun _ => by rw [List.take_zero, szN]; omega), hide (Below.refl _ _)⟩
  case round =>
    obtain ⟨k, a, hk, rfl, rfl, ha0, ha1, HA, HB⟩ := hrel
    by_cases hlt : k < n
    · have f1 : (k : Int) < (n : Int) := by omega
      by_cases hm : a ≤ 1048576
      · obtain ⟨b, o, x, rfl, hxk, h0, h1, h2, h3, h4, hxo⟩ := (HN.out.below HB.out).at hlt
        have HT : Hid (szN (ns.take (k + 1)) = szN (ns.take k) + (x.ni + x.ns + 2)) := hide (by rw [take_oneN hxk, szN_snoc])
        have f0 : (0 : Int) ≤ (k : Int) := by omega
        have HC := hide (fun v => node_size x v hxo.2.2.2.2.1 hxo.2.2.2.2.2.1)
        unfold Nd.v at HC
        clear hxk hxo
        go_wp2_with fail
        refine Calls.mono (HC.out _) ?_
        rintro e w1 ⟨r, rfl, hr0, hr1, hr2, hb⟩
        have HB1 := hide (below_nx6 HB.out hb)
        clear hb h0 h1 h2 h3 h4
        obtain ⟨a2, ha2⟩ : ∃ z : Int, z = a + r := ⟨_, rfl⟩
        have m1 : IntKind.i64.wrap (a + r) = a2 := by rw [IntKind.wrap_i64]; omega
        have HA2 : Hid (a2 ≤ 1048576 → a2 = (n : Int) - ((k + 1 : Nat) : Int) + (szN (ns.take (k + 1)) : Int)) := hide (fun h => by
          have h1 := HA.out hm
          have h2 := hr2 (by omega)
          rw [HT.out]
          omega)
        have hq : 0 ≤ a2 ∧ a2 ≤ 422212465065984 := by omega
        have HQ := hide hq
        clear hq ha2 hr0 hr1 hr2
        go_wp2
        go_roundw
        case rel => exact ⟨k + 1, a2, by omega, by go_num, rfl, HQ.out.1, HQ.out.2, HA2, HB1⟩
        case measure => simp [intOf] <;> omega
      · have hf : a ≤ 1125899906842624 ∧ (a ≤ 1048576 → a = (szN ns : Int)) := ⟨by omega, fun h => absurd h hm⟩
        have HF := hide hf
        clear hf
        go_wp2
        go_ret
        exact ⟨a, rfl, ha0, HF.out.1, HF.out.2, HB.out⟩
    · obtain rfl : k = n := by omega
      have hall : ns.take k = ns := List.take_of_length_le (by rw [HN.out.1]; exact Nat.le_refl _)
      have hf : a ≤ 1125899906842624 ∧ (a ≤ 1048576 → a = (szN ns : Int)) := ⟨by omega, fun h => by have h1 := HA.out h; rw [hall] at h1; omega⟩
      have HF := hide hf
      have f1 : ¬ ((k : Int) < (k : Int)) := by omega
      clear hf hall
      go_wp2
      go_ret
      exact ⟨a, rfl, ha0, HF.out.1, HF.out.2, HB.out⟩

set_option maxHeartbeats 1000000 in
theorem graph_size (A : Option Addr) (n c : Nat) (ns : List Nd) (w : World) (h : NsIn w A n ns) (hn : n ≤ 70368744177664) :
    Calls Try.prog 9 #[.agg #[.slice A n c]] w fun e w' => ∃ r : Int, e = .returned (.int .i64 r) ∧ 0 ≤ r ∧ (r ≤ 20000 → szN ns ≤ 20000) ∧ Below w.heap.size w w' := by
  obtain ⟨W0, hW0⟩ : ∃ W0, W0 = w.alloc (.cells #[.slice A n c] 24) := ⟨_, rfl⟩
  have HB0 : Hid (Below w.heap.size w W0) := hide (by rw [hW0]; exact below_al6 (Below.refl _ _))
  have c0 : W0.cell? ⟨w.heap.size, 0, none⟩ = some (.slice A n c) := by rw [hW0]; exact cell_of_row _ _ 0 _ _ (0, 0) (heap_alloc_new w _)
  have HC := hide (nodes_size A n c ns W0 (h.below HB0.out) hn)
  have hW0' := hW0.symm
  clear hW0 h
  go_enter Try.func9, Try.ntmps9
  go_wp2_with fail
  refine Calls.mono HC.out ?_
  rintro e w1 ⟨r, rfl, hr0, hr1, hr2, hb⟩
  have HB := hide (HB0.out.trans (hb.mono HB0.out.size))
  obtain ⟨a, ha⟩ : ∃ a : Int, a = 1 + r := ⟨_, rfl⟩
  have m1 : IntKind.i64.wrap (1 + r) = a := by rw [IntKind.wrap_i64]; omega
  have hf : 0 ≤ a ∧ (a ≤ 20000 → szN ns ≤ 20000) := ⟨by omega, fun h => by have := hr2 (by omega); omega⟩
  have HF := hide hf
  clear hb c0 hf hr0 hr1 hr2 ha HC
  go_wp2
  go_ret
  exact ⟨a, rfl, HF.out.1, HF.out.2, HB.out⟩

end

end Go.Proofs.Yteagmlaahnpkhaa
