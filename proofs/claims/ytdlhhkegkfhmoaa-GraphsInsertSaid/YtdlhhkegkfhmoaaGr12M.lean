/- A list of shapes of the call's own; the contract of graphs.Shapes and of graphs.Check. -/
import Derived.Test.YtdlhhkegkfhmoaaGp1M
namespace Go.Proofs.Ytdlhhkegkfhmoaa
open Go.RowKit
set_option linter.unusedVariables false
set_option linter.unusedSimpArgs false
set_option maxRecDepth 100000

def Sg.v (g : Sg) : Value := .slice g.A g.n g.c

/-- A list of shapes of the call's own, all its shapes too, no two of which share memory. -/
def Grd (w : World) (base : Nat) (A : Option Addr) (n c : Nat) (gs : List Sg) : Prop :=
  gs.length = n ∧ w.ownsRow base 33 1 (.slice A n c) n (gs.map Sg.v) ∧ (∀ g ∈ gs, w.ownsRow base 3 1 (.slice g.A g.n g.c) g.n (g.s.map (Value.int .i64)) ∧ g.n ≤ 4) ∧ gs.Pairwise (fun g h => ∀ a b, Value.ownBlock (.slice g.A g.n g.c) = some a → Value.ownBlock (.slice h.A h.n h.c) = some b → a < b)

theorem Grd.nil (w : World) (base : Nat) : Grd w base none 0 0 [] := ⟨rfl, World.ownsRow_nil _ _ _ _, (fun g hg => by cases hg), List.Pairwise.nil⟩

theorem own_types10 {w : World} {base base' size size' : Nat} {e e' : TypeId} {v v' : Value} {n n' : Nat} {xs xs' : List Value} (h : w.ownsRow base e size v n xs) (h' : w.ownsRow base' e' size' v' n' xs') (he : e ≠ e') : v.ownBlock = none ∨ v.ownBlock ≠ v'.ownBlock := by
  rcases h.2 with ⟨rfl, _⟩ | ⟨g, cap, cur, rfl, _, hg, _⟩
  · exact .inl rfl
  · right
    rcases h'.2 with ⟨rfl, _⟩ | ⟨g', cap', cur', rfl, _, hg', _⟩
    · simp [Value.ownBlock]
    · simp only [Value.ownBlock, ne_eq, Option.some.injEq]
      rintro rfl
      rw [hg] at hg'
      simp at hg'
      exact he hg'.2

theorem Grd.kept {w w' : World} {base : Nat} {A : Option Addr} {n c : Nat} {gs : List Sg} {row : Option Nat} (h : Grd w base A n c gs) (hg : w.grownBy w' row) (hr : ∀ k, row = some k → k < base) : Grd w' base A n c gs := by
  have hne : ∀ {e : TypeId} {v : Value} {m : Nat} {xs : List Value}, w.ownsRow base e 1 v m xs → v.ownBlock = none ∨ v.ownBlock ≠ row := fun {e v m xs} ho => by
    rcases hv : v.ownBlock with _ | g
    · exact .inl rfl
    · right
      intro h2
      have h1 := (ho.lt g hv).1
      have h3 := hr g h2.symm
      omega
  exact ⟨h.1, h.2.1.kept hg (hne h.2.1), fun g hgm => ⟨(h.2.2.1 g hgm).1.kept hg (hne (h.2.2.1 g hgm).1), (h.2.2.1 g hgm).2⟩, h.2.2.2⟩

theorem Grd.below {w w' : World} {base : Nat} {A : Option Addr} {n c : Nat} {gs : List Sg} (h : Grd w base A n c gs) (hb : Below w.heap.size w w') : Grd w' base A n c gs :=
  h.kept (row := none) ⟨hb.os, hb.tape, hb.output, hb.size, fun i hi _ => hb.block i hi⟩ (fun k hk => by cases hk)

theorem Grd.set {w : World} {base p : Nat} {A : Option Addr} {n c : Nat} {gs : List Sg} (h : Grd w base A n c gs) (hp : p < base) (u : Value) : Grd (w.setCell ⟨p, 0, none⟩ u) base A n c gs :=
  h.kept (row := some p) ⟨rfl, rfl, rfl, by simp [World.setCell], fun k _ hk => heap_setCell_other _ _ _ _ (by simpa using hk)⟩ (fun k hk => by cases hk; exact hp)

theorem Grd.base {w : World} {base base' : Nat} {A : Option Addr} {n c : Nat} {gs : List Sg} (h : Grd w base A n c gs) (hb : base' ≤ base) : Grd w base' A n c gs :=
  ⟨h.1, own_base h.2.1 hb, fun g hg => ⟨own_base (h.2.2.1 g hg).1 hb, (h.2.2.1 g hg).2⟩, h.2.2.2⟩

theorem own_le10 {w : World} {base : Nat} {e : TypeId} {A : Option Addr} {n c : Nat} {xs : List Value} (h : w.ownsRow base e 1 (.slice A n c) n xs) : n ≤ c := by
  rcases h.2 with ⟨e0, h0⟩ | ⟨g, cap, cur, e0, _, _, hc, _⟩
  · omega
  · injection e0 with _ _ e0; omega

theorem Grd.sg {w : World} {base : Nat} {A : Option Addr} {n c : Nat} {gs : List Sg} (h : Grd w base A n c gs) : SgAt w A n gs :=
  ⟨h.1, fun hn => by
    obtain ⟨b, o, e, hlt, hx⟩ := (lies_of_own h.2.1).cells (by omega)
    refine ⟨b, o, e, hlt, fun j g hj => ?_⟩
    have hjl := (List.getElem?_eq_some_iff.1 hj).1
    rw [hx j (by rw [← h.1]; exact hjl), List.getElem?_map, hj]
    rfl, fun g hg => ⟨lies_of_own (h.2.2.1 g hg).1, own_le10 (h.2.2.1 g hg).1, (h.2.2.1 g hg).2⟩⟩

theorem Grd.push {w w' : World} {base B : Nat} {A A' : Option Addr} {n c c' : Nat} {gs : List Sg} {g : Sg} (h : Grd w base A n c gs) (hB : ∀ h ∈ gs, ∀ a, Value.ownBlock (.slice h.A h.n h.c) = some a → a < B) (hbb : base ≤ B) (hg : w.ownsRow B 3 1 (.slice g.A g.n g.c) g.n (g.s.map (Value.int .i64))) (hg4 : g.n ≤ 4)
    (ho : w'.ownsRow base 33 1 (.slice A' (n + 1) c') (n + 1) (gs.map Sg.v ++ [Sg.v g])) (hm : Moved w w' (.slice A n c) (.slice A' (n + 1) c')) : Grd w' base A' (n + 1) c' (gs ++ [g]) := by
  have hk : ∀ {bs : Nat} {v : Value} {m : Nat} {xs : List Value}, w.ownsRow bs 3 1 v m xs → w'.ownsRow bs 3 1 v m xs := fun {bs v m xs} hv => by
    rcases hm with ⟨_, hgr⟩ | ⟨hgr, _⟩
    · exact hv.kept hgr (own_types10 hv h.2.1 (by decide))
    · exact hv.kept hgr (by cases v.ownBlock <;> simp)
  refine ⟨by simp [h.1], by rw [List.map_append]; exact ho, fun x hx => ?_, ?_⟩
  · rcases List.mem_append.1 hx with hx | hx
    · exact ⟨hk (h.2.2.1 x hx).1, (h.2.2.1 x hx).2⟩
    · rw [List.mem_singleton.1 hx]; exact ⟨own_base (hk hg) hbb, hg4⟩
  · rw [List.pairwise_append]
    refine ⟨h.2.2.2, List.pairwise_singleton _ _, fun x hx y hy a b ha hb => ?_⟩
    rw [List.mem_singleton.1 hy] at hb
    have h1 := hB x hx a ha
    have h2 := (hg.lt b hb).1
    omega

theorem allSh_stop {ns : List Nd} {k : Nat} {x : Nd} {ss : List (List Int)} (h : allSh (ns.take k) [] = some ss) (hx : ns[k]? = some x) (hf : fitN x ss = false) : allSh ns [] = none := by
  have hl := (List.getElem?_eq_some_iff.1 hx).1
  have e : ns.drop k = x :: ns.drop (k + 1) := by rw [List.drop_eq_getElem_cons hl]; congr 1; exact (List.getElem?_eq_some_iff.1 hx).2
  rw [← List.take_append_drop k ns, allSh_append, h, e]
  show allSh (x :: ns.drop (k + 1)) ss = none
  rw [allSh, hf]
  rfl

theorem allSh_next {ns : List Nd} {k : Nat} {x : Nd} {ss : List (List Int)} (h : allSh (ns.take k) [] = some ss) (hx : ns[k]? = some x) (hf : fitN x ss = true) : allSh (ns.take (k + 1)) [] = some (ss ++ [shN x ss]) := by
  rw [take_oneN hx, allSh_append, h]
  show allSh [x] ss = _
  rw [allSh, if_pos hf, allSh]

theorem gph_stop {ns : List Nd} {k : Nat} {x : Nd} {ss : List (List Int)} (h : allSh (ns.take k) [] = some ss) (hx : ns[k]? = some x) (hf : fitN x ss = false) : gphE ns = 1 ∧ gphS ns = [] := by
  have hb : gphB ns = false := by rw [gphB, allSh_stop h hx hf]; simp
  exact ⟨by rw [gphE, hb]; rfl, gphS_no hb⟩

theorem fitN_no {x : Nd} {ss : List (List Int)} (h : ¬ ((1 ≤ x.kd ∧ x.kd ≤ 13) ∧ alw (rlT x.kd.toNat) x = true ∧ allKn x.xs ss.length = true ∧ nodeE x (knL ss x.xs) x.kd.toNat = 0)) : fitN x ss = false := by
  cases hf : fitN x ss with
  | false => rfl
  | true => exact absurd (fitN_parts hf) h

/-- How far the loop of Shapes is. -/
def ShSt (w0 : World) (p b base : Nat) (ns : List Nd) (k : Nat) (A : Option Addr) (c : Nat) (gs : List Sg) (w : World) : Prop :=
  w.heap[p]? = some (.cells #[.slice A k c] 52 (0, 0)) ∧ Grd w base A k c gs ∧ w.heap[b]? = some (.map (ruEs p 13) 13) ∧ allSh (ns.take k) [] = some (gs.map Sg.s) ∧ Below w0.heap.size w0 w ∧ base ≤ w.heap.size ∧ p < base ∧ w0.heap.size ≤ p

theorem ShSt.below {w0 w w' : World} {p b base : Nat} {ns : List Nd} {k : Nat} {A : Option Addr} {c : Nat} {gs : List Sg} (h : ShSt w0 p b base ns k A c gs w) (hb : Below w.heap.size w w') : ShSt w0 p b base ns k A c gs w' :=
  ⟨(hb.block p (lt_of_heap h.1)).trans h.1, h.2.1.below hb, (hb.block b (lt_of_heap h.2.2.1)).trans h.2.2.1, h.2.2.2.1, h.2.2.2.2.1.trans (hb.mono h.2.2.2.2.1.size), Nat.le_trans h.2.2.2.2.2.1 hb.size, h.2.2.2.2.2.2⟩

theorem ShSt.kn {w0 w : World} {p b base : Nat} {ns : List Nd} {k : Nat} {A : Option Addr} {c : Nat} {gs : List Sg} (h : ShSt w0 p b base ns k A c gs w) : KnAt w p A k c gs := ⟨h.1, h.2.1.sg⟩

theorem ShSt.pos {w0 w : World} {p b base : Nat} {ns : List Nd} {k : Nat} {A : Option Addr} {c : Nat} {gs : List Sg} (h : ShSt w0 p b base ns k A c gs w) : ∀ g ∈ gs, 0 < sizeI g.s := fun g hg =>
  allSh_pos (ns.take k) [] _ (fun s hs => by cases hs) h.2.2.2.1 g.s (List.mem_map.2 ⟨g, hg, rfl⟩)

theorem ShSt.cell {w0 w : World} {p b base : Nat} {ns : List Nd} {k : Nat} {A : Option Addr} {c : Nat} {gs : List Sg} (h : ShSt w0 p b base ns k A c gs w) : w.cell? ⟨p, 0, none⟩ = some (.slice A k c) ∧ w.frozen? ⟨p, 0, none⟩ = false := ⟨cell_of_row _ _ 0 _ _ (0, 0) h.1, frozen_of_row w p 0 _ _ h.1⟩

theorem ShSt.moved {w0 w w2 : World} {p b base : Nat} {ns : List Nd} {k : Nat} {A : Option Addr} {c : Nat} {gs : List Sg} {v' : Value} (h : ShSt w0 p b base ns k A c gs w) (hm : Moved w w2 (.slice A k c) v') : w2.cell? ⟨p, 0, none⟩ = some (.slice A k c) ∧ w2.frozen? ⟨p, 0, none⟩ = false := by
  have hgr : w.grownBy w2 (Value.ownBlock (.slice A k c)) := by
    rcases hm with ⟨_, hgr⟩ | ⟨hgr, _⟩
    · exact hgr
    · exact ⟨hgr.os, hgr.tape, hgr.output, hgr.size, fun i hi _ => hgr.block i hi (by simp)⟩
  have hpr : some p ≠ Value.ownBlock (.slice A k c) := fun e => by have := (h.2.1.2.1.lt p e.symm).1; have := h.2.2.2.2.2.2.1; omega
  have p2 := (hgr.block p (lt_of_heap h.1) hpr).trans h.1
  exact ⟨cell_of_row _ _ 0 _ _ (0, 0) p2, frozen_of_row w2 p 0 _ _ p2⟩

/-- One shape more: behind the append and the store. -/
theorem ShSt.push {w0 w w1 w2 : World} {p b base : Nat} {ns : List Nd} {k : Nat} {A A' : Option Addr} {c c' : Nat} {gs : List Sg} {x : Nd} {g : Sg} (h : ShSt w0 p b base ns k A c gs w) (hb : Below w.heap.size w w1) (hg : w1.ownsRow w.heap.size 3 1 (.slice g.A g.n g.c) g.n (g.s.map (Value.int .i64))) (hg4 : g.n ≤ 4)
    (ho : w2.ownsRow base 33 1 (.slice A' (k + 1) c') (k + 1) (gs.map Sg.v ++ [Sg.v g])) (hm : Moved w1 w2 (.slice A k c) (.slice A' (k + 1) c')) (hx : ns[k]? = some x) (hf : fitN x (gs.map Sg.s) = true) (hs : g.s = shN x (gs.map Sg.s)) :
    ShSt w0 p b base ns (k + 1) A' c' (gs ++ [g]) (w2.setCell ⟨p, 0, none⟩ (.slice A' (k + 1) c')) := by
  have h1 := h.below hb
  obtain ⟨a1, a2, a3, a4, a5, a6, a7, a8⟩ := h1
  have hgr : w1.grownBy w2 (Value.ownBlock (.slice A k c)) := by
    rcases hm with ⟨_, hgr⟩ | ⟨hgr, _⟩
    · exact hgr
    · exact ⟨hgr.os, hgr.tape, hgr.output, hgr.size, fun i hi _ => hgr.block i hi (by simp)⟩
  have hpr : some p ≠ Value.ownBlock (.slice A k c) := fun e => by have := (a2.2.1.lt p e.symm).1; omega
  have hbr : some b ≠ Value.ownBlock (.slice A k c) := fun e => by
    rcases a2.2.1.2 with ⟨h0, _⟩ | ⟨g', cap, cur, h0, _, hh, _⟩
    · rw [h0] at e; cases e
    · rw [h0] at e; injection e with e; have e' : b = g' := e; rw [← e', a3] at hh; cases hh
  have p2 := (hgr.block p (lt_of_heap a1) hpr).trans a1
  have b2 := (hgr.block b (lt_of_heap a3) hbr).trans a3
  have hpb : b ≠ p := fun e => by rw [e, a1] at a3; cases a3
  have hG : Grd w2 base A' (k + 1) c' (gs ++ [g]) := a2.push (fun q hq a ha => ((h.2.1.2.2.1 q hq).1.lt a ha).2) h.2.2.2.2.2.1 hg hg4 ho hm
  refine ⟨?_, hG.set a7 _, ?_, ?_, ?_, ?_, a7, a8⟩
  · have := heap_setCell_same w2 p 0 _ _ (.slice A' (k + 1) c') p2; simpa using this
  · exact (heap_setCell_other _ _ _ _ (by simpa using hpb)).trans b2
  · rw [List.map_append, List.map_cons, List.map_nil, hs]; exact allSh_next a4 hx hf
  · exact (a5.grown hgr a5.size (fun q hq => by have := (a2.2.1.lt q hq).1; omega)).setCell (by dsimp only; omega) _
  · have := hgr.size; simp only [World.setCell, Array.size_modify]; omega

theorem infoS10 : (Try.prog.info? 33).map (fun i => (i.zero, i.size, i.bytes)) = some (some (.slice none 0 0), 1, 24) := by kernel_rfl

end Go.Proofs.Ytdlhhkegkfhmoaa
