/- Merged: Tw10, Tw11, Gp3, Gp5, In10. -/
import Derived.Test.YtohndckbhjakfaaGreatDoorWZ27
import Derived.Test.YtohndckbhjakfaaGreatDoorWZ03
import Derived.Test.YtohndckbhjakfaaGreatDoorWZ26
namespace Go.Proofs.YtohndckbhjakfaaGreatDoor

section
open Go.RowKit
set_option linter.unusedVariables false
set_option linter.unusedSimpArgs false
set_option maxRecDepth 100000

/-- A copy of a node, its lists in the blocks g and h. -/
def twN (g h : Nat) (x : Nd) : Nd := ⟨x.kd, some ⟨g, 0, none⟩, x.ni, x.ni + 1, some ⟨h, 0, none⟩, x.ns, x.ns + 1, x.N, x.P, x.xs, x.sh⟩

/-- A list of numbers with the mark behind it, in a block of the call's own. -/
def MarkAt (w : World) (base g n : Nat) (zs : List Int) : Prop := w.ownsRow base 3 1 (.slice (some ⟨g, 0, none⟩) (n + 1) (n + 1)) (n + 1) (zs.map (Value.int .i64) ++ [.int .i64 77])

theorem MarkAt.kept {w w' : World} {base g n : Nat} {zs : List Int} {row : Option Nat} (h : MarkAt w base g n zs) (hg : w.grownBy w' row) (hr : row ≠ some g) : MarkAt w' base g n zs :=
  World.ownsRow.kept h hg (.inr (by simp only [Value.ownBlock]; exact fun e => hr e.symm))

theorem MarkAt.below {w w' : World} {base g n : Nat} {zs : List Int} (h : MarkAt w base g n zs) (hb : Below w.heap.size w w') : MarkAt w' base g n zs := own_below h hb

theorem MarkAt.base {w : World} {b b' g n : Nat} {zs : List Int} (h : MarkAt w b g n zs) (hb : b' ≤ b) : MarkAt w b' g n zs := own_base h hb

theorem MarkAt.lt {w : World} {base g n : Nat} {zs : List Int} (h : MarkAt w base g n zs) : base ≤ g ∧ g < w.heap.size := World.ownsRow.lt h g rfl

theorem MarkAt.lies {w : World} {base g n : Nat} {zs : List Int} (h : MarkAt w base g n zs) (hl : zs.length = n) : Lies w (some ⟨g, 0, none⟩) n (zs.map (Value.int .i64)) := by
  have h1 := (lies_of_own h).take (k := n) (by omega)
  rw [List.take_left' (by simp [hl])] at h1
  exact h1

/-- A node whose lists lie in blocks of the call's own, with marks. -/
def TwNd (w : World) (base : Nat) (t : Nd) : Prop := ∃ g h, t.I = some ⟨g, 0, none⟩ ∧ t.S = some ⟨h, 0, none⟩ ∧ g < h ∧ t.ci = t.ni + 1 ∧ t.cs = t.ns + 1 ∧ t.xs.length = t.ni ∧ t.sh.length = t.ns ∧ MarkAt w base g t.ni t.xs ∧ MarkAt w base h t.ns t.sh ∧ t.ni ≤ 1073741824 ∧ t.ns ≤ 1073741824 ∧ (0 ≤ t.kd ∧ t.kd < 256) ∧ (-9223372036854775808 ≤ t.N ∧ t.N < 9223372036854775808) ∧ (-9223372036854775808 ≤ t.P ∧ t.P < 9223372036854775808)

theorem TwNd.ok {w : World} {base : Nat} {t : Nd} (h : TwNd w base t) : t.Ok w := by
  obtain ⟨g, k, e1, e2, _, e3, e4, e5, e6, m1, m2, l1, l2, b1, b2, b3⟩ := h
  exact ⟨by rw [e1]; exact m1.lies e5, by rw [e2]; exact m2.lies e6, by omega, by omega, by omega, by omega, b1, b2, b3⟩

theorem TwNd.kept {w w' : World} {base : Nat} {t : Nd} {row : Option Nat} (h : TwNd w base t) (hg : w.grownBy w' row) (hr : ∀ k, row = some k → (t.I ≠ some ⟨k, 0, none⟩ ∧ t.S ≠ some ⟨k, 0, none⟩)) : TwNd w' base t := by
  obtain ⟨g, k, e1, e2, e0, e3, e4, e5, e6, m1, m2, r⟩ := h
  refine ⟨g, k, e1, e2, e0, e3, e4, e5, e6, m1.kept hg (fun e => (hr g e).1 e1), m2.kept hg (fun e => (hr k e).2 e2), r⟩

theorem TwNd.below {w w' : World} {base : Nat} {t : Nd} (h : TwNd w base t) (hb : Below w.heap.size w w') : TwNd w' base t :=
  h.kept (row := none) ⟨hb.os, hb.tape, hb.output, hb.size, fun i hi _ => hb.block i hi⟩ (fun k hk => by cases hk)

theorem TwNd.base {w : World} {b b' : Nat} {t : Nd} (h : TwNd w b t) (hb : b' ≤ b) : TwNd w b' t := by
  obtain ⟨g, k, e1, e2, e0, e3, e4, e5, e6, m1, m2, r⟩ := h
  exact ⟨g, k, e1, e2, e0, e3, e4, e5, e6, m1.base hb, m2.base hb, r⟩

theorem TwNd.spot {w : World} {base : Nat} {t : Nd} (h : TwNd w base t) : ∀ k, (t.I = some ⟨k, 0, none⟩ ∨ t.S = some ⟨k, 0, none⟩) → base ≤ k ∧ k < w.heap.size := by
  obtain ⟨g, q, e1, e2, _, _, _, _, _, m1, m2, _⟩ := h
  intro k hk
  rcases hk with hk | hk
  · rw [e1] at hk; injection hk with hk; injection hk with hk; subst hk; exact m1.lt
  · rw [e2] at hk; injection hk with hk; injection hk with hk; subst hk; exact m2.lt

theorem grown_set (w : World) (p k : Nat) (v : Value) : w.grownBy (w.setCell ⟨p, k, none⟩ v) (some p) :=
  ⟨rfl, rfl, rfl, by simp [World.setCell], fun i _ hi => heap_setCell_other _ _ _ _ (by simpa using hi)⟩

end

section
open Go.RowKit
set_option linter.unusedVariables false
set_option linter.unusedSimpArgs false
set_option maxRecDepth 100000

/-- A node without where its lists lie. -/
def pl (x : Nd) : Nd := { x with I := none, ni := 0, ci := 0, S := none, ns := 0, cs := 0 }

/-- No two nodes' lists share a block. -/
def TwAp (ts : List Nd) : Prop := ts.Pairwise (fun t u => ∀ h g, t.S = some ⟨h, 0, none⟩ → u.I = some ⟨g, 0, none⟩ → h < g)

/-- The cells of the mark behind a list of nodes. -/
def mark5 : List Value := [.int .u8 0, .slice none 0 0, .slice none 0 0, .int .i64 77, .int .i64 0]

/-- A list of nodes of the call's own, a mark behind it. -/
def TwAll (w : World) (base g n : Nat) (ns ts : List Nd) : Prop :=
  ts.map pl = ns.map pl ∧ ts.length = n ∧ w.ownsRow base 44 5 (.slice (some ⟨g, 0, none⟩) (n + 1) (n + 1)) (n + 1) (cellsN ts ++ mark5) ∧ (∀ t ∈ ts, TwNd w (g + 1) t) ∧ TwAp ts

theorem TwAll.below {w w' : World} {base g n : Nat} {ns ts : List Nd} (h : TwAll w base g n ns ts) (hb : Below w.heap.size w w') : TwAll w' base g n ns ts :=
  ⟨h.1, h.2.1, own_keep10 h.2.2.1 hb, fun t ht => (h.2.2.2.1 t ht).below hb, h.2.2.2.2⟩

theorem TwAll.base {w : World} {b b' g n : Nat} {ns ts : List Nd} (h : TwAll w b g n ns ts) (hb : b' ≤ b) : TwAll w b' g n ns ts :=
  ⟨h.1, h.2.1, ⟨h.2.2.1.1, by
    rcases h.2.2.1.2 with e | ⟨q, cap, cur, e, h1, r⟩
    · exact .inl e
    · exact .inr ⟨q, cap, cur, e, by omega, r⟩⟩, h.2.2.2⟩

theorem TwAll.lt {w : World} {base g n : Nat} {ns ts : List Nd} (h : TwAll w base g n ns ts) : base ≤ g ∧ g < w.heap.size := h.2.2.1.lt g rfl

theorem TwAll.ns {w : World} {base g n : Nat} {ns ts : List Nd} (h : TwAll w base g n ns ts) : NsIn w (some ⟨g, 0, none⟩) n ts :=
  ⟨h.2.1, fun hn => by
    obtain ⟨g', e, _, hg, hx⟩ := ownN_cells h.2.2.1 (by omega)
    injection e with e
    injection e with e
    subst e
    refine ⟨g, 0, rfl, hg, fun j x hj => ?_⟩
    have hjl := (List.getElem?_eq_some_iff.1 hj).1
    obtain ⟨h0, h1, h2, h3, h4⟩ := cellsN_at ts j x hj
    have hl := cellsN_len ts
    have k : ∀ i, i < ts.length * 5 → ∀ u, (cellsN ts)[i]? = some u → w.cell? ⟨g, i, none⟩ = some u := fun i hi u hu => hx i u (by rw [List.getElem?_append_left (by omega)]; exact hu)
    rw [Nat.zero_add]
    exact ⟨k _ (by omega) _ h0, k _ (by omega) _ h1, k _ (by omega) _ h2, k _ (by omega) _ h3, k _ (by omega) _ h4, (h.2.2.2.1 x (List.mem_of_getElem? hj)).ok⟩⟩

end

section
open Go.RowKit
set_option linter.unusedVariables false
set_option linter.unusedSimpArgs false
set_option maxRecDepth 100000

end

section
open Go.RowKit
set_option linter.unusedVariables false
set_option linter.unusedSimpArgs false
set_option maxRecDepth 100000

/-- One further on, from k on. -/
def upK (k : Nat) (z : Int) : Int := if (k : Int) ≤ z then z + 1 else z

def sxK (k : Nat) (x : Nd) : Nd := { x with xs := x.xs.map (upK k) }

def insL {α : Type} (us : List α) (k : Nat) (s : α) : List α := us.take k ++ s :: us.drop k

/-- How many nodes of a kind there are. -/
def ctN (d : Int) : List Nd → Nat
  | [] => 0
  | x :: r => (if x.kd = d then 1 else 0) + ctN d r

end

section
open Go.RowKit
set_option linter.unusedVariables false
set_option linter.unusedSimpArgs false
set_option maxRecDepth 100000

/-- Nodes in a row of the call's own, their lists too. -/
def TwRow (w : World) (base g n : Nat) (ts : List Nd) : Prop :=
  ts.length = n ∧ w.ownsRow base 44 5 (.slice (some ⟨g, 0, none⟩) (n + 1) (n + 1)) (n + 1) (cellsN ts ++ mark5) ∧ (∀ t ∈ ts, TwNd w (g + 1) t) ∧ TwAp ts

theorem TwAll.row {w : World} {base g n : Nat} {ns ts : List Nd} (h : TwAll w base g n ns ts) : TwRow w base g n ts := h.2

theorem TwRow.all {w : World} {base g n : Nat} {ts : List Nd} (h : TwRow w base g n ts) : TwAll w base g n ts ts := ⟨rfl, h⟩

theorem TwRow.below {w w' : World} {base g n : Nat} {ts : List Nd} (h : TwRow w base g n ts) (hb : Below w.heap.size w w') : TwRow w' base g n ts := (h.all.below hb).row

theorem TwAp.lt {ts : List Nd} (h : TwAp ts) {p q : Nat} {t u : Nd} (hp : ts[p]? = some t) (hq : ts[q]? = some u) (hpq : p < q) {a b : Nat} (ha : t.S = some ⟨a, 0, none⟩) (hb : u.I = some ⟨b, 0, none⟩) : a < b := by
  obtain ⟨l1, e1⟩ := List.getElem?_eq_some_iff.1 hp
  obtain ⟨l2, e2⟩ := List.getElem?_eq_some_iff.1 hq
  have := List.pairwise_iff_getElem.1 h p q l1 l2 hpq
  rw [e1, e2] at this
  exact this a b ha hb

theorem cellsN_set {ts : List Nd} {q : Nat} {t t' : Nd} (h : ts[q]? = some t) (he : t'.five = t.five) : cellsN (ts.set q t') = cellsN ts := by
  have e : (ts.set q t').map Nd.five = ts.map Nd.five := by
    refine List.ext_getElem? fun i => ?_
    rw [List.getElem?_map, List.getElem?_map]
    by_cases hi : i = q
    · subst hi
      rw [List.getElem?_set_self (List.getElem?_eq_some_iff.1 h).1, h, Option.map_some, Option.map_some, he]
    · rw [List.getElem?_set_ne (fun e => hi e.symm)]
  rw [cellsN, cellsN, List.flatMap, List.flatMap, e]

theorem TwAp.set {ts : List Nd} {q : Nat} {t t' : Nd} (h : TwAp ts) (hq : ts[q]? = some t) (h1 : t'.I = t.I) (h2 : t'.S = t.S) : TwAp (ts.set q t') := by
  unfold TwAp at h ⊢
  rw [List.pairwise_iff_getElem] at h ⊢
  intro i j hi hj hij a b ha hb
  have hl : (ts.set q t').length = ts.length := List.length_set
  obtain ⟨hql, hqe⟩ := List.getElem?_eq_some_iff.1 hq
  have key : ∀ (i : Nat) (hi : i < (ts.set q t').length) (hi2 : i < ts.length), (ts.set q t')[i].S = ts[i].S ∧ (ts.set q t')[i].I = ts[i].I := by
    intro i hi hi2
    rw [List.getElem_set]
    by_cases e : q = i
    · subst e
      rw [if_pos rfl]
      exact ⟨h2.trans (by rw [hqe]), h1.trans (by rw [hqe])⟩
    · rw [if_neg e]; exact ⟨rfl, rfl⟩
  rw [(key i hi (by omega)).1] at ha
  rw [(key j hj (by omega)).2] at hb
  exact h i j (by omega) (by omega) hij a b ha hb

/-- One number of what a node takes in is stored. -/
theorem TwRow.store {w : World} {base g n q j : Nat} {ts : List Nd} {t : Nd} {a : Nat} {z : Int} (h : TwRow w base g n ts) (hq : ts[q]? = some t) (ha : t.I = some ⟨a, 0, none⟩) (hj : j < t.ni) :
    TwRow (w.setCell ⟨a, j, none⟩ (.int .i64 z)) base g n (ts.set q { t with xs := t.xs.set j z }) := by
  obtain ⟨h1, h2, h3, h4⟩ := h
  have hgr := grown_set w a j (.int .i64 z)
  have htm := List.mem_of_getElem? hq
  obtain ⟨g0, k0, e1, e2, e0, e3, e4, e5, e6, m1, m2, r⟩ := h3 t htm
  rw [e1] at ha
  injection ha with ha
  injection ha with ha
  subst ha
  have hga := m1.lt
  refine ⟨by rw [List.length_set, h1], ?_, fun u hu => ?_, h4.set hq rfl rfl⟩
  · rw [cellsN_set (t' := { t with xs := t.xs.set j z }) hq rfl]
    exact h2.kept hgr (.inr (by simp only [Value.ownBlock]; intro e; injection e with e; omega))
  · obtain ⟨i, hi, rfl⟩ := List.mem_iff_getElem.1 hu
    rw [List.getElem_set]
    have hil : i < ts.length := by rw [List.length_set] at hi; exact hi
    by_cases e : q = i
    · rw [if_pos e]
      refine ⟨g0, k0, e1, e2, e0, e3, e4, by simpa using e5, e6, ?_, m2.kept hgr (by intro e; injection e with e; omega), r⟩
      have hm := own_set9 (v := .int .i64 z) m1 (show j < t.ni + 1 by omega)
      have e9 : (t.xs.map (Value.int .i64) ++ [Value.int .i64 77]).set j (Value.int .i64 z) = (t.xs.set j z).map (Value.int .i64) ++ [Value.int .i64 77] := by
        rw [List.set_append_left _ _ (by rw [List.length_map, e5]; exact hj), List.map_set]
      rw [e9] at hm
      exact hm
    · rw [if_neg e]
      have hti : ts[i]? = some ts[i] := List.getElem?_eq_getElem hil
      obtain ⟨g9, k9, f1, f2, f0, _⟩ := h3 ts[i] (List.getElem_mem hil)
      refine (h3 ts[i] (List.getElem_mem hil)).kept hgr (fun b hb => ?_)
      injection hb with hb
      subst hb
      rcases Nat.lt_or_ge q i with hlt | hge
      · have := h4.lt hq hti hlt e2 f1
        exact ⟨fun e => by rw [f1] at e; injection e with e; injection e with e; omega, fun e => by rw [f2] at e; injection e with e; injection e with e; omega⟩
      · have := h4.lt hti hq (show i < q by omega) f2 e1
        exact ⟨fun e => by rw [f1] at e; injection e with e; injection e with e; omega, fun e => by rw [f2] at e; injection e with e; injection e with e; omega⟩

/-- A box of a graph is no list of numbers. -/
theorem BoxG.setI {w : World} {p a j base : Nat} {v : Value} {t : Nd} {z : Value} (h : BoxG w p v) (ht : TwNd w base t) (ha : t.I = some ⟨a, 0, none⟩) : BoxG (w.setCell ⟨a, j, none⟩ z) p v := by
  obtain ⟨g0, k0, e1, e2, e0, e3, e4, e5, e6, m1, m2, r⟩ := ht
  rw [e1] at ha
  injection ha with ha
  injection ha with ha
  subst ha
  refine (heap_setCell_other _ _ _ _ ?_).trans h
  dsimp only
  intro e
  rcases m1.2 with ⟨e', _⟩ | ⟨q, cap, cur, e', _, hg, _⟩
  · cases e'
  · injection e' with e'
    injection e' with e'
    injection e' with e'
    subst e'
    unfold BoxG at h
    rw [e, hg] at h
    cases h

theorem BoxG.grown {w w' : World} {p base size n : Nat} {v u : Value} {e : TypeId} {xs : List Value} (h : BoxG w p v) (ho : w.ownsRow base e size u n xs) (he : e ≠ 24) (hg : w.grownBy w' u.ownBlock) : BoxG w' p v := by
  refine (hg.block p h.lt ?_).trans h
  intro e1
  rcases ho.2 with ⟨e', _⟩ | ⟨q, cap, cur, e', _, hh, _⟩
  · rw [e'] at e1; cases e1
  · rw [e'] at e1
    injection e1 with e1
    have e2 : p = q := e1
    unfold BoxG at h
    rw [e2, hh] at h
    injection h with h
    injection h with _ h
    exact he h

theorem fitN_pl (x : Nd) (ss : List (List Int)) : fitN (pl x) ss = fitN x ss ∧ shN (pl x) ss = shN x ss := ⟨rfl, rfl⟩

theorem allSh_pl : ∀ (ns : List Nd) (ss : List (List Int)), allSh (ns.map pl) ss = allSh ns ss
  | [], ss => rfl
  | x :: r, ss => by rw [List.map_cons, allSh, allSh, (fitN_pl x ss).1, (fitN_pl x ss).2, allSh_pl r]

theorem inIx_pl : ∀ ns : List Nd, inIx (ns.map pl) = inIx ns
  | [] => rfl
  | x :: r => by rw [List.map_cons, inIx, inIx, inIx_pl r]; rfl

theorem endsOk_pl (ns : List Nd) : endsOk (ns.map pl) = endsOk ns := by
  have hl : lastOk (ns.map pl) = lastOk ns := by
    rw [lastOk, lastOk, List.length_map, List.getElem?_map]
    cases ns[ns.length - 1]? <;> rfl
  rw [endsOk, endsOk, List.length_map, inIx_pl, ← List.map_drop, inIx_pl, hl]

theorem gph_pl (ns : List Nd) : gphB (ns.map pl) = gphB ns ∧ gphS (ns.map pl) = gphS ns := by
  have hb : gphB (ns.map pl) = gphB ns := by rw [gphB, gphB, endsOk_pl, allSh_pl]
  exact ⟨hb, by rw [gphS, gphS, hb, allSh_pl]⟩

theorem gph_same {ns ms : List Nd} (h : ns.map pl = ms.map pl) : gphB ns = gphB ms ∧ gphS ns = gphS ms :=
  ⟨by rw [← (gph_pl ns).1, h, (gph_pl ms).1], by rw [← (gph_pl ns).2, h, (gph_pl ms).2]⟩

theorem wtF_pl : ∀ (i : Nat) (ns : List Nd), wtF i (ns.map pl) = wtF i ns
  | _, [] => rfl
  | i, x :: r => by rw [List.map_cons, wtF, wtF, wtF_pl (i + 1) r]; rfl

end

end Go.Proofs.YtohndckbhjakfaaGreatDoor

