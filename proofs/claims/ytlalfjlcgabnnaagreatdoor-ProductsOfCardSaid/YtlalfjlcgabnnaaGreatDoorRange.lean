/- A loop 'for k, z := range l.visit' over the method value of a list of numbers: one law for the loop and the iterator together, over an invariant at each place. The method value carries its list ahead of yield. -/
import Derived.RangeFuncNested
import Derived.RangeFuncLeaves
import Derived.Shelf.Abstract
import Derived.WalkKit
import Derived.OwnWalkIn
import Derived.TacticsInMore
import Derived.LoopNIn
import Derived.LoopIn
import Derived.Test.YtlalfjlcgabnnaaGreatDoorOwn
import Derived.Test.YtlalfjlcgabnnaaGreatDoorCells
namespace Go.Proofs.YtlalfjlcgabnnaaGreatDoor
open Go.RowKit Go.Shelf
attribute [local go_sem] Oper.semAt_some

/-- The number at place k of the list lies in memory. -/
def NumAt (A : Option Addr) (k : Nat) (W : World) (z : Int) : Prop := ∃ b o, A = some ⟨b, o, none⟩ ∧ W.cell? ⟨b, o + k, none⟩ = some (.int .i32 z)

/-- How the body of a round may be left. -/
def RoundEnd (B : Nat) (I : Nat → World → Prop) (Ix : Code → World → Prop) (k : Nat) (W : World) : Exit → Act → World → Prop
  | .normal, _, W' => KeepsFrom B W W' ∧ I (k + 1) W'
  | .ret, _, W' => KeepsFrom B W W' ∧ Ix .ret W'
  | _, _, _ => False

theorem NumAt.put {A : Option Addr} {k r : Nat} {W : World} {z : Int} {o : Obj} (h : NumAt A k W z) (hr : W.heap[r]? = some o) (ho : o.isCells = false) (o' : Obj) : NumAt A k (W.putObj r o') z := by
  obtain ⟨b, q, e, hc⟩ := h
  exact ⟨b, q, e, cell_kept hc (grownBy_putObj' W r o') (fun j hj => by cases hj; exact ⟨o, hr, ho⟩)⟩

/-- A function that held such a loop returns: the mark is taken up first. -/
theorem markRet {P : Program} {F : Fence} {n : Nat} {fn : Func} {R : Ending → World → Prop} {a : Act} {w : World} {D : Nat} {v : Value} (hd : a.defers = [{ target := .collected D, args := #[] }]) (hK : w.heap[D]? = some (.deferred (some [])))
    (hr : (results fn a.tmps).run P (w.putObj D (.deferred none)) = .ok v (w.putObj D (.deferred none))) (hR : R (.returned v) (w.putObj D (.deferred none))) : bodyPostM F n P fn R .ret a w := by
  show LeavesInM F n P fn a.tmps R a.defers .returning w
  rw [hd]
  exact ⟨by simp, .inl ⟨_, _, rfl, run_takeDeferred hK, v, hr, hR⟩⟩

/-- It returns ahead of the loop. -/
theorem plainRet {P : Program} {F : Fence} {n : Nat} {fn : Func} {R : Ending → World → Prop} {a : Act} {w : World} {v : Value} (hd : a.defers = []) (hr : (results fn a.tmps).run P w = .ok v w) (hR : R (.returned v) w) : bodyPostM F n P fn R .ret a w := by
  show LeavesInM F n P fn a.tmps R a.defers .returning w
  rw [hd]
  exact ⟨v, hr, hR⟩

theorem heap_own {B : Nat} {W W' : World} {row : Option Nat} (hg : W.grownBy W' row) (hr : ∀ r, row = some r → B ≤ r ∧ ∃ o : Obj, W.heap[r]? = some o ∧ o.isCells = false) {g : Nat} {o : Obj} (h : W.heap[g]? = some o) (ho : o.isCells = true) : W'.heap[g]? = some o := by
  refine (hg.block g (lt_of_heap h) ?_).trans h
  intro e
  obtain ⟨_, o', ho', hc⟩ := hr g e.symm
  rw [h] at ho'
  cases ho'
  rw [ho] at hc
  cases hc

theorem below_put {B D : Nat} {w W : World} (h : Below B w W) (hB : B ≤ D) (hD : D < W.heap.size) (o : Obj) : Below B w (W.putObj D o) :=
  h.trans ((Below.refl B W).grown (grownBy_putObj' W D o) (by omega) (fun k e => by cases e; exact hB))

theorem heap_put {W : World} {D g : Nat} {o o' x : Obj} (hD : W.heap[D]? = some o) (ho : o.isCells = false) (h : W.heap[g]? = some o') (ho' : o'.isCells = true) : (W.putObj D x).heap[g]? = some o' :=
  (World.putObj_heap_other (by intro e; subst e; rw [hD] at h; cases h; rw [ho] at ho'; cases ho')).trans h

theorem keeps_below {B : Nat} {W W' : World} (h : Below W.heap.size W W') : KeepsFrom B W W' :=
  ⟨h.size, fun k _ _ hk _ => (h.block k (lt_of_heap hk)).trans hk⟩

theorem keeps_cells {B g : Nat} {W W' : World} {o : Obj} (h : W.grownBy W' (some g)) (hg : W.heap[g]? = some o) (ho : o.isCells = true) : KeepsFrom B W W' :=
  ⟨h.size, fun k x _ hk hx => (h.block k (lt_of_heap hk) (by intro e; cases e; rw [hg] at hk; cases hk; rw [ho] at hx; cases hx)).trans hk⟩

section
variable {P : Program} {w : World}

/-- append of a whole slice of integers, nil let in, onto a row of the call's own: a step of a region within a round. -/
theorem stepIn_append_ints {F : Fence} {m l : Nat} {op : Oper} {ops : Array Oper} {a : Act} {K : Act → World → Prop} {Q : Exit → Act → World → Prop} {E : Prop} (hF : ∀ f, (F.inRound l).fn f) (hgd : op.guard = none) (s x : Operand) (t : TypeId)
    (hop : op.op = .call { callee := .builtin .append, args := #[s, x], argTypes := #[t, t] })
    (e : TypeId) (i : TypeInfo) (z : Value) (bytes : Nat) (ht : P.underlying t = some (.slice e)) (hi : P.info? e = some i) (hz : i.zero = some z) (hsize : i.size = 1) (hby : i.bytes = bytes) (hzs : z.cells.size = 1)
    (base : Nat) (A0 : Option Addr) (n c0 N : Nat) (k : IntKind) (xs : List Int) (hs : a.eval s = .slice A0 n c0) (ho : w.ownsRow base e 1 (.slice A0 n c0) n (xs.map (Value.int k))) (hbase : base ≤ w.heap.size)
    (A : Option Addr) (q c : Nat) (zs : List Int) (hx : a.eval x = .slice A q c) (hn : Lies w A q (zs.map (Value.int k))) (hnil : A = none → c = 0) (hN : n + q = N) (hb : N * bytes ≤ 140737488355328) (h63 : N ≤ maxLen)
    (h : ∀ A' c' w', w'.ownsRow base e 1 (.slice A' N c') N ((xs ++ zs).map (Value.int k)) → w.grownBy w' (Value.slice A0 n c0).ownBlock → K (a.put op.dst (.slice A' N c')) w') :
    if Region.wanted op (yielded ops a.tmps) = true then Oper.wpIn (F.inRound l) m P op a w K Q else E := by
  have hw : Region.wanted op (yielded ops a.tmps) = true := by simp [Region.wanted, hgd]
  rw [if_pos hw]
  subst hN
  obtain ⟨A', c', w', hrun, h2, h3⟩ := run_append_src (P := P) (w := w) t op.type e i z bytes ht hi hz hsize hby hzs base (.slice A0 n c0) n _ ho hbase A q c _ hn hnil (by intro u hu; simp at hu; obtain ⟨_, _, rfl⟩ := hu; rfl) hb h63
  rw [← List.map_append] at h2
  refine ⟨fun f _ => hF f, ?_⟩
  rw [show (F.inRound l).round = some l from rfl, Oper.semAt_some l _ _ (by intro c e; rw [hop] at e; cases e)]
  simp [execOp, hop, resolve, invoke, builtin, hs, hx, hrun, Result.andThen, Oper.uponIn]
  exact h A' c' w' h2 h3

end

end Go.Proofs.YtlalfjlcgabnnaaGreatDoor
