/- A loop 'for k, z := range l.visit' over the method value of a list of numbers: one law for the loop and the iterator together, over an invariant at each place. The method value carries its list ahead of yield. -/
import Derived.RangeFuncNested
import Derived.RangeFuncLeaves
import Derived.Shelf.Abstract
import Derived.WalkKit
import Derived.OwnWalkIn
import Derived.TacticsInMore
import Derived.LoopNIn
import Derived.LoopIn
import Derived.Test.YtlalfjlcgabnnaaOwn
import Derived.Test.YtlalfjlcgabnnaaCells
namespace Go.Proofs.Ytlalfjlcgabnnaa
open Go.RowKit Go.Shelf
attribute [local go_sem] Oper.semAt_some

/-- The number at place k of the list lies in memory. -/
def NumAt (A : Option Addr) (k : Nat) (W : World) (z : Int) : Prop := ∃ b o, A = some ⟨b, o, none⟩ ∧ W.cell? ⟨b, o + k, none⟩ = some (.int .i32 z)

set_option maxRecDepth 100000 in
set_option maxHeartbeats 2000000 in
/-- visit: yield is called at each place in turn, till it says no. -/
theorem visit_in (m l n c : Nat) (hm : 1 ≤ m) (A : Option Addr) (hn : n ≤ 281474976710656) (I : Nat → World → Prop) (Jx : World → Prop)
    (hread : ∀ k W, k < n → I k W → ∃ z, NumAt A k W z)
    (hY : ∀ k z W, k < n → I k W → NumAt A k W z → YieldAt Fence.wide (m - 1) Try.prog l #[.int .i64 (k : Int), .int .i32 z] W fun e W' =>
      (e = .returned (.bool true) ∧ I (k + 1) W') ∨ (e = .returned (.bool false) ∧ Jx W'))
    (W : World) (h0 : I 0 W) :
    CallsIn Fence.wide m Try.prog 26 #[.slice A n c, .func (.yield l) #[] #[]] W fun e W' => (∃ v, e = .returned v) ∧ (I n W' ∨ Jx W') := by
  have HR := hide hread
  have HY := hide hY
  clear hread hY
  refine callsIn_of_wp Try.func26 rfl trivial ?_ rfl
  simp only [Try.ntmps26, List.size_toArray, List.length_cons, List.length_nil, Nat.reduceAdd, Nat.reduceSub, Array.replicate_succ, Array.replicate_zero, List.push_toArray, List.append_toArray, List.nil_append, List.cons_append]
  gi_wp2
  gi_loopw [8] (fun i wr => ∃ k : Nat, k ≤ n ∧ i = .int .i64 (k : Int) ∧ Hid (I k wr)) (fun i _ => n - (intOf i).toNat)
  case atStart => exact ⟨0, Nat.zero_le _, rfl, hide h0⟩
  case round =>
    obtain ⟨k, hk, rfl, HI⟩ := hrel
    by_cases hlt : k < n
    · obtain ⟨z, hz⟩ := HR.out k wr hlt HI.out
      obtain ⟨fn, tmps, assign, body, hy, hRd⟩ := HY.out k z wr hlt HI.out hz
      obtain ⟨b, o, rfl, hc⟩ := hz
      gi_wp2
      refine hRd.mono ?_
      rintro e W3 (⟨rfl, hJ3⟩ | ⟨rfl, hJx3⟩)
      · have HJ := hide hJ3
        clear hJ3
        gi_wp2
        go_roundw
        case rel => exact ⟨k + 1, by omega, by go_num, HJ⟩
        case measure => simp [intOf]; omega
      · have HJ := hide hJx3
        clear hJx3
        gi_wp2
        refine bodyPost_ret (results_none rfl _ _ _) rfl ?_
        exact ⟨⟨_, rfl⟩, .inr HJ.out⟩
    · obtain rfl : k = n := by omega
      gi_wp2
      go_end0
      exact ⟨⟨_, rfl⟩, .inl HI.out⟩

/-- How the body of a round may be left. -/
def RoundEnd (B : Nat) (I : Nat → World → Prop) (Ix : Code → World → Prop) (k : Nat) (W : World) : Exit → Act → World → Prop
  | .normal, _, W' => KeepsFrom B W W' ∧ I (k + 1) W'
  | .ret, _, W' => KeepsFrom B W W' ∧ Ix .ret W'
  | _, _, _ => False

theorem NumAt.put {A : Option Addr} {k r : Nat} {W : World} {z : Int} {o : Obj} (h : NumAt A k W z) (hr : W.heap[r]? = some o) (ho : o.isCells = false) (o' : Obj) : NumAt A k (W.putObj r o') z := by
  obtain ⟨b, q, e, hc⟩ := h
  exact ⟨b, q, e, cell_kept hc (grownBy_putObj' W r o') (fun j hj => by cases hj; exact ⟨o, hr, ho⟩)⟩

set_option maxHeartbeats 1000000 in
/-- The loop, whole. -/
theorem range_numbers {g : Operand} {ps : Array Tmp} {assign body : Code} {Q : Exit → Act → World → Prop} {a : Act} {w : World} (m n c : Nat) (A : Option Addr) (hm : 3 ≤ m) (hn : n ≤ 281474976710656)
    (hg : a.eval g = .func (.func 26) #[.slice A n c] #[]) (hps : ps.size = 2)
    (I : Nat → World → Prop) (Ix : Code → World → Prop) (hI : OwnFrom w.heap.size I) (hIx : OwnFrom w.heap.size Ix) (h0 : I 0 w)
    (hread : ∀ k W, k < n → I k W → ∃ z, NumAt A k W z) (a₁ : Nat → Int → Act)
    (hassign : ∀ (l k : Nat) (z : Int) (W : World) (K : Act → World → Prop), K (a₁ k z) W →
      assign.wpIn (Fence.wide.inRound l) (m - 1 - 1) Try.prog (Exit.then K (fun _ _ _ => False)) { tmps := (ps.zip #[.int .i64 (k : Int), .int .i32 z]).foldl (fun t (p, v) => t.setIfInBounds p v) a.tmps, defers := [] } W)
    (hbody : ∀ (l k : Nat) (z : Int) (W : World), k < n → I k W → NumAt A k W z → body.wpIn (Fence.wide.inRound l) (m - 1 - 1) Try.prog (RoundEnd w.heap.size I Ix k W) (a₁ k z) W)
    (hdone : ∀ (D : Nat) (W : World), w.heap.size ≤ D → I n W → W.heap[D]? = some (.deferred (some [])) → Q .normal { a with defers := { target := .collected D, args := #[] } :: a.defers } W)
    (hstop : ∀ (D : Nat) (j : Code) (W : World), w.heap.size ≤ D → Ix j W → W.heap[D]? = some (.deferred (some [])) → j.wpIn Fence.wide m Try.prog Q { a with defers := { target := .collected D, args := #[] } :: a.defers } W) :
    (Code.rangeFunc g ps assign body).wpIn Fence.wide m Try.prog Q a w := by
  refine wpIn_rangeFunc fun fn _ => ?_
  let rec' : LoopState → Option Code → Obj := fun st j => .loop { state := st, pending := j, fn, tmps := a.tmps, params := ps, assign, body, defers := w.heap.size }
  let D := w.heap.size
  let L := w.heap.size + 1
  let W1 := (w.alloc (.deferred (some []))).alloc (rec' .ready none)
  have hL1 : W1.heap[L]? = some (rec' .ready none) := by
    have := World.alloc_heap_new (w.alloc (.deferred (some []))) (rec' .ready none)
    rwa [World.size_alloc] at this
  have hD1 : W1.heap[D]? = some (.deferred (some [])) := (Below.heap_alloc _ _ _ (by simp [D])).trans (World.alloc_heap_new w _)
  have hI1 : I 0 W1 := hI.alloc _ (hI.alloc _ h0)
  refine ⟨L, [{ target := .collected D, args := #[] }], W1, { target := .fn (.func 26) #[], args := #[.slice A n c, .func (.yield L) #[] #[]] }, W1, 26,
    #[.slice A n c, .func (.yield L) #[] #[]], W1, run_enterLoop_outer _ _ _ _ _, ?_, fun _ _ => trivial, ?_, fun _ => by omega, ?_⟩
  · simp only [resolve, hg]
    simp [go_sem]
  · have he := enters_of Try.func26 (by kernel_rfl) rfl
    simp [invoke, go_sem, he _ _]
  -- the two blocks of the loop lie beside what the caller says
  have hnc : ∀ {r : Nat} {X : World} {o : Obj}, X.heap[r]? = some o → o.isCells = false → w.heap.size ≤ r → ∀ (o' : Obj), (∀ k, I k X → I k (X.putObj r o')) ∧ (∀ j, Ix j X → Ix j (X.putObj r o')) := fun hr ho hB o' =>
    ⟨fun k h => hI.putObj o' h hB hr ho, fun j h => hIx.putObj o' h hB hr ho⟩
  refine (visit_in (m - 1) L n c (by omega) A hn (fun k W => I k W ∧ W.heap[L]? = some (rec' .ready none) ∧ W.heap[D]? = some (.deferred (some [])))
    (fun W => ∃ j, Ix j W ∧ W.heap[L]? = some (rec' .done (some j)) ∧ W.heap[D]? = some (.deferred (some [])))
    (fun k W hk h => hread k W hk h.1) ?_ W1 ⟨hI1, hL1, hD1⟩).mono ?_
  · -- a round
    rintro k z W hk ⟨hi, hl, hd⟩ hz
    have hlt : L < W.heap.size := (Array.getElem?_eq_some_iff.1 hl).1
    refine ⟨fn, _, assign, body, run_yield hl (by rw [hps]; rfl), roundIn_of_wpIn trivial (hassign _ k z W _ ⟨_, run_beginRound hl rfl, ?_⟩)⟩
    have hl2 : (W.putObj L (rec' .busy none)).heap[L]? = some (rec' .busy none) := World.putObj_heap_same hlt
    have hd2 : (W.putObj L (rec' .busy none)).heap[D]? = some (.deferred (some [])) := (World.putObj_heap_other (by simp [D, L])).trans hd
    refine wpIn_mono (hbody _ k z _ hk ((hnc hl rfl (by simp [L]) _).1 k hi) (hz.put hl rfl _)) ?_
    rintro e a3 W3 hp
    cases e with
    | normal =>
      obtain ⟨hk3, hi3⟩ := hp
      have hl3 := hk3.same _ _ (by simp [L]) hl2 rfl
      have hd3 := hk3.same _ _ (by simp [D]) hd2 rfl
      exact ⟨_, _, run_endRound none hl3, .inl ⟨rfl, (hnc hl3 rfl (by simp [L]) _).1 _ hi3, World.putObj_heap_same (Array.getElem?_eq_some_iff.1 hl3).1, (World.putObj_heap_other (by simp [D, L])).trans hd3⟩⟩
    | ret =>
      obtain ⟨hk3, hi3⟩ := hp
      have hl3 := hk3.same _ _ (by simp [L]) hl2 rfl
      have hd3 := hk3.same _ _ (by simp [D]) hd2 rfl
      exact ⟨_, _, run_endRound (some .ret) hl3, .inr ⟨rfl, .ret, (hnc hl3 rfl (by simp [L]) _).2 _ hi3, World.putObj_heap_same (Array.getElem?_eq_some_iff.1 hl3).1, (World.putObj_heap_other (by simp [D, L])).trans hd3⟩⟩
    | exit id => exact hp.elim
    | goto t => exact hp.elim
    | panic ch => exact hp.elim
    | outgrown => exact hp.elim
  · -- behind the iterator
    rintro e W2 ⟨⟨v, rfl⟩, ⟨hi, hl, hd⟩ | ⟨j, hi, hl, hd⟩⟩
    · exact ⟨none, _, run_endLoop hl (by simp), hdone _ _ (Nat.le_refl _) ((hnc hl rfl (by simp [L]) _).1 _ hi) ((World.putObj_heap_other (by simp [D, L])).trans hd)⟩
    · exact ⟨some j, _, run_endLoop hl (by simp), hstop _ j _ (Nat.le_refl _) ((hnc hl rfl (by simp [L]) _).2 _ hi) ((World.putObj_heap_other (by simp [D, L])).trans hd)⟩

/-- A function that held such a loop returns: the mark is taken up first. -/
theorem markRet {P : Program} {F : Fence} {n : Nat} {fn : Func} {R : Ending → World → Prop} {a : Act} {w : World} {D : Nat} {v : Value} (hd : a.defers = [{ target := .collected D, args := #[] }]) (hK : w.heap[D]? = some (.deferred (some [])))
    (hr : (results fn a.tmps).run P (w.putObj D (.deferred none)) = .ok v (w.putObj D (.deferred none))) (hR : R (.returned v) (w.putObj D (.deferred none))) : bodyPostM F n P fn R .ret a w := by
  show LeavesInM F n P fn a.tmps R a.defers .returning w
  rw [hd]
  exact ⟨by simp, .inl ⟨_, _, rfl, run_takeDeferred hK, v, hr, hR⟩⟩

/-- It returns ahead of the loop. -/
theorem plainRet {P : Program} {F : Fence} {n : Nat} {fn : Func} {R : Ending → World → Prop} {a : Act} {w : World} {v : Value} (hd : a.defers = []) (hr : (results fn a.tmps).run P w = .ok v w) (hR : R (.returned v) w) : bodyPostM F n P fn R .ret a w := by
  show LeavesInM F n P fn a.tmps R a.defers .returning w
  rw [hd]
  exact ⟨v, hr, hR⟩

theorem heap_own {B : Nat} {W W' : World} {row : Option Nat} (hg : W.grownBy W' row) (hr : ∀ r, row = some r → B ≤ r ∧ ∃ o : Obj, W.heap[r]? = some o ∧ o.isCells = false) {g : Nat} {o : Obj} (h : W.heap[g]? = some o) (ho : o.isCells = true) : W'.heap[g]? = some o := by
  refine (hg.block g (lt_of_heap h) ?_).trans h
  intro e
  obtain ⟨_, o', ho', hc⟩ := hr g e.symm
  rw [h] at ho'
  cases ho'
  rw [ho] at hc
  cases hc

theorem below_put {B D : Nat} {w W : World} (h : Below B w W) (hB : B ≤ D) (hD : D < W.heap.size) (o : Obj) : Below B w (W.putObj D o) :=
  h.trans ((Below.refl B W).grown (grownBy_putObj' W D o) (by omega) (fun k e => by cases e; exact hB))

theorem heap_put {W : World} {D g : Nat} {o o' x : Obj} (hD : W.heap[D]? = some o) (ho : o.isCells = false) (h : W.heap[g]? = some o') (ho' : o'.isCells = true) : (W.putObj D x).heap[g]? = some o' :=
  (World.putObj_heap_other (by intro e; subst e; rw [hD] at h; cases h; rw [ho] at ho'; cases ho')).trans h

theorem keeps_below {B : Nat} {W W' : World} (h : Below W.heap.size W W') : KeepsFrom B W W' :=
  ⟨h.size, fun k _ _ hk _ => (h.block k (lt_of_heap hk)).trans hk⟩

theorem keeps_cells {B g : Nat} {W W' : World} {o : Obj} (h : W.grownBy W' (some g)) (hg : W.heap[g]? = some o) (ho : o.isCells = true) : KeepsFrom B W W' :=
  ⟨h.size, fun k x _ hk hx => (h.block k (lt_of_heap hk) (by intro e; cases e; rw [hg] at hk; cases hk; rw [ho] at hx; cases hx)).trans hk⟩

section
variable {P : Program} {w : World}

/-- append of a whole slice of integers, nil let in, onto a row of the call's own: a step of a region within a round. -/
theorem stepIn_append_ints {F : Fence} {m l : Nat} {op : Oper} {ops : Array Oper} {a : Act} {K : Act → World → Prop} {Q : Exit → Act → World → Prop} {E : Prop} (hF : ∀ f, (F.inRound l).fn f) (hgd : op.guard = none) (s x : Operand) (t : TypeId)
    (hop : op.op = .call { callee := .builtin .append, args := #[s, x], argTypes := #[t, t] })
    (e : TypeId) (i : TypeInfo) (z : Value) (bytes : Nat) (ht : P.underlying t = some (.slice e)) (hi : P.info? e = some i) (hz : i.zero = some z) (hsize : i.size = 1) (hby : i.bytes = bytes) (hzs : z.cells.size = 1)
    (base : Nat) (A0 : Option Addr) (n c0 N : Nat) (k : IntKind) (xs : List Int) (hs : a.eval s = .slice A0 n c0) (ho : w.ownsRow base e 1 (.slice A0 n c0) n (xs.map (Value.int k))) (hbase : base ≤ w.heap.size)
    (A : Option Addr) (q c : Nat) (zs : List Int) (hx : a.eval x = .slice A q c) (hn : Lies w A q (zs.map (Value.int k))) (hnil : A = none → c = 0) (hN : n + q = N) (hb : N * bytes ≤ 140737488355328) (h63 : N ≤ maxLen)
    (h : ∀ A' c' w', w'.ownsRow base e 1 (.slice A' N c') N ((xs ++ zs).map (Value.int k)) → w.grownBy w' (Value.slice A0 n c0).ownBlock → K (a.put op.dst (.slice A' N c')) w') :
    if Region.wanted op (yielded ops a.tmps) = true then Oper.wpIn (F.inRound l) m P op a w K Q else E := by
  have hw : Region.wanted op (yielded ops a.tmps) = true := by simp [Region.wanted, hgd]
  rw [if_pos hw]
  subst hN
  obtain ⟨A', c', w', hrun, h2, h3⟩ := run_append_src (P := P) (w := w) t op.type e i z bytes ht hi hz hsize hby hzs base (.slice A0 n c0) n _ ho hbase A q c _ hn hnil (by intro u hu; simp at hu; obtain ⟨_, _, rfl⟩ := hu; rfl) hb h63
  rw [← List.map_append] at h2
  refine ⟨fun f _ => hF f, ?_⟩
  rw [show (F.inRound l).round = some l from rfl, Oper.semAt_some l _ _ (by intro c e; rw [hop] at e; cases e)]
  simp [execOp, hop, resolve, invoke, builtin, hs, hx, hrun, Result.andThen, Oper.uponIn]
  exact h A' c' w' h2 h3

end

end Go.Proofs.Ytlalfjlcgabnnaa
