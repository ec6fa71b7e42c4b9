/- Merged: Tw10, Tw11, Gp3, Gp5, In10. -/
import Derived.Test.YteagmlaahnpkhaaGreatDoorWZ27
import Derived.Test.YteagmlaahnpkhaaGreatDoorWZ03
import Derived.Test.YteagmlaahnpkhaaGreatDoorWZ26
namespace Go.Proofs.YteagmlaahnpkhaaGreatDoor

section
open Go.RowKit
set_option linter.unusedVariables false
set_option linter.unusedSimpArgs false
set_option maxRecDepth 100000

/-- A copy of a node, its lists in the blocks g and h. -/
def twN (g h : Nat) (x : Nd) : Nd := ⟨x.kd, some ⟨g, 0, none⟩, x.ni, x.ni + 1, some ⟨h, 0, none⟩, x.ns, x.ns + 1, x.N, x.P, x.xs, x.sh⟩

/-- A list of numbers with the mark behind it, in a block of the call's own. -/
def MarkAt (w : World) (base g n : Nat) (zs : List Int) : Prop := w.ownsRow base 3 1 (.slice (some ⟨g, 0, none⟩) (n + 1) (n + 1)) (n + 1) (zs.map (Value.int .i64) ++ [.int .i64 77])

theorem MarkAt.kept {w w' : World} {base g n : Nat} {zs : List Int} {row : Option Nat} (h : MarkAt w base g n zs) (hg : w.grownBy w' row) (hr : row ≠ some g) : MarkAt w' base g n zs :=
  World.ownsRow.kept h hg (.inr (by simp only [Value.ownBlock]; exact fun e => hr e.symm))

theorem MarkAt.below {w w' : World} {base g n : Nat} {zs : List Int} (h : MarkAt w base g n zs) (hb : Below w.heap.size w w') : MarkAt w' base g n zs := own_below h hb

theorem MarkAt.base {w : World} {b b' g n : Nat} {zs : List Int} (h : MarkAt w b g n zs) (hb : b' ≤ b) : MarkAt w b' g n zs := own_base h hb

theorem MarkAt.lt {w : World} {base g n : Nat} {zs : List Int} (h : MarkAt w base g n zs) : base ≤ g ∧ g < w.heap.size := World.ownsRow.lt h g rfl

theorem MarkAt.lies {w : World} {base g n : Nat} {zs : List Int} (h : MarkAt w base g n zs) (hl : zs.length = n) : Lies w (some ⟨g, 0, none⟩) n (zs.map (Value.int .i64)) := by
  have h1 := (lies_of_own h).take (k := n) (by omega)
  rw [List.take_left' (by simp [hl])] at h1
  exact h1

/-- A node whose lists lie in blocks of the call's own, with marks. -/
def TwNd (w : World) (base : Nat) (t : Nd) : Prop := ∃ g h, t.I = some ⟨g, 0, none⟩ ∧ t.S = some ⟨h, 0, none⟩ ∧ g < h ∧ t.ci = t.ni + 1 ∧ t.cs = t.ns + 1 ∧ t.xs.length = t.ni ∧ t.sh.length = t.ns ∧ MarkAt w base g t.ni t.xs ∧ MarkAt w base h t.ns t.sh ∧ t.ni ≤ 1073741824 ∧ t.ns ≤ 1073741824 ∧ (0 ≤ t.kd ∧ t.kd < 256) ∧ (-9223372036854775808 ≤ t.N ∧ t.N < 9223372036854775808) ∧ (-9223372036854775808 ≤ t.P ∧ t.P < 9223372036854775808)

theorem TwNd.ok {w : World} {base : Nat} {t : Nd} (h : TwNd w base t) : t.Ok w := by
  obtain ⟨g, k, e1, e2, _, e3, e4, e5, e6, m1, m2, l1, l2, b1, b2, b3⟩ := h
  exact ⟨by rw [e1]; exact m1.lies e5, by rw [e2]; exact m2.lies e6, by omega, by omega, by omega, by omega, b1, b2, b3⟩

theorem TwNd.kept {w w' : World} {base : Nat} {t : Nd} {row : Option Nat} (h : TwNd w base t) (hg : w.grownBy w' row) (hr : ∀ k, row = some k → (t.I ≠ some ⟨k, 0, none⟩ ∧ t.S ≠ some ⟨k, 0, none⟩)) : TwNd w' base t := by
  obtain ⟨g, k, e1, e2, e0, e3, e4, e5, e6, m1, m2, r⟩ := h
  refine ⟨g, k, e1, e2, e0, e3, e4, e5, e6, m1.kept hg (fun e => (hr g e).1 e1), m2.kept hg (fun e => (hr k e).2 e2), r⟩

theorem TwNd.below {w w' : World} {base : Nat} {t : Nd} (h : TwNd w base t) (hb : Below w.heap.size w w') : TwNd w' base t :=
  h.kept (row := none) ⟨hb.os, hb.tape, hb.output, hb.size, fun i hi _ => hb.block i hi⟩ (fun k hk => by cases hk)

theorem TwNd.base {w : World} {b b' : Nat} {t : Nd} (h : TwNd w b t) (hb : b' ≤ b) : TwNd w b' t := by
  obtain ⟨g, k, e1, e2, e0, e3, e4, e5, e6, m1, m2, r⟩ := h
  exact ⟨g, k, e1, e2, e0, e3, e4, e5, e6, m1.base hb, m2.base hb, r⟩

theorem TwNd.spot {w : World} {base : Nat} {t : Nd} (h : TwNd w base t) : ∀ k, (t.I = some ⟨k, 0, none⟩ ∨ t.S = some ⟨k, 0, none⟩) → base ≤ k ∧ k < w.heap.size := by
  obtain ⟨g, q, e1, e2, _, _, _, _, _, m1, m2, _⟩ := h
  intro k hk
  rcases hk with hk | hk
  · rw [e1] at hk; injection hk with hk; injection hk with hk; subst hk; exact m1.lt
  · rw [e2] at hk; injection hk with hk; injection hk with hk; subst hk; exact m2.lt

/-- Five stores into a node's block. -/
theorem BoxN.set5 {w : World} {p : Nat} {x y : Nd} (h : BoxN w p x) : BoxN (((((w.setCell ⟨p, 0, none⟩ (.int .u8 y.kd)).setCell ⟨p, 1, none⟩ (.slice y.I y.ni y.ci)).setCell ⟨p, 2, none⟩ (.slice y.S y.ns y.cs)).setCell ⟨p, 3, none⟩ (.int .i64 y.N)).setCell ⟨p, 4, none⟩ (.int .i64 y.P)) p y := by
  unfold BoxN at h ⊢
  have h1 := heap_setCell_same w p 0 _ _ (.int .u8 y.kd) h
  have h2 := heap_setCell_same _ p 1 _ _ (.slice y.I y.ni y.ci) h1
  have h3 := heap_setCell_same _ p 2 _ _ (.slice y.S y.ns y.cs) h2
  have h4 := heap_setCell_same _ p 3 _ _ (.int .i64 y.N) h3
  have h5 := heap_setCell_same _ p 4 _ _ (.int .i64 y.P) h4
  simpa using h5

theorem grown_set (w : World) (p k : Nat) (v : Value) : w.grownBy (w.setCell ⟨p, k, none⟩ v) (some p) :=
  ⟨rfl, rfl, rfl, by simp [World.setCell], fun i _ hi => heap_setCell_other _ _ _ _ (by simpa using hi)⟩

theorem grown_set5 (w : World) (p : Nat) (a b c d e : Value) : w.grownBy (((((w.setCell ⟨p, 0, none⟩ a).setCell ⟨p, 1, none⟩ b).setCell ⟨p, 2, none⟩ c).setCell ⟨p, 3, none⟩ d).setCell ⟨p, 4, none⟩ e) (some p) :=
  grown_trans (grown_trans (grown_trans (grown_trans (grown_set w p 0 a) (grown_set _ p 1 b)) (grown_set _ p 2 c)) (grown_set _ p 3 d)) (grown_set _ p 4 e)

theorem results_nd {fn : Func} {p : Tmp} (h : fn.results = #[.cell p 52]) (tmps : Array Value) (w : World) (g : Nat) (cs : Array Value)
    (hp : tmps.getD p undef = .pointer (some ⟨g, 0, none⟩)) (hg : w.heap[g]? = some (.cells cs 52 (0, 0))) (hs : cs.size = 5) :
    (results fn tmps).run Tryz.prog w = .ok (.agg cs) w :=
  results_cell_row h tmps w g 52 cs (0, 0) _ hp hg Tryz.underlying52 rfl (by rw [hs]; kernel_rfl)

theorem ret_nd {fn : Func} {p : Tmp} {R : Ending → World → Prop} {a : Act} {w : World} (h : fn.results = #[.cell p 52]) (hd : a.defers = []) (g : Nat) (cs : Array Value)
    (hp : a.tmps.getD p undef = .pointer (some ⟨g, 0, none⟩)) (hg : w.heap[g]? = some (.cells cs 52 (0, 0))) (hs : cs.size = 5) (hR : R (.returned (.agg cs)) w) : bodyPost Tryz.prog fn R .ret a w :=
  bodyPost_ret (results_nd h _ w g cs hp hg hs) hd hR

end

section
open Go.RowKit
set_option linter.unusedVariables false
set_option linter.unusedSimpArgs false
set_option maxRecDepth 100000

/-- A node without where its lists lie. -/
def pl (x : Nd) : Nd := { x with I := none, ni := 0, ci := 0, S := none, ns := 0, cs := 0 }

/-- No two nodes' lists share a block. -/
def TwAp (ts : List Nd) : Prop := ts.Pairwise (fun t u => ∀ h g, t.S = some ⟨h, 0, none⟩ → u.I = some ⟨g, 0, none⟩ → h < g)

/-- The cells of the mark behind a list of nodes. -/
def mark5 : List Value := [.int .u8 0, .slice none 0 0, .slice none 0 0, .int .i64 77, .int .i64 0]

/-- A list of nodes of the call's own, a mark behind it. -/
def TwAll (w : World) (base g n : Nat) (ns ts : List Nd) : Prop :=
  ts.map pl = ns.map pl ∧ ts.length = n ∧ w.ownsRow base 52 5 (.slice (some ⟨g, 0, none⟩) (n + 1) (n + 1)) (n + 1) (cellsN ts ++ mark5) ∧ (∀ t ∈ ts, TwNd w (g + 1) t) ∧ TwAp ts

theorem TwAll.below {w w' : World} {base g n : Nat} {ns ts : List Nd} (h : TwAll w base g n ns ts) (hb : Below w.heap.size w w') : TwAll w' base g n ns ts :=
  ⟨h.1, h.2.1, own_keep10 h.2.2.1 hb, fun t ht => (h.2.2.2.1 t ht).below hb, h.2.2.2.2⟩

theorem TwAll.base {w : World} {b b' g n : Nat} {ns ts : List Nd} (h : TwAll w b g n ns ts) (hb : b' ≤ b) : TwAll w b' g n ns ts :=
  ⟨h.1, h.2.1, ⟨h.2.2.1.1, by
    rcases h.2.2.1.2 with e | ⟨q, cap, cur, e, h1, r⟩
    · exact .inl e
    · exact .inr ⟨q, cap, cur, e, by omega, r⟩⟩, h.2.2.2⟩

theorem TwAll.lt {w : World} {base g n : Nat} {ns ts : List Nd} (h : TwAll w base g n ns ts) : base ≤ g ∧ g < w.heap.size := h.2.2.1.lt g rfl

theorem TwAll.ns {w : World} {base g n : Nat} {ns ts : List Nd} (h : TwAll w base g n ns ts) : NsIn w (some ⟨g, 0, none⟩) n ts :=
  ⟨h.2.1, fun hn => by
    obtain ⟨g', e, _, hg, hx⟩ := ownN_cells h.2.2.1 (by omega)
    injection e with e
    injection e with e
    subst e
    refine ⟨g, 0, rfl, hg, fun j x hj => ?_⟩
    have hjl := (List.getElem?_eq_some_iff.1 hj).1
    obtain ⟨h0, h1, h2, h3, h4⟩ := cellsN_at ts j x hj
    have hl := cellsN_len ts
    have k : ∀ i, i < ts.length * 5 → ∀ u, (cellsN ts)[i]? = some u → w.cell? ⟨g, i, none⟩ = some u := fun i hi u hu => hx i u (by rw [List.getElem?_append_left (by omega)]; exact hu)
    rw [Nat.zero_add]
    exact ⟨k _ (by omega) _ h0, k _ (by omega) _ h1, k _ (by omega) _ h2, k _ (by omega) _ h3, k _ (by omega) _ h4, (h.2.2.2.1 x (List.mem_of_getElem? hj)).ok⟩⟩

theorem pl_len {ns ts : List Nd} (h : ts.map pl = ns.map pl) : ts.length = ns.length := by
  have := congrArg List.length h
  simpa using this

theorem twinApp {w w1 w2 : World} {g k : Nat} {ns ts : List Nd} {x : Nd} {a b : Nat} (hx : ns[k]? = some x) (hp : ts.map pl = (ns.take k).map pl) (hts : ∀ t ∈ ts, TwNd w (g + 1) t) (hap : TwAp ts) (hb : Below w.heap.size w w1) (ht : TwNd w1 w.heap.size (twN a b x)) (hg : w1.grownBy w2 (some g)) (hgw : g + 1 ≤ w.heap.size) :
    (ts ++ [twN a b x]).map pl = (ns.take (k + 1)).map pl ∧ (∀ t ∈ ts ++ [twN a b x], TwNd w2 (g + 1) t) ∧ TwAp (ts ++ [twN a b x]) := by
  refine ⟨?_, fun t htm => ?_, ?_⟩
  · rw [take_oneN hx, List.map_append, List.map_append, hp]; rfl
  · have hne : ∀ (t : Nd) (bs : Nat) (v : World), TwNd v bs t → g + 1 ≤ bs → ∀ q, some g = some q → (t.I ≠ some ⟨q, 0, none⟩ ∧ t.S ≠ some ⟨q, 0, none⟩) := fun t bs v h hbs q hq => by
      injection hq with hq
      subst hq
      exact ⟨fun e => by have := (h.spot g (.inl e)).1; omega, fun e => by have := (h.spot g (.inr e)).1; omega⟩
    rcases List.mem_append.1 htm with h | h
    · exact ((hts t h).below hb).kept hg (hne t (g + 1) w1 ((hts t h).below hb) (Nat.le_refl _))
    · rw [List.mem_singleton.1 h]
      exact (ht.kept hg (hne _ w.heap.size w1 ht hgw)).base hgw
  · unfold TwAp
    rw [List.pairwise_append]
    refine ⟨hap, List.pairwise_singleton _ _, fun t htm u hu q p e1 e2 => ?_⟩
    rw [List.mem_singleton.1 hu] at e2
    have h1 := ((hts t htm).spot q (.inr e1)).2
    have h2 := (ht.spot p (.inl e2)).1
    omega

end

section
open Go.RowKit
set_option linter.unusedVariables false
set_option linter.unusedSimpArgs false
set_option maxRecDepth 100000

theorem inIx_lt {ns : List Nd} (h : 0 ≤ inIx ns) : (inIx ns).toNat < ns.length := by
  have := inIx_ge ns
  omega

/-- A graph that may be, with one node more. -/
theorem gph_snoc {ns : List Nd} {x : Nd} (hb : gphB ns = true) : gphB (ns ++ [x]) = (decide (ns.length < 32) && decide (x.kd ≠ 1) && decide (x.kd ≠ 2) && fitN x (gphS ns)) := by
  obtain ⟨he, ss, hs, e⟩ := gphB_parts hb
  obtain ⟨e1, e2, e3, e4⟩ := endsOk_parts he
  have hl := inIx_lt e2
  have hi : inIx (ns ++ [x]) = inIx ns := by rw [inIx_snoc, if_neg (by omega)]
  have hd : (ns ++ [x]).drop ((inIx ns).toNat + 1) = ns.drop ((inIx ns).toNat + 1) ++ [x] := List.drop_append_of_le_length (by omega)
  have h3 := inIx_ge (ns.drop ((inIx ns).toNat + 1))
  have h4 : inIx (ns.drop ((inIx ns).toNat + 1)) = -1 := by omega
  have hla : lastOk (ns ++ [x]) = (!(x.kd == 1) && (x.kd != 2)) := lastOk_at (by simp)
  have hall : allSh (ns ++ [x]) [] = if fitN x ss = true then some (ss ++ [shN x ss]) else none := by
    rw [allSh_append, hs]
    show allSh [x] ss = _
    rw [allSh]
    split <;> rfl
  rw [e]
  cases hq : (decide (ns.length < 32) && decide (x.kd ≠ 1) && decide (x.kd ≠ 2) && fitN x ss) with
  | true =>
    simp only [Bool.and_eq_true, decide_eq_true_eq] at hq
    obtain ⟨⟨⟨q1, q2⟩, q3⟩, q4⟩ := hq
    refine gphB_mk (endsOk_mk (by simp; omega) (by omega) ?_ ?_) (by rw [hall, if_pos q4])
    · rw [hi, hd, inIx_snoc, if_pos h4, if_neg q2]; omega
    · rw [hla]; simp [q2, q3]
  | false =>
    cases hg : gphB (ns ++ [x]) with
    | false => rfl
    | true =>
      exfalso
      obtain ⟨he2, ts, ht, _⟩ := gphB_parts hg
      obtain ⟨d1, d2, d3, d4⟩ := endsOk_parts he2
      rw [hla] at d4
      simp only [Bool.and_eq_true, Bool.not_eq_true', beq_eq_false_iff_ne, bne_iff_ne] at d4
      have hf : fitN x ss = true := by
        rw [hall] at ht
        split at ht
        · assumption
        · cases ht
      have : (decide (ns.length < 32) && decide (x.kd ≠ 1) && decide (x.kd ≠ 2) && fitN x ss) = true := by
        simp only [Bool.and_eq_true, decide_eq_true_eq]
        refine ⟨⟨⟨?_, d4.1⟩, d4.2⟩, hf⟩
        simp at d1
        omega
      rw [this] at hq
      cases hq

theorem gphS_snoc {ns : List Nd} {x : Nd} (hb : gphB ns = true) (h2 : gphB (ns ++ [x]) = true) : gphS (ns ++ [x]) = gphS ns ++ [shN x (gphS ns)] := by
  obtain ⟨_, ss, hs, e⟩ := gphB_parts hb
  obtain ⟨_, ts, ht, e2⟩ := gphB_parts h2
  rw [e, e2]
  rw [allSh_append, hs] at ht
  have ht' : allSh [x] ss = some ts := ht
  rw [allSh] at ht'
  split at ht'
  · injection ht' with h; exact h.symm
  · cases ht'

/-- Nodes that take in one, and change no shape. -/
theorem fit_relu (a : Option Addr) (N : Int) (z : Int) (ss : List (List Int)) : fitN ⟨5, a, 1, 1, none, 0, 0, N, 0, [z], []⟩ ss = (decide (N = 0) && decide (0 ≤ z ∧ z < (ss.length : Int))) := by
  have e : (5 : Int).toNat = 5 := rfl
  by_cases hN : N = 0
  · subst hN
    simp [fitN, alw, rlT, allKn, nodeE, lOk, e]
  · have : ¬ (0 ≤ N ∧ N ≤ 0) := by omega
    simp [fitN, alw, rlT, allKn, nodeE, lOk, e, hN]
    omega

theorem fit_shift (a : Option Addr) (N : Int) (z : Int) (ss : List (List Int)) : fitN ⟨6, a, 1, 1, none, 0, 0, N, 0, [z], []⟩ ss = (decide (0 ≤ N ∧ N ≤ 31) && decide (0 ≤ z ∧ z < (ss.length : Int))) := by
  have e : (6 : Int).toNat = 6 := rfl
  simp [fitN, alw, rlT, allKn, nodeE, lOk, e]

theorem fit_relu2 (a : Option Addr) (z y : Int) (ss : List (List Int)) : fitN ⟨5, a, 2, 2, none, 0, 0, 0, 0, [z, y], []⟩ ss = false := by
  have e : (5 : Int).toNat = 5 := rfl
  simp [fitN, alw, rlT, allKn, nodeE, lOk, e]

theorem sh_relu (a : Option Addr) (N : Int) (k : Nat) (ss : List (List Int)) : shN ⟨5, a, 1, 1, none, 0, 0, N, 0, [(k : Int)], []⟩ ss = ss.getD k [] := by
  show knL ss [(k : Int)] 0 = _
  have e0 : ([(k : Int)].getD 0 0).toNat = k := rfl
  rw [knL, e0, List.getD_eq_getElem?_getD]
  cases ss[k]? <;> rfl

end

section
open Go.RowKit
set_option linter.unusedVariables false
set_option linter.unusedSimpArgs false
set_option maxRecDepth 100000

/-- One further on, from k on. -/
def upK (k : Nat) (z : Int) : Int := if (k : Int) ≤ z then z + 1 else z

def sxK (k : Nat) (x : Nd) : Nd := { x with xs := x.xs.map (upK k) }

def insL {α : Type} (us : List α) (k : Nat) (s : α) : List α := us.take k ++ s :: us.drop k

theorem jA_congr {K K' : Nat → List Int} {d : Nat} : ∀ n, (∀ j, j ≤ n → K j = K' j) → jA K d n = jA K' d n
  | 0, h => by rw [jA, jA, h 0 (Nat.le_refl _)]
  | n + 1, h => by rw [jA, jA, jA_congr n (fun j hj => h j (by omega)), h (n + 1) (Nat.le_refl _)]

theorem jE_congr {K K' : Nat → List Int} {m : Nat} (hm : 1 ≤ m) (h : ∀ j, j < m → K j = K' j) (d : Int) : jE K m d = jE K' m d ∧ jS K m d = jS K' m d := by
  have h0 := h 0 (by omega)
  have hA : ∀ d', jAll K d' (m - 1) = jAll K' d' (m - 1) := fun d' => by
    rw [jAll, jAll, Bool.eq_iff_iff, List.all_eq_true, List.all_eq_true]
    constructor
    · intro hh j hj
      have h1 := h (j + 1) (by have := List.mem_range.1 hj; omega)
      rw [← h1, ← h0]; exact hh j hj
    · intro hh j hj
      have h1 := h (j + 1) (by have := List.mem_range.1 hj; omega)
      rw [h1, h0]; exact hh j hj
  have hZ : ∀ d', jZ K d' (m - 1) = jZ K' d' (m - 1) := fun d' => by rw [jZ, jZ, h0, jA_congr (m - 1) (fun j hj => h j (by omega))]
  have hE : jE K m d = jE K' m d := by rw [jE, jE, h0, hA, hZ]
  exact ⟨hE, by rw [jS, jS, hE, hZ]⟩

/-- A node's shape hangs on the shapes of what it takes in alone. -/
theorem node_congr {x y : Nd} {K K' : Nat → List Int} {d : Nat} (h1 : 1 ≤ d) (h13 : d ≤ 13) (ha : alw (rlT d) x = true) (hl : y.xs.length = x.xs.length) (hN : y.N = x.N) (hP : y.P = x.P) (hs : y.sh = x.sh) (h : ∀ j, j < x.xs.length → K' j = K j) : nodeE y K' d = nodeE x K d ∧ nodeS y K' d = nodeS x K d := by
  obtain ⟨ha1, _⟩ := alw_parts ha
  match d, h1, h13 with
  | 1, _, _ => exact ⟨rfl, hs⟩
  | 2, _, _ => exact ⟨rfl, hs⟩
  | 3, _, _ => simp only [rlT] at ha1; have q0 := h 0 (by omega); have q1 := h 1 (by omega); simp only [nodeE, nodeS, q0, q1, and_self]
  | 4, _, _ => simp only [rlT] at ha1; have q0 := h 0 (by omega); have q1 := h 1 (by omega); simp only [nodeE, nodeS, q0, q1, and_self]
  | 5, _, _ => simp only [rlT] at ha1; have q0 := h 0 (by omega); simp only [nodeE, nodeS, q0, and_self]
  | 6, _, _ => simp only [rlT] at ha1; have q0 := h 0 (by omega); simp only [nodeE, nodeS, q0, and_self]
  | 7, _, _ => simp only [rlT] at ha1; have q0 := h 0 (by omega); have q1 := h 1 (by omega); simp only [nodeE, nodeS, q0, q1, and_self]
  | 8, _, _ => simp only [rlT] at ha1; have q0 := h 0 (by omega); have q1 := h 1 (by omega); simp only [nodeE, nodeS, q0, q1, hN, hP, and_self]
  | 9, _, _ => simp only [rlT] at ha1; have q0 := h 0 (by omega); simp only [nodeE, nodeS, q0, hN, and_self]
  | 10, _, _ => simp only [rlT] at ha1; have q0 := h 0 (by omega); simp only [nodeE, nodeS, q0, hs, and_self]
  | 11, _, _ => simp only [rlT] at ha1; have q0 := h 0 (by omega); simp only [nodeE, nodeS, q0, hs, and_self]
  | 12, _, _ => simp only [rlT] at ha1; simp only [nodeE, nodeS, hN, hl]; exact jE_congr (by omega) (fun j hj => h j (by omega)) x.N
  | 13, _, _ => simp only [rlT] at ha1; have q0 := h 0 (by omega); simp only [nodeE, nodeS, q0, hN, and_self]

theorem insL_at {α : Type} {us : List α} {k i : Nat} {s : α} (hk : k ≤ us.length) (hi : i < us.length) : (insL us k s)[if k ≤ i then i + 1 else i]? = us[i]? := by
  have hl : (us.take k).length = k := by rw [List.length_take]; omega
  rw [insL]
  by_cases h : k ≤ i
  · rw [if_pos h, List.getElem?_append_right (by omega), hl, show i + 1 - k = (i - k) + 1 by omega, List.getElem?_cons_succ, List.getElem?_drop]
    congr 1
    omega
  · rw [if_neg h, List.getElem?_append_left (by omega), List.getElem?_take, if_pos (by omega)]

theorem knL_ins {us : List (List Int)} {xs : List Int} {k j : Nat} {s : List Int} (hk : k ≤ us.length) (hal : allKn xs us.length = true) (hj : j < xs.length) : knL (insL us k s) (xs.map (upK k)) j = knL us xs j := by
  have hx := List.all_eq_true.1 hal (xs[j]) (List.getElem_mem hj)
  simp only [Bool.and_eq_true, decide_eq_true_eq] at hx
  obtain ⟨i, hi⟩ := Int.eq_ofNat_of_zero_le hx.1
  have hin : i < us.length := by omega
  have e : xs.getD j 0 = (i : Int) := by rw [← hi]; simp [List.getD, hj]
  have e2 : (xs.map (upK k)).getD j 0 = ((if k ≤ i then i + 1 else i : Nat) : Int) := by
    have : (xs.map (upK k)).getD j 0 = upK k xs[j] := by simp [List.getD, hj]
    rw [this, hi, upK]
    by_cases h : k ≤ i
    · rw [if_pos (by omega), if_pos h]; omega
    · rw [if_neg (by omega), if_neg h]
  rw [knL, knL, e, e2, Int.toNat_natCast, Int.toNat_natCast, insL_at hk hin]

theorem insL_len {α : Type} {us : List α} {k : Nat} {s : α} (hk : k ≤ us.length) : (insL us k s).length = us.length + 1 := by
  simp [insL]; omega

theorem fit_ins {x : Nd} {us : List (List Int)} {k : Nat} {s : List Int} (hk : k ≤ us.length) (h : fitN x us = true) : fitN (sxK k x) (insL us k s) = true ∧ shN (sxK k x) (insL us k s) = shN x us := by
  obtain ⟨h1, h2, h3, h4⟩ := fitN_parts h
  have hl : (sxK k x).xs.length = x.xs.length := List.length_map _
  obtain ⟨c1, c2⟩ := node_congr (y := sxK k x) (K := knL us x.xs) (K' := knL (insL us k s) (sxK k x).xs) (by omega) (by omega) h2 hl rfl rfl rfl (fun j hj => knL_ins hk h3 hj)
  refine ⟨fitN_mk h1 ?_ ?_ (c1.trans h4), c2⟩
  · simp only [alw, hl] at h2 ⊢; exact h2
  · refine List.all_eq_true.2 fun z hz => ?_
    obtain ⟨y, hy, rfl⟩ := List.mem_map.1 hz
    have hx := List.all_eq_true.1 h3 y hy
    simp only [Bool.and_eq_true, decide_eq_true_eq] at hx ⊢
    rw [insL_len hk, upK]
    split <;> omega

theorem allSh_ins : ∀ (r : List Nd) (us ts : List (List Int)) (k : Nat) (s : List Int), k ≤ us.length → allSh r us = some ts → allSh (r.map (sxK k)) (insL us k s) = some (insL ts k s)
  | [], us, ts, k, s, hk, h => by rw [allSh] at h; cases h; rfl
  | x :: r, us, ts, k, s, hk, h => by
    rw [allSh] at h
    split at h
    · next hf =>
      obtain ⟨f1, f2⟩ := fit_ins (s := s) hk hf
      rw [List.map_cons, allSh, if_pos f1, f2]
      have e : insL us k s ++ [shN x us] = insL (us ++ [shN x us]) k s := by
        rw [insL, insL, List.take_append_of_le_length hk, List.drop_append_of_le_length hk]
        simp
      rw [e]
      exact allSh_ins r _ ts k s (by simp; omega) h
    · cases h

/-- How many nodes of a kind there are. -/
def ctN (d : Int) : List Nd → Nat
  | [] => 0
  | x :: r => (if x.kd = d then 1 else 0) + ctN d r

theorem ctN_append (d : Int) : ∀ a b : List Nd, ctN d (a ++ b) = ctN d a + ctN d b
  | [], b => by simp [ctN]
  | x :: r, b => by rw [List.cons_append, ctN, ctN, ctN_append d r b]; omega

theorem ctN_map (d : Int) (k : Nat) : ∀ a : List Nd, ctN d (a.map (sxK k)) = ctN d a
  | [] => rfl
  | x :: r => by rw [List.map_cons, ctN, ctN, ctN_map d k r]; rfl

theorem wt_ct : ∀ (i : Nat) (ns : List Nd), (wtF i ns).length = ctN 2 ns
  | _, [] => rfl
  | i, x :: r => by
    rw [wtF, ctN]
    by_cases h : x.kd = 2
    · rw [if_pos h, if_pos h, List.length_cons, wt_ct (i + 1) r]; omega
    · rw [if_neg h, if_neg h, wt_ct (i + 1) r]; omega

theorem in_ct0 : ∀ ns : List Nd, inIx ns < 0 ↔ ctN 1 ns = 0
  | [] => by simp [inIx, ctN]
  | x :: r => by
    have ih := in_ct0 r
    have h2 := inIx_ge r
    rw [inIx, ctN]
    by_cases h : x.kd = 1
    · rw [if_pos h, if_pos h]; omega
    · rw [if_neg h, if_neg h]
      by_cases h3 : inIx r = -1
      · rw [if_pos h3]; omega
      · rw [if_neg h3]; omega

theorem in_ct1 : ∀ ns : List Nd, (0 ≤ inIx ns ∧ inIx (ns.drop ((inIx ns).toNat + 1)) < 0) ↔ ctN 1 ns = 1
  | [] => by simp [inIx, ctN]
  | x :: r => by
    have ih := in_ct1 r
    have h0 := in_ct0 r
    have h2 := inIx_ge r
    rw [inIx, ctN]
    by_cases h : x.kd = 1
    · rw [if_pos h, if_pos h]
      simp only [Int.toNat_zero, Nat.zero_add, List.drop_succ_cons, List.drop_zero]
      omega
    · rw [if_neg h, if_neg h]
      by_cases h3 : inIx r = -1
      · rw [if_pos h3]; omega
      · rw [if_neg h3, Int.toNat_add (by omega) (by omega), show (inIx r).toNat + Int.toNat 1 + 1 = ((inIx r).toNat + 1) + 1 from rfl, List.drop_succ_cons]
        constructor
        · intro hh; have := ih.1 ⟨by omega, hh.2⟩; omega
        · intro hh; have := ih.2 (by omega); omega

theorem fit_weight {y : Nd} (h1 : y.kd = 2) (h2 : y.xs = []) (h3 : y.N = 0) (h4 : y.P = 0) (ss : List (List Int)) : fitN y ss = decide (0 < sizeI y.sh) ∧ shN y ss = y.sh := by
  have e : (2 : Int).toNat = 2 := rfl
  constructor
  · rw [fitN, h1, e]
    simp [alw, rlT, lOk, allKn, nodeE, h2, h3, h4]
  · rw [shN, h1, e]; rfl

/-- A weight more ahead of the k-th node. -/
theorem gph_ins {ns : List Nd} {k : Nat} {y : Nd} (hb : gphB ns = true) (h31 : ns.length ≤ 31) (hk : k < ns.length) (h1 : y.kd = 2) (h2 : y.xs = []) (h3 : y.N = 0) (h4 : y.P = 0) :
    gphB (ns.take k ++ y :: (ns.drop k).map (sxK k)) = decide (0 < sizeI y.sh) ∧ (0 < sizeI y.sh → gphS (ns.take k ++ y :: (ns.drop k).map (sxK k)) = insL (gphS ns) k y.sh) := by
  obtain ⟨he, ss, hs, e⟩ := gphB_parts hb
  obtain ⟨e1, e2, e3, e4⟩ := endsOk_parts he
  obtain ⟨f1, f2⟩ := fit_weight h1 h2 h3 h4 (ss.take k)
  have hsl := allSh_len hs
  have hall : allSh (ns.take k ++ y :: (ns.drop k).map (sxK k)) [] = if 0 < sizeI y.sh then some (insL ss k y.sh) else none := by
    rw [allSh_append, allSh_take hs k (by omega)]
    show allSh (y :: (ns.drop k).map (sxK k)) (ss.take k) = _
    rw [allSh, f1, f2]
    by_cases hz : 0 < sizeI y.sh
    · rw [if_pos (decide_eq_true hz), if_pos hz]
      have hd : allSh (ns.drop k) (ss.take k) = some ss := by
        have h := hs
        rw [← List.take_append_drop k ns, allSh_append, allSh_take hs k (by omega)] at h
        exact h
      have hi := allSh_ins (ns.drop k) (ss.take k) ss k y.sh (by rw [List.length_take]; omega) hd
      have e9 : insL (ss.take k) k y.sh = ss.take k ++ [y.sh] := by
        rw [insL, List.take_of_length_le (by rw [List.length_take]; omega), List.drop_of_length_le (by rw [List.length_take]; omega)]
      rw [e9] at hi
      exact hi
    · rw [if_neg hz, decide_eq_false hz]; rfl
  have hends : endsOk (ns.take k ++ y :: (ns.drop k).map (sxK k)) = true := by
    have hc : ctN 1 (ns.take k ++ y :: (ns.drop k).map (sxK k)) = 1 := by
      rw [ctN_append, ctN, ctN_map, h1, if_neg (by omega), Nat.zero_add, ← ctN_append, List.take_append_drop]
      exact (in_ct1 ns).1 ⟨e2, e3⟩
    obtain ⟨c1, c2⟩ := (in_ct1 _).2 hc
    refine endsOk_mk (by simp; omega) c1 c2 ?_
    have hla : ∃ x, ns[ns.length - 1]? = some x := ⟨ns[ns.length - 1]'(by omega), List.getElem?_eq_getElem (by omega)⟩
    obtain ⟨x, hx⟩ := hla
    rw [lastOk_at hx] at e4
    have hl2 : (ns.take k ++ y :: (ns.drop k).map (sxK k)).length = ns.length + 1 := by simp; omega
    rw [lastOk_at (x := sxK k x) ?_]
    · exact e4
    · rw [hl2, List.getElem?_append_right (by rw [List.length_take]; omega), List.length_take, Nat.min_eq_left (by omega), show ns.length + 1 - 1 - k = (ns.length - 1 - k) + 1 by omega, List.getElem?_cons_succ, List.getElem?_map, List.getElem?_drop, show k + (ns.length - 1 - k) = ns.length - 1 by omega, hx]
      rfl
  refine ⟨?_, fun hz => ?_⟩
  · rw [gphB, hends, hall]
    by_cases hz : 0 < sizeI y.sh
    · rw [if_pos hz, decide_eq_true hz]; rfl
    · rw [if_neg hz, decide_eq_false hz]; rfl
  · rw [gphS, if_pos (by rw [gphB, hends, hall, if_pos hz]; rfl), hall, if_pos hz, e]
    rfl

theorem wt_ins {ns : List Nd} {k : Nat} {y : Nd} (h1 : y.kd = 2) : (wtF 0 (ns.take k ++ y :: (ns.drop k).map (sxK k))).length = (wtF 0 ns).length + 1 := by
  rw [wt_ct, wt_ct, ctN_append, ctN, ctN_map, h1, if_pos rfl]
  have h := ctN_append 2 (ns.take k) (ns.drop k)
  rw [List.take_append_drop] at h
  omega

end

section
open Go.RowKit
set_option linter.unusedVariables false
set_option linter.unusedSimpArgs false
set_option maxRecDepth 100000

/-- Nodes in a row of the call's own, their lists too. -/
def TwRow (w : World) (base g n : Nat) (ts : List Nd) : Prop :=
  ts.length = n ∧ w.ownsRow base 52 5 (.slice (some ⟨g, 0, none⟩) (n + 1) (n + 1)) (n + 1) (cellsN ts ++ mark5) ∧ (∀ t ∈ ts, TwNd w (g + 1) t) ∧ TwAp ts

theorem TwAll.row {w : World} {base g n : Nat} {ns ts : List Nd} (h : TwAll w base g n ns ts) : TwRow w base g n ts := h.2

theorem TwRow.all {w : World} {base g n : Nat} {ts : List Nd} (h : TwRow w base g n ts) : TwAll w base g n ts ts := ⟨rfl, h⟩

theorem TwRow.below {w w' : World} {base g n : Nat} {ts : List Nd} (h : TwRow w base g n ts) (hb : Below w.heap.size w w') : TwRow w' base g n ts := (h.all.below hb).row

theorem TwAp.lt {ts : List Nd} (h : TwAp ts) {p q : Nat} {t u : Nd} (hp : ts[p]? = some t) (hq : ts[q]? = some u) (hpq : p < q) {a b : Nat} (ha : t.S = some ⟨a, 0, none⟩) (hb : u.I = some ⟨b, 0, none⟩) : a < b := by
  obtain ⟨l1, e1⟩ := List.getElem?_eq_some_iff.1 hp
  obtain ⟨l2, e2⟩ := List.getElem?_eq_some_iff.1 hq
  have := List.pairwise_iff_getElem.1 h p q l1 l2 hpq
  rw [e1, e2] at this
  exact this a b ha hb

theorem cellsN_set {ts : List Nd} {q : Nat} {t t' : Nd} (h : ts[q]? = some t) (he : t'.five = t.five) : cellsN (ts.set q t') = cellsN ts := by
  have e : (ts.set q t').map Nd.five = ts.map Nd.five := by
    refine List.ext_getElem? fun i => ?_
    rw [List.getElem?_map, List.getElem?_map]
    by_cases hi : i = q
    · subst hi
      rw [List.getElem?_set_self (List.getElem?_eq_some_iff.1 h).1, h, Option.map_some, Option.map_some, he]
    · rw [List.getElem?_set_ne (fun e => hi e.symm)]
  rw [cellsN, cellsN, List.flatMap, List.flatMap, e]

theorem TwAp.set {ts : List Nd} {q : Nat} {t t' : Nd} (h : TwAp ts) (hq : ts[q]? = some t) (h1 : t'.I = t.I) (h2 : t'.S = t.S) : TwAp (ts.set q t') := by
  unfold TwAp at h ⊢
  rw [List.pairwise_iff_getElem] at h ⊢
  intro i j hi hj hij a b ha hb
  have hl : (ts.set q t').length = ts.length := List.length_set
  obtain ⟨hql, hqe⟩ := List.getElem?_eq_some_iff.1 hq
  have key : ∀ (i : Nat) (hi : i < (ts.set q t').length) (hi2 : i < ts.length), (ts.set q t')[i].S = ts[i].S ∧ (ts.set q t')[i].I = ts[i].I := by
    intro i hi hi2
    rw [List.getElem_set]
    by_cases e : q = i
    · subst e
      rw [if_pos rfl]
      exact ⟨h2.trans (by rw [hqe]), h1.trans (by rw [hqe])⟩
    · rw [if_neg e]; exact ⟨rfl, rfl⟩
  rw [(key i hi (by omega)).1] at ha
  rw [(key j hj (by omega)).2] at hb
  exact h i j (by omega) (by omega) hij a b ha hb

/-- One number of what a node takes in is stored. -/
theorem TwRow.store {w : World} {base g n q j : Nat} {ts : List Nd} {t : Nd} {a : Nat} {z : Int} (h : TwRow w base g n ts) (hq : ts[q]? = some t) (ha : t.I = some ⟨a, 0, none⟩) (hj : j < t.ni) :
    TwRow (w.setCell ⟨a, j, none⟩ (.int .i64 z)) base g n (ts.set q { t with xs := t.xs.set j z }) := by
  obtain ⟨h1, h2, h3, h4⟩ := h
  have hgr := grown_set w a j (.int .i64 z)
  have htm := List.mem_of_getElem? hq
  obtain ⟨g0, k0, e1, e2, e0, e3, e4, e5, e6, m1, m2, r⟩ := h3 t htm
  rw [e1] at ha
  injection ha with ha
  injection ha with ha
  subst ha
  have hga := m1.lt
  refine ⟨by rw [List.length_set, h1], ?_, fun u hu => ?_, h4.set hq rfl rfl⟩
  · rw [cellsN_set (t' := { t with xs := t.xs.set j z }) hq rfl]
    exact h2.kept hgr (.inr (by simp only [Value.ownBlock]; intro e; injection e with e; omega))
  · obtain ⟨i, hi, rfl⟩ := List.mem_iff_getElem.1 hu
    rw [List.getElem_set]
    have hil : i < ts.length := by rw [List.length_set] at hi; exact hi
    by_cases e : q = i
    · rw [if_pos e]
      refine ⟨g0, k0, e1, e2, e0, e3, e4, by simpa using e5, e6, ?_, m2.kept hgr (by intro e; injection e with e; omega), r⟩
      have hm := own_set9 (v := .int .i64 z) m1 (show j < t.ni + 1 by omega)
      have e9 : (t.xs.map (Value.int .i64) ++ [Value.int .i64 77]).set j (Value.int .i64 z) = (t.xs.set j z).map (Value.int .i64) ++ [Value.int .i64 77] := by
        rw [List.set_append_left _ _ (by rw [List.length_map, e5]; exact hj), List.map_set]
      rw [e9] at hm
      exact hm
    · rw [if_neg e]
      have hti : ts[i]? = some ts[i] := List.getElem?_eq_getElem hil
      obtain ⟨g9, k9, f1, f2, f0, _⟩ := h3 ts[i] (List.getElem_mem hil)
      refine (h3 ts[i] (List.getElem_mem hil)).kept hgr (fun b hb => ?_)
      injection hb with hb
      subst hb
      rcases Nat.lt_or_ge q i with hlt | hge
      · have := h4.lt hq hti hlt e2 f1
        exact ⟨fun e => by rw [f1] at e; injection e with e; injection e with e; omega, fun e => by rw [f2] at e; injection e with e; injection e with e; omega⟩
      · have := h4.lt hti hq (show i < q by omega) f2 e1
        exact ⟨fun e => by rw [f1] at e; injection e with e; injection e with e; omega, fun e => by rw [f2] at e; injection e with e; injection e with e; omega⟩

/-- What a node takes in, cell by cell. -/
theorem TwNd.cellI {w : World} {base : Nat} {t : Nd} {a j : Nat} (h : TwNd w base t) (ha : t.I = some ⟨a, 0, none⟩) (hj : j < t.ni) : w.cell? ⟨a, j, none⟩ = some (.int .i64 (t.xs.getD j 0)) ∧ w.frozen? ⟨a, j, none⟩ = false ∧ base ≤ a := by
  obtain ⟨g0, k0, e1, e2, e0, e3, e4, e5, e6, m1, m2, r⟩ := h
  rw [e1] at ha
  injection ha with ha
  injection ha with ha
  subst ha
  obtain ⟨b, o, eb, _, hx⟩ := (m1.lies e5).cells (by omega)
  injection eb with eb
  injection eb with eb1 eb2
  subst eb1
  subst eb2
  have hc := hx j hj
  rw [Nat.zero_add, List.getElem?_map, List.getElem?_eq_getElem (by omega)] at hc
  refine ⟨by rw [hc]; simp [List.getD, show j < t.xs.length by omega], ?_, m1.lt.1⟩
  rcases m1.2 with ⟨e, _⟩ | ⟨q, cap, cur, e, _, hg, _⟩
  · cases e
  · injection e with e
    injection e with e
    injection e with e
    subst e
    exact frozen_of_row w g0 j _ _ hg

/-- A box of a graph is no list of numbers. -/
theorem BoxG.setI {w : World} {p a j base : Nat} {v : Value} {t : Nd} {z : Value} (h : BoxG w p v) (ht : TwNd w base t) (ha : t.I = some ⟨a, 0, none⟩) : BoxG (w.setCell ⟨a, j, none⟩ z) p v := by
  obtain ⟨g0, k0, e1, e2, e0, e3, e4, e5, e6, m1, m2, r⟩ := ht
  rw [e1] at ha
  injection ha with ha
  injection ha with ha
  subst ha
  refine (heap_setCell_other _ _ _ _ ?_).trans h
  dsimp only
  intro e
  rcases m1.2 with ⟨e', _⟩ | ⟨q, cap, cur, e', _, hg, _⟩
  · cases e'
  · injection e' with e'
    injection e' with e'
    injection e' with e'
    subst e'
    unfold BoxG at h
    rw [e, hg] at h
    cases h

theorem BoxG.grown {w w' : World} {p base size n : Nat} {v u : Value} {e : TypeId} {xs : List Value} (h : BoxG w p v) (ho : w.ownsRow base e size u n xs) (he : e ≠ 24) (hg : w.grownBy w' u.ownBlock) : BoxG w' p v := by
  refine (hg.block p h.lt ?_).trans h
  intro e1
  rcases ho.2 with ⟨e', _⟩ | ⟨q, cap, cur, e', _, hh, _⟩
  · rw [e'] at e1; cases e1
  · rw [e'] at e1
    injection e1 with e1
    have e2 : p = q := e1
    unfold BoxG at h
    rw [e2, hh] at h
    injection h with h
    injection h with _ h
    exact he h

theorem fitN_pl (x : Nd) (ss : List (List Int)) : fitN (pl x) ss = fitN x ss ∧ shN (pl x) ss = shN x ss := ⟨rfl, rfl⟩

theorem allSh_pl : ∀ (ns : List Nd) (ss : List (List Int)), allSh (ns.map pl) ss = allSh ns ss
  | [], ss => rfl
  | x :: r, ss => by rw [List.map_cons, allSh, allSh, (fitN_pl x ss).1, (fitN_pl x ss).2, allSh_pl r]

theorem inIx_pl : ∀ ns : List Nd, inIx (ns.map pl) = inIx ns
  | [] => rfl
  | x :: r => by rw [List.map_cons, inIx, inIx, inIx_pl r]; rfl

theorem endsOk_pl (ns : List Nd) : endsOk (ns.map pl) = endsOk ns := by
  have hl : lastOk (ns.map pl) = lastOk ns := by
    rw [lastOk, lastOk, List.length_map, List.getElem?_map]
    cases ns[ns.length - 1]? <;> rfl
  rw [endsOk, endsOk, List.length_map, inIx_pl, ← List.map_drop, inIx_pl, hl]

theorem gph_pl (ns : List Nd) : gphB (ns.map pl) = gphB ns ∧ gphS (ns.map pl) = gphS ns := by
  have hb : gphB (ns.map pl) = gphB ns := by rw [gphB, gphB, endsOk_pl, allSh_pl]
  exact ⟨hb, by rw [gphS, gphS, hb, allSh_pl]⟩

theorem gph_same {ns ms : List Nd} (h : ns.map pl = ms.map pl) : gphB ns = gphB ms ∧ gphS ns = gphS ms :=
  ⟨by rw [← (gph_pl ns).1, h, (gph_pl ms).1], by rw [← (gph_pl ns).2, h, (gph_pl ms).2]⟩

theorem wtF_pl : ∀ (i : Nat) (ns : List Nd), wtF i (ns.map pl) = wtF i ns
  | _, [] => rfl
  | i, x :: r => by rw [List.map_cons, wtF, wtF, wtF_pl (i + 1) r]; rfl

theorem sxK_pl (k : Nat) (x : Nd) : sxK k (pl x) = pl (sxK k x) := rfl

end

end Go.Proofs.YteagmlaahnpkhaaGreatDoor
