/- Merged: Add, Put, List, Own, AppNil, Ten1, Ten2, Ma1. -/
import Derived.Test.YteagmlaahnpkhaaWZ00
import Derived.ArgAppend
import Derived.OwnWalk
import Derived.Lib.SliceRun
import Derived.Laws.MakeOwn
import Derived.Laws.ResultCell
import Derived.Deep.RegionHeld3
import Derived.Laws.CopyOwn
namespace Go.Proofs.Yteagmlaahnpkhaa

section
open Go.RowKit

/-- The bytes of a list of words. -/
def enc (zs : List Int) : List Int := zs.flatMap four

def encV (zs : List Int) : List Value := (enc zs).map (Value.int .u8)

theorem enc_len (zs : List Int) : (enc zs).length = 4 * zs.length := by
  induction zs with
  | nil => rfl
  | cons z r ih => simp only [enc, List.flatMap_cons, List.length_append, four_len, List.length_cons] at ih ⊢; omega

theorem encV_len (zs : List Int) : (encV zs).length = 4 * zs.length := by rw [encV, List.length_map, enc_len]

theorem encV_snoc (zs : List Int) (k : Nat) (h : k < zs.length) : encV (zs.take (k + 1)) = encV (zs.take k) ++ (four (zs.getD k 0)).map (Value.int .u8) := by
  have e : zs.getD k 0 = zs[k] := by simp [List.getD, h]
  rw [e, List.take_succ_eq_append_getElem h, encV, enc, List.flatMap_append, List.map_append]
  simp [encV, enc]

end

section
open Go.RowKit

theorem lies_new (w : World) (cs : List Value) (t : TypeId) : Lies (w.alloc (.cells cs.toArray t)) (some ⟨w.heap.size, 0, none⟩) cs.length cs :=
  ⟨rfl, fun _ => ⟨w.heap.size, 0, rfl, by simp, fun j hj => by
    have h := cells_new w cs t j cs[j] (List.getElem?_eq_getElem hj)
    rw [Addr.add_lit] at h
    rw [h, List.getElem?_eq_getElem hj]⟩⟩

theorem encV_cons (x : Int) (zs : List Int) : encV (x :: zs) = encV [x] ++ encV zs := by simp [encV, enc]

end

section
open Go.RowKit

/-- The j-th number, with its sign. -/
def wd (bs : List Int) (j : Nat) : Int := signed (word (bs.getD (4 * j) 0) (bs.getD (4 * j + 1) 0) (bs.getD (4 * j + 2) 0) (bs.getD (4 * j + 3) 0))

def dec (bs : List Int) (q : Nat) : List Int := (List.range q).map (wd bs)

theorem dec_len (bs : List Int) (q : Nat) : (dec bs q).length = q := by simp [dec]

/-- A row of q numbers of which the first k are read. -/
def part (bs : List Int) (q k : Nat) : List Value := (List.range q).map fun j => .int .i32 (if j < k then wd bs j else 0)

theorem part_none (bs : List Int) (q : Nat) : part bs q 0 = List.replicate q (.int .i32 0) := by
  apply List.ext_getElem <;> simp [part]

theorem part_all (bs : List Int) (q : Nat) : part bs q q = (dec bs q).map (Value.int .i32) := by
  apply List.ext_getElem
  · simp [part, dec]
  · intro j h1 h2
    have : j < q := by simpa [part] using h1
    simp [part, dec, this]

theorem part_set (bs : List Int) (q k : Nat) : (part bs q k).set k (.int .i32 (wd bs k)) = part bs q (k + 1) := by
  apply List.ext_getElem
  · simp [part]
  · intro j h1 h2
    simp only [part, List.getElem_set, List.getElem_map, List.getElem_range]
    by_cases e : k = j
    · subst e; simp
    · rw [if_neg e]
      by_cases h : j < k
      · rw [if_pos h, if_pos (by omega)]
      · rw [if_neg h, if_neg (by omega)]

theorem part_at (bs : List Int) (q k j : Nat) (h : j < q) : (part bs q k)[j]? = some (.int .i32 (if j < k then wd bs j else 0)) := by
  simp [part, h]

theorem Try.infoI32 : (Try.prog.info? 21).map (fun i => (i.zero, i.size, i.bytes)) = some (some (.int .i32 0), 1, 4) := by kernel_rfl

end

section
open Go.RowKit

section
variable {P : Program} {w : World}

/-- Where the longer list lies: where it was, that row turning alone; or in a new row, nothing turning. -/
def Moved (w w' : World) (v v' : Value) : Prop := (v'.ownBlock = v.ownBlock ∧ w.grownBy w' v.ownBlock) ∨ (w.grownBy w' none ∧ ∀ g, v'.ownBlock = some g → w.heap.size ≤ g)

theorem run_append_one (t ty e : TypeId) (i : TypeInfo) (z : Value) (bytes : Nat) (ht : P.underlying t = some (.slice e)) (hi : P.info? e = some i) (hz : i.zero = some z) (hsize : i.size = 1) (hby : i.bytes = bytes) (hzs : z.cells.size = 1)
    (base : Nat) (A : Option Addr) (n c : Nat) (xs : List Value) (ho : w.ownsRow base e 1 (.slice A n c) n xs) (hbase : base ≤ w.heap.size)
    (ad : Addr) (x : Value) (hx : w.cell? ad = some x) (h1 : x.oneCell' = true) (hb : (n + 1) * bytes ≤ 140737488355328) (h63 : n + 1 ≤ maxLen) :
    ∃ A' c' w', (Builtin.append_ #[t, t] ty #[.slice A n c, .slice (some ad) 1 1]).run P w = .ok (.slice A' (n + 1) c') w' ∧ w'.ownsRow base e 1 (.slice A' (n + 1) c') (n + 1) (xs ++ [x]) ∧ Moved w w' (.slice A n c) (.slice A' (n + 1) c') := by
  have hnews : ∀ j u, [x][j]? = some u → w.cell? (ad.add j) = some u := by
    intro j u hj
    match j, hj with
    | 0, hj => simp at hj; subst hj; simpa [Addr.add] using hx
  have h1' : ∀ u ∈ [x], u.oneCell' = true := by intro u hu; simp at hu; subst hu; exact h1
  rcases ho.2 with ⟨e0, h0⟩ | ⟨g, cap, cur, e0, hg, hh, hnc, hcm, hcs, hta⟩
  · injection e0 with eA en ec
    subst eA
    subst en
    subst ec
    have hnil : xs = [] := List.eq_nil_of_length_eq_zero (by simpa using ho.1)
    subst hnil
    obtain ⟨v', w', hrun, hown, hgr, _⟩ := run_append_own (P := P) w w.heap.size t ty e i z 1 bytes ht hi hz hsize hby hzs (by omega) (.slice none 0 0) 0 [] (World.ownsRow_nil _ _ _ _) ad 1 1 [x] rfl hnews h1' h63 hb (Nat.le_refl _)
    rcases hown.2 with ⟨_, h0⟩ | ⟨g, cap, cur, rfl, hgb, r⟩
    · omega
    · exact ⟨some ⟨g, 0, none⟩, cap, w', hrun, own_base hown hbase, .inr ⟨hgr, fun b hb' => by simp [Value.ownBlock] at hb'; omega⟩⟩
  · injection e0 with eA en ec
    subst eA
    subst ec
    by_cases hfit : n + 1 ≤ c
    · obtain ⟨w', hrun, h2, h3⟩ := run_append_fits (P := P) w base t ty e i 1 ht hi hsize g n c xs ho ad 1 1 [x] rfl hnews h1' hfit
      exact ⟨some ⟨g, 0, none⟩, c, w', hrun, h2, .inl ⟨rfl, h3⟩⟩
    · have holds : ∀ j u, xs[j]? = some u → w.cell? ((⟨g, 0, none⟩ : Addr).add j) = some u := ho.cells (g := g) rfl
      obtain ⟨v', w', hrun, hown, hgr⟩ := run_append_arg_grows (P := P) w t ty e i z 1 bytes ht hi hz hsize hby hzs (by omega) ⟨g, 0, none⟩ n c xs ho.1 holds ad 1 1 [x] rfl hnews (by omega) h63 hb
      rcases hown.2 with ⟨_, h0⟩ | ⟨g', cap', cur', rfl, hgb, r⟩
      · omega
      · exact ⟨some ⟨g', 0, none⟩, cap', w', hrun, own_base hown hbase, .inr ⟨hgr, fun b hb' => by simp [Value.ownBlock] at hb'; omega⟩⟩

theorem wpList_append_one {ops : Array Oper} {rest : List Oper} {op : Oper} {a : Act} {Q : Exit → Act → World → Prop} (hgd : op.guard = none) (s x : Operand) (t : TypeId)
    (hop : op.op = .call { callee := .builtin .append, args := #[s, x], argTypes := #[t, t] })
    (e : TypeId) (i : TypeInfo) (z : Value) (bytes : Nat) (ht : P.underlying t = some (.slice e)) (hi : P.info? e = some i) (hz : i.zero = some z) (hsize : i.size = 1) (hby : i.bytes = bytes) (hzs : z.cells.size = 1)
    (base : Nat) (A : Option Addr) (n c : Nat) (xs : List Value) (hs : a.eval s = .slice A n c) (ho : w.ownsRow base e 1 (.slice A n c) n xs) (hbase : base ≤ w.heap.size)
    (ad : Addr) (u : Value) (hxe : a.eval x = .slice (some ad) 1 1) (hx : w.cell? ad = some u) (h1 : u.oneCell' = true) (hb : (n + 1) * bytes ≤ 140737488355328) (h63 : n + 1 ≤ maxLen)
    (h : ∀ A' c' w', w'.ownsRow base e 1 (.slice A' (n + 1) c') (n + 1) (xs ++ [u]) → Moved w w' (.slice A n c) (.slice A' (n + 1) c') → wpList P ops Q rest (a.put op.dst (.slice A' (n + 1) c')) w') : wpList P ops Q (op :: rest) a w := by
  refine wpList_plain hgd fun K hK => ?_
  obtain ⟨A', c', w', hrun, h2, h3⟩ := run_append_one (P := P) (w := w) t op.type e i z bytes ht hi hz hsize hby hzs base A n c xs ho hbase ad u hx h1 hb h63
  unfold Oper.wp
  simp [execOp, hop, resolve, invoke, builtin, hs, hxe, hrun, Result.andThen]
  exact hK _ _ (h A' c' w' h2 h3)

end

section
variable {P : Program} {w : World}

/-- append of one more onto a list of the call's own, as one step of a region that draws its order; where the longer list lies is told. -/
theorem step_append_one {ops : Array Oper} {op : Oper} {a : Act} {K : Act → World → Prop} {Q : Exit → Act → World → Prop} {E : Prop} (hgd : op.guard = none) (s x : Operand) (t : TypeId)
    (hop : op.op = .call { callee := .builtin .append, args := #[s, x], argTypes := #[t, t] })
    (e : TypeId) (i : TypeInfo) (z : Value) (bytes : Nat) (ht : P.underlying t = some (.slice e)) (hi : P.info? e = some i) (hz : i.zero = some z) (hsize : i.size = 1) (hby : i.bytes = bytes) (hzs : z.cells.size = 1)
    (base : Nat) (A : Option Addr) (n c : Nat) (xs : List Value) (hs : a.eval s = .slice A n c) (ho : w.ownsRow base e 1 (.slice A n c) n xs) (hbase : base ≤ w.heap.size)
    (ad : Addr) (u : Value) (hxe : a.eval x = .slice (some ad) 1 1) (hx : w.cell? ad = some u) (h1 : u.oneCell' = true) (hb : (n + 1) * bytes ≤ 140737488355328) (h63 : n + 1 ≤ maxLen)
    (h : ∀ g' c' w', w'.ownsRow base e 1 (.slice (some ⟨g', 0, none⟩) (n + 1) c') (n + 1) (xs ++ [u]) → Moved w w' (.slice A n c) (.slice (some ⟨g', 0, none⟩) (n + 1) c') → K (a.put op.dst (.slice (some ⟨g', 0, none⟩) (n + 1) c')) w') :
    if Region.wanted op (yielded ops a.tmps) = true then Oper.wp P op a w K Q else E := by
  have hw : Region.wanted op (yielded ops a.tmps) = true := by simp [Region.wanted, hgd]
  rw [if_pos hw]
  obtain ⟨A', c', w', hrun, h2, h3⟩ := run_append_one (P := P) (w := w) t op.type e i z bytes ht hi hz hsize hby hzs base A n c xs ho hbase ad u hx h1 hb h63
  obtain ⟨g', rfl⟩ : ∃ g', A' = some ⟨g', 0, none⟩ := by
    rcases h2.2 with ⟨e0, h0⟩ | ⟨g, cap, cur, e0, _⟩
    · omega
    · injection e0 with e0; exact ⟨g, e0⟩
  unfold Oper.wp
  simp [execOp, hop, resolve, invoke, builtin, hs, hxe, hrun, Result.andThen]
  exact h g' c' w' h2 h3

end

theorem own_addr {w : World} {base : Nat} {e : TypeId} {A : Option Addr} {n c : Nat} {xs : List Value} (h : w.ownsRow base e 1 (.slice A n c) n xs) : A = none ∨ ∃ g, A = some ⟨g, 0, none⟩ := by
  rcases h.2 with ⟨e0, _⟩ | ⟨g, cap, cur, e0, _⟩ <;> injection e0 with e0
  · exact .inl e0
  · exact .inr ⟨g, e0⟩

theorem lies_of_own {w : World} {base : Nat} {e : TypeId} {A : Option Addr} {n c : Nat} {xs : List Value} (h : w.ownsRow base e 1 (.slice A n c) n xs) : Lies w A n xs := by
  rcases own_addr h with rfl | ⟨g, rfl⟩
  · rcases h.2 with ⟨_, h0⟩ | ⟨g, cap, cur, e0, _⟩
    · subst h0
      exact ⟨by simpa using h.1, fun hn => absurd hn (by omega)⟩
    · injection e0 with e0; cases e0
  · exact Lies.own h

section
variable {P : Program} {w : World}

/-- append of a whole slice, nil let in, onto a row of the call's own, nil let in. -/
theorem run_append_src (t ty e : TypeId) (i : TypeInfo) (z : Value) (bytes : Nat) (ht : P.underlying t = some (.slice e)) (hi : P.info? e = some i) (hz : i.zero = some z) (hsize : i.size = 1) (hby : i.bytes = bytes) (hzs : z.cells.size = 1)
    (base : Nat) (v : Value) (n : Nat) (xs : List Value) (ho : w.ownsRow base e 1 v n xs) (hbase : base ≤ w.heap.size)
    (A : Option Addr) (m c : Nat) (news : List Value) (hn : Lies w A m news) (hnil : A = none → c = 0) (h1 : ∀ u ∈ news, u.oneCell' = true) (hb : (n + m) * bytes ≤ 140737488355328) (h63 : n + m ≤ maxLen) :
    ∃ A' c' w', (Builtin.append_ #[t, t] ty #[v, .slice A m c]).run P w = .ok (.slice A' (n + m) c') w' ∧ w'.ownsRow base e 1 (.slice A' (n + m) c') (n + m) (xs ++ news) ∧ w.grownBy w' v.ownBlock := by
  cases A with
  | none =>
    obtain rfl : c = 0 := hnil rfl
    have hm : m = 0 := by
      rcases Nat.eq_zero_or_pos m with h | h
      · exact h
      · obtain ⟨_, _, h2, _⟩ := hn.cells h; cases h2
    subst hm
    have hnn : news = [] := List.eq_nil_of_length_eq_zero hn.len
    subst hnn
    have hrun := run_append_owned_none (P := P) w base t ty e i 1 ht hi v n xs ho
    rcases ho.2 with ⟨rfl, rfl⟩ | ⟨g, cap, cur, rfl, r⟩
    · exact ⟨none, 0, w, hrun, by simpa using ho, World.grownBy.refl _ _⟩
    · exact ⟨some ⟨g, 0, none⟩, cap, w, hrun, by simpa using ho, World.grownBy.refl _ _⟩
  | some ad =>
    have hcells : ∀ j u, news[j]? = some u → w.cell? (ad.add j) = some u := by
      intro j u hj
      have hjl : j < m := by have := (List.getElem?_eq_some_iff.1 hj).1; have := hn.len; omega
      obtain ⟨b, o, e1, _, hx⟩ := hn.cells (by omega)
      injection e1 with e1
      subst e1
      rw [Addr.add_lit, hx j hjl, hj]
    obtain ⟨v', w', hrun, hown, hg, _⟩ := run_append_own (P := P) w base t ty e i z 1 bytes ht hi hz hsize hby hzs (by omega) v n xs ho ad m c news (by have := hn.len; omega) hcells h1 h63 hb hbase
    rcases hown.2 with ⟨rfl, h0⟩ | ⟨g, cap, cur, rfl, r⟩
    · refine ⟨none, 0, w', ?_, ?_, hg⟩
      · rw [h0]; exact hrun
      · rw [h0]; rw [h0] at hown; exact hown
    · exact ⟨some ⟨g, 0, none⟩, cap, w', hrun, hown, hg⟩

theorem wpList_append_src {ops : Array Oper} {rest : List Oper} {op : Oper} {a : Act} {Q : Exit → Act → World → Prop} (hgd : op.guard = none) (s x : Operand) (t : TypeId)
    (hop : op.op = .call { callee := .builtin .append, args := #[s, x], argTypes := #[t, t] })
    (e : TypeId) (i : TypeInfo) (z : Value) (bytes : Nat) (ht : P.underlying t = some (.slice e)) (hi : P.info? e = some i) (hz : i.zero = some z) (hsize : i.size = 1) (hby : i.bytes = bytes) (hzs : z.cells.size = 1)
    (base : Nat) (v : Value) (n : Nat) (xs : List Value) (hs : a.eval s = v) (ho : w.ownsRow base e 1 v n xs) (hbase : base ≤ w.heap.size)
    (A : Option Addr) (m c : Nat) (news : List Value) (hx : a.eval x = .slice A m c) (hn : Lies w A m news) (hnil : A = none → c = 0) (h1 : ∀ u ∈ news, u.oneCell' = true) (hb : (n + m) * bytes ≤ 140737488355328) (h63 : n + m ≤ maxLen)
    (h : ∀ A' c' w', w'.ownsRow base e 1 (.slice A' (n + m) c') (n + m) (xs ++ news) → w.grownBy w' v.ownBlock → wpList P ops Q rest (a.put op.dst (.slice A' (n + m) c')) w') : wpList P ops Q (op :: rest) a w := by
  refine wpList_plain hgd fun K hK => ?_
  obtain ⟨A', c', w', hrun, h2, h3⟩ := run_append_src (P := P) (w := w) t op.type e i z bytes ht hi hz hsize hby hzs base v n xs ho hbase A m c news hn hnil h1 hb h63
  unfold Oper.wp
  simp [execOp, hop, resolve, invoke, builtin, hs, hx, hrun, Result.andThen]
  exact hK _ _ (h A' c' w' h2 h3)

end

section
variable {P : Program} {w : World}

/-- append of one element of several cells onto a row of the call's own, as one step of a region that draws its order. -/
theorem step_append_held {ops : Array Oper} {op : Oper} {a : Act} {K : Act → World → Prop} {Q : Exit → Act → World → Prop} {E : Prop} (hgd : op.guard = none) (s x : Operand) (t : TypeId)
    (hop : op.op = .call { callee := .builtin .append, args := #[s, x], argTypes := #[t, t] })
    (e : TypeId) (i : TypeInfo) (z : Value) (size bytes : Nat) (ht : P.underlying t = some (.slice e)) (hi : P.info? e = some i) (hz : i.zero = some z) (hsize : i.size = size) (hby : i.bytes = bytes) (hzs : z.cells.size = size) (hpos : 0 < size)
    (base : Nat) (v : Value) (n : Nat) (xs : List Value) (hs : a.eval s = v) (ho : w.ownsRow base e size v n xs) (hbase : base ≤ w.heap.size)
    (ad : Addr) (news : List Value) (hxe : a.eval x = .slice (some ad) 1 1) (hl : news.length = 1 * size) (hx : ∀ j u, news[j]? = some u → w.cell? (ad.add j) = some u) (h1 : ∀ u ∈ news, u.oneCell' = true) (hb : (n + 1) * bytes ≤ 140737488355328) (h63 : n + 1 ≤ maxLen)
    (h : ∀ g' c' w', w'.ownsRow base e size (.slice (some ⟨g', 0, none⟩) (n + 1) c') (n + 1) (xs ++ news) → w.grownBy w' v.ownBlock → K (a.put op.dst (.slice (some ⟨g', 0, none⟩) (n + 1) c')) w') :
    if Region.wanted op (yielded ops a.tmps) = true then Oper.wp P op a w K Q else E := by
  have hw : Region.wanted op (yielded ops a.tmps) = true := by simp [Region.wanted, hgd]
  rw [if_pos hw]
  obtain ⟨v', w', hrun, hown, hg, _⟩ := run_append_own (P := P) w base t op.type e i z size bytes ht hi hz hsize hby hzs hpos v n xs ho ad 1 1 news hl hx h1 h63 hb hbase
  obtain ⟨g', c', rfl⟩ : ∃ g' c', v' = .slice (some ⟨g', 0, none⟩) (n + 1) c' := by
    rcases hown.2 with ⟨_, h0⟩ | ⟨g', c', _, h0, _⟩
    · omega
    · exact ⟨g', c', h0⟩
  unfold Oper.wp
  simp [execOp, hop, resolve, invoke, builtin, hs, hxe, hrun, Result.andThen]
  exact h g' c' w' hown hg

end

section
variable {P : Program} {w : World}

/-- append of a whole slice, nil let in, onto a row of the call's own, nil let in, as one step of a region that draws its order. -/
theorem step_append_src {ops : Array Oper} {op : Oper} {a : Act} {K : Act → World → Prop} {Q : Exit → Act → World → Prop} {E : Prop} (hgd : op.guard = none) (s x : Operand) (t : TypeId)
    (hop : op.op = .call { callee := .builtin .append, args := #[s, x], argTypes := #[t, t] })
    (e : TypeId) (i : TypeInfo) (z : Value) (bytes : Nat) (ht : P.underlying t = some (.slice e)) (hi : P.info? e = some i) (hz : i.zero = some z) (hsize : i.size = 1) (hby : i.bytes = bytes) (hzs : z.cells.size = 1)
    (base : Nat) (v : Value) (n : Nat) (xs : List Value) (hs : a.eval s = v) (ho : w.ownsRow base e 1 v n xs) (hbase : base ≤ w.heap.size)
    (A : Option Addr) (m c : Nat) (news : List Value) (hx : a.eval x = .slice A m c) (hn : Lies w A m news) (hnil : A = none → c = 0) (h1 : ∀ u ∈ news, u.oneCell' = true) (hb : (n + m) * bytes ≤ 140737488355328) (h63 : n + m ≤ maxLen)
    (h : ∀ A' c' w', w'.ownsRow base e 1 (.slice A' (n + m) c') (n + m) (xs ++ news) → w.grownBy w' v.ownBlock → K (a.put op.dst (.slice A' (n + m) c')) w') :
    if Region.wanted op (yielded ops a.tmps) = true then Oper.wp P op a w K Q else E := by
  have hw : Region.wanted op (yielded ops a.tmps) = true := by simp [Region.wanted, hgd]
  rw [if_pos hw]
  obtain ⟨A', c', w', hrun, h2, h3⟩ := run_append_src (P := P) (w := w) t op.type e i z bytes ht hi hz hsize hby hzs base v n xs ho hbase A m c news hn hnil h1 hb h63
  unfold Oper.wp
  simp [execOp, hop, resolve, invoke, builtin, hs, hx, hrun, Result.andThen]
  exact h A' c' w' h2 h3

end

theorem below_moved {B : Nat} {a w w' : World} {base : Nat} {e : TypeId} {v v' : Value} {n : Nat} {xs : List Value} (hb : Below B a w) (hB : B ≤ w.heap.size) (ho : w.ownsRow base e 1 v n xs) (hm : Moved w w' v v') (hbb : B ≤ base := by exact Nat.le_refl _) : Below B a w' := by
  rcases hm with ⟨_, hg⟩ | ⟨hg, _⟩
  · exact hb.grown hg hB (fun g hgg => Nat.le_trans hbb (ho.lt g hgg).1)
  · exact hb.grown hg hB (by simp)

end

section
open Go.RowKit

theorem cell_kept {a w : World} {b o : Nat} {v : Value} (hb : Below a.heap.size a w) (h : a.cell? ⟨b, o, none⟩ = some v) : w.cell? ⟨b, o, none⟩ = some v :=
  (hb.cell (World.block_lt_of_cell? a _ h)).trans h

theorem ints_one (k : IntKind) (zs : List Int) : ∀ u ∈ zs.map (Value.int k), u.oneCell' = true := by
  intro u hu
  simp at hu
  obtain ⟨_, _, rfl⟩ := hu
  rfl

section
variable {P : Program} {w : World}

theorem step_append_nil {ops : Array Oper} {op : Oper} {a : Act} {K : Act → World → Prop} {Q : Exit → Act → World → Prop} {E : Prop} (hgd : op.guard = none) (s x : Operand) (t : TypeId)
    (hop : op.op = .call { callee := .builtin .append, args := #[s, x], argTypes := #[t, t] })
    (e : TypeId) (i : TypeInfo) (z : Value) (bytes : Nat) (ht : P.underlying t = some (.slice e)) (hi : P.info? e = some i) (hz : i.zero = some z) (hsize : i.size = 1) (hby : i.bytes = bytes) (hzs : z.cells.size = 1)
    (hs : a.eval s = .slice none 0 0) (A : Option Addr) (m c : Nat) (k : IntKind) (zs : List Int) (hx : a.eval x = .slice A m c) (hn : Lies w A m (zs.map (Value.int k))) (hnil : A = none → c = 0) (hb : m * bytes ≤ 140737488355328) (h63 : m ≤ maxLen)
    (h : ∀ A' c' w', w'.ownsRow w.heap.size e 1 (.slice A' m c') m (zs.map (Value.int k)) → Below w.heap.size w w' → K (a.put op.dst (.slice A' m c')) w') :
    if Region.wanted op (yielded ops a.tmps) = true then Oper.wp P op a w K Q else E := by
  refine step_append_src hgd s x t hop e i z bytes ht hi hz hsize hby hzs w.heap.size (.slice none 0 0) 0 [] hs (World.ownsRow_nil _ _ _ _) (Nat.le_refl _) A m c _ hx hn hnil (ints_one k zs) (by rw [Nat.zero_add]; exact hb) (by omega) ?_
  rw [Nat.zero_add, List.nil_append]
  intro A' c' w' ho hg
  exact h A' c' w' ho ⟨hg.os, hg.tape, hg.output, hg.size, fun j hj => hg.block j hj (by simp [Value.ownBlock])⟩

theorem wpList_append_nil {ops : Array Oper} {rest : List Oper} {op : Oper} {a : Act} {Q : Exit → Act → World → Prop} (hgd : op.guard = none) (s x : Operand) (t : TypeId)
    (hop : op.op = .call { callee := .builtin .append, args := #[s, x], argTypes := #[t, t] })
    (e : TypeId) (i : TypeInfo) (z : Value) (bytes : Nat) (ht : P.underlying t = some (.slice e)) (hi : P.info? e = some i) (hz : i.zero = some z) (hsize : i.size = 1) (hby : i.bytes = bytes) (hzs : z.cells.size = 1)
    (hs : a.eval s = .slice none 0 0) (A : Option Addr) (m c : Nat) (k : IntKind) (zs : List Int) (hx : a.eval x = .slice A m c) (hn : Lies w A m (zs.map (Value.int k))) (hnil : A = none → c = 0) (hb : m * bytes ≤ 140737488355328) (h63 : m ≤ maxLen)
    (h : ∀ A' c' w', w'.ownsRow w.heap.size e 1 (.slice A' m c') m (zs.map (Value.int k)) → Below w.heap.size w w' → wpList P ops Q rest (a.put op.dst (.slice A' m c')) w') : wpList P ops Q (op :: rest) a w := by
  refine wpList_append_src hgd s x t hop e i z bytes ht hi hz hsize hby hzs w.heap.size (.slice none 0 0) 0 [] hs (World.ownsRow_nil _ _ _ _) (Nat.le_refl _) A m c _ hx hn hnil (ints_one k zs) (by rw [Nat.zero_add]; exact hb) (by omega) ?_
  rw [Nat.zero_add, List.nil_append]
  intro A' c' w' ho hg
  exact h A' c' w' ho ⟨hg.os, hg.tape, hg.output, hg.size, fun j hj => hg.block j hj (by simp [Value.ownBlock])⟩

theorem step_append_ints {ops : Array Oper} {op : Oper} {a : Act} {K : Act → World → Prop} {Q : Exit → Act → World → Prop} {E : Prop} (hgd : op.guard = none) (s x : Operand) (t : TypeId)
    (hop : op.op = .call { callee := .builtin .append, args := #[s, x], argTypes := #[t, t] })
    (e : TypeId) (i : TypeInfo) (z : Value) (bytes : Nat) (ht : P.underlying t = some (.slice e)) (hi : P.info? e = some i) (hz : i.zero = some z) (hsize : i.size = 1) (hby : i.bytes = bytes) (hzs : z.cells.size = 1)
    (base : Nat) (A0 : Option Addr) (n c0 N : Nat) (k : IntKind) (xs : List Int) (hs : a.eval s = .slice A0 n c0) (ho : w.ownsRow base e 1 (.slice A0 n c0) n (xs.map (Value.int k))) (hbase : base ≤ w.heap.size)
    (A : Option Addr) (m c : Nat) (zs : List Int) (hx : a.eval x = .slice A m c) (hn : Lies w A m (zs.map (Value.int k))) (hnil : A = none → c = 0) (hN : n + m = N) (hb : N * bytes ≤ 140737488355328) (h63 : N ≤ maxLen)
    (h : ∀ A' c' w', w'.ownsRow base e 1 (.slice A' N c') N ((xs ++ zs).map (Value.int k)) → Below base w w' → K (a.put op.dst (.slice A' N c')) w') :
    if Region.wanted op (yielded ops a.tmps) = true then Oper.wp P op a w K Q else E := by
  subst hN
  refine step_append_src hgd s x t hop e i z bytes ht hi hz hsize hby hzs base (.slice A0 n c0) n _ hs ho hbase A m c _ hx hn hnil (ints_one k zs) hb h63 ?_
  intro A' c' w' ho' hg
  rw [← List.map_append] at ho'
  exact h A' c' w' ho' ((Below.refl base w).grown hg hbase (fun g hgg => (ho.lt g hgg).1))

theorem wpList_append_ints {ops : Array Oper} {rest : List Oper} {op : Oper} {a : Act} {Q : Exit → Act → World → Prop} (hgd : op.guard = none) (s x : Operand) (t : TypeId)
    (hop : op.op = .call { callee := .builtin .append, args := #[s, x], argTypes := #[t, t] })
    (e : TypeId) (i : TypeInfo) (z : Value) (bytes : Nat) (ht : P.underlying t = some (.slice e)) (hi : P.info? e = some i) (hz : i.zero = some z) (hsize : i.size = 1) (hby : i.bytes = bytes) (hzs : z.cells.size = 1)
    (base : Nat) (A0 : Option Addr) (n c0 N : Nat) (k : IntKind) (xs : List Int) (hs : a.eval s = .slice A0 n c0) (ho : w.ownsRow base e 1 (.slice A0 n c0) n (xs.map (Value.int k))) (hbase : base ≤ w.heap.size)
    (A : Option Addr) (m c : Nat) (zs : List Int) (hx : a.eval x = .slice A m c) (hn : Lies w A m (zs.map (Value.int k))) (hnil : A = none → c = 0) (hN : n + m = N) (hb : N * bytes ≤ 140737488355328) (h63 : N ≤ maxLen)
    (h : ∀ A' c' w', w'.ownsRow base e 1 (.slice A' N c') N ((xs ++ zs).map (Value.int k)) → Below base w w' → wpList P ops Q rest (a.put op.dst (.slice A' N c')) w') : wpList P ops Q (op :: rest) a w := by
  subst hN
  refine wpList_append_src hgd s x t hop e i z bytes ht hi hz hsize hby hzs base (.slice A0 n c0) n _ hs ho hbase A m c _ hx hn hnil (ints_one k zs) hb h63 ?_
  intro A' c' w' ho' hg
  rw [← List.map_append] at ho'
  exact h A' c' w' ho' ((Below.refl base w).grown hg hbase (fun g hgg => (ho.lt g hgg).1))

end

end

section
open Go.RowKit
set_option linter.unusedVariables false
set_option linter.unusedSimpArgs false
set_option maxRecDepth 20000

/-- A tensor as a value. -/
abbrev tenV (A : Option Addr) (n c : Nat) (B : Option Addr) (m d : Nat) : Value := .agg #[.slice A n c, .slice B m d]

/-- May a tensor be, of this shape and that many numbers? -/
def tenOk (s : List Int) (m : Nat) : Bool := decide (0 < sizeI s) && decide (sizeI s = (m : Int))

theorem tenOk_iff {s : List Int} {m : Nat} : tenOk s m = true ↔ 0 < sizeI s ∧ sizeI s = (m : Int) := by simp [tenOk]

set_option maxHeartbeats 800000 in
theorem clone_ints (A : Option Addr) (n c : Nat) (s : List Int) (w : World) (h : Lies w A n (s.map (Value.int .i64))) (hp : 0 < n) (hm : n ≤ 1073741824) :
    Calls Try.prog 52 #[.slice A n c] w fun e w' => ∃ g' c', e = .returned (.slice (some ⟨g', 0, none⟩) n c') ∧ w'.ownsRow w.heap.size 3 1 (.slice (some ⟨g', 0, none⟩) n c') n (s.map (Value.int .i64)) ∧ Below w.heap.size w w' := by
  obtain ⟨i, hi, hz0, hz1, hz2⟩ := info_parts Try.infoI
  obtain ⟨b, o, rfl, hb, hx⟩ := h.cells hp
  have HI := hide hi
  have HZ0 := hide hz0
  have HZ1 := hide hz1
  have HZ2 := hide hz2
  have HLN : Hid ((s.map (Value.int .i64)).length = n * 1) := hide (by rw [h.len]; omega)
  have HL : Hid (∀ j u, (s.map (Value.int .i64))[j]? = some u → (w.alloc (.cells #[] 3)).cell? ((⟨b, o, none⟩ : Addr).add j) = some u) := hide (fun j u hj => by
    have hjn : j < n := by have := (List.getElem?_eq_some_iff.1 hj).1; have := h.len; omega
    obtain ⟨b', o', e, _, hy⟩ := (h.alloc (.cells #[] 3)).cells hp
    cases e
    rw [Addr.add_lit, hy j hjn, hj])
  have heq : (binOp .eql 27 (.slice (some ⟨b, o, none⟩) n c) (.slice none 0 0)).run Try.prog w = .ok (.bool false) w := Lib.run_eql_slice_nil w _ _ _ _ _ _ _ Try.underlying27
  clear h hi hz0 hz1 hz2 hx
  go_enter Try.func52, Try.ntmps52
  go_wp2_with (at_builtin; refine wpList_append_grows _ rfl _ _ 27 rfl 3 i _ 1 8 Try.underlying27 HI.out HZ0.out HZ1.out HZ2.out rfl (Nat.succ_pos _) (some ⟨w.heap.size, 0, none⟩) 0 0 [] rfl (fun h => by cases h) rfl (fun _ _ j u hj => by cases hj) ⟨b, o, none⟩ n c (s.map (Value.int .i64)) rfl HLN.out HL.out (ints_one .i64 s) (by omega) (by unfold maxLen; omega) (by omega) ?_)
  intro v' w' hown hgr
  obtain ⟨g', c', rfl⟩ : ∃ g' c', v' = .slice (some ⟨g', 0, none⟩) n c' := by
    rcases hown.2 with ⟨_, h0⟩ | ⟨g', c', _, h0, _⟩
    · omega
    · exact ⟨g', c', h0⟩
  have HF := hide (own_base (base' := w.heap.size) hown (by simp))
  have HB : Hid (Below w.heap.size w w') := hide (((Below.refl w.heap.size w).alloc (Nat.le_refl _) _).grown hgr (by simp) (by simp))
  clear hown hgr heq
  go_wp2
  go_ret
  exact ⟨g', c', by simp [Act.eval], HF.out, HB.out⟩

end

section
open Go.RowKit
set_option linter.unusedVariables false
set_option linter.unusedSimpArgs false
set_option maxRecDepth 20000

theorem grown_setRow (w : World) (g : Nat) (cs : Array Value) : w.grownBy (w.setRow g cs) (some g) :=
  ⟨rfl, rfl, rfl, by simp, fun k _ hk => setRow_other w g k cs (by intro e; exact hk (by rw [e]))⟩

theorem own_setRow {w : World} {base : Nat} {e : TypeId} {A : Option Addr} {n c : Nat} {xs : List Value} (h : w.ownsRow base e 1 (.slice A n c) n xs) {g : Nat} (hg : g < base) (cs : Array Value) : (w.setRow g cs).ownsRow base e 1 (.slice A n c) n xs :=
  h.kept (row := some g) (grown_setRow w g cs) (by
    right
    intro e
    have := (h.lt g e).1
    omega)

section
variable {w : World} {p : Nat} {v u : Value}

end

end

section
open Go.RowKit
set_option linter.unusedVariables false
set_option linter.unusedSimpArgs false
set_option maxRecDepth 20000

def add32 (x y : Int) : Int := wrap32 (x + y)

def mul32 (x y : Int) : Int := wrap32 (x * y)

def relu32 (x : Int) : Int := if x < 0 then 0 else x

/-- What a shift by n makes of x. -/
def shf (n : Nat) (x : Int) : Int := if (x + 2 ^ n / 2) / 2 ^ n < -128 then -128 else if 127 < (x + 2 ^ n / 2) / 2 ^ n then 127 else (x + 2 ^ n / 2) / 2 ^ n

section
variable {w : World} {p : Nat} {x y : Int}

end

theorem pow_bounds {n : Nat} (hn : n ≤ 31) : 1 ≤ (2 : Int) ^ n ∧ (2 : Int) ^ n ≤ 2147483648 := by
  have h1 : 2 ^ n ≤ 2 ^ 31 := Nat.pow_le_pow_right (by omega) hn
  have h2 : 0 < 2 ^ n := Nat.pow_pos (by omega)
  have h3 : ((2 ^ n : Nat) : Int) = (2 : Int) ^ n := by simp
  omega

theorem shf_parts {n : Nat} {x : Int} (hn : n ≤ 31) (hx : -2147483648 ≤ x ∧ x < 2147483648) : wrap64 (x + wrap64 (2 ^ n) / 2) / 2 ^ n = (x + 2 ^ n / 2) / 2 ^ n := by
  obtain ⟨h1, h2⟩ := pow_bounds hn
  have e1 : wrap64 ((2 : Int) ^ n) = 2 ^ n := by unfold wrap64; omega
  have e2 : wrap64 (x + (2 : Int) ^ n / 2) = x + 2 ^ n / 2 := by unfold wrap64; omega
  rw [e1, e2]

end

end Go.Proofs.Yteagmlaahnpkhaa
