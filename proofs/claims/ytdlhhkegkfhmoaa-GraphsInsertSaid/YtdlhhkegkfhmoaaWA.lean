/- Merged: Mem, Words, Cells, Own, Range, Visit, Shape, ShapeSize, ShapeAt, ShapeIndex, ShapeIndex2, Read, Copy, Add, Put, List, AppNil, Ten1, Ten2, Ma1, RowsOf, Ma2, SameG, Ten3, Ten4, Zeros, Twin5. -/
import Derived.WalkKit
import Derived.Deep.Draws
import Derived.Lib.EndianBits
import Derived.Test.YtdlhhkegkfhmoaaRows
import Derived.Deep.QuietTactic
import Derived.BigQuiet
import Derived.ArgAppend
import Derived.OwnWalk
import Derived.RangeFuncNested
import Derived.RangeFuncLeaves
import Derived.Shelf.Abstract
import Derived.OwnWalkIn
import Derived.TacticsInMore
import Derived.LoopNIn
import Derived.LoopIn
import Derived.Deep.RegionLaw
import Derived.Laws.CopyOwn
import Derived.Lib.SliceRun
import Derived.Laws.MakeOwn
import Derived.Laws.ResultCell
import Derived.Deep.RegionHeld3
import Derived.Laws.CopyRow
import Derived.RangeFuncBound
import Derived.Lib.AppendZeros
import Derived.Lib.AppendZerosOnto
namespace Go.Proofs.Ytdlhhkegkfhmoaa

section
open Go.RowKit

/-- The slice at address A, of n one-cell elements, holds xs. Of an empty slice nothing is asked. -/
structure Lies (w : World) (A : Option Addr) (n : Nat) (xs : List Value) : Prop where
  len : xs.length = n
  cells : 0 < n → ∃ b o, A = some ⟨b, o, none⟩ ∧ b < w.heap.size ∧ ∀ j, j < n → w.cell? ⟨b, o + j, none⟩ = xs[j]?

section
variable {w w' : World} {A : Option Addr} {n : Nat} {xs : List Value}

theorem Lies.nothing : Lies w A 0 [] := ⟨rfl, fun h => absurd h (by omega)⟩

theorem Lies.keep (h : Lies w A n xs) (hs : w.heap.size ≤ w'.heap.size) (hc : ∀ b o, A = some ⟨b, o, none⟩ → b < w.heap.size → ∀ j, w'.cell? ⟨b, o + j, none⟩ = w.cell? ⟨b, o + j, none⟩) : Lies w' A n xs :=
  ⟨h.len, fun hn => by
    obtain ⟨b, o, e, hb, hx⟩ := h.cells hn
    exact ⟨b, o, e, by omega, fun j hj => (hc b o e hb j).trans (hx j hj)⟩⟩

theorem Lies.drewN (h : Lies w A n xs) (k : Nat) : Lies (w.drewN k) A n xs := ⟨h.len, h.cells⟩

theorem Lies.below (h : Lies w A n xs) (hb : Below w.heap.size w w') : Lies w' A n xs :=
  h.keep hb.size fun _ _ _ hlt _ => hb.cell hlt

theorem Lies.alloc (h : Lies w A n xs) (o : Obj) : Lies (w.alloc o) A n xs :=
  h.below ((Below.refl _ _).alloc (Nat.le_refl _) o)

theorem Lies.grown (h : Lies w A n xs) {row : Option Nat} (hg : w.grownBy w' row) (hne : ∀ b o, A = some ⟨b, o, none⟩ → some b ≠ row) : Lies w' A n xs :=
  h.keep hg.size fun b o e hlt _ => World.cell?_of_block (hg.block b hlt (hne b o e))

theorem Lies.own {base : Nat} {e : TypeId} {g cap : Nat} (h : w.ownsRow base e 1 (.slice (some ⟨g, 0, none⟩) n cap) n xs) : Lies w (some ⟨g, 0, none⟩) n xs :=
  ⟨by have := h.1; omega, fun _ => ⟨g, 0, rfl, (h.lt g rfl).2, fun j hj => by rw [Nat.zero_add]; exact h.cellAt j (by omega)⟩⟩

theorem Lies.drop (h : Lies w A n xs) {k cap : Nat} (hk : k ≤ n) (hc : n ≤ cap) : Lies w (if cap = k then A else A.map (·.add k)) (n - k) (xs.drop k) := by
  refine ⟨by rw [List.length_drop, h.len], fun hn => ?_⟩
  obtain ⟨b, o, rfl, hb, hx⟩ := h.cells (by omega)
  rw [if_neg (by omega)]
  refine ⟨b, o + k, by simp [Addr.add_lit], hb, fun j hj => ?_⟩
  rw [Nat.add_assoc, hx (k + j) (by omega), List.getElem?_drop]

theorem Lies.take (h : Lies w A n xs) {k : Nat} (hk : k ≤ n) : Lies w A k (xs.take k) := by
  refine ⟨by rw [List.length_take, h.len]; omega, fun hn => ?_⟩
  obtain ⟨b, o, rfl, hb, hx⟩ := h.cells (by omega)
  refine ⟨b, o, rfl, hb, fun j hj => ?_⟩
  rw [hx j (by omega), List.getElem?_take, if_pos hj]

/-- A row of the call's own, of one-cell elements, known as a whole block. -/
theorem own_of_block {base : Nat} {e : TypeId} {g m cap : Nat} {cur : List Value} (hb : base ≤ g) (hg : w.heap[g]? = some (.cells cur.toArray e (0, 0))) (hc : cur.length = cap) (hm : m ≤ cap) (hl : cap ≤ maxLen) (ht : cur.take m = xs) :
    w.ownsRow base e 1 (.slice (some ⟨g, 0, none⟩) m cap) m xs :=
  ⟨by rw [← ht, List.length_take]; omega, .inr ⟨g, cap, cur.toArray, rfl, hb, hg, hm, hl, by simp [hc], by simpa using ht⟩⟩

theorem lt_of_heap {g : Nat} {o : Obj} (h : w.heap[g]? = some o) : g < w.heap.size := (Array.getElem?_eq_some_iff.1 h).1

end

theorem below_drewN {B : Nat} {a w : World} (h : Below B a w) (n : Nat) : Below B a (w.drewN n) := ⟨h.os, h.tape, h.output, h.size, h.block⟩

theorem own_drewN {w : World} {base : Nat} {e : TypeId} {v : Value} {n : Nat} {xs : List Value} (h : w.ownsRow base e 1 v n xs) (k : Nat) : (w.drewN k).ownsRow base e 1 v n xs := h

theorem own_below {w w' : World} {base : Nat} {e : TypeId} {v : Value} {n : Nat} {xs : List Value} (h : w.ownsRow base e 1 v n xs) (hb : Below w.heap.size w w') : w'.ownsRow base e 1 v n xs :=
  h.kept (row := none) ⟨hb.os, hb.tape, hb.output, hb.size, fun i hi _ => hb.block i hi⟩ (by cases v.ownBlock <;> simp)

theorem own_base {w : World} {base base' : Nat} {e : TypeId} {v : Value} {n : Nat} {xs : List Value} (h : w.ownsRow base e 1 v n xs) (hb : base' ≤ base) : w.ownsRow base' e 1 v n xs := by
  refine ⟨h.1, ?_⟩
  rcases h.2 with h2 | ⟨g, cap, cur, hv, hg, r⟩
  · exact .inl h2
  · exact .inr ⟨g, cap, cur, hv, by omega, r⟩

theorem grown_trans {a b c : World} {row : Option Nat} (h : a.grownBy b row) (k : b.grownBy c row) : a.grownBy c row :=
  ⟨k.os.trans h.os, k.tape.trans h.tape, k.output.trans h.output, Nat.le_trans h.size k.size, fun i hi hne => (k.block i (Nat.lt_of_lt_of_le hi h.size) hne).trans (h.block i hi hne)⟩

theorem grown_below {a b : World} (h : Below a.heap.size a b) (row : Option Nat) : a.grownBy b row := ⟨h.os, h.tape, h.output, h.size, fun i hi _ => h.block i hi⟩

theorem below_grown {a b : World} {g B : Nat} (h : a.grownBy b (some g)) (hB : B ≤ a.heap.size) (hg : B ≤ g) : Below B a b :=
  ⟨h.os, h.tape, h.output, h.size, fun i hi => h.block i (by omega) (by simp; omega)⟩

theorem cells_new (w : World) (cs : List Value) (t : TypeId) : ∀ j u, cs[j]? = some u → (w.alloc (.cells cs.toArray t)).cell? ((⟨w.heap.size, 0, none⟩ : Addr).add j) = some u := by
  intro j u hj
  rw [Addr.add_lit, Nat.zero_add, cell_of_row _ _ j cs.toArray t (0, 0) (heap_alloc_new w _)]
  simpa using hj

theorem hide {p : Prop} (h : p) : Hid p := h

end

section

/-- The four bytes of a number of 32 bits, signed or not. -/
def four (n : Int) : List Int := [n % 256, n / 256 % 256, n / 65536 % 256, n / 16777216 % 256]

/-- The number without a sign that four bytes are. -/
def word (a b c d : Int) : Int := a + 256 * b + 65536 * c + 16777216 * d

def Bytes (l : List Int) : Prop := ∀ x ∈ l, 0 ≤ x ∧ x < 256

theorem four_len (n : Int) : (four n).length = 4 := rfl

theorem four_bytes (n : Int) : Bytes (four n) := by
  intro x hx
  simp only [four, List.mem_cons, List.not_mem_nil, or_false] at hx
  omega

theorem word_four (n : Int) (h0 : 0 ≤ n) (h1 : n < 4294967296) : word (n % 256) (n / 256 % 256) (n / 65536 % 256) (n / 16777216 % 256) = n := by unfold word; omega

theorem word_bounds {a b c d : Int} (ha : 0 ≤ a ∧ a < 256) (hb : 0 ≤ b ∧ b < 256) (hc : 0 ≤ c ∧ c < 256) (hd : 0 ≤ d ∧ d < 256) : 0 ≤ word a b c d ∧ word a b c d < 4294967296 := by unfold word; omega

theorem or_u32 {a b c d : Int} (ha : 0 ≤ a ∧ a < 256) (hb : 0 ≤ b ∧ b < 256) (hc : 0 ≤ c ∧ c < 256) (hd : 0 ≤ d ∧ d < 256) :
    bits .or .u32 (bits .or .u32 (bits .or .u32 a (b * 256)) (c * 65536)) (d * 16777216) = word a b c d := by
  rw [u32_or8 a (b * 256) (by omega) (by omega) (by omega) (by omega) (by omega),
    u32_or16 _ (c * 65536) (by omega) (by omega) (by omega) (by omega) (by omega),
    u32_or24 _ (d * 16777216) (by omega) (by omega) (by omega) (by omega) (by omega)]
  unfold word; omega

/-- The number with a sign that the same 32 bits are. -/
def signed (n : Int) : Int := IntKind.i32.wrap n

theorem signed_eq (n : Int) : signed n = (n + 2147483648) % 4294967296 - 2147483648 := by unfold signed; rw [IntKind.wrap_i32]

theorem signed_four (n : Int) (h0 : -2147483648 ≤ n) (h1 : n < 2147483648) : signed (word (n % 256) (n / 256 % 256) (n / 65536 % 256) (n / 16777216 % 256)) = n := by rw [signed_eq]; unfold word; omega

theorem wraps_i32 (n : Int) (h₀ : 0 ≤ n) (h₁ : n < 2 ^ 31) : IntKind.i32.wrap n = n := by rw [IntKind.wrap_i32]; omega

theorem ofInt_wrap_i32 (n : Int) : BitVec.ofInt 32 (IntKind.i32.wrap n) = BitVec.ofInt 32 n := by
  apply BitVec.eq_of_toNat_eq
  rw [BitVec.toNat_ofInt, BitVec.toNat_ofInt, IntKind.wrap_i32]
  congr 1
  omega

theorem or_i32 {a b c d : Int} (ha : 0 ≤ a ∧ a < 256) (hb : 0 ≤ b ∧ b < 256) (hc : 0 ≤ c ∧ c < 256) (hd : 0 ≤ d ∧ d < 256) :
    bits .or .i32 (bits .or .i32 (bits .or .i32 a (b * 256)) (c * 65536)) (RowKit.wrap32 (d * 16777216)) = signed (word a b c d) := by
  rw [← IntWalk.i32_left]
  rw [bits_join_low .i32 31 (by decide) wraps_i32 8 a (b * 256) (by omega) (by omega) (by omega) (by omega) (by omega) (by omega),
    bits_join_low .i32 31 (by decide) wraps_i32 16 _ (c * 65536) (by omega) (by omega) (by omega) (by omega) (by omega) (by omega)]
  have hu := u32_or24 (a + b * 256 + c * 65536) (d * 16777216) (by omega) (by omega) (by omega) (by omega) (by omega)
  have hb : bits .or .i32 (a + b * 256 + c * 65536) (IntKind.i32.wrap (d * 16777216)) = IntKind.i32.wrap ((BitVec.ofInt 32 (a + b * 256 + c * 65536) ||| BitVec.ofInt 32 (d * 16777216)).toNat : Int) := by
    show IntKind.i32.wrap ((BitVec.ofInt 32 (a + b * 256 + c * 65536) ||| BitVec.ofInt 32 (IntKind.i32.wrap (d * 16777216))).toNat : Int) = _
    rw [ofInt_wrap_i32]
  have hv : bits .or .u32 (a + b * 256 + c * 65536) (d * 16777216) = IntKind.u32.wrap ((BitVec.ofInt 32 (a + b * 256 + c * 65536) ||| BitVec.ofInt 32 (d * 16777216)).toNat : Int) := rfl
  have hlt := (BitVec.ofInt 32 (a + b * 256 + c * 65536) ||| BitVec.ofInt 32 (d * 16777216)).isLt
  rw [hv, IntKind.wrap_u32] at hu
  rw [hb, signed]
  congr 1
  unfold word
  omega

end

section
open Go.RowKit

theorem Try.infoB : (Try.prog.info? 5).map (fun i => (i.zero, i.size, i.bytes)) = some (some (.int .u8 0), 1, 1) := by kernel_rfl

theorem Try.sizeB : (Try.prog.info? 5).map (·.size) = some 1 := by kernel_rfl

theorem byte_at {w : World} {A : Option Addr} {n : Nat} {bs : List Int} {k : IntKind} (h : Lies w A n (bs.map (Value.int k))) (hn : 0 < n) :
    ∃ b o, A = some ⟨b, o, none⟩ ∧ b < w.heap.size ∧ ∀ j, j < n → w.cell? ⟨b, o + j, none⟩ = some (.int k (bs.getD j 0)) := by
  obtain ⟨b, o, e, hb, hx⟩ := h.cells hn
  refine ⟨b, o, e, hb, fun j hj => ?_⟩
  have hl : j < bs.length := by have := h.len; simp at this; omega
  rw [hx j hj]
  simp [List.getD, hl]

theorem bytes_getD {bs : List Int} (h : Bytes bs) (j : Nat) : 0 ≤ bs.getD j 0 ∧ bs.getD j 0 < 256 := by
  by_cases hj : j < bs.length
  · have := h (bs[j]) (List.getElem_mem hj)
    simpa [List.getD, hj] using this
  · simp [List.getD, List.getElem?_eq_none (by omega : bs.length ≤ j)]

end

section
open Go.RowKit

section
variable {P : Program} {w : World}

/-- Where the longer list lies: where it was, that row turning alone; or in a new row, nothing turning. -/
def Moved (w w' : World) (v v' : Value) : Prop := (v'.ownBlock = v.ownBlock ∧ w.grownBy w' v.ownBlock) ∨ (w.grownBy w' none ∧ ∀ g, v'.ownBlock = some g → w.heap.size ≤ g)

theorem run_append_one (t ty e : TypeId) (i : TypeInfo) (z : Value) (bytes : Nat) (ht : P.underlying t = some (.slice e)) (hi : P.info? e = some i) (hz : i.zero = some z) (hsize : i.size = 1) (hby : i.bytes = bytes) (hzs : z.cells.size = 1)
    (base : Nat) (A : Option Addr) (n c : Nat) (xs : List Value) (ho : w.ownsRow base e 1 (.slice A n c) n xs) (hbase : base ≤ w.heap.size)
    (ad : Addr) (x : Value) (hx : w.cell? ad = some x) (h1 : x.oneCell' = true) (hb : (n + 1) * bytes ≤ 140737488355328) (h63 : n + 1 ≤ maxLen) :
    ∃ A' c' w', (Builtin.append_ #[t, t] ty #[.slice A n c, .slice (some ad) 1 1]).run P w = .ok (.slice A' (n + 1) c') w' ∧ w'.ownsRow base e 1 (.slice A' (n + 1) c') (n + 1) (xs ++ [x]) ∧ Moved w w' (.slice A n c) (.slice A' (n + 1) c') := by
  have hnews : ∀ j u, [x][j]? = some u → w.cell? (ad.add j) = some u := by
    intro j u hj
    match j, hj with
    | 0, hj => simp at hj; subst hj; simpa [Addr.add] using hx
  have h1' : ∀ u ∈ [x], u.oneCell' = true := by intro u hu; simp at hu; subst hu; exact h1
  rcases ho.2 with ⟨e0, h0⟩ | ⟨g, cap, cur, e0, hg, hh, hnc, hcm, hcs, hta⟩
  · injection e0 with eA en ec
    subst eA
    subst en
    subst ec
    have hnil : xs = [] := List.eq_nil_of_length_eq_zero (by simpa using ho.1)
    subst hnil
    obtain ⟨v', w', hrun, hown, hgr, _⟩ := run_append_own (P := P) w w.heap.size t ty e i z 1 bytes ht hi hz hsize hby hzs (by omega) (.slice none 0 0) 0 [] (World.ownsRow_nil _ _ _ _) ad 1 1 [x] rfl hnews h1' h63 hb (Nat.le_refl _)
    rcases hown.2 with ⟨_, h0⟩ | ⟨g, cap, cur, rfl, hgb, r⟩
    · omega
    · exact ⟨some ⟨g, 0, none⟩, cap, w', hrun, own_base hown hbase, .inr ⟨hgr, fun b hb' => by simp [Value.ownBlock] at hb'; omega⟩⟩
  · injection e0 with eA en ec
    subst eA
    subst ec
    by_cases hfit : n + 1 ≤ c
    · obtain ⟨w', hrun, h2, h3⟩ := run_append_fits (P := P) w base t ty e i 1 ht hi hsize g n c xs ho ad 1 1 [x] rfl hnews h1' hfit
      exact ⟨some ⟨g, 0, none⟩, c, w', hrun, h2, .inl ⟨rfl, h3⟩⟩
    · have holds : ∀ j u, xs[j]? = some u → w.cell? ((⟨g, 0, none⟩ : Addr).add j) = some u := ho.cells (g := g) rfl
      obtain ⟨v', w', hrun, hown, hgr⟩ := run_append_arg_grows (P := P) w t ty e i z 1 bytes ht hi hz hsize hby hzs (by omega) ⟨g, 0, none⟩ n c xs ho.1 holds ad 1 1 [x] rfl hnews (by omega) h63 hb
      rcases hown.2 with ⟨_, h0⟩ | ⟨g', cap', cur', rfl, hgb, r⟩
      · omega
      · exact ⟨some ⟨g', 0, none⟩, cap', w', hrun, own_base hown hbase, .inr ⟨hgr, fun b hb' => by simp [Value.ownBlock] at hb'; omega⟩⟩

theorem wpList_append_one {ops : Array Oper} {rest : List Oper} {op : Oper} {a : Act} {Q : Exit → Act → World → Prop} (hgd : op.guard = none) (s x : Operand) (t : TypeId)
    (hop : op.op = .call { callee := .builtin .append, args := #[s, x], argTypes := #[t, t] })
    (e : TypeId) (i : TypeInfo) (z : Value) (bytes : Nat) (ht : P.underlying t = some (.slice e)) (hi : P.info? e = some i) (hz : i.zero = some z) (hsize : i.size = 1) (hby : i.bytes = bytes) (hzs : z.cells.size = 1)
    (base : Nat) (A : Option Addr) (n c : Nat) (xs : List Value) (hs : a.eval s = .slice A n c) (ho : w.ownsRow base e 1 (.slice A n c) n xs) (hbase : base ≤ w.heap.size)
    (ad : Addr) (u : Value) (hxe : a.eval x = .slice (some ad) 1 1) (hx : w.cell? ad = some u) (h1 : u.oneCell' = true) (hb : (n + 1) * bytes ≤ 140737488355328) (h63 : n + 1 ≤ maxLen)
    (h : ∀ A' c' w', w'.ownsRow base e 1 (.slice A' (n + 1) c') (n + 1) (xs ++ [u]) → Moved w w' (.slice A n c) (.slice A' (n + 1) c') → wpList P ops Q rest (a.put op.dst (.slice A' (n + 1) c')) w') : wpList P ops Q (op :: rest) a w := by
  refine wpList_plain hgd fun K hK => ?_
  obtain ⟨A', c', w', hrun, h2, h3⟩ := run_append_one (P := P) (w := w) t op.type e i z bytes ht hi hz hsize hby hzs base A n c xs ho hbase ad u hx h1 hb h63
  unfold Oper.wp
  simp [execOp, hop, resolve, invoke, builtin, hs, hxe, hrun, Result.andThen]
  exact hK _ _ (h A' c' w' h2 h3)

end

section
variable {P : Program} {w : World}

/-- append of one more onto a list of the call's own, as one step of a region that draws its order; where the longer list lies is told. -/
theorem step_append_one {ops : Array Oper} {op : Oper} {a : Act} {K : Act → World → Prop} {Q : Exit → Act → World → Prop} {E : Prop} (hgd : op.guard = none) (s x : Operand) (t : TypeId)
    (hop : op.op = .call { callee := .builtin .append, args := #[s, x], argTypes := #[t, t] })
    (e : TypeId) (i : TypeInfo) (z : Value) (bytes : Nat) (ht : P.underlying t = some (.slice e)) (hi : P.info? e = some i) (hz : i.zero = some z) (hsize : i.size = 1) (hby : i.bytes = bytes) (hzs : z.cells.size = 1)
    (base : Nat) (A : Option Addr) (n c : Nat) (xs : List Value) (hs : a.eval s = .slice A n c) (ho : w.ownsRow base e 1 (.slice A n c) n xs) (hbase : base ≤ w.heap.size)
    (ad : Addr) (u : Value) (hxe : a.eval x = .slice (some ad) 1 1) (hx : w.cell? ad = some u) (h1 : u.oneCell' = true) (hb : (n + 1) * bytes ≤ 140737488355328) (h63 : n + 1 ≤ maxLen)
    (h : ∀ g' c' w', w'.ownsRow base e 1 (.slice (some ⟨g', 0, none⟩) (n + 1) c') (n + 1) (xs ++ [u]) → Moved w w' (.slice A n c) (.slice (some ⟨g', 0, none⟩) (n + 1) c') → K (a.put op.dst (.slice (some ⟨g', 0, none⟩) (n + 1) c')) w') :
    if Region.wanted op (yielded ops a.tmps) = true then Oper.wp P op a w K Q else E := by
  have hw : Region.wanted op (yielded ops a.tmps) = true := by simp [Region.wanted, hgd]
  rw [if_pos hw]
  obtain ⟨A', c', w', hrun, h2, h3⟩ := run_append_one (P := P) (w := w) t op.type e i z bytes ht hi hz hsize hby hzs base A n c xs ho hbase ad u hx h1 hb h63
  obtain ⟨g', rfl⟩ : ∃ g', A' = some ⟨g', 0, none⟩ := by
    rcases h2.2 with ⟨e0, h0⟩ | ⟨g, cap, cur, e0, _⟩
    · omega
    · injection e0 with e0; exact ⟨g, e0⟩
  unfold Oper.wp
  simp [execOp, hop, resolve, invoke, builtin, hs, hxe, hrun, Result.andThen]
  exact h g' c' w' h2 h3

end

theorem own_addr {w : World} {base : Nat} {e : TypeId} {A : Option Addr} {n c : Nat} {xs : List Value} (h : w.ownsRow base e 1 (.slice A n c) n xs) : A = none ∨ ∃ g, A = some ⟨g, 0, none⟩ := by
  rcases h.2 with ⟨e0, _⟩ | ⟨g, cap, cur, e0, _⟩ <;> injection e0 with e0
  · exact .inl e0
  · exact .inr ⟨g, e0⟩

theorem lies_of_own {w : World} {base : Nat} {e : TypeId} {A : Option Addr} {n c : Nat} {xs : List Value} (h : w.ownsRow base e 1 (.slice A n c) n xs) : Lies w A n xs := by
  rcases own_addr h with rfl | ⟨g, rfl⟩
  · rcases h.2 with ⟨_, h0⟩ | ⟨g, cap, cur, e0, _⟩
    · subst h0
      exact ⟨by simpa using h.1, fun hn => absurd hn (by omega)⟩
    · injection e0 with e0; cases e0
  · exact Lies.own h

section
variable {P : Program} {w : World}

/-- append of a whole slice, nil let in, onto a row of the call's own, nil let in. -/
theorem run_append_src (t ty e : TypeId) (i : TypeInfo) (z : Value) (bytes : Nat) (ht : P.underlying t = some (.slice e)) (hi : P.info? e = some i) (hz : i.zero = some z) (hsize : i.size = 1) (hby : i.bytes = bytes) (hzs : z.cells.size = 1)
    (base : Nat) (v : Value) (n : Nat) (xs : List Value) (ho : w.ownsRow base e 1 v n xs) (hbase : base ≤ w.heap.size)
    (A : Option Addr) (m c : Nat) (news : List Value) (hn : Lies w A m news) (hnil : A = none → c = 0) (h1 : ∀ u ∈ news, u.oneCell' = true) (hb : (n + m) * bytes ≤ 140737488355328) (h63 : n + m ≤ maxLen) :
    ∃ A' c' w', (Builtin.append_ #[t, t] ty #[v, .slice A m c]).run P w = .ok (.slice A' (n + m) c') w' ∧ w'.ownsRow base e 1 (.slice A' (n + m) c') (n + m) (xs ++ news) ∧ w.grownBy w' v.ownBlock := by
  cases A with
  | none =>
    obtain rfl : c = 0 := hnil rfl
    have hm : m = 0 := by
      rcases Nat.eq_zero_or_pos m with h | h
      · exact h
      · obtain ⟨_, _, h2, _⟩ := hn.cells h; cases h2
    subst hm
    have hnn : news = [] := List.eq_nil_of_length_eq_zero hn.len
    subst hnn
    have hrun := run_append_owned_none (P := P) w base t ty e i 1 ht hi v n xs ho
    rcases ho.2 with ⟨rfl, rfl⟩ | ⟨g, cap, cur, rfl, r⟩
    · exact ⟨none, 0, w, hrun, by simpa using ho, World.grownBy.refl _ _⟩
    · exact ⟨some ⟨g, 0, none⟩, cap, w, hrun, by simpa using ho, World.grownBy.refl _ _⟩
  | some ad =>
    have hcells : ∀ j u, news[j]? = some u → w.cell? (ad.add j) = some u := by
      intro j u hj
      have hjl : j < m := by have := (List.getElem?_eq_some_iff.1 hj).1; have := hn.len; omega
      obtain ⟨b, o, e1, _, hx⟩ := hn.cells (by omega)
      injection e1 with e1
      subst e1
      rw [Addr.add_lit, hx j hjl, hj]
    obtain ⟨v', w', hrun, hown, hg, _⟩ := run_append_own (P := P) w base t ty e i z 1 bytes ht hi hz hsize hby hzs (by omega) v n xs ho ad m c news (by have := hn.len; omega) hcells h1 h63 hb hbase
    rcases hown.2 with ⟨rfl, h0⟩ | ⟨g, cap, cur, rfl, r⟩
    · refine ⟨none, 0, w', ?_, ?_, hg⟩
      · rw [h0]; exact hrun
      · rw [h0]; rw [h0] at hown; exact hown
    · exact ⟨some ⟨g, 0, none⟩, cap, w', hrun, hown, hg⟩

theorem wpList_append_src {ops : Array Oper} {rest : List Oper} {op : Oper} {a : Act} {Q : Exit → Act → World → Prop} (hgd : op.guard = none) (s x : Operand) (t : TypeId)
    (hop : op.op = .call { callee := .builtin .append, args := #[s, x], argTypes := #[t, t] })
    (e : TypeId) (i : TypeInfo) (z : Value) (bytes : Nat) (ht : P.underlying t = some (.slice e)) (hi : P.info? e = some i) (hz : i.zero = some z) (hsize : i.size = 1) (hby : i.bytes = bytes) (hzs : z.cells.size = 1)
    (base : Nat) (v : Value) (n : Nat) (xs : List Value) (hs : a.eval s = v) (ho : w.ownsRow base e 1 v n xs) (hbase : base ≤ w.heap.size)
    (A : Option Addr) (m c : Nat) (news : List Value) (hx : a.eval x = .slice A m c) (hn : Lies w A m news) (hnil : A = none → c = 0) (h1 : ∀ u ∈ news, u.oneCell' = true) (hb : (n + m) * bytes ≤ 140737488355328) (h63 : n + m ≤ maxLen)
    (h : ∀ A' c' w', w'.ownsRow base e 1 (.slice A' (n + m) c') (n + m) (xs ++ news) → w.grownBy w' v.ownBlock → wpList P ops Q rest (a.put op.dst (.slice A' (n + m) c')) w') : wpList P ops Q (op :: rest) a w := by
  refine wpList_plain hgd fun K hK => ?_
  obtain ⟨A', c', w', hrun, h2, h3⟩ := run_append_src (P := P) (w := w) t op.type e i z bytes ht hi hz hsize hby hzs base v n xs ho hbase A m c news hn hnil h1 hb h63
  unfold Oper.wp
  simp [execOp, hop, resolve, invoke, builtin, hs, hx, hrun, Result.andThen]
  exact hK _ _ (h A' c' w' h2 h3)

end

section
variable {P : Program} {w : World}

/-- append of one element of several cells onto a row of the call's own, as one step of a region that draws its order. -/
theorem step_append_held {ops : Array Oper} {op : Oper} {a : Act} {K : Act → World → Prop} {Q : Exit → Act → World → Prop} {E : Prop} (hgd : op.guard = none) (s x : Operand) (t : TypeId)
    (hop : op.op = .call { callee := .builtin .append, args := #[s, x], argTypes := #[t, t] })
    (e : TypeId) (i : TypeInfo) (z : Value) (size bytes : Nat) (ht : P.underlying t = some (.slice e)) (hi : P.info? e = some i) (hz : i.zero = some z) (hsize : i.size = size) (hby : i.bytes = bytes) (hzs : z.cells.size = size) (hpos : 0 < size)
    (base : Nat) (v : Value) (n : Nat) (xs : List Value) (hs : a.eval s = v) (ho : w.ownsRow base e size v n xs) (hbase : base ≤ w.heap.size)
    (ad : Addr) (news : List Value) (hxe : a.eval x = .slice (some ad) 1 1) (hl : news.length = 1 * size) (hx : ∀ j u, news[j]? = some u → w.cell? (ad.add j) = some u) (h1 : ∀ u ∈ news, u.oneCell' = true) (hb : (n + 1) * bytes ≤ 140737488355328) (h63 : n + 1 ≤ maxLen)
    (h : ∀ g' c' w', w'.ownsRow base e size (.slice (some ⟨g', 0, none⟩) (n + 1) c') (n + 1) (xs ++ news) → w.grownBy w' v.ownBlock → K (a.put op.dst (.slice (some ⟨g', 0, none⟩) (n + 1) c')) w') :
    if Region.wanted op (yielded ops a.tmps) = true then Oper.wp P op a w K Q else E := by
  have hw : Region.wanted op (yielded ops a.tmps) = true := by simp [Region.wanted, hgd]
  rw [if_pos hw]
  obtain ⟨v', w', hrun, hown, hg, _⟩ := run_append_own (P := P) w base t op.type e i z size bytes ht hi hz hsize hby hzs hpos v n xs ho ad 1 1 news hl hx h1 h63 hb hbase
  obtain ⟨g', c', rfl⟩ : ∃ g' c', v' = .slice (some ⟨g', 0, none⟩) (n + 1) c' := by
    rcases hown.2 with ⟨_, h0⟩ | ⟨g', c', _, h0, _⟩
    · omega
    · exact ⟨g', c', h0⟩
  unfold Oper.wp
  simp [execOp, hop, resolve, invoke, builtin, hs, hxe, hrun, Result.andThen]
  exact h g' c' w' hown hg

end

section
variable {P : Program} {w : World}

/-- append of a whole slice, nil let in, onto a row of the call's own, nil let in, as one step of a region that draws its order. -/
theorem step_append_src {ops : Array Oper} {op : Oper} {a : Act} {K : Act → World → Prop} {Q : Exit → Act → World → Prop} {E : Prop} (hgd : op.guard = none) (s x : Operand) (t : TypeId)
    (hop : op.op = .call { callee := .builtin .append, args := #[s, x], argTypes := #[t, t] })
    (e : TypeId) (i : TypeInfo) (z : Value) (bytes : Nat) (ht : P.underlying t = some (.slice e)) (hi : P.info? e = some i) (hz : i.zero = some z) (hsize : i.size = 1) (hby : i.bytes = bytes) (hzs : z.cells.size = 1)
    (base : Nat) (v : Value) (n : Nat) (xs : List Value) (hs : a.eval s = v) (ho : w.ownsRow base e 1 v n xs) (hbase : base ≤ w.heap.size)
    (A : Option Addr) (m c : Nat) (news : List Value) (hx : a.eval x = .slice A m c) (hn : Lies w A m news) (hnil : A = none → c = 0) (h1 : ∀ u ∈ news, u.oneCell' = true) (hb : (n + m) * bytes ≤ 140737488355328) (h63 : n + m ≤ maxLen)
    (h : ∀ A' c' w', w'.ownsRow base e 1 (.slice A' (n + m) c') (n + m) (xs ++ news) → w.grownBy w' v.ownBlock → K (a.put op.dst (.slice A' (n + m) c')) w') :
    if Region.wanted op (yielded ops a.tmps) = true then Oper.wp P op a w K Q else E := by
  have hw : Region.wanted op (yielded ops a.tmps) = true := by simp [Region.wanted, hgd]
  rw [if_pos hw]
  obtain ⟨A', c', w', hrun, h2, h3⟩ := run_append_src (P := P) (w := w) t op.type e i z bytes ht hi hz hsize hby hzs base v n xs ho hbase A m c news hn hnil h1 hb h63
  unfold Oper.wp
  simp [execOp, hop, resolve, invoke, builtin, hs, hx, hrun, Result.andThen]
  exact h A' c' w' h2 h3

end

theorem below_moved {B : Nat} {a w w' : World} {base : Nat} {e : TypeId} {v v' : Value} {n : Nat} {xs : List Value} (hb : Below B a w) (hB : B ≤ w.heap.size) (ho : w.ownsRow base e 1 v n xs) (hm : Moved w w' v v') (hbb : B ≤ base := by exact Nat.le_refl _) : Below B a w' := by
  rcases hm with ⟨_, hg⟩ | ⟨hg, _⟩
  · exact hb.grown hg hB (fun g hgg => Nat.le_trans hbb (ho.lt g hgg).1)
  · exact hb.grown hg hB (by simp)

end

section
open Go.RowKit Go.Shelf
attribute [local go_sem] Oper.semAt_some

/-- The number at place k of the list lies in memory. -/
def NumAt (A : Option Addr) (k : Nat) (W : World) (z : Int) : Prop := ∃ b o, A = some ⟨b, o, none⟩ ∧ W.cell? ⟨b, o + k, none⟩ = some (.int .i32 z)

/-- How the body of a round may be left. -/
def RoundEnd (B : Nat) (I : Nat → World → Prop) (Ix : Code → World → Prop) (k : Nat) (W : World) : Exit → Act → World → Prop
  | .normal, _, W' => KeepsFrom B W W' ∧ I (k + 1) W'
  | .ret, _, W' => KeepsFrom B W W' ∧ Ix .ret W'
  | _, _, _ => False

theorem NumAt.put {A : Option Addr} {k r : Nat} {W : World} {z : Int} {o : Obj} (h : NumAt A k W z) (hr : W.heap[r]? = some o) (ho : o.isCells = false) (o' : Obj) : NumAt A k (W.putObj r o') z := by
  obtain ⟨b, q, e, hc⟩ := h
  exact ⟨b, q, e, cell_kept hc (grownBy_putObj' W r o') (fun j hj => by cases hj; exact ⟨o, hr, ho⟩)⟩

/-- A function that held such a loop returns: the mark is taken up first. -/
theorem markRet {P : Program} {F : Fence} {n : Nat} {fn : Func} {R : Ending → World → Prop} {a : Act} {w : World} {D : Nat} {v : Value} (hd : a.defers = [{ target := .collected D, args := #[] }]) (hK : w.heap[D]? = some (.deferred (some [])))
    (hr : (results fn a.tmps).run P (w.putObj D (.deferred none)) = .ok v (w.putObj D (.deferred none))) (hR : R (.returned v) (w.putObj D (.deferred none))) : bodyPostM F n P fn R .ret a w := by
  show LeavesInM F n P fn a.tmps R a.defers .returning w
  rw [hd]
  exact ⟨by simp, .inl ⟨_, _, rfl, run_takeDeferred hK, v, hr, hR⟩⟩

/-- It returns ahead of the loop. -/
theorem plainRet {P : Program} {F : Fence} {n : Nat} {fn : Func} {R : Ending → World → Prop} {a : Act} {w : World} {v : Value} (hd : a.defers = []) (hr : (results fn a.tmps).run P w = .ok v w) (hR : R (.returned v) w) : bodyPostM F n P fn R .ret a w := by
  show LeavesInM F n P fn a.tmps R a.defers .returning w
  rw [hd]
  exact ⟨v, hr, hR⟩

theorem heap_own {B : Nat} {W W' : World} {row : Option Nat} (hg : W.grownBy W' row) (hr : ∀ r, row = some r → B ≤ r ∧ ∃ o : Obj, W.heap[r]? = some o ∧ o.isCells = false) {g : Nat} {o : Obj} (h : W.heap[g]? = some o) (ho : o.isCells = true) : W'.heap[g]? = some o := by
  refine (hg.block g (lt_of_heap h) ?_).trans h
  intro e
  obtain ⟨_, o', ho', hc⟩ := hr g e.symm
  rw [h] at ho'
  cases ho'
  rw [ho] at hc
  cases hc

theorem below_put {B D : Nat} {w W : World} (h : Below B w W) (hB : B ≤ D) (hD : D < W.heap.size) (o : Obj) : Below B w (W.putObj D o) :=
  h.trans ((Below.refl B W).grown (grownBy_putObj' W D o) (by omega) (fun k e => by cases e; exact hB))

theorem heap_put {W : World} {D g : Nat} {o o' x : Obj} (hD : W.heap[D]? = some o) (ho : o.isCells = false) (h : W.heap[g]? = some o') (ho' : o'.isCells = true) : (W.putObj D x).heap[g]? = some o' :=
  (World.putObj_heap_other (by intro e; subst e; rw [hD] at h; cases h; rw [ho] at ho'; cases ho')).trans h

theorem keeps_below {B : Nat} {W W' : World} (h : Below W.heap.size W W') : KeepsFrom B W W' :=
  ⟨h.size, fun k _ _ hk _ => (h.block k (lt_of_heap hk)).trans hk⟩

theorem keeps_cells {B g : Nat} {W W' : World} {o : Obj} (h : W.grownBy W' (some g)) (hg : W.heap[g]? = some o) (ho : o.isCells = true) : KeepsFrom B W W' :=
  ⟨h.size, fun k x _ hk hx => (h.block k (lt_of_heap hk) (by intro e; cases e; rw [hg] at hk; cases hk; rw [ho] at hx; cases hx)).trans hk⟩

section
variable {P : Program} {w : World}

/-- append of a whole slice of integers, nil let in, onto a row of the call's own: a step of a region within a round. -/
theorem stepIn_append_ints {F : Fence} {m l : Nat} {op : Oper} {ops : Array Oper} {a : Act} {K : Act → World → Prop} {Q : Exit → Act → World → Prop} {E : Prop} (hF : ∀ f, (F.inRound l).fn f) (hgd : op.guard = none) (s x : Operand) (t : TypeId)
    (hop : op.op = .call { callee := .builtin .append, args := #[s, x], argTypes := #[t, t] })
    (e : TypeId) (i : TypeInfo) (z : Value) (bytes : Nat) (ht : P.underlying t = some (.slice e)) (hi : P.info? e = some i) (hz : i.zero = some z) (hsize : i.size = 1) (hby : i.bytes = bytes) (hzs : z.cells.size = 1)
    (base : Nat) (A0 : Option Addr) (n c0 N : Nat) (k : IntKind) (xs : List Int) (hs : a.eval s = .slice A0 n c0) (ho : w.ownsRow base e 1 (.slice A0 n c0) n (xs.map (Value.int k))) (hbase : base ≤ w.heap.size)
    (A : Option Addr) (q c : Nat) (zs : List Int) (hx : a.eval x = .slice A q c) (hn : Lies w A q (zs.map (Value.int k))) (hnil : A = none → c = 0) (hN : n + q = N) (hb : N * bytes ≤ 140737488355328) (h63 : N ≤ maxLen)
    (h : ∀ A' c' w', w'.ownsRow base e 1 (.slice A' N c') N ((xs ++ zs).map (Value.int k)) → w.grownBy w' (Value.slice A0 n c0).ownBlock → K (a.put op.dst (.slice A' N c')) w') :
    if Region.wanted op (yielded ops a.tmps) = true then Oper.wpIn (F.inRound l) m P op a w K Q else E := by
  have hw : Region.wanted op (yielded ops a.tmps) = true := by simp [Region.wanted, hgd]
  rw [if_pos hw]
  subst hN
  obtain ⟨A', c', w', hrun, h2, h3⟩ := run_append_src (P := P) (w := w) t op.type e i z bytes ht hi hz hsize hby hzs base (.slice A0 n c0) n _ ho hbase A q c _ hn hnil (by intro u hu; simp at hu; obtain ⟨_, _, rfl⟩ := hu; rfl) hb h63
  rw [← List.map_append] at h2
  refine ⟨fun f _ => hF f, ?_⟩
  rw [show (F.inRound l).round = some l from rfl, Oper.semAt_some l _ _ (by intro c e; rw [hop] at e; cases e)]
  simp [execOp, hop, resolve, invoke, builtin, hs, hx, hrun, Result.andThen, Oper.uponIn]
  exact h A' c' w' h2 h3

end

end

section
open Go.RowKit

def voidV : Value := .tuple #[]

set_option maxRecDepth 100000 in
set_option maxHeartbeats 1000000 in
theorem visit_size (I : Nat → World → Prop) (A : Option Addr) (n c : Nat) (xs : List Int) (p0 : Addr) (w : World) (hn : n ≤ 281474976710656)
    (hstep : ∀ (k : Nat) (wr : World), k < n → I (k + 1) wr → Calls Try.prog 45 #[.int .i64 (k : Int), .int .i64 (xs.getD k 0), .pointer (some p0)] wr fun e w' => e = .returned voidV ∧ I k w')
    (hkeep : ∀ k wr, I k wr → Lies wr A n (xs.map (Value.int .i64))) (h0 : I n w) :
    Calls Try.prog 44 #[.func (.func 45) #[] #[.pointer (some p0)], .slice A n c] w fun e w' => e = .returned voidV ∧ I 0 w' := by
  have HS := hide hstep
  have HK := hide hkeep
  have H0 : Hid (I n w) := hide h0
  clear hstep hkeep h0
  go_enter Try.func44, Try.ntmps44
  go_wp2
  go_loopw [4] (fun i wr => ∃ k : Nat, k ≤ n ∧ i = .int .i64 ((k : Int) - 1) ∧ Hid (I k wr)) (fun i _ => (intOf i + 1).toNat)
  case atStart => exact ⟨n, Nat.le_refl _, rfl, H0⟩
  case round =>
    obtain ⟨k, hk, rfl, HI⟩ := hrel
    cases k with
    | zero =>
      go_wp2
      go_end0
      exact ⟨rfl, HI.out⟩
    | succ m =>
      obtain ⟨b, o, rfl, _, hx⟩ := byte_at (HK.out _ _ HI.out) (by omega)
      have hc := hx m (by omega)
      clear hx
      have hm1 : (((m + 1 : Nat) : Int) - 1) = (m : Int) := by omega
      rw [hm1]
      clear hm1
      obtain ⟨z, hz⟩ : ∃ z, z = xs.getD m 0 := ⟨_, rfl⟩
      rw [← hz] at hc
      have h3 : (m : Int) < (n : Int) := by omega
      have HZ := hide hz
      clear hz
      go_wp2_with fail
      refine Calls.mono (by rw [HZ.out]; exact HS.out m wr (by omega) HI.out) ?_
      rintro e w2 ⟨rfl, hi2⟩
      have HI2 := hide hi2
      clear hi2 HI
      go_wp2
      go_roundw
      case rel => exact ⟨m, by omega, by go_num, HI2⟩
      case measure => simp [intOf]

end

section
open Go.RowKit
set_option linter.unusedVariables false
set_option linter.unusedSimpArgs false

/-- What a dimension counts for: 0 if it can't be one. -/
def dz (d : Int) : Int := if d < 1 ∨ 64 < d then 0 else d

theorem dz_nonneg (d : Int) : 0 ≤ dz d := by unfold dz; split <;> omega

theorem dz_le (d : Int) : dz d ≤ 64 := by unfold dz; split <;> omega

theorem dz_any (d : Int) (w : World) : Calls Try.prog 46 #[.int .i64 d] w fun e w' => e = .returned (.int .i64 (dz d)) ∧ w' = w := by
  go_enter Try.func46, Try.ntmps46
  by_cases h1 : d < 1
  · go_wp2
    go_ret
    exact ⟨by simp [dz, h1], rfl⟩
  · by_cases h2 : 64 < d
    · go_wp2
      go_ret
      exact ⟨by simp [dz, h2], rfl⟩
    · go_wp2
      go_ret
      exact ⟨by rw [dz, if_neg (by omega)]; rfl, rfl⟩

/-- A variable of one cell, at block p. -/
def Box1 (w : World) (p : Nat) (t : TypeId) (v : Value) : Prop := w.heap[p]? = some (.cells #[v] t (0, 0))

section
variable {w : World} {p : Nat} {t : TypeId} {v : Value}

theorem Box1.cell (h : Box1 w p t v) : w.cell? ⟨p, 0, none⟩ = some v := by
  have h' : w.heap[p]? = some (.cells #[v] t (0, 0)) := h
  simp [World.cell?, h']

theorem Box1.frozen (h : Box1 w p t v) : w.frozen? ⟨p, 0, none⟩ = false := by
  have h' : w.heap[p]? = some (.cells #[v] t (0, 0)) := h
  simp [World.frozen?, h']

theorem Box1.lt (h : Box1 w p t v) : p < w.heap.size := lt_of_heap h

theorem Box1.set (h : Box1 w p t v) (u : Value) : Box1 (w.setCell ⟨p, 0, none⟩ u) p t u := one_setCell h

theorem Box1.other (h : Box1 w p t v) {a : Addr} (hne : p ≠ a.block) (u : Value) : Box1 (w.setCell a u) p t v := (Below.heap_setCell w a u p hne).trans h

theorem Box1.alloc (h : Box1 w p t v) (o : Obj) : Box1 (w.alloc o) p t v := ((Below.refl w.heap.size w).alloc (Nat.le_refl _) o).block p h.lt |>.trans h

theorem Box1.below (h : Box1 w p t v) {B : Nat} {w' : World} (hb : Below B w w') (hB : p < B) : Box1 w' p t v := (hb.block p hB).trans h

theorem Box1.new (w : World) (v : Value) (t : TypeId) : Box1 (w.alloc (.cells #[v] t)) w.heap.size t v := heap_alloc_new w _

end

set_option maxRecDepth 100000 in
set_option maxHeartbeats 1000000 in
theorem size_step (p : Nat) (a d k : Int) (w : World) (h : Box1 w p 3 (.int .i64 a)) (h1 : 0 ≤ a) (h2 : a ≤ 1099511627776) :
    Calls Try.prog 45 #[.int .i64 k, .int .i64 d, .pointer (some ⟨p, 0, none⟩)] w fun e w' => e = .returned voidV ∧ ∃ q, w' = (w.setCell ⟨p, 0, none⟩ (.int .i64 (a * dz d))).drewN q := by
  have hc := h.cell
  have hf := h.frozen
  have HD := fun w => hide (dz_any d w)
  have hz0 := dz_nonneg d
  have hz1 := dz_le d
  have hm0 : 0 ≤ a * dz d := Int.mul_nonneg h1 hz0
  have hm1 : a * dz d ≤ 70368744177664 := by
    have := Int.mul_le_mul h2 hz1 hz0 (by omega)
    omega
  clear h
  obtain ⟨z, hz⟩ : ∃ z, z = dz d := ⟨_, rfl⟩
  rw [← hz] at hm0 hm1
  have hw : IntKind.i64.wrap (a * z) = a * z := IntWalk.i64_in _ (by omega)
  have HZ := hide hz
  clear hz hz0 hz1 hm0 hm1
  go_enter Try.func45, Try.ntmps45
  go_wp2
  go_region_law (first | (go_simp; go_at_call 46; refine Calls.mono (HD _).out ?_; rintro e w4 ⟨rfl, rfl⟩; rw [← HZ.out]))
  all_goals
    go_wp2
    go_end0
    exact ⟨rfl, 1, by rw [← HZ.out]; rfl⟩

end

section
open Go.RowKit
set_option linter.unusedVariables false
set_option linter.unusedSimpArgs false

/-- The product of what the dimensions count for. -/
def prodZ : List Int → Int
  | [] => 1
  | d :: l => dz d * prodZ l

theorem prodZ_nonneg : ∀ l, 0 ≤ prodZ l
  | [] => by simp [prodZ]
  | d :: l => Int.mul_nonneg (dz_nonneg d) (prodZ_nonneg l)

theorem prodZ_le : ∀ l, prodZ l ≤ ((64 ^ l.length : Nat) : Int)
  | [] => by simp [prodZ]
  | d :: l => by
    have h1 := prodZ_le l
    have h2 := dz_le d
    have h3 := dz_nonneg d
    have h4 := prodZ_nonneg l
    have h5 : dz d * prodZ l ≤ 64 * ((64 ^ l.length : Nat) : Int) := Int.mul_le_mul h2 h1 h4 (by omega)
    simp only [prodZ, List.length_cons, Nat.pow_succ]
    omega

theorem prodZ_append (a b : List Int) : prodZ (a ++ b) = prodZ a * prodZ b := by
  induction a with
  | nil => simp [prodZ]
  | cons d l ih => simp [prodZ, ih, Int.mul_assoc]

theorem pow64_le {m : Nat} (h : m ≤ 4) : 64 ^ m ≤ 16777216 := by
  have := Nat.pow_le_pow_right (n := 64) (by omega) h
  simpa using this

theorem prodZ_small {l : List Int} (h : l.length ≤ 4) : prodZ l ≤ 16777216 := by
  have h1 := prodZ_le l
  have h2 := pow64_le h
  omega

theorem drop_at {xs : List Int} {k : Nat} (h : k < xs.length) : xs.drop k = xs.getD k 0 :: xs.drop (k + 1) := by
  rw [List.drop_eq_getElem_cons h]
  simp [List.getD, h]

theorem prodZ_drop {xs : List Int} {k : Nat} (h : k < xs.length) : prodZ (xs.drop (k + 1)) * dz (xs.getD k 0) = prodZ (xs.drop k) := by
  rw [drop_at h, prodZ, Int.mul_comm]

/-- How many numbers a tensor of this shape has, or 0. -/
def sizeI (xs : List Int) : Int := if xs.length < 1 ∨ 4 < xs.length then 0 else if 4096 < prodZ xs then 0 else prodZ xs

theorem sizeI_nonneg (xs : List Int) : 0 ≤ sizeI xs := by
  unfold sizeI
  have := prodZ_nonneg xs
  split
  · omega
  · split <;> omega

theorem sizeI_le (xs : List Int) : sizeI xs ≤ 4096 := by
  unfold sizeI
  split
  · omega
  · split <;> omega

theorem sizeI_pos {xs : List Int} (h : 0 < sizeI xs) : 1 ≤ xs.length ∧ xs.length ≤ 4 ∧ sizeI xs = prodZ xs := by
  unfold sizeI at h ⊢
  split at h
  · omega
  · split at h
    · omega
    · rename_i h1 h2
      rw [if_neg h1, if_neg h2]
      omega

theorem prodZ_pos_all : ∀ {xs : List Int}, 0 < prodZ xs → ∀ d ∈ xs, 1 ≤ d ∧ d ≤ 64 ∧ dz d = d
  | [], _, d, hd => by cases hd
  | x :: l, h, d, hd => by
    have h4 := prodZ_nonneg l
    have hx := dz_nonneg x
    have h0 : dz x ≠ 0 := by intro e; simp [prodZ, e] at h
    have hl0 : prodZ l ≠ 0 := by intro e; simp [prodZ, e] at h
    have hxx : 1 ≤ x ∧ x ≤ 64 ∧ dz x = x := by
      unfold dz at h0 ⊢
      split at h0
      · omega
      · rename_i h1
        rw [if_neg h1]
        omega
    rcases List.mem_cons.1 hd with rfl | hd
    · exact hxx
    · exact prodZ_pos_all (by omega) d hd

set_option maxRecDepth 100000 in
set_option maxHeartbeats 1000000 in
theorem size_any (A : Option Addr) (n c : Nat) (xs : List Int) (w : World) (hA : Lies w A n (xs.map (Value.int .i64))) (hn : n ≤ 281474976710656) :
    Calls Try.prog 27 #[.slice A n c] w fun e w' => e = .returned (.int .i64 (sizeI xs)) ∧ Below w.heap.size w w' := by
  have hlen : xs.length = n := by have := hA.len; simpa using this
  have HA := hide hA
  have HLEN := hide hlen
  clear hA
  by_cases h1 : n < 1
  · have HS : Hid (sizeI xs = 0) := hide (by rw [sizeI, if_pos (by omega)])
    clear hlen
    go_enter Try.func27, Try.ntmps27
    go_wp2
    go_ret
    exact ⟨by rw [HS.out]; rfl, Below.refl _ _⟩
  · by_cases h4 : 4 < n
    · have HS : Hid (sizeI xs = 0) := hide (by rw [sizeI, if_pos (by omega)])
      clear hlen
      go_enter Try.func27, Try.ntmps27
      go_wp2
      go_ret
      exact ⟨by rw [HS.out]; rfl, Below.refl _ _⟩
    · have HV := hide (visit_size (fun k wr => Box1 wr w.heap.size 3 (.int .i64 (prodZ (xs.drop k))) ∧ Below w.heap.size w wr) A n c xs ⟨w.heap.size, 0, none⟩ (w.alloc (.cells #[.int .i64 1] 3)) hn
        (fun k wr hk hI => by
          refine Calls.mono (size_step w.heap.size (prodZ (xs.drop (k + 1))) (xs.getD k 0) k wr hI.1 (prodZ_nonneg _) ?_) ?_
          · have := prodZ_small (l := xs.drop (k + 1)) (by rw [List.length_drop]; omega)
            omega
          · rintro e w' ⟨rfl, q, rfl⟩
            refine ⟨rfl, ?_, below_drewN (hI.2.setCell (Nat.le_refl _) _) q⟩
            have e := prodZ_drop (xs := xs) (k := k) (by omega)
            have hs := hI.1.set (.int .i64 (prodZ (xs.drop (k + 1)) * dz (xs.getD k 0)))
            rw [e] at hs ⊢
            exact hs)
        (fun k wr hI => HA.out.below hI.2)
        ⟨by rw [List.drop_eq_nil_of_le (by omega)]; exact Box1.new _ _ _, (Below.refl _ _).alloc (Nat.le_refl _) _⟩)
      have hp := prodZ_small (l := xs) (by omega)
      have hp0 := prodZ_nonneg xs
      have HS := hide (show sizeI xs = if 4096 < prodZ xs then 0 else prodZ xs by rw [sizeI, if_neg (by omega)])
      clear hlen
      go_enter Try.func27, Try.ntmps27
      go_wp2_with fail
      refine Calls.mono HV.out ?_
      rintro e w2 ⟨rfl, hb, hbel⟩
      rw [List.drop_zero] at hb
      have hc := hb.cell
      have HB := hide hbel
      clear hb hbel
      obtain ⟨y, hy⟩ : ∃ y, y = prodZ xs := ⟨_, rfl⟩
      rw [← hy] at hp hp0 hc
      have HY := hide hy
      clear hy
      by_cases hbig : 4096 < y
      · go_wp2
        go_ret
        exact ⟨by rw [HS.out, ← HY.out, if_pos hbig]; rfl, HB.out⟩
      · go_wp2
        go_ret
        exact ⟨by rw [HS.out, ← HY.out, if_neg (by omega)]; rfl, HB.out⟩

set_option maxRecDepth 100000 in
theorem check_any (A : Option Addr) (n c : Nat) (xs : List Int) (w : World) (hA : Lies w A n (xs.map (Value.int .i64))) (hn : n ≤ 281474976710656) :
    Calls Try.prog 14 #[.slice A n c] w fun e w' => e = .returned (.bool (decide (0 < sizeI xs))) ∧ Below w.heap.size w w' := by
  have HA := hide hA
  clear hA
  go_enter Try.func14, Try.ntmps14
  go_wp2_with fail
  refine Calls.mono (size_any A n c xs w HA.out hn) ?_
  rintro e w2 ⟨rfl, hb⟩
  have HB := hide hb
  clear hb
  obtain ⟨y, hy⟩ : ∃ y, y = sizeI xs := ⟨_, rfl⟩
  rw [← hy]
  have HY := hide hy
  clear hy
  go_wp2
  go_ret
  exact ⟨by rw [← HY.out]; rfl, HB.out⟩

end

section
open Go.RowKit
set_option linter.unusedVariables false
set_option linter.unusedSimpArgs false

end

section
open Go.RowKit
set_option linter.unusedVariables false
set_option linter.unusedSimpArgs false

theorem Try.infoI : (Try.prog.info? 3).map (fun i => (i.zero, i.size, i.bytes)) = some (some (.int .i64 0), 1, 8) := by kernel_rfl

/-- Is each place within its dimension? -/
def allIn : List Int → List Int → Bool
  | x :: xs, y :: ys => allIn xs ys && decide (0 ≤ y) && decide (y < x)
  | _, _ => true

/-- The index, counted from the last dimension on. -/
def valI : List Int → List Int → Int
  | _ :: xs, y :: ys => valI xs ys + prodZ xs * y
  | _, _ => 0

/-- The places of an index. -/
def digs : List Int → Int → List Int
  | [], _ => []
  | x :: xs, i => i / prodZ xs % x :: digs xs i

def okAt (xs ys : List Int) : Bool := decide (0 < sizeI xs) && (decide (ys.length = xs.length) && allIn xs ys)

theorem allIn_drop {xs ys : List Int} {k : Nat} (h1 : k < xs.length) (h2 : k < ys.length) : allIn (xs.drop k) (ys.drop k) = (allIn (xs.drop (k + 1)) (ys.drop (k + 1)) && decide (0 ≤ ys.getD k 0) && decide (ys.getD k 0 < xs.getD k 0)) := by
  rw [drop_at h1, drop_at h2, allIn]

theorem valI_drop {xs ys : List Int} {k : Nat} (h1 : k < xs.length) (h2 : k < ys.length) : valI (xs.drop k) (ys.drop k) = valI (xs.drop (k + 1)) (ys.drop (k + 1)) + prodZ (xs.drop (k + 1)) * ys.getD k 0 := by
  rw [drop_at h1, drop_at h2, valI]

theorem allIn_at : ∀ {xs ys : List Int} (k : Nat), allIn xs ys = true → k < xs.length → k < ys.length → 0 ≤ ys.getD k 0 ∧ ys.getD k 0 < xs.getD k 0
  | [], _, _, _, h, _ => by simp at h
  | _ :: _, [], _, _, _, h => by simp at h
  | x :: xs, y :: ys, 0, h, _, _ => by simp [allIn] at h; simpa using ⟨h.1.2, h.2⟩
  | x :: xs, y :: ys, k + 1, h, h1, h2 => by
    simp [allIn] at h
    have := allIn_at (xs := xs) (ys := ys) k h.1.1 (by simpa using h1) (by simpa using h2)
    simpa using this

theorem allIn_drop_of : ∀ {xs ys : List Int} (k : Nat), allIn xs ys = true → allIn (xs.drop k) (ys.drop k) = true
  | [], _, k, _ => by simp [allIn]
  | x :: xs, [], k, _ => by
    rw [List.drop_nil]
    cases (x :: xs).drop k <;> rfl
  | x :: xs, y :: ys, 0, h => h
  | x :: xs, y :: ys, k + 1, h => by
    simp [allIn] at h
    simpa using allIn_drop_of k h.1.1

/-- A list all of whose dimensions may be. -/
def AllDim (xs : List Int) : Prop := ∀ d ∈ xs, 1 ≤ d ∧ d ≤ 64 ∧ dz d = d

theorem AllDim.tail {x : Int} {xs : List Int} (h : AllDim (x :: xs)) : AllDim xs := fun d hd => h d (List.mem_cons_of_mem _ hd)

theorem AllDim.drop {xs : List Int} (h : AllDim xs) (k : Nat) : AllDim (xs.drop k) := fun d hd => h d (List.mem_of_mem_drop hd)

theorem AllDim.at {xs : List Int} (h : AllDim xs) {k : Nat} (hk : k < xs.length) : 1 ≤ xs.getD k 0 ∧ xs.getD k 0 ≤ 64 ∧ dz (xs.getD k 0) = xs.getD k 0 := by
  have : xs.getD k 0 = xs[k] := by simp [List.getD, hk]
  rw [this]
  exact h _ (List.getElem_mem hk)

theorem AllDim.pos : ∀ {xs : List Int}, AllDim xs → 1 ≤ prodZ xs
  | [], _ => by simp [prodZ]
  | x :: xs, h => by
    have h1 := AllDim.pos h.tail
    obtain ⟨h2, _, h3⟩ := h x (List.mem_cons_self ..)
    rw [prodZ, h3]
    have := Int.mul_le_mul h2 h1 (by omega) (by omega)
    omega

theorem size_dims {xs : List Int} (h : 0 < sizeI xs) : AllDim xs := by
  obtain ⟨_, _, h3⟩ := sizeI_pos h
  exact fun d hd => prodZ_pos_all (by omega) d hd

theorem valI_bound : ∀ {xs ys : List Int}, AllDim xs → allIn xs ys = true → 0 ≤ valI xs ys ∧ valI xs ys < prodZ xs
  | [], _, h, _ => by simp [valI, prodZ]
  | x :: xs, [], h, _ => by
    have := h.pos
    simp only [valI]
    omega
  | x :: xs, y :: ys, h, hin => by
    simp [allIn] at hin
    obtain ⟨⟨h1, h2⟩, h3⟩ := hin
    obtain ⟨i1, i2⟩ := valI_bound h.tail h1
    have h4 := h.tail.pos
    obtain ⟨_, _, h5⟩ := h x (List.mem_cons_self ..)
    rw [valI, prodZ, h5]
    have h6 : 0 ≤ prodZ xs * y := Int.mul_nonneg (by omega) h2
    have h7 : prodZ xs * (y + 1) ≤ prodZ xs * x := Int.mul_le_mul_of_nonneg_left (by omega) (by omega)
    rw [Int.mul_add, Int.mul_one] at h7
    rw [Int.mul_comm x]
    omega

theorem digs_len : ∀ (xs : List Int) (i : Int), (digs xs i).length = xs.length
  | [], _ => rfl
  | x :: xs, i => by simp [digs, digs_len xs i]

end

section
open Go.RowKit
set_option linter.unusedVariables false
set_option linter.unusedSimpArgs false

end

section
open Go.RowKit

end

section
open Go.RowKit

/-- The number that the first four bytes are. -/
def head4 (bs : List Int) : Int := word (bs.getD 0 0) (bs.getD 1 0) (bs.getD 2 0) (bs.getD 3 0)

/-- A row of zero bytes. -/
def zeroRow (m : Nat) : List Value := List.replicate m (.int .u8 0)

theorem zeroRow_len (m : Nat) : (zeroRow m).length = m := by simp [zeroRow]

theorem splice_zero (Z xs : List Value) (h : xs.length ≤ Z.length) : (splice Z 0 xs).length = Z.length ∧ (splice Z 0 xs).take xs.length = xs :=
  ⟨length_splice Z 0 xs (by omega), by simp [splice]⟩

end

section
open Go.RowKit

/-- The bytes of a list of words. -/
def enc (zs : List Int) : List Int := zs.flatMap four

def encV (zs : List Int) : List Value := (enc zs).map (Value.int .u8)

theorem enc_len (zs : List Int) : (enc zs).length = 4 * zs.length := by
  induction zs with
  | nil => rfl
  | cons z r ih => simp only [enc, List.flatMap_cons, List.length_append, four_len, List.length_cons] at ih ⊢; omega

theorem encV_len (zs : List Int) : (encV zs).length = 4 * zs.length := by rw [encV, List.length_map, enc_len]

theorem encV_snoc (zs : List Int) (k : Nat) (h : k < zs.length) : encV (zs.take (k + 1)) = encV (zs.take k) ++ (four (zs.getD k 0)).map (Value.int .u8) := by
  have e : zs.getD k 0 = zs[k] := by simp [List.getD, h]
  rw [e, List.take_succ_eq_append_getElem h, encV, enc, List.flatMap_append, List.map_append]
  simp [encV, enc]

end

section
open Go.RowKit

theorem lies_new (w : World) (cs : List Value) (t : TypeId) : Lies (w.alloc (.cells cs.toArray t)) (some ⟨w.heap.size, 0, none⟩) cs.length cs :=
  ⟨rfl, fun _ => ⟨w.heap.size, 0, rfl, by simp, fun j hj => by
    have h := cells_new w cs t j cs[j] (List.getElem?_eq_getElem hj)
    rw [Addr.add_lit] at h
    rw [h, List.getElem?_eq_getElem hj]⟩⟩

theorem encV_cons (x : Int) (zs : List Int) : encV (x :: zs) = encV [x] ++ encV zs := by simp [encV, enc]

end

section
open Go.RowKit

/-- The j-th number, with its sign. -/
def wd (bs : List Int) (j : Nat) : Int := signed (word (bs.getD (4 * j) 0) (bs.getD (4 * j + 1) 0) (bs.getD (4 * j + 2) 0) (bs.getD (4 * j + 3) 0))

def dec (bs : List Int) (q : Nat) : List Int := (List.range q).map (wd bs)

theorem dec_len (bs : List Int) (q : Nat) : (dec bs q).length = q := by simp [dec]

/-- A row of q numbers of which the first k are read. -/
def part (bs : List Int) (q k : Nat) : List Value := (List.range q).map fun j => .int .i32 (if j < k then wd bs j else 0)

theorem part_none (bs : List Int) (q : Nat) : part bs q 0 = List.replicate q (.int .i32 0) := by
  apply List.ext_getElem <;> simp [part]

theorem part_all (bs : List Int) (q : Nat) : part bs q q = (dec bs q).map (Value.int .i32) := by
  apply List.ext_getElem
  · simp [part, dec]
  · intro j h1 h2
    have : j < q := by simpa [part] using h1
    simp [part, dec, this]

theorem part_set (bs : List Int) (q k : Nat) : (part bs q k).set k (.int .i32 (wd bs k)) = part bs q (k + 1) := by
  apply List.ext_getElem
  · simp [part]
  · intro j h1 h2
    simp only [part, List.getElem_set, List.getElem_map, List.getElem_range]
    by_cases e : k = j
    · subst e; simp
    · rw [if_neg e]
      by_cases h : j < k
      · rw [if_pos h, if_pos (by omega)]
      · rw [if_neg h, if_neg (by omega)]

theorem part_at (bs : List Int) (q k j : Nat) (h : j < q) : (part bs q k)[j]? = some (.int .i32 (if j < k then wd bs j else 0)) := by
  simp [part, h]

theorem Try.infoI32 : (Try.prog.info? 21).map (fun i => (i.zero, i.size, i.bytes)) = some (some (.int .i32 0), 1, 4) := by kernel_rfl

end

section
open Go.RowKit

theorem cell_kept {a w : World} {b o : Nat} {v : Value} (hb : Below a.heap.size a w) (h : a.cell? ⟨b, o, none⟩ = some v) : w.cell? ⟨b, o, none⟩ = some v :=
  (hb.cell (World.block_lt_of_cell? a _ h)).trans h

theorem ints_one (k : IntKind) (zs : List Int) : ∀ u ∈ zs.map (Value.int k), u.oneCell' = true := by
  intro u hu
  simp at hu
  obtain ⟨_, _, rfl⟩ := hu
  rfl

section
variable {P : Program} {w : World}

theorem step_append_nil {ops : Array Oper} {op : Oper} {a : Act} {K : Act → World → Prop} {Q : Exit → Act → World → Prop} {E : Prop} (hgd : op.guard = none) (s x : Operand) (t : TypeId)
    (hop : op.op = .call { callee := .builtin .append, args := #[s, x], argTypes := #[t, t] })
    (e : TypeId) (i : TypeInfo) (z : Value) (bytes : Nat) (ht : P.underlying t = some (.slice e)) (hi : P.info? e = some i) (hz : i.zero = some z) (hsize : i.size = 1) (hby : i.bytes = bytes) (hzs : z.cells.size = 1)
    (hs : a.eval s = .slice none 0 0) (A : Option Addr) (m c : Nat) (k : IntKind) (zs : List Int) (hx : a.eval x = .slice A m c) (hn : Lies w A m (zs.map (Value.int k))) (hnil : A = none → c = 0) (hb : m * bytes ≤ 140737488355328) (h63 : m ≤ maxLen)
    (h : ∀ A' c' w', w'.ownsRow w.heap.size e 1 (.slice A' m c') m (zs.map (Value.int k)) → Below w.heap.size w w' → K (a.put op.dst (.slice A' m c')) w') :
    if Region.wanted op (yielded ops a.tmps) = true then Oper.wp P op a w K Q else E := by
  refine step_append_src hgd s x t hop e i z bytes ht hi hz hsize hby hzs w.heap.size (.slice none 0 0) 0 [] hs (World.ownsRow_nil _ _ _ _) (Nat.le_refl _) A m c _ hx hn hnil (ints_one k zs) (by rw [Nat.zero_add]; exact hb) (by omega) ?_
  rw [Nat.zero_add, List.nil_append]
  intro A' c' w' ho hg
  exact h A' c' w' ho ⟨hg.os, hg.tape, hg.output, hg.size, fun j hj => hg.block j hj (by simp [Value.ownBlock])⟩

theorem wpList_append_nil {ops : Array Oper} {rest : List Oper} {op : Oper} {a : Act} {Q : Exit → Act → World → Prop} (hgd : op.guard = none) (s x : Operand) (t : TypeId)
    (hop : op.op = .call { callee := .builtin .append, args := #[s, x], argTypes := #[t, t] })
    (e : TypeId) (i : TypeInfo) (z : Value) (bytes : Nat) (ht : P.underlying t = some (.slice e)) (hi : P.info? e = some i) (hz : i.zero = some z) (hsize : i.size = 1) (hby : i.bytes = bytes) (hzs : z.cells.size = 1)
    (hs : a.eval s = .slice none 0 0) (A : Option Addr) (m c : Nat) (k : IntKind) (zs : List Int) (hx : a.eval x = .slice A m c) (hn : Lies w A m (zs.map (Value.int k))) (hnil : A = none → c = 0) (hb : m * bytes ≤ 140737488355328) (h63 : m ≤ maxLen)
    (h : ∀ A' c' w', w'.ownsRow w.heap.size e 1 (.slice A' m c') m (zs.map (Value.int k)) → Below w.heap.size w w' → wpList P ops Q rest (a.put op.dst (.slice A' m c')) w') : wpList P ops Q (op :: rest) a w := by
  refine wpList_append_src hgd s x t hop e i z bytes ht hi hz hsize hby hzs w.heap.size (.slice none 0 0) 0 [] hs (World.ownsRow_nil _ _ _ _) (Nat.le_refl _) A m c _ hx hn hnil (ints_one k zs) (by rw [Nat.zero_add]; exact hb) (by omega) ?_
  rw [Nat.zero_add, List.nil_append]
  intro A' c' w' ho hg
  exact h A' c' w' ho ⟨hg.os, hg.tape, hg.output, hg.size, fun j hj => hg.block j hj (by simp [Value.ownBlock])⟩

theorem step_append_ints {ops : Array Oper} {op : Oper} {a : Act} {K : Act → World → Prop} {Q : Exit → Act → World → Prop} {E : Prop} (hgd : op.guard = none) (s x : Operand) (t : TypeId)
    (hop : op.op = .call { callee := .builtin .append, args := #[s, x], argTypes := #[t, t] })
    (e : TypeId) (i : TypeInfo) (z : Value) (bytes : Nat) (ht : P.underlying t = some (.slice e)) (hi : P.info? e = some i) (hz : i.zero = some z) (hsize : i.size = 1) (hby : i.bytes = bytes) (hzs : z.cells.size = 1)
    (base : Nat) (A0 : Option Addr) (n c0 N : Nat) (k : IntKind) (xs : List Int) (hs : a.eval s = .slice A0 n c0) (ho : w.ownsRow base e 1 (.slice A0 n c0) n (xs.map (Value.int k))) (hbase : base ≤ w.heap.size)
    (A : Option Addr) (m c : Nat) (zs : List Int) (hx : a.eval x = .slice A m c) (hn : Lies w A m (zs.map (Value.int k))) (hnil : A = none → c = 0) (hN : n + m = N) (hb : N * bytes ≤ 140737488355328) (h63 : N ≤ maxLen)
    (h : ∀ A' c' w', w'.ownsRow base e 1 (.slice A' N c') N ((xs ++ zs).map (Value.int k)) → Below base w w' → K (a.put op.dst (.slice A' N c')) w') :
    if Region.wanted op (yielded ops a.tmps) = true then Oper.wp P op a w K Q else E := by
  subst hN
  refine step_append_src hgd s x t hop e i z bytes ht hi hz hsize hby hzs base (.slice A0 n c0) n _ hs ho hbase A m c _ hx hn hnil (ints_one k zs) hb h63 ?_
  intro A' c' w' ho' hg
  rw [← List.map_append] at ho'
  exact h A' c' w' ho' ((Below.refl base w).grown hg hbase (fun g hgg => (ho.lt g hgg).1))

theorem wpList_append_ints {ops : Array Oper} {rest : List Oper} {op : Oper} {a : Act} {Q : Exit → Act → World → Prop} (hgd : op.guard = none) (s x : Operand) (t : TypeId)
    (hop : op.op = .call { callee := .builtin .append, args := #[s, x], argTypes := #[t, t] })
    (e : TypeId) (i : TypeInfo) (z : Value) (bytes : Nat) (ht : P.underlying t = some (.slice e)) (hi : P.info? e = some i) (hz : i.zero = some z) (hsize : i.size = 1) (hby : i.bytes = bytes) (hzs : z.cells.size = 1)
    (base : Nat) (A0 : Option Addr) (n c0 N : Nat) (k : IntKind) (xs : List Int) (hs : a.eval s = .slice A0 n c0) (ho : w.ownsRow base e 1 (.slice A0 n c0) n (xs.map (Value.int k))) (hbase : base ≤ w.heap.size)
    (A : Option Addr) (m c : Nat) (zs : List Int) (hx : a.eval x = .slice A m c) (hn : Lies w A m (zs.map (Value.int k))) (hnil : A = none → c = 0) (hN : n + m = N) (hb : N * bytes ≤ 140737488355328) (h63 : N ≤ maxLen)
    (h : ∀ A' c' w', w'.ownsRow base e 1 (.slice A' N c') N ((xs ++ zs).map (Value.int k)) → Below base w w' → wpList P ops Q rest (a.put op.dst (.slice A' N c')) w') : wpList P ops Q (op :: rest) a w := by
  subst hN
  refine wpList_append_src hgd s x t hop e i z bytes ht hi hz hsize hby hzs base (.slice A0 n c0) n _ hs ho hbase A m c _ hx hn hnil (ints_one k zs) hb h63 ?_
  intro A' c' w' ho' hg
  rw [← List.map_append] at ho'
  exact h A' c' w' ho' ((Below.refl base w).grown hg hbase (fun g hgg => (ho.lt g hgg).1))

end

end

section
open Go.RowKit
set_option linter.unusedVariables false
set_option linter.unusedSimpArgs false
set_option maxRecDepth 20000

/-- A tensor as a value. -/
abbrev tenV (A : Option Addr) (n c : Nat) (B : Option Addr) (m d : Nat) : Value := .agg #[.slice A n c, .slice B m d]

/-- May a tensor be, of this shape and that many numbers? -/
def tenOk (s : List Int) (m : Nat) : Bool := decide (0 < sizeI s) && decide (sizeI s = (m : Int))

theorem tenOk_iff {s : List Int} {m : Nat} : tenOk s m = true ↔ 0 < sizeI s ∧ sizeI s = (m : Int) := by simp [tenOk]

set_option maxHeartbeats 800000 in
theorem clone_ints (A : Option Addr) (n c : Nat) (s : List Int) (w : World) (h : Lies w A n (s.map (Value.int .i64))) (hp : 0 < n) (hm : n ≤ 1073741824) :
    Calls Try.prog 49 #[.slice A n c] w fun e w' => ∃ g' c', e = .returned (.slice (some ⟨g', 0, none⟩) n c') ∧ w'.ownsRow w.heap.size 3 1 (.slice (some ⟨g', 0, none⟩) n c') n (s.map (Value.int .i64)) ∧ Below w.heap.size w w' := by
  obtain ⟨i, hi, hz0, hz1, hz2⟩ := info_parts Try.infoI
  obtain ⟨b, o, rfl, hb, hx⟩ := h.cells hp
  have HI := hide hi
  have HZ0 := hide hz0
  have HZ1 := hide hz1
  have HZ2 := hide hz2
  have HLN : Hid ((s.map (Value.int .i64)).length = n * 1) := hide (by rw [h.len]; omega)
  have HL : Hid (∀ j u, (s.map (Value.int .i64))[j]? = some u → (w.alloc (.cells #[] 3)).cell? ((⟨b, o, none⟩ : Addr).add j) = some u) := hide (fun j u hj => by
    have hjn : j < n := by have := (List.getElem?_eq_some_iff.1 hj).1; have := h.len; omega
    obtain ⟨b', o', e, _, hy⟩ := (h.alloc (.cells #[] 3)).cells hp
    cases e
    rw [Addr.add_lit, hy j hjn, hj])
  have heq : (binOp .eql 33 (.slice (some ⟨b, o, none⟩) n c) (.slice none 0 0)).run Try.prog w = .ok (.bool false) w := Lib.run_eql_slice_nil w _ _ _ _ _ _ _ Try.underlying33
  clear h hi hz0 hz1 hz2 hx
  go_enter Try.func49, Try.ntmps49
  go_wp2_with (at_builtin; refine wpList_append_grows _ rfl _ _ 33 rfl 3 i _ 1 8 Try.underlying33 HI.out HZ0.out HZ1.out HZ2.out rfl (Nat.succ_pos _) (some ⟨w.heap.size, 0, none⟩) 0 0 [] rfl (fun h => by cases h) rfl (fun _ _ j u hj => by cases hj) ⟨b, o, none⟩ n c (s.map (Value.int .i64)) rfl HLN.out HL.out (ints_one .i64 s) (by omega) (by unfold maxLen; omega) (by omega) ?_)
  intro v' w' hown hgr
  obtain ⟨g', c', rfl⟩ : ∃ g' c', v' = .slice (some ⟨g', 0, none⟩) n c' := by
    rcases hown.2 with ⟨_, h0⟩ | ⟨g', c', _, h0, _⟩
    · omega
    · exact ⟨g', c', h0⟩
  have HF := hide (own_base (base' := w.heap.size) hown (by simp))
  have HB : Hid (Below w.heap.size w w') := hide (((Below.refl w.heap.size w).alloc (Nat.le_refl _) _).grown hgr (by simp) (by simp))
  clear hown hgr heq
  go_wp2
  go_ret
  exact ⟨g', c', by simp [Act.eval], HF.out, HB.out⟩

end

section
open Go.RowKit
set_option linter.unusedVariables false
set_option linter.unusedSimpArgs false
set_option maxRecDepth 20000

theorem grown_setRow (w : World) (g : Nat) (cs : Array Value) : w.grownBy (w.setRow g cs) (some g) :=
  ⟨rfl, rfl, rfl, by simp, fun k _ hk => setRow_other w g k cs (by intro e; exact hk (by rw [e]))⟩

theorem own_setRow {w : World} {base : Nat} {e : TypeId} {A : Option Addr} {n c : Nat} {xs : List Value} (h : w.ownsRow base e 1 (.slice A n c) n xs) {g : Nat} (hg : g < base) (cs : Array Value) : (w.setRow g cs).ownsRow base e 1 (.slice A n c) n xs :=
  h.kept (row := some g) (grown_setRow w g cs) (by
    right
    intro e
    have := (h.lt g e).1
    omega)

section
variable {w : World} {p : Nat} {v u : Value}

end

end

section
open Go.RowKit
set_option linter.unusedVariables false
set_option linter.unusedSimpArgs false
set_option maxRecDepth 20000

def add32 (x y : Int) : Int := wrap32 (x + y)

def mul32 (x y : Int) : Int := wrap32 (x * y)

def relu32 (x : Int) : Int := if x < 0 then 0 else x

/-- What a shift by n makes of x. -/
def shf (n : Nat) (x : Int) : Int := if (x + 2 ^ n / 2) / 2 ^ n < -128 then -128 else if 127 < (x + 2 ^ n / 2) / 2 ^ n then 127 else (x + 2 ^ n / 2) / 2 ^ n

section
variable {w : World} {p : Nat} {x y : Int}

end

theorem pow_bounds {n : Nat} (hn : n ≤ 31) : 1 ≤ (2 : Int) ^ n ∧ (2 : Int) ^ n ≤ 2147483648 := by
  have h1 : 2 ^ n ≤ 2 ^ 31 := Nat.pow_le_pow_right (by omega) hn
  have h2 : 0 < 2 ^ n := Nat.pow_pos (by omega)
  have h3 : ((2 ^ n : Nat) : Int) = (2 : Int) ^ n := by simp
  omega

theorem shf_parts {n : Nat} {x : Int} (hn : n ≤ 31) (hx : -2147483648 ≤ x ∧ x < 2147483648) : wrap64 (x + wrap64 (2 ^ n) / 2) / 2 ^ n = (x + 2 ^ n / 2) / 2 ^ n := by
  obtain ⟨h1, h2⟩ := pow_bounds hn
  have e1 : wrap64 ((2 : Int) ^ n) = 2 ^ n := by unfold wrap64; omega
  have e2 : wrap64 (x + (2 : Int) ^ n / 2) = x + 2 ^ n / 2 := by unfold wrap64; omega
  rw [e1, e2]

end

section
open Go.RowKit

section
variable {L : List (List Value)} {s k : Nat} {r : List Value}

theorem flat_len (h : ∀ x ∈ L, x.length = s) : L.flatten.length = L.length * s := by
  induction L with
  | nil => simp
  | cons a t ih =>
    rw [List.flatten_cons, List.length_append, ih (fun x hx => h x (List.mem_cons_of_mem _ hx)), h a List.mem_cons_self, List.length_cons, Nat.add_mul]
    omega

theorem flat_split (hk : L[k]? = some r) : L = L.take k ++ r :: L.drop (k + 1) := by
  have h := (List.getElem?_eq_some_iff.1 hk)
  obtain ⟨hl, he⟩ := h
  rw [← he, List.getElem_cons_drop, List.take_append_drop]

theorem flat_pre (h : ∀ x ∈ L, x.length = s) (hk : k < L.length) : (L.take k).flatten.length = k * s := by
  rw [flat_len (s := s) (fun x hx => h x (List.mem_of_mem_take hx)), List.length_take]
  congr 1
  omega

theorem flat_get (h : ∀ x ∈ L, x.length = s) (hk : L[k]? = some r) {j : Nat} (hj : j < s) : L.flatten[k * s + j]? = r[j]? := by
  have hl := (List.getElem?_eq_some_iff.1 hk).1
  have hp := flat_pre h hl
  have hr : r.length = s := h r (List.mem_of_getElem? hk)
  have e := congrArg List.flatten (flat_split hk)
  rw [List.flatten_append, List.flatten_cons] at e
  rw [e, List.getElem?_append_right (by omega), hp, Nat.add_sub_cancel_left, List.getElem?_append_left (by omega)]

theorem flat_seg (h : ∀ x ∈ L, x.length = s) (hk : L[k]? = some r) (o : Nat) (vs : List Value) (ho : o + vs.length ≤ s) :
    L.flatten.take (k * s + o) ++ vs ++ L.flatten.drop (k * s + o + vs.length) = (L.set k (r.take o ++ vs ++ r.drop (o + vs.length))).flatten := by
  have hl := (List.getElem?_eq_some_iff.1 hk).1
  have hp := flat_pre h hl
  have hr : r.length = s := h r (List.mem_of_getElem? hk)
  have e1 := flat_split hk
  have e := congrArg List.flatten e1
  rw [List.flatten_append, List.flatten_cons] at e
  have e2 : L.set k (r.take o ++ vs ++ r.drop (o + vs.length)) = L.take k ++ (r.take o ++ vs ++ r.drop (o + vs.length)) :: L.drop (k + 1) := by
    rw [List.set_eq_take_append_cons_drop, if_pos hl]
  rw [e2, List.flatten_append, List.flatten_cons, e]
  have t1 : ((L.take k).flatten ++ (r ++ (L.drop (k + 1)).flatten)).take (k * s + o) = (L.take k).flatten ++ r.take o := by
    rw [List.take_append, hp, List.take_of_length_le (by omega), Nat.add_sub_cancel_left, List.take_append_of_le_length (by omega)]
  have t2 : ((L.take k).flatten ++ (r ++ (L.drop (k + 1)).flatten)).drop (k * s + o + vs.length) = r.drop (o + vs.length) ++ (L.drop (k + 1)).flatten := by
    rw [List.drop_append, hp, List.drop_of_length_le (by omega), show k * s + o + vs.length - k * s = o + vs.length by omega, List.nil_append, List.drop_append_of_le_length (by omega)]
  rw [t1, t2]
  simp

end

section
variable {w : World} {B : Nat} {e : TypeId} {s g n c : Nat} {xs : List Value}

theorem own_heap (h : w.ownsRow B e s (.slice (some ⟨g, 0, none⟩) n c) n xs) : ∃ cur, w.heap[g]? = some (.cells cur e (0, 0)) ∧ B ≤ g ∧ n ≤ c ∧ c ≤ maxLen ∧ cur.size = c * s ∧ cur.toList.take (n * s) = xs := by
  rcases h.2 with ⟨e0, _⟩ | ⟨g', cap, cur, e0, hb, hh, r⟩
  · cases e0
  · injection e0 with e0 _ e2
    injection e0 with e0
    injection e0 with e0
    subst e0
    subst e2
    exact ⟨cur, hh, hb, r⟩

theorem own_ne {g' : Nat} {e' : TypeId} {n' c' s' : Nat} {xs' : List Value} (h : w.ownsRow B e s (.slice (some ⟨g, 0, none⟩) n c) n xs) (h' : w.ownsRow B e' s' (.slice (some ⟨g', 0, none⟩) n' c') n' xs') (hne : e ≠ e') : g ≠ g' := by
  obtain ⟨cur, h1, _⟩ := own_heap h
  obtain ⟨cur', h2, _⟩ := own_heap h'
  rintro rfl
  rw [h1] at h2
  injection h2 with h2
  injection h2 with _ h2
  exact hne h2

/-- A store of several cells into a row of the call's own. -/
theorem own_seg (h : w.ownsRow B e s (.slice (some ⟨g, 0, none⟩) n c) n xs) (o : Nat) (vs : List Value) (ho : o + vs.length ≤ n * s) :
    ∃ cur, w.heap[g]? = some (.cells cur e (0, 0)) ∧ o + vs.length ≤ cur.size ∧
      (w.setRow g (cur.toList.take o ++ vs ++ cur.toList.drop (o + vs.length)).toArray).ownsRow B e s (.slice (some ⟨g, 0, none⟩) n c) n (xs.take o ++ vs ++ xs.drop (o + vs.length)) ∧
      w.grownBy (w.setRow g (cur.toList.take o ++ vs ++ cur.toList.drop (o + vs.length)).toArray) (some g) := by
  obtain ⟨cur, hh, hb, hnc, hcm, hcs, hta⟩ := own_heap h
  have hle : n * s ≤ c * s := Nat.mul_le_mul_right _ hnc
  have hxl := h.1
  refine ⟨cur, hh, by omega, ⟨?_, .inr ⟨g, c, _, rfl, hb, setRow_heap w g cur _ e _ hh, hnc, hcm, ?_, ?_⟩⟩, rfl, rfl, rfl, by simp [World.setRow], fun k _ hk => setRow_other w g k _ (by intro e; exact hk (by rw [e]))⟩
  · simp only [List.length_append, List.length_take, List.length_drop]; omega
  · simp only [List.size_toArray, List.length_append, List.length_take, List.length_drop, Array.length_toList]; omega
  · rw [← hta]
    apply List.ext_getElem?
    intro j
    simp only [List.getElem?_take, List.getElem?_append, List.length_append, List.length_take, Array.length_toList, List.getElem?_drop]
    have m1 : min o cur.size = o := by omega
    have m2 : min o (min (n * s) cur.size) = o := by omega
    rw [m1, m2]
    by_cases h1 : j < n * s
    · rw [if_pos h1]
      by_cases h2 : j < o + vs.length
      · rw [if_pos h2, if_pos h2]
        by_cases h3 : j < o
        · rw [if_pos h3, if_pos h3, if_pos h3, if_pos h3, if_pos h1]
        · rw [if_neg h3, if_neg h3]
      · rw [if_neg h2, if_neg h2, if_pos (by omega)]
    · rw [if_neg h1, if_neg (by omega), if_neg (by omega)]

theorem own_frozen (h : w.ownsRow B e s (.slice (some ⟨g, 0, none⟩) n c) n xs) (j : Nat) : w.frozen? ⟨g, j, none⟩ = false := by
  obtain ⟨cur, hh, _⟩ := own_heap h
  exact frozen_of_row w g j cur e hh

end

section
variable {P : Program} {w : World}

theorem run_loadVar_mid (g o : Nat) (ty : TypeId) (cs : List Value) (d : TypeDesc) (hc : ∀ j u, cs[j]? = some u → w.cell? ⟨g, o + j, none⟩ = some u)
    (hu : P.underlying ty = some d) (hd : (match d with | .struct _ | .array _ _ => true | _ => false) = true) (hi : (P.info? ty).map (·.size) = some cs.length) :
    (loadVar ty ⟨g, o, none⟩).run P w = .ok (.agg cs.toArray) w := by
  have hl : (loadCells ⟨g, o, none⟩ cs.length).run P w = .ok cs.toArray w :=
    run_loadCells_list (P := P) w ⟨g, o, none⟩ cs (fun j v hv => by rw [Addr.add_lit]; exact hc j v hv)
  cases hq : P.info? ty with
  | none => simp [hq] at hi
  | some i =>
    have hs : i.size = cs.length := by simpa [hq] using hi
    have hagg : (isAgg ty).run P w = .ok true w := by
      unfold isAgg
      rw [Sem.run_bind, run_underlying hu w]
      cases d <;> simp_all
    simp [loadVar, Sem.run_bind, hagg, sizeOf, typeInfo, hq, hs, hl]

theorem wp_load_mid {op : Oper} {a : Act} {K : Act → World → Prop} {Q : Exit → Act → World → Prop} (ty : TypeId) (x : Operand) (hop : op.op = .load ty x)
    (g o : Nat) (cs : List Value) (d : TypeDesc) (hx : a.eval x = .pointer (some ⟨g, o, none⟩)) (hc : ∀ j u, cs[j]? = some u → w.cell? ⟨g, o + j, none⟩ = some u)
    (hu : P.underlying ty = some d) (hd : (match d with | .struct _ | .array _ _ => true | _ => false) = true) (hi : (P.info? ty).map (·.size) = some cs.length)
    (h : K (a.put op.dst (.agg cs.toArray)) w) : op.wp P a w K Q := by
  unfold Oper.wp execOp
  simp only [hop, hx, Instr.loadAt, Instr.sureAddr, Sem.run_bind, Sem.run_pure, Result.andThen_ok, run_loadVar_mid g o ty cs d hc hu hd hi]
  exact h

theorem wpList_load_mid {ops : Array Oper} {rest : List Oper} {op : Oper} {a : Act} {Q : Exit → Act → World → Prop} (hgd : op.guard = none) (ty : TypeId) (x : Operand) (hop : op.op = .load ty x)
    (g o : Nat) (cs : List Value) (d : TypeDesc) (hx : a.eval x = .pointer (some ⟨g, o, none⟩)) (hc : ∀ j u, cs[j]? = some u → w.cell? ⟨g, o + j, none⟩ = some u)
    (hu : P.underlying ty = some d) (hd : (match d with | .struct _ | .array _ _ => true | _ => false) = true) (hi : (P.info? ty).map (·.size) = some cs.length)
    (h : wpList P ops Q rest (a.put op.dst (.agg cs.toArray)) w) : wpList P ops Q (op :: rest) a w :=
  wpList_plain hgd fun _ hK => wp_load_mid ty x hop g o cs d hx hc hu hd hi (hK _ _ h)

theorem run_storeVar_mid (g o : Nat) (t ty : TypeId) (cur : Array Value) (cs : List Value) (hg : w.heap[g]? = some (.cells cur t (0, 0))) (hi : (P.info? ty).map (·.size) = some cs.length)
    (hl : o + cs.length ≤ cur.size) (h1 : ∀ v ∈ cs, v.oneCell' = true) :
    (storeVar ty ⟨g, o, none⟩ (.agg cs.toArray)).run P w = .ok () (w.setRow g (cur.toList.take o ++ cs ++ cur.toList.drop (o + cs.length)).toArray) := by
  have := run_storeCells_at P g o t cs 0 cur w hg (by simpa using hl) h1
  cases hq : P.info? ty with
  | none => simp [hq] at hi
  | some i =>
    have hs : cs.length = i.size := by simp [hq] at hi; omega
    simp [storeVar, sizeOf, typeInfo, hq, Value.cells, hs, this]

theorem wp_store_mid {op : Oper} {a : Act} {K : Act → World → Prop} {Q : Exit → Act → World → Prop} (ty : TypeId) (x y : Operand) (hop : op.op = .store ty x y)
    (g o : Nat) (cs : List Value) (hx : a.eval x = .pointer (some ⟨g, o, none⟩)) (hy : a.eval y = .agg cs.toArray)
    (t : TypeId) (cur : Array Value) (hg : w.heap[g]? = some (.cells cur t (0, 0))) (hi : (P.info? ty).map (·.size) = some cs.length)
    (hl : o + cs.length ≤ cur.size) (h1 : ∀ v ∈ cs, v.oneCell' = true)
    (h : K (a.put op.dst undef) (w.setRow g (cur.toList.take o ++ cs ++ cur.toList.drop (o + cs.length)).toArray)) : op.wp P a w K Q := by
  unfold Oper.wp execOp
  simp only [hop, hx, hy, Instr.storeAt, Instr.sureAddr, Sem.run_bind, Sem.run_pure, Result.andThen_ok, run_storeVar_mid g o t ty cur cs hg hi hl h1]
  exact h

theorem wpList_store_mid {ops : Array Oper} {rest : List Oper} {op : Oper} {a : Act} {Q : Exit → Act → World → Prop} (hgd : op.guard = none) (ty : TypeId) (x y : Operand) (hop : op.op = .store ty x y)
    (g o : Nat) (cs : List Value) (hx : a.eval x = .pointer (some ⟨g, o, none⟩)) (hy : a.eval y = .agg cs.toArray)
    (t : TypeId) (cur : Array Value) (hg : w.heap[g]? = some (.cells cur t (0, 0))) (hi : (P.info? ty).map (·.size) = some cs.length)
    (hl : o + cs.length ≤ cur.size) (h1 : ∀ v ∈ cs, v.oneCell' = true)
    (h : wpList P ops Q rest (a.put op.dst undef) (w.setRow g (cur.toList.take o ++ cs ++ cur.toList.drop (o + cs.length)).toArray)) : wpList P ops Q (op :: rest) a w :=
  wpList_plain hgd fun _ hK => wp_store_mid ty x y hop g o cs hx hy t cur hg hi hl h1 (hK _ _ h)

theorem setRow_alloc (w : World) (z cs : Array Value) (t : TypeId) : (w.alloc (.cells z t)).setRow w.heap.size cs = w.alloc (.cells cs t) := by
  unfold World.setRow World.alloc
  congr 1
  apply Array.ext
  · simp
  · intro i h1 h2
    simp only [Array.getElem_modify, Array.getElem_push]
    split
    · rename_i hi; subst hi; simp
    · rename_i hi
      have : i < w.heap.size := by simp at h2; omega
      rw [dif_pos this, dif_pos this]

/-- A new variable of several cells, and the store that fills it. -/
theorem wpList_alloc_store {ops : Array Oper} {rest : List Oper} {o1 o2 : Oper} {a : Act} {Q : Exit → Act → World → Prop} (hg1 : o1.guard = none) (hg2 : o2.guard = none) (ty : TypeId) (hop1 : o1.op = .alloc ty) (x y : Operand) (hop2 : o2.op = .store ty x y)
    (z : Array Value) (i : TypeInfo) (hi : P.info? ty = some i) (hz : i.zero = some (.agg z)) (hzs : z.size = i.size) (cs : List Value)
    (hx : (a.put o1.dst (.pointer (some ⟨w.heap.size, 0, none⟩))).eval x = .pointer (some ⟨w.heap.size, 0, none⟩)) (hy : (a.put o1.dst (.pointer (some ⟨w.heap.size, 0, none⟩))).eval y = .agg cs.toArray)
    (hl : i.size = cs.length) (h1 : ∀ v ∈ cs, v.oneCell' = true)
    (h : wpList P ops Q rest ((a.put o1.dst (.pointer (some ⟨w.heap.size, 0, none⟩))).put o2.dst undef) (w.alloc (.cells cs.toArray ty))) : wpList P ops Q (o1 :: o2 :: rest) a w := by
  refine wpList_plain hg1 fun K hK => ?_
  unfold Oper.wp execOp
  simp [hop1, Instr.alloc, zeroValue, typeInfo, hi, hz, newVar, newRow, Value.cells]
  refine hK _ _ ?_
  refine wpList_plain hg2 fun K2 hK2 => ?_
  refine wp_store_mid (P := P) ty x y hop2 w.heap.size 0 cs hx hy ty z (heap_alloc_new w _) (by rw [hi]; simp [hl]) (by omega) h1 ?_
  rw [show z.toList.take 0 ++ cs ++ z.toList.drop (0 + cs.length) = cs by simp; omega, setRow_alloc]
  exact hK2 _ _ h

end

end

section
open Go.RowKit
set_option linter.unusedVariables false
set_option linter.unusedSimpArgs false
set_option maxRecDepth 20000

/-- One cell of the pairs. -/
def pairN (xs ys : List Int) (j : Nat) : Int := if j % 2 = 0 then xs.getD (j / 2) 0 else ys.getD (j / 2) 0

/-- The cells of q pairs of which the first k are there. -/
def pairC (xs ys : List Int) (q k : Nat) : List Value := (List.range (q * 2)).map fun j => .int .i32 (if j / 2 < k then pairN xs ys j else 0)

section
variable {xs ys : List Int} {q k : Nat}

theorem pairC_len : (pairC xs ys q k).length = q * 2 := by simp [pairC]

theorem pairC_at {j : Nat} (h : j < q * 2) : (pairC xs ys q k)[j]? = some (.int .i32 (if j / 2 < k then pairN xs ys j else 0)) := by simp [pairC, h]

theorem pairC_none : pairC xs ys q 0 = List.replicate (q * 2) (.int .i32 0) := by
  apply List.ext_getElem <;> simp [pairC]

theorem pairC_set : ((pairC xs ys q k).set (k * 2) (.int .i32 (xs.getD k 0))).set (k * 2 + 1) (.int .i32 (ys.getD k 0)) = pairC xs ys q (k + 1) := by
  apply List.ext_getElem
  · simp [pairC]
  · intro j h1 h2
    simp only [pairC, List.getElem_set, List.getElem_map, List.getElem_range]
    by_cases e1 : k * 2 + 1 = j
    · rw [if_pos e1, if_pos (by omega), pairN, if_neg (by omega), show j / 2 = k by omega]
    · rw [if_neg e1]
      by_cases e : k * 2 = j
      · rw [if_pos e, if_pos (by omega), pairN, if_pos (by omega), show j / 2 = k by omega]
      · rw [if_neg e]
        by_cases h : j / 2 < k
        · rw [if_pos h, if_pos (by omega)]
        · rw [if_neg h, if_neg (by omega)]

end

section
variable {w : World} {g q k : Nat} {xs ys : List Int}

end

end

section
open Go.RowKit
set_option linter.unusedVariables false
set_option linter.unusedSimpArgs false

theorem take_more {xs ys : List Int} {k : Nat} (h1 : k < xs.length) (h2 : k < ys.length) (h : xs.take k = ys.take k) (e : xs.getD k 0 = ys.getD k 0) : xs.take (k + 1) = ys.take (k + 1) := by
  rw [List.take_succ_eq_append_getElem h1, List.take_succ_eq_append_getElem h2, h]
  simp [List.getD, h1, h2] at e
  rw [e]

theorem take_end {xs ys : List Int} {k : Nat} (h1 : xs.length = k) (h2 : ys.length = k) (h : xs.take k = ys.take k) : xs = ys := by
  rwa [List.take_of_length_le (by omega), List.take_of_length_le (by omega)] at h

set_option maxRecDepth 100000 in
set_option maxHeartbeats 400000 in
theorem sameG_Ints (A B : Option Addr) (n c m d : Nat) (xs ys : List Int) (w : World) (h : Lies w A n (xs.map (Value.int .i64))) (k : Lies w B m (ys.map (Value.int .i64))) (hm : n ≤ 281474976710656) :
    Calls Try.prog 13 #[.slice A n c, .slice B m d] w fun e w' => e = .returned (.bool (decide (xs = ys))) ∧ ∃ j, w' = w.drewN j := by
  have hl1 : xs.length = n := by have := h.len; simpa using this
  have hl2 : ys.length = m := by have := k.len; simpa using this
  have HA := hide h
  have HB := hide k
  have HL1 := hide hl1
  have HL2 := hide hl2
  clear h k
  by_cases hnm : n = m
  · subst hnm
    clear hl1 hl2
    go_enter Try.func13, Try.ntmps13
    go_wp2
    go_loopw [5] (fun i wr => ∃ k : Nat, k ≤ n ∧ i = .int .i64 k ∧ Hid (xs.take k = ys.take k) ∧ ∃ j, wr = w.drewN j) (fun i _ => n - (intOf i).toNat)
    case atStart => exact ⟨0, Nat.zero_le _, rfl, hide rfl, 0, rfl⟩
    case round =>
      obtain ⟨k, hk, rfl, HT, j, rfl⟩ := hrel
      by_cases hlt : k < n
      · obtain ⟨b, o, rfl, _, hx⟩ := byte_at HA.out (by omega)
        obtain ⟨b', o', rfl, _, hy⟩ := byte_at HB.out (by omega)
        obtain ⟨z, hz⟩ : ∃ z, z = xs.getD k 0 := ⟨_, rfl⟩
        obtain ⟨u, hu⟩ : ∃ u, u = ys.getD k 0 := ⟨_, rfl⟩
        have h1 : w.cell? ⟨b, o + k, none⟩ = some (.int .i64 z) := by rw [hz]; exact hx k hlt
        have h2 : w.cell? ⟨b', o' + k, none⟩ = some (.int .i64 u) := by rw [hu]; exact hy k hlt
        have h0 : (0 : Int) ≤ (k : Int) := by omega
        have h3 : (k : Int) < (n : Int) := by omega
        have HZ := hide hz
        have HU := hide hu
        clear hx hy hz hu
        by_cases he : z = u
        · subst he
          have HN : Hid (xs.take (k + 1) = ys.take (k + 1)) := hide (take_more (by rw [HL1.out]; exact hlt) (by rw [HL2.out]; exact hlt) HT.out (by rw [← HZ.out, ← HU.out]))
          go_wp2
          go_quiet (fail)
          go_wp2
          go_roundw
          case rel => exact ⟨k + 1, by omega, by go_num, HN, _, rfl⟩
          case measure => simp [intOf]; omega
        · have HN : Hid (¬ xs = ys) := hide (by intro e; rw [HZ.out, HU.out, e] at he; exact he rfl)
          have hb1 : (z == u) = false := beq_eq_false_iff_ne.2 he
          go_wp2
          go_quiet (fail)
          go_wp2
          go_ret
          exact ⟨by rw [decide_eq_false HN.out]; rfl, _, World.drewN_drewN _ _ _⟩
      · obtain rfl : k = n := by omega
        have HE := hide (take_end HL1.out HL2.out HT.out)
        go_wp2
        go_ret
        exact ⟨by rw [decide_eq_true HE.out]; rfl, _, rfl⟩
  · have HN : Hid (¬ xs = ys) := hide (by intro e; rw [e] at hl1; omega)
    have hb1 : ((n : Int) == (m : Int)) = false := beq_eq_false_iff_ne.2 (by omega)
    clear hl1 hl2
    go_enter Try.func13, Try.ntmps13
    go_wp2
    go_ret
    exact ⟨by rw [decide_eq_false HN.out]; rfl, 0, rfl⟩

end

section
open Go.RowKit Go.Shelf
set_option linter.unusedVariables false
set_option linter.unusedSimpArgs false
set_option maxRecDepth 20000

set_option maxHeartbeats 400000 in
theorem equal_ints (A B : Option Addr) (n c m d : Nat) (xs ys : List Int) (w : World) (h : Lies w A n (xs.map (Value.int .i64))) (k : Lies w B m (ys.map (Value.int .i64))) (hm : n ≤ 281474976710656) :
    Calls Try.prog 50 #[.slice A n c, .slice B m d] w fun e w' => e = .returned (.bool (decide (xs = ys))) ∧ ∃ j, w' = w.drewN j := by
  have hl1 : xs.length = n := by have := h.len; simpa using this
  have hl2 : ys.length = m := by have := k.len; simpa using this
  have HA := hide h
  have HB := hide k
  have HL1 := hide hl1
  have HL2 := hide hl2
  clear h k
  by_cases hnm : n = m
  · subst hnm
    clear hl1 hl2
    go_enter Try.func50, Try.ntmps50
    go_wp2
    go_loopw [13] (fun i wr => ∃ k : Nat, k ≤ n ∧ i = .int .i64 k ∧ Hid (xs.take k = ys.take k) ∧ ∃ j, wr = w.drewN j) (fun i _ => n - (intOf i).toNat)
    case atStart => exact ⟨0, Nat.zero_le _, rfl, hide rfl, 0, rfl⟩
    case round =>
      obtain ⟨k, hk, rfl, HT, j, rfl⟩ := hrel
      by_cases hlt : k < n
      · obtain ⟨b, o, rfl, _, hx⟩ := byte_at HA.out (by omega)
        obtain ⟨b', o', rfl, _, hy⟩ := byte_at HB.out (by omega)
        obtain ⟨z, hz⟩ : ∃ z, z = xs.getD k 0 := ⟨_, rfl⟩
        obtain ⟨u, hu⟩ : ∃ u, u = ys.getD k 0 := ⟨_, rfl⟩
        have h1 : w.cell? ⟨b, o + k, none⟩ = some (.int .i64 z) := by rw [hz]; exact hx k hlt
        have h2 : w.cell? ⟨b', o' + k, none⟩ = some (.int .i64 u) := by rw [hu]; exact hy k hlt
        have h0 : (0 : Int) ≤ (k : Int) := by omega
        have h3 : (k : Int) < (n : Int) := by omega
        have HZ := hide hz
        have HU := hide hu
        clear hx hy hz hu
        by_cases he : z = u
        · subst he
          have HN : Hid (xs.take (k + 1) = ys.take (k + 1)) := hide (take_more (by rw [HL1.out]; exact hlt) (by rw [HL2.out]; exact hlt) HT.out (by rw [← HZ.out, ← HU.out]))
          go_wp2
          go_quiet (fail)
          go_wp2
          go_roundw
          case rel => exact ⟨k + 1, by omega, by go_num, HN, _, rfl⟩
          case measure => simp [intOf]; omega
        · have HN : Hid (¬ xs = ys) := hide (by intro e; rw [HZ.out, HU.out, e] at he; exact he rfl)
          have hb1 : (z == u) = false := beq_eq_false_iff_ne.2 he
          go_wp2
          go_quiet (fail)
          go_wp2
          go_ret
          exact ⟨by rw [decide_eq_false HN.out]; rfl, _, World.drewN_drewN _ _ _⟩
      · obtain rfl : k = n := by omega
        have HE := hide (take_end HL1.out HL2.out HT.out)
        go_wp2
        go_ret
        exact ⟨by rw [decide_eq_true HE.out]; rfl, _, rfl⟩
  · have HN : Hid (¬ xs = ys) := hide (by intro e; rw [e] at hl1; omega)
    have hb1 : ((n : Int) == (m : Int)) = false := beq_eq_false_iff_ne.2 (by omega)
    clear hl1 hl2
    go_enter Try.func50, Try.ntmps50
    go_wp2
    go_ret
    exact ⟨by rw [decide_eq_false HN.out]; rfl, 0, rfl⟩

end

section
open Go.RowKit Go.Shelf
set_option linter.unusedVariables false
set_option linter.unusedSimpArgs false
set_option maxRecDepth 20000
attribute [local go_sem] Oper.semAt_some

end

section
open Go.RowKit
set_option linter.unusedSimpArgs false
set_option linter.unusedVariables false

section
variable {P : Program} {w : World}

theorem zeroCells_one (z : Value) (k : Nat) : (Builtin.zeroCells #[z] k).toList = List.replicate k z := by
  apply List.ext_getElem?
  intro j
  by_cases hj : j < k
  · simp [Builtin.zeroCells, hj, Nat.mod_one]
  · simp [Builtin.zeroCells, hj]

theorem zeroCells_size (z : Value) (k : Nat) : (Builtin.zeroCells #[z] k).size = k := by simp [Builtin.zeroCells]

theorem run_append_zeros (t tn ty e : TypeId) (i : TypeInfo) (z : Value) (kq kn : IntKind) (bytes : Nat) (ht : P.underlying t = some (.slice e)) (htn : P.underlying tn = some (.int kn)) (hi : P.info? e = some i) (hz : i.zero = some z) (hsize : i.size = 1) (hby : i.bytes = bytes) (hzc : z.cells = #[z]) (hz1 : z.oneCell' = true)
    (base : Nat) (v : Value) (n : Nat) (xs : List Value) (ho : w.ownsRow base e 1 v n xs) (hbase : base ≤ w.heap.size) (k : Nat) (hb : (n + k) * bytes ≤ 140737488355328) (h63 : n + k ≤ maxLen) :
    ∃ A' c' w', (Builtin.append_ #[t, tn] ty #[v, .int kq (k : Int)]).run P w = .ok (.slice A' (n + k) c') w' ∧ w'.ownsRow base e 1 (.slice A' (n + k) c') (n + k) (xs ++ List.replicate k z) ∧ w.grownBy w' v.ownBlock := by
  have hm : (n + k : Nat) ≤ 9223372036854775807 := by unfold maxLen at h63; exact h63
  have hkw : IntKind.i64.wrap (k : Int) = k := by rw [IntKind.wrap_i64]; omega
  have hneg : ¬ ((k : Int) < 0) := by omega
  have hkb : k * bytes ≤ 140737488355328 := Nat.le_trans (Nat.mul_le_mul_right _ (Nat.le_add_left _ _)) hb
  have h48i : ¬ (281474976710656 < (k : Int) * (i.bytes : Int)) := by
    rw [hby, ← Int.natCast_mul]; omega
  have hlen := ho.1
  by_cases hk : k = 0
  · subst hk
    rcases ho.2 with ⟨rfl, rfl⟩ | ⟨g, cap, cur, rfl, r1, r2, r3, r4, r5, r6⟩
    · refine ⟨none, 0, w, ?_, by simpa using ho, World.grownBy.refl _ _⟩
      simp [Builtin.append_, run_underlying ht, run_underlying htn, sizeOf, typeInfo, hi, hsize, asInt, asIntOf, IntKind.wrap_i64]
    · refine ⟨some ⟨g, 0, none⟩, cap, w, ?_, by simpa using ho, World.grownBy.refl _ _⟩
      simp [Builtin.append_, run_underlying ht, run_underlying htn, sizeOf, typeInfo, hi, hsize, asInt, asIntOf, IntKind.wrap_i64, r3, storeCells]
  · have hk0 : 0 < k := Nat.pos_of_ne_zero hk
    rcases ho.2 with ⟨rfl, rfl⟩ | ⟨g, cap, cur, rfl, r1, r2, r3, r4, r5, r6⟩
    · have hr := Lib.run_append_nil_zeros (P := P) w t tn ty e i z kq kn ht htn hi hz k hk0 (by omega) (by omega) (by rw [hby]; omega)
      have hge := grownCap_ge w k 0 e
      have hcm : grownCap w k 0 e ≤ maxLen := grownCap_le_maxLen w k 0 e (by omega)
      have hxs : xs = [] := List.eq_nil_of_length_eq_zero (by simpa using hlen)
      subst hxs
      refine ⟨some ⟨w.heap.size, 0, none⟩, grownCap w k 0 e, _, by rw [Nat.zero_add]; exact hr, ⟨by simp, .inr ⟨w.heap.size, _, _, rfl, hbase, heap_alloc_new w.drew _, by omega, hcm, ?_, ?_⟩⟩, ⟨rfl, rfl, rfl, by simp, fun j hj _ => heap_alloc_old w.drew _ hj⟩⟩
      · rw [hzc]; simp only [Array.size_append, zeroCells_size]; omega
      · rw [hzc, Array.toList_append, zeroCells_one, zeroCells_one]
        simp
    · by_cases hfit : n + k ≤ cap
      · have hst := run_storeCells_at P g n e (List.replicate k z) 0 cur w r2 (by simp; omega) (by intro u hu; rw [(List.mem_replicate.1 hu).2]; exact hz1)
        simp only [Nat.add_zero] at hst
        obtain ⟨cur2, hh2, hle2, hown, hgr⟩ := own_seg (w := w) (B := base) (e := e) (s := 1) (g := g) (n := cap) (c := cap) (xs := cur.toList) ⟨by simpa using r5, .inr ⟨g, cap, cur, rfl, r1, r2, Nat.le_refl _, r4, r5, by rw [List.take_of_length_le (by simp [r5])]⟩⟩ n (List.replicate k z) (by simp; omega)
        have hcc : cur2 = cur := by rw [r2] at hh2; injection hh2 with hh2; injection hh2 with hh2 _ _; exact hh2.symm
        subst hcc
        refine ⟨some ⟨g, 0, none⟩, cap, w.setRow g (cur2.toList.take n ++ List.replicate k z ++ cur2.toList.drop (n + (List.replicate k z).length)).toArray, ?_, ?_, hgr⟩
        · simp [Builtin.append_, run_underlying ht, run_underlying htn, sizeOf, typeInfo, zeroValue, hi, hz, hsize, asInt, asIntOf, hkw, hneg, h48i, hfit, hk, hzc, zeroCells_one, Addr.add_lit]
          simp at hst
          rw [hst]
          rfl
        · refine ⟨by rw [List.length_append, hlen]; simp, .inr ⟨g, cap, _, rfl, r1, setRow_heap w g cur2 _ e _ r2, hfit, r4, ?_, ?_⟩⟩
          · simp; omega
          · rw [← r6]
            apply List.ext_getElem?
            intro j
            simp only [List.getElem?_take, List.getElem?_append, List.length_append, List.length_take, List.length_replicate, Array.length_toList, List.getElem?_drop, List.getElem?_replicate, Nat.mul_one]
            have hsz : cur2.size = cap := by omega
            have m1 : min n cur2.size = n := by omega
            rw [m1]
            by_cases h1 : j < n
            · simp [h1, show j < n + k by omega]
            · by_cases h2 : j < n + k
              · simp [h1, h2, show j - n < k by omega]
              · simp [h1, h2, show ¬ j - n < k by omega]
      · have hold : (Builtin.firstCells i.size n (.slice (some ⟨g, 0, none⟩) n cap)).run P w.drew = .ok xs.toArray w.drew := by
          refine run_firstCells_some (P := P) w.drew i.size n ⟨g, 0, none⟩ n cap xs (by rw [hsize]; exact hlen) (fun j u hj => ?_)
          exact ho.cells (g := g) rfl j u hj
        have hr := Lib.run_append_grow_zeros (P := P) w t tn ty e i z kq kn ht htn hi hz (some ⟨g, 0, none⟩) n cap xs hold k hk0 (by omega) (by omega) (by omega) (by rw [hby]; omega) (growslice_fits (by omega) (by rw [hby]; exact hb))
        have hge := grownCap_ge w (n + k) cap e
        have hcm : grownCap w (n + k) cap e ≤ maxLen := grownCap_le_maxLen w (n + k) cap e h63
        refine ⟨some ⟨w.heap.size, 0, none⟩, grownCap w (n + k) cap e, _, hr, ⟨by simp at hlen ⊢; omega, .inr ⟨w.heap.size, _, _, rfl, hbase, heap_alloc_new w.drew _, hge, hcm, ?_, ?_⟩⟩, ⟨rfl, rfl, rfl, by simp, fun j hj _ => heap_alloc_old w.drew _ hj⟩⟩
        · rw [hzc]; simp only [Array.size_append, zeroCells_size, List.size_toArray, hlen]; omega
        · rw [hzc, Array.toList_append, Array.toList_append, zeroCells_one, zeroCells_one]
          rw [List.take_left' (by simp at hlen ⊢; omega)]

theorem wpList_append_zeros {ops : Array Oper} {rest : List Oper} {op : Oper} {a : Act} {Q : Exit → Act → World → Prop} (hgd : op.guard = none) (s x : Operand) (t tn : TypeId)
    (hop : op.op = .call { callee := .builtin .append, args := #[s, x], argTypes := #[t, tn] })
    (e : TypeId) (i : TypeInfo) (z : Value) (kq kn : IntKind) (bytes : Nat) (ht : P.underlying t = some (.slice e)) (htn : P.underlying tn = some (.int kn)) (hi : P.info? e = some i) (hz : i.zero = some z) (hsize : i.size = 1) (hby : i.bytes = bytes) (hzc : z.cells = #[z]) (hz1 : z.oneCell' = true)
    (base : Nat) (v : Value) (n : Nat) (xs : List Value) (hs : a.eval s = v) (ho : w.ownsRow base e 1 v n xs) (hbase : base ≤ w.heap.size) (k : Nat) (hx : a.eval x = .int kq (k : Int)) (hb : (n + k) * bytes ≤ 140737488355328) (h63 : n + k ≤ maxLen)
    (h : ∀ A' c' w', w'.ownsRow base e 1 (.slice A' (n + k) c') (n + k) (xs ++ List.replicate k z) → w.grownBy w' v.ownBlock → wpList P ops Q rest (a.put op.dst (.slice A' (n + k) c')) w') : wpList P ops Q (op :: rest) a w := by
  obtain ⟨A', c', w', hrun, h2, h3⟩ := run_append_zeros (P := P) (w := w) t tn op.type e i z kq kn bytes ht htn hi hz hsize hby hzc hz1 base v n xs ho hbase k hb h63
  exact Lib.wpList_append_run w hgd s x t tn hop v (.int kq (k : Int)) hs hx _ w' hrun (h A' c' w' h2 h3)

end

end

section
open Go.RowKit

def preV (κ : IntKind) (zs : List Int) (k : Nat) : List Value := (zs.take k).map (Value.int κ)

theorem preV_snoc (κ : IntKind) (zs : List Int) (k : Nat) (h : k < zs.length) : preV κ zs (k + 1) = preV κ zs k ++ [.int κ (zs.getD k 0)] := by
  have e : zs.getD k 0 = zs[k] := by simp [List.getD, h]
  rw [preV, List.take_succ_eq_append_getElem h, List.map_append, ← e]
  rfl

theorem preV_all (κ : IntKind) (zs : List Int) {k : Nat} (h : zs.length = k) : preV κ zs k = zs.map (Value.int κ) := by rw [preV, List.take_of_length_le (by omega)]

theorem own_part {w : World} {base : Nat} {e : TypeId} {g n m c : Nat} {xs ys : List Value} (h : w.ownsRow base e 1 (.slice (some ⟨g, 0, none⟩) m c) m (xs ++ ys)) (hx : xs.length = n) (hm : n ≤ m) : w.ownsRow base e 1 (.slice (some ⟨g, 0, none⟩) n c) n xs := by
  rcases h.2 with ⟨e0, _⟩ | ⟨g', cap, cur, e0, hb, hh, hmc, hcm, hcs, hta⟩
  · injection e0 with e0; cases e0
  · injection e0 with e0 _ e2
    injection e0 with e0
    injection e0 with e0
    subst e0
    subst e2
    refine ⟨by omega, .inr ⟨g, c, cur, rfl, hb, hh, by omega, hcm, hcs, ?_⟩⟩
    have h1 := congrArg (List.take n) hta
    rw [List.take_take, List.take_left' hx, Nat.mul_one, Nat.min_eq_left hm] at h1
    rw [Nat.mul_one]
    exact h1

theorem Try.infoT_Ints : (Try.prog.info? 3).map (fun i => (i.zero, i.size, i.bytes)) = some (some (.int .i64 0), 1, 8) := by kernel_rfl

set_option maxRecDepth 100000 in
set_option maxHeartbeats 1000000 in
theorem twin_Ints (A : Option Addr) (n c : Nat) (zs : List Int) (w : World) (h : Lies w A n (zs.map (Value.int .i64))) (hn : n ≤ 1073741824) :
    Calls Try.prog 56 #[.slice A n c] w fun e w' => e = .returned (.slice (some ⟨w.heap.size, 0, none⟩) n (n + 1)) ∧
      w'.ownsRow w.heap.size 3 1 (.slice (some ⟨w.heap.size, 0, none⟩) (n + 1) (n + 1)) (n + 1) (zs.map (Value.int .i64) ++ [.int .i64 77]) ∧ Below w.heap.size w w' := by
  obtain ⟨i0, hi, hz0, hz1, hz2⟩ := info_parts Try.infoT_Ints
  have hb2 : i0.bytes * (n + 1) ≤ 281474976710656 := by rw [hz2]; omega
  have HI := hide hi
  have HZ0 := hide hz0
  have HZ1 := hide hz1
  have HB2 := hide hb2
  have HL := hide h
  have HLEN : Hid (zs.length = n) := hide (by have := h.len; simpa using this)
  clear hi hz0 hz1 hz2 hb2 h
  go_enter Try.func56, Try.ntmps56
  go_wp2_with (at_make; refine wpList_make_own _ rfl _ _ 33 rfl w.heap.size 3 i0 (.int .i64 0) 1 Try.underlying33 HI.out HZ0.out HZ1.out _ _ _ (n + 1) rfl rfl (by omega) HB2.out (by unfold maxLen; omega) (Nat.le_refl _) ?_)
  intro w1 ho1 hg1
  have HO1 := hide ho1
  have HB1 := hide ((Below.refl w.heap.size w).grown hg1 (Nat.le_refl _) (by simp))
  clear ho1 hg1
  go_wp2
  go_loopw [3, 4] (fun v i wr => ∃ k : Nat, k ≤ n ∧ i = .int .i64 k ∧ v = .slice (some ⟨w.heap.size, 0, none⟩) k (n + 1) ∧ Hid (wr.ownsRow w.heap.size 3 1 (.slice (some ⟨w.heap.size, 0, none⟩) k (n + 1)) k (preV .i64 zs k)) ∧ Hid (Below w.heap.size w wr))
    (fun _ i _ => n - (intOf i).toNat)
  case atStart => exact ⟨0, Nat.zero_le _, rfl, rfl, HO1, HB1⟩
  case round =>
    obtain ⟨k, hk, rfl, rfl, HR, HB⟩ := hrel
    have hsr := HB.out.size
    by_cases hlt : k < n
    · obtain ⟨b, o, rfl, hbl, hx⟩ := byte_at (HL.out.below HB.out) (by omega)
      obtain ⟨z, hz⟩ : ∃ z, z = zs.getD k 0 := ⟨_, rfl⟩
      have hc : wr.cell? ⟨b, o + k, none⟩ = some (.int .i64 z) := by rw [hz]; exact hx k hlt
      have HZ := hide hz
      clear hx hz
      have HNEW := hide (cells_new wr [.int .i64 z] 3)
      go_wp2_with (at_builtin; refine wpList_append_fits _ rfl (.tmp 15) (.tmp 20) 33 rfl w.heap.size 3 i0 1 Try.underlying33 HI.out HZ1.out w.heap.size k (n + 1) (preV .i64 zs k) rfl (HR.out.alloc _) ⟨wr.heap.size, 0, none⟩ 1 1 [.int .i64 z] rfl rfl HNEW.out (by simp [Value.oneCell']) (by omega) ?_)
      intro w2 ho2 hg2
      have HR2 : Hid (w2.ownsRow w.heap.size 3 1 (.slice (some ⟨w.heap.size, 0, none⟩) (k + 1) (n + 1)) (k + 1) (preV .i64 zs (k + 1))) := hide (by
        rw [preV_snoc _ _ _ (by rw [HLEN.out]; exact hlt), ← HZ.out]
        exact ho2)
      have HBn := hide ((HB.out.alloc (by omega) (.cells #[.int .i64 z] 3)).grown hg2 (by simp; omega) (fun b hb => by injection hb with hb; omega))
      clear ho2 hg2 HR HB HNEW hc
      go_wp2
      go_roundw
      case rel => exact ⟨k + 1, by omega, by go_num, rfl, HR2, HBn⟩
      case measure => simp [intOf]; omega
    · obtain rfl : k = n := by omega
      have HNEW := hide (cells_new wr [.int .i64 77] 3)
      go_wp2_with (at_builtin; refine wpList_append_fits _ rfl (.tmp 22) (.tmp 23) 33 rfl w.heap.size 3 i0 1 Try.underlying33 HI.out HZ1.out w.heap.size k (k + 1) (preV .i64 zs k) rfl (HR.out.alloc _) ⟨wr.heap.size, 0, none⟩ 1 1 [.int .i64 77] rfl rfl HNEW.out (by simp [Value.oneCell']) (by omega) ?_)
      intro w2 ho2 hg2
      have HR2 : Hid (w2.ownsRow w.heap.size 3 1 (.slice (some ⟨w.heap.size, 0, none⟩) (k + 1) (k + 1)) (k + 1) (zs.map (Value.int .i64) ++ [.int .i64 77])) := hide (by
        rw [preV_all _ _ HLEN.out] at ho2
        exact ho2)
      have HBn := hide ((HB.out.alloc (by omega) (.cells #[.int .i64 77] 3)).grown hg2 (by simp; omega) (fun b hb => by injection hb with hb; omega))
      clear ho2 hg2 HR HB HNEW
      have q1 : (k : Int) ≤ (k : Int) + 1 := by omega
      go_wp2
      go_ret
      exact ⟨rfl, HR2.out, HBn.out⟩

theorem Try.infoT_Numbers : (Try.prog.info? 21).map (fun i => (i.zero, i.size, i.bytes)) = some (some (.int .i32 0), 1, 4) := by kernel_rfl

theorem Try.infoT_Bytes : (Try.prog.info? 5).map (fun i => (i.zero, i.size, i.bytes)) = some (some (.int .u8 0), 1, 1) := by kernel_rfl

end

end Go.Proofs.Ytdlhhkegkfhmoaa
