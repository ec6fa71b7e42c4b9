/- Merged: Mem, Words, Cells, Visit, Shape, ShapeSize, ShapeAt, ShapeIndex, ShapeIndex2, Read. -/
import Derived.WalkKit
import Derived.Deep.Draws
import Derived.Lib.EndianBits
import Derived.Test.YtohndckbhjakfaaGreatDoorRows
import Derived.Deep.QuietTactic
import Derived.BigQuiet
import Derived.Deep.RegionLaw
namespace Go.Proofs.YtohndckbhjakfaaGreatDoor

section
open Go.RowKit

/-- The slice at address A, of n one-cell elements, holds xs. Of an empty slice nothing is asked. -/
structure Lies (w : World) (A : Option Addr) (n : Nat) (xs : List Value) : Prop where
  len : xs.length = n
  cells : 0 < n → ∃ b o, A = some ⟨b, o, none⟩ ∧ b < w.heap.size ∧ ∀ j, j < n → w.cell? ⟨b, o + j, none⟩ = xs[j]?

section
variable {w w' : World} {A : Option Addr} {n : Nat} {xs : List Value}

theorem Lies.nothing : Lies w A 0 [] := ⟨rfl, fun h => absurd h (by omega)⟩

theorem Lies.keep (h : Lies w A n xs) (hs : w.heap.size ≤ w'.heap.size) (hc : ∀ b o, A = some ⟨b, o, none⟩ → b < w.heap.size → ∀ j, w'.cell? ⟨b, o + j, none⟩ = w.cell? ⟨b, o + j, none⟩) : Lies w' A n xs :=
  ⟨h.len, fun hn => by
    obtain ⟨b, o, e, hb, hx⟩ := h.cells hn
    exact ⟨b, o, e, by omega, fun j hj => (hc b o e hb j).trans (hx j hj)⟩⟩

theorem Lies.drewN (h : Lies w A n xs) (k : Nat) : Lies (w.drewN k) A n xs := ⟨h.len, h.cells⟩

theorem Lies.below (h : Lies w A n xs) (hb : Below w.heap.size w w') : Lies w' A n xs :=
  h.keep hb.size fun _ _ _ hlt _ => hb.cell hlt

theorem Lies.alloc (h : Lies w A n xs) (o : Obj) : Lies (w.alloc o) A n xs :=
  h.below ((Below.refl _ _).alloc (Nat.le_refl _) o)

theorem Lies.grown (h : Lies w A n xs) {row : Option Nat} (hg : w.grownBy w' row) (hne : ∀ b o, A = some ⟨b, o, none⟩ → some b ≠ row) : Lies w' A n xs :=
  h.keep hg.size fun b o e hlt _ => World.cell?_of_block (hg.block b hlt (hne b o e))

theorem Lies.own {base : Nat} {e : TypeId} {g cap : Nat} (h : w.ownsRow base e 1 (.slice (some ⟨g, 0, none⟩) n cap) n xs) : Lies w (some ⟨g, 0, none⟩) n xs :=
  ⟨by have := h.1; omega, fun _ => ⟨g, 0, rfl, (h.lt g rfl).2, fun j hj => by rw [Nat.zero_add]; exact h.cellAt j (by omega)⟩⟩

theorem Lies.drop (h : Lies w A n xs) {k cap : Nat} (hk : k ≤ n) (hc : n ≤ cap) : Lies w (if cap = k then A else A.map (·.add k)) (n - k) (xs.drop k) := by
  refine ⟨by rw [List.length_drop, h.len], fun hn => ?_⟩
  obtain ⟨b, o, rfl, hb, hx⟩ := h.cells (by omega)
  rw [if_neg (by omega)]
  refine ⟨b, o + k, by simp [Addr.add_lit], hb, fun j hj => ?_⟩
  rw [Nat.add_assoc, hx (k + j) (by omega), List.getElem?_drop]

theorem Lies.take (h : Lies w A n xs) {k : Nat} (hk : k ≤ n) : Lies w A k (xs.take k) := by
  refine ⟨by rw [List.length_take, h.len]; omega, fun hn => ?_⟩
  obtain ⟨b, o, rfl, hb, hx⟩ := h.cells (by omega)
  refine ⟨b, o, rfl, hb, fun j hj => ?_⟩
  rw [hx j (by omega), List.getElem?_take, if_pos hj]

/-- A row of the call's own, of one-cell elements, known as a whole block. -/
theorem own_of_block {base : Nat} {e : TypeId} {g m cap : Nat} {cur : List Value} (hb : base ≤ g) (hg : w.heap[g]? = some (.cells cur.toArray e (0, 0))) (hc : cur.length = cap) (hm : m ≤ cap) (hl : cap ≤ maxLen) (ht : cur.take m = xs) :
    w.ownsRow base e 1 (.slice (some ⟨g, 0, none⟩) m cap) m xs :=
  ⟨by rw [← ht, List.length_take]; omega, .inr ⟨g, cap, cur.toArray, rfl, hb, hg, hm, hl, by simp [hc], by simpa using ht⟩⟩

theorem lt_of_heap {g : Nat} {o : Obj} (h : w.heap[g]? = some o) : g < w.heap.size := (Array.getElem?_eq_some_iff.1 h).1

end

theorem below_drewN {B : Nat} {a w : World} (h : Below B a w) (n : Nat) : Below B a (w.drewN n) := ⟨h.os, h.tape, h.output, h.size, h.block⟩

theorem own_drewN {w : World} {base : Nat} {e : TypeId} {v : Value} {n : Nat} {xs : List Value} (h : w.ownsRow base e 1 v n xs) (k : Nat) : (w.drewN k).ownsRow base e 1 v n xs := h

theorem own_below {w w' : World} {base : Nat} {e : TypeId} {v : Value} {n : Nat} {xs : List Value} (h : w.ownsRow base e 1 v n xs) (hb : Below w.heap.size w w') : w'.ownsRow base e 1 v n xs :=
  h.kept (row := none) ⟨hb.os, hb.tape, hb.output, hb.size, fun i hi _ => hb.block i hi⟩ (by cases v.ownBlock <;> simp)

theorem own_base {w : World} {base base' : Nat} {e : TypeId} {v : Value} {n : Nat} {xs : List Value} (h : w.ownsRow base e 1 v n xs) (hb : base' ≤ base) : w.ownsRow base' e 1 v n xs := by
  refine ⟨h.1, ?_⟩
  rcases h.2 with h2 | ⟨g, cap, cur, hv, hg, r⟩
  · exact .inl h2
  · exact .inr ⟨g, cap, cur, hv, by omega, r⟩

theorem grown_trans {a b c : World} {row : Option Nat} (h : a.grownBy b row) (k : b.grownBy c row) : a.grownBy c row :=
  ⟨k.os.trans h.os, k.tape.trans h.tape, k.output.trans h.output, Nat.le_trans h.size k.size, fun i hi hne => (k.block i (Nat.lt_of_lt_of_le hi h.size) hne).trans (h.block i hi hne)⟩

theorem below_grown {a b : World} {g B : Nat} (h : a.grownBy b (some g)) (hB : B ≤ a.heap.size) (hg : B ≤ g) : Below B a b :=
  ⟨h.os, h.tape, h.output, h.size, fun i hi => h.block i (by omega) (by simp; omega)⟩

theorem cells_new (w : World) (cs : List Value) (t : TypeId) : ∀ j u, cs[j]? = some u → (w.alloc (.cells cs.toArray t)).cell? ((⟨w.heap.size, 0, none⟩ : Addr).add j) = some u := by
  intro j u hj
  rw [Addr.add_lit, Nat.zero_add, cell_of_row _ _ j cs.toArray t (0, 0) (heap_alloc_new w _)]
  simpa using hj

theorem hide {p : Prop} (h : p) : Hid p := h

end

section

/-- The four bytes of a number of 32 bits, signed or not. -/
def four (n : Int) : List Int := [n % 256, n / 256 % 256, n / 65536 % 256, n / 16777216 % 256]

/-- The number without a sign that four bytes are. -/
def word (a b c d : Int) : Int := a + 256 * b + 65536 * c + 16777216 * d

def Bytes (l : List Int) : Prop := ∀ x ∈ l, 0 ≤ x ∧ x < 256

theorem four_len (n : Int) : (four n).length = 4 := rfl

theorem four_bytes (n : Int) : Bytes (four n) := by
  intro x hx
  simp only [four, List.mem_cons, List.not_mem_nil, or_false] at hx
  omega

theorem word_four (n : Int) (h0 : 0 ≤ n) (h1 : n < 4294967296) : word (n % 256) (n / 256 % 256) (n / 65536 % 256) (n / 16777216 % 256) = n := by unfold word; omega

theorem word_bounds {a b c d : Int} (ha : 0 ≤ a ∧ a < 256) (hb : 0 ≤ b ∧ b < 256) (hc : 0 ≤ c ∧ c < 256) (hd : 0 ≤ d ∧ d < 256) : 0 ≤ word a b c d ∧ word a b c d < 4294967296 := by unfold word; omega

theorem or_u32 {a b c d : Int} (ha : 0 ≤ a ∧ a < 256) (hb : 0 ≤ b ∧ b < 256) (hc : 0 ≤ c ∧ c < 256) (hd : 0 ≤ d ∧ d < 256) :
    bits .or .u32 (bits .or .u32 (bits .or .u32 a (b * 256)) (c * 65536)) (d * 16777216) = word a b c d := by
  rw [u32_or8 a (b * 256) (by omega) (by omega) (by omega) (by omega) (by omega),
    u32_or16 _ (c * 65536) (by omega) (by omega) (by omega) (by omega) (by omega),
    u32_or24 _ (d * 16777216) (by omega) (by omega) (by omega) (by omega) (by omega)]
  unfold word; omega

/-- The number with a sign that the same 32 bits are. -/
def signed (n : Int) : Int := IntKind.i32.wrap n

theorem signed_eq (n : Int) : signed n = (n + 2147483648) % 4294967296 - 2147483648 := by unfold signed; rw [IntKind.wrap_i32]

end

section
open Go.RowKit

theorem Tryz.infoB : (Tryz.prog.info? 5).map (fun i => (i.zero, i.size, i.bytes)) = some (some (.int .u8 0), 1, 1) := by kernel_rfl

theorem Tryz.sizeB : (Tryz.prog.info? 5).map (·.size) = some 1 := by kernel_rfl

theorem byte_at {w : World} {A : Option Addr} {n : Nat} {bs : List Int} {k : IntKind} (h : Lies w A n (bs.map (Value.int k))) (hn : 0 < n) :
    ∃ b o, A = some ⟨b, o, none⟩ ∧ b < w.heap.size ∧ ∀ j, j < n → w.cell? ⟨b, o + j, none⟩ = some (.int k (bs.getD j 0)) := by
  obtain ⟨b, o, e, hb, hx⟩ := h.cells hn
  refine ⟨b, o, e, hb, fun j hj => ?_⟩
  have hl : j < bs.length := by have := h.len; simp at this; omega
  rw [hx j hj]
  simp [List.getD, hl]

theorem bytes_getD {bs : List Int} (h : Bytes bs) (j : Nat) : 0 ≤ bs.getD j 0 ∧ bs.getD j 0 < 256 := by
  by_cases hj : j < bs.length
  · have := h (bs[j]) (List.getElem_mem hj)
    simpa [List.getD, hj] using this
  · simp [List.getD, List.getElem?_eq_none (by omega : bs.length ≤ j)]

end

section
open Go.RowKit

def voidV : Value := .tuple #[]

set_option maxRecDepth 100000 in
set_option maxHeartbeats 1000000 in
theorem visit_size (I : Nat → World → Prop) (A : Option Addr) (n c : Nat) (xs : List Int) (p0 : Addr) (w : World) (hn : n ≤ 281474976710656)
    (hstep : ∀ (k : Nat) (wr : World), k < n → I (k + 1) wr → Calls Tryz.prog 61 #[.int .i64 (k : Int), .int .i64 (xs.getD k 0), .pointer (some p0)] wr fun e w' => e = .returned voidV ∧ I k w')
    (hkeep : ∀ k wr, I k wr → Lies wr A n (xs.map (Value.int .i64))) (h0 : I n w) :
    Calls Tryz.prog 60 #[.func (.func 61) #[] #[.pointer (some p0)], .slice A n c] w fun e w' => e = .returned voidV ∧ I 0 w' := by
  have HS := hide hstep
  have HK := hide hkeep
  have H0 : Hid (I n w) := hide h0
  clear hstep hkeep h0
  go_enter Tryz.func60, Tryz.ntmps60
  go_wp2
  go_loopw [4] (fun i wr => ∃ k : Nat, k ≤ n ∧ i = .int .i64 ((k : Int) - 1) ∧ Hid (I k wr)) (fun i _ => (intOf i + 1).toNat)
  case atStart => exact ⟨n, Nat.le_refl _, rfl, H0⟩
  case round =>
    obtain ⟨k, hk, rfl, HI⟩ := hrel
    cases k with
    | zero =>
      go_wp2
      go_end0
      exact ⟨rfl, HI.out⟩
    | succ m =>
      obtain ⟨b, o, rfl, _, hx⟩ := byte_at (HK.out _ _ HI.out) (by omega)
      have hc := hx m (by omega)
      clear hx
      have hm1 : (((m + 1 : Nat) : Int) - 1) = (m : Int) := by omega
      rw [hm1]
      clear hm1
      obtain ⟨z, hz⟩ : ∃ z, z = xs.getD m 0 := ⟨_, rfl⟩
      rw [← hz] at hc
      have h3 : (m : Int) < (n : Int) := by omega
      have HZ := hide hz
      clear hz
      go_wp2_with fail
      refine Calls.mono (by rw [HZ.out]; exact HS.out m wr (by omega) HI.out) ?_
      rintro e w2 ⟨rfl, hi2⟩
      have HI2 := hide hi2
      clear hi2 HI
      go_wp2
      go_roundw
      case rel => exact ⟨m, by omega, by go_num, HI2⟩
      case measure => simp [intOf]

end

section
open Go.RowKit
set_option linter.unusedVariables false
set_option linter.unusedSimpArgs false

/-- What a dimension counts for: 0 if it can't be one. -/
def dz (d : Int) : Int := if d < 1 ∨ 64 < d then 0 else d

theorem dz_nonneg (d : Int) : 0 ≤ dz d := by unfold dz; split <;> omega

theorem dz_le (d : Int) : dz d ≤ 64 := by unfold dz; split <;> omega

theorem dz_any (d : Int) (w : World) : Calls Tryz.prog 62 #[.int .i64 d] w fun e w' => e = .returned (.int .i64 (dz d)) ∧ w' = w := by
  go_enter Tryz.func62, Tryz.ntmps62
  by_cases h1 : d < 1
  · go_wp2
    go_ret
    exact ⟨by simp [dz, h1], rfl⟩
  · by_cases h2 : 64 < d
    · go_wp2
      go_ret
      exact ⟨by simp [dz, h2], rfl⟩
    · go_wp2
      go_ret
      exact ⟨by rw [dz, if_neg (by omega)]; rfl, rfl⟩

/-- A variable of one cell, at block p. -/
def Box1 (w : World) (p : Nat) (t : TypeId) (v : Value) : Prop := w.heap[p]? = some (.cells #[v] t (0, 0))

section
variable {w : World} {p : Nat} {t : TypeId} {v : Value}

theorem Box1.cell (h : Box1 w p t v) : w.cell? ⟨p, 0, none⟩ = some v := by
  have h' : w.heap[p]? = some (.cells #[v] t (0, 0)) := h
  simp [World.cell?, h']

theorem Box1.frozen (h : Box1 w p t v) : w.frozen? ⟨p, 0, none⟩ = false := by
  have h' : w.heap[p]? = some (.cells #[v] t (0, 0)) := h
  simp [World.frozen?, h']

theorem Box1.lt (h : Box1 w p t v) : p < w.heap.size := lt_of_heap h

theorem Box1.set (h : Box1 w p t v) (u : Value) : Box1 (w.setCell ⟨p, 0, none⟩ u) p t u := one_setCell h

theorem Box1.other (h : Box1 w p t v) {a : Addr} (hne : p ≠ a.block) (u : Value) : Box1 (w.setCell a u) p t v := (Below.heap_setCell w a u p hne).trans h

theorem Box1.alloc (h : Box1 w p t v) (o : Obj) : Box1 (w.alloc o) p t v := ((Below.refl w.heap.size w).alloc (Nat.le_refl _) o).block p h.lt |>.trans h

theorem Box1.below (h : Box1 w p t v) {B : Nat} {w' : World} (hb : Below B w w') (hB : p < B) : Box1 w' p t v := (hb.block p hB).trans h

theorem Box1.new (w : World) (v : Value) (t : TypeId) : Box1 (w.alloc (.cells #[v] t)) w.heap.size t v := heap_alloc_new w _

end

set_option maxRecDepth 100000 in
set_option maxHeartbeats 1000000 in
theorem size_step (p : Nat) (a d k : Int) (w : World) (h : Box1 w p 3 (.int .i64 a)) (h1 : 0 ≤ a) (h2 : a ≤ 1099511627776) :
    Calls Tryz.prog 61 #[.int .i64 k, .int .i64 d, .pointer (some ⟨p, 0, none⟩)] w fun e w' => e = .returned voidV ∧ ∃ q, w' = (w.setCell ⟨p, 0, none⟩ (.int .i64 (a * dz d))).drewN q := by
  have hc := h.cell
  have hf := h.frozen
  have HD := fun w => hide (dz_any d w)
  have hz0 := dz_nonneg d
  have hz1 := dz_le d
  have hm0 : 0 ≤ a * dz d := Int.mul_nonneg h1 hz0
  have hm1 : a * dz d ≤ 70368744177664 := by
    have := Int.mul_le_mul h2 hz1 hz0 (by omega)
    omega
  clear h
  obtain ⟨z, hz⟩ : ∃ z, z = dz d := ⟨_, rfl⟩
  rw [← hz] at hm0 hm1
  have hw : IntKind.i64.wrap (a * z) = a * z := IntWalk.i64_in _ (by omega)
  have HZ := hide hz
  clear hz hz0 hz1 hm0 hm1
  go_enter Tryz.func61, Tryz.ntmps61
  go_wp2
  go_region_law (first | (go_simp; go_at_call 62; refine Calls.mono (HD _).out ?_; rintro e w4 ⟨rfl, rfl⟩; rw [← HZ.out]))
  all_goals
    go_wp2
    go_end0
    exact ⟨rfl, 1, by rw [← HZ.out]; rfl⟩

end

section
open Go.RowKit
set_option linter.unusedVariables false
set_option linter.unusedSimpArgs false

/-- The product of what the dimensions count for. -/
def prodZ : List Int → Int
  | [] => 1
  | d :: l => dz d * prodZ l

theorem prodZ_nonneg : ∀ l, 0 ≤ prodZ l
  | [] => by simp [prodZ]
  | d :: l => Int.mul_nonneg (dz_nonneg d) (prodZ_nonneg l)

theorem prodZ_le : ∀ l, prodZ l ≤ ((64 ^ l.length : Nat) : Int)
  | [] => by simp [prodZ]
  | d :: l => by
    have h1 := prodZ_le l
    have h2 := dz_le d
    have h3 := dz_nonneg d
    have h4 := prodZ_nonneg l
    have h5 : dz d * prodZ l ≤ 64 * ((64 ^ l.length : Nat) : Int) := Int.mul_le_mul h2 h1 h4 (by omega)
    simp only [prodZ, List.length_cons, Nat.pow_succ]
    omega

theorem prodZ_append (a b : List Int) : prodZ (a ++ b) = prodZ a * prodZ b := by
  induction a with
  | nil => simp [prodZ]
  | cons d l ih => simp [prodZ, ih, Int.mul_assoc]

theorem pow64_le {m : Nat} (h : m ≤ 4) : 64 ^ m ≤ 16777216 := by
  have := Nat.pow_le_pow_right (n := 64) (by omega) h
  simpa using this

theorem prodZ_small {l : List Int} (h : l.length ≤ 4) : prodZ l ≤ 16777216 := by
  have h1 := prodZ_le l
  have h2 := pow64_le h
  omega

theorem drop_at {xs : List Int} {k : Nat} (h : k < xs.length) : xs.drop k = xs.getD k 0 :: xs.drop (k + 1) := by
  rw [List.drop_eq_getElem_cons h]
  simp [List.getD, h]

theorem prodZ_drop {xs : List Int} {k : Nat} (h : k < xs.length) : prodZ (xs.drop (k + 1)) * dz (xs.getD k 0) = prodZ (xs.drop k) := by
  rw [drop_at h, prodZ, Int.mul_comm]

/-- How many numbers a tensor of this shape has, or 0. -/
def sizeI (xs : List Int) : Int := if xs.length < 1 ∨ 4 < xs.length then 0 else if 4096 < prodZ xs then 0 else prodZ xs

theorem sizeI_le (xs : List Int) : sizeI xs ≤ 4096 := by
  unfold sizeI
  split
  · omega
  · split <;> omega

theorem sizeI_pos {xs : List Int} (h : 0 < sizeI xs) : 1 ≤ xs.length ∧ xs.length ≤ 4 ∧ sizeI xs = prodZ xs := by
  unfold sizeI at h ⊢
  split at h
  · omega
  · split at h
    · omega
    · rename_i h1 h2
      rw [if_neg h1, if_neg h2]
      omega

theorem prodZ_pos_all : ∀ {xs : List Int}, 0 < prodZ xs → ∀ d ∈ xs, 1 ≤ d ∧ d ≤ 64 ∧ dz d = d
  | [], _, d, hd => by cases hd
  | x :: l, h, d, hd => by
    have h4 := prodZ_nonneg l
    have hx := dz_nonneg x
    have h0 : dz x ≠ 0 := by intro e; simp [prodZ, e] at h
    have hl0 : prodZ l ≠ 0 := by intro e; simp [prodZ, e] at h
    have hxx : 1 ≤ x ∧ x ≤ 64 ∧ dz x = x := by
      unfold dz at h0 ⊢
      split at h0
      · omega
      · rename_i h1
        rw [if_neg h1]
        omega
    rcases List.mem_cons.1 hd with rfl | hd
    · exact hxx
    · exact prodZ_pos_all (by omega) d hd

set_option maxRecDepth 100000 in
set_option maxHeartbeats 1000000 in
theorem size_any (A : Option Addr) (n c : Nat) (xs : List Int) (w : World) (hA : Lies w A n (xs.map (Value.int .i64))) (hn : n ≤ 281474976710656) :
    Calls Tryz.prog 32 #[.slice A n c] w fun e w' => e = .returned (.int .i64 (sizeI xs)) ∧ Below w.heap.size w w' := by
  have hlen : xs.length = n := by have := hA.len; simpa using this
  have HA := hide hA
  have HLEN := hide hlen
  clear hA
  by_cases h1 : n < 1
  · have HS : Hid (sizeI xs = 0) := hide (by rw [sizeI, if_pos (by omega)])
    clear hlen
    go_enter Tryz.func32, Tryz.ntmps32
    go_wp2
    go_ret
    exact ⟨by rw [HS.out]; rfl, Below.refl _ _⟩
  · by_cases h4 : 4 < n
    · have HS : Hid (sizeI xs = 0) := hide (by rw [sizeI, if_pos (by omega)])
      clear hlen
      go_enter Tryz.func32, Tryz.ntmps32
      go_wp2
      go_ret
      exact ⟨by rw [HS.out]; rfl, Below.refl _ _⟩
    · have HV := hide (visit_size (fun k wr => Box1 wr w.heap.size 3 (.int .i64 (prodZ (xs.drop k))) ∧ Below w.heap.size w wr) A n c xs ⟨w.heap.size, 0, none⟩ (w.alloc (.cells #[.int .i64 1] 3)) hn
        (fun k wr hk hI => by
          refine Calls.mono (size_step w.heap.size (prodZ (xs.drop (k + 1))) (xs.getD k 0) k wr hI.1 (prodZ_nonneg _) ?_) ?_
          · have := prodZ_small (l := xs.drop (k + 1)) (by rw [List.length_drop]; omega)
            omega
          · rintro e w' ⟨rfl, q, rfl⟩
            refine ⟨rfl, ?_, below_drewN (hI.2.setCell (Nat.le_refl _) _) q⟩
            have e := prodZ_drop (xs := xs) (k := k) (by omega)
            have hs := hI.1.set (.int .i64 (prodZ (xs.drop (k + 1)) * dz (xs.getD k 0)))
            rw [e] at hs ⊢
            exact hs)
        (fun k wr hI => HA.out.below hI.2)
        ⟨by rw [List.drop_eq_nil_of_le (by omega)]; exact Box1.new _ _ _, (Below.refl _ _).alloc (Nat.le_refl _) _⟩)
      have hp := prodZ_small (l := xs) (by omega)
      have hp0 := prodZ_nonneg xs
      have HS := hide (show sizeI xs = if 4096 < prodZ xs then 0 else prodZ xs by rw [sizeI, if_neg (by omega)])
      clear hlen
      go_enter Tryz.func32, Tryz.ntmps32
      go_wp2_with fail
      refine Calls.mono HV.out ?_
      rintro e w2 ⟨rfl, hb, hbel⟩
      rw [List.drop_zero] at hb
      have hc := hb.cell
      have HB := hide hbel
      clear hb hbel
      obtain ⟨y, hy⟩ : ∃ y, y = prodZ xs := ⟨_, rfl⟩
      rw [← hy] at hp hp0 hc
      have HY := hide hy
      clear hy
      by_cases hbig : 4096 < y
      · go_wp2
        go_ret
        exact ⟨by rw [HS.out, ← HY.out, if_pos hbig]; rfl, HB.out⟩
      · go_wp2
        go_ret
        exact ⟨by rw [HS.out, ← HY.out, if_neg (by omega)]; rfl, HB.out⟩

set_option maxRecDepth 100000 in
theorem check_any (A : Option Addr) (n c : Nat) (xs : List Int) (w : World) (hA : Lies w A n (xs.map (Value.int .i64))) (hn : n ≤ 281474976710656) :
    Calls Tryz.prog 87 #[.slice A n c] w fun e w' => e = .returned (.bool (decide (0 < sizeI xs))) ∧ Below w.heap.size w w' := by
  have HA := hide hA
  clear hA
  go_enter Tryz.func87, Tryz.ntmps87
  go_wp2_with fail
  refine Calls.mono (size_any A n c xs w HA.out hn) ?_
  rintro e w2 ⟨rfl, hb⟩
  have HB := hide hb
  clear hb
  obtain ⟨y, hy⟩ : ∃ y, y = sizeI xs := ⟨_, rfl⟩
  rw [← hy]
  have HY := hide hy
  clear hy
  go_wp2
  go_ret
  exact ⟨by rw [← HY.out]; rfl, HB.out⟩

end

section
open Go.RowKit
set_option linter.unusedVariables false
set_option linter.unusedSimpArgs false

end

section
open Go.RowKit
set_option linter.unusedVariables false
set_option linter.unusedSimpArgs false

theorem Tryz.infoI : (Tryz.prog.info? 3).map (fun i => (i.zero, i.size, i.bytes)) = some (some (.int .i64 0), 1, 8) := by kernel_rfl

/-- Is each place within its dimension? -/
def allIn : List Int → List Int → Bool
  | x :: xs, y :: ys => allIn xs ys && decide (0 ≤ y) && decide (y < x)
  | _, _ => true

/-- The index, counted from the last dimension on. -/
def valI : List Int → List Int → Int
  | _ :: xs, y :: ys => valI xs ys + prodZ xs * y
  | _, _ => 0

/-- The places of an index. -/
def digs : List Int → Int → List Int
  | [], _ => []
  | x :: xs, i => i / prodZ xs % x :: digs xs i

def okAt (xs ys : List Int) : Bool := decide (0 < sizeI xs) && (decide (ys.length = xs.length) && allIn xs ys)

/-- A list all of whose dimensions may be. -/
def AllDim (xs : List Int) : Prop := ∀ d ∈ xs, 1 ≤ d ∧ d ≤ 64 ∧ dz d = d

theorem AllDim.tail {x : Int} {xs : List Int} (h : AllDim (x :: xs)) : AllDim xs := fun d hd => h d (List.mem_cons_of_mem _ hd)

theorem AllDim.drop {xs : List Int} (h : AllDim xs) (k : Nat) : AllDim (xs.drop k) := fun d hd => h d (List.mem_of_mem_drop hd)

theorem AllDim.at {xs : List Int} (h : AllDim xs) {k : Nat} (hk : k < xs.length) : 1 ≤ xs.getD k 0 ∧ xs.getD k 0 ≤ 64 ∧ dz (xs.getD k 0) = xs.getD k 0 := by
  have : xs.getD k 0 = xs[k] := by simp [List.getD, hk]
  rw [this]
  exact h _ (List.getElem_mem hk)

theorem AllDim.pos : ∀ {xs : List Int}, AllDim xs → 1 ≤ prodZ xs
  | [], _ => by simp [prodZ]
  | x :: xs, h => by
    have h1 := AllDim.pos h.tail
    obtain ⟨h2, _, h3⟩ := h x (List.mem_cons_self ..)
    rw [prodZ, h3]
    have := Int.mul_le_mul h2 h1 (by omega) (by omega)
    omega

theorem size_dims {xs : List Int} (h : 0 < sizeI xs) : AllDim xs := by
  obtain ⟨_, _, h3⟩ := sizeI_pos h
  exact fun d hd => prodZ_pos_all (by omega) d hd

end

section
open Go.RowKit
set_option linter.unusedVariables false
set_option linter.unusedSimpArgs false

end

section
open Go.RowKit

set_option linter.unusedVariables false in
theorem read_u32 (b o n c : Nat) (x0 x1 x2 x3 : Int) (w : World) (hn : 4 ≤ n)
    (h0 : w.cell? ⟨b, o, none⟩ = some (.int .u8 x0)) (h1 : w.cell? ⟨b, o + 1, none⟩ = some (.int .u8 x1)) (h2 : w.cell? ⟨b, o + 2, none⟩ = some (.int .u8 x2)) (h3 : w.cell? ⟨b, o + 3, none⟩ = some (.int .u8 x3))
    (b0 : 0 ≤ x0 ∧ x0 < 256) (b1 : 0 ≤ x1 ∧ x1 < 256) (b2 : 0 ≤ x2 ∧ x2 < 256) (b3 : 0 ≤ x3 ∧ x3 < 256) :
    Calls Tryz.prog 63 #[.slice (some ⟨b, o, none⟩) n c] w fun e w' => e = .returned (.int .u32 (word x0 x1 x2 x3)) ∧ ∃ k, w' = w.drewN k := by
  have hor := or_u32 b0 b1 b2 b3
  have HOR : Hid _ := hor
  clear hor
  obtain ⟨p0, q0⟩ := b0
  obtain ⟨p1, q1⟩ := b1
  obtain ⟨p2, q2⟩ := b2
  obtain ⟨p3, q3⟩ := b3
  go_enter Tryz.func63, Tryz.ntmps63
  go_wp2
  go_quiet (fail)
  go_wp2
  go_ret
  exact ⟨congrArg (fun n => Ending.returned (.int .u32 n)) HOR.out, _, rfl⟩

end

end Go.Proofs.YtohndckbhjakfaaGreatDoor

