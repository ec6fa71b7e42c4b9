/- Acts in memory, and contracts of the statements' own helpers of layer 3: first, left, alike, great. -/
import Derived.Test.YtapdaeafeejknaaGreatDoorDiskKs
import Derived.Test.YtapdaeafeejknaaGreatDoorSameB
namespace Go.Proofs.YtapdaeafeejknaaGreatDoor
open Go.RowKit
set_option maxRecDepth 20000
set_option linter.unusedSimpArgs false
set_option linter.unusedVariables false

structure Act1 where
  kind : Int
  n : Int
  p : Int
  A : Option Addr
  m : Nat
  c : Nat
  bs : List Int
  keep : Int
def noAct : Act1 := ⟨0, 0, 0, none, 0, 0, [], 0⟩
def actV (x : Act1) : List Value := [.int .u8 x.kind, .int .i64 x.n, .int .i64 x.p, .slice x.A x.m x.c, .int .u64 x.keep]
def actAt (l : List Act1) (i : Nat) : Act1 := l.getD i noAct
structure OkAct (w : World) (x : Act1) : Prop where
  lies : Lies w x.A x.m (x.bs.map (Value.int .u8))
  bytes : ∀ z ∈ x.bs, 0 ≤ z ∧ z < 256
  kind : 0 ≤ x.kind ∧ x.kind < 256
  keep : 0 ≤ x.keep ∧ x.keep < 18446744073709551616
  size : x.m ≤ 140737488355328
/-- The acts of a slice. -/
structure ActsAt (w : World) (A : Option Addr) (n : Nat) (l : List Act1) : Prop where
  len : l.length = n
  cells : 0 < n → ∃ b o, A = some ⟨b, o, none⟩ ∧ b < w.heap.size ∧ ∀ i, i < n → ∀ j v, (actV (actAt l i))[j]? = some v → w.cell? ⟨b, o + i * 5 + j, none⟩ = some v
  each : ∀ x ∈ l, OkAct w x
section
variable {w w' : World} {A : Option Addr} {n : Nat} {l : List Act1}
theorem OkAct.below {x : Act1} (h : OkAct w x) (hb : Below w.heap.size w w') : OkAct w' x := ⟨h.lies.below hb, h.bytes, h.kind, h.keep, h.size⟩
theorem ActsAt.below (h : ActsAt w A n l) (hb : Below w.heap.size w w') : ActsAt w' A n l :=
  ⟨h.len, fun hn => by
    obtain ⟨b, o, e, hlt, hc⟩ := h.cells hn
    exact ⟨b, o, e, Nat.lt_of_lt_of_le hlt hb.size, fun i hi j v hj => (hb.cell (p := ⟨b, o + i * 5 + j, none⟩) hlt).trans (hc i hi j v hj)⟩, fun x hx => (h.each x hx).below hb⟩
theorem actAt_mem {i : Nat} (hi : i < l.length) : actAt l i ∈ l := by
  have : actAt l i = l[i] := by simp [actAt, List.getD, hi]
  rw [this]; exact List.getElem_mem _
end

def sumTo (l : List Act1) (k : Nat) : Nat := ((l.take k).map fun x => 1 + x.m).sum
theorem sumTo_succ (l : List Act1) (k : Nat) (hk : k < l.length) : sumTo l (k + 1) = sumTo l k + 1 + (actAt l k).m := by
  have e : actAt l k = l[k] := by simp [actAt, List.getD, hk]
  unfold sumTo
  rw [List.take_succ_eq_append_getElem hk, List.map_append, List.sum_append, e]
  simp
  omega
def GreatP (n : Nat) (w : World) (e : Ending) (w' : World) : Prop := ∃ bd, e = .returned (.bool bd) ∧ (bd = false → n ≤ 150) ∧ w = w'
set_option maxHeartbeats 800000 in
theorem great_any (A : Option Addr) (n c : Nat) (l : List Act1) (w : World) (h : ActsAt w A n l) (hn : n ≤ 140737488355328) :
    Calls Tryz.prog 4 #[.slice A n c] w fun e w' => GreatP n w e w' := by
  have HA := hide h
  clear h
  go_enter Tryz.func4, Tryz.ntmps4
  go_wp2
  go_loop [3, 4] (fun s i => ∃ k : Nat, k ≤ n ∧ i = .int .i64 k ∧ s = .int .i64 (sumTo l k : Nat) ∧ sumTo l k ≤ 30000) (fun _ i => n - (intOf i).toNat)
  case atStart => exact ⟨0, Nat.zero_le _, rfl, rfl, by simp [sumTo]⟩
  case round =>
    obtain ⟨k, hk, rfl, rfl, hs⟩ := hrel
    by_cases hlt : k < n
    · obtain ⟨b, o, rfl, _, hc⟩ := HA.out.cells (by omega)
      have hkl : k < l.length := by rw [HA.out.len]; exact hlt
      obtain ⟨x, hx⟩ : ∃ x, x = actAt l k := ⟨_, rfl⟩
      have hox : OkAct w x := by rw [hx]; exact HA.out.each _ (actAt_mem hkl)
      have hm := hox.size
      have c3 : w.cell? ⟨b, o + k * 5 + 3, none⟩ = some (.slice x.A x.m x.c) := hc k hlt 3 _ (by rw [← hx]; rfl)
      have hsu : sumTo l (k + 1) = sumTo l k + 1 + x.m := by rw [sumTo_succ l k hkl, hx]
      obtain ⟨s0, hs0⟩ : ∃ s0, s0 = sumTo l k := ⟨_, rfl⟩
      rw [← hs0] at hs hsu ⊢
      have HSU := hide hsu
      have k0 : (0 : Int) ≤ (k : Int) := by omega
      have k1 : (k : Int) < (n : Int) := by omega
      clear hc hox hx hs0 hsu
      by_cases hg : 30000 < s0 + 1 + x.m
      · have g1 : (30000 : Int) < (s0 : Int) + 1 + (x.m : Int) := by omega
        go_wp2
        go_ret
        exact ⟨true, rfl, (fun h => by cases h), rfl⟩
      · have g1 : (s0 : Int) + 1 + (x.m : Int) ≤ 30000 := by omega
        go_wp2
        go_round
        case rel => exact ⟨k + 1, by omega, by go_num, by rw [HSU.out]; go_num, by rw [HSU.out]; omega⟩
        case measure => simp [intOf]; omega
    · obtain rfl : k = n := by omega
      by_cases hg : 150 < k
      · have g1 : (150 : Int) < (k : Int) := by omega
        go_wp2
        go_ret
        exact ⟨true, by simp [Act.eval, g1], (fun h => by cases h), rfl⟩
      · have g1 : (k : Int) ≤ 150 := by omega
        go_wp2
        go_ret
        exact ⟨false, by simp [Act.eval]; omega, (fun _ => by omega), rfl⟩

end Go.Proofs.YtapdaeafeejknaaGreatDoor
