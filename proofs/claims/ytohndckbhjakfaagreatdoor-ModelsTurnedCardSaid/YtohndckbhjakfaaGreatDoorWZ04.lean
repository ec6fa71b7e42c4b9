/- Merged: Ten5, Ten6, Get, Lits, Ten7, Ten8. -/
import Derived.Test.YtohndckbhjakfaaGreatDoorWZ02
import Derived.Test.YtohndckbhjakfaaGreatDoorWZ01
import Derived.Test.YtohndckbhjakfaaGreatDoorWZ03
import Derived.RangeFuncBound
import Derived.Shelf.RegionOpen
import Derived.Laws.BytesArg
import Derived.Lib.SmallJoins
namespace Go.Proofs.YtohndckbhjakfaaGreatDoor

section
open Go.RowKit
set_option linter.unusedVariables false
set_option linter.unusedSimpArgs false
set_option maxRecDepth 20000

/-- A row of the call's own, seen as far as it reaches. -/
theorem own_full {w : World} {base : Nat} {e : TypeId} {g n c : Nat} {xs : List Value} (h : w.ownsRow base e 1 (.slice (some ⟨g, 0, none⟩) n c) n xs) :
    ∃ ys, w.ownsRow base e 1 (.slice (some ⟨g, 0, none⟩) c c) c ys ∧ ys.take n = xs ∧ n ≤ c := by
  rcases h.2 with ⟨h0, _⟩ | ⟨g', cap, cur, h0, hb, hg, hm, hl, hz, ht⟩
  · cases h0
  · cases h0
    exact ⟨cur.toList, own_of_block hb (by simpa using hg) (by simp [hz]) (Nat.le_refl _) hl (by rw [List.take_of_length_le (by simp [hz])]), by simpa using ht, hm⟩

set_option maxHeartbeats 1000000 in
theorem grow_any (g n c k base : Nat) (xs : List Value) (w : World) (ho : w.ownsRow base 5 1 (.slice (some ⟨g, 0, none⟩) n c) n xs) (hbase : base ≤ w.heap.size) (hn : n ≤ 1073741824) (hk : k ≤ 1073741824) :
    Calls Tryz.prog 52 #[.slice (some ⟨g, 0, none⟩) n c, .int .i64 (k : Int)] w fun e w' => ∃ g' c', e = .returned (.slice (some ⟨g', 0, none⟩) n c') ∧ w'.ownsRow base 5 1 (.slice (some ⟨g', 0, none⟩) n c') n xs ∧ w.grownBy w' (some g) := by
  obtain ⟨i, hi, hz0, hz1, hz2⟩ := info_parts Tryz.infoB
  obtain ⟨ys, hf, hys, hnc⟩ := own_full ho
  have HI := hide hi
  have HZ0 := hide hz0
  have HZ1 := hide hz1
  have HZ2 := hide hz2
  have HO := hide ho
  have HF := hide hf
  have HYS := hide hys
  have hcm : c ≤ maxLen := by
    rcases ho.2 with ⟨h0, _⟩ | ⟨g', cap, cur, h0, hb, hg, hm, hl, hz, ht⟩
    · cases h0
    · cases h0; exact hl
  have HCM := hide hcm
  unfold maxLen at hcm
  clear ho hi hz0 hz1 hz2 hf hys
  have hneg : ¬ ((k : Int) < 0) := by omega
  by_cases hfit : n + k ≤ c
  · have h2 : (k : Int) - ((c : Int) - (n : Int)) ≤ 0 := by omega
    go_enter Tryz.func52, Tryz.ntmps52
    go_wp2
    go_ret
    exact ⟨g, c, rfl, HO.out, World.grownBy.refl _ _⟩
  · obtain ⟨q, hq⟩ : ∃ q : Nat, n + k = c + q := ⟨n + k - c, by omega⟩
    have h2 : (k : Int) - ((c : Int) - (n : Int)) = (q : Int) := by omega
    have hq0 : 0 < q := by omega
    go_enter Tryz.func52, Tryz.ntmps52
    go_wp2_with (at_builtin; refine wpList_append_zeros rfl _ _ 30 3 rfl 5 i (.int .u8 0) .i64 .i64 1 Tryz.underlying30 Tryz.underlying3 HI.out HZ0.out HZ1.out HZ2.out rfl rfl base (.slice (some ⟨g, 0, none⟩) c c) c ys rfl HF.out hbase q rfl (by omega) (by unfold maxLen; omega) ?_)
    intro A' c' w' ho' hg'
    obtain ⟨g', rfl⟩ : ∃ g', A' = some ⟨g', 0, none⟩ := by
      rcases ho'.2 with ⟨_, h0⟩ | ⟨g', cap, cur, h0, _⟩
      · omega
      · cases h0; exact ⟨g', rfl⟩
    have hcc : c + q ≤ c' := (own_full ho').choose_spec.2.2
    have HB : Hid (w.grownBy w' (some g)) := hide hg'
    have HP : Hid (w'.ownsRow base 5 1 (.slice (some ⟨g', 0, none⟩) n c') n xs) := hide (by
      have e : ys ++ List.replicate q (Value.int .u8 0) = xs ++ (ys.drop n ++ List.replicate q (Value.int .u8 0)) := by
        rw [← List.append_assoc, ← HYS.out, List.take_append_drop]
      rw [e] at ho'
      exact own_part ho' (by have := HO.out.1; omega) (by omega))
    clear ho' hg'
    go_wp2
    go_ret
    exact ⟨g', c', rfl, HP.out, HB.out⟩

end

section
open Go.RowKit Go.Shelf
set_option linter.unusedVariables false
set_option linter.unusedSimpArgs false
set_option maxRecDepth 20000
attribute [local go_sem] Oper.semAt_some

/-- The bytes of a tensor. -/
def tenB (s l : List Int) : List Int := (s.length : Int) :: s ++ enc l

theorem four_wrap (z : Int) : four (IntKind.u32.wrap z) = four z := by
  unfold four
  rw [IntKind.wrap_u32]
  congr 1
  · omega
  · congr 1
    · omega
    · congr 1
      · omega
      · congr 1
        omega

/-- What holds between two rounds of Put's loop. -/
def putI (w : World) (n : Nat) (s l : List Int) (p : Nat) (k : Nat) (W : World) : Prop :=
  (∃ g c', Box1 W p 30 (.slice (some ⟨g, 0, none⟩) (n + 1 + 4 * k) c') ∧ W.ownsRow w.heap.size 5 1 (.slice (some ⟨g, 0, none⟩) (n + 1 + 4 * k) c') (n + 1 + 4 * k) (((n : Int) :: s ++ enc (l.take k)).map (Value.int .u8))) ∧ Below w.heap.size w W

theorem own_some {w : World} {base : Nat} {e : TypeId} {A : Option Addr} {n c : Nat} {xs : List Value} (h : w.ownsRow base e 1 (.slice A n c) n xs) (hn : 0 < n) : ∃ g, A = some ⟨g, 0, none⟩ := by
  rcases h.2 with ⟨_, h0⟩ | ⟨g', cap, cur, h0, _⟩
  · omega
  · cases h0; exact ⟨g', rfl⟩

end

section
open Go.RowKit

theorem dec_take (bs : List Int) (q : Nat) : dec (bs.take (4 * q)) q = dec bs q := by
  unfold dec
  refine List.map_congr_left fun j hj => ?_
  have hj' : j < q := by simpa using hj
  simp only [wd, List.getD, List.getElem?_take]
  rw [if_pos (by omega), if_pos (by omega), if_pos (by omega), if_pos (by omega)]

end

section
open Go.RowKit

end

section
open Go.RowKit
set_option linter.unusedVariables false
set_option linter.unusedSimpArgs false
set_option maxRecDepth 20000

theorem lies_slice {w : World} {b o n : Nat} {bs : List Int} {k : IntKind} (h : Lies w (some ⟨b, o, none⟩) n (bs.map (Value.int k))) {i j : Nat} (hij : i ≤ j) (hj : j ≤ n) :
    Lies w (some ⟨b, o + i, none⟩) (j - i) (((bs.drop i).take (j - i)).map (Value.int k)) := by
  have hl : bs.length = n := by have := h.len; simpa using this
  refine ⟨by simp [hl]; omega, fun hp => ?_⟩
  obtain ⟨b', o', e, hb, hx⟩ := h.cells (by omega)
  cases e
  refine ⟨b, o + i, rfl, hb, fun m hm => ?_⟩
  rw [Nat.add_assoc, hx (i + m) (by omega)]
  simp [List.getElem?_take, hm, List.getElem?_drop]

/-- The dimensions that bytes begin with. -/
def shpOf (bs : List Int) (k : Nat) : List Int := (bs.drop 1).take k

end

section
open Go.RowKit Go.Shelf
set_option linter.unusedVariables false
set_option linter.unusedSimpArgs false
set_option maxRecDepth 20000
attribute [local go_sem] Oper.semAt_some

/-- How many dimensions bytes tell. -/
def dimsOf (bs : List Int) : Nat := (bs.getD 0 0).toNat

/-- Are bytes those of a tensor? -/
def getOk (bs : List Int) : Bool := decide (1 + dimsOf bs ≤ bs.length) && decide (0 < sizeI (shpOf bs (dimsOf bs))) && decide (((bs.length - (1 + dimsOf bs) : Nat) : Int) = 4 * sizeI (shpOf bs (dimsOf bs)))

end

end Go.Proofs.YtohndckbhjakfaaGreatDoor

