/- Merged: Mv2, Mv3, Mv4, Mv5. -/
import Derived.Test.YtohndckbhjakfaaGreatDoorWZ08
import Derived.Test.YtohndckbhjakfaaGreatDoorWZ03
namespace Go.Proofs.YtohndckbhjakfaaGreatDoor

section
open Go.RowKit
set_option linter.unusedVariables false
set_option linter.unusedSimpArgs false
set_option maxRecDepth 100000

section
variable {w : World} {p : Nat} {v u : Value}

end

theorem own_set9 {w : World} {base : Nat} {e : TypeId} {g n c k : Nat} {xs : List Value} {v : Value} (h : w.ownsRow base e 1 (.slice (some ⟨g, 0, none⟩) n c) n xs) (hk : k < n) :
    (w.setCell ⟨g, k, none⟩ v).ownsRow base e 1 (.slice (some ⟨g, 0, none⟩) n c) n (xs.set k v) := by
  rcases h.2 with ⟨e0, _⟩ | ⟨g', cap, cur, e0, hb, hg, hm, hl, hs, ht⟩
  · cases e0
  · cases e0
    refine ⟨by simpa using h.1, .inr ⟨g, c, cur.setIfInBounds k v, rfl, hb, ?_, hm, hl, by simpa using hs, ?_⟩⟩
    · rw [setCell_eq_setRow w g k cur e (0, 0) v hg]
      exact setRow_heap w g cur _ e (0, 0) hg
    · rw [← ht, Array.toList_setIfInBounds, List.take_set]

theorem own_cells9 {w : World} {base : Nat} {e : TypeId} {g n c k : Nat} {zs : List Int} {kk : IntKind} (h : w.ownsRow base e 1 (.slice (some ⟨g, 0, none⟩) n c) n (zs.map (Value.int kk))) (hk : k < n) :
    w.cell? ⟨g, k, none⟩ = some (.int kk (zs.getD k 0)) ∧ w.frozen? ⟨g, k, none⟩ = false := by
  constructor
  · obtain ⟨b, o, e0, _, hx⟩ := byte_at (lies_of_own h) (by omega)
    cases e0
    have h1 := hx k hk
    rwa [Nat.zero_add] at h1
  · rcases h.2 with ⟨e0, _⟩ | ⟨g', cap, cur, e0, hb, hg, hm, hl, hs, ht⟩
    · cases e0
    · cases e0
      exact frozen_of_row w g k _ _ hg

theorem make_ints9 (w : World) (n : Nat) (h : n ≤ 1048576) : (Instr.makeSlice 35 (.int .i64 (n : Int)) (.int .i64 (n : Int))).run Tryz.prog w = .ok (.slice (some ⟨w.heap.size, 0, none⟩) n n) (w.alloc (.cells ((List.replicate n (0 : Int)).map (Value.int .i64)).toArray 3)) := by
  obtain ⟨i0, hi, hz0, hz1, hz2⟩ := info_parts Tryz.infoI
  have hr := run_make (P := Tryz.prog) w 35 3 i0 (.int .i64 0) Tryz.underlying35 hi hz0 .i64 .i64 (n : Int) (n : Int) (by omega) (by omega) (by rw [hz2]; omega) (by omega)
  have e : madeCells (Value.int .i64 0).cells n = ((List.replicate n (0 : Int)).map (Value.int .i64)).toArray := by
    apply Array.toList_inj.1
    have := toList_madeCells_one (.int .i64 0) n
    simpa [Value.cells] using this
  rw [hr, hz1]
  simp only [Int.toNat_natCast, Nat.mul_one]
  rw [e]

/-- The strides of a shape: what the directions behind each come to. -/
def strL : List Int → List Int
  | [] => []
  | _ :: l => prodZ l :: strL l

/-- The strides while they are laid, from the last one on. -/
def strP (s : List Int) (j : Nat) : List Int := List.replicate j 0 ++ strL (s.drop j)

end

section
open Go.RowKit
set_option linter.unusedVariables false
set_option linter.unusedSimpArgs false
set_option maxRecDepth 100000

end

section
open Go.RowKit
set_option linter.unusedVariables false
set_option linter.unusedSimpArgs false
set_option maxRecDepth 100000

end

section
open Go.RowKit
set_option linter.unusedVariables false
set_option linter.unusedSimpArgs false
set_option maxRecDepth 100000

theorem below_own9 {B : Nat} {a w w' : World} {base : Nat} {e : TypeId} {v : Value} {n : Nat} {xs : List Value} (hb : Below B a w) (hB : B ≤ w.heap.size) (ho : w.ownsRow base e 1 v n xs) (hg : w.grownBy w' v.ownBlock) (hbb : B ≤ base) : Below B a w' :=
  hb.grown hg hB (fun g hgg => Nat.le_trans hbb (ho.lt g hgg).1)

set_option maxHeartbeats 1000000 in
theorem grow_nil (k : Nat) (w : World) (hk : 1 ≤ k ∧ k ≤ 4096) :
    Calls Tryz.prog 148 #[.slice none 0 0, .int .i64 (k : Int)] w fun e w' => ∃ g c', e = .returned (.slice (some ⟨g, 0, none⟩) 0 c') ∧ w'.ownsRow w.heap.size 3 1 (.slice (some ⟨g, 0, none⟩) 0 c') 0 [] ∧ Below w.heap.size w w' := by
  obtain ⟨i, hi, hz0, hz1, hz2⟩ := info_parts Tryz.infoI
  have HI := hide hi
  have HZ0 := hide hz0
  have HZ1 := hide hz1
  have HZ2 := hide hz2
  clear hi hz0 hz1 hz2
  have hneg : ¬ ((k : Int) < 0) := by omega
  have h0 : (0 : Int) < (k : Int) := by omega
  go_enter Tryz.func148, Tryz.ntmps148
  go_wp2_with (at_builtin; refine wpList_append_zeros rfl _ _ 35 3 rfl 3 i (.int .i64 0) .i64 .i64 8 Tryz.underlying35 Tryz.underlying3 HI.out HZ0.out HZ1.out HZ2.out rfl rfl w.heap.size (.slice none 0 0) 0 [] rfl (World.ownsRow_nil _ _ _ _) (Nat.le_refl _) k rfl (by omega) (by unfold maxLen; omega) ?_)
  intro A' c' w' ho' hg'
  obtain ⟨g', rfl⟩ : ∃ g', A' = some ⟨g', 0, none⟩ := by
    rcases ho'.2 with ⟨_, h0⟩ | ⟨g', cap, cur, h0, _⟩
    · omega
    · cases h0; exact ⟨g', rfl⟩
  have HB : Hid (Below w.heap.size w w') := hide (below_own9 (Below.refl _ _) (Nat.le_refl _) (World.ownsRow_nil w w.heap.size 3 1) hg' (Nat.le_refl _))
  have HP : Hid (w'.ownsRow w.heap.size 3 1 (.slice (some ⟨g', 0, none⟩) 0 c') 0 []) := hide (own_part (xs := []) (ys := List.replicate k (Value.int .i64 0)) ho' rfl (by omega))
  clear ho' hg'
  go_wp2
  go_ret
  exact ⟨g', c', rfl, HP.out, HB.out⟩

end

end Go.Proofs.YtohndckbhjakfaaGreatDoor

