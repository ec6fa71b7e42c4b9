/- Merged: Mv3, Mv4, Mv5. -/
import Derived.Test.YtohndckbhjakfaaGreatDoorWZ10
import Derived.Test.YtohndckbhjakfaaGreatDoorWZ04
namespace Go.Proofs.YtohndckbhjakfaaGreatDoor

section
open Go.RowKit
set_option linter.unusedVariables false
set_option linter.unusedSimpArgs false
set_option maxRecDepth 100000

end

section
open Go.RowKit
set_option linter.unusedVariables false
set_option linter.unusedSimpArgs false
set_option maxRecDepth 100000

end

section
open Go.RowKit
set_option linter.unusedVariables false
set_option linter.unusedSimpArgs false
set_option maxRecDepth 100000

theorem below_own9 {B : Nat} {a w w' : World} {base : Nat} {e : TypeId} {v : Value} {n : Nat} {xs : List Value} (hb : Below B a w) (hB : B ≤ w.heap.size) (ho : w.ownsRow base e 1 v n xs) (hg : w.grownBy w' v.ownBlock) (hbb : B ≤ base) : Below B a w' :=
  hb.grown hg hB (fun g hgg => Nat.le_trans hbb (ho.lt g hgg).1)

set_option maxHeartbeats 1000000 in
theorem grow_nil (k : Nat) (w : World) (hk : 1 ≤ k ∧ k ≤ 4096) :
    Calls Tryz.prog 148 #[.slice none 0 0, .int .i64 (k : Int)] w fun e w' => ∃ g c', e = .returned (.slice (some ⟨g, 0, none⟩) 0 c') ∧ w'.ownsRow w.heap.size 3 1 (.slice (some ⟨g, 0, none⟩) 0 c') 0 [] ∧ Below w.heap.size w w' := by
  obtain ⟨i, hi, hz0, hz1, hz2⟩ := info_parts Tryz.infoI
  have HI := hide hi
  have HZ0 := hide hz0
  have HZ1 := hide hz1
  have HZ2 := hide hz2
  clear hi hz0 hz1 hz2
  have hneg : ¬ ((k : Int) < 0) := by omega
  have h0 : (0 : Int) < (k : Int) := by omega
  go_enter Tryz.func148, Tryz.ntmps148
  go_wp2_with (at_builtin; refine wpList_append_zeros rfl _ _ 35 3 rfl 3 i (.int .i64 0) .i64 .i64 8 Tryz.underlying35 Tryz.underlying3 HI.out HZ0.out HZ1.out HZ2.out rfl rfl w.heap.size (.slice none 0 0) 0 [] rfl (World.ownsRow_nil _ _ _ _) (Nat.le_refl _) k rfl (by omega) (by unfold maxLen; omega) ?_)
  intro A' c' w' ho' hg'
  obtain ⟨g', rfl⟩ : ∃ g', A' = some ⟨g', 0, none⟩ := by
    rcases ho'.2 with ⟨_, h0⟩ | ⟨g', cap, cur, h0, _⟩
    · omega
    · cases h0; exact ⟨g', rfl⟩
  have HB : Hid (Below w.heap.size w w') := hide (below_own9 (Below.refl _ _) (Nat.le_refl _) (World.ownsRow_nil w w.heap.size 3 1) hg' (Nat.le_refl _))
  have HP : Hid (w'.ownsRow w.heap.size 3 1 (.slice (some ⟨g', 0, none⟩) 0 c') 0 []) := hide (own_part (xs := []) (ys := List.replicate k (Value.int .i64 0)) ho' rfl (by omega))
  clear ho' hg'
  go_wp2
  go_ret
  exact ⟨g', c', rfl, HP.out, HB.out⟩

end

end Go.Proofs.YtohndckbhjakfaaGreatDoor

