/- DisksNone holds for every sector, every bytes, every failure: the walk of its Go text. -/
import Derived.Test.YtphfakjodddilaaNoDisk
namespace Go.Proofs.Ytphfakjodddilaa
open Go.RowKit

set_option maxRecDepth 100000 in
set_option maxHeartbeats 2000000 in
theorem none_law (n at' : Int) (A : Option Addr) (m c : Nat) (w : World) :
    Calls Try.prog 3 #[.int .i64 n, .int .i64 at', .slice A m c] w fun e w' => e = .returned (.bool true) ∧ Below w.heap.size w w' := by
  go_enter Try.func3, Try.ntmps3
  go_wp2
  obtain ⟨w1, hw1⟩ : ∃ w1, w1 = (w.alloc (.cells #[.slice none 0 0, .slice none 0 0, .slice none 0 0] 27)).alloc (.cells #[.pointer none, .pointer (some ⟨w.heap.size, 0, none⟩)] 23) := ⟨_, rfl⟩
  rw [← hw1]
  have c0 : w1.cell? ⟨w.heap.size + 1, 0, none⟩ = some (.pointer none) := by rw [hw1]; simp
  have c1 : w1.cell? ⟨w.heap.size + 1, 1, none⟩ = some (.pointer (some ⟨w.heap.size, 0, none⟩)) := by rw [hw1]; simp
  have HD : Hid (NoDisk w1 (.pointer (some ⟨w.heap.size, 0, none⟩))) := hide (.inr ⟨_, rfl, by rw [hw1]; simp⟩)
  have HN : Hid (NoDisk w1 (.pointer none)) := hide (.inl rfl)
  have HB : Hid (Below w.heap.size w w1) := hide (by rw [hw1]; exact ((Below.refl _ _).alloc (Nat.le_refl _) _).alloc (by simp) _)
  clear hw1
  go_loopw [8] (fun i wr => ∃ k : Nat, k ≤ 2 ∧ i = .int .i64 k ∧ wr = w1) (fun i _ => 2 - (intOf i).toNat)
  case atStart => exact ⟨0, by omega, rfl, rfl⟩
  case round =>
    obtain ⟨k, hk, rfl, rfl⟩ := hrel
    obtain rfl | rfl | rfl : k = 0 ∨ k = 1 ∨ k = 2 := by omega
    · go_wp2_with (first | (go_at_call 12; refine Calls.mono (no_read _ _ _ HN.out) ?_; rintro e w2 ⟨rfl, rfl⟩) | (go_at_call 13; refine Calls.mono (no_fail _ _ _ _ HN.out) ?_; rintro e w2 ⟨rfl, rfl⟩) | (go_at_call 14; refine Calls.mono (no_write _ _ _ _ _ _ HN.out) ?_; rintro e w2 ⟨rfl, rfl⟩) | (go_at_call 15; refine Calls.mono (no_sync _ _ HN.out) ?_; rintro e w2 ⟨rfl, rfl⟩) | (go_at_call 16; refine Calls.mono (no_rot _ _ _ _ _ HN.out) ?_; rintro e w2 ⟨rfl, rfl⟩) | (go_at_call 17; refine Calls.mono (no_bad _ _ _ HN.out) ?_; rintro e w2 ⟨rfl, rfl⟩) | (go_at_call 18; refine Calls.mono (no_len _ _ HN.out) ?_; rintro e w2 ⟨rfl, rfl⟩) | (go_at_call 19; refine Calls.mono (no_waits _ _ HN.out) ?_; rintro e w2 ⟨rfl, rfl⟩))
      go_roundw
      case rel => exact ⟨1, by omega, by go_num, trivial⟩
      case measure => simp [intOf]
    · go_wp2_with (first | (go_at_call 12; refine Calls.mono (no_read _ _ _ HD.out) ?_; rintro e w2 ⟨rfl, rfl⟩) | (go_at_call 13; refine Calls.mono (no_fail _ _ _ _ HD.out) ?_; rintro e w2 ⟨rfl, rfl⟩) | (go_at_call 14; refine Calls.mono (no_write _ _ _ _ _ _ HD.out) ?_; rintro e w2 ⟨rfl, rfl⟩) | (go_at_call 15; refine Calls.mono (no_sync _ _ HD.out) ?_; rintro e w2 ⟨rfl, rfl⟩) | (go_at_call 16; refine Calls.mono (no_rot _ _ _ _ _ HD.out) ?_; rintro e w2 ⟨rfl, rfl⟩) | (go_at_call 17; refine Calls.mono (no_bad _ _ _ HD.out) ?_; rintro e w2 ⟨rfl, rfl⟩) | (go_at_call 18; refine Calls.mono (no_len _ _ HD.out) ?_; rintro e w2 ⟨rfl, rfl⟩) | (go_at_call 19; refine Calls.mono (no_waits _ _ HD.out) ?_; rintro e w2 ⟨rfl, rfl⟩))
      go_roundw
      case rel => exact ⟨2, by omega, by go_num, trivial⟩
      case measure => simp [intOf]
    · go_wp2
      go_ret
      exact ⟨rfl, HB.out⟩
end Go.Proofs.Ytphfakjodddilaa
