/- Contract of SameBytes: two slices that hold the same answer true. -/
import Derived.Test.YtapdaeafeejknaaGreatDoorCells
namespace Go.Proofs.YtapdaeafeejknaaGreatDoor
open Go.RowKit

set_option maxHeartbeats 400000 in
theorem same_u8 (A B : Option Addr) (n c d : Nat) (zs : List Int) (w : World) (h : Lies w A n (zs.map (Value.int .u8))) (k : Lies w B n (zs.map (Value.int .u8))) (hm : n ≤ 281474976710656) :
    Calls Tryz.prog 25 #[.slice A n c, .slice B n d] w fun e w' => e = .returned (.bool true) ∧ ∃ k, w' = w.drewN k := by
  have HA := hide h
  have HB := hide k
  clear h k
  go_enter Tryz.func25, Tryz.ntmps25
  go_wp2
  go_loopw [5] (fun i wr => ∃ k : Nat, k ≤ n ∧ i = .int .i64 k ∧ ∃ j, wr = w.drewN j) (fun i _ => n - (intOf i).toNat)
  case atStart => exact ⟨0, Nat.zero_le _, rfl, 0, rfl⟩
  case round =>
    obtain ⟨k, hk, rfl, j, rfl⟩ := hrel
    by_cases hlt : k < n
    · obtain ⟨b, o, rfl, _, hx⟩ := byte_at HA.out (by omega)
      obtain ⟨b', o', rfl, _, hy⟩ := byte_at HB.out (by omega)
      obtain ⟨z, hz⟩ : ∃ z, z = zs.getD k 0 := ⟨_, rfl⟩
      have h1 : w.cell? ⟨b, o + k, none⟩ = some (.int .u8 z) := by rw [hz]; exact hx k hlt
      have h2 : w.cell? ⟨b', o' + k, none⟩ = some (.int .u8 z) := by rw [hz]; exact hy k hlt
      have h0 : (0 : Int) ≤ (k : Int) := by omega
      have h3 : (k : Int) < (n : Int) := by omega
      clear hx hy hz
      go_wp2
      go_quiet (fail)
      go_wp2
      go_roundw
      case rel => exact ⟨k + 1, by omega, by go_num, _, rfl⟩
      case measure => simp [intOf]; omega
    · go_wp2
      go_ret
      exact ⟨rfl, _, rfl⟩

end Go.Proofs.YtapdaeafeejknaaGreatDoor
