/- Contracts of readWord (at uint32 and at int32): four bytes of a slice, read as one number. -/
import Derived.Test.YtaoobdnbjagpnaaGreatDoorRows
import Derived.Test.YtaoobdnbjagpnaaGreatDoorMem
import Derived.Test.YtaoobdnbjagpnaaGreatDoorWords
import Derived.Deep.QuietTactic
import Derived.BigQuiet
namespace Go.Proofs.YtaoobdnbjagpnaaGreatDoor
open Go.RowKit

set_option linter.unusedVariables false in
theorem read_u32 (b o n c : Nat) (x0 x1 x2 x3 : Int) (w : World) (hn : 4 ≤ n)
    (h0 : w.cell? ⟨b, o, none⟩ = some (.int .u8 x0)) (h1 : w.cell? ⟨b, o + 1, none⟩ = some (.int .u8 x1)) (h2 : w.cell? ⟨b, o + 2, none⟩ = some (.int .u8 x2)) (h3 : w.cell? ⟨b, o + 3, none⟩ = some (.int .u8 x3))
    (b0 : 0 ≤ x0 ∧ x0 < 256) (b1 : 0 ≤ x1 ∧ x1 < 256) (b2 : 0 ≤ x2 ∧ x2 < 256) (b3 : 0 ≤ x3 ∧ x3 < 256) :
    Calls Tryz.prog 139 #[.slice (some ⟨b, o, none⟩) n c] w fun e w' => e = .returned (.int .u32 (word x0 x1 x2 x3)) ∧ ∃ k, w' = w.drewN k := by
  have hor := or_u32 b0 b1 b2 b3
  have HOR : Hid _ := hor
  clear hor
  obtain ⟨p0, q0⟩ := b0
  obtain ⟨p1, q1⟩ := b1
  obtain ⟨p2, q2⟩ := b2
  obtain ⟨p3, q3⟩ := b3
  go_enter Tryz.func139, Tryz.ntmps139
  go_wp2
  go_quiet (fail)
  go_wp2
  go_ret
  exact ⟨congrArg (fun n => Ending.returned (.int .u32 n)) HOR.out, _, rfl⟩

end Go.Proofs.YtaoobdnbjagpnaaGreatDoor
