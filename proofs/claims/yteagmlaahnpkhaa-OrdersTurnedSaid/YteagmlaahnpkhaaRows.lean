/-
  No cell of these rows narrows 'for every input' (looked for: loops, veiled, ifaces, maps, wideKeys, modest, calm, conditions, laid).
  DERIVED. THE GIVEN ROWS OF THIS SEAT. 5 by the template 'for every input the law returns true; each argument reads behind the call as it read before'; 0 by the template 'total and deterministic' (their statements: YteagmlaahnpkhaaTotals.lean).
  GIVEN WITH THE SEED: the statements are not yours to turn. If you find one false, say at which input.
  Laid BY PROGRAM, IN A SANDBOX (cutbox-rows.mjs): the forced cells as the released guide's own fill.sh prints them over the translation 66d509a894e68e92… (all of the seat's roots in one cut). By AI agents, Wed Nov 11 2026. No macro, syntax, notation, axiom, sorry.
-/
import Derived.Test.YteagmlaahnpkhaaChecked
import GoSem.Claim
import GoSem.ClaimJoined
import GoSem.ClaimMapViews
import Derived.JoinedTies
import Derived.KernelRfl
namespace Go.Proofs.Yteagmlaahnpkhaa
/- THE CELL 'sum', in the pinned program and in every row, IS THE sha256 OF THE DUMP (.gsa) THAT YteagmlaahnpkhaaProg.lean LOADS. Nothing in Lean hashes anything: it is a label: what it is worth is what the hold of that sum in a sandbox is worth. -/
noncomputable def Try.pinned : Pinned := { name := "yteagmlaahnpkhaa", sum := "66d509a894e68e922648ff6094d8142f3c149ee89cd19e1b8d266fffdd1c3e82", checked := Try.checked }
namespace Rows
def none {H : Type} : Left H := { results := [], args := [] }

/-- 'drydocklaw12.OrdersNeeds': WHATEVER THE INPUT: true; the input reads as it did. -/
def ordersNeedsSpec : ChangeSpec := { name := "ordersNeeds", fn := fun _ => fun
  | [d] => { results := [.lit (.bool true)], args := [d] }
  | _ => none }
def ordersNeedsRow : OpenClaim := { program := "yteagmlaahnpkhaa", sum := "66d509a894e68e922648ff6094d8142f3c149ee89cd19e1b8d266fffdd1c3e82", func := "drydock/drydocklaw12.OrdersNeeds", spec := "ordersNeeds", unfollowed := true, recurses := true, apart := false }
def OrdersNeedsSaid : Prop := ordersNeedsRow.holds Try.pinned (OpenSpec.ofChange ordersNeedsSpec)

/-- ITS FALSE NEIGHBOUR: 'it returns false'. Refute it at one input. -/
def ordersNeedsWrong : ChangeSpec := { name := "ordersNeeds", fn := fun _ => fun
  | [d] => { results := [.lit (.bool false)], args := [d] }
  | _ => none }
def OrdersNeedsWrongFalsely : Prop := ordersNeedsRow.holds Try.pinned (OpenSpec.ofChange ordersNeedsWrong)

/-- 'drydocklaw12.OrdersNext': WHATEVER THE INPUT: true; the input reads as it did. -/
def ordersNextSpec : ChangeSpec := { name := "ordersNext", fn := fun _ => fun
  | [d1, d2, d3] => { results := [.lit (.bool true)], args := [d1, d2, d3] }
  | _ => none }
def ordersNextRow : OpenClaim := { program := "yteagmlaahnpkhaa", sum := "66d509a894e68e922648ff6094d8142f3c149ee89cd19e1b8d266fffdd1c3e82", func := "drydock/drydocklaw12.OrdersNext", spec := "ordersNext", unfollowed := true, recurses := true, apart := false }
def OrdersNextSaid : Prop := ordersNextRow.holds Try.pinned (OpenSpec.ofChange ordersNextSpec)

/-- ITS FALSE NEIGHBOUR: 'it returns false'. Refute it at one input. -/
def ordersNextWrong : ChangeSpec := { name := "ordersNext", fn := fun _ => fun
  | [d1, d2, d3] => { results := [.lit (.bool false)], args := [d1, d2, d3] }
  | _ => none }
def OrdersNextWrongFalsely : Prop := ordersNextRow.holds Try.pinned (OpenSpec.ofChange ordersNextWrong)

/-- 'drydocklaw12.OrdersUses': WHATEVER THE INPUT: true; the input reads as it did. -/
def ordersUsesSpec : ChangeSpec := { name := "ordersUses", fn := fun _ => fun
  | [d1, d2, d3] => { results := [.lit (.bool true)], args := [d1, d2, d3] }
  | _ => none }
def ordersUsesRow : OpenClaim := { program := "yteagmlaahnpkhaa", sum := "66d509a894e68e922648ff6094d8142f3c149ee89cd19e1b8d266fffdd1c3e82", func := "drydock/drydocklaw12.OrdersUses", spec := "ordersUses", unfollowed := true, recurses := true, apart := false }
def OrdersUsesSaid : Prop := ordersUsesRow.holds Try.pinned (OpenSpec.ofChange ordersUsesSpec)

/-- ITS FALSE NEIGHBOUR: 'it returns false'. Refute it at one input. -/
def ordersUsesWrong : ChangeSpec := { name := "ordersUses", fn := fun _ => fun
  | [d1, d2, d3] => { results := [.lit (.bool false)], args := [d1, d2, d3] }
  | _ => none }
def OrdersUsesWrongFalsely : Prop := ordersUsesRow.holds Try.pinned (OpenSpec.ofChange ordersUsesWrong)

/-- 'drydocklaw12.OrdersWhole': WHATEVER THE INPUT: true; the input reads as it did. -/
def ordersWholeSpec : ChangeSpec := { name := "ordersWhole", fn := fun _ => fun
  | [d1, d2] => { results := [.lit (.bool true)], args := [d1, d2] }
  | _ => none }
def ordersWholeRow : OpenClaim := { program := "yteagmlaahnpkhaa", sum := "66d509a894e68e922648ff6094d8142f3c149ee89cd19e1b8d266fffdd1c3e82", func := "drydock/drydocklaw12.OrdersWhole", spec := "ordersWhole", unfollowed := true, recurses := true, apart := false }
def OrdersWholeSaid : Prop := ordersWholeRow.holds Try.pinned (OpenSpec.ofChange ordersWholeSpec)

/-- ITS FALSE NEIGHBOUR: 'it returns false'. Refute it at one input. -/
def ordersWholeWrong : ChangeSpec := { name := "ordersWhole", fn := fun _ => fun
  | [d1, d2] => { results := [.lit (.bool false)], args := [d1, d2] }
  | _ => none }
def OrdersWholeWrongFalsely : Prop := ordersWholeRow.holds Try.pinned (OpenSpec.ofChange ordersWholeWrong)

/-- 'drydocklaw12.OrdersTurned': WHATEVER THE INPUT: true; the input reads as it did. -/
def ordersTurnedSpec : ChangeSpec := { name := "ordersTurned", fn := fun _ => fun
  | [d1, d2] => { results := [.lit (.bool true)], args := [d1, d2] }
  | _ => none }
def ordersTurnedRow : OpenClaim := { program := "yteagmlaahnpkhaa", sum := "66d509a894e68e922648ff6094d8142f3c149ee89cd19e1b8d266fffdd1c3e82", func := "drydock/drydocklaw12.OrdersTurned", spec := "ordersTurned", unfollowed := true, recurses := true, apart := false }
def OrdersTurnedSaid : Prop := ordersTurnedRow.holds Try.pinned (OpenSpec.ofChange ordersTurnedSpec)

/-- ITS FALSE NEIGHBOUR: 'it returns false'. Refute it at one input. -/
def ordersTurnedWrong : ChangeSpec := { name := "ordersTurned", fn := fun _ => fun
  | [d1, d2] => { results := [.lit (.bool false)], args := [d1, d2] }
  | _ => none }
def OrdersTurnedWrongFalsely : Prop := ordersTurnedRow.holds Try.pinned (OpenSpec.ofChange ordersTurnedWrong)

/- THE SECOND FORM. 'bulk': how many values and letters a reading holds, each counted each time it is reached (what is shared counts as often as it is met; a slice's spare places count too). A statement '..UptoSaid' is the law's where the arguments, and the package variables that the reading takes, are together of bulk at most 1048576: NARROWER than '..Said'. Prove '..Said' where nothing that the law and all that it calls make is longer than what came in: it says more and counts as full. Else prove '..UptoSaid'. A law counts once. -/
mutual
def uptoBulk {H : Type} : DataW H → Nat
  | .lit (.string bytes) => bytes.length + 1
  | .lit _ => 1
  | .nil => 1
  | .ptr d => uptoBulk d + 1
  | .slice elems spare => uptoBulkAll elems + uptoBulkAll spare + 1
  | .agg parts => uptoBulkAll parts + 1
  | .iface _ d => uptoBulk d + 1
  | .map entries => uptoBulkEntries entries + 1
  | .held _ => 1
def uptoBulkAll {H : Type} : List (DataW H) → Nat
  | [] => 0
  | d :: r => uptoBulk d + uptoBulkAll r
def uptoBulkEntries {H : Type} : List (Lit × DataW H) → Nat
  | [] => 0
  | x :: r => uptoBulkEntry x + uptoBulkEntries r
def uptoBulkEntry {H : Type} : Lit × DataW H → Nat
  | (.string bytes, d) => bytes.length + uptoBulk d + 1
  | (_, d) => uptoBulk d + 1
 end
def uptoSmall : (H : Type) → List (DataW H) → Bool := fun _ ds => decide (uptoBulkAll ds ≤ 1048576)
def OpenSpec.upto (s : _root_.Go.ChangeSpec) : _root_.Go.OpenSpec := { _root_.Go.OpenSpec.ofChange s with cond := some uptoSmall }

/-- 'drydocklaw12.OrdersNeeds', WHERE WHAT IT READS IS OF BULK AT MOST 1048576: true; the input reads as it did. -/
def ordersNeedsUptoRow : OpenClaim := { program := "yteagmlaahnpkhaa", sum := "66d509a894e68e922648ff6094d8142f3c149ee89cd19e1b8d266fffdd1c3e82", func := "drydock/drydocklaw12.OrdersNeeds", spec := "ordersNeeds", unfollowed := true, recurses := true, apart := false, narrowed := true }
def OrdersNeedsUptoSaid : Prop := ordersNeedsUptoRow.holds Try.pinned (OpenSpec.upto ordersNeedsSpec)

/-- 'drydocklaw12.OrdersNext', WHERE WHAT IT READS IS OF BULK AT MOST 1048576: true; the input reads as it did. -/
def ordersNextUptoRow : OpenClaim := { program := "yteagmlaahnpkhaa", sum := "66d509a894e68e922648ff6094d8142f3c149ee89cd19e1b8d266fffdd1c3e82", func := "drydock/drydocklaw12.OrdersNext", spec := "ordersNext", unfollowed := true, recurses := true, apart := false, narrowed := true }
def OrdersNextUptoSaid : Prop := ordersNextUptoRow.holds Try.pinned (OpenSpec.upto ordersNextSpec)

/-- 'drydocklaw12.OrdersUses', WHERE WHAT IT READS IS OF BULK AT MOST 1048576: true; the input reads as it did. -/
def ordersUsesUptoRow : OpenClaim := { program := "yteagmlaahnpkhaa", sum := "66d509a894e68e922648ff6094d8142f3c149ee89cd19e1b8d266fffdd1c3e82", func := "drydock/drydocklaw12.OrdersUses", spec := "ordersUses", unfollowed := true, recurses := true, apart := false, narrowed := true }
def OrdersUsesUptoSaid : Prop := ordersUsesUptoRow.holds Try.pinned (OpenSpec.upto ordersUsesSpec)

/-- 'drydocklaw12.OrdersWhole', WHERE WHAT IT READS IS OF BULK AT MOST 1048576: true; the input reads as it did. -/
def ordersWholeUptoRow : OpenClaim := { program := "yteagmlaahnpkhaa", sum := "66d509a894e68e922648ff6094d8142f3c149ee89cd19e1b8d266fffdd1c3e82", func := "drydock/drydocklaw12.OrdersWhole", spec := "ordersWhole", unfollowed := true, recurses := true, apart := false, narrowed := true }
def OrdersWholeUptoSaid : Prop := ordersWholeUptoRow.holds Try.pinned (OpenSpec.upto ordersWholeSpec)

/-- 'drydocklaw12.OrdersTurned', WHERE WHAT IT READS IS OF BULK AT MOST 1048576: true; the input reads as it did. -/
def ordersTurnedUptoRow : OpenClaim := { program := "yteagmlaahnpkhaa", sum := "66d509a894e68e922648ff6094d8142f3c149ee89cd19e1b8d266fffdd1c3e82", func := "drydock/drydocklaw12.OrdersTurned", spec := "ordersTurned", unfollowed := true, recurses := true, apart := false, narrowed := true }
def OrdersTurnedUptoSaid : Prop := ordersTurnedUptoRow.holds Try.pinned (OpenSpec.upto ordersTurnedSpec)

end Rows
end Go.Proofs.Yteagmlaahnpkhaa
