/-
  No cell of these rows narrows 'for every input' (looked for: loops, veiled, ifaces, maps, wideKeys, modest, calm, conditions, laid).
  DERIVED. THE GIVEN ROWS OF THIS SEAT. 5 by the template 'for every input the law returns true; each argument reads behind the call as it read before'; 0 by the template 'total and deterministic' (their statements: YtdlhhkegkfhmoaaTotals.lean).
  GIVEN WITH THE SEED: the statements are not yours to turn. If you find one false, say at which input.
  Laid BY PROGRAM, IN A SANDBOX (cutbox-rows.mjs): the forced cells as the released guide's own fill.sh prints them over the translation 4214cb83d1bdba71… (all of the seat's roots in one cut). By AI agents, Wed Nov 11 2026. No macro, syntax, notation, axiom, sorry.
-/
import Derived.Test.YtdlhhkegkfhmoaaChecked
import GoSem.Claim
import GoSem.ClaimJoined
import GoSem.ClaimMapViews
import Derived.JoinedTies
import Derived.KernelRfl
namespace Go.Proofs.Ytdlhhkegkfhmoaa
/- THE CELL 'sum', in the pinned program and in every row, IS THE sha256 OF THE DUMP (.gsa) THAT YtdlhhkegkfhmoaaProg.lean LOADS. Nothing in Lean hashes anything: it is a label: what it is worth is what the hold of that sum in a sandbox is worth. -/
noncomputable def Try.pinned : Pinned := { name := "ytdlhhkegkfhmoaa", sum := "4214cb83d1bdba71b68efaed58a8ba2cdd2f850049e1e2dceb644f214c2822e7", checked := Try.checked }
namespace Rows
def none {H : Type} : Left H := { results := [], args := [] }

/-- 'drydocklaw10.GraphsAhead': WHATEVER THE INPUT: true; the input reads as it did. -/
def graphsAheadSpec : ChangeSpec := { name := "graphsAhead", fn := fun _ => fun
  | [d1, d2] => { results := [.lit (.bool true)], args := [d1, d2] }
  | _ => none }
def graphsAheadRow : OpenClaim := { program := "ytdlhhkegkfhmoaa", sum := "4214cb83d1bdba71b68efaed58a8ba2cdd2f850049e1e2dceb644f214c2822e7", func := "drydock/drydocklaw10.GraphsAhead", spec := "graphsAhead", unfollowed := true, recurses := true, apart := false }
def GraphsAheadSaid : Prop := graphsAheadRow.holds Try.pinned (OpenSpec.ofChange graphsAheadSpec)

/-- ITS FALSE NEIGHBOUR: 'it returns false'. Refute it at one input. -/
def graphsAheadWrong : ChangeSpec := { name := "graphsAhead", fn := fun _ => fun
  | [d1, d2] => { results := [.lit (.bool false)], args := [d1, d2] }
  | _ => none }
def GraphsAheadWrongFalsely : Prop := graphsAheadRow.holds Try.pinned (OpenSpec.ofChange graphsAheadWrong)

/-- 'drydocklaw10.GraphsMore': WHATEVER THE INPUT: true; the input reads as it did. -/
def graphsMoreSpec : ChangeSpec := { name := "graphsMore", fn := fun _ => fun
  | [d1, d2, d3] => { results := [.lit (.bool true)], args := [d1, d2, d3] }
  | _ => none }
def graphsMoreRow : OpenClaim := { program := "ytdlhhkegkfhmoaa", sum := "4214cb83d1bdba71b68efaed58a8ba2cdd2f850049e1e2dceb644f214c2822e7", func := "drydock/drydocklaw10.GraphsMore", spec := "graphsMore", unfollowed := true, recurses := true, apart := false }
def GraphsMoreSaid : Prop := graphsMoreRow.holds Try.pinned (OpenSpec.ofChange graphsMoreSpec)

/-- ITS FALSE NEIGHBOUR: 'it returns false'. Refute it at one input. -/
def graphsMoreWrong : ChangeSpec := { name := "graphsMore", fn := fun _ => fun
  | [d1, d2, d3] => { results := [.lit (.bool false)], args := [d1, d2, d3] }
  | _ => none }
def GraphsMoreWrongFalsely : Prop := graphsMoreRow.holds Try.pinned (OpenSpec.ofChange graphsMoreWrong)

/-- 'drydocklaw10.GraphsKinds': WHATEVER THE INPUT: true; the input reads as it did. -/
def graphsKindsSpec : ChangeSpec := { name := "graphsKinds", fn := fun _ => fun
  | [d] => { results := [.lit (.bool true)], args := [d] }
  | _ => none }
def graphsKindsRow : OpenClaim := { program := "ytdlhhkegkfhmoaa", sum := "4214cb83d1bdba71b68efaed58a8ba2cdd2f850049e1e2dceb644f214c2822e7", func := "drydock/drydocklaw10.GraphsKinds", spec := "graphsKinds", unfollowed := true, recurses := true, apart := false }
def GraphsKindsSaid : Prop := graphsKindsRow.holds Try.pinned (OpenSpec.ofChange graphsKindsSpec)

/-- ITS FALSE NEIGHBOUR: 'it returns false'. Refute it at one input. -/
def graphsKindsWrong : ChangeSpec := { name := "graphsKinds", fn := fun _ => fun
  | [d] => { results := [.lit (.bool false)], args := [d] }
  | _ => none }
def GraphsKindsWrongFalsely : Prop := graphsKindsRow.holds Try.pinned (OpenSpec.ofChange graphsKindsWrong)

/-- 'drydocklaw10.GraphsJoined': WHATEVER THE INPUT: true; the input reads as it did. -/
def graphsJoinedSpec : ChangeSpec := { name := "graphsJoined", fn := fun _ => fun
  | [d1, d2, d3] => { results := [.lit (.bool true)], args := [d1, d2, d3] }
  | _ => none }
def graphsJoinedRow : OpenClaim := { program := "ytdlhhkegkfhmoaa", sum := "4214cb83d1bdba71b68efaed58a8ba2cdd2f850049e1e2dceb644f214c2822e7", func := "drydock/drydocklaw10.GraphsJoined", spec := "graphsJoined", unfollowed := true, recurses := true, apart := false }
def GraphsJoinedSaid : Prop := graphsJoinedRow.holds Try.pinned (OpenSpec.ofChange graphsJoinedSpec)

/-- ITS FALSE NEIGHBOUR: 'it returns false'. Refute it at one input. -/
def graphsJoinedWrong : ChangeSpec := { name := "graphsJoined", fn := fun _ => fun
  | [d1, d2, d3] => { results := [.lit (.bool false)], args := [d1, d2, d3] }
  | _ => none }
def GraphsJoinedWrongFalsely : Prop := graphsJoinedRow.holds Try.pinned (OpenSpec.ofChange graphsJoinedWrong)

/-- 'drydocklaw10.GraphsInsert': WHATEVER THE INPUT: true; the input reads as it did. -/
def graphsInsertSpec : ChangeSpec := { name := "graphsInsert", fn := fun _ => fun
  | [d1, d2, d3] => { results := [.lit (.bool true)], args := [d1, d2, d3] }
  | _ => none }
def graphsInsertRow : OpenClaim := { program := "ytdlhhkegkfhmoaa", sum := "4214cb83d1bdba71b68efaed58a8ba2cdd2f850049e1e2dceb644f214c2822e7", func := "drydock/drydocklaw10.GraphsInsert", spec := "graphsInsert", unfollowed := true, recurses := true, apart := false }
def GraphsInsertSaid : Prop := graphsInsertRow.holds Try.pinned (OpenSpec.ofChange graphsInsertSpec)

/-- ITS FALSE NEIGHBOUR: 'it returns false'. Refute it at one input. -/
def graphsInsertWrong : ChangeSpec := { name := "graphsInsert", fn := fun _ => fun
  | [d1, d2, d3] => { results := [.lit (.bool false)], args := [d1, d2, d3] }
  | _ => none }
def GraphsInsertWrongFalsely : Prop := graphsInsertRow.holds Try.pinned (OpenSpec.ofChange graphsInsertWrong)

/- THE SECOND FORM. 'bulk': how many values and letters a reading holds, each counted each time it is reached (what is shared counts as often as it is met; a slice's spare places count too). A statement '..UptoSaid' is the law's where the arguments, and the package variables that the reading takes, are together of bulk at most 1048576: NARROWER than '..Said'. Prove '..Said' where nothing that the law and all that it calls make is longer than what came in: it says more and counts as full. Else prove '..UptoSaid'. A law counts once. -/
mutual
def uptoBulk {H : Type} : DataW H → Nat
  | .lit (.string bytes) => bytes.length + 1
  | .lit _ => 1
  | .nil => 1
  | .ptr d => uptoBulk d + 1
  | .slice elems spare => uptoBulkAll elems + uptoBulkAll spare + 1
  | .agg parts => uptoBulkAll parts + 1
  | .iface _ d => uptoBulk d + 1
  | .map entries => uptoBulkEntries entries + 1
  | .held _ => 1
def uptoBulkAll {H : Type} : List (DataW H) → Nat
  | [] => 0
  | d :: r => uptoBulk d + uptoBulkAll r
def uptoBulkEntries {H : Type} : List (Lit × DataW H) → Nat
  | [] => 0
  | x :: r => uptoBulkEntry x + uptoBulkEntries r
def uptoBulkEntry {H : Type} : Lit × DataW H → Nat
  | (.string bytes, d) => bytes.length + uptoBulk d + 1
  | (_, d) => uptoBulk d + 1
 end
def uptoSmall : (H : Type) → List (DataW H) → Bool := fun _ ds => decide (uptoBulkAll ds ≤ 1048576)
def OpenSpec.upto (s : _root_.Go.ChangeSpec) : _root_.Go.OpenSpec := { _root_.Go.OpenSpec.ofChange s with cond := some uptoSmall }

/-- 'drydocklaw10.GraphsAhead', WHERE WHAT IT READS IS OF BULK AT MOST 1048576: true; the input reads as it did. -/
def graphsAheadUptoRow : OpenClaim := { program := "ytdlhhkegkfhmoaa", sum := "4214cb83d1bdba71b68efaed58a8ba2cdd2f850049e1e2dceb644f214c2822e7", func := "drydock/drydocklaw10.GraphsAhead", spec := "graphsAhead", unfollowed := true, recurses := true, apart := false, narrowed := true }
def GraphsAheadUptoSaid : Prop := graphsAheadUptoRow.holds Try.pinned (OpenSpec.upto graphsAheadSpec)

/-- 'drydocklaw10.GraphsMore', WHERE WHAT IT READS IS OF BULK AT MOST 1048576: true; the input reads as it did. -/
def graphsMoreUptoRow : OpenClaim := { program := "ytdlhhkegkfhmoaa", sum := "4214cb83d1bdba71b68efaed58a8ba2cdd2f850049e1e2dceb644f214c2822e7", func := "drydock/drydocklaw10.GraphsMore", spec := "graphsMore", unfollowed := true, recurses := true, apart := false, narrowed := true }
def GraphsMoreUptoSaid : Prop := graphsMoreUptoRow.holds Try.pinned (OpenSpec.upto graphsMoreSpec)

/-- 'drydocklaw10.GraphsKinds', WHERE WHAT IT READS IS OF BULK AT MOST 1048576: true; the input reads as it did. -/
def graphsKindsUptoRow : OpenClaim := { program := "ytdlhhkegkfhmoaa", sum := "4214cb83d1bdba71b68efaed58a8ba2cdd2f850049e1e2dceb644f214c2822e7", func := "drydock/drydocklaw10.GraphsKinds", spec := "graphsKinds", unfollowed := true, recurses := true, apart := false, narrowed := true }
def GraphsKindsUptoSaid : Prop := graphsKindsUptoRow.holds Try.pinned (OpenSpec.upto graphsKindsSpec)

/-- 'drydocklaw10.GraphsJoined', WHERE WHAT IT READS IS OF BULK AT MOST 1048576: true; the input reads as it did. -/
def graphsJoinedUptoRow : OpenClaim := { program := "ytdlhhkegkfhmoaa", sum := "4214cb83d1bdba71b68efaed58a8ba2cdd2f850049e1e2dceb644f214c2822e7", func := "drydock/drydocklaw10.GraphsJoined", spec := "graphsJoined", unfollowed := true, recurses := true, apart := false, narrowed := true }
def GraphsJoinedUptoSaid : Prop := graphsJoinedUptoRow.holds Try.pinned (OpenSpec.upto graphsJoinedSpec)

/-- 'drydocklaw10.GraphsInsert', WHERE WHAT IT READS IS OF BULK AT MOST 1048576: true; the input reads as it did. -/
def graphsInsertUptoRow : OpenClaim := { program := "ytdlhhkegkfhmoaa", sum := "4214cb83d1bdba71b68efaed58a8ba2cdd2f850049e1e2dceb644f214c2822e7", func := "drydock/drydocklaw10.GraphsInsert", spec := "graphsInsert", unfollowed := true, recurses := true, apart := false, narrowed := true }
def GraphsInsertUptoSaid : Prop := graphsInsertUptoRow.holds Try.pinned (OpenSpec.upto graphsInsertSpec)

end Rows
end Go.Proofs.Ytdlhhkegkfhmoaa
