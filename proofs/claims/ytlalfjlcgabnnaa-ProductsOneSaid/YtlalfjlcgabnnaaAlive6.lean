/- Contracts of the helpers of the statements on maths: of, is, alive. -/
import Derived.Test.YtlalfjlcgabnnaaMa5
import Derived.Test.YtlalfjlcgabnnaaSameG
namespace Go.Proofs.Ytlalfjlcgabnnaa
open Go.RowKit
set_option linter.unusedVariables false
set_option linter.unusedSimpArgs false
set_option maxRecDepth 100000

theorem below_al6 {W v : World} {o : Obj} (h : Below W.heap.size W v) : Below W.heap.size W (v.alloc o) := h.alloc h.size o

theorem below_nx6 {W v w' : World} (h : Below W.heap.size W v) (k : Below v.heap.size v w') : Below W.heap.size W w' := h.trans (k.mono h.size)

end Go.Proofs.Ytlalfjlcgabnnaa
