/- Contracts of putShape and Grow. -/
import Derived.Test.YtlalfjlcgabnnaaGreatDoorTen2
import Derived.Test.YtlalfjlcgabnnaaGreatDoorPut
import Derived.Test.YtlalfjlcgabnnaaGreatDoorZeros
import Derived.Test.YtlalfjlcgabnnaaGreatDoorTwin5
namespace Go.Proofs.YtlalfjlcgabnnaaGreatDoor
open Go.RowKit
set_option linter.unusedVariables false
set_option linter.unusedSimpArgs false
set_option maxRecDepth 20000

theorem mod_small {d : Int} (h : 1 ≤ d ∧ d ≤ 64 ∧ dz d = d) : IntKind.u8.wrap d = d := by
  rw [IntKind.wrap_u8]; omega

/-- A row of the call's own, seen as far as it reaches. -/
theorem own_full {w : World} {base : Nat} {e : TypeId} {g n c : Nat} {xs : List Value} (h : w.ownsRow base e 1 (.slice (some ⟨g, 0, none⟩) n c) n xs) :
    ∃ ys, w.ownsRow base e 1 (.slice (some ⟨g, 0, none⟩) c c) c ys ∧ ys.take n = xs ∧ n ≤ c := by
  rcases h.2 with ⟨h0, _⟩ | ⟨g', cap, cur, h0, hb, hg, hm, hl, hz, ht⟩
  · cases h0
  · cases h0
    exact ⟨cur.toList, own_of_block hb (by simpa using hg) (by simp [hz]) (Nat.le_refl _) hl (by rw [List.take_of_length_le (by simp [hz])]), by simpa using ht, hm⟩

end Go.Proofs.YtlalfjlcgabnnaaGreatDoor
