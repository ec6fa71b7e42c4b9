/- Contracts of the copies that statements make (Twin..: with a mark behind the last) and of the look whether such a copy is as it was (Left..). -/
import Derived.Test.YtlalfjlcgabnnaaCells
import Derived.OwnWalk
namespace Go.Proofs.Ytlalfjlcgabnnaa
open Go.RowKit

def preV (κ : IntKind) (zs : List Int) (k : Nat) : List Value := (zs.take k).map (Value.int κ)

theorem preV_snoc (κ : IntKind) (zs : List Int) (k : Nat) (h : k < zs.length) : preV κ zs (k + 1) = preV κ zs k ++ [.int κ (zs.getD k 0)] := by
  have e : zs.getD k 0 = zs[k] := by simp [List.getD, h]
  rw [preV, List.take_succ_eq_append_getElem h, List.map_append, ← e]
  rfl

theorem preV_all (κ : IntKind) (zs : List Int) {k : Nat} (h : zs.length = k) : preV κ zs k = zs.map (Value.int κ) := by rw [preV, List.take_of_length_le (by omega)]

theorem own_part {w : World} {base : Nat} {e : TypeId} {g n m c : Nat} {xs ys : List Value} (h : w.ownsRow base e 1 (.slice (some ⟨g, 0, none⟩) m c) m (xs ++ ys)) (hx : xs.length = n) (hm : n ≤ m) : w.ownsRow base e 1 (.slice (some ⟨g, 0, none⟩) n c) n xs := by
  rcases h.2 with ⟨e0, _⟩ | ⟨g', cap, cur, e0, hb, hh, hmc, hcm, hcs, hta⟩
  · injection e0 with e0; cases e0
  · injection e0 with e0 _ e2
    injection e0 with e0
    injection e0 with e0
    subst e0
    subst e2
    refine ⟨by omega, .inr ⟨g, c, cur, rfl, hb, hh, by omega, hcm, hcs, ?_⟩⟩
    have h1 := congrArg (List.take n) hta
    rw [List.take_take, List.take_left' hx, Nat.mul_one, Nat.min_eq_left hm] at h1
    rw [Nat.mul_one]
    exact h1

theorem Try.infoT_Ints : (Try.prog.info? 3).map (fun i => (i.zero, i.size, i.bytes)) = some (some (.int .i64 0), 1, 8) := by kernel_rfl

theorem Try.infoT_Numbers : (Try.prog.info? 21).map (fun i => (i.zero, i.size, i.bytes)) = some (some (.int .i32 0), 1, 4) := by kernel_rfl

theorem Try.infoT_Bytes : (Try.prog.info? 5).map (fun i => (i.zero, i.size, i.bytes)) = some (some (.int .u8 0), 1, 1) := by kernel_rfl

end Go.Proofs.Ytlalfjlcgabnnaa
