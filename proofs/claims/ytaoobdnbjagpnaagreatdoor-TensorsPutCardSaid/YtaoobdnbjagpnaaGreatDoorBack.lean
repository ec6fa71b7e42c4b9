/- Plain facts: what was put as bytes is got again, whatever stands behind it. -/
import Derived.Test.YtaoobdnbjagpnaaGreatDoorGet
namespace Go.Proofs.YtaoobdnbjagpnaaGreatDoor
open Go.RowKit

/-- Numbers of 32 bits with a sign. -/
def Words (l : List Int) : Prop := ∀ x ∈ l, -2147483648 ≤ x ∧ x < 2147483648

theorem enc_cons (z : Int) (zs : List Int) : enc (z :: zs) = four z ++ enc zs := rfl
theorem enc_bytes (zs : List Int) : Bytes (enc zs) := by
  intro x hx
  obtain ⟨z, _, h⟩ := List.mem_flatMap.1 hx
  exact four_bytes z x h
theorem bytes_append {a b : List Int} (ha : Bytes a) (hb : Bytes b) : Bytes (a ++ b) := by
  intro x hx
  rcases List.mem_append.1 hx with h | h
  · exact ha x h
  · exact hb x h
theorem head4_four (m : Int) (rest : List Int) (h0 : 0 ≤ m) (h1 : m < 4294967296) : head4 (four m ++ rest) = m := by
  show word (m % 256) (m / 256 % 256) (m / 65536 % 256) (m / 16777216 % 256) = m
  exact word_four m h0 h1
theorem four_get (z : Int) (l : List Int) (k : Nat) : (four z ++ l).getD (k + 4) 0 = l.getD k 0 := rfl
theorem wd_enc (rest : List Int) : ∀ (zs : List Int) (j : Nat), Words zs → j < zs.length → wd (enc zs ++ rest) j = zs.getD j 0
  | [], j, _, h => by simp at h
  | z :: zs, 0, hw, _ => by
    have := hw z (by simp)
    show signed (word (z % 256) (z / 256 % 256) (z / 65536 % 256) (z / 16777216 % 256)) = z
    exact signed_four z this.1 this.2
  | z :: zs, j + 1, hw, h => by
    have ih := wd_enc rest zs j (fun x hx => hw x (by simp [hx])) (by simpa using h)
    have e : wd (enc (z :: zs) ++ rest) (j + 1) = wd (enc zs ++ rest) j := by
      unfold wd
      rw [enc_cons, List.append_assoc, show 4 * (j + 1) = 4 * j + 4 from by omega, show 4 * j + 4 + 1 = 4 * j + 1 + 4 from by omega, show 4 * j + 4 + 2 = 4 * j + 2 + 4 from by omega, show 4 * j + 4 + 3 = 4 * j + 3 + 4 from by omega,
        four_get, four_get, four_get, four_get]
    rw [e, ih]
    simp
theorem dec_enc (zs rest : List Int) (hw : Words zs) : dec (enc zs ++ rest) zs.length = zs := by
  apply List.ext_getElem
  · simp [dec]
  · intro j h1 h2
    simp only [dec, List.getElem_map, List.getElem_range]
    rw [wd_enc rest zs j hw h2]
    simp [List.getD, h2]
theorem drop_four (z : Int) (l : List Int) : (four z ++ l).drop 4 = l := rfl
theorem encV_bytes (zs : List Int) : encV zs = (enc zs).map (Value.int .u8) := rfl
end Go.Proofs.YtaoobdnbjagpnaaGreatDoor
