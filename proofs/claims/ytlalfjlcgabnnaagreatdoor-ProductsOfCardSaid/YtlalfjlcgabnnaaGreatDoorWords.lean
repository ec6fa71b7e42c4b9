/- Plain facts on the four bytes of a number, lowest first, and back. No program is named here. -/
import Derived.WalkKit
import Derived.Lib.EndianBits
namespace Go.Proofs.YtlalfjlcgabnnaaGreatDoor

/-- The four bytes of a number of 32 bits, signed or not. -/
def four (n : Int) : List Int := [n % 256, n / 256 % 256, n / 65536 % 256, n / 16777216 % 256]

/-- The number without a sign that four bytes are. -/
def word (a b c d : Int) : Int := a + 256 * b + 65536 * c + 16777216 * d

def Bytes (l : List Int) : Prop := ∀ x ∈ l, 0 ≤ x ∧ x < 256

theorem four_len (n : Int) : (four n).length = 4 := rfl

theorem four_bytes (n : Int) : Bytes (four n) := by
  intro x hx
  simp only [four, List.mem_cons, List.not_mem_nil, or_false] at hx
  omega

theorem word_four (n : Int) (h0 : 0 ≤ n) (h1 : n < 4294967296) : word (n % 256) (n / 256 % 256) (n / 65536 % 256) (n / 16777216 % 256) = n := by unfold word; omega

theorem word_bounds {a b c d : Int} (ha : 0 ≤ a ∧ a < 256) (hb : 0 ≤ b ∧ b < 256) (hc : 0 ≤ c ∧ c < 256) (hd : 0 ≤ d ∧ d < 256) : 0 ≤ word a b c d ∧ word a b c d < 4294967296 := by unfold word; omega

theorem or_u32 {a b c d : Int} (ha : 0 ≤ a ∧ a < 256) (hb : 0 ≤ b ∧ b < 256) (hc : 0 ≤ c ∧ c < 256) (hd : 0 ≤ d ∧ d < 256) :
    bits .or .u32 (bits .or .u32 (bits .or .u32 a (b * 256)) (c * 65536)) (d * 16777216) = word a b c d := by
  rw [u32_or8 a (b * 256) (by omega) (by omega) (by omega) (by omega) (by omega),
    u32_or16 _ (c * 65536) (by omega) (by omega) (by omega) (by omega) (by omega),
    u32_or24 _ (d * 16777216) (by omega) (by omega) (by omega) (by omega) (by omega)]
  unfold word; omega

/-- The number with a sign that the same 32 bits are. -/
def signed (n : Int) : Int := IntKind.i32.wrap n

theorem signed_eq (n : Int) : signed n = (n + 2147483648) % 4294967296 - 2147483648 := by unfold signed; rw [IntKind.wrap_i32]

theorem signed_four (n : Int) (h0 : -2147483648 ≤ n) (h1 : n < 2147483648) : signed (word (n % 256) (n / 256 % 256) (n / 65536 % 256) (n / 16777216 % 256)) = n := by rw [signed_eq]; unfold word; omega

theorem wraps_i32 (n : Int) (h₀ : 0 ≤ n) (h₁ : n < 2 ^ 31) : IntKind.i32.wrap n = n := by rw [IntKind.wrap_i32]; omega

theorem ofInt_wrap_i32 (n : Int) : BitVec.ofInt 32 (IntKind.i32.wrap n) = BitVec.ofInt 32 n := by
  apply BitVec.eq_of_toNat_eq
  rw [BitVec.toNat_ofInt, BitVec.toNat_ofInt, IntKind.wrap_i32]
  congr 1
  omega

theorem or_i32 {a b c d : Int} (ha : 0 ≤ a ∧ a < 256) (hb : 0 ≤ b ∧ b < 256) (hc : 0 ≤ c ∧ c < 256) (hd : 0 ≤ d ∧ d < 256) :
    bits .or .i32 (bits .or .i32 (bits .or .i32 a (b * 256)) (c * 65536)) (RowKit.wrap32 (d * 16777216)) = signed (word a b c d) := by
  rw [← IntWalk.i32_left]
  rw [bits_join_low .i32 31 (by decide) wraps_i32 8 a (b * 256) (by omega) (by omega) (by omega) (by omega) (by omega) (by omega),
    bits_join_low .i32 31 (by decide) wraps_i32 16 _ (c * 65536) (by omega) (by omega) (by omega) (by omega) (by omega) (by omega)]
  have hu := u32_or24 (a + b * 256 + c * 65536) (d * 16777216) (by omega) (by omega) (by omega) (by omega) (by omega)
  have hb : bits .or .i32 (a + b * 256 + c * 65536) (IntKind.i32.wrap (d * 16777216)) = IntKind.i32.wrap ((BitVec.ofInt 32 (a + b * 256 + c * 65536) ||| BitVec.ofInt 32 (d * 16777216)).toNat : Int) := by
    show IntKind.i32.wrap ((BitVec.ofInt 32 (a + b * 256 + c * 65536) ||| BitVec.ofInt 32 (IntKind.i32.wrap (d * 16777216))).toNat : Int) = _
    rw [ofInt_wrap_i32]
  have hv : bits .or .u32 (a + b * 256 + c * 65536) (d * 16777216) = IntKind.u32.wrap ((BitVec.ofInt 32 (a + b * 256 + c * 65536) ||| BitVec.ofInt 32 (d * 16777216)).toNat : Int) := rfl
  have hlt := (BitVec.ofInt 32 (a + b * 256 + c * 65536) ||| BitVec.ofInt 32 (d * 16777216)).isLt
  rw [hv, IntKind.wrap_u32] at hu
  rw [hb, signed]
  congr 1
  unfold word
  omega

end Go.Proofs.YtlalfjlcgabnnaaGreatDoor
