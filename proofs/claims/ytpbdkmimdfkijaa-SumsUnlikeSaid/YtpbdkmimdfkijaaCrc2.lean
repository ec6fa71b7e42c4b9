/- What follows of the checksum's arithmetic: what each statement of layer 2 says of sums, as plain facts on lists of bytes. No program is named here. -/
import Derived.Test.YtpbdkmimdfkijaaCrc
import Derived.Test.YtpbdkmimdfkijaaWords
namespace Go.Proofs.Ytpbdkmimdfkijaa

theorem reg_word (r x : Nat) (hx : x < 4294967296) : reg r (four (x : Int)) = steps 32 (r ^^^ x) := by
  have e : four (x : Int) = [((x % 256 : Nat) : Int), ((x / 256 % 256 : Nat) : Int), ((x / 65536 % 256 : Nat) : Int), ((x / 16777216 % 256 : Nat) : Int)] := by
    unfold four
    simp
  rw [e, reg_four r _ _ _ _ (by omega) (by omega) (by omega)]
  congr 2
  omega
theorem reg_noughts (r : Nat) : reg r [0, 0, 0, 0] = steps 32 r := by
  have := reg_word r 0 (by omega)
  rw [Nat.xor_zero] at this
  rw [← this]
  rfl
theorem sum_noughts : sumOf [0, 0, 0, 0] = inv (steps 32 (inv 0)) := by unfold sumOf sumOn; rw [reg_noughts]
theorem four_byteL (n : Int) : ByteL (four n) := four_bytes n
theorem byteL_append {xs ys : List Int} (h : ByteL xs) (k : ByteL ys) : ByteL (xs ++ ys) := fun z hz => by
  rcases List.mem_append.1 hz with hz | hz
  · exact h z hz
  · exact k z hz
theorem sumOf_lt {zs : List Int} (hz : ByteL zs) : sumOf zs < 4294967296 := sumOn_lt (by omega) hz
theorem xor_same_left {a b : Nat} (h : a ^^^ b = a) : b = 0 := by
  have h1 := congrArg (a ^^^ ·) h
  simp only [← Nat.xor_assoc, Nat.xor_self, Nat.zero_xor] at h1
  exact h1
/-- SumsEnd. -/
theorem end_iff (zs : List Int) (b : Nat) (hz : ByteL zs) (hb : b < 4294967296) : sumOf (zs ++ four ((sumOf zs ^^^ b : Nat) : Int)) = sumOf [0, 0, 0, 0] ↔ b = 0 := by
  have hR : reg (inv 0) zs < 4294967296 := reg_lt (inv_lt (by omega)) hz
  have hS := sumOf_lt hz
  have e : sumOf (zs ++ four ((sumOf zs ^^^ b : Nat) : Int)) = inv (steps 32 (inv 0 ^^^ b)) := by
    show inv (reg (inv 0) (zs ++ four ((sumOf zs ^^^ b : Nat) : Int))) = _
    rw [reg_append, reg_word _ _ (xor_lt hS hb)]
    congr 2
    show reg (inv 0) zs ^^^ (inv (reg (inv 0) zs) ^^^ b) = _
    rw [← Nat.xor_assoc]
    congr 1
    unfold inv
    rw [← Nat.xor_assoc, Nat.xor_self, Nat.zero_xor]
  rw [e, sum_noughts, inv_inj, steps_inj 32 (xor_lt (inv_lt (by omega)) hb) (inv_lt (by omega))]
  constructor
  · exact xor_same_left
  · intro h; rw [h, Nat.xor_zero]
/-- SumsUnlike, behind. -/
theorem tail_iff (zs : List Int) (b : Nat) (hz : ByteL zs) (hb : b < 4294967296) : sumOf (zs ++ four (b : Int)) = sumOf (zs ++ [0, 0, 0, 0]) ↔ b = 0 := by
  have hR : reg (inv 0) zs < 4294967296 := reg_lt (inv_lt (by omega)) hz
  have e1 : sumOf (zs ++ four (b : Int)) = inv (steps 32 (reg (inv 0) zs ^^^ b)) := by
    show inv (reg (inv 0) (zs ++ four (b : Int))) = _
    rw [reg_append, reg_word _ _ hb]
  have e2 : sumOf (zs ++ [0, 0, 0, 0]) = inv (steps 32 (reg (inv 0) zs)) := by
    show inv (reg (inv 0) (zs ++ [0, 0, 0, 0])) = _
    rw [reg_append, reg_noughts]
  rw [e1, e2, inv_inj, steps_inj 32 (xor_lt hR hb) hR]
  constructor
  · exact xor_same_left
  · intro h; rw [h, Nat.xor_zero]
theorem reg_zero_noughts (k : Nat) : reg 0 (List.replicate k 0) = 0 := by
  induction k with
  | zero => rfl
  | succ k ih => rw [List.replicate_succ]; exact ih
theorem noughts_byteL (k : Nat) : ByteL (List.replicate k 0) := fun z hz => by rw [List.eq_of_mem_replicate hz]; omega
/-- SumsUnlike, within. -/
def turnL (k : Nat) (b : Int) (m : Nat) : List Int := List.replicate k 0 ++ (four b ++ List.replicate m 0)
theorem turn_iff (zs : List Int) (k m b : Nat) (hl : zs.length = k + 4 + m) (hb : b < 4294967296) : sumOf zs = sumOf (xorL zs (turnL k (b : Int) m)) ↔ b = 0 := by
  have h1 : reg (inv 0 ^^^ 0) (xorL zs (turnL k (b : Int) m)) = reg (inv 0) zs ^^^ reg 0 (turnL k (b : Int) m) := reg_xor _ _ _ _ (by simp [turnL, four_len]; omega)
  rw [Nat.xor_zero] at h1
  have h2 : reg 0 (turnL k (b : Int) m) = reg (steps 32 b) (List.replicate m 0) := by
    unfold turnL
    rw [reg_append, reg_append, reg_zero_noughts, reg_word _ _ hb, Nat.zero_xor]
  have h3 : reg (steps 32 b) (List.replicate m 0) = 0 ↔ b = 0 := by
    have := reg_inj (r := steps 32 b) (s := 0) (steps_lt 32 hb) (by omega) (noughts_byteL m)
    rw [reg_zero_noughts] at this
    rw [this]
    constructor
    · exact fun h => steps_zero 32 hb h
    · intro h; rw [h, steps_nought]
  rw [← h3, ← h2]
  show inv (reg (inv 0) zs) = inv (reg (inv 0) (xorL zs (turnL k (b : Int) m))) ↔ _
  rw [inv_inj, h1]
  constructor
  · intro h; exact xor_same_left h.symm
  · intro h; rw [h, Nat.xor_zero]
/-- SumsThree. -/
theorem three_eq (xs ys zs : List Int) (h1 : xs.length = ys.length) (h2 : xs.length = zs.length) : sumOf (xorL (xorL xs ys) zs) = sumOf xs ^^^ sumOf ys ^^^ sumOf zs := by
  show inv (reg (inv 0) (xorL (xorL xs ys) zs)) = inv (reg (inv 0) xs) ^^^ inv (reg (inv 0) ys) ^^^ inv (reg (inv 0) zs)
  have e : inv 0 = (inv 0 ^^^ inv 0) ^^^ inv 0 := by rw [Nat.xor_self, Nat.zero_xor]
  have h3 : reg (inv 0) (xorL (xorL xs ys) zs) = reg (inv 0) xs ^^^ reg (inv 0) ys ^^^ reg (inv 0) zs := by
    conv => lhs; rw [e]
    rw [reg_xor _ _ _ _ (by rw [xorL_len _ _ h1]; exact h2), reg_xor _ _ _ _ h1]
  rw [h3]
  generalize reg (inv 0) xs = a
  generalize reg (inv 0) ys = b
  generalize reg (inv 0) zs = c
  unfold inv
  apply Nat.eq_of_testBit_eq
  intro i
  simp only [Nat.testBit_xor]
  cases a.testBit i <;> cases b.testBit i <;> cases c.testBit i <;> cases (4294967295 : Nat).testBit i <;> rfl
/-- SumsAlike. -/
theorem alike_one (xs ds : List Int) (h : xs.length = ds.length) : sumOf (xorL xs ds) ^^^ sumOf xs = reg 0 ds := by
  show inv (reg (inv 0) (xorL xs ds)) ^^^ inv (reg (inv 0) xs) = _
  have h1 : reg (inv 0 ^^^ 0) (xorL xs ds) = reg (inv 0) xs ^^^ reg 0 ds := reg_xor _ _ _ _ h
  rw [Nat.xor_zero] at h1
  rw [h1]
  generalize reg (inv 0) xs = a
  generalize reg 0 ds = b
  unfold inv
  apply Nat.eq_of_testBit_eq
  intro i
  simp only [Nat.testBit_xor]
  cases a.testBit i <;> cases b.testBit i <;> cases (4294967295 : Nat).testBit i <;> rfl
end Go.Proofs.Ytpbdkmimdfkijaa
