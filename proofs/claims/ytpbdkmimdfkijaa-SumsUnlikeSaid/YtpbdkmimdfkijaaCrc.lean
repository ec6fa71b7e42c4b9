/- The checksum as plain arithmetic: the register shifted out bit by bit, and what follows: it goes with exclusive or, and no register but zero comes to zero. No program is named here. -/
import Derived.WalkKit
import Derived.Laws.BitsAllLaws
namespace Go.Proofs.Ytpbdkmimdfkijaa

/-- One bit shifted out of the register. -/
def step (r : Nat) : Nat := if r % 2 = 1 then r / 2 ^^^ 3988292384 else r / 2
def steps : Nat → Nat → Nat
  | 0, r => r
  | n + 1, r => steps n (step r)
theorem steps_add (m n r : Nat) : steps (m + n) r = steps n (steps m r) := by
  induction m generalizing r with
  | zero => simp [steps]
  | succ m ih => rw [Nat.succ_add]; exact ih _
theorem steps_succ (n r : Nat) : steps (n + 1) r = step (steps n r) := steps_add n 1 r

theorem step_lt {r : Nat} (h : r < 4294967296) : step r < 4294967296 := by
  unfold step
  split
  · exact Nat.xor_lt_two_pow (n := 32) (by omega) (by omega)
  · omega
theorem steps_lt (n : Nat) {r : Nat} (h : r < 4294967296) : steps n r < 4294967296 := by
  induction n generalizing r with
  | zero => exact h
  | succ n ih => exact ih (step_lt h)
theorem xor_lt {a b : Nat} (ha : a < 4294967296) (hb : b < 4294967296) : a ^^^ b < 4294967296 := Nat.xor_lt_two_pow (n := 32) ha hb

theorem xor_nought {a b : Nat} (h : a ^^^ b = 0) : a = b := by
  have h1 := congrArg (· ^^^ b) h
  simp only [Nat.xor_assoc, Nat.xor_self, Nat.xor_zero, Nat.zero_xor] at h1
  exact h1
theorem step_xor (a b : Nat) : step (a ^^^ b) = step a ^^^ step b := by
  have h0 : (a ^^^ b) % 2 = a % 2 ^^^ b % 2 := Nat.xor_mod_two_pow (n := 1)
  have h1 : (a ^^^ b) % 2 = (a + b) % 2 := by
    rw [h0]
    rcases Nat.mod_two_eq_zero_or_one a with ha | ha <;> rcases Nat.mod_two_eq_zero_or_one b with hb | hb <;> rw [ha, hb]
    · show 0 = _; omega
    · show 1 = _; omega
    · show 1 = _; omega
    · show 0 = _; omega
  have h2 : (a ^^^ b) / 2 = a / 2 ^^^ b / 2 := Nat.xor_div_two
  unfold step
  rw [h1, h2]
  rcases Nat.mod_two_eq_zero_or_one a with ha | ha <;> rcases Nat.mod_two_eq_zero_or_one b with hb | hb
  · rw [if_neg (by omega), if_neg (by omega), if_neg (by omega)]
  · rw [if_pos (by omega), if_neg (by omega), if_pos (by omega), Nat.xor_assoc]
  · rw [if_pos (by omega), if_pos (by omega), if_neg (by omega), Nat.xor_assoc, Nat.xor_comm (b / 2), ← Nat.xor_assoc]
  · rw [if_neg (by omega), if_pos (by omega), if_pos (by omega), Nat.xor_assoc (a / 2), Nat.xor_comm (b / 2), ← Nat.xor_assoc 3988292384, Nat.xor_self, Nat.zero_xor]
theorem steps_xor (n a b : Nat) : steps n (a ^^^ b) = steps n a ^^^ steps n b := by
  induction n generalizing a b with
  | zero => rfl
  | succ n ih => show steps n (step (a ^^^ b)) = _; rw [step_xor, ih]; rfl

theorem step_zero {r : Nat} (h : r < 4294967296) (hz : step r = 0) : r = 0 := by
  unfold step at hz
  split at hz
  · have := xor_nought hz
    omega
  · omega
theorem steps_zero (n : Nat) {r : Nat} (h : r < 4294967296) (hz : steps n r = 0) : r = 0 := by
  induction n generalizing r with
  | zero => exact hz
  | succ n ih => exact step_zero h (ih (step_lt h) hz)
theorem steps_nought (n : Nat) : steps n 0 = 0 := by
  induction n with
  | zero => rfl
  | succ n ih => exact ih
theorem steps_inj (n : Nat) {a b : Nat} (ha : a < 4294967296) (hb : b < 4294967296) : steps n a = steps n b ↔ a = b := by
  constructor
  · intro h
    have h1 : steps n (a ^^^ b) = 0 := by rw [steps_xor, h, Nat.xor_self]
    exact xor_nought (steps_zero n (xor_lt ha hb) h1)
  · intro h; rw [h]

/-- What lies above the bits that are shifted out only moves. -/
theorem steps_mul (n q : Nat) : steps n (2 ^ n * q) = q := by
  induction n with
  | zero => simp [steps]
  | succ n ih =>
    have e : 2 ^ (n + 1) * q = 2 * (2 ^ n * q) := by rw [Nat.pow_succ, Nat.mul_comm (2 ^ n) 2, Nat.mul_assoc]
    show steps n (step (2 ^ (n + 1) * q)) = q
    rw [e]
    have : step (2 * (2 ^ n * q)) = 2 ^ n * q := by unfold step; rw [if_neg (by omega)]; omega
    rw [this, ih]
theorem parted (n r : Nat) : r = (2 ^ n * (r / 2 ^ n)) ^^^ (r % 2 ^ n) := by
  apply Nat.eq_of_testBit_eq
  intro i
  rw [Nat.testBit_xor, Nat.testBit_two_pow_mul, Nat.testBit_mod_two_pow, Nat.testBit_div_two_pow]
  by_cases h : n ≤ i
  · have e2 : i - n + n = i := by omega
    have h2 : ¬ i < n := by omega
    simp [h, h2, e2]
  · have h2 : i < n := by omega
    simp [h, h2]
theorem steps_parted (n r : Nat) : steps n r = r / 2 ^ n ^^^ steps n (r % 2 ^ n) := by
  conv => lhs; rw [parted n r]
  rw [steps_xor, steps_mul]
theorem steps_four (r : Nat) : r / 16 ^^^ steps 4 (r % 16) = steps 4 r := (steps_parted 4 r).symm
theorem steps_eight (r : Nat) : (r / 16 ^^^ steps 4 (r % 16)) / 16 ^^^ steps 4 ((r / 16 ^^^ steps 4 (r % 16)) % 16) = steps 8 r := by
  rw [steps_four, steps_four]
  exact (steps_add 4 4 r).symm

/-- The register behind one byte more, and behind bytes. -/
def byteOn (r : Nat) (z : Int) : Nat := steps 8 (r ^^^ z.toNat)
def reg (r : Nat) (zs : List Int) : Nat := zs.foldl byteOn r
/-- All bits inverted. -/
def inv (r : Nat) : Nat := r ^^^ 4294967295
/-- The checksum that goes on from another one; that of bytes. -/
def sumOn (s : Nat) (zs : List Int) : Nat := inv (reg (inv s) zs)
def sumOf (zs : List Int) : Nat := sumOn 0 zs

def ByteL (zs : List Int) : Prop := ∀ z ∈ zs, 0 ≤ z ∧ z < 256
theorem byteOn_lt {r : Nat} {z : Int} (h : r < 4294967296) (hz : 0 ≤ z ∧ z < 256) : byteOn r z < 4294967296 := steps_lt 8 (xor_lt h (by omega))
theorem reg_lt {r : Nat} {zs : List Int} (h : r < 4294967296) (hz : ByteL zs) : reg r zs < 4294967296 := by
  induction zs generalizing r with
  | nil => exact h
  | cons z zs ih => exact ih (byteOn_lt h (hz z (by simp))) (fun x hx => hz x (by simp [hx]))
theorem inv_lt {r : Nat} (h : r < 4294967296) : inv r < 4294967296 := xor_lt h (by omega)
theorem inv_inv (r : Nat) : inv (inv r) = r := by unfold inv; rw [Nat.xor_assoc, Nat.xor_self, Nat.xor_zero]
theorem inv_eq {r : Nat} (h : r < 4294967296) : inv r = 4294967295 - r := by
  apply Nat.eq_of_testBit_eq
  intro i
  have h1 : (4294967295 - r : Nat) = 2 ^ 32 - (r + 1) := by omega
  have h2 : (4294967295 : Nat) = 2 ^ 32 - 1 := by omega
  unfold inv
  rw [Nat.testBit_xor, h1, Nat.testBit_two_pow_sub_succ (by omega), h2, Nat.testBit_two_pow_sub_one]
  by_cases hi : i < 32
  · simp [hi]
  · have : r.testBit i = false := Nat.testBit_lt_two_pow (Nat.lt_of_lt_of_le h (Nat.pow_le_pow_right (n := 2) (i := 32) (by omega) (by omega)))
    simp [hi, this]
theorem inv_inj {a b : Nat} : inv a = inv b ↔ a = b := by
  constructor
  · intro h; have := congrArg inv h; rwa [inv_inv, inv_inv] at this
  · intro h; rw [h]
theorem sumOn_lt {s : Nat} {zs : List Int} (h : s < 4294967296) (hz : ByteL zs) : sumOn s zs < 4294967296 := inv_lt (reg_lt (inv_lt h) hz)
theorem reg_append (r : Nat) (xs ys : List Int) : reg r (xs ++ ys) = reg (reg r xs) ys := by unfold reg; rw [List.foldl_append]
theorem sumOn_append (s : Nat) (xs ys : List Int) : sumOn s (xs ++ ys) = sumOn (sumOn s xs) ys := by unfold sumOn; rw [reg_append, inv_inv]
theorem sumOn_nil (s : Nat) : sumOn s [] = s := inv_inv s
theorem reg_snoc (r : Nat) (zs : List Int) (k : Nat) (h : k < zs.length) : reg r (zs.take (k + 1)) = byteOn (reg r (zs.take k)) (zs.getD k 0) := by
  have e : zs.getD k 0 = zs[k] := by simp [List.getD, h]
  rw [e, List.take_succ_eq_append_getElem h, reg_append]
  rfl

/-- Bytes of two lists of one length, xored. -/
def xorL : List Int → List Int → List Int
  | x :: xs, y :: ys => ((x.toNat ^^^ y.toNat : Nat) : Int) :: xorL xs ys
  | _, _ => []
/-- The register goes with exclusive or. -/
theorem reg_xor (r s : Nat) (xs ys : List Int) (h : xs.length = ys.length) : reg (r ^^^ s) (xorL xs ys) = reg r xs ^^^ reg s ys := by
  induction xs generalizing r s ys with
  | nil =>
    cases ys with
    | nil => rfl
    | cons y ys => simp at h
  | cons x xs ih =>
    cases ys with
    | nil => simp at h
    | cons y ys =>
      have e : byteOn (r ^^^ s) ((x.toNat ^^^ y.toNat : Nat) : Int) = byteOn r x ^^^ byteOn s y := by
        unfold byteOn
        rw [← steps_xor, Int.toNat_natCast]
        congr 1
        rw [Nat.xor_assoc r s, ← Nat.xor_assoc s, Nat.xor_comm s x.toNat, Nat.xor_assoc x.toNat, ← Nat.xor_assoc r]
      show reg (byteOn (r ^^^ s) _) (xorL xs ys) = reg (byteOn r x) xs ^^^ reg (byteOn s y) ys
      rw [e]
      exact ih _ _ ys (by simpa using h)
theorem xorL_len (xs ys : List Int) (h : xs.length = ys.length) : (xorL xs ys).length = xs.length := by
  induction xs generalizing ys with
  | nil => cases ys with | nil => rfl | cons y ys => simp at h
  | cons x xs ih => cases ys with | nil => simp at h | cons y ys => simp only [xorL, List.length_cons]; rw [ih ys (by simpa using h)]
theorem xorL_getD (xs ys : List Int) (h : xs.length = ys.length) (k : Nat) : (xorL xs ys).getD k 0 = (((xs.getD k 0).toNat ^^^ (ys.getD k 0).toNat : Nat) : Int) := by
  induction xs generalizing ys k with
  | nil => cases ys with | nil => simp [xorL] | cons y ys => simp at h
  | cons x xs ih =>
    cases ys with
    | nil => simp at h
    | cons y ys =>
      cases k with
      | zero => simp [xorL]
      | succ k => simpa [xorL] using ih ys (by simpa using h) k
theorem reg_inj {r s : Nat} {zs : List Int} (hr : r < 4294967296) (hs : s < 4294967296) (hz : ByteL zs) : reg r zs = reg s zs ↔ r = s := by
  induction zs generalizing r s with
  | nil => exact Iff.rfl
  | cons z zs ih =>
    have hb := hz z (by simp)
    have h2 := ih (byteOn_lt hr hb) (byteOn_lt hs hb) (fun x hx => hz x (by simp [hx]))
    show reg (byteOn r z) zs = reg (byteOn s z) zs ↔ _
    rw [h2]
    unfold byteOn
    rw [steps_inj 8 (xor_lt hr (by omega)) (xor_lt hs (by omega))]
    constructor
    · intro h
      have := congrArg (· ^^^ z.toNat) h
      simpa only [Nat.xor_assoc, Nat.xor_self, Nat.xor_zero] using this
    · intro h; rw [h]
/-- Four bytes at once: the word that they are goes into the register, and 32 bits are shifted out. -/
theorem steps_shift (r m b : Nat) : steps 8 (steps (8 * m) r ^^^ b) = steps (8 * (m + 1)) (r ^^^ 2 ^ (8 * m) * b) := by
  rw [Nat.mul_add, steps_add, steps_xor (8 * m), steps_mul]
theorem joined {a b n : Nat} (h : a < 2 ^ n) : a ^^^ 2 ^ n * b = a + 2 ^ n * b := by
  have h1 := parted n (a + 2 ^ n * b)
  rw [Nat.add_mul_div_left _ _ (Nat.two_pow_pos n), Nat.add_mul_mod_self_left, Nat.div_eq_of_lt h, Nat.mod_eq_of_lt h, Nat.zero_add, Nat.xor_comm] at h1
  exact h1.symm
theorem reg_four (r : Nat) (a b c d : Nat) (ha : a < 256) (hb : b < 256) (hc : c < 256) :
    reg r [(a : Int), (b : Int), (c : Int), (d : Int)] = steps 32 (r ^^^ (a + 256 * b + 65536 * c + 16777216 * d)) := by
  have e1 : reg r [(a : Int), (b : Int), (c : Int), (d : Int)] = steps 8 (steps 8 (steps 8 (steps 8 (r ^^^ a) ^^^ b) ^^^ c) ^^^ d) := rfl
  have s1 := steps_shift (r ^^^ a) 1 b
  have s2 := steps_shift ((r ^^^ a) ^^^ 256 * b) 2 c
  have s3 := steps_shift (((r ^^^ a) ^^^ 256 * b) ^^^ 65536 * c) 3 d
  simp only [Nat.reduceMul, Nat.reduceAdd, Nat.reducePow] at s1 s2 s3
  rw [e1, s1, s2, s3]
  congr 1
  have j1 := joined (a := a) (b := b) (n := 8) (by omega)
  have j2 := joined (a := a + 256 * b) (b := c) (n := 16) (by omega)
  have j3 := joined (a := a + 256 * b + 65536 * c) (b := d) (n := 24) (by omega)
  simp only [Nat.reducePow] at j1 j2 j3
  rw [Nat.xor_assoc (r ^^^ a ^^^ 256 * b), Nat.xor_assoc (r ^^^ a), Nat.xor_assoc r, ← Nat.xor_assoc (256 * b), ← Nat.xor_assoc a, ← Nat.xor_assoc a, j1, j2, j3]
end Go.Proofs.Ytpbdkmimdfkijaa
