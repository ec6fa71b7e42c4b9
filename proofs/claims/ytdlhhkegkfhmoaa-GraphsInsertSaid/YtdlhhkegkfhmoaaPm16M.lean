/- Plain arithmetic of sums along directions: they are additive, sums along two directions commute, all sums come to the sum of all. -/
import Derived.Test.YtdlhhkegkfhmoaaMv8M
namespace Go.Proofs.Ytdlhhkegkfhmoaa
open Go.RowKit
set_option linter.unusedVariables false
set_option linter.unusedSimpArgs false

/-- The sum of the first numbers of a row. -/
def sumF (f : Nat → Int) : Nat → Int
  | 0 => 0
  | q + 1 => add32 (sumF f q) (f q)

theorem sumF_range (f : Nat → Int) (q : Nat) : -2147483648 ≤ sumF f q ∧ sumF f q < 2147483648 := by
  cases q with
  | zero => exact ⟨by rw [sumF]; decide, by rw [sumF]; decide⟩
  | succ q => exact wrap32_range _

theorem add32_zero {x : Int} (h : -2147483648 ≤ x ∧ x < 2147483648) : add32 0 x = x := by
  unfold add32
  rw [Int.zero_add]
  exact wrap32_id h

theorem add32_zero' {x : Int} (h : -2147483648 ≤ x ∧ x < 2147483648) : add32 x 0 = x := by rw [add32_comm]; exact add32_zero h

theorem add32_00 : add32 0 0 = 0 := add32_zero ⟨by decide, by decide⟩

theorem add32_mix (a b x y : Int) : add32 (add32 a b) (add32 x y) = add32 (add32 a x) (add32 b y) := by unfold add32 wrap32; omega

theorem sumF_congr {f g : Nat → Int} {q : Nat} (h : ∀ j, j < q → f j = g j) : sumF f q = sumF g q := by
  induction q with
  | zero => rfl
  | succ q ih => rw [sumF, sumF, ih (fun j hj => h j (by omega)), h q (by omega)]

theorem sumF_add (f g : Nat → Int) (q : Nat) : sumF (fun j => add32 (f j) (g j)) q = add32 (sumF f q) (sumF g q) := by
  induction q with
  | zero => rw [sumF, sumF, sumF, add32_00]
  | succ q ih => rw [sumF, sumF, sumF, ih, add32_mix]

theorem sumF_none (q : Nat) : sumF (fun _ => 0) q = 0 := by
  induction q with
  | zero => rfl
  | succ q ih => rw [sumF, ih, add32_00]

theorem sumF_swap (g : Nat → Nat → Int) (a b : Nat) : sumF (fun i => sumF (fun j => g i j) b) a = sumF (fun j => sumF (fun i => g i j) a) b := by
  induction a with
  | zero => rw [sumF, show (fun j => sumF (fun i => g i j) 0) = fun _ => (0 : Int) from rfl, sumF_none]
  | succ a ih =>
    rw [sumF, ih, ← sumF_add]
    rfl

theorem sumF_more (f : Nat → Int) (a b : Nat) : sumF f (a + b) = add32 (sumF f a) (sumF (fun j => f (a + j)) b) := by
  induction b with
  | zero => rw [Nat.add_zero, sumF, add32_zero' (sumF_range f a)]
  | succ b ih => rw [← Nat.add_assoc, sumF, ih, sumF, add32_assoc]

theorem sumF_rows (f : Nat → Int) (a b : Nat) : sumF (fun i => sumF (fun j => f (i * b + j)) b) a = sumF f (a * b) := by
  induction a with
  | zero => rw [Nat.zero_mul]; rfl
  | succ a ih => rw [sumF, ih, Nat.succ_mul, sumF_more]

theorem sumN9_eq (l : List Int) (K st k : Nat) : ∀ q, sumN9 l K st k q = sumF (fun j => l.getD ((k / st * K + j) * st + k % st) 0) q
  | 0 => rfl
  | q + 1 => by rw [sumN9, sumF, sumN9_eq l K st k q]

theorem zip_getD {l u : List Int} (h : l.length = u.length) (i : Nat) : (List.zipWith add32 l u).getD i 0 = add32 (l.getD i 0) (u.getD i 0) := by
  rw [List.getD_eq_getElem?_getD, List.getD_eq_getElem?_getD, List.getD_eq_getElem?_getD, List.getElem?_zipWith]
  by_cases hi : i < l.length
  · rw [List.getElem?_eq_getElem hi, List.getElem?_eq_getElem (show i < u.length by omega)]
    rfl
  · rw [List.getElem?_eq_none (by omega), List.getElem?_eq_none (show u.length ≤ i by omega)]
    exact add32_00.symm

theorem list_ext9 {x y : List Int} (h : x.length = y.length) (he : ∀ k, k < x.length → x.getD k 0 = y.getD k 0) : x = y := by
  apply List.ext_getElem h
  intro k h1 h2
  have e := he k h1
  simpa [List.getD, h1, h2] using e

theorem sumL9_zip {l u : List Int} (h : l.length = u.length) (K st R : Nat) : sumL9 (List.zipWith add32 l u) K st R = List.zipWith add32 (sumL9 l K st R) (sumL9 u K st R) := by
  apply list_ext9
  · simp [sumL9_len]
  intro k hk
  rw [sumL9_len] at hk
  rw [zip_getD (by rw [sumL9_len, sumL9_len]), sumL9_at hk, sumL9_at hk, sumL9_at hk, sumN9_eq, sumN9_eq, sumN9_eq, ← sumF_add]
  exact sumF_congr fun j _ => zip_getD h _

/-- The sum of all numbers of a list. -/
def allF (l : List Int) : Int := sumF (fun i => l.getD i 0) l.length

theorem allF_sum {l : List Int} {K st : Nat} (hl : l.length = K * st) : allF (sumL9 l K st st) = allF l := by
  unfold allF
  rw [sumL9_len, hl, ← sumF_rows, ← sumF_swap]
  refine sumF_congr fun k hk => ?_
  rw [sumL9_at hk, sumN9_eq]
  refine sumF_congr fun j _ => ?_
  rw [Nat.div_eq_of_lt hk, Nat.mod_eq_of_lt hk, Nat.zero_mul, Nat.zero_add]

theorem sumL9_swap {l : List Int} {P Ka M Kb st : Nat} (hKa : 1 ≤ Ka) (hM : 1 ≤ M) (hKb : 1 ≤ Kb) (hst : 1 ≤ st) :
    sumL9 (sumL9 l Kb st (P * Ka * M * st)) Ka (M * st) (P * (M * st)) = sumL9 (sumL9 l Ka (M * Kb * st) (P * (M * Kb * st))) Kb st (P * M * st) := by
  have hR : P * (M * st) = P * M * st := by rw [Nat.mul_assoc]
  apply list_ext9
  · rw [sumL9_len, sumL9_len, hR]
  intro k hk
  rw [sumL9_len] at hk
  rw [sumL9_at hk, sumL9_at (by rw [← hR]; exact hk), sumN9_eq, sumN9_eq]
  have hMs : 0 < M * st := Nat.mul_pos hM hst
  obtain ⟨u, hu⟩ : ∃ u, u = k / (M * st) := ⟨_, rfl⟩
  obtain ⟨x, hx⟩ : ∃ x, x = k % (M * st) := ⟨_, rfl⟩
  have hx1 : x < M * st := by rw [hx]; exact Nat.mod_lt _ hMs
  have hu1 : u < P := by rw [hu]; exact Nat.div_lt_of_lt_mul (by rw [Nat.mul_comm]; exact hk)
  obtain ⟨v, hv⟩ : ∃ v, v = x / st := ⟨_, rfl⟩
  obtain ⟨z, hz⟩ : ∃ z, z = x % st := ⟨_, rfl⟩
  have hz1 : z < st := by rw [hz]; exact Nat.mod_lt _ hst
  have hv1 : v < M := by rw [hv]; exact Nat.div_lt_of_lt_mul (by rw [Nat.mul_comm]; exact hx1)
  have ek : k = u * (M * st) + x := by rw [hu, hx, Nat.mul_comm]; exact (Nat.div_add_mod k _).symm
  have ex : x = v * st + z := by rw [hv, hz, Nat.mul_comm]; exact (Nat.div_add_mod x _).symm
  have ek2 : k = (u * M + v) * st + z := by rw [ek, ex, Nat.add_mul, Nat.mul_assoc, Nat.add_assoc]
  have kd : k / st = u * M + v := by rw [ek2, Nat.mul_comm, Nat.mul_add_div hst, Nat.div_eq_of_lt hz1, Nat.add_zero]
  have km : k % st = z := by rw [ek2, Nat.mul_comm, Nat.mul_add_mod, Nat.mod_eq_of_lt hz1]
  rw [kd, km]
  have e1 : sumF (fun i => (sumL9 l Kb st (P * Ka * M * st)).getD ((u * Ka + i) * (M * st) + x) 0) Ka = sumF (fun i => sumF (fun j => l.getD ((((u * Ka + i) * M + v) * Kb + j) * st + z) 0) Kb) Ka := by
    refine sumF_congr fun i hi => ?_
    have ed : (u * Ka + i) * (M * st) + x = ((u * Ka + i) * M + v) * st + z := by rw [ex, Nat.add_mul ((u * Ka + i) * M), Nat.mul_assoc, Nat.add_assoc]
    rw [ed]
    have hlt : ((u * Ka + i) * M + v) * st + z < P * Ka * M * st := place_lt9 (place_lt9 (place_lt9 hu1 hi) hv1) hz1
    rw [sumL9_at hlt, sumN9_eq]
    refine sumF_congr fun j hj => ?_
    rw [show (((u * Ka + i) * M + v) * st + z) / st = (u * Ka + i) * M + v from by rw [Nat.mul_comm, Nat.mul_add_div hst, Nat.div_eq_of_lt hz1, Nat.add_zero], show (((u * Ka + i) * M + v) * st + z) % st = z from by rw [Nat.mul_comm, Nat.mul_add_mod, Nat.mod_eq_of_lt hz1]]
  have e2 : sumF (fun j => (sumL9 l Ka (M * Kb * st) (P * (M * Kb * st))).getD (((u * M + v) * Kb + j) * st + z) 0) Kb = sumF (fun j => sumF (fun i => l.getD ((((u * Ka + i) * M + v) * Kb + j) * st + z) 0) Ka) Kb := by
    refine sumF_congr fun j hj => ?_
    have ed : ((u * M + v) * Kb + j) * st + z = u * (M * Kb * st) + ((v * Kb + j) * st + z) := by
      rw [Nat.add_mul (u * M), Nat.add_assoc (u * M * Kb), Nat.add_mul (u * M * Kb), Nat.mul_assoc u M Kb, Nat.mul_assoc u (M * Kb) st, Nat.add_assoc]
    have hy : (v * Kb + j) * st + z < M * Kb * st := place_lt9 (place_lt9 hv1 hj) hz1
    have hpos : 0 < M * Kb * st := by omega
    have hlt : u * (M * Kb * st) + ((v * Kb + j) * st + z) < P * (M * Kb * st) := place_lt9 hu1 hy
    rw [ed, sumL9_at hlt, sumN9_eq]
    refine sumF_congr fun i hi => ?_
    rw [show (u * (M * Kb * st) + ((v * Kb + j) * st + z)) / (M * Kb * st) = u from by rw [Nat.mul_comm, Nat.mul_add_div hpos, Nat.div_eq_of_lt hy, Nat.add_zero], show (u * (M * Kb * st) + ((v * Kb + j) * st + z)) % (M * Kb * st) = (v * Kb + j) * st + z from by rw [Nat.mul_comm, Nat.mul_add_mod, Nat.mod_eq_of_lt hy]]
    congr 1
    rw [Nat.add_mul ((u * Ka + i) * M), Nat.add_assoc ((u * Ka + i) * M * Kb), Nat.add_mul ((u * Ka + i) * M * Kb), Nat.mul_assoc (u * Ka + i) M Kb, Nat.mul_assoc (u * Ka + i) (M * Kb) st, Nat.add_assoc]
  have hx2 : x = v * st + z := ex
  rw [← hu, ← hx, e1, e2, sumF_swap]

end Go.Proofs.Ytdlhhkegkfhmoaa
