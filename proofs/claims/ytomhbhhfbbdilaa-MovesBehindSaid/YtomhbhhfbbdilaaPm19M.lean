/- Plain facts of tensors that are turned, the direction k first. -/
import Derived.Test.YtomhbhhfbbdilaaPm18M
namespace Go.Proofs.Ytomhbhhfbbdilaa
open Go.RowKit
set_option linter.unusedVariables false
set_option linter.unusedSimpArgs false

/-- The order in which the direction k comes first, and the first one in its place. -/
def swapU (n k : Nat) : List Int := (List.range n).map fun i => if i = 0 then (k : Int) else if i = k then 0 else (i : Int)

theorem swapU_len (n k : Nat) : (swapU n k).length = n := by simp [swapU]

theorem swapU_at {n k i : Nat} (hi : i < n) : (swapU n k).getD i 0 = if i = 0 then (k : Int) else if i = k then 0 else (i : Int) := by
  simp [swapU, List.getD, hi]

theorem swapU_ok {n k : Nat} (hk : k < n) : ordOk (swapU n k) n = true := by
  refine ordOk_iff.2 ⟨swapU_len n k, fun d hd => ?_⟩
  unfold swapU
  refine List.mem_map.2 ?_
  by_cases h0 : d = 0
  · refine ⟨k, List.mem_range.2 hk, ?_⟩
    by_cases hk0 : k = 0
    · simp [h0, hk0]
    · simp [h0, hk0]
  · by_cases h1 : d = k
    · exact ⟨0, List.mem_range.2 (by omega), by simp [h1]⟩
    · exact ⟨d, List.mem_range.2 hd, by simp [h0, h1]⟩

theorem pick_swap_at {s : List Int} {n k i : Nat} (hi : i < n) : (pickL s (swapU n k)).getD i 0 = if i = 0 then s.getD k 0 else if i = k then s.getD 0 0 else s.getD i 0 := by
  rw [pickL_at (by rw [swapU_len]; exact hi), swapU_at hi]
  by_cases h0 : i = 0
  · rw [if_pos h0, if_pos h0, Int.toNat_natCast]
  · rw [if_neg h0, if_neg h0]
    by_cases h1 : i = k
    · rw [if_pos h1, if_pos h1]; rfl
    · rw [if_neg h1, if_neg h1, Int.toNat_natCast]

theorem pick_swap_len (s : List Int) (n k : Nat) : (pickL s (swapU n k)).length = n := by rw [pickL_len, swapU_len]

theorem pick_swap_twice {s : List Int} {n k : Nat} (hs : s.length = n) (hk : k < n) : pickL (pickL s (swapU n k)) (swapU n k) = s := by
  refine list_ext9 (by rw [pick_swap_len, hs]) fun i hi => ?_
  rw [pick_swap_len] at hi
  rw [pick_swap_at hi]
  by_cases h0 : i = 0
  · rw [if_pos h0, pick_swap_at hk]
    by_cases h1 : k = 0
    · rw [if_pos h1, h1, h0]
    · rw [if_neg h1, if_pos rfl, h0]
  · rw [if_neg h0]
    by_cases h1 : i = k
    · rw [if_pos h1, pick_swap_at (by omega), if_pos rfl, h1]
    · rw [if_neg h1, pick_swap_at hi, if_neg h0, if_neg h1]

theorem pick_swap_set {s : List Int} {n k : Nat} (hs : s.length = n) (hk : k < n) (x : Int) : pickL (s.set k x) (swapU n k) = (pickL s (swapU n k)).set 0 x := by
  refine list_ext9 (by rw [pick_swap_len, List.length_set, pick_swap_len]) fun i hi => ?_
  rw [pick_swap_len] at hi
  have key : ∀ j, (s.set k x).getD j 0 = if j = k then x else s.getD j 0 := fun j => by
    by_cases e : j = k
    · rw [if_pos e, e, getD_set (by omega)]
    · rw [if_neg e, List.getD_eq_getElem?_getD, List.getD_eq_getElem?_getD, List.getElem?_set_ne (by omega)]
  rw [pick_swap_at hi, key, key, key]
  by_cases h0 : i = 0
  · rw [if_pos h0, if_pos rfl, h0, getD_set (by rw [pick_swap_len]; omega)]
  · rw [if_neg h0, List.getD_eq_getElem?_getD (l := List.set _ _ _), List.getElem?_set_ne (by omega), ← List.getD_eq_getElem?_getD, pick_swap_at hi, if_neg h0]
    by_cases h1 : i = k
    · rw [if_pos h1, if_pos h1, if_neg (by omega)]
    · rw [if_neg h1, if_neg h1, if_neg h1]

theorem dg_is {k h T e S r : Nat} (hk : k = (h * T + e) * S + r) (he : e < T) (hr : r < S) : k / S % T = e := by
  rw [hk, Nat.mul_comm (h * T + e) S, Nat.mul_add_div (by omega), Nat.div_eq_of_lt hr, Nat.add_zero, Nat.mul_comm h T, Nat.mul_add_mod, Nat.mod_eq_of_lt he]

/-- An order that changes nothing. -/
theorem tr_same {s : List Int} {n : Nat} (hd : AllDim s) (hs : s.length = n) (k : Nat) : ∀ i, i ≤ n → trN s s (swapU n 0) k i + k % (prodZ (s.drop i)).toNat = k % (prodZ s).toNat
  | 0, _ => by rw [trN, List.drop_zero, Nat.zero_add]
  | i + 1, hi => by
    have ih := tr_same hd hs k i (by omega)
    rw [← ih, trN, swapU_at (by omega)]
    have hi' : i < s.length := by omega
    have e := prodZ_drop hi'
    have hdi := hd.at hi'
    rw [hdi.2.2] at e
    have n1 := prodZ_nonneg (s.drop (i + 1))
    obtain ⟨S, hS⟩ := Int.eq_ofNat_of_zero_le n1
    obtain ⟨K, hK⟩ := Int.eq_ofNat_of_zero_le (show 0 ≤ s.getD i 0 by omega)
    have eu : (if i = 0 then ((0 : Nat) : Int) else if i = 0 then 0 else (i : Int)).toNat = i := by
      by_cases h0 : i = 0
      · rw [if_pos h0, h0]; rfl
      · rw [if_neg h0, if_neg h0, Int.toNat_natCast]
    rw [eu, dg9, hS, hK, ← e, hS, hK, ← Int.natCast_mul, Int.toNat_natCast, Int.toNat_natCast, Int.toNat_natCast, Nat.mod_mul]
    grind

theorem turn_same {s l : List Int} {m n : Nat} (hk : tenOk s m = true) (hs : s.length = n) (hl : l.length = m) : pickL s (swapU n 0) = s ∧ turnL s l (swapU n 0) m = l := by
  have hd := size_dims (tenOk_iff.1 hk).1
  obtain ⟨h1, _, hz⟩ := sizeI_pos (tenOk_iff.1 hk).1
  have hp : pickL s (swapU n 0) = s := by
    refine list_ext9 (by rw [pick_swap_len, hs]) fun i hi => ?_
    rw [pick_swap_len] at hi
    rw [pick_swap_at hi]
    by_cases h0 : i = 0
    · rw [if_pos h0, h0]
    · rw [if_neg h0, if_neg h0]
  refine ⟨hp, list_ext9 (by rw [turnL_len, hl]) fun k hk2 => ?_⟩
  rw [turnL_len] at hk2
  rw [turnL_at hk2, hp]
  have h := tr_same hd hs k n (Nat.le_refl _)
  have hz2 := (tenOk_iff.1 hk).2
  have e1 : (prodZ s).toNat = m := by omega
  rw [e1, Nat.mod_eq_of_lt hk2, List.drop_eq_nil_of_le (by omega)] at h
  have e2 : (prodZ ([] : List Int)).toNat = 1 := rfl
  rw [e2, Nat.mod_one, Nat.add_zero] at h
  rw [hs, h]

/-- Where a number of a turned tensor stood. -/
theorem tr_swap {x K : Nat} {M B : List Int} (h : AllDim ((x : Int) :: (M ++ (K : Int) :: B))) (hn : M.length + B.length ≤ 2) {p st : Nat} (hp : prodZ M = (p : Int)) (hst : prodZ B = (st : Int)) {y m i w : Nat} (hy : y < K) (hm : m < p) (hi : i < x) (hw : w < st) :
    trN ((x : Int) :: (M ++ (K : Int) :: B)) ((K : Int) :: (M ++ (x : Int) :: B)) (swapU (M.length + B.length + 2) (M.length + 1)) (((y * p + m) * x + i) * st + w) (M.length + B.length + 2) = ((i * p + m) * K + y) * st + w := by
  have hx := (h (x : Int) (by simp)).2.2
  have hK := (h (K : Int) (by simp)).2.2
  have hR : (m * x + i) * st + w < p * x * st := place_lt9 (place_lt9 hm hi) hw
  have hR2 : i * st + w < x * st := place_lt9 hi hw
  have up : ∀ z ∈ M ++ B, ∃ d : Nat, z = (d : Int) ∧ 1 ≤ d ∧ dz (d : Int) = d := fun z hz => by
    have hz' := h z (by simp at hz ⊢; rcases hz with e | e <;> simp [e])
    obtain ⟨d, rfl⟩ := Int.eq_ofNat_of_zero_le (show 0 ≤ z by omega)
    exact ⟨d, rfl, by omega, hz'.2.2⟩
  match M, B, hn, hp, hst, up with
  | [], [], _, hp, hst, _ =>
    obtain rfl : p = 1 := by simp [prodZ] at hp; omega
    obtain rfl : st = 1 := by simp [prodZ] at hst; omega
    obtain rfl : m = 0 := by omega
    obtain rfl : w = 0 := by omega
    have eu : swapU 2 1 = [1, 0] := by decide
    show trN [(x : Int), (K : Int)] [(K : Int), (x : Int)] (swapU 2 1) _ 2 = _
    rw [eu]
    simp only [trN, dg9, List.drop_succ_cons, List.drop_zero, List.getD_cons_zero, List.getD_cons_succ, prodZ, hx, hK, Int.toNat_natCast, Int.mul_one, Int.toNat_one, Int.toNat_zero, Nat.reduceAdd]
    rw [dg_is (h := 0) (e := y) (r := i) (by grind) hy (by grind), dg_is (h := y) (e := i) (r := 0) (by grind) hi (by grind)]
    grind
  | [a0], [], _, hp, hst, up =>
    obtain ⟨a, rfl, ha, hda⟩ := up a0 (by simp)
    obtain rfl : p = a := by simp [prodZ, hda] at hp; omega
    obtain rfl : st = 1 := by simp [prodZ] at hst; omega
    obtain rfl : w = 0 := by omega
    have eu : swapU 3 2 = [2, 1, 0] := by decide
    show trN [(x : Int), (p : Int), (K : Int)] [(K : Int), (p : Int), (x : Int)] (swapU 3 2) _ 3 = _
    rw [eu]
    simp only [trN, dg9, List.drop_succ_cons, List.drop_zero, List.getD_cons_zero, List.getD_cons_succ, prodZ, hx, hK, hda, Int.toNat_natCast, Int.mul_one, Int.toNat_one, Int.toNat_zero, Nat.reduceAdd, ← Int.natCast_mul, show (2 : Int).toNat = 2 from rfl]
    rw [dg_is (h := 0) (e := y) (r := m * x + i) (by grind) hy (by grind), dg_is (h := y) (e := m) (r := i) (by grind) hm (by grind), dg_is (h := y * p + m) (e := i) (r := 0) (by grind) hi (by grind)]
    grind
  | [], [b0], _, hp, hst, up =>
    obtain ⟨b, rfl, hb, hdb⟩ := up b0 (by simp)
    obtain rfl : p = 1 := by simp [prodZ] at hp; omega
    obtain rfl : st = b := by simp [prodZ, hdb] at hst; omega
    obtain rfl : m = 0 := by omega
    have eu : swapU 3 1 = [1, 0, 2] := by decide
    show trN [(x : Int), (K : Int), (st : Int)] [(K : Int), (x : Int), (st : Int)] (swapU 3 1) _ 3 = _
    rw [eu]
    simp only [trN, dg9, List.drop_succ_cons, List.drop_zero, List.getD_cons_zero, List.getD_cons_succ, prodZ, hx, hK, hdb, Int.toNat_natCast, Int.mul_one, Int.toNat_one, Int.toNat_zero, Nat.reduceAdd, ← Int.natCast_mul, show (2 : Int).toNat = 2 from rfl]
    rw [dg_is (h := 0) (e := y) (r := i * st + w) (by grind) hy (by grind), dg_is (h := y) (e := i) (r := w) (by grind) hi (by grind), dg_is (h := y * x + i) (e := w) (r := 0) (by grind) hw (by grind)]
    grind
  | [_], [_], _, hp, hst, up =>
    obtain ⟨a, rfl, ha, hda⟩ := up _ (List.mem_cons_self ..)
    obtain ⟨b, rfl, hb, hdb⟩ := up _ (List.mem_cons_of_mem _ (List.mem_cons_self ..))
    obtain rfl : p = a := by simp [prodZ, hda] at hp; omega
    obtain rfl : st = b := by simp [prodZ, hdb] at hst; omega
    have eu : swapU 4 2 = [2, 1, 0, 3] := by decide
    show trN [(x : Int), (p : Int), (K : Int), (st : Int)] [(K : Int), (p : Int), (x : Int), (st : Int)] (swapU 4 2) _ 4 = _
    rw [eu]
    simp only [trN, dg9, List.drop_succ_cons, List.drop_zero, List.getD_cons_zero, List.getD_cons_succ, prodZ, hx, hK, hda, hdb, Int.toNat_natCast, Int.mul_one, Int.toNat_one, Int.toNat_zero, Nat.reduceAdd, ← Int.natCast_mul, show (2 : Int).toNat = 2 from rfl, show (3 : Int).toNat = 3 from rfl]
    rw [dg_is (h := 0) (e := y) (r := (m * x + i) * st + w) (by grind) hy (by grind), dg_is (h := y) (e := m) (r := i * st + w) (by grind) hm (by grind), dg_is (h := y * p + m) (e := i) (r := w) (by grind) hi (by grind), dg_is (h := (y * p + m) * x + i) (e := w) (r := 0) (by grind) hw (by grind)]
    grind
  | [_, _], [], _, hp, hst, up =>
    obtain ⟨a, rfl, ha, hda⟩ := up _ (List.mem_cons_self ..)
    obtain ⟨b, rfl, hb, hdb⟩ := up _ (List.mem_cons_of_mem _ (List.mem_cons_self ..))
    obtain rfl : p = a * b := by simp [prodZ, hda, hdb, ← Int.natCast_mul] at hp; omega
    obtain rfl : st = 1 := by simp [prodZ] at hst; omega
    obtain rfl : w = 0 := by omega
    obtain ⟨m0, hm0⟩ : ∃ z, z = m / b := ⟨_, rfl⟩
    obtain ⟨m1, hm1⟩ : ∃ z, z = m % b := ⟨_, rfl⟩
    have em : m = m0 * b + m1 := by rw [hm0, hm1, Nat.mul_comm]; exact (Nat.div_add_mod m b).symm
    have hm0a : m0 < a := by rw [hm0]; exact Nat.div_lt_of_lt_mul (by rw [Nat.mul_comm]; exact hm)
    have hm1b : m1 < b := by rw [hm1]; exact Nat.mod_lt _ hb
    clear hm0 hm1
    subst em
    have hQ : m1 * x + i < b * x := place_lt9 hm1b hi
    have eu : swapU 4 3 = [3, 1, 2, 0] := by decide
    show trN [(x : Int), (a : Int), (b : Int), (K : Int)] [(K : Int), (a : Int), (b : Int), (x : Int)] (swapU 4 3) _ 4 = _
    rw [eu]
    simp only [trN, dg9, List.drop_succ_cons, List.drop_zero, List.getD_cons_zero, List.getD_cons_succ, prodZ, hx, hK, hda, hdb, Int.toNat_natCast, Int.mul_one, Int.toNat_one, Int.toNat_zero, Nat.reduceAdd, ← Int.natCast_mul, show (2 : Int).toNat = 2 from rfl, show (3 : Int).toNat = 3 from rfl]
    rw [dg_is (h := 0) (e := y) (r := (m0 * b + m1) * x + i) (by grind) hy (by grind), dg_is (h := y) (e := m0) (r := m1 * x + i) (by grind) hm0a (by grind), dg_is (h := y * a + m0) (e := m1) (r := i) (by grind) hm1b (by grind), dg_is (h := y * (a * b) + m0 * b + m1) (e := i) (r := 0) (by grind) hi (by grind)]
    grind
  | [], [_, _], _, hp, hst, up =>
    obtain ⟨a, rfl, ha, hda⟩ := up _ (List.mem_cons_self ..)
    obtain ⟨b, rfl, hb, hdb⟩ := up _ (List.mem_cons_of_mem _ (List.mem_cons_self ..))
    obtain rfl : st = a * b := by simp [prodZ, hda, hdb, ← Int.natCast_mul] at hst; omega
    obtain rfl : p = 1 := by simp [prodZ] at hp; omega
    obtain rfl : m = 0 := by omega
    obtain ⟨w0, hw0⟩ : ∃ z, z = w / b := ⟨_, rfl⟩
    obtain ⟨w1, hw1⟩ : ∃ z, z = w % b := ⟨_, rfl⟩
    have ew : w = w0 * b + w1 := by rw [hw0, hw1, Nat.mul_comm]; exact (Nat.div_add_mod w b).symm
    have hw0a : w0 < a := by rw [hw0]; exact Nat.div_lt_of_lt_mul (by rw [Nat.mul_comm]; exact hw)
    have hw1b : w1 < b := by rw [hw1]; exact Nat.mod_lt _ hb
    clear hw0 hw1
    subst ew
    have hQ : w0 * b + w1 < a * b := place_lt9 hw0a hw1b
    have eu : swapU 4 1 = [1, 0, 2, 3] := by decide
    show trN [(x : Int), (K : Int), (a : Int), (b : Int)] [(K : Int), (x : Int), (a : Int), (b : Int)] (swapU 4 1) _ 4 = _
    rw [eu]
    simp only [trN, dg9, List.drop_succ_cons, List.drop_zero, List.getD_cons_zero, List.getD_cons_succ, prodZ, hx, hK, hda, hdb, Int.toNat_natCast, Int.mul_one, Int.toNat_one, Int.toNat_zero, Nat.reduceAdd, ← Int.natCast_mul, show (2 : Int).toNat = 2 from rfl, show (3 : Int).toNat = 3 from rfl]
    rw [dg_is (h := 0) (e := y) (r := i * (a * b) + (w0 * b + w1)) (by grind) hy (by grind), dg_is (h := y) (e := i) (r := w0 * b + w1) (by grind) hi (by grind), dg_is (h := y * x + i) (e := w0) (r := w1) (by grind) hw0a (by grind), dg_is (h := (y * x + i) * a + w0) (e := w1) (r := 0) (by grind) hw1b (by grind)]
    grind
  | _ :: _ :: _ :: _, B, hn, _, _, _ => simp at hn; omega
  | M, _ :: _ :: _ :: _, hn, _, _, _ => simp at hn; omega
  | [_], [_, _], hn, _, _, _ => simp at hn
  | [_, _], [_], hn, _, _, _ => simp at hn
  | [_, _], [_, _], hn, _, _, _ => simp at hn

end Go.Proofs.Ytomhbhhfbbdilaa
