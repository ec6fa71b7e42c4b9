/- Plain facts: sums along a direction, number by number. -/
import Derived.Test.YtomhbhhfbbdilaaGreatDoorPm21M
namespace Go.Proofs.YtomhbhhfbbdilaaGreatDoor
open Go.RowKit
set_option linter.unusedVariables false
set_option linter.unusedSimpArgs false

/-- The sum of the first numbers, not wrapped. -/
def exS (f : Nat → Int) : Nat → Int
  | 0 => 0
  | q + 1 => exS f q + f q

theorem sumF_ex (f : Nat → Int) (q : Nat) : sumF f q = wrap32 (exS f q) := by
  induction q with
  | zero => rw [sumF, exS, wrap32_id ⟨by decide, by decide⟩]
  | succ q ih =>
    rw [sumF, exS, ih]
    unfold add32 wrap32
    omega

theorem exS_congr {f g : Nat → Int} {q : Nat} (h : ∀ j, j < q → f j = g j) : exS f q = exS g q := by
  induction q with
  | zero => rfl
  | succ q ih => rw [exS, exS, ih (fun j hj => h j (by omega)), h q (by omega)]

theorem exS_more (f : Nat → Int) (a b : Nat) : exS f (a + b) = exS f a + exS (fun j => f (a + j)) b := by
  induction b with
  | zero => rw [Nat.add_zero, exS, Int.add_zero]
  | succ b ih => rw [← Nat.add_assoc, exS, ih, exS, Int.add_assoc]

theorem exS_rows (f : Nat → Int) (a b : Nat) : exS (fun i => exS (fun j => f (i * b + j)) b) a = exS f (a * b) := by
  induction a with
  | zero => rw [Nat.zero_mul]; rfl
  | succ a ih => rw [exS, ih, Nat.succ_mul, exS_more]

theorem exS_one (x : Nat → Int) (c n : Nat) : exS (fun i => if i = c then x i else 0) n = if c < n then x c else 0 := by
  induction n with
  | zero => rfl
  | succ n ih =>
    rw [exS, ih]
    by_cases e : n = c
    · subst e
      rw [if_neg (by omega), if_pos rfl, if_pos (by omega), Int.zero_add]
    · rw [if_neg e, Int.add_zero]
      by_cases h : c < n
      · rw [if_pos h, if_pos (by omega)]
      · rw [if_neg h, if_neg (by omega)]

theorem exS_none (n : Nat) : exS (fun _ => 0) n = 0 := by
  induction n with
  | zero => rfl
  | succ n ih => rw [exS, ih]; rfl

/-- Where the i-th number is put together. -/
def toSum (K st i : Nat) : Nat := i / st / K * st + i % st

theorem toSum_lt {P K st i : Nat} (h : i < P * K * st) : toSum K st i < P * st := by
  have hst : 0 < st := by rcases Nat.eq_zero_or_pos st with e | e; · rw [e, Nat.mul_zero] at h; omega
                          · exact e
  have hu : i / st / K < P := by
    rw [Nat.div_div_eq_div_mul]
    exact Nat.div_lt_of_lt_mul (by rw [Nat.mul_comm st K, Nat.mul_comm, ← Nat.mul_assoc]; exact h)
  exact place_lt9 hu (Nat.mod_lt _ hst)

/-- What stands at k behind the first i numbers. -/
def partS (l : List Int) (K st k i : Nat) : Int := sumF (fun j => if toSum K st j = k then l.getD j 0 else 0) i

theorem partS_all {l : List Int} {P K st k : Nat} (hK : 1 ≤ K) (hst : 1 ≤ st) (hk : k < P * st) : partS l K st k (P * K * st) = sumN9 l K st k K := by
  rw [partS, sumN9_eq, sumF_ex, sumF_ex]
  congr 1
  have hu : k / st < P := Nat.div_lt_of_lt_mul (by rw [Nat.mul_comm]; exact hk)
  have hw : k % st < st := Nat.mod_lt _ hst
  have ek : k = k / st * st + k % st := by rw [Nat.mul_comm]; exact (Nat.div_add_mod k st).symm
  obtain ⟨u, hu0⟩ : ∃ u, u = k / st := ⟨_, rfl⟩
  obtain ⟨w, hw0⟩ : ∃ w, w = k % st := ⟨_, rfl⟩
  rw [← hu0] at hu ek ⊢
  rw [← hw0] at hw ek ⊢
  have e1 : ∀ a q b, a < P → q < K → b < st → ((if toSum K st ((a * K + q) * st + b) = k then l.getD ((a * K + q) * st + b) 0 else 0) = if a = u then (if b = w then l.getD ((u * K + q) * st + w) 0 else 0) else 0) := by
    intro a q b ha hq hb
    have t1 : ((a * K + q) * st + b) / st = a * K + q := by rw [Nat.mul_comm, Nat.mul_add_div (by omega), Nat.div_eq_of_lt hb, Nat.add_zero]
    have t2 : ((a * K + q) * st + b) % st = b := by rw [Nat.mul_comm, Nat.mul_add_mod, Nat.mod_eq_of_lt hb]
    have t3 : (a * K + q) / K = a := by rw [Nat.mul_comm, Nat.mul_add_div (by omega), Nat.div_eq_of_lt hq, Nat.add_zero]
    rw [toSum, t1, t2, t3, ek]
    by_cases c1 : a = u
    · subst c1
      rw [if_pos rfl]
      by_cases c2 : b = w
      · subst c2; rw [if_pos rfl, if_pos rfl]
      · rw [if_neg c2, if_neg (by omega)]
    · rw [if_neg c1, if_neg]
      intro e
      have d1 : (a * st + b) / st = a := by rw [Nat.mul_comm, Nat.mul_add_div (by omega), Nat.div_eq_of_lt hb, Nat.add_zero]
      have d2 : (u * st + w) / st = u := by rw [Nat.mul_comm, Nat.mul_add_div (by omega), Nat.div_eq_of_lt hw, Nat.add_zero]
      rw [e, d2] at d1
      exact c1 d1.symm
  rw [Nat.mul_assoc, ← exS_rows]
  have e2 : ∀ a, a < P → exS (fun j => if toSum K st (a * (K * st) + j) = k then l.getD (a * (K * st) + j) 0 else 0) (K * st) = if a = u then exS (fun q => l.getD ((u * K + q) * st + w) 0) K else 0 := by
    intro a ha
    rw [← exS_rows]
    have e3 : ∀ q, q < K → exS (fun b => if toSum K st (a * (K * st) + (q * st + b)) = k then l.getD (a * (K * st) + (q * st + b)) 0 else 0) st = if a = u then l.getD ((u * K + q) * st + w) 0 else 0 := by
      intro q hq
      have e4 : ∀ b, b < st → (if toSum K st (a * (K * st) + (q * st + b)) = k then l.getD (a * (K * st) + (q * st + b)) 0 else 0) = if b = w then (if a = u then l.getD ((u * K + q) * st + w) 0 else 0) else 0 := by
        intro b hb
        have ep : a * (K * st) + (q * st + b) = (a * K + q) * st + b := by grind
        rw [ep, e1 a q b ha hq hb]
        by_cases c1 : a = u
        · rw [if_pos c1, if_pos c1]
        · rw [if_neg c1, if_neg c1, ite_self]
      rw [exS_congr e4, exS_one (fun _ => if a = u then l.getD ((u * K + q) * st + w) 0 else 0), if_pos hw]
    rw [exS_congr e3]
    by_cases c1 : a = u
    · simp only [if_pos c1]
    · simp only [if_neg c1]
      exact exS_none K
  rw [exS_congr e2, exS_one (fun _ => exS (fun q => l.getD ((u * K + q) * st + w) 0) K), if_pos hu]

theorem partS_step (l : List Int) (K st k i : Nat) : partS l K st k (i + 1) = if toSum K st i = k then add32 (partS l K st k i) (l.getD i 0) else partS l K st k i := by
  rw [partS, sumF]
  by_cases e : toSum K st i = k
  · rw [if_pos e, if_pos e]; rfl
  · rw [if_neg e, if_neg e, add32_zero' (sumF_range _ _)]; rfl

/-- Sums put together, behind the first i numbers. -/
def partL (l : List Int) (K st R i : Nat) : List Int := (List.range R).map fun k => partS l K st k i

theorem partL_len (l : List Int) (K st R i : Nat) : (partL l K st R i).length = R := by simp [partL]

theorem partL_at {l : List Int} {K st R i k : Nat} (h : k < R) : (partL l K st R i).getD k 0 = partS l K st k i := by simp [partL, List.getD, h]

theorem partL_zero (l : List Int) (K st R : Nat) : partL l K st R 0 = List.replicate R 0 := by
  refine list_ext9 (by rw [partL_len, List.length_replicate]) fun k hk => ?_
  rw [partL_len] at hk
  rw [partL_at hk, List.getD_eq_getElem?_getD, List.getElem?_replicate_of_lt hk]
  rfl

theorem partL_step {l : List Int} {K st R i : Nat} (h : toSum K st i < R) : (partL l K st R i).set (toSum K st i) (add32 (partS l K st (toSum K st i) i) (l.getD i 0)) = partL l K st R (i + 1) := by
  refine list_ext9 (by rw [List.length_set, partL_len, partL_len]) fun k hk => ?_
  rw [List.length_set, partL_len] at hk
  rw [partL_at hk, partS_step]
  by_cases e : toSum K st i = k
  · rw [if_pos e, ← e, List.getD_eq_getElem?_getD, List.getElem?_set_self (by rw [partL_len]; exact h), Option.getD_some]
  · rw [if_neg e, List.getD_eq_getElem?_getD, List.getElem?_set_ne e, ← List.getD_eq_getElem?_getD, partL_at hk]

theorem partL_all {l : List Int} {P K st : Nat} (hK : 1 ≤ K) (hst : 1 ≤ st) : partL l K st (P * st) (P * K * st) = sumL9 l K st (P * st) := by
  refine list_ext9 (by rw [partL_len, sumL9_len]) fun k hk => ?_
  rw [partL_len] at hk
  rw [partL_at hk, sumL9_at hk, partS_all hK hst hk]

/-- A list of coordinates without one. -/
def withoutL (xs : List Int) (a : Nat) : List Int := xs.take a ++ xs.drop (a + 1)

theorem digs_append : ∀ (A T : List Int) (i : Int), AllDim A → AllDim T → 0 ≤ i → digs (A ++ T) i = digs A (i / prodZ T) ++ digs T i
  | [], T, i, _, _, _ => by simp [digs]
  | x :: A, T, i, h, hT, hi => by
    have hp := hT.pos
    have hq := h.tail.pos
    rw [List.cons_append, digs, digs, List.cons_append, digs_append A T i h.tail hT hi, prodZ_append]
    congr 2
    rw [Int.mul_comm (prodZ A), Int.ediv_ediv_of_nonneg (by omega)]

theorem valI_append : ∀ {A B x y : List Int}, A.length = x.length → valI (A ++ B) (x ++ y) = valI A x * prodZ B + valI B y
  | [], B, [], y, _ => by simp [valI]
  | a :: A, B, b :: x, y, h => by
    rw [List.cons_append, List.cons_append, valI, valI, valI_append (by simpa using h), prodZ_append, Int.add_mul]
    have e : prodZ A * b * prodZ B = prodZ A * prodZ B * b := by rw [Int.mul_assoc, Int.mul_comm b, ← Int.mul_assoc]
    rw [e]
    omega

/-- Where the reference puts a number together. -/
theorem sum_there {s : List Int} {n m a : Nat} (hk : tenOk s m = true) (hs : s.length = n) (ha : a < n) (hn : 2 ≤ n) {i : Nat} (hi : i < m) :
    okAt (woL s a) (withoutL (digs s (i : Int)) a) = true ∧ valI (woL s a) (withoutL (digs s (i : Int)) a) = (toSum (s.getD a 0).toNat (prodZ (s.drop (a + 1))).toNat i : Int) := by
  obtain ⟨q1, q2⟩ := tenOk_iff.1 hk
  have hd := size_dims q1
  obtain ⟨P, K, st, e1, e2, e3, e4, p1, p2, p3, e5, _⟩ := wo_facts hk (show a < s.length by omega)
  obtain ⟨X, Y, hX, hY, hs2, hxl⟩ : ∃ X Y, X = s.take a ∧ Y = s.drop (a + 1) ∧ s = X ++ (K : Int) :: Y ∧ X.length = a := by
    refine ⟨_, _, rfl, rfl, ?_, by rw [List.length_take]; omega⟩
    rw [← e1, ← drop_at (by omega), List.take_append_drop]
  rw [← hY] at e2
  rw [← hX] at e3
  have hdX : AllDim X := fun d h => hd d (by rw [hs2]; simp [h])
  have hdY : AllDim Y := fun d h => hd d (by rw [hs2]; simp [h])
  have hdK : AllDim ((K : Int) :: Y) := fun d h => hd d (by rw [hs2]; exact List.mem_append_right _ h)
  have hwo : woL s a = X ++ Y := by rw [woL_more (by omega), hX, hY]
  have hpk : prodZ ((K : Int) :: Y) = ((K * st : Nat) : Int) := by
    have := (hdK (K : Int) (by simp)).2.2
    rw [prodZ, this, e2, Int.natCast_mul]
  have hdg : digs s (i : Int) = digs X ((i : Int) / ((K * st : Nat) : Int)) ++ ((i : Int) / (st : Int) % (K : Int) :: digs Y (i : Int)) := by
    rw [hs2, digs_append X _ _ hdX hdK (by omega), hpk, digs, e2]
  have hlx : (digs X ((i : Int) / ((K * st : Nat) : Int))).length = a := by rw [digs_len, hxl]
  have hw2 : withoutL (digs s (i : Int)) a = digs X ((i : Int) / ((K * st : Nat) : Int)) ++ digs Y (i : Int) := by
    rw [withoutL, hdg, ← hlx]
    simp [List.drop_append]
  have hal : allIn (X ++ Y) (digs X ((i : Int) / ((K * st : Nat) : Int)) ++ digs Y (i : Int)) = true := by
    refine allIn_of fun j h1 h2 => ?_
    rw [List.length_append] at h1
    by_cases hj : j < X.length
    · rw [List.getD_eq_getElem?_getD, List.getD_eq_getElem?_getD, List.getElem?_append_left (by rw [digs_len]; exact hj), List.getElem?_append_left hj, ← List.getD_eq_getElem?_getD, ← List.getD_eq_getElem?_getD]
      exact allIn_at9 (digs_in hdX _) j hj (by rw [digs_len]; exact hj)
    · rw [List.getD_eq_getElem?_getD, List.getD_eq_getElem?_getD, List.getElem?_append_right (by rw [digs_len]; omega), List.getElem?_append_right (by omega), digs_len, ← List.getD_eq_getElem?_getD, ← List.getD_eq_getElem?_getD]
      exact allIn_at9 (digs_in hdY _) _ (by omega) (by rw [digs_len]; omega)
  have hpos : 0 < sizeI (woL s a) := by rw [e5]; have := Nat.mul_pos p1 p3; omega
  refine ⟨?_, ?_⟩
  · rw [hw2, hwo]
    rw [hwo] at hpos
    have hl9 : (digs X ((i : Int) / ((K * st : Nat) : Int)) ++ digs Y (i : Int)).length = (X ++ Y).length := by rw [List.length_append, digs_len, digs_len, List.length_append]
    unfold okAt
    rw [decide_eq_true hpos, decide_eq_true hl9, hal]
    rfl
  · have hi9 : i / (K * st) < P := Nat.div_lt_of_lt_mul (by rw [e4] at hi; rw [Nat.mul_comm, ← Nat.mul_assoc]; exact hi)
    have e8 : (i : Int) / ((K * st : Nat) : Int) = ((i / (K * st) : Nat) : Int) := (Int.natCast_ediv _ _).symm
    rw [hw2, hwo, valI_append (by rw [digs_len]), valI_digs hdX _ (by rw [e8]; exact Int.natCast_nonneg _), valI_digs hdY _ (by omega), e3, e2, e8, Int.emod_eq_of_lt (Int.natCast_nonneg _) (Int.ofNat_lt.2 hi9), e1, hY.symm, e2, Int.toNat_natCast, Int.toNat_natCast, toSum, Nat.div_div_eq_div_mul, Nat.mul_comm st K, Int.natCast_add, Int.natCast_mul, Int.natCast_emod]

end Go.Proofs.YtomhbhhfbbdilaaGreatDoor
