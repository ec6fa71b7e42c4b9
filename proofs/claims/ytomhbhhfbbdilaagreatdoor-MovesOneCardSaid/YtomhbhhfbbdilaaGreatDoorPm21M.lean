/- Plain facts: a tensor turned, number by number, from where each stood. -/
import Derived.Test.YtomhbhhfbbdilaaGreatDoorPm17M
import Derived.Test.YtomhbhhfbbdilaaGreatDoorMv11M
import Derived.Test.YtomhbhhfbbdilaaGreatDoorShapeMathM
namespace Go.Proofs.YtomhbhhfbbdilaaGreatDoor
open Go.RowKit
set_option linter.unusedVariables false
set_option linter.unusedSimpArgs false
set_option maxRecDepth 100000

/-- As many different places as there are: all of them. -/
theorem pigeon : ∀ (m : Nat) (f : Nat → Nat), (∀ i, i < m → f i < m) → (∀ i j, i < m → j < m → f i = f j → i = j) → ∀ k, k < m → ∃ i, i < m ∧ f i = k
  | 0, _, _, _, k, hk => absurd hk (by omega)
  | m + 1, f, h1, h2, k, hk => by
    by_cases hex : ∃ i, i < m + 1 ∧ f i = k
    · exact hex
    · exfalso
      have hne : ∀ i, i < m + 1 → f i ≠ k := fun i hi e => hex ⟨i, hi, e⟩
      have g1 : ∀ i, i < m + 1 → (if f i = m then k else f i) < m := by
        intro i hi
        have := h1 i hi
        have h3 := hne i hi
        split
        · omega
        · omega
      have g2 : ∀ i j, i < m + 1 → j < m + 1 → (if f i = m then k else f i) = (if f j = m then k else f j) → i = j := by
        intro i j hi hj e
        have h3 := hne i hi
        have h4 := hne j hj
        refine h2 i j hi hj ?_
        split at e <;> split at e <;> omega
      obtain ⟨j, hj, e⟩ := pigeon m (fun i => if f i = m then k else f i) (fun i hi => g1 i (by omega)) (fun i j hi hj => g2 i j (by omega) (by omega)) _ (g1 m (by omega))
      have := g2 j m (by omega) (by omega) e
      omega

/-- The sum of what stands at the places of a list. -/
def sumH (u : List Int) (h : Nat → Nat) : Nat → Nat
  | 0 => 0
  | i + 1 => sumH u h i + h (u.getD i 0).toNat

def sumI (h : Nat → Nat) : Nat → Nat
  | 0 => 0
  | i + 1 => sumI h i + h i

theorem sumH_all {u : List Int} {n : Nat} (hu : ordOk u n = true) (hn : n ≤ 4) (h : Nat → Nat) : sumH u h n = sumI h n := by
  obtain ⟨hl, hm⟩ := ordOk_iff.1 hu
  match n, u, hl with
  | 0, _, _ => simp [sumH, sumI]
  | 1, [a], _ =>
    have h0 := hm 0 (by omega)
    simp at h0
    subst h0
    simp [sumH, sumI]
  | 2, [a, b], _ =>
    have h0 := hm 0 (by omega)
    have h1 := hm 1 (by omega)
    simp at h0 h1
    rcases h0 with h0 | h0 <;> rcases h1 with h1 | h1 <;> first | (exfalso; omega) | (subst h0 h1; simp [sumH, sumI]; try omega)
  | 3, [a, b, c], _ =>
    have h0 := hm 0 (by omega)
    have h1 := hm 1 (by omega)
    have h2 := hm 2 (by omega)
    simp at h0 h1 h2
    rcases h0 with h0 | h0 | h0 <;> rcases h1 with h1 | h1 | h1 <;> rcases h2 with h2 | h2 | h2 <;> first | (exfalso; omega) | (subst h0 h1 h2; simp [sumH, sumI]; try omega)
  | 4, [a, b, c, d], _ =>
    have h0 := hm 0 (by omega)
    have h1 := hm 1 (by omega)
    have h2 := hm 2 (by omega)
    have h3 := hm 3 (by omega)
    simp at h0 h1 h2 h3
    rcases h0 with h0 | h0 | h0 | h0 <;> rcases h1 with h1 | h1 | h1 | h1 <;> first | (exfalso; omega) | (rcases h2 with h2 | h2 | h2 | h2 <;> first | (exfalso; omega) | (rcases h3 with h3 | h3 | h3 | h3 <;> first | (exfalso; omega) | (subst h0 h1 h2 h3; simp [sumH, sumI]; try omega)))
  | n + 5, _, _ => omega

/-- Each direction stands there just once. -/
theorem ord_count {u : List Int} {n : Nat} (hn : n ≤ 4) (hl : u.length = n) : ordOk u n = true ↔ ∀ d, d < n → u.count (d : Int) = 1 := by
  constructor
  · intro hu d hd
    have h := sumH_all hu hn (fun z => if z = d then 1 else 0)
    have hr := ord_in hu hn
    have e1 : ∀ k, k ≤ n → sumI (fun z => if z = d then 1 else 0) k = if d < k then 1 else 0 := by
      intro k
      induction k with
      | zero => intro _; simp [sumI]
      | succ k ih =>
        intro hk
        rw [sumI, ih (by omega)]
        by_cases e : k = d
        · rw [if_pos e, if_neg (by omega), if_pos (by omega)]
        · rw [if_neg e]
          by_cases h3 : d < k
          · rw [if_pos h3, if_pos (by omega)]
          · rw [if_neg h3, if_neg (by omega)]
    have e2 : ∀ k, k ≤ n → sumH u (fun z => if z = d then 1 else 0) k = (u.take k).count (d : Int) := by
      intro k
      induction k with
      | zero => intro _; simp [sumH]
      | succ k ih =>
        intro hk
        have hlt : k < u.length := by omega
        have ek : u.take (k + 1) = u.take k ++ [u.getD k 0] := by rw [List.take_succ_eq_append_getElem hlt]; simp [List.getD, hlt]
        have hz := hr k (by omega)
        rw [sumH, ih (by omega), ek, List.count_append, List.count_singleton]
        congr 1
        by_cases e : u.getD k 0 = (d : Int)
        · rw [if_pos (by omega), if_pos (by simpa using e)]
        · rw [if_neg (by omega), if_neg (by simpa using e)]
    have h1 := e1 n (Nat.le_refl _)
    have h2 := e2 n (Nat.le_refl _)
    rw [List.take_of_length_le (by omega)] at h2
    rw [← h2, h, h1, if_pos hd]
  · intro h
    refine ordOk_iff.2 ⟨hl, fun d hd => ?_⟩
    have := h d hd
    exact List.count_pos_iff.1 (by omega)

theorem digs_at : ∀ (xs : List Int) (i : Int) (j : Nat), j < xs.length → (digs xs i).getD j 0 = i / prodZ (xs.drop (j + 1)) % xs.getD j 0
  | [], _, _, h => by simp at h
  | x :: xs, i, 0, _ => by simp [digs]
  | x :: xs, i, j + 1, h => by
    rw [digs, List.getD_cons_succ, digs_at xs i j (by simpa using h)]
    rfl

/-- A place's coordinates, turned. -/
def toAt (s u : List Int) (i : Nat) : List Int := pickL (digs s (i : Int)) u

theorem allIn_at9 : ∀ {xs ys : List Int}, allIn xs ys = true → ∀ j, j < xs.length → j < ys.length → 0 ≤ ys.getD j 0 ∧ ys.getD j 0 < xs.getD j 0
  | [], _, _, j, h, _ => by simp at h
  | _ :: _, [], _, j, _, h => by simp at h
  | x :: xs, y :: ys, h, 0, _, _ => by
    rw [allIn] at h
    simp only [Bool.and_eq_true, decide_eq_true_eq] at h
    exact ⟨h.1.2, h.2⟩
  | x :: xs, y :: ys, h, j + 1, h1, h2 => by
    rw [allIn] at h
    simp only [Bool.and_eq_true, decide_eq_true_eq] at h
    simpa using allIn_at9 h.1.1 j (by simpa using h1) (by simpa using h2)

theorem allIn_of : ∀ {xs ys : List Int}, (∀ j, j < xs.length → j < ys.length → 0 ≤ ys.getD j 0 ∧ ys.getD j 0 < xs.getD j 0) → allIn xs ys = true
  | [], ys, _ => by cases ys <;> rfl
  | _ :: _, [], _ => rfl
  | x :: xs, y :: ys, h => by
    have h0 := h 0 (by simp) (by simp)
    have ht := allIn_of (xs := xs) (ys := ys) (fun j h1 h2 => by simpa using h (j + 1) (by simpa using h1) (by simpa using h2))
    rw [allIn, ht]
    simp at h0
    simp [h0]

theorem digs_valI : ∀ {xs ys : List Int}, AllDim xs → xs.length = ys.length → allIn xs ys = true → digs xs (valI xs ys) = ys
  | [], [], _, _, _ => rfl
  | x :: xs, y :: ys, h, hl, hi => by
    rw [allIn] at hi
    simp only [Bool.and_eq_true, decide_eq_true_eq] at hi
    obtain ⟨⟨hi1, hi2⟩, hi3⟩ := hi
    obtain ⟨b0, b1⟩ := valI_bound h.tail hi1
    have hp := h.tail.pos
    have e1 : (valI xs ys + prodZ xs * y) / prodZ xs = y := by
      rw [Int.add_mul_ediv_left _ _ (by omega), Int.ediv_eq_zero_of_lt b0 b1, Int.zero_add]
    have e2 : digs xs (valI xs ys + prodZ xs * y) = digs xs (valI xs ys) := digs_more h.tail b0 hi2
    rw [valI, digs, e1, e2, digs_valI h.tail (by simpa using hl) hi1, Int.emod_eq_of_lt hi2 hi3]
where
  digs_more : ∀ {xs : List Int}, AllDim xs → ∀ {v y : Int}, 0 ≤ v → 0 ≤ y → digs xs (v + prodZ xs * y) = digs xs v
    | [], _, _, _, _, _ => rfl
    | x :: xs, h, v, y, hv, hy => by
      obtain ⟨h1, _, h3⟩ := h x (List.mem_cons_self ..)
      have hp := h.tail.pos
      have e : v + prodZ (x :: xs) * y = v + prodZ xs * (x * y) := by rw [prodZ, h3, Int.mul_comm x, Int.mul_assoc]
      rw [e, digs, digs, digs_more h.tail hv (Int.mul_nonneg (by omega) hy), Int.add_mul_ediv_left _ _ (by omega), Int.add_mul_emod_self_left]

theorem valI_sum : ∀ {n : Nat} {s ys : List Int}, AllDim s → s.length = n → ys.length = n → (∀ j, j < n → 0 ≤ ys.getD j 0) → ∀ k, k ≤ n → (sumI (fun d => (ys.getD d 0).toNat * (prodZ (s.drop (d + 1))).toNat) k : Int) + valI (s.drop k) (ys.drop k) = valI s ys
  | n, s, ys, hd, hs, hy, h0, 0, _ => by simp [sumI]
  | n, s, ys, hd, hs, hy, h0, k + 1, hk => by
    have ih := valI_sum hd hs hy h0 k (by omega)
    have e := valI_drop (xs := s) (ys := ys) (k := k) (by omega) (by omega)
    have hk0 := h0 k (by omega)
    have n1 := prodZ_nonneg (s.drop (k + 1))
    obtain ⟨S, hS⟩ := Int.eq_ofNat_of_zero_le n1
    obtain ⟨y, hyy⟩ := Int.eq_ofNat_of_zero_le hk0
    rw [← ih, e, sumI, hS, hyy, Int.toNat_natCast, Int.toNat_natCast, Int.natCast_add, Int.natCast_mul, Int.mul_comm (S : Int)]
    omega

/-- Where a number goes, it comes from there. -/
theorem turn_there {s u : List Int} {n m : Nat} (hk : tenOk s m = true) (hs : s.length = n) (hu : ordOk u n = true) {i : Nat} (hi : i < m) :
    okAt (pickL s u) (toAt s u i) = true ∧ 0 ≤ valI (pickL s u) (toAt s u i) ∧ valI (pickL s u) (toAt s u i) < (m : Int) ∧ trN s (pickL s u) u (valI (pickL s u) (toAt s u i)).toNat n = i := by
  obtain ⟨q1, q2⟩ := tenOk_iff.1 hk
  obtain ⟨_, hn4, hz⟩ := sizeI_pos q1
  rw [hs] at hn4
  have hd := size_dims q1
  have hps := pick_size hs hu hn4
  have hdp : AllDim (pickL s u) := size_dims (by rw [hps]; exact q1)
  obtain ⟨hul, hum⟩ := ordOk_iff.1 hu
  have hin := ord_in hu hn4
  have hdl : (digs s (i : Int)).length = n := by rw [digs_len, hs]
  have hdi := digs_in hd (i : Int)
  have hal : allIn (pickL s u) (toAt s u i) = true := by
    refine allIn_of fun j h1 h2 => ?_
    rw [pickL_len] at h1
    obtain ⟨b0, b1⟩ := hin j (by omega)
    rw [toAt, pickL_at h1, pickL_at h1]
    exact allIn_at9 hdi _ (by omega) (by omega)
  have hlen : (toAt s u i).length = (pickL s u).length := by rw [toAt, pickL_len, pickL_len]
  obtain ⟨v0, v1⟩ := valI_bound hdp hal
  have hpz : prodZ (pickL s u) = (m : Int) := by rw [pick_prod hs hu hn4, ← hz, q2]
  have hdv := digs_valI hdp hlen.symm hal
  refine ⟨by simp [okAt, hps, q1, hlen, hal], v0, by omega, ?_⟩
  obtain ⟨V, hV⟩ := Int.eq_ofNat_of_zero_le v0
  rw [hV, Int.toNat_natCast]
  rw [hV] at hdv
  have key : ∀ k, k ≤ n → trN s (pickL s u) u V k = sumH u (fun d => ((digs s (i : Int)).getD d 0).toNat * (prodZ (s.drop (d + 1))).toNat) k := by
    intro k
    induction k with
    | zero => intro _; rfl
    | succ k ih =>
      intro hk'
      rw [trN, sumH, ih (by omega)]
      congr 2
      have e := digs_at (pickL s u) (V : Int) k (by rw [pickL_len]; omega)
      rw [hdv, toAt, pickL_at (by omega)] at e
      have hkd := hdp.at (k := k) (by rw [pickL_len]; omega)
      have n1 := prodZ_nonneg ((pickL s u).drop (k + 1))
      obtain ⟨S, hS⟩ := Int.eq_ofNat_of_zero_le n1
      obtain ⟨K, hK⟩ := Int.eq_ofNat_of_zero_le (show 0 ≤ (pickL s u).getD k 0 by omega)
      rw [dg9, e, hS, hK, Int.toNat_natCast, Int.toNat_natCast, ← Int.natCast_ediv, ← Int.natCast_emod, Int.toNat_natCast]
  rw [key n (Nat.le_refl _), sumH_all hu hn4]
  have h9 := valI_sum hd hs hdl (fun j hj => (allIn_at9 hdi j (by omega) (by omega)).1) n (Nat.le_refl _)
  rw [List.drop_eq_nil_of_le (by omega), valI_digs hd _ (by omega)] at h9
  have e0 : valI ([] : List Int) ((digs s (i : Int)).drop n) = 0 := rfl
  have hmod : (i : Int) % prodZ s = (i : Int) := Int.emod_eq_of_lt (by omega) (by omega)
  rw [e0, hmod] at h9
  omega

/-- What is turned, after the first numbers are laid. -/
def laidT (s u l : List Int) (m k : Nat) (zs : List Int) : Prop := zs.length = m ∧ ∀ i, i < k → zs.getD (valI (pickL s u) (toAt s u i)).toNat 0 = l.getD i 0

theorem laidT_step {s u l zs : List Int} {n m k : Nat} (hk : tenOk s m = true) (hs : s.length = n) (hu : ordOk u n = true) (h : laidT s u l m k zs) (hkm : k < m) : laidT s u l m (k + 1) (zs.set (valI (pickL s u) (toAt s u k)).toNat (l.getD k 0)) := by
  obtain ⟨h1, h2⟩ := h
  obtain ⟨_, a0, a1, a2⟩ := turn_there hk hs hu hkm
  refine ⟨by rw [List.length_set]; exact h1, fun i hi => ?_⟩
  by_cases e : i = k
  · subst e
    rw [List.getD_eq_getElem?_getD, List.getElem?_set_self (by omega), Option.getD_some]
  · obtain ⟨_, b0, b1, b2⟩ := turn_there hk hs hu (i := i) (by omega)
    have hne : (valI (pickL s u) (toAt s u k)).toNat ≠ (valI (pickL s u) (toAt s u i)).toNat := by
      intro e2
      rw [e2, b2] at a2
      exact e a2
    rw [List.getD_eq_getElem?_getD, List.getElem?_set_ne hne, ← List.getD_eq_getElem?_getD]
    exact h2 i (by omega)

theorem laidT_all {s u l zs : List Int} {n m : Nat} (hk : tenOk s m = true) (hs : s.length = n) (hu : ordOk u n = true) (h : laidT s u l m m zs) : zs = turnL s l u m := by
  obtain ⟨h1, h2⟩ := h
  refine list_ext9 (by rw [h1, turnL_len]) fun k hk2 => ?_
  rw [h1] at hk2
  obtain ⟨i, hi, e⟩ := pigeon m (fun i => (valI (pickL s u) (toAt s u i)).toNat) (fun i hi => by have := turn_there hk hs hu hi; omega) (fun i j hi hj e => by
    obtain ⟨_, _, _, b2⟩ := turn_there hk hs hu hi
    obtain ⟨_, _, _, c2⟩ := turn_there hk hs hu hj
    rw [e] at b2
    rw [b2] at c2
    exact c2) k hk2
  obtain ⟨_, _, _, b2⟩ := turn_there hk hs hu hi
  rw [turnL_at hk2, hs, ← e, b2]
  exact h2 i hi

end Go.Proofs.YtomhbhhfbbdilaaGreatDoor
