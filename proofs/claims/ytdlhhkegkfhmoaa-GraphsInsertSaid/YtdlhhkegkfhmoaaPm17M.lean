/- Plain facts of tensors' sums: along two directions in either order, along all. -/
import Derived.Test.YtdlhhkegkfhmoaaPm16M
import Derived.Test.YtdlhhkegkfhmoaaWB
namespace Go.Proofs.Ytdlhhkegkfhmoaa
open Go.RowKit
set_option linter.unusedVariables false
set_option linter.unusedSimpArgs false

/-- The sums of a tensor along a direction. -/
def sumT (s l : List Int) (a : Nat) : List Int := sumL9 l (s.getD a 0).toNat (prodZ (s.drop (a + 1))).toNat ((prodZ (s.take a)).toNat * (prodZ (s.drop (a + 1))).toNat)

theorem sm_ok {s : List Int} {m a : Nat} (h : tenOk s m = true) (ha : a < s.length) : smE s m (a : Int) = 0 := smE_iff.2 ⟨h, by omega, by omega⟩

theorem smS_ok {s : List Int} {m a : Nat} (h : tenOk s m = true) (ha : a < s.length) : smS s m (a : Int) = woL s a := by rw [smS, if_pos (sm_ok h ha)]; rfl

theorem smL_ok {s l : List Int} {m a : Nat} (h : tenOk s m = true) (ha : a < s.length) : smL s m l (a : Int) = sumT s l a := by rw [smL, if_pos (sm_ok h ha)]; rfl

theorem sumT_len {s l : List Int} {m a : Nat} (h : tenOk s m = true) (ha : a < s.length) : sizeI (woL s a) = ((sumT s l a).length : Int) ∧ 0 < sizeI (woL s a) := by
  obtain ⟨P, KK, st, e1, e2, e3, _, p1, _, p3, e4, _⟩ := wo_facts h ha
  have e5 : (sumT s l a).length = P * st := by rw [sumT, sumL9_len, e2, e3]; rfl
  rw [e5, e4]
  have : 0 < P * st := Nat.mul_pos p1 p3
  exact ⟨rfl, by omega⟩

theorem sumT_ok {s l : List Int} {m a : Nat} (h : tenOk s m = true) (ha : a < s.length) : tenOk (woL s a) (sumT s l a).length = true := by
  obtain ⟨h1, h2⟩ := sumT_len (l := l) h ha
  exact tenOk_iff.2 ⟨h2, h1⟩

theorem sumT_zip {s l u : List Int} (h : l.length = u.length) (a : Nat) : sumT s (List.zipWith add32 l u) a = List.zipWith add32 (sumT s l a) (sumT s u a) := sumL9_zip h _ _ _

theorem wo_len {s : List Int} {a : Nat} (ha : a < s.length) (h2 : 2 ≤ s.length) : (woL s a).length = s.length - 1 := by
  rw [woL_more (by omega), List.length_append, List.length_take, List.length_drop]
  omega

theorem sumT_at (X Y : List Int) (K : Int) (l : List Int) : sumT (X ++ K :: Y) l X.length = sumL9 l K.toNat (prodZ Y).toNat ((prodZ X).toNat * (prodZ Y).toNat) := by
  have e1 : (X ++ K :: Y).drop (X.length + 1) = Y := by simp [List.drop_append]
  have e2 : (X ++ K :: Y).take X.length = X := by simp
  have e3 : (X ++ K :: Y).getD X.length 0 = K := by simp [List.getD]
  rw [sumT, e1, e2, e3]

theorem woL_at (X Y : List Int) (K : Int) : woL (X ++ K :: Y) X.length = if X.length + Y.length = 0 then [1] else X ++ Y := by
  have e1 : (X ++ K :: Y).drop (X.length + 1) = Y := by simp [List.drop_append]
  have e2 : (X ++ K :: Y).take X.length = X := by simp
  by_cases h : X.length + Y.length = 0
  · rw [if_pos h, woL_one (by simp; omega)]
  · rw [if_neg h, woL_more (by simp; omega), e1, e2]

theorem two_parts {s : List Int} {a b : Nat} (hab : a < b) (hb : b < s.length) : ∃ A Ka M Kb B, s = A ++ Ka :: (M ++ Kb :: B) ∧ A.length = a ∧ A.length + 1 + M.length = b := by
  refine ⟨s.take a, s.getD a 0, (s.drop (a + 1)).take (b - (a + 1)), s.getD b 0, s.drop (b + 1), ?_, ?_, ?_⟩
  · have h1 : (s.drop (a + 1)).take (b - (a + 1)) ++ s.getD b 0 :: s.drop (b + 1) = s.drop (a + 1) := by
      have h2 := List.take_append_drop (b - (a + 1)) (s.drop (a + 1))
      rw [List.drop_drop, show a + 1 + (b - (a + 1)) = b by omega, drop_at hb] at h2
      exact h2
    rw [h1, ← drop_at (by omega), List.take_append_drop]
  · rw [List.length_take]; omega
  · rw [List.length_take, List.length_take, List.length_drop]; omega

theorem nat_prod {l : List Int} (h : AllDim l) : ∃ n : Nat, prodZ l = (n : Int) ∧ 1 ≤ n := by
  obtain ⟨n, hn⟩ := Int.eq_ofNat_of_zero_le (prodZ_nonneg l)
  have := h.pos
  exact ⟨n, hn, by omega⟩

theorem sumT_swap {A M B : List Int} {Ka Kb : Int} (l : List Int) (h : AllDim (A ++ Ka :: (M ++ Kb :: B))) :
    sumT (A ++ Ka :: (M ++ B)) (sumT (A ++ Ka :: (M ++ Kb :: B)) l (A.length + 1 + M.length)) A.length = sumT (A ++ (M ++ Kb :: B)) (sumT (A ++ Ka :: (M ++ Kb :: B)) l A.length) (A.length + M.length) := by
  obtain ⟨P, hP, p1⟩ := nat_prod (l := A) (fun d hd => h d (by simp [hd]))
  obtain ⟨Q, hQ, q1⟩ := nat_prod (l := M) (fun d hd => h d (by simp [hd]))
  obtain ⟨S, hS, s1⟩ := nat_prod (l := B) (fun d hd => h d (by simp [hd]))
  obtain ⟨a1, _, a3⟩ := h Ka (by simp)
  obtain ⟨b1, _, b3⟩ := h Kb (by simp)
  obtain ⟨ka, rfl⟩ := Int.eq_ofNat_of_zero_le (show 0 ≤ Ka by omega)
  obtain ⟨kb, rfl⟩ := Int.eq_ofNat_of_zero_le (show 0 ≤ Kb by omega)
  have e1 : A ++ (ka : Int) :: (M ++ (kb : Int) :: B) = (A ++ (ka : Int) :: M) ++ (kb : Int) :: B := by simp
  have e2 : A ++ (M ++ (kb : Int) :: B) = (A ++ M) ++ (kb : Int) :: B := by simp
  have l1 : A.length + 1 + M.length = (A ++ (ka : Int) :: M).length := by simp; omega
  have l2 : A.length + M.length = (A ++ M).length := by simp
  have t1 : sumT (A ++ (ka : Int) :: (M ++ (kb : Int) :: B)) l (A.length + 1 + M.length) = sumL9 l kb S (P * (ka * Q) * S) := by
    rw [e1, l1, sumT_at, hS, prodZ_append, prodZ, a3, hP, hQ, ← Int.natCast_mul, ← Int.natCast_mul]
    rfl
  have t2 : sumT (A ++ (ka : Int) :: (M ++ (kb : Int) :: B)) l A.length = sumL9 l ka (Q * (kb * S)) (P * (Q * (kb * S))) := by
    rw [sumT_at, hP, prodZ_append, prodZ, b3, hQ, hS, ← Int.natCast_mul, ← Int.natCast_mul]
    rfl
  rw [t1, t2, sumT_at, e2, l2, sumT_at, prodZ_append, prodZ_append, hP, hQ, hS, ← Int.natCast_mul, ← Int.natCast_mul]
  have key := sumL9_swap (l := l) (P := P) (Ka := ka) (M := Q) (Kb := kb) (st := S) (by omega) (by omega) (by omega) (by omega)
  rw [Nat.mul_assoc P ka Q, Nat.mul_assoc Q kb S] at key
  exact key

theorem sm_both {s l : List Int} {m a b : Nat} (h : tenOk s m = true) (hab : a < b) (hb : b < s.length) :
    woL (woL s b) a = woL (woL s a) (b - 1) ∧ sumT (woL s b) (sumT s l b) a = sumT (woL s a) (sumT s l a) (b - 1) := by
  have hd := size_dims (tenOk_iff.1 h).1
  obtain ⟨A, Ka, M, Kb, B, rfl, rfl, rfl⟩ := two_parts hab hb
  have e1 : A ++ Ka :: (M ++ Kb :: B) = (A ++ Ka :: M) ++ Kb :: B := by simp
  have l1 : A.length + 1 + M.length = (A ++ Ka :: M).length := by simp; omega
  have w1 : woL (A ++ Ka :: (M ++ Kb :: B)) (A.length + 1 + M.length) = A ++ Ka :: (M ++ B) := by
    rw [e1, l1, woL_at, if_neg (by simp)]
    simp
  have w2 : woL (A ++ Ka :: (M ++ Kb :: B)) A.length = A ++ (M ++ Kb :: B) := by
    rw [woL_at, if_neg (by simp)]
  have l3 : A.length + 1 + M.length - 1 = A.length + M.length := by omega
  have l2 : A.length + M.length = (A ++ M).length := by simp
  have e2 : A ++ (M ++ Kb :: B) = (A ++ M) ++ Kb :: B := by simp
  rw [w1, w2, l3]
  refine ⟨?_, sumT_swap l hd⟩
  rw [woL_at, l2, e2, woL_at]
  simp [List.append_assoc, Nat.add_assoc]

/-- What is left of a tensor when it is summed up along its first direction k times. -/
def AllK (s l : List Int) (k : Nat) (s' l' : List Int) : Prop :=
  tenOk s' l'.length = true ∧ allF l' = allF l ∧ (k < s.length → s'.length = s.length - k) ∧ (0 < k → k = s.length → s' = [1]) ∧ (0 < k → ∀ z ∈ l', -2147483648 ≤ z ∧ z < 2147483648)

theorem AllK.zero {s l : List Int} (h : tenOk s l.length = true) : AllK s l 0 s l := ⟨h, rfl, fun _ => by omega, fun h0 => absurd h0 (by omega), fun h0 => absurd h0 (by omega)⟩

theorem AllK.step {s l s' l' : List Int} {k : Nat} (h : AllK s l k s' l') (hk : k < s.length) : AllK s l (k + 1) (woL s' 0) (sumT s' l' 0) := by
  obtain ⟨h1, h2, h3, _, _⟩ := h
  have hl := h3 hk
  have h0 : 0 < s'.length := by omega
  refine ⟨sumT_ok h1 h0, ?_, fun hk2 => ?_, fun _ hk2 => ?_, fun _ => ?_⟩
  · rw [← h2]
    obtain ⟨P, KK, st, e1, e2, e3, e4, p1, _, _, _, _⟩ := wo_facts h1 h0
    have eP : P = 1 := by
      have : (P : Int) = 1 := by rw [← e3]; rfl
      omega
    rw [sumT, e1, e2, e3, eP]
    have : ((1 : Nat) : Int).toNat * ((st : Int)).toNat = st := by rw [Int.toNat_natCast, Int.toNat_natCast, Nat.one_mul]
    rw [this, Int.toNat_natCast, Int.toNat_natCast]
    exact allF_sum (by rw [e4, eP, Nat.one_mul])
  · rw [wo_len h0 (by omega)]; omega
  · exact woL_one (by omega)
  · intro z hz
    rw [sumT, sumL9] at hz
    obtain ⟨k', _, rfl⟩ := List.mem_map.1 hz
    rw [sumN9_eq]
    exact sumF_range _ _

theorem AllK.last {s l s' l' : List Int} (h : AllK s l s.length s' l') (hp : 0 < s.length) : s' = [1] ∧ l' = [allF l] := by
  obtain ⟨h1, h2, _, h4, h5⟩ := h
  have e := h4 hp rfl
  subst e
  refine ⟨rfl, ?_⟩
  have hz := (tenOk_iff.1 h1).2
  have e1 : sizeI [1] = 1 := by decide
  rw [e1] at hz
  have hl : l'.length = 1 := by omega
  match l', hl with
  | [x], _ =>
    rw [← h2]
    have : allF [x] = add32 0 x := rfl
    rw [this, add32_zero (h5 hp x (by simp))]

end Go.Proofs.Ytdlhhkegkfhmoaa
