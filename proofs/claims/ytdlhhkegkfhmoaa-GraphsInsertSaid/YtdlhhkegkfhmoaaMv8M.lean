/- Contract of moves.Sum: sums along a direction, or refused. -/
import Derived.Test.YtdlhhkegkfhmoaaMv6M
import Derived.Test.YtdlhhkegkfhmoaaWB
namespace Go.Proofs.Ytdlhhkegkfhmoaa
open Go.RowKit
set_option linter.unusedVariables false
set_option linter.unusedSimpArgs false
set_option maxRecDepth 100000

theorem place_lt9 {M n i j : Nat} (hi : i < M) (hj : j < n) : i * n + j < M * n := by
  have h : i * n + n ≤ M * n := by rw [← Nat.succ_mul]; exact Nat.mul_le_mul_right n hi
  omega

def mix9 (zs l : List Int) (k : Nat) : List Int := zs.take k ++ l.drop k

theorem mix9_zero (zs l : List Int) : mix9 zs l 0 = l := by simp [mix9]

theorem mix9_all {zs l : List Int} (h : zs.length = l.length) : mix9 zs l l.length = zs := by
  rw [mix9, List.drop_length, List.append_nil, List.take_of_length_le (by omega)]

theorem mix9_len {zs l : List Int} {k : Nat} (h : zs.length = l.length) (hk : k ≤ l.length) : (mix9 zs l k).length = l.length := by
  simp [mix9]
  omega

theorem mix9_set {zs l : List Int} {k : Nat} (h : zs.length = l.length) (hk : k < l.length) : (mix9 zs l k).set k (zs.getD k 0) = mix9 zs l (k + 1) := by
  apply List.ext_getElem?
  intro j
  have hl : (zs.take k).length = k := by simp; omega
  by_cases e : j = k
  · subst e
    rw [List.getElem?_set_self (by rw [mix9_len h (by omega)]; exact hk), mix9, List.getElem?_append_left (by simp; omega), List.getElem?_take_of_lt (by omega)]
    simp [List.getD, show j < zs.length by omega]
  · rw [List.getElem?_set_ne (by omega)]
    unfold mix9
    by_cases h1 : j < k
    · rw [List.getElem?_append_left (by simp; omega), List.getElem?_append_left (by simp; omega), List.getElem?_take_of_lt h1, List.getElem?_take_of_lt (by omega)]
    · rw [List.getElem?_append_right (by simp; omega), List.getElem?_append_right (by simp; omega), List.getElem?_drop, List.getElem?_drop]
      congr 1
      simp
      omega

theorem mix9_at {zs l : List Int} {k : Nat} (h : zs.length = l.length) (hk : k < l.length) : (mix9 zs l k).getD k 0 = l.getD k 0 := by
  rw [List.getD_eq_getElem?_getD, List.getD_eq_getElem?_getD, mix9, List.getElem?_append_right (by simp; omega), List.getElem?_drop]
  congr 2
  simp
  omega

/-- What moves.Sum answers. -/
def smE (s : List Int) (m : Nat) (d : Int) : Int := if tenOk s m = true ∧ 0 ≤ d ∧ d < (s.length : Int) then 0 else 1

/-- The first q numbers along the direction, at the k-th place of the others. -/
def sumN9 (l : List Int) (K st k : Nat) : Nat → Int
  | 0 => 0
  | q + 1 => add32 (sumN9 l K st k q) (l.getD ((k / st * K + q) * st + k % st) 0)

def sumL9 (l : List Int) (K st R : Nat) : List Int := (List.range R).map fun k => sumN9 l K st k K

theorem sumL9_len (l : List Int) (K st R : Nat) : (sumL9 l K st R).length = R := by simp [sumL9]

theorem sumL9_at {l : List Int} {K st R k : Nat} (h : k < R) : (sumL9 l K st R).getD k 0 = sumN9 l K st k K := by
  simp [sumL9, List.getD, h]

def smS (s : List Int) (m : Nat) (d : Int) : List Int := if smE s m d = 0 then woL s d.toNat else []

def smL (s : List Int) (m : Nat) (l : List Int) (d : Int) : List Int :=
  if smE s m d = 0 then sumL9 l (s.getD d.toNat 0).toNat (prodZ (s.drop (d.toNat + 1))).toNat ((prodZ (s.take d.toNat)).toNat * (prodZ (s.drop (d.toNat + 1))).toNat) else []

theorem smE_iff {s : List Int} {m : Nat} {d : Int} : smE s m d = 0 ↔ tenOk s m = true ∧ 0 ≤ d ∧ d < (s.length : Int) := by
  unfold smE
  by_cases h : tenOk s m = true ∧ 0 ≤ d ∧ d < (s.length : Int)
  · rw [if_pos h]; exact ⟨fun _ => h, fun _ => rfl⟩
  · rw [if_neg h]; exact ⟨fun e => absurd e (by decide), fun e => absurd e h⟩

theorem wo_facts {s : List Int} {m a : Nat} (h : tenOk s m = true) (ha : a < s.length) : ∃ P KK st : Nat, s.getD a 0 = (KK : Int) ∧ prodZ (s.drop (a + 1)) = (st : Int) ∧ prodZ (s.take a) = (P : Int) ∧ m = P * KK * st ∧ 1 ≤ P ∧ 1 ≤ KK ∧ 1 ≤ st ∧ sizeI (woL s a) = ((P * st : Nat) : Int) ∧ m ≤ 4096 := by
  obtain ⟨q1, q2⟩ := tenOk_iff.1 h
  obtain ⟨l1, l4, hz⟩ := sizeI_pos q1
  have hm4 := sizeI_le s
  have hd := (size_dims q1).at (k := a) ha
  have e1 : prodZ s = prodZ (s.take a) * prodZ (s.drop a) := by rw [← prodZ_append, List.take_append_drop]
  have e2 := prodZ_drop (xs := s) (k := a) ha
  rw [hd.2.2] at e2
  have n1 := prodZ_nonneg (s.take a)
  have n2 := prodZ_nonneg (s.drop (a + 1))
  obtain ⟨P, hP⟩ := Int.eq_ofNat_of_zero_le n1
  obtain ⟨st, hst⟩ := Int.eq_ofNat_of_zero_le n2
  obtain ⟨KK, hKK⟩ := Int.eq_ofNat_of_zero_le (show 0 ≤ s.getD a 0 by omega)
  have em : m = P * KK * st := by
    have e3 : (m : Int) = (P : Int) * ((st : Int) * (KK : Int)) := by rw [← q2, hz, e1, ← e2, hP, hst, hKK]
    rw [← Int.natCast_mul, ← Int.natCast_mul] at e3
    have e4 := Int.ofNat_inj.1 e3
    rw [e4, Nat.mul_comm st KK, Nat.mul_assoc]
  have hm1 : 1 ≤ m := by omega
  have p1 : 1 ≤ P := by
    rcases Nat.eq_zero_or_pos P with e | e
    · rw [e, Nat.zero_mul, Nat.zero_mul] at em; omega
    · exact e
  have s1 : 1 ≤ st := by
    rcases Nat.eq_zero_or_pos st with e | e
    · rw [e, Nat.mul_zero] at em; omega
    · exact e
  have k1 : 1 ≤ KK := by have := hd.1; omega
  have hle : P * st ≤ m := by
    rw [em]
    exact Nat.mul_le_mul_right _ (Nat.le_mul_of_pos_right _ (by omega))
  refine ⟨P, KK, st, hKK, hst, hP, em, p1, k1, s1, ?_, by omega⟩
  by_cases h1 : s.length = 1
  · rw [woL_one h1]
    obtain rfl : a = 0 := by omega
    have t0 : (P : Int) = 1 := by simpa [prodZ] using hP.symm
    have t1 : (st : Int) = 1 := by
      rw [List.drop_eq_nil_of_le (by omega)] at hst
      simpa [prodZ] using hst.symm
    obtain rfl : P = 1 := by omega
    obtain rfl : st = 1 := by omega
    decide
  · rw [woL_more h1]
    have hl : (s.take a ++ s.drop (a + 1)).length = s.length - 1 := by rw [List.length_append, List.length_take, List.length_drop]; omega
    have hpz : prodZ (s.take a ++ s.drop (a + 1)) = ((P * st : Nat) : Int) := by rw [prodZ_append, hP, hst]; rfl
    unfold sizeI
    rw [if_neg (by omega), hpz, if_neg (by omega)]

theorem mix9_same {zs l : List Int} {k : Nat} (h : zs.length = l.length) (hk : k < l.length) (h0 : l.getD k 0 = 0) : (mix9 zs l k).set k 0 = mix9 zs l k := by
  have e := mix9_at h hk
  rw [h0, List.getD_eq_getElem?_getD] at e
  have hl : k < (mix9 zs l k).length := by rw [mix9_len h (by omega)]; exact hk
  rw [List.getElem?_eq_getElem hl, Option.getD_some] at e
  rw [← e]
  exact List.set_getElem_self hl

theorem wo_place {P KK st k q : Nat} (hk : k < P * st) (hq : q < KK) (hst : 1 ≤ st) : (k / st * KK + q) * st + k % st < P * KK * st :=
  place_lt9 (place_lt9 (Nat.div_lt_of_lt_mul (by rw [Nat.mul_comm]; exact hk)) hq) (Nat.mod_lt _ hst)

end Go.Proofs.Ytdlhhkegkfhmoaa
