/- Contracts of turnOrigin and of its closure: where a number that is turned comes from. -/
import Derived.Test.YtomhbhhfbbdilaaGreatDoorMv9M
namespace Go.Proofs.YtomhbhhfbbdilaaGreatDoor
open Go.RowKit
set_option linter.unusedVariables false
set_option linter.unusedSimpArgs false
set_option maxRecDepth 100000

/-- The i-th coordinate of the k-th number of a shape. -/
def dg9 (t : List Int) (i k : Nat) : Nat := k / (prodZ (t.drop (i + 1))).toNat % (t.getD i 0).toNat

/-- Where the k-th number of a turned tensor stood: what its first i coordinates come to. -/
def trN (s t u : List Int) (k : Nat) : Nat → Nat
  | 0 => 0
  | i + 1 => trN s t u k i + dg9 t i k * (prodZ (s.drop ((u.getD i 0).toNat + 1))).toNat

def sumG (u : List Int) (P : Nat → Int) : Nat → Int
  | 0 => 0
  | i + 1 => sumG u P i + (P (u.getD i 0).toNat - P ((u.getD i 0).toNat + 1))

theorem sumG_all {u : List Int} {n : Nat} (h : ordOk u n = true) (hn : n ≤ 4) (P : Nat → Int) : sumG u P n = P 0 - P n := by
  obtain ⟨hl, hm⟩ := ordOk_iff.1 h
  match n, u, hl with
  | 0, _, _ => simp [sumG]
  | 1, [a], _ =>
    have h0 := hm 0 (by omega)
    simp at h0
    subst h0
    simp [sumG]
  | 2, [a, b], _ =>
    have h0 := hm 0 (by omega)
    have h1 := hm 1 (by omega)
    simp at h0 h1
    rcases h0 with h0 | h0 <;> rcases h1 with h1 | h1 <;> first | (exfalso; omega) | (subst h0 h1; simp [sumG]; omega)
  | 3, [a, b, c], _ =>
    have h0 := hm 0 (by omega)
    have h1 := hm 1 (by omega)
    have h2 := hm 2 (by omega)
    simp at h0 h1 h2
    rcases h0 with h0 | h0 | h0 <;> rcases h1 with h1 | h1 | h1 <;> rcases h2 with h2 | h2 | h2 <;> first | (exfalso; omega) | (subst h0 h1 h2; simp [sumG]; omega)
  | 4, [a, b, c, d], _ =>
    have h0 := hm 0 (by omega)
    have h1 := hm 1 (by omega)
    have h2 := hm 2 (by omega)
    have h3 := hm 3 (by omega)
    simp at h0 h1 h2 h3
    rcases h0 with h0 | h0 | h0 | h0 <;> rcases h1 with h1 | h1 | h1 | h1 <;> first | (exfalso; omega) | (rcases h2 with h2 | h2 | h2 | h2 <;> first | (exfalso; omega) | (rcases h3 with h3 | h3 | h3 | h3 <;> first | (exfalso; omega) | (subst h0 h1 h2 h3; simp [sumG]; omega)))
  | n + 5, _, _ => omega

/-- A shape in another order comes to the same. -/
theorem trN_le {s u : List Int} {m n : Nat} (hs : 0 < sizeI s) (hl : s.length = n) (ho : ordOk u n = true) (hn : n ≤ 4) (k : Nat) : ∀ i, i ≤ n → (trN s (pickL s u) u k i : Int) ≤ sumG u (fun j => prodZ (s.drop j)) i
  | 0, _ => by simp [trN, sumG]
  | i + 1, hi => by
    have ih := trN_le (m := m) hs hl ho hn k i (by omega)
    have hu := ord_in ho hn i (by omega)
    have hul := (ordOk_iff.1 ho).1
    obtain ⟨j, hj⟩ := Int.eq_ofNat_of_zero_le hu.1
    have hjn : j < s.length := by omega
    have hd := (size_dims hs).at (k := j) hjn
    have e := prodZ_drop (xs := s) (k := j) hjn
    rw [hd.2.2] at e
    have n1 := prodZ_nonneg (s.drop (j + 1))
    obtain ⟨S, hS⟩ := Int.eq_ofNat_of_zero_le n1
    obtain ⟨K, hK⟩ := Int.eq_ofNat_of_zero_le (show 0 ≤ s.getD j 0 by omega)
    have hp : (pickL s u).getD i 0 = (K : Int) := by rw [pickL_at (by omega), hj, Int.toNat_natCast, hK]
    have hdg : dg9 (pickL s u) i k < K := by
      rw [dg9, hp, Int.toNat_natCast]
      exact Nat.mod_lt _ (by omega)
    rw [trN, sumG, hj, Int.toNat_natCast]
    simp only [hS, Int.toNat_natCast]
    rw [hS, hK] at e
    rw [← e]
    have h2 : (dg9 (pickL s u) i k + 1) * S ≤ K * S := Nat.mul_le_mul_right _ hdg
    rw [Nat.add_mul, Nat.one_mul] at h2
    have h3 : ((K * S : Nat) : Int) = (S : Int) * (K : Int) := by rw [Nat.mul_comm]; rfl
    rw [Int.natCast_add, ← h3]
    omega

theorem trN_lt {s u : List Int} {m n : Nat} (h : tenOk s m = true) (hl : s.length = n) (ho : ordOk u n = true) (hn : n ≤ 4) (k : Nat) : trN s (pickL s u) u k n < m := by
  obtain ⟨q1, q2⟩ := tenOk_iff.1 h
  have h1 := trN_le (m := m) q1 hl ho hn k n (Nat.le_refl _)
  rw [sumG_all ho hn] at h1
  have h2 := (sizeI_pos q1).2.2
  simp only [List.drop_zero] at h1
  rw [List.drop_eq_nil_of_le (by omega), prodZ] at h1
  omega

set_option maxHeartbeats 1000000 in
theorem turnOrigin_ok (A B A' B' U : Option Addr) (n c k e n' c' k' e' q d : Nat) (w : World) :
    Calls Tryz.prog 113 #[.agg #[.slice A n c, .slice B k e], .agg #[.slice A' n' c', .slice B' k' e'], .slice U q d] w fun e0 w' => e0 = .returned (.func (.func 191) #[] #[.pointer (some ⟨w.heap.size + 2, 0, none⟩), .pointer (some ⟨w.heap.size + 1, 0, none⟩), .pointer (some ⟨w.heap.size, 0, none⟩)]) ∧
      w' = ((w.alloc (.cells #[.slice A n c, .slice B k e] 111)).alloc (.cells #[.slice A' n' c', .slice B' k' e'] 111)).alloc (.cells #[.slice U q d] 31) := by
  go_enter Tryz.func113, Tryz.ntmps113
  go_wp2
  go_ret
  exact ⟨rfl, rfl⟩

set_option maxHeartbeats 4000000 in
theorem turnOrig_ok (p q r : Nat) (A B A' B' U : Option Addr) (n c e c' e' d k : Nat) (s t u : List Int) (w : World) (hF : BoxL w p (.slice A n c) (.slice B n e)) (hT : BoxL w q (.slice A' n c') (.slice B' n e')) (hO : w.heap[r]? = some (.cells #[.slice U n d] 31 (0, 0)))
    (hB : Lies w B n ((strL s).map (Value.int .i64))) (hA' : Lies w A' n (t.map (Value.int .i64))) (hB' : Lies w B' n ((strL t).map (Value.int .i64))) (hU : Lies w U n (u.map (Value.int .i64))) (hl : s.length = n) (hs : 0 < sizeI s) (ht : 0 < sizeI t) (hk : k ≤ 4096) (hu : ∀ j, j < n → 0 ≤ u.getD j 0 ∧ u.getD j 0 < (n : Int)) :
    Calls Tryz.prog 191 #[.int .i64 (k : Int), .pointer (some ⟨r, 0, none⟩), .pointer (some ⟨q, 0, none⟩), .pointer (some ⟨p, 0, none⟩)] w fun e0 w' => e0 = .returned (.int .i64 (trN s t u k n : Int)) ∧ Below w.heap.size w w' := by
  have htl : t.length = n := by have := hA'.len; simpa using this
  obtain ⟨n1, n4, _⟩ := sizeI_pos hs
  rw [hl] at n1 n4
  have HTL := hide htl
  have HSL := hide hl
  have HTS := hide ht
  have HSS := hide hs
  have HB := hide hB
  have HA' := hide hA'
  have HB' := hide hB'
  have HU := hide hU
  have HUU := hide hu
  have HF := hide hF
  have HT := hide hT
  have HO := hide hO
  obtain ⟨bB, oB, rfl, _, _⟩ := byte_at hB (by omega)
  obtain ⟨bU, oU, rfl, _, _⟩ := byte_at hU (by omega)
  have HC : Hid (∀ v, Below w.heap.size w v → v.cell? ⟨r, 0, none⟩ = some (.slice (some ⟨bU, oU, none⟩) n d) ∧ v.cell? ⟨q, 0, none⟩ = some (.slice A' n c') ∧ v.cell? ⟨q, 1, none⟩ = some (.slice B' n e') ∧ v.cell? ⟨p, 1, none⟩ = some (.slice (some ⟨bB, oB, none⟩) n e)) := hide (fun v hv => ⟨cell_of_row _ _ 0 _ _ (0, 0) ((hv.block _ (lt_of_heap HO.out)).trans HO.out), (HT.out.kept hv).c0, (HT.out.kept hv).c1, (HF.out.kept hv).c1⟩)
  have HD : Hid (∀ v, Below w.heap.size w v → ∀ j, j < n → v.cell? ⟨bU, oU + j, none⟩ = some (.int .i64 (u.getD j 0)) ∧ v.cell? ⟨bB, oB + j, none⟩ = some (.int .i64 ((strL s).getD j 0))) := hide (fun v hv j hj => by
    obtain ⟨_, _, e1, _, x1⟩ := byte_at (HU.out.below hv) (by omega)
    cases e1
    obtain ⟨_, _, e2, _, x2⟩ := byte_at (HB.out.below hv) (by omega)
    cases e2
    exact ⟨x1 j hj, x2 j hj⟩)
  clear hF hT hO hB hA' hB' hU hu htl hl ht hs
  obtain ⟨x0, _, _, _⟩ := HC.out _ (Below.refl _ _)
  go_enter Tryz.func191, Tryz.ntmps191
  go_wp2
  clear x0
  go_loopw [6, 14] (fun ov iv wr => ∃ (i z : Nat), i ≤ n ∧ iv = .int .i64 (i : Int) ∧ ov = .int .i64 (z : Int) ∧ Hid (z = trN s t u k i) ∧ z ≤ i * 1073741824 ∧ Hid (Below w.heap.size w wr)) (fun _ iv _ => n - (intOf iv).toNat)
  case atStart => exact ⟨0, 0, Nat.zero_le _, rfl, rfl, hide rfl, by omega, hide (Below.refl _ _)⟩
  case round =>
    obtain ⟨i, z, hi, rfl, rfl, HZ, hz, HE⟩ := hrel
    by_cases hlt : i < n
    · obtain ⟨c0, c1, c2, c3⟩ := HC.out _ HE.out
      obtain ⟨d1, _⟩ := HD.out _ HE.out i hlt
      have hr := HUU.out i hlt
      obtain ⟨j, hj⟩ := Int.eq_ofNat_of_zero_le hr.1
      rw [hj] at d1
      have hjn : j < n := by omega
      have h0 : (0 : Int) ≤ (i : Int) := by omega
      have h1 : (i : Int) < (n : Int) := by omega
      have hti := (size_dims HTS.out).at (k := i) (by rw [HTL.out]; exact hlt)
      obtain ⟨K, hK⟩ := Int.eq_ofNat_of_zero_le (show 0 ≤ t.getD i 0 by omega)
      have hK1 : 1 ≤ K := by omega
      have hK2 : K ≤ 64 := by omega
      have hp1 : 0 < prodZ (t.drop (i + 1)) := ((size_dims HTS.out).drop (i + 1)).pos
      obtain ⟨st, hst⟩ := Int.eq_ofNat_of_zero_le (show 0 ≤ prodZ (t.drop (i + 1)) by omega)
      have hst1 : 1 ≤ st := by omega
      obtain ⟨S, hS⟩ := Int.eq_ofNat_of_zero_le (prodZ_nonneg (s.drop (j + 1)))
      have hS2 := prodZ_small (l := s.drop (j + 1)) (by rw [List.length_drop, HSL.out]; omega)
      have hS3 : S ≤ 16777216 := by omega
      obtain ⟨dgt, hdg⟩ : ∃ x, x = k / st % K := ⟨_, rfl⟩
      have hdK : dgt < K := by rw [hdg]; exact Nat.mod_lt _ hK1
      have HZ2 : Hid (z + dgt * S = trN s t u k (i + 1)) := hide (by
        rw [trN, ← HZ.out, dg9, hst, hK, hj, Int.toNat_natCast, Int.toNat_natCast, Int.toNat_natCast, hS, Int.toNat_natCast, ← hdg])
      have HCL : Hid (Calls Tryz.prog 192 #[.agg #[.slice A' n c', .slice B' n e'], .int .i64 (k : Int), .int .i64 (i : Int)] wr fun e0 w' => e0 = .returned (.tuple #[.int .i64 ((k / st / K : Nat) : Int), .int .i64 (dgt : Int), .int .i64 ((k % st : Nat) : Int)]) ∧ Below wr.heap.size wr w') := hide (by
        rw [hdg]
        exact split_ok A' B' n c' n e' t (strL t) i K st k wr (HA'.out.below HE.out) (HB'.out.below HE.out) hlt hlt hK (by rw [strL_at t i (by rw [HTL.out]; exact hlt), hst]) (by omega) hst1 hK1)
      have hSj : (strL s).getD j 0 = (S : Int) := by rw [strL_at s j (by rw [HSL.out]; exact hjn), hS]
      have HSj := hide hSj
      obtain ⟨pr, hpr⟩ : ∃ x, x = dgt * S := ⟨_, rfl⟩
      have hpr1 : pr ≤ 64 * 16777216 := by rw [hpr]; exact Nat.mul_le_mul (by omega) hS3
      have m1 : IntKind.i64.wrap ((dgt : Int) * (S : Int)) = (pr : Int) := by rw [← Int.natCast_mul, ← hpr, IntKind.wrap_i64]; omega
      obtain ⟨z2, hz2⟩ : ∃ x, x = z + pr := ⟨_, rfl⟩
      have hz3 : z2 ≤ (i + 1) * 1073741824 := by omega
      have m2 : IntKind.i64.wrap ((z : Int) + (pr : Int)) = (z2 : Int) := by rw [IntKind.wrap_i64]; omega
      have HZ3 : Hid (z2 = trN s t u k (i + 1)) := hide (by rw [hz2, hpr]; exact HZ2.out)
      have hj0 : (0 : Int) ≤ (j : Int) := by omega
      have hj1 : (j : Int) < (n : Int) := by omega
      obtain ⟨bf, hbf⟩ : ∃ x, x = k / st / K := ⟨_, rfl⟩
      obtain ⟨bh, hbh⟩ : ∃ x, x = k % st := ⟨_, rfl⟩
      rw [← hbf, ← hbh] at HCL
      clear hr hj hti hK hp1 hst hS hS2 hdg hdK HZ2 hSj hpr hz2 hbf hbh HZ
      go_wp2_with fail
      refine Calls.mono HCL.out ?_
      rintro e0 w1 ⟨rfl, hb⟩
      have HE2 := hide (below_nx6 HE.out hb)
      clear hb c0 c1 c2 c3 d1 HCL
      obtain ⟨c0, c1, c2, c3⟩ := HC.out _ HE2.out
      obtain ⟨_, d2⟩ := HD.out _ HE2.out j hjn
      rw [HSj.out] at d2
      go_wp2
      go_roundw
      case rel => exact ⟨i + 1, z2, by omega, by go_num, by first | rfl | (congr 1; omega), HZ3, hz3, HE2⟩
      case measure => simp [intOf]; omega
    · obtain rfl : n = i := by omega
      have h5 : ¬ ((n : Int) < (n : Int)) := by omega
      go_wp2
      go_ret
      exact ⟨by rw [← HZ.out]; rfl, HE.out⟩

end Go.Proofs.YtomhbhhfbbdilaaGreatDoor
