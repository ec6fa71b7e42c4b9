/- ShapesMore holds for every list of numbers, every list of places and every direction more: the walk of its Go text. -/
import Derived.Test.YtlkldodkoeaedaaAlive4
import Derived.Test.YtlkldodkoeaedaaAppNil
import Derived.Test.YtlkldodkoeaedaaAppend
import Derived.Test.YtlkldodkoeaedaaShapeMath
namespace Go.Proofs.Ytlkldodkoeaedaa
open Go.RowKit
set_option linter.unusedVariables false
set_option linter.unusedSimpArgs false

/-- Index's two answers. -/
def idxV (xs ys : List Int) : Int := if okAt xs ys = true then valI xs ys else 0
def idxE (xs ys : List Int) : Int := if okAt xs ys = true then 0 else 1
theorem index_any (A B : Option Addr) (n c m cB : Nat) (xs ys : List Int) (w : World) (hA : Lies w A n (xs.map (Value.int .i64))) (hB : Lies w B m (ys.map (Value.int .i64))) (hn : n ≤ 281474976710656) (hm : m ≤ 281474976710656) :
    Calls Try.prog 11 #[.slice A n c, .slice B m cB] w fun e w' => e = .returned (.tuple #[.int .i64 (idxV xs ys), .int .i64 (idxE xs ys)]) ∧ Below w.heap.size w w' := by
  unfold idxV idxE
  cases h : okAt xs ys
  · exact index_err A B n c m cB xs ys w hA hB hn hm h
  · exact index_ok A B n c m cB xs ys w hA hB hn hm h

theorem allIn_one : ∀ {xs ys : List Int}, xs.length = ys.length → allIn (xs ++ [1]) (ys ++ [0]) = allIn xs ys
  | [], [], _ => by decide
  | [], _ :: _, h => by simp at h
  | _ :: _, [], h => by simp at h
  | x :: xs, y :: ys, h => by
    simp only [List.cons_append, allIn]
    rw [allIn_one (by simpa using h)]
theorem prodZ_one (xs : List Int) : prodZ (xs ++ [1]) = prodZ xs := by
  rw [prodZ_append, show prodZ [1] = 1 by decide, Int.mul_one]
theorem valI_one : ∀ {xs ys : List Int}, xs.length = ys.length → valI (xs ++ [1]) (ys ++ [0]) = valI xs ys
  | [], [], _ => by decide
  | [], _ :: _, h => by simp at h
  | _ :: _, [], h => by simp at h
  | x :: xs, y :: ys, h => by
    simp only [List.cons_append, valI]
    rw [valI_one (by simpa using h), prodZ_one]
theorem sizeI_one {xs : List Int} (h : xs.length < 4) (h1 : 1 ≤ xs.length) : sizeI (xs ++ [1]) = sizeI xs := by
  have hl : (xs ++ [1]).length = xs.length + 1 := by simp
  rw [sizeI, sizeI, prodZ_one, hl, if_neg (show ¬ (xs.length + 1 < 1 ∨ 4 < xs.length + 1) by omega), if_neg (show ¬ (xs.length < 1 ∨ 4 < xs.length) by omega)]
theorem okAt_one {xs ys : List Int} (h : xs.length < 4) (h1 : 1 ≤ xs.length) : okAt (xs ++ [1]) (ys ++ [0]) = okAt xs ys := by
  unfold okAt
  rw [sizeI_one h h1]
  by_cases hl : ys.length = xs.length
  · rw [allIn_one hl.symm]
    simp [hl]
  · simp [hl]
theorem idx_one {xs ys : List Int} (h : xs.length < 4) (h1 : 1 ≤ xs.length) : idxV (xs ++ [1]) (ys ++ [0]) = idxV xs ys ∧ idxE (xs ++ [1]) (ys ++ [0]) = idxE xs ys := by
  unfold idxV idxE
  rw [okAt_one h h1]
  cases hk : okAt xs ys
  · simp
  · have hl : ys.length = xs.length := by unfold okAt at hk; simp at hk; exact hk.2.1
    rw [valI_one hl.symm]
    simp
theorem sizeI_five {xs : List Int} (h : xs.length = 4) : sizeI (xs ++ [1]) = 0 := by
  unfold sizeI
  rw [if_pos (by simp [h])]
/-- One direction more, ahead. -/
theorem size_more {xs : List Int} (hs : 0 < sizeI xs) (M : Int) :
    sizeI (M :: xs) = if xs.length < 4 ∧ 1 ≤ M ∧ M ≤ 64 ∧ sizeI xs * M ≤ 4096 then sizeI xs * M else 0 := by
  obtain ⟨h1, h4, h3⟩ := sizeI_pos hs
  have hp : 1 ≤ prodZ xs := (size_dims hs).pos
  rw [h3]
  by_cases hl : xs.length < 4
  · by_cases hM : 1 ≤ M ∧ M ≤ 64
    · have hz : dz M = M := by unfold dz; rw [if_neg (by omega)]
      have e : prodZ (M :: xs) = prodZ xs * M := by rw [prodZ, hz, Int.mul_comm]
      rw [sizeI, e, List.length_cons, if_neg (show ¬ (xs.length + 1 < 1 ∨ 4 < xs.length + 1) by omega)]
      by_cases hb : prodZ xs * M ≤ 4096
      · rw [if_neg (by omega), if_pos ⟨hl, hM.1, hM.2, hb⟩]
      · rw [if_pos (by omega), if_neg (fun h => hb h.2.2.2)]
    · have hz : dz M = 0 := by unfold dz; rw [if_pos (by omega)]
      have e : prodZ (M :: xs) = 0 := by rw [prodZ, hz, Int.zero_mul]
      rw [sizeI, e, List.length_cons, if_neg (show ¬ (xs.length + 1 < 1 ∨ 4 < xs.length + 1) by omega), if_neg (by omega), if_neg (fun h => hM ⟨h.2.1, h.2.2.1⟩)]
  · rw [sizeI, List.length_cons, if_pos (by omega), if_neg (fun h => hl h.1)]
theorem okAt_more {xs ys : List Int} (hs : 0 < sizeI xs) (M K : Int) : okAt (M :: xs) (K :: ys) = (decide (0 < sizeI (M :: xs)) && (okAt xs ys && (decide (0 ≤ K) && decide (K < M)))) := by
  unfold okAt
  simp only [List.length_cons, allIn]
  by_cases hl : ys.length = xs.length
  · simp [hl, hs]
    cases decide (0 < sizeI (M :: xs)) <;> cases allIn xs ys <;> simp
  · simp [hl]


set_option maxRecDepth 100000 in
theorem more_out (A B : Option Addr) (n c m cB : Nat) (M K : Int) (xs : List Int) (w : World) (hA : Lies w A n (xs.map (Value.int .i64))) (hn : n ≤ 281474976710656) (hm : m ≤ 281474976710656) (h : 10000 < n ∨ 10000 < m ∨ ¬ 0 < sizeI xs) :
    Calls Try.prog 4 #[.slice A n c, .slice B m cB, .agg #[.int .i64 M, .int .i64 K]] w fun e w' => e = .returned (.bool true) ∧ Below w.heap.size w w' := by
  have HB0 := hide ((Below.refl w.heap.size w).alloc (Nat.le_refl _) (.cells #[.int .i64 M, .int .i64 K] 33))
  have hs0 : w.heap.size ≤ (w.alloc (.cells #[.int .i64 M, .int .i64 K] 33)).heap.size := by simp
  have HA := hide (hA.below HB0.out)
  clear hA
  by_cases h1 : 10000 < n
  · clear h
    go_enter Try.func4, Try.ntmps4
    go_wp2_with fail
    refine Calls.mono (alive4_any _) ?_
    rintro e w1 ⟨rfl, hb1⟩
    have HB1 := hide (HB0.out.trans (hb1.mono hs0))
    have hs1 := HB1.out.size
    clear hb1
    go_wp2_with fail
    refine Calls.mono (alive4_any w1) ?_
    rintro e w2 ⟨rfl, hb2⟩
    have HB2 := hide (HB1.out.trans (hb2.mono hs1))
    clear hb2
    go_wp2
    go_ret
    exact ⟨rfl, HB2.out⟩
  · by_cases h2 : 10000 < m
    · clear h
      go_enter Try.func4, Try.ntmps4
      go_wp2_with fail
      refine Calls.mono (alive4_any _) ?_
      rintro e w1 ⟨rfl, hb1⟩
      have HB1 := hide (HB0.out.trans (hb1.mono hs0))
      have hs1 := HB1.out.size
      clear hb1
      go_wp2_with fail
      refine Calls.mono (alive4_any w1) ?_
      rintro e w2 ⟨rfl, hb2⟩
      have HB2 := hide (HB1.out.trans (hb2.mono hs1))
      clear hb2
      go_wp2
      go_ret
      exact ⟨rfl, HB2.out⟩
    · have HS := hide (show decide (0 < sizeI xs) = false from decide_eq_false (by omega))
      clear h
      go_enter Try.func4, Try.ntmps4
      go_wp2_with fail
      refine Calls.mono (alive4_any _) ?_
      rintro e w1 ⟨rfl, hb1⟩
      have HB1 := hide (HB0.out.trans (hb1.mono hs0))
      have hs1 := HB1.out.size
      have HA1 := hide (HA.out.below hb1)
      clear hb1
      go_wp2_with fail
      refine Calls.mono (check_any A n c xs w1 HA1.out hn) ?_
      rintro e w2 ⟨rfl, hb2⟩
      rw [HS.out]
      have HB2 := hide (HB1.out.trans (hb2.mono hs1))
      have hs2 := HB2.out.size
      clear hb2
      go_wp2_with fail
      refine Calls.mono (alive4_any w2) ?_
      rintro e w3 ⟨rfl, hb3⟩
      have HB3 := hide (HB2.out.trans (hb3.mono hs2))
      clear hb3
      go_wp2
      go_ret
      exact ⟨rfl, HB3.out⟩


set_option maxRecDepth 100000 in
set_option maxHeartbeats 16000000 in
theorem more_walk (A B : Option Addr) (n c m cB : Nat) (M K : Int) (xs ys : List Int) (w : World) (hA : Lies w A n (xs.map (Value.int .i64))) (hB : Lies w B m (ys.map (Value.int .i64))) (hAn : A = none → c = 0) (hBn : B = none → cB = 0)
    (hm : m ≤ 10000) (hsz : 0 < sizeI xs) :
    Calls Try.prog 4 #[.slice A n c, .slice B m cB, .agg #[.int .i64 M, .int .i64 K]] w fun e w' => e = .returned (.bool true) ∧ Below w.heap.size w w' := by
  obtain ⟨i0, hi, hz0, hz1, hz2⟩ := info_parts Try.infoI
  have HI := hide hi
  have HZ0 := hide hz0
  have HZ1 := hide hz1
  have HZ2 := hide hz2
  have hlen : xs.length = n := by have := hA.len; simpa using this
  obtain ⟨hn1, hn4, _⟩ := sizeI_pos hsz
  rw [hlen] at hn1 hn4
  have HB0 := hide ((Below.refl w.heap.size w).alloc (Nat.le_refl _) (.cells #[.int .i64 M, .int .i64 K] 33))
  obtain ⟨w0, hw0⟩ : ∃ w0, w.alloc (.cells #[.int .i64 M, .int .i64 K] 33) = w0 := ⟨_, rfl⟩
  have hc00 : w0.cell? ⟨w.heap.size, 0, none⟩ = some (.int .i64 M) := by
    have h := cells_new w [.int .i64 M, .int .i64 K] 33 0 _ rfl
    rw [← hw0]
    rw [Addr.add_lit] at h
    exact h
  have hc01 : w0.cell? ⟨w.heap.size, 1, none⟩ = some (.int .i64 K) := by
    have h := cells_new w [.int .i64 M, .int .i64 K] 33 1 _ rfl
    rw [← hw0]
    rw [Addr.add_lit] at h
    exact h
  rw [hw0] at HB0
  have hs0 := HB0.out.size
  have HC0 := hide hc00
  have HC1 := hide hc01
  have HA := hide hA
  have HY := hide hB
  have HSZ := hide hsz
  have HLEN := hide hlen
  have HAN := hide hAn
  have HBN := hide hBn
  have hmi : (m : Int) ≤ 10000 := by omega
  have hni : (n : Int) ≤ 4 := by omega
  obtain ⟨N, hN⟩ : ∃ N, N = sizeI xs := ⟨_, rfl⟩
  obtain ⟨I, hI⟩ : ∃ I, I = idxV xs ys := ⟨_, rfl⟩
  obtain ⟨E, hE⟩ : ∃ E, E = idxE xs ys := ⟨_, rfl⟩
  obtain ⟨J, hJ⟩ : ∃ J, J = idxV (M :: xs) (K :: ys) := ⟨_, rfl⟩
  obtain ⟨F, hF⟩ : ∃ F, F = idxE (M :: xs) (K :: ys) := ⟨_, rfl⟩
  have HN := hide hN
  have HIx := hide hI
  have HE := hide hE
  have HJ := hide hJ
  have HF := hide hF
  clear hi hz0 hz1 hz2 hA hB hsz hc00 hc01 hN hI hE hJ hF hlen hAn hBn
  go_enter Try.func4, Try.ntmps4
  go_wp2_with fail
  refine Calls.mono (alive4_any _) ?_
  rintro e w1 ⟨rfl, hb1⟩
  have HB1 := hide (HB0.out.trans (hb1.mono hs0))
  have hs1 := HB1.out.size
  have HC01 := hide (cell_kept hb1 HC0.out)
  have HC11 := hide (cell_kept hb1 HC1.out)
  clear hb1 HB0 hs0 hw0 HC0 HC1
  go_wp2_with fail
  refine Calls.mono (check_any A n c xs w1 (HA.out.below HB1.out) (by omega)) ?_
  rintro e w2 ⟨rfl, hb2⟩
  rw [decide_eq_true HSZ.out]
  have HB2 := hide (HB1.out.trans (hb2.mono hs1))
  have hs2 := HB2.out.size
  have hc02 := cell_kept hb2 HC01.out
  have hc12 := cell_kept hb2 HC11.out
  clear hb2 HB1 hs1 HC01 HC11
  go_wp2_with fail
  refine Calls.mono (size_any A n c xs w2 (HA.out.below HB2.out) (by omega)) ?_
  rintro e w3 ⟨rfl, hb3⟩
  rw [← HN.out]
  have HB3 := hide (HB2.out.trans (hb3.mono hs2))
  have hs3 := HB3.out.size
  clear hb3 HB2 hs2 hc02 hc12
  go_wp2_with fail
  refine Calls.mono (index_any A B n c m cB xs ys w3 (HA.out.below HB3.out) (HY.out.below HB3.out) (by omega) (by omega)) ?_
  rintro e w4 ⟨rfl, hb4⟩
  rw [← HIx.out, ← HE.out]
  have HB4 := hide (HB3.out.trans (hb4.mono hs3))
  have hs4 := HB4.out.size
  clear hb4 HB3 hs3
  go_wp2_with fail
  refine Calls.mono (ints_any (some ⟨w4.heap.size, 0, none⟩) 1 1 _) ?_
  rintro e _ ⟨rfl, rfl⟩
  have HLM : Hid (Lies (w4.alloc (.cells #[.int .i64 M] 3)) (some ⟨w4.heap.size, 0, none⟩) 1 (([M] : List Int).map (Value.int .i64))) := hide (lies_lit w4 [M] 3)
  have HB4a := hide (HB4.out.alloc hs4 (.cells #[.int .i64 M] 3))
  have hs4a := HB4a.out.size
  clear HB4 hs4
  go_wp2_with (at_builtin; refine wpList_append_full rfl _ _ 22 rfl 3 i0 (.int .i64 0) 8 Try.underlying22 HI.out HZ0.out HZ1.out HZ2.out rfl w4.heap.size 0 1 _ rfl HLM.out A n c (xs.map (Value.int .i64)) rfl (HA.out.below HB4a.out) (by omega) (by unfold maxLen; omega) ?_)
  intro A5 c5 w5 hc5 hl5 hb5
  have HT5 : Hid (Lies w5 A5 (1 + n) ((M :: xs).map (Value.int .i64))) := hide hl5
  have HB5 := hide (HB4a.out.trans (hb5.mono (by simpa using hs4a)))
  have hs5 := HB5.out.size
  obtain ⟨T, hT⟩ : ∃ T, T = 1 + n := ⟨_, rfl⟩
  have hT5 : T ≤ 5 := by omega
  rw [← hT] at HT5 ⊢
  have HT := hide hT
  clear hc5 hl5 hb5 HB4a hs4a HLM hT
  go_wp2_with fail
  refine Calls.mono (ints_any (some ⟨w5.heap.size, 0, none⟩) 1 1 _) ?_
  rintro e _ ⟨rfl, rfl⟩
  have HLM : Hid (Lies (w5.alloc (.cells #[.int .i64 K] 3)) (some ⟨w5.heap.size, 0, none⟩) 1 (([K] : List Int).map (Value.int .i64))) := hide (lies_lit w5 [K] 3)
  have HB5a := hide (HB5.out.alloc hs5 (.cells #[.int .i64 K] 3))
  have HT5a := hide (HT5.out.alloc (.cells #[.int .i64 K] 3))
  have hs5a := HB5a.out.size
  clear HB5 hs5 HT5
  go_wp2_with (at_builtin; refine wpList_append_full rfl _ _ 22 rfl 3 i0 (.int .i64 0) 8 Try.underlying22 HI.out HZ0.out HZ1.out HZ2.out rfl w5.heap.size 0 1 _ rfl HLM.out B m cB (ys.map (Value.int .i64)) rfl (HY.out.below HB5a.out) (by omega) (by unfold maxLen; omega) ?_)
  intro A6 c6 w6 hc6 hl6 hb6
  have HU6 : Hid (Lies w6 A6 (1 + m) ((K :: ys).map (Value.int .i64))) := hide hl6
  have HB6 := hide (HB5a.out.trans (hb6.mono (by simpa using hs5a)))
  have hs6 := HB6.out.size
  have HT6 := hide (HT5a.out.below (hb6.mono (by simp)))
  clear hc6 hl6 hb6 HB5a hs5a HLM HT5a
  go_wp2_with fail
  refine Calls.mono (index_any A5 A6 T c5 (1 + m) c6 (M :: xs) (K :: ys) w6 HT6.out HU6.out (by omega) (by omega)) ?_
  rintro e w7 ⟨rfl, hb7⟩
  rw [← HJ.out, ← HF.out]
  have HB7 := hide (HB6.out.trans (hb7.mono hs6))
  have hs7 := HB7.out.size
  have HT7 := hide (HT6.out.below hb7)
  clear hb7 HB6 hs6 HT6 HU6
  obtain ⟨q, hq⟩ : ∃ q, (4096 : Int).tdiv M = q := ⟨_, rfl⟩
  have hN1 : 1 ≤ N := by have := HSZ.out; have := HN.out; omega
  have hN4 : N ≤ 4096 := by rw [HN.out]; exact sizeI_le xs
  have HSM := hide (size_more HSZ.out M)
  rw [← HN.out, HLEN.out] at HSM
  have HOM := hide (okAt_more (xs := xs) (ys := ys) HSZ.out M K)
  have HNO : Hid (sizeI (M :: xs) = 0 → F = 1) := hide (fun h => by
    rw [HF.out, idxE, HOM.out, h]
    simp)

  by_cases hn4 : n = 4
  · have hz : sizeI (M :: xs) = 0 := by rw [HSM.out, if_neg (by omega)]
    subst hn4
    have HCHK : Hid (decide (0 < sizeI (M :: xs)) = false) := hide (by rw [hz]; rfl)
    obtain rfl : F = 1 := HNO.out hz
    clear hz
    go_wp2_with fail
    refine Calls.mono (check_any A5 T c5 (M :: xs) w7 HT7.out (by omega)) ?_
    rintro e w8 ⟨rfl, hb8⟩
    rw [HCHK.out]
    have HBx := hide (HB7.out.trans (hb8.mono hs7))
    have hsx := HBx.out.size
    clear hb8 HB7 hs7 HT7
    go_wp2_with (at_builtin; refine wpList_append_nil rfl _ _ 22 rfl 3 i0 (.int .i64 0) 8 Try.underlying22 HI.out HZ0.out HZ1.out HZ2.out rfl rfl A 4 c .i64 xs rfl (HA.out.below HBx.out) HAN.out (by omega) (by unfold maxLen; omega) ?_)
    intro A9 c9 w9 ho9 hb9
    have HO9 := hide ho9
    have HB9 := hide (HBx.out.trans (hb9.mono hsx))
    have hs9 := HB9.out.size
    have hs9b := hb9.size
    have HL1 : Hid (Lies (w9.alloc (.cells #[.int .i64 1] 3)) (some ⟨w9.heap.size, 0, none⟩) 1 (([1] : List Int).map (Value.int .i64))) := hide (lies_lit w9 [1] 3)
    have HB9a := hide (HB9.out.alloc hs9 (.cells #[.int .i64 1] 3))
    have HU : Hid (4 + 1 ≤ 5) := hide (by omega)
    clear ho9 hb9 HB9 hs9
    go_wp2_with (at_builtin; refine wpList_append_ints rfl _ _ 22 rfl 3 i0 (.int .i64 0) 8 Try.underlying22 HI.out HZ0.out HZ1.out HZ2.out rfl w8.heap.size A9 4 c9 5 .i64 xs rfl (HO9.out.alloc _) (by simp; omega) (some ⟨w9.heap.size, 0, none⟩) 1 1 [1] rfl HL1.out (by simp) rfl (by omega) (by unfold maxLen; omega) ?_)
    intro A10 c10 w10 ho10 hb10
    have HT10 : Hid (Lies w10 A10 5 ((xs ++ [1]).map (Value.int .i64))) := hide (by rw [List.map_append]; exact lies_of_own ho10)
    have HB10 := hide (HB9a.out.trans (hb10.mono hsx))
    have hs10 := HB10.out.size
    clear ho10 hb10 HB9a HL1 HO9
    go_wp2_with fail
    refine Calls.mono (check_any A10 5 c10 (xs ++ [1]) w10 HT10.out (by omega)) ?_
    rintro e w11 ⟨rfl, hb11⟩
    rw [show decide (0 < sizeI (xs ++ [1])) = false by rw [sizeI_five (by have := HLEN.out; omega)]; rfl]
    have HB11 := hide (HB10.out.trans (hb11.mono hs10))
    clear hb11
    go_wp2
    go_ret
    exact ⟨rfl, HB11.out⟩
  · have hlt : (n : Int) < 4 := by omega
    have hne : ((n : Int) == 4) = false := by simp; omega
    by_cases hM1 : M < 1
    · have hz : sizeI (M :: xs) = 0 := by rw [HSM.out, if_neg (by omega)]
      have HCHK : Hid (decide (0 < sizeI (M :: xs)) = false) := hide (by rw [hz]; rfl)
      obtain rfl : F = 1 := HNO.out hz
      clear hz
      go_wp2_with fail
      refine Calls.mono (check_any A5 T c5 (M :: xs) w7 HT7.out (by omega)) ?_
      rintro e w8 ⟨rfl, hb8⟩
      rw [HCHK.out]
      have HBx := hide (HB7.out.trans (hb8.mono hs7))
      have hsx := HBx.out.size
      clear hb8 HB7 hs7 HT7
      go_wp2_with (at_builtin; refine wpList_append_nil rfl _ _ 22 rfl 3 i0 (.int .i64 0) 8 Try.underlying22 HI.out HZ0.out HZ1.out HZ2.out rfl rfl A n c .i64 xs rfl (HA.out.below HBx.out) HAN.out (by omega) (by unfold maxLen; omega) ?_)
      intro A9 c9 w9 ho9 hb9
      have HO9 := hide ho9
      have HB9 := hide (HBx.out.trans (hb9.mono hsx))
      have hs9 := HB9.out.size
      have hs9b := hb9.size
      have HL1 : Hid (Lies (w9.alloc (.cells #[.int .i64 1] 3)) (some ⟨w9.heap.size, 0, none⟩) 1 (([1] : List Int).map (Value.int .i64))) := hide (lies_lit w9 [1] 3)
      have HB9a := hide (HB9.out.alloc hs9 (.cells #[.int .i64 1] 3))
      have HU : Hid (n + 1 ≤ 5) := hide (by omega)
      clear ho9 hb9 HB9 hs9
      go_wp2_with (at_builtin; refine wpList_append_ints rfl _ _ 22 rfl 3 i0 (.int .i64 0) 8 Try.underlying22 HI.out HZ0.out HZ1.out HZ2.out rfl w8.heap.size A9 n c9 (n + 1) .i64 xs rfl (HO9.out.alloc _) (by simp; omega) (some ⟨w9.heap.size, 0, none⟩) 1 1 [1] rfl HL1.out (by simp) rfl (by omega) (by unfold maxLen; omega) ?_)
      intro A10 c10 w10 ho10 hb10
      have HT10 : Hid (Lies w10 A10 (n + 1) ((xs ++ [1]).map (Value.int .i64))) := hide (by rw [List.map_append]; exact lies_of_own ho10)
      have HB10 := hide (HB9a.out.trans (hb10.mono hsx))
      have hs10 := HB10.out.size
      clear ho10 hb10 HB9a HL1 HO9
      obtain ⟨T2, hT2⟩ : ∃ T2, T2 = n + 1 := ⟨_, rfl⟩
      have hT2b : T2 ≤ 5 := by omega
      rw [← hT2] at HT10 ⊢
      have HT2 := hide hT2
      clear hT2
      go_wp2_with (at_builtin; refine wpList_append_nil rfl _ _ 22 rfl 3 i0 (.int .i64 0) 8 Try.underlying22 HI.out HZ0.out HZ1.out HZ2.out rfl rfl B m cB .i64 ys rfl (HY.out.below HB10.out) HBN.out (by omega) (by unfold maxLen; omega) ?_)
      intro A11 c11 w11 ho11 hb11
      have HO11 := hide ho11
      have HB11 := hide (HB10.out.trans (hb11.mono hs10))
      have hs11 := HB11.out.size
      have hs11b := hb11.size
      have HL0 : Hid (Lies (w11.alloc (.cells #[.int .i64 0] 3)) (some ⟨w11.heap.size, 0, none⟩) 1 (([0] : List Int).map (Value.int .i64))) := hide (lies_lit w11 [0] 3)
      have HB11a := hide (HB11.out.alloc hs11 (.cells #[.int .i64 0] 3))
      have hb11a : Below w10.heap.size w10 (w11.alloc (.cells #[.int .i64 0] 3)) := hb11.alloc hs11b _
      have HB11w := hide hb11a
      clear ho11 hb11 hb11a HB11 hs11
      go_wp2_with (at_builtin; refine wpList_append_ints rfl _ _ 22 rfl 3 i0 (.int .i64 0) 8 Try.underlying22 HI.out HZ0.out HZ1.out HZ2.out rfl w10.heap.size A11 m c11 (m + 1) .i64 ys rfl (HO11.out.alloc _) (by simp; omega) (some ⟨w11.heap.size, 0, none⟩) 1 1 [0] rfl HL0.out (by simp) rfl (by omega) (by unfold maxLen; omega) ?_)
      intro A12 c12 w12 ho12 hb12
      have HY12 : Hid (Lies w12 A12 (m + 1) ((ys ++ [0]).map (Value.int .i64))) := hide (by rw [List.map_append]; exact lies_of_own ho12)
      have HB12 := hide (HB11a.out.trans (hb12.mono hs10))
      have hs12 := HB12.out.size
      have HT12 : Hid (Lies w12 A10 T2 ((xs ++ [1]).map (Value.int .i64))) := hide (HT10.out.below (HB11w.out.trans hb12))
      clear ho12 hb12 HB11a HL0 HO11 HB11w HT10
      go_wp2_with fail
      refine Calls.mono (index_any A10 A12 T2 c10 (m + 1) c12 (xs ++ [1]) (ys ++ [0]) w12 HT12.out HY12.out (by omega) (by omega)) ?_
      rintro e w13 ⟨rfl, hb13⟩
      rw [(idx_one (xs := xs) (ys := ys) (by have := HLEN.out; omega) (by have := HLEN.out; omega)).1, (idx_one (xs := xs) (ys := ys) (by have := HLEN.out; omega) (by have := HLEN.out; omega)).2, ← HIx.out, ← HE.out]
      have HB13 := hide (HB12.out.trans (hb13.mono hs12))
      have hs13 := HB13.out.size
      have HT13 := hide (HT12.out.below hb13)
      clear hb13 HT12 HY12
      go_wp2_with fail
      refine Calls.mono (size_any A10 T2 c10 (xs ++ [1]) w13 HT13.out (by omega)) ?_
      rintro e w14 ⟨rfl, hb14⟩
      rw [sizeI_one (by have := HLEN.out; omega) (by have := HLEN.out; omega), ← HN.out]
      have HB14 := hide (HB13.out.trans (hb14.mono hs13))
      clear hb14 HT13
      go_wp2
      go_ret
      exact ⟨rfl, HB14.out⟩
    · have hM0 : 1 ≤ M := by omega
      have hMz : ¬ M = 0 := by omega
      by_cases hM64 : 64 < M
      · have hz : sizeI (M :: xs) = 0 := by rw [HSM.out, if_neg (by omega)]
        have HCHK : Hid (decide (0 < sizeI (M :: xs)) = false) := hide (by rw [hz]; rfl)
        obtain rfl : F = 1 := HNO.out hz
        clear hz
        go_wp2_with fail
        refine Calls.mono (check_any A5 T c5 (M :: xs) w7 HT7.out (by omega)) ?_
        rintro e w8 ⟨rfl, hb8⟩
        rw [HCHK.out]
        have HBx := hide (HB7.out.trans (hb8.mono hs7))
        have hsx := HBx.out.size
        clear hb8 HB7 hs7 HT7
        go_wp2_with (at_builtin; refine wpList_append_nil rfl _ _ 22 rfl 3 i0 (.int .i64 0) 8 Try.underlying22 HI.out HZ0.out HZ1.out HZ2.out rfl rfl A n c .i64 xs rfl (HA.out.below HBx.out) HAN.out (by omega) (by unfold maxLen; omega) ?_)
        intro A9 c9 w9 ho9 hb9
        have HO9 := hide ho9
        have HB9 := hide (HBx.out.trans (hb9.mono hsx))
        have hs9 := HB9.out.size
        have hs9b := hb9.size
        have HL1 : Hid (Lies (w9.alloc (.cells #[.int .i64 1] 3)) (some ⟨w9.heap.size, 0, none⟩) 1 (([1] : List Int).map (Value.int .i64))) := hide (lies_lit w9 [1] 3)
        have HB9a := hide (HB9.out.alloc hs9 (.cells #[.int .i64 1] 3))
        have HU : Hid (n + 1 ≤ 5) := hide (by omega)
        clear ho9 hb9 HB9 hs9
        go_wp2_with (at_builtin; refine wpList_append_ints rfl _ _ 22 rfl 3 i0 (.int .i64 0) 8 Try.underlying22 HI.out HZ0.out HZ1.out HZ2.out rfl w8.heap.size A9 n c9 (n + 1) .i64 xs rfl (HO9.out.alloc _) (by simp; omega) (some ⟨w9.heap.size, 0, none⟩) 1 1 [1] rfl HL1.out (by simp) rfl (by omega) (by unfold maxLen; omega) ?_)
        intro A10 c10 w10 ho10 hb10
        have HT10 : Hid (Lies w10 A10 (n + 1) ((xs ++ [1]).map (Value.int .i64))) := hide (by rw [List.map_append]; exact lies_of_own ho10)
        have HB10 := hide (HB9a.out.trans (hb10.mono hsx))
        have hs10 := HB10.out.size
        clear ho10 hb10 HB9a HL1 HO9
        obtain ⟨T2, hT2⟩ : ∃ T2, T2 = n + 1 := ⟨_, rfl⟩
        have hT2b : T2 ≤ 5 := by omega
        rw [← hT2] at HT10 ⊢
        have HT2 := hide hT2
        clear hT2
        go_wp2_with (at_builtin; refine wpList_append_nil rfl _ _ 22 rfl 3 i0 (.int .i64 0) 8 Try.underlying22 HI.out HZ0.out HZ1.out HZ2.out rfl rfl B m cB .i64 ys rfl (HY.out.below HB10.out) HBN.out (by omega) (by unfold maxLen; omega) ?_)
        intro A11 c11 w11 ho11 hb11
        have HO11 := hide ho11
        have HB11 := hide (HB10.out.trans (hb11.mono hs10))
        have hs11 := HB11.out.size
        have hs11b := hb11.size
        have HL0 : Hid (Lies (w11.alloc (.cells #[.int .i64 0] 3)) (some ⟨w11.heap.size, 0, none⟩) 1 (([0] : List Int).map (Value.int .i64))) := hide (lies_lit w11 [0] 3)
        have HB11a := hide (HB11.out.alloc hs11 (.cells #[.int .i64 0] 3))
        have hb11a : Below w10.heap.size w10 (w11.alloc (.cells #[.int .i64 0] 3)) := hb11.alloc hs11b _
        have HB11w := hide hb11a
        clear ho11 hb11 hb11a HB11 hs11
        go_wp2_with (at_builtin; refine wpList_append_ints rfl _ _ 22 rfl 3 i0 (.int .i64 0) 8 Try.underlying22 HI.out HZ0.out HZ1.out HZ2.out rfl w10.heap.size A11 m c11 (m + 1) .i64 ys rfl (HO11.out.alloc _) (by simp; omega) (some ⟨w11.heap.size, 0, none⟩) 1 1 [0] rfl HL0.out (by simp) rfl (by omega) (by unfold maxLen; omega) ?_)
        intro A12 c12 w12 ho12 hb12
        have HY12 : Hid (Lies w12 A12 (m + 1) ((ys ++ [0]).map (Value.int .i64))) := hide (by rw [List.map_append]; exact lies_of_own ho12)
        have HB12 := hide (HB11a.out.trans (hb12.mono hs10))
        have hs12 := HB12.out.size
        have HT12 : Hid (Lies w12 A10 T2 ((xs ++ [1]).map (Value.int .i64))) := hide (HT10.out.below (HB11w.out.trans hb12))
        clear ho12 hb12 HB11a HL0 HO11 HB11w HT10
        go_wp2_with fail
        refine Calls.mono (index_any A10 A12 T2 c10 (m + 1) c12 (xs ++ [1]) (ys ++ [0]) w12 HT12.out HY12.out (by omega) (by omega)) ?_
        rintro e w13 ⟨rfl, hb13⟩
        rw [(idx_one (xs := xs) (ys := ys) (by have := HLEN.out; omega) (by have := HLEN.out; omega)).1, (idx_one (xs := xs) (ys := ys) (by have := HLEN.out; omega) (by have := HLEN.out; omega)).2, ← HIx.out, ← HE.out]
        have HB13 := hide (HB12.out.trans (hb13.mono hs12))
        have hs13 := HB13.out.size
        have HT13 := hide (HT12.out.below hb13)
        clear hb13 HT12 HY12
        go_wp2_with fail
        refine Calls.mono (size_any A10 T2 c10 (xs ++ [1]) w13 HT13.out (by omega)) ?_
        rintro e w14 ⟨rfl, hb14⟩
        rw [sizeI_one (by have := HLEN.out; omega) (by have := HLEN.out; omega), ← HN.out]
        have HB14 := hide (HB13.out.trans (hb14.mono hs13))
        clear hb14 HT13
        go_wp2
        go_ret
        exact ⟨rfl, HB14.out⟩
      · have hM2 : M ≤ 64 := by omega
        have hqe : q = 4096 / M := by rw [← hq, Int.tdiv_eq_ediv_of_nonneg (by omega)]
        have hq0 : 0 ≤ q := by rw [hqe]; exact Int.ediv_nonneg (by omega) (by omega)
        have hq1 : q ≤ 4096 := by rw [hqe]; exact Int.ediv_le_self _ (by omega)
        have hwq : IntKind.i64.wrap q = q := IntWalk.i64_in _ (by omega)
        have hiff : N ≤ q ↔ N * M ≤ 4096 := by rw [hqe]; exact Int.le_ediv_iff_mul_le (by omega)
        by_cases hfit : N ≤ q
        · have HCHK : Hid (decide (0 < sizeI (M :: xs)) = true) := hide (decide_eq_true (by
            rw [HSM.out, if_pos ⟨by omega, hM0, hM2, hiff.1 hfit⟩]
            have := Int.mul_le_mul hN1 hM0 (by omega) (by omega)
            omega))
          have HSMz : Hid (sizeI (M :: xs) = N * M) := hide (by rw [HSM.out, if_pos ⟨by omega, hM0, hM2, hiff.1 hfit⟩])
          have HOK : Hid (okAt (M :: xs) (K :: ys) = (okAt xs ys && (decide (0 ≤ K) && decide (K < M)))) := hide (by rw [HOM.out, HCHK.out, Bool.true_and])
          clear hqe hiff hM1 hM64
          by_cases hok : okAt xs ys = true
          · obtain rfl : E = 0 := by rw [HE.out, idxE, if_pos hok]
            by_cases hK0 : K < 0
            · obtain rfl : F = 1 := by
                rw [HF.out, idxE, HOK.out, hok, decide_eq_false (show ¬ 0 ≤ K by omega)]
                rfl
              have hwNM : IntKind.i64.wrap (N * M) = N * M := IntWalk.i64_in _ (by have := Int.mul_le_mul hN4 hM2 (by omega) (by omega); have := Int.mul_nonneg (show 0 ≤ N by omega) (show 0 ≤ M by omega); omega)
              go_wp2_with fail
              refine Calls.mono (check_any A5 T c5 (M :: xs) w7 HT7.out (by omega)) ?_
              rintro e w8 ⟨rfl, hb8⟩
              rw [HCHK.out]
              have HB8 := hide (HB7.out.trans (hb8.mono hs7))
              have hs8 := HB8.out.size
              have HT8 := hide (HT7.out.below hb8)
              clear hb8 HB7 hs7 HT7
              go_wp2_with fail
              refine Calls.mono (size_any A5 T c5 (M :: xs) w8 HT8.out (by omega)) ?_
              rintro e wy ⟨rfl, hby⟩
              rw [HSMz.out]
              have HBx := hide (HB8.out.trans (hby.mono hs8))
              have hsx := HBx.out.size
              clear hby HB8 hs8 HT8
              go_wp2_with (at_builtin; refine wpList_append_nil rfl _ _ 22 rfl 3 i0 (.int .i64 0) 8 Try.underlying22 HI.out HZ0.out HZ1.out HZ2.out rfl rfl A n c .i64 xs rfl (HA.out.below HBx.out) HAN.out (by omega) (by unfold maxLen; omega) ?_)
              intro A9 c9 w9 ho9 hb9
              have HO9 := hide ho9
              have HB9 := hide (HBx.out.trans (hb9.mono hsx))
              have hs9 := HB9.out.size
              have hs9b := hb9.size
              have HL1 : Hid (Lies (w9.alloc (.cells #[.int .i64 1] 3)) (some ⟨w9.heap.size, 0, none⟩) 1 (([1] : List Int).map (Value.int .i64))) := hide (lies_lit w9 [1] 3)
              have HB9a := hide (HB9.out.alloc hs9 (.cells #[.int .i64 1] 3))
              have HU : Hid (n + 1 ≤ 5) := hide (by omega)
              clear ho9 hb9 HB9 hs9
              go_wp2_with (at_builtin; refine wpList_append_ints rfl _ _ 22 rfl 3 i0 (.int .i64 0) 8 Try.underlying22 HI.out HZ0.out HZ1.out HZ2.out rfl wy.heap.size A9 n c9 (n + 1) .i64 xs rfl (HO9.out.alloc _) (by simp; omega) (some ⟨w9.heap.size, 0, none⟩) 1 1 [1] rfl HL1.out (by simp) rfl (by omega) (by unfold maxLen; omega) ?_)
              intro A10 c10 w10 ho10 hb10
              have HT10 : Hid (Lies w10 A10 (n + 1) ((xs ++ [1]).map (Value.int .i64))) := hide (by rw [List.map_append]; exact lies_of_own ho10)
              have HB10 := hide (HB9a.out.trans (hb10.mono hsx))
              have hs10 := HB10.out.size
              clear ho10 hb10 HB9a HL1 HO9
              obtain ⟨T2, hT2⟩ : ∃ T2, T2 = n + 1 := ⟨_, rfl⟩
              have hT2b : T2 ≤ 5 := by omega
              rw [← hT2] at HT10 ⊢
              have HT2 := hide hT2
              clear hT2
              go_wp2_with (at_builtin; refine wpList_append_nil rfl _ _ 22 rfl 3 i0 (.int .i64 0) 8 Try.underlying22 HI.out HZ0.out HZ1.out HZ2.out rfl rfl B m cB .i64 ys rfl (HY.out.below HB10.out) HBN.out (by omega) (by unfold maxLen; omega) ?_)
              intro A11 c11 w11 ho11 hb11
              have HO11 := hide ho11
              have HB11 := hide (HB10.out.trans (hb11.mono hs10))
              have hs11 := HB11.out.size
              have hs11b := hb11.size
              have HL0 : Hid (Lies (w11.alloc (.cells #[.int .i64 0] 3)) (some ⟨w11.heap.size, 0, none⟩) 1 (([0] : List Int).map (Value.int .i64))) := hide (lies_lit w11 [0] 3)
              have HB11a := hide (HB11.out.alloc hs11 (.cells #[.int .i64 0] 3))
              have hb11a : Below w10.heap.size w10 (w11.alloc (.cells #[.int .i64 0] 3)) := hb11.alloc hs11b _
              have HB11w := hide hb11a
              clear ho11 hb11 hb11a HB11 hs11
              go_wp2_with (at_builtin; refine wpList_append_ints rfl _ _ 22 rfl 3 i0 (.int .i64 0) 8 Try.underlying22 HI.out HZ0.out HZ1.out HZ2.out rfl w10.heap.size A11 m c11 (m + 1) .i64 ys rfl (HO11.out.alloc _) (by simp; omega) (some ⟨w11.heap.size, 0, none⟩) 1 1 [0] rfl HL0.out (by simp) rfl (by omega) (by unfold maxLen; omega) ?_)
              intro A12 c12 w12 ho12 hb12
              have HY12 : Hid (Lies w12 A12 (m + 1) ((ys ++ [0]).map (Value.int .i64))) := hide (by rw [List.map_append]; exact lies_of_own ho12)
              have HB12 := hide (HB11a.out.trans (hb12.mono hs10))
              have hs12 := HB12.out.size
              have HT12 : Hid (Lies w12 A10 T2 ((xs ++ [1]).map (Value.int .i64))) := hide (HT10.out.below (HB11w.out.trans hb12))
              clear ho12 hb12 HB11a HL0 HO11 HB11w HT10
              go_wp2_with fail
              refine Calls.mono (index_any A10 A12 T2 c10 (m + 1) c12 (xs ++ [1]) (ys ++ [0]) w12 HT12.out HY12.out (by omega) (by omega)) ?_
              rintro e w13 ⟨rfl, hb13⟩
              rw [(idx_one (xs := xs) (ys := ys) (by have := HLEN.out; omega) (by have := HLEN.out; omega)).1, (idx_one (xs := xs) (ys := ys) (by have := HLEN.out; omega) (by have := HLEN.out; omega)).2, ← HIx.out, ← HE.out]
              have HB13 := hide (HB12.out.trans (hb13.mono hs12))
              have hs13 := HB13.out.size
              have HT13 := hide (HT12.out.below hb13)
              clear hb13 HT12 HY12
              go_wp2_with fail
              refine Calls.mono (size_any A10 T2 c10 (xs ++ [1]) w13 HT13.out (by omega)) ?_
              rintro e w14 ⟨rfl, hb14⟩
              rw [sizeI_one (by have := HLEN.out; omega) (by have := HLEN.out; omega), ← HN.out]
              have HB14 := hide (HB13.out.trans (hb14.mono hs13))
              clear hb14 HT13
              go_wp2
              go_ret
              exact ⟨rfl, HB14.out⟩
            · by_cases hKM : K < M
              · obtain rfl : F = 0 := by
                  rw [HF.out, idxE, HOK.out, hok, decide_eq_true (show 0 ≤ K by omega), decide_eq_true hKM]
                  rfl
                have hI2 : I = valI xs ys := by rw [HIx.out, idxV, if_pos hok]
                have hbd : 0 ≤ I ∧ I ≤ 4096 := by
                  have hin : allIn xs ys = true := by unfold okAt at hok; simp at hok; exact hok.2.2
                  have h := valI_bound (size_dims HSZ.out) hin
                  obtain ⟨_, _, h3⟩ := sizeI_pos HSZ.out
                  rw [← h3, ← HN.out] at h
                  omega
                obtain rfl : J = K * N + I := by
                  rw [HJ.out, idxV, if_pos (by rw [HOK.out, hok, decide_eq_true (show 0 ≤ K by omega), decide_eq_true hKM]; rfl), valI, hI2, HN.out]
                  obtain ⟨_, _, h3⟩ := sizeI_pos HSZ.out
                  rw [h3, Int.mul_comm, Int.add_comm]
                have hK1 : 0 ≤ K := by omega
                have hKN0 : 0 ≤ K * N := Int.mul_nonneg hK1 (by omega)
                have hKN1 : K * N ≤ 64 * 4096 := Int.mul_le_mul (by omega) hN4 (by omega) (by omega)
                have hwKN : IntKind.i64.wrap (K * N) = K * N := IntWalk.i64_in _ (by omega)
                have hwJ : IntKind.i64.wrap (K * N + I) = K * N + I := IntWalk.i64_in _ (by omega)
                clear hI2 hok
                have hwNM : IntKind.i64.wrap (N * M) = N * M := IntWalk.i64_in _ (by have := Int.mul_le_mul hN4 hM2 (by omega) (by omega); have := Int.mul_nonneg (show 0 ≤ N by omega) (show 0 ≤ M by omega); omega)
                go_wp2_with fail
                refine Calls.mono (check_any A5 T c5 (M :: xs) w7 HT7.out (by omega)) ?_
                rintro e w8 ⟨rfl, hb8⟩
                rw [HCHK.out]
                have HB8 := hide (HB7.out.trans (hb8.mono hs7))
                have hs8 := HB8.out.size
                have HT8 := hide (HT7.out.below hb8)
                clear hb8 HB7 hs7 HT7
                go_wp2_with fail
                refine Calls.mono (size_any A5 T c5 (M :: xs) w8 HT8.out (by omega)) ?_
                rintro e wy ⟨rfl, hby⟩
                rw [HSMz.out]
                have HBx := hide (HB8.out.trans (hby.mono hs8))
                have hsx := HBx.out.size
                clear hby HB8 hs8 HT8
                go_wp2_with (at_builtin; refine wpList_append_nil rfl _ _ 22 rfl 3 i0 (.int .i64 0) 8 Try.underlying22 HI.out HZ0.out HZ1.out HZ2.out rfl rfl A n c .i64 xs rfl (HA.out.below HBx.out) HAN.out (by omega) (by unfold maxLen; omega) ?_)
                intro A9 c9 w9 ho9 hb9
                have HO9 := hide ho9
                have HB9 := hide (HBx.out.trans (hb9.mono hsx))
                have hs9 := HB9.out.size
                have hs9b := hb9.size
                have HL1 : Hid (Lies (w9.alloc (.cells #[.int .i64 1] 3)) (some ⟨w9.heap.size, 0, none⟩) 1 (([1] : List Int).map (Value.int .i64))) := hide (lies_lit w9 [1] 3)
                have HB9a := hide (HB9.out.alloc hs9 (.cells #[.int .i64 1] 3))
                have HU : Hid (n + 1 ≤ 5) := hide (by omega)
                clear ho9 hb9 HB9 hs9
                go_wp2_with (at_builtin; refine wpList_append_ints rfl _ _ 22 rfl 3 i0 (.int .i64 0) 8 Try.underlying22 HI.out HZ0.out HZ1.out HZ2.out rfl wy.heap.size A9 n c9 (n + 1) .i64 xs rfl (HO9.out.alloc _) (by simp; omega) (some ⟨w9.heap.size, 0, none⟩) 1 1 [1] rfl HL1.out (by simp) rfl (by omega) (by unfold maxLen; omega) ?_)
                intro A10 c10 w10 ho10 hb10
                have HT10 : Hid (Lies w10 A10 (n + 1) ((xs ++ [1]).map (Value.int .i64))) := hide (by rw [List.map_append]; exact lies_of_own ho10)
                have HB10 := hide (HB9a.out.trans (hb10.mono hsx))
                have hs10 := HB10.out.size
                clear ho10 hb10 HB9a HL1 HO9
                obtain ⟨T2, hT2⟩ : ∃ T2, T2 = n + 1 := ⟨_, rfl⟩
                have hT2b : T2 ≤ 5 := by omega
                rw [← hT2] at HT10 ⊢
                have HT2 := hide hT2
                clear hT2
                go_wp2_with (at_builtin; refine wpList_append_nil rfl _ _ 22 rfl 3 i0 (.int .i64 0) 8 Try.underlying22 HI.out HZ0.out HZ1.out HZ2.out rfl rfl B m cB .i64 ys rfl (HY.out.below HB10.out) HBN.out (by omega) (by unfold maxLen; omega) ?_)
                intro A11 c11 w11 ho11 hb11
                have HO11 := hide ho11
                have HB11 := hide (HB10.out.trans (hb11.mono hs10))
                have hs11 := HB11.out.size
                have hs11b := hb11.size
                have HL0 : Hid (Lies (w11.alloc (.cells #[.int .i64 0] 3)) (some ⟨w11.heap.size, 0, none⟩) 1 (([0] : List Int).map (Value.int .i64))) := hide (lies_lit w11 [0] 3)
                have HB11a := hide (HB11.out.alloc hs11 (.cells #[.int .i64 0] 3))
                have hb11a : Below w10.heap.size w10 (w11.alloc (.cells #[.int .i64 0] 3)) := hb11.alloc hs11b _
                have HB11w := hide hb11a
                clear ho11 hb11 hb11a HB11 hs11
                go_wp2_with (at_builtin; refine wpList_append_ints rfl _ _ 22 rfl 3 i0 (.int .i64 0) 8 Try.underlying22 HI.out HZ0.out HZ1.out HZ2.out rfl w10.heap.size A11 m c11 (m + 1) .i64 ys rfl (HO11.out.alloc _) (by simp; omega) (some ⟨w11.heap.size, 0, none⟩) 1 1 [0] rfl HL0.out (by simp) rfl (by omega) (by unfold maxLen; omega) ?_)
                intro A12 c12 w12 ho12 hb12
                have HY12 : Hid (Lies w12 A12 (m + 1) ((ys ++ [0]).map (Value.int .i64))) := hide (by rw [List.map_append]; exact lies_of_own ho12)
                have HB12 := hide (HB11a.out.trans (hb12.mono hs10))
                have hs12 := HB12.out.size
                have HT12 : Hid (Lies w12 A10 T2 ((xs ++ [1]).map (Value.int .i64))) := hide (HT10.out.below (HB11w.out.trans hb12))
                clear ho12 hb12 HB11a HL0 HO11 HB11w HT10
                go_wp2_with fail
                refine Calls.mono (index_any A10 A12 T2 c10 (m + 1) c12 (xs ++ [1]) (ys ++ [0]) w12 HT12.out HY12.out (by omega) (by omega)) ?_
                rintro e w13 ⟨rfl, hb13⟩
                rw [(idx_one (xs := xs) (ys := ys) (by have := HLEN.out; omega) (by have := HLEN.out; omega)).1, (idx_one (xs := xs) (ys := ys) (by have := HLEN.out; omega) (by have := HLEN.out; omega)).2, ← HIx.out, ← HE.out]
                have HB13 := hide (HB12.out.trans (hb13.mono hs12))
                have hs13 := HB13.out.size
                have HT13 := hide (HT12.out.below hb13)
                clear hb13 HT12 HY12
                go_wp2_with fail
                refine Calls.mono (size_any A10 T2 c10 (xs ++ [1]) w13 HT13.out (by omega)) ?_
                rintro e w14 ⟨rfl, hb14⟩
                rw [sizeI_one (by have := HLEN.out; omega) (by have := HLEN.out; omega), ← HN.out]
                have HB14 := hide (HB13.out.trans (hb14.mono hs13))
                clear hb14 HT13
                go_wp2
                go_ret
                exact ⟨rfl, HB14.out⟩
              · have hKM2 : M ≤ K := by omega
                obtain rfl : F = 1 := by
                  rw [HF.out, idxE, HOK.out, decide_eq_false hKM]
                  simp
                clear hok
                have hwNM : IntKind.i64.wrap (N * M) = N * M := IntWalk.i64_in _ (by have := Int.mul_le_mul hN4 hM2 (by omega) (by omega); have := Int.mul_nonneg (show 0 ≤ N by omega) (show 0 ≤ M by omega); omega)
                go_wp2_with fail
                refine Calls.mono (check_any A5 T c5 (M :: xs) w7 HT7.out (by omega)) ?_
                rintro e w8 ⟨rfl, hb8⟩
                rw [HCHK.out]
                have HB8 := hide (HB7.out.trans (hb8.mono hs7))
                have hs8 := HB8.out.size
                have HT8 := hide (HT7.out.below hb8)
                clear hb8 HB7 hs7 HT7
                go_wp2_with fail
                refine Calls.mono (size_any A5 T c5 (M :: xs) w8 HT8.out (by omega)) ?_
                rintro e wy ⟨rfl, hby⟩
                rw [HSMz.out]
                have HBx := hide (HB8.out.trans (hby.mono hs8))
                have hsx := HBx.out.size
                clear hby HB8 hs8 HT8
                go_wp2_with (at_builtin; refine wpList_append_nil rfl _ _ 22 rfl 3 i0 (.int .i64 0) 8 Try.underlying22 HI.out HZ0.out HZ1.out HZ2.out rfl rfl A n c .i64 xs rfl (HA.out.below HBx.out) HAN.out (by omega) (by unfold maxLen; omega) ?_)
                intro A9 c9 w9 ho9 hb9
                have HO9 := hide ho9
                have HB9 := hide (HBx.out.trans (hb9.mono hsx))
                have hs9 := HB9.out.size
                have hs9b := hb9.size
                have HL1 : Hid (Lies (w9.alloc (.cells #[.int .i64 1] 3)) (some ⟨w9.heap.size, 0, none⟩) 1 (([1] : List Int).map (Value.int .i64))) := hide (lies_lit w9 [1] 3)
                have HB9a := hide (HB9.out.alloc hs9 (.cells #[.int .i64 1] 3))
                have HU : Hid (n + 1 ≤ 5) := hide (by omega)
                clear ho9 hb9 HB9 hs9
                go_wp2_with (at_builtin; refine wpList_append_ints rfl _ _ 22 rfl 3 i0 (.int .i64 0) 8 Try.underlying22 HI.out HZ0.out HZ1.out HZ2.out rfl wy.heap.size A9 n c9 (n + 1) .i64 xs rfl (HO9.out.alloc _) (by simp; omega) (some ⟨w9.heap.size, 0, none⟩) 1 1 [1] rfl HL1.out (by simp) rfl (by omega) (by unfold maxLen; omega) ?_)
                intro A10 c10 w10 ho10 hb10
                have HT10 : Hid (Lies w10 A10 (n + 1) ((xs ++ [1]).map (Value.int .i64))) := hide (by rw [List.map_append]; exact lies_of_own ho10)
                have HB10 := hide (HB9a.out.trans (hb10.mono hsx))
                have hs10 := HB10.out.size
                clear ho10 hb10 HB9a HL1 HO9
                obtain ⟨T2, hT2⟩ : ∃ T2, T2 = n + 1 := ⟨_, rfl⟩
                have hT2b : T2 ≤ 5 := by omega
                rw [← hT2] at HT10 ⊢
                have HT2 := hide hT2
                clear hT2
                go_wp2_with (at_builtin; refine wpList_append_nil rfl _ _ 22 rfl 3 i0 (.int .i64 0) 8 Try.underlying22 HI.out HZ0.out HZ1.out HZ2.out rfl rfl B m cB .i64 ys rfl (HY.out.below HB10.out) HBN.out (by omega) (by unfold maxLen; omega) ?_)
                intro A11 c11 w11 ho11 hb11
                have HO11 := hide ho11
                have HB11 := hide (HB10.out.trans (hb11.mono hs10))
                have hs11 := HB11.out.size
                have hs11b := hb11.size
                have HL0 : Hid (Lies (w11.alloc (.cells #[.int .i64 0] 3)) (some ⟨w11.heap.size, 0, none⟩) 1 (([0] : List Int).map (Value.int .i64))) := hide (lies_lit w11 [0] 3)
                have HB11a := hide (HB11.out.alloc hs11 (.cells #[.int .i64 0] 3))
                have hb11a : Below w10.heap.size w10 (w11.alloc (.cells #[.int .i64 0] 3)) := hb11.alloc hs11b _
                have HB11w := hide hb11a
                clear ho11 hb11 hb11a HB11 hs11
                go_wp2_with (at_builtin; refine wpList_append_ints rfl _ _ 22 rfl 3 i0 (.int .i64 0) 8 Try.underlying22 HI.out HZ0.out HZ1.out HZ2.out rfl w10.heap.size A11 m c11 (m + 1) .i64 ys rfl (HO11.out.alloc _) (by simp; omega) (some ⟨w11.heap.size, 0, none⟩) 1 1 [0] rfl HL0.out (by simp) rfl (by omega) (by unfold maxLen; omega) ?_)
                intro A12 c12 w12 ho12 hb12
                have HY12 : Hid (Lies w12 A12 (m + 1) ((ys ++ [0]).map (Value.int .i64))) := hide (by rw [List.map_append]; exact lies_of_own ho12)
                have HB12 := hide (HB11a.out.trans (hb12.mono hs10))
                have hs12 := HB12.out.size
                have HT12 : Hid (Lies w12 A10 T2 ((xs ++ [1]).map (Value.int .i64))) := hide (HT10.out.below (HB11w.out.trans hb12))
                clear ho12 hb12 HB11a HL0 HO11 HB11w HT10
                go_wp2_with fail
                refine Calls.mono (index_any A10 A12 T2 c10 (m + 1) c12 (xs ++ [1]) (ys ++ [0]) w12 HT12.out HY12.out (by omega) (by omega)) ?_
                rintro e w13 ⟨rfl, hb13⟩
                rw [(idx_one (xs := xs) (ys := ys) (by have := HLEN.out; omega) (by have := HLEN.out; omega)).1, (idx_one (xs := xs) (ys := ys) (by have := HLEN.out; omega) (by have := HLEN.out; omega)).2, ← HIx.out, ← HE.out]
                have HB13 := hide (HB12.out.trans (hb13.mono hs12))
                have hs13 := HB13.out.size
                have HT13 := hide (HT12.out.below hb13)
                clear hb13 HT12 HY12
                go_wp2_with fail
                refine Calls.mono (size_any A10 T2 c10 (xs ++ [1]) w13 HT13.out (by omega)) ?_
                rintro e w14 ⟨rfl, hb14⟩
                rw [sizeI_one (by have := HLEN.out; omega) (by have := HLEN.out; omega), ← HN.out]
                have HB14 := hide (HB13.out.trans (hb14.mono hs13))
                clear hb14 HT13
                go_wp2
                go_ret
                exact ⟨rfl, HB14.out⟩
          · obtain rfl : E = 1 := by rw [HE.out, idxE, if_neg hok]
            obtain rfl : F = 1 := by
              rw [HF.out, idxE, HOK.out, Bool.eq_false_iff.2 hok]
              rfl
            clear hok
            have hwNM : IntKind.i64.wrap (N * M) = N * M := IntWalk.i64_in _ (by have := Int.mul_le_mul hN4 hM2 (by omega) (by omega); have := Int.mul_nonneg (show 0 ≤ N by omega) (show 0 ≤ M by omega); omega)
            go_wp2_with fail
            refine Calls.mono (check_any A5 T c5 (M :: xs) w7 HT7.out (by omega)) ?_
            rintro e w8 ⟨rfl, hb8⟩
            rw [HCHK.out]
            have HB8 := hide (HB7.out.trans (hb8.mono hs7))
            have hs8 := HB8.out.size
            have HT8 := hide (HT7.out.below hb8)
            clear hb8 HB7 hs7 HT7
            go_wp2_with fail
            refine Calls.mono (size_any A5 T c5 (M :: xs) w8 HT8.out (by omega)) ?_
            rintro e wy ⟨rfl, hby⟩
            rw [HSMz.out]
            have HBx := hide (HB8.out.trans (hby.mono hs8))
            have hsx := HBx.out.size
            clear hby HB8 hs8 HT8
            go_wp2_with (at_builtin; refine wpList_append_nil rfl _ _ 22 rfl 3 i0 (.int .i64 0) 8 Try.underlying22 HI.out HZ0.out HZ1.out HZ2.out rfl rfl A n c .i64 xs rfl (HA.out.below HBx.out) HAN.out (by omega) (by unfold maxLen; omega) ?_)
            intro A9 c9 w9 ho9 hb9
            have HO9 := hide ho9
            have HB9 := hide (HBx.out.trans (hb9.mono hsx))
            have hs9 := HB9.out.size
            have hs9b := hb9.size
            have HL1 : Hid (Lies (w9.alloc (.cells #[.int .i64 1] 3)) (some ⟨w9.heap.size, 0, none⟩) 1 (([1] : List Int).map (Value.int .i64))) := hide (lies_lit w9 [1] 3)
            have HB9a := hide (HB9.out.alloc hs9 (.cells #[.int .i64 1] 3))
            have HU : Hid (n + 1 ≤ 5) := hide (by omega)
            clear ho9 hb9 HB9 hs9
            go_wp2_with (at_builtin; refine wpList_append_ints rfl _ _ 22 rfl 3 i0 (.int .i64 0) 8 Try.underlying22 HI.out HZ0.out HZ1.out HZ2.out rfl wy.heap.size A9 n c9 (n + 1) .i64 xs rfl (HO9.out.alloc _) (by simp; omega) (some ⟨w9.heap.size, 0, none⟩) 1 1 [1] rfl HL1.out (by simp) rfl (by omega) (by unfold maxLen; omega) ?_)
            intro A10 c10 w10 ho10 hb10
            have HT10 : Hid (Lies w10 A10 (n + 1) ((xs ++ [1]).map (Value.int .i64))) := hide (by rw [List.map_append]; exact lies_of_own ho10)
            have HB10 := hide (HB9a.out.trans (hb10.mono hsx))
            have hs10 := HB10.out.size
            clear ho10 hb10 HB9a HL1 HO9
            obtain ⟨T2, hT2⟩ : ∃ T2, T2 = n + 1 := ⟨_, rfl⟩
            have hT2b : T2 ≤ 5 := by omega
            rw [← hT2] at HT10 ⊢
            have HT2 := hide hT2
            clear hT2
            go_wp2_with (at_builtin; refine wpList_append_nil rfl _ _ 22 rfl 3 i0 (.int .i64 0) 8 Try.underlying22 HI.out HZ0.out HZ1.out HZ2.out rfl rfl B m cB .i64 ys rfl (HY.out.below HB10.out) HBN.out (by omega) (by unfold maxLen; omega) ?_)
            intro A11 c11 w11 ho11 hb11
            have HO11 := hide ho11
            have HB11 := hide (HB10.out.trans (hb11.mono hs10))
            have hs11 := HB11.out.size
            have hs11b := hb11.size
            have HL0 : Hid (Lies (w11.alloc (.cells #[.int .i64 0] 3)) (some ⟨w11.heap.size, 0, none⟩) 1 (([0] : List Int).map (Value.int .i64))) := hide (lies_lit w11 [0] 3)
            have HB11a := hide (HB11.out.alloc hs11 (.cells #[.int .i64 0] 3))
            have hb11a : Below w10.heap.size w10 (w11.alloc (.cells #[.int .i64 0] 3)) := hb11.alloc hs11b _
            have HB11w := hide hb11a
            clear ho11 hb11 hb11a HB11 hs11
            go_wp2_with (at_builtin; refine wpList_append_ints rfl _ _ 22 rfl 3 i0 (.int .i64 0) 8 Try.underlying22 HI.out HZ0.out HZ1.out HZ2.out rfl w10.heap.size A11 m c11 (m + 1) .i64 ys rfl (HO11.out.alloc _) (by simp; omega) (some ⟨w11.heap.size, 0, none⟩) 1 1 [0] rfl HL0.out (by simp) rfl (by omega) (by unfold maxLen; omega) ?_)
            intro A12 c12 w12 ho12 hb12
            have HY12 : Hid (Lies w12 A12 (m + 1) ((ys ++ [0]).map (Value.int .i64))) := hide (by rw [List.map_append]; exact lies_of_own ho12)
            have HB12 := hide (HB11a.out.trans (hb12.mono hs10))
            have hs12 := HB12.out.size
            have HT12 : Hid (Lies w12 A10 T2 ((xs ++ [1]).map (Value.int .i64))) := hide (HT10.out.below (HB11w.out.trans hb12))
            clear ho12 hb12 HB11a HL0 HO11 HB11w HT10
            go_wp2_with fail
            refine Calls.mono (index_any A10 A12 T2 c10 (m + 1) c12 (xs ++ [1]) (ys ++ [0]) w12 HT12.out HY12.out (by omega) (by omega)) ?_
            rintro e w13 ⟨rfl, hb13⟩
            rw [(idx_one (xs := xs) (ys := ys) (by have := HLEN.out; omega) (by have := HLEN.out; omega)).1, (idx_one (xs := xs) (ys := ys) (by have := HLEN.out; omega) (by have := HLEN.out; omega)).2, ← HIx.out, ← HE.out]
            have HB13 := hide (HB12.out.trans (hb13.mono hs12))
            have hs13 := HB13.out.size
            have HT13 := hide (HT12.out.below hb13)
            clear hb13 HT12 HY12
            go_wp2_with fail
            refine Calls.mono (size_any A10 T2 c10 (xs ++ [1]) w13 HT13.out (by omega)) ?_
            rintro e w14 ⟨rfl, hb14⟩
            rw [sizeI_one (by have := HLEN.out; omega) (by have := HLEN.out; omega), ← HN.out]
            have HB14 := hide (HB13.out.trans (hb14.mono hs13))
            clear hb14 HT13
            go_wp2
            go_ret
            exact ⟨rfl, HB14.out⟩
        · have hz : sizeI (M :: xs) = 0 := by rw [HSM.out, if_neg (fun h => hfit (hiff.2 h.2.2.2))]
          have hfit2 : q < N := by omega
          clear hqe hiff
          have HCHK : Hid (decide (0 < sizeI (M :: xs)) = false) := hide (by rw [hz]; rfl)
          obtain rfl : F = 1 := HNO.out hz
          clear hz
          go_wp2_with fail
          refine Calls.mono (check_any A5 T c5 (M :: xs) w7 HT7.out (by omega)) ?_
          rintro e w8 ⟨rfl, hb8⟩
          rw [HCHK.out]
          have HBx := hide (HB7.out.trans (hb8.mono hs7))
          have hsx := HBx.out.size
          clear hb8 HB7 hs7 HT7
          go_wp2_with (at_builtin; refine wpList_append_nil rfl _ _ 22 rfl 3 i0 (.int .i64 0) 8 Try.underlying22 HI.out HZ0.out HZ1.out HZ2.out rfl rfl A n c .i64 xs rfl (HA.out.below HBx.out) HAN.out (by omega) (by unfold maxLen; omega) ?_)
          intro A9 c9 w9 ho9 hb9
          have HO9 := hide ho9
          have HB9 := hide (HBx.out.trans (hb9.mono hsx))
          have hs9 := HB9.out.size
          have hs9b := hb9.size
          have HL1 : Hid (Lies (w9.alloc (.cells #[.int .i64 1] 3)) (some ⟨w9.heap.size, 0, none⟩) 1 (([1] : List Int).map (Value.int .i64))) := hide (lies_lit w9 [1] 3)
          have HB9a := hide (HB9.out.alloc hs9 (.cells #[.int .i64 1] 3))
          have HU : Hid (n + 1 ≤ 5) := hide (by omega)
          clear ho9 hb9 HB9 hs9
          go_wp2_with (at_builtin; refine wpList_append_ints rfl _ _ 22 rfl 3 i0 (.int .i64 0) 8 Try.underlying22 HI.out HZ0.out HZ1.out HZ2.out rfl w8.heap.size A9 n c9 (n + 1) .i64 xs rfl (HO9.out.alloc _) (by simp; omega) (some ⟨w9.heap.size, 0, none⟩) 1 1 [1] rfl HL1.out (by simp) rfl (by omega) (by unfold maxLen; omega) ?_)
          intro A10 c10 w10 ho10 hb10
          have HT10 : Hid (Lies w10 A10 (n + 1) ((xs ++ [1]).map (Value.int .i64))) := hide (by rw [List.map_append]; exact lies_of_own ho10)
          have HB10 := hide (HB9a.out.trans (hb10.mono hsx))
          have hs10 := HB10.out.size
          clear ho10 hb10 HB9a HL1 HO9
          obtain ⟨T2, hT2⟩ : ∃ T2, T2 = n + 1 := ⟨_, rfl⟩
          have hT2b : T2 ≤ 5 := by omega
          rw [← hT2] at HT10 ⊢
          have HT2 := hide hT2
          clear hT2
          go_wp2_with (at_builtin; refine wpList_append_nil rfl _ _ 22 rfl 3 i0 (.int .i64 0) 8 Try.underlying22 HI.out HZ0.out HZ1.out HZ2.out rfl rfl B m cB .i64 ys rfl (HY.out.below HB10.out) HBN.out (by omega) (by unfold maxLen; omega) ?_)
          intro A11 c11 w11 ho11 hb11
          have HO11 := hide ho11
          have HB11 := hide (HB10.out.trans (hb11.mono hs10))
          have hs11 := HB11.out.size
          have hs11b := hb11.size
          have HL0 : Hid (Lies (w11.alloc (.cells #[.int .i64 0] 3)) (some ⟨w11.heap.size, 0, none⟩) 1 (([0] : List Int).map (Value.int .i64))) := hide (lies_lit w11 [0] 3)
          have HB11a := hide (HB11.out.alloc hs11 (.cells #[.int .i64 0] 3))
          have hb11a : Below w10.heap.size w10 (w11.alloc (.cells #[.int .i64 0] 3)) := hb11.alloc hs11b _
          have HB11w := hide hb11a
          clear ho11 hb11 hb11a HB11 hs11
          go_wp2_with (at_builtin; refine wpList_append_ints rfl _ _ 22 rfl 3 i0 (.int .i64 0) 8 Try.underlying22 HI.out HZ0.out HZ1.out HZ2.out rfl w10.heap.size A11 m c11 (m + 1) .i64 ys rfl (HO11.out.alloc _) (by simp; omega) (some ⟨w11.heap.size, 0, none⟩) 1 1 [0] rfl HL0.out (by simp) rfl (by omega) (by unfold maxLen; omega) ?_)
          intro A12 c12 w12 ho12 hb12
          have HY12 : Hid (Lies w12 A12 (m + 1) ((ys ++ [0]).map (Value.int .i64))) := hide (by rw [List.map_append]; exact lies_of_own ho12)
          have HB12 := hide (HB11a.out.trans (hb12.mono hs10))
          have hs12 := HB12.out.size
          have HT12 : Hid (Lies w12 A10 T2 ((xs ++ [1]).map (Value.int .i64))) := hide (HT10.out.below (HB11w.out.trans hb12))
          clear ho12 hb12 HB11a HL0 HO11 HB11w HT10
          go_wp2_with fail
          refine Calls.mono (index_any A10 A12 T2 c10 (m + 1) c12 (xs ++ [1]) (ys ++ [0]) w12 HT12.out HY12.out (by omega) (by omega)) ?_
          rintro e w13 ⟨rfl, hb13⟩
          rw [(idx_one (xs := xs) (ys := ys) (by have := HLEN.out; omega) (by have := HLEN.out; omega)).1, (idx_one (xs := xs) (ys := ys) (by have := HLEN.out; omega) (by have := HLEN.out; omega)).2, ← HIx.out, ← HE.out]
          have HB13 := hide (HB12.out.trans (hb13.mono hs12))
          have hs13 := HB13.out.size
          have HT13 := hide (HT12.out.below hb13)
          clear hb13 HT12 HY12
          go_wp2_with fail
          refine Calls.mono (size_any A10 T2 c10 (xs ++ [1]) w13 HT13.out (by omega)) ?_
          rintro e w14 ⟨rfl, hb14⟩
          rw [sizeI_one (by have := HLEN.out; omega) (by have := HLEN.out; omega), ← HN.out]
          have HB14 := hide (HB13.out.trans (hb14.mono hs13))
          clear hb14 HT13
          go_wp2
          go_ret
          exact ⟨rfl, HB14.out⟩

theorem more_any (A B : Option Addr) (n c m cB : Nat) (M K : Int) (xs ys : List Int) (w : World) (hA : Lies w A n (xs.map (Value.int .i64))) (hB : Lies w B m (ys.map (Value.int .i64))) (hAn : A = none → c = 0) (hBn : B = none → cB = 0)
    (hn : n * 8 ≤ 140737488351232) (hm : m * 8 ≤ 140737488351232) :
    Calls Try.prog 4 #[.slice A n c, .slice B m cB, .agg #[.int .i64 M, .int .i64 K]] w fun e w' => e = .returned (.bool true) ∧ Below w.heap.size w w' := by
  by_cases h : 0 < sizeI xs
  · by_cases h2 : m ≤ 10000
    · exact more_walk A B n c m cB M K xs ys w hA hB hAn hBn h2 h
    · exact more_out A B n c m cB M K xs w hA (by omega) (by omega) (.inr (.inl (by omega)))
  · exact more_out A B n c m cB M K xs w hA (by omega) (by omega) (.inr (.inr h))
end Go.Proofs.Ytlkldodkoeaedaa
