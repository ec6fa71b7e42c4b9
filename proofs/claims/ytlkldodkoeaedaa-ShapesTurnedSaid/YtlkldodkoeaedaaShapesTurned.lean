/- ShapesTurned holds for every list of numbers, from whichever one on they stand: the walk of its Go text. -/
import Derived.Test.YtlkldodkoeaedaaAlive4
import Derived.Test.YtlkldodkoeaedaaAppNil
import Derived.Deep.RegionHeld3
namespace Go.Proofs.Ytlkldodkoeaedaa
open Go.RowKit
set_option linter.unusedVariables false
set_option linter.unusedSimpArgs false

theorem sizeI_turn (xs : List Int) (k : Nat) : sizeI (xs.drop k ++ xs.take k) = sizeI xs := by
  have hl : (xs.drop k ++ xs.take k).length = xs.length := by simp; omega
  have hp : prodZ (xs.drop k ++ xs.take k) = prodZ xs := by
    rw [prodZ_append, Int.mul_comm, ← prodZ_append, List.take_append_drop]
  unfold sizeI
  rw [hl, hp]
theorem turned_out (A : Option Addr) (n c : Nat) (a : Int) (w : World) (h : n = 0 ∨ 10000 < n) (hn : n ≤ 281474976710656) :
    Calls Try.prog 5 #[.slice A n c, .int .u8 a] w fun e w' => e = .returned (.bool true) ∧ Below w.heap.size w w' := by
  rcases h with rfl | h
  all_goals
    go_enter Try.func5, Try.ntmps5
    go_wp2_with fail
    refine Calls.mono (alive4_any _) ?_
    rintro e w1 ⟨rfl, hb1⟩
    have HB1 := hide hb1
    have hs1 := hb1.size
    clear hb1
    go_wp2_with fail
    refine Calls.mono (alive4_any w1) ?_
    rintro e w2 ⟨rfl, hb2⟩
    have HB2 := hide (HB1.out.trans (hb2.mono hs1))
    clear hb2
    go_wp2
    go_ret
    exact ⟨rfl, HB2.out⟩

set_option maxRecDepth 100000 in
set_option maxHeartbeats 4000000 in
theorem turned_walk (A : Option Addr) (n c a : Nat) (xs : List Int) (w : World) (hA : Lies w A n (xs.map (Value.int .i64))) (hnc : n ≤ c) (ha : a < 256) (h0 : 0 < n) (hn : n ≤ 10000) :
    Calls Try.prog 5 #[.slice A n c, .int .u8 (a : Int)] w fun e w' => e = .returned (.bool true) ∧ Below w.heap.size w w' := by
  obtain ⟨i0, hi, hz0, hz1, hz2⟩ := info_parts Try.infoI
  have HI := hide hi
  have HZ0 := hide hz0
  have HZ1 := hide hz1
  have HZ2 := hide hz2
  have hlen : xs.length = n := by have := hA.len; simpa using this
  obtain ⟨b, o, rfl, _, _⟩ := hA.cells h0
  obtain ⟨k, hk⟩ : ∃ k, k = a % n := ⟨_, rfl⟩
  have hkn : k < n := by rw [hk]; exact Nat.mod_lt _ h0
  obtain ⟨m, hm⟩ : ∃ m, n = k + m := ⟨n - k, by omega⟩
  have hm1 : (a : Int).tmod (n : Int) = (k : Int) := by
    rw [Int.tmod_eq_emod_of_nonneg (by omega), hk]; rfl
  have hwk : IntKind.i64.wrap (k : Int) = (k : Int) := IntWalk.i64_in _ (by omega)
  have hnz : ¬ ((n : Int) = 0) := by omega
  have hLD : Lies w (some ⟨b, o + k, none⟩) m ((xs.drop k).map (Value.int .i64)) := by
    have h := hA.drop (k := k) (cap := n + 1) (by omega) (by omega)
    rw [if_neg (by omega), show n - k = m by omega, ← List.map_drop] at h
    simpa [Addr.add_lit] using h
  have hLT : Lies w (some ⟨b, o, none⟩) k ((xs.take k).map (Value.int .i64)) := by
    have h := hA.take (k := k) (by omega)
    rwa [← List.map_take] at h
  have HA := hide hA
  have HLD := hide hLD
  have HLT := hide hLT
  have HSZ := hide (sizeI_turn xs k)
  have HL : Hid (m + k = n) := hide (by omega)
  have f0 : (0 : Int) ≤ (k : Int) := by omega
  have f1 : (k : Int) ≤ (n : Int) := by omega
  have f2 : (k : Int) ≤ (c : Int) := by omega
  have f3 : (n : Int) ≤ (c : Int) := by omega
  have f4 : k ≤ n := by omega
  have f6 : ¬ c = k := by omega
  have f7 : n - k = m := by omega
  have f5 : (n : Int) - (k : Int) = (m : Int) := by omega
  have hn1 : ((n : Int) == 0) = false := by simp; omega
  have HM := hide hm
  clear hi hz0 hz1 hz2 hlen hk hA hLD hLT hm
  go_enter Try.func5, Try.ntmps5
  go_wp2_with fail
  refine Calls.mono (alive4_any _) ?_
  rintro e w1 ⟨rfl, hb1⟩
  have HB1 := hide hb1
  have hs1 := hb1.size
  clear hb1
  go_wp2_with fail
  go_region_held3 (fun _ => True) (trivial)
    (first
      | (refine step_append_nil rfl (.const (.slice none 0 0)) (.tmp 27) 22 rfl 3 i0 (.int .i64 0) 8 Try.underlying22 HI.out HZ0.out HZ1.out HZ2.out rfl rfl (some ⟨b, o + k, none⟩) m _ .i64 (xs.drop k) rfl ((HLD.out.below HB1.out).drewN 1) (by simp) (by omega) (by unfold maxLen; omega) ?_; intro A3 c3 w3 ho3 hb3)
      | (refine step_append_ints rfl (.tmp 28) (.tmp 31) 22 rfl 3 i0 (.int .i64 0) 8 Try.underlying22 HI.out HZ0.out HZ1.out HZ2.out rfl w1.heap.size A3 m c3 n .i64 (xs.drop k) rfl ho3 hb3.size (some ⟨b, o, none⟩) k _ (xs.take k) rfl (((HLT.out.below HB1.out).drewN 1).below hb3) (by simp) HL.out (by omega) (by unfold maxLen; omega) ?_; intro A4 c4 w4 ho4 hb4))
  have hb14 : Below w1.heap.size w1 w4 := ((below_drewN (Below.refl w1.heap.size w1) 1).trans hb3).trans hb4
  have HB4 := hide (HB1.out.trans (hb14.mono hs1))
  have hs4 := HB4.out.size
  have HT4 := hide (lies_of_own ho4)
  clear ho3 hb3 ho4 hb4 hb14 HB1 hs1
  go_wp2_with fail
  refine Calls.mono (check_any A4 n c4 _ w4 HT4.out (by omega)) ?_
  rintro e w5 ⟨rfl, hb5⟩
  rw [HSZ.out]
  have HB5 := hide (HB4.out.trans (hb5.mono hs4))
  have hs5 := HB5.out.size
  have HT5 := hide (HT4.out.below hb5)
  clear hb5 HB4 hs4 HT4
  go_wp2_with fail
  refine Calls.mono (check_any _ n c xs w5 (HA.out.below HB5.out) (by omega)) ?_
  rintro e w6 ⟨rfl, hb6⟩
  have HB6 := hide (HB5.out.trans (hb6.mono hs5))
  have hs6 := HB6.out.size
  have HT6 := hide (HT5.out.below hb6)
  clear hb6 HB5 hs5 HT5
  go_wp2_with fail
  refine Calls.mono (size_any A4 n c4 _ w6 HT6.out (by omega)) ?_
  rintro e w7 ⟨rfl, hb7⟩
  rw [HSZ.out]
  have HB7 := hide (HB6.out.trans (hb7.mono hs6))
  have hs7 := HB7.out.size
  clear hb7 HB6 hs6 HT6
  go_wp2_with fail
  refine Calls.mono (size_any _ n c xs w7 (HA.out.below HB7.out) (by omega)) ?_
  rintro e w8 ⟨rfl, hb8⟩
  have HB8 := hide (HB7.out.trans (hb8.mono hs7))
  clear hb8 HB7 hs7
  go_wp2
  go_ret
  exact ⟨rfl, HB8.out⟩

theorem turned_any (A : Option Addr) (n c : Nat) (a : Int) (xs : List Int) (w : World) (ha : 0 ≤ a ∧ a < 256) (hA : Lies w A n (xs.map (Value.int .i64))) (hnc : n ≤ c) (hn : n * 8 ≤ 140737488351232) :
    Calls Try.prog 5 #[.slice A n c, .int .u8 a] w fun e w' => e = .returned (.bool true) ∧ Below w.heap.size w w' := by
  by_cases h : n ≤ 10000
  · by_cases h0 : n = 0
    · exact turned_out A n c a w (.inl h0) (by omega)
    · obtain ⟨b, rfl⟩ : ∃ b : Nat, a = (b : Int) := ⟨a.toNat, by omega⟩
      exact turned_walk A n c b xs w hA hnc (by omega) (by omega) h
  · exact turned_out A n c a w (.inr (by omega)) (by omega)
end Go.Proofs.Ytlkldodkoeaedaa
