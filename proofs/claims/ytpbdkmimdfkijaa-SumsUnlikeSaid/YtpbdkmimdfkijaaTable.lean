/- Contracts of shiftOut and makeTable of package sums: the table of half bytes; nothing that was there is changed. -/
import Derived.Test.YtpbdkmimdfkijaaCells
import Derived.Test.YtpbdkmimdfkijaaCrc
namespace Go.Proofs.Ytpbdkmimdfkijaa
open Go.RowKit

theorem step_even {r : Nat} (h : r % 2 = 0) : step r = r / 2 := by unfold step; rw [if_neg (by omega)]
theorem step_odd {r : Nat} (h : r % 2 = 1) : step r = (r / 2) ^^^ 3988292384 := by unfold step; rw [if_pos h]
theorem and_one {x : Nat} (h : x < 4294967296) : bits .and .u32 (x : Int) 1 = ((x % 2 : Nat) : Int) := by
  rw [show (1 : Int) = ((1 : Nat) : Int) from rfl, u32_and_nat x 1 h (by omega), nat_mask1]
theorem and_fifteen {x : Nat} (h : x < 4294967296) : bits .and .u32 (x : Int) 15 = ((x % 16 : Nat) : Int) := by
  rw [show (15 : Int) = ((15 : Nat) : Int) from rfl, u32_and_nat x 15 h (by omega), nat_mask4]
theorem xor_half {x : Nat} (h : x < 4294967296) : bits .xor .u32 ((x : Int) / 2) 3988292384 = ((x / 2 ^^^ 3988292384 : Nat) : Int) := by
  have := u32_xor_nat (x / 2) 3988292384 (by omega) (by omega)
  simpa using this

set_option maxHeartbeats 400000 in
theorem shift_any (r : Nat) (h1 : r < 4294967296) (w : World) : Calls Try.prog 18 #[.int .u32 (r : Int)] w fun e w' => e = .returned (.int .u32 ((steps 4 r : Nat) : Int)) ∧ w = w' := by
  go_enter Try.func18, Try.ntmps18
  go_wp2
  go_loop [0, 4] (fun v i => ∃ k : Nat, k ≤ 4 ∧ i = .int .i64 k ∧ v = .int .u32 ((steps k r : Nat) : Int)) (fun _ i => 4 - (intOf i).toNat)
  case atStart => exact ⟨0, Nat.zero_le _, rfl, rfl⟩
  case round =>
    obtain ⟨k, hk, rfl, rfl⟩ := hrel
    have hlt4 := steps_lt k h1
    obtain ⟨x, hx⟩ : ∃ x, x = steps k r := ⟨_, rfl⟩
    have hsn := steps_succ k r
    rw [← hx] at hlt4 hsn ⊢
    have HSN := hide hsn
    have HX := hide hx
    clear hx hsn
    by_cases hlt : k < 4
    · rcases Nat.mod_two_eq_zero_or_one x with hm | hm
      · have hand : bits .and .u32 (x : Int) 1 = 0 := by rw [and_one hlt4, hm]; rfl
        have HE := hide (step_even hm)
        clear hm
        go_wp2
        go_round
        case rel => exact ⟨k + 1, by omega, by go_num, by rw [HSN.out, HE.out]; simp⟩
        case measure => simp [intOf]; omega
      · have hand : bits .and .u32 (x : Int) 1 = 1 := by rw [and_one hlt4, hm]; rfl
        have HE := hide (step_odd hm)
        have HXO := hide (xor_half hlt4)
        clear hm
        go_wp2
        go_round
        case rel => exact ⟨k + 1, by omega, by go_num, by rw [HSN.out, HE.out, HXO.out]⟩
        case measure => simp [intOf]; omega
    · obtain rfl : k = 4 := by omega
      go_wp2
      go_ret
      exact ⟨by rw [HX.out]; rfl, rfl⟩

/-- The table, its first k words filled. -/
def tabL (k : Nat) : List Value := (List.range 16).map fun j => .int .u32 (((if j < k then steps 4 j else 0) : Nat) : Int)
def tabA (k : Nat) : Array Value := (tabL k).toArray
theorem tab_size (k : Nat) : (tabA k).size = 16 := by simp [tabA, tabL]
theorem tab_at (k j : Nat) (h : j < 16) : (tabA k)[j]? = some (.int .u32 (((if j < k then steps 4 j else 0) : Nat) : Int)) := by simp [tabA, tabL, h]
theorem tab_set (k : Nat) (_h : k < 16) : (tabA k).setIfInBounds k (.int .u32 ((steps 4 k : Nat) : Int)) = tabA (k + 1) := by
  apply Array.ext_getElem?
  intro j
  rw [Array.getElem?_setIfInBounds]
  by_cases hj : j < 16
  · rw [tab_at (k + 1) j hj]
    by_cases e : k = j
    · subst e
      rw [if_pos rfl, if_pos (by rw [tab_size]; exact hj), if_pos (by omega)]
    · rw [if_neg e, tab_at k j hj]
      by_cases hjk : j < k
      · rw [if_pos hjk, if_pos (by omega)]
      · rw [if_neg hjk, if_neg (by omega)]
  · have h1 : (tabA (k + 1))[j]? = none := by rw [Array.getElem?_eq_none_iff, tab_size]; omega
    have h2 : (tabA k)[j]? = none := by rw [Array.getElem?_eq_none_iff, tab_size]; omega
    rw [if_neg (by omega), h1, h2]
theorem tab_zero : tabA 0 = #[.int .u32 0, .int .u32 0, .int .u32 0, .int .u32 0, .int .u32 0, .int .u32 0, .int .u32 0, .int .u32 0, .int .u32 0, .int .u32 0, .int .u32 0, .int .u32 0, .int .u32 0, .int .u32 0, .int .u32 0, .int .u32 0] := by rfl
/-- The whole table, written out. -/
def tabF : Array Value := #[.int .u32 0, .int .u32 498536548, .int .u32 997073096, .int .u32 651767980, .int .u32 1994146192, .int .u32 1802195444, .int .u32 1303535960, .int .u32 1342533948, .int .u32 3988292384, .int .u32 4027552580, .int .u32 3604390888, .int .u32 3412177804, .int .u32 2607071920, .int .u32 2262029012, .int .u32 2685067896, .int .u32 3183342108]
theorem tab_full : tabA 16 = #[.int .u32 0, .int .u32 498536548, .int .u32 997073096, .int .u32 651767980, .int .u32 1994146192, .int .u32 1802195444, .int .u32 1303535960, .int .u32 1342533948, .int .u32 3988292384, .int .u32 4027552580, .int .u32 3604390888, .int .u32 3412177804, .int .u32 2607071920, .int .u32 2262029012, .int .u32 2685067896, .int .u32 3183342108] := by rfl
theorem tab_word (j : Nat) (h : j < 16) : tabF[j]? = some (.int .u32 ((steps 4 j : Nat) : Int)) := by
  have := tab_at 16 j h
  rw [if_pos h, tab_full] at this
  exact this

set_option maxRecDepth 100000 in
set_option maxHeartbeats 2000000 in
theorem table_any (w : World) : Calls Try.prog 17 #[] w fun e w' => e = .returned (.agg tabF) ∧ Below w.heap.size w w' := by
  go_enter Try.func17, Try.ntmps17
  go_wp2
  go_loopw [3] (fun i wr => ∃ k : Nat, k ≤ 16 ∧ i = .int .i64 k ∧ wr = (w.alloc (.cells (tabA 0) 39)).alloc (.cells (tabA k) 39)) (fun i _ => 16 - (intOf i).toNat)
  case atStart => exact ⟨0, by omega, rfl, by rw [tab_zero]⟩
  case round =>
    obtain ⟨k, hk, rfl, rfl⟩ := hrel
    by_cases hlt : k < 16
    · have hsz := tab_size k
      have HT := hide (tab_set k hlt)
      have hat := tab_at k k hlt
      rw [if_neg (by omega)] at hat
      go_wp2_with fail
      have h0 : (0 : Int) ≤ (k : Int) := by omega
      have h3 : (k : Int) < 16 := by omega
      refine Calls.mono (shift_any k (by omega) _) ?_
      rintro e w4 ⟨rfl, rfl⟩
      go_wp2
      go_roundw
      case rel => exact ⟨k + 1, by omega, by go_num, by rw [HT.out]⟩
      case measure => simp [intOf]; omega
    · obtain rfl : k = 16 := by omega
      rw [tab_zero, tab_full]
      go_wp2
      exact bodyPost_ret (v := .agg tabF) (by simp [results, Try.results17, go_sem, tabF]) rfl ⟨rfl, ((Below.refl _ _).alloc (Nat.le_refl _) _).alloc (by simp) _⟩

end Go.Proofs.Ytpbdkmimdfkijaa
