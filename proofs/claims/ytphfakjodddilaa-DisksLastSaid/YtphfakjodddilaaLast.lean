/- DisksLast holds for however many writes, whichever are kept: the walk of its Go text. -/
import Derived.Test.YtphfakjodddilaaDiskKd
namespace Go.Proofs.Ytphfakjodddilaa
open Go.RowKit
set_option linter.unusedSimpArgs false
set_option linter.unusedVariables false

def lastW (j : Nat) : List Wr := (List.range j).map fun (i : Nat) => ⟨0, padB [(i : Int) + 1], false⟩
def lastS (z : Nat) : List Sec := [⟨padB [(z : Int)], false⟩]
def wantN (keep : Nat) : Nat → Nat
  | 0 => 0
  | j + 1 => if keptB keep j then j + 1 else wantN keep j
theorem lastW_succ (j : Nat) : lastW (j + 1) = lastW j ++ [⟨0, padB [(j : Int) + 1], false⟩] := by
  simp [lastW, List.range_succ]
theorem lastW_len (j : Nat) : (lastW j).length = j := by simp [lastW]
theorem lastW_at (n j : Nat) (h : j < n) : wrAt (lastW n) j = ⟨0, padB [(j : Int) + 1], false⟩ := by
  simp [wrAt, lastW, List.getD, h]
theorem last_zero : [zeroSec] = lastS 0 := rfl
theorem last_apply (z j : Nat) : applyW (lastS z) ⟨0, padB [(j : Int) + 1], false⟩ = lastS (j + 1) := by
  simp [applyW, lastS, secAt]
theorem last_seen (j : Nat) : seenOf (lastS 0) (lastW j) = lastS j := by
  induction j with
  | zero => rfl
  | succ j ih => rw [lastW_succ, seen_snoc, ih, last_apply]
theorem last_left (keep n k : Nat) (h : k ≤ n) : leftN keep (-1) (lastS 0) (lastW n) k = lastS (wantN keep k) := by
  induction k with
  | zero => rfl
  | succ k ih =>
    rw [leftN, ih (by omega), lastW_at n k (by omega)]
    cases hk : keptB keep k
    · rw [step_lost (by omega) hk, wantN, hk]; rfl
    · rw [step_kept (by omega) hk, wantN, hk]
      simp [lastS, secAt]
theorem last_first (z : Nat) : firstI (secAt (lastS z) 0) = (z : Int) := by
  simp [firstI, secAt, lastS, padB]
theorem wrP_last (j : Nat) (hj : j ≤ 63) : wrP 1 0 [(j : Int) + 1] (lastW j) = lastW (j + 1) := by
  rw [lastW_succ]
  rfl
theorem lies_byte (w : World) (z : Int) : Lies (w.alloc (.cells #[.int .u8 z] 5)) (some ⟨w.heap.size, 0, none⟩) 1 ([z].map (Value.int .u8)) := lies_one w z (0, 0)
set_option maxRecDepth 100000 in
set_option maxHeartbeats 4000000 in
theorem last_law (many : Int) (keep : Nat) (w : World) (hm : 0 ≤ many ∧ many < 256) (hkeep : keep < 18446744073709551616) :
    Calls Try.prog 7 #[.int .u8 many, .int .u64 (keep : Int)] w fun e w' => e = .returned (.bool true) ∧ Below w.heap.size w w' := by
  have HKE := hide hkeep
  obtain ⟨m0, m1⟩ := hm
  obtain ⟨n, hn⟩ : ∃ n : Nat, many % 64 = (n : Int) := ⟨(many % 64).toNat, by omega⟩
  have hn64 : n < 64 := by omega
  have HN := hide (k_new (B := w.heap.size) (l := []) 1 w Ks.nil (Nat.le_refl _) (by omega) (by omega))
  clear hkeep
  go_enter Try.func7, Try.ntmps7
  go_wp2_with fail
  refine Calls.mono HN.out ?_
  rintro e w1 ⟨g, rfl, hk, hb⟩
  have HK1 : Hid (Ks w.heap.size w1 [⟨g, lastS 0, lastW 0⟩]) := hide hk
  have HB1 := hide hb
  have hs1 := hb.size
  clear hk hb HN
  go_wp2
  clear hn
  go_loopw [8, 9] (fun z i wr => ∃ j : Nat, j ≤ n ∧ i = .int .i64 j ∧ z = .int .i64 (wantN keep j : Nat) ∧ Hid (Ks w.heap.size wr [⟨g, lastS 0, lastW j⟩]) ∧ Hid (Below w.heap.size w wr)) (fun _ i _ => n - (intOf i).toNat)
  case atStart => exact ⟨0, Nat.zero_le _, rfl, rfl, HK1, HB1⟩
  case round =>
    obtain ⟨j, hj, rfl, rfl, HK, HB⟩ := hrel
    obtain ⟨z, hz⟩ : ∃ z, z = wantN keep j := ⟨_, rfl⟩
    rw [← hz]
    have HZ := hide hz
    clear hz
    by_cases hlt : j < n
    · have HLN : Hid ((lastW j).length ≤ 1000000000) := hide (by rw [lastW_len]; omega)
      have hq : keep / 2 ^ j < 18446744073709551616 := Nat.lt_of_le_of_lt (Nat.div_le_self _ _) HKE.out
      have hand := u64_and_nat (keep / 2 ^ j) 1 hq (by omega)
      rw [Nat.and_one_is_mod] at hand
      have hcast : ((keep : Int) / 2 ^ j) = ((keep / 2 ^ j : Nat) : Int) := by simp
      obtain ⟨kb, hkb⟩ : ∃ kb, kb = keptB keep j := ⟨_, rfl⟩
      have hbit : (bits BinOp.and IntKind.u64 ((keep : Int) / 2 ^ j) 1 == 1) = kb := by
        rw [hcast]
        have hand' : bits BinOp.and IntKind.u64 ((keep / 2 ^ j : Nat) : Int) 1 = _ := hand
        rw [hand', hkb]
        unfold keptB
        rw [Nat.mod_eq_of_lt (show j < 64 by omega), Bool.eq_iff_iff]
        simp
        omega
      have HWN : Hid (wantN keep (j + 1) = if kb then j + 1 else z) := hide (by rw [wantN, hkb, HZ.out])
      have j0 : (0 : Int) ≤ (j : Int) := by omega
      have j1 : (j : Int) < (n : Int) := by omega
      have j2 : (j : Int) + 1 < 256 := by omega
      have j3 : (0 : Int) ≤ (j : Int) + 1 := by omega
      have hszr := HB.out.size
      clear hq hand hcast hkb
      go_wp2_with fail
      refine Calls.mono (k_write (a := []) (b := []) (k := ⟨g, lastS 0, lastW j⟩) 0 (some ⟨wr.heap.size, 0, none⟩) 1 1 [(j : Int) + 1] _ (HK.out.alloc _) (lies_byte wr ((j : Int) + 1)) (by intro x hx; simp at hx; omega) HLN.out) ?_
      rintro e w2 ⟨rfl, hk, hb⟩
      have HK2 : Hid (Ks w.heap.size w2 [⟨g, lastS 0, lastW (j + 1)⟩]) := hide (by
        have := hk
        rwa [show wrP (⟨g, lastS 0, lastW j⟩ : Dk).dur.length 0 [(j : Int) + 1] (⟨g, lastS 0, lastW j⟩ : Dk).pend = lastW (j + 1) from wrP_last j (by omega)] at this)
      have HB2 : Hid (Below w.heap.size w w2) := hide ((HB.out.alloc hszr _).trans hb)
      clear hk hb
      cases kb
      all_goals
        go_wp2
        go_roundw
        case rel => exact ⟨j + 1, by omega, by go_num, by rw [HWN.out]; simp, HK2, HB2⟩
        case measure => simp [intOf]; omega
    · obtain rfl : j = n := by omega
      have HLN : Hid ((lastW j).length = j) := hide (lastW_len j)
      go_wp2_with fail
      refine Calls.mono (alive3_any _) ?_
      rintro e w3 ⟨rfl, hb⟩
      have HK3 := hide (HK.out.below hb)
      have HB3 := hide (HB.out.trans (hb.mono HB.out.size))
      clear hb
      go_wp2_with fail
      refine Calls.mono (k_waits (a := []) (b := []) (k := ⟨g, lastS 0, lastW j⟩) _ HK3.out) ?_
      rintro e w9 ⟨rfl, rfl⟩
      rw [show ((⟨g, lastS 0, lastW j⟩ : Dk).pend.length : Int) = (j : Int) from by rw [← HLN.out]; simp [HLN.out]]
      go_wp2_with fail
      refine Calls.mono (first_any (a := []) (b := []) (k := ⟨g, lastS 0, lastW j⟩) 0 _ HK3.out (Nat.le_of_ble_eq_true rfl)) ?_
      rintro e w4 ⟨rfl, hb⟩
      rw [show firstI (secAt (⟨g, lastS 0, lastW j⟩ : Dk).seen 0) = (j : Int) from by rw [← last_first j, ← last_seen j]; rfl]
      have HK4 := hide (HK3.out.below hb)
      have HB4 := hide (HB3.out.trans (hb.mono HB3.out.size))
      clear hb
      go_wp2_with fail
      refine Calls.mono (left_any (a := []) (b := []) (k := ⟨g, lastS 0, lastW j⟩) keep (-1) _ HK4.out HKE.out (by show (lastW j).length ≤ _; rw [HLN.out]; omega)) ?_
      rintro e w5 ⟨g5, rfl, hk, hb⟩
      have HK5 : Hid (Ks w.heap.size w5 [⟨g5, lastS z, []⟩, ⟨g, lastS 0, lastW j⟩]) := hide (by
        have e : leftOf keep (-1) (lastS 0) (lastW j) = lastS z := by unfold leftOf; rw [HLN.out, last_left keep j j (Nat.le_refl _), HZ.out]
        have h2 : Ks w.heap.size w5 [⟨g5, leftOf keep (-1) (lastS 0) (lastW j), []⟩, ⟨g, lastS 0, lastW j⟩] := hk
        rwa [e] at h2)
      have HB5 := hide (HB4.out.trans (hb.mono HB4.out.size))
      clear hk hb
      go_wp2_with fail
      refine Calls.mono (first_any (a := []) (b := [⟨g, lastS 0, lastW j⟩]) (k := ⟨g5, lastS z, []⟩) 0 _ HK5.out (Nat.le_of_ble_eq_true rfl)) ?_
      rintro e w6 ⟨rfl, hb⟩
      rw [show firstI (secAt (⟨g5, lastS z, []⟩ : Dk).seen 0) = (z : Int) from last_first z]
      have HB6 := hide (HB5.out.trans (hb.mono HB5.out.size))
      clear hb
      go_wp2
      go_ret
      exact ⟨by simp [Act.eval], HB6.out⟩
theorem last_lawI (many keep : Int) (w : World) (hm : 0 ≤ many ∧ many < 256) (hkeep : 0 ≤ keep ∧ keep < 18446744073709551616) :
    Calls Try.prog 7 #[.int .u8 many, .int .u64 keep] w fun e w' => e = .returned (.bool true) ∧ Below w.heap.size w w' := by
  obtain ⟨y, rfl⟩ := Int.eq_ofNat_of_zero_le hkeep.1
  exact last_law many y w hm (by omega)
end Go.Proofs.Ytphfakjodddilaa
