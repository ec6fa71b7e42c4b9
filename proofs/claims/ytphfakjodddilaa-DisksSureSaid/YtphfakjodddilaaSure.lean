/- DisksSure holds for every acts and however the disk fails: the walk of its Go text. -/
import Derived.Test.YtphfakjodddilaaDiskKd
namespace Go.Proofs.Ytphfakjodddilaa
open Go.RowKit
set_option linter.unusedSimpArgs false
set_option linter.unusedVariables false

set_option maxRecDepth 100000 in
set_option maxHeartbeats 4000000 in
theorem sure_law (A : Option Addr) (n c k0 k1 k2 : Nat) (torn : Int) (l : List Act1) (w : World) (h : ActsAt w A n l) (hn : n ≤ 140737488355328) (h0 : k0 < 18446744073709551616) (h1 : k1 < 18446744073709551616) (h2 : k2 < 18446744073709551616) :
    Calls Try.prog 4 #[.slice A n c, .agg #[.int .u64 (k0 : Int), .int .u64 (k1 : Int), .int .u64 (k2 : Int)], .int .i64 torn] w fun e w' => e = .returned (.bool true) ∧ Below w.heap.size w w' := by
  have HKK : Hid (k0 < 18446744073709551616 ∧ k1 < 18446744073709551616 ∧ k2 < 18446744073709551616) := hide ⟨h0, h1, h2⟩
  obtain ⟨W0, hW0⟩ : ∃ W0, W0 = w.alloc (.cells #[.int .u64 (k0 : Int), .int .u64 (k1 : Int), .int .u64 (k2 : Int)] 42) := ⟨_, rfl⟩
  have HBX : Hid (Below w.heap.size w W0) := hide (by rw [hW0]; exact (Below.refl _ _).alloc (Nat.le_refl _) _)
  have HA : Hid (ActsAt W0 A n l) := hide (h.below HBX.out)
  have HB0 : Hid (Below W0.heap.size W0 W0) := hide (Below.refl _ _)
  have hsz0 : w.heap.size < W0.heap.size := by rw [hW0]; simp
  have HC0 : Hid (W0.cell? ⟨w.heap.size, 0, none⟩ = some (.int .u64 (k0 : Int)) ∧ W0.cell? ⟨w.heap.size, 1, none⟩ = some (.int .u64 (k1 : Int)) ∧ W0.cell? ⟨w.heap.size, 2, none⟩ = some (.int .u64 (k2 : Int))) := hide (by
    rw [hW0]; refine ⟨?_, ?_, ?_⟩ <;> rw [cell_of_row _ _ _ _ _ _ (heap_alloc_new w _)] <;> rfl)
  have hWW : w.alloc (.cells #[.int .u64 (k0 : Int), .int .u64 (k1 : Int), .int .u64 (k2 : Int)] 42) = W0 := hW0.symm
  clear h h0 h1 h2 hW0
  go_enter Try.func4, Try.ntmps4
  go_wp2_with fail
  clear hWW
  refine Calls.mono (alive3_any _) ?_
  rintro e w1 ⟨rfl, hb⟩
  have HB1 : Hid (Below W0.heap.size W0 w1) := hide (HB0.out.trans (hb.mono HB0.out.size))
  clear hb
  go_wp2_with fail
  refine Calls.mono (great_any A n c l _ (HA.out.below HB1.out) hn) ?_
  rintro e w99 ⟨bd, rfl, hbd, rfl⟩
  have HBD := hide hbd
  clear hbd
  cases bd
  rotate_left
  · go_wp2_with fail
    refine Calls.mono (alive3_any _) ?_
    rintro e w98 ⟨rfl, hb⟩
    have HB98 : Hid (Below W0.heap.size W0 w98) := hide (HB1.out.trans (hb.mono HB1.out.size))
    clear hb
    go_wp2
    go_ret
    exact ⟨rfl, (HBX.out.trans (HB98.out.mono HBX.out.size))⟩
  have hn2 : n ≤ 150 := HBD.out rfl
  clear HBD
  go_wp2_with fail
  refine Calls.mono (does_any A n c l _ (HA.out.below HB1.out) hn2) ?_
  rintro e w2 ⟨g, rfl, hk, hb⟩
  have HB2 : Hid (Below W0.heap.size W0 w2) := hide (HB1.out.trans (hb.mono HB1.out.size))
  have hf := doesK_facts g l n (by rw [HA.out.len]; exact Nat.le_refl _)
  obtain ⟨dj, hdj⟩ : ∃ dj, dj = (doesK g l n).dur := ⟨_, rfl⟩
  obtain ⟨pj, hpj⟩ : ∃ pj, pj = (doesK g l n).pend := ⟨_, rfl⟩
  rw [← hdj, ← hpj] at hk
  have HK2 := hide hk
  have HPL : Hid (pj.length ≤ 1000000000) := hide (by rw [hpj]; omega)
  have hs1 := HB1.out.size
  clear hf hdj hpj hk hb
  go_wp2_with fail
  refine Calls.mono (k_sync (a := []) (b := []) (k := ⟨g, dj, pj⟩) _ HK2.out HPL.out) ?_
  rintro e w3 ⟨rfl, hk, hb⟩
  obtain ⟨S, hS⟩ : ∃ S, S = seenOf dj pj := ⟨_, rfl⟩
  have HK3 : Hid (Kd w1.heap.size w3 g S []) := hide (by rw [hS]; exact ⟨[], [], hk⟩)
  have HB3 : Hid (Below W0.heap.size W0 w3) := hide (HB2.out.trans (hb.mono hs1))
  clear hS hk hb HK2
  go_wp2_with fail
  refine Calls.mono (kd_waits _ HK3.out) ?_
  rintro e w9 ⟨rfl, rfl⟩
  go_wp2
  go_loopw [8, 9] (fun v i wr => ∃ (j gx : Nat), j ≤ 3 ∧ i = .int .i64 j ∧ v = .pointer (some ⟨gx, 0, none⟩) ∧ Hid (Kd w1.heap.size wr g S []) ∧ Hid (Kd w1.heap.size wr gx S []) ∧ Hid (Below W0.heap.size W0 wr)) (fun _ i _ => 3 - (intOf i).toNat)
  case atStart => exact ⟨0, g, by omega, rfl, rfl, HK3, HK3, HB3⟩
  case round =>
    obtain ⟨j, gx, hj, rfl, rfl, HD, HX, HB⟩ := hrel
    by_cases hlt : j < 3
    · obtain ⟨kk, hkk, hkl⟩ : ∃ kk : Nat, wr.cell? ⟨w.heap.size, j, none⟩ = some (.int .u64 (kk : Int)) ∧ kk < 18446744073709551616 := by
        have e : ∀ i, wr.cell? ⟨w.heap.size, i, none⟩ = W0.cell? ⟨w.heap.size, i, none⟩ := fun i => HB.out.cell (p := ⟨w.heap.size, i, none⟩) hsz0
        obtain rfl | rfl | rfl : j = 0 ∨ j = 1 ∨ j = 2 := by omega
        · exact ⟨k0, (e 0).trans HC0.out.1, HKK.out.1⟩
        · exact ⟨k1, (e 1).trans HC0.out.2.1, HKK.out.2.1⟩
        · exact ⟨k2, (e 2).trans HC0.out.2.2, HKK.out.2.2⟩
      have HKL := hide hkl
      have j0 : (0 : Int) ≤ (j : Int) := by omega
      have j1 : (j : Int) < 3 := by omega
      clear hkl
      go_wp2_with fail
      refine Calls.mono (kd_left kk torn _ HX.out HKL.out (by simp)) ?_
      rintro e w4 ⟨g4, rfl, hk4, hb4⟩
      have HX4 : Hid (Kd w1.heap.size w4 g4 S []) := hide hk4
      have HD4 := hide (HD.out.below hb4)
      have HB4 : Hid (Below W0.heap.size W0 w4) := hide (HB.out.trans (hb4.mono HB.out.size))
      clear hk4 hb4 hkk
      go_wp2_with fail
      refine Calls.mono (kd_alike _ HX4.out HD4.out (SameL.refl _)) ?_
      rintro e w5 ⟨rfl, hb5⟩
      have HX5 := hide (HX4.out.below hb5)
      have HD5 := hide (HD4.out.below hb5)
      have HB5 : Hid (Below W0.heap.size W0 w5) := hide (HB4.out.trans (hb5.mono HB4.out.size))
      clear hb5
      go_wp2_with fail
      refine Calls.mono (kd_waits _ HX5.out) ?_
      rintro e w9 ⟨rfl, rfl⟩
      go_wp2
      go_roundw
      case rel => exact ⟨j + 1, g4, by omega, by go_num, rfl, HD5, HX5, HB5⟩
      case measure => simp [intOf]; omega
    · obtain rfl : j = 3 := by omega
      go_wp2
      go_ret
      exact ⟨rfl, HBX.out.trans (HB.out.mono HBX.out.size)⟩
theorem sure_lawI (A : Option Addr) (n c : Nat) (k0 k1 k2 torn : Int) (l : List Act1) (w : World) (h : ActsAt w A n l) (hn : n ≤ 140737488355328) (h0 : 0 ≤ k0 ∧ k0 < 18446744073709551616) (h1 : 0 ≤ k1 ∧ k1 < 18446744073709551616) (h2 : 0 ≤ k2 ∧ k2 < 18446744073709551616) :
    Calls Try.prog 4 #[.slice A n c, .agg #[.int .u64 k0, .int .u64 k1, .int .u64 k2], .int .i64 torn] w fun e w' => e = .returned (.bool true) ∧ Below w.heap.size w w' := by
  obtain ⟨y1, rfl⟩ := Int.eq_ofNat_of_zero_le h0.1
  obtain ⟨y2, rfl⟩ := Int.eq_ofNat_of_zero_le h1.1
  obtain ⟨y3, rfl⟩ := Int.eq_ofNat_of_zero_le h2.1
  exact sure_law A n c y1 y2 y3 torn l w h hn (by omega) (by omega) (by omega)
end Go.Proofs.Ytphfakjodddilaa
