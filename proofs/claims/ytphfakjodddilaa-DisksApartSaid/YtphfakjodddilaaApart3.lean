/- DisksApart holds for every acts, however the disk fails, and for every bytes: the walk of its Go text. -/
import Derived.Test.YtphfakjodddilaaDiskDoes2
namespace Go.Proofs.Ytphfakjodddilaa
open Go.RowKit
set_option linter.unusedSimpArgs false
set_option linter.unusedVariables false

set_option maxRecDepth 100000 in
set_option maxHeartbeats 8000000 in
theorem apart_law (A Ab : Option Addr) (n c m cb keep : Nat) (l : List Act1) (bs : List Int) (w : World) (h : ActsAt w A n l) (hn : n ≤ 140737488355328) (hkeep : keep < 18446744073709551616) (hb0 : Lies w Ab m (bs.map (Value.int .u8))) (hby : ∀ z ∈ bs, 0 ≤ z ∧ z < 256) :
    Calls Try.prog 11 #[.slice A n c, .int .u64 (keep : Int), .slice Ab m cb] w fun e w' => e = .returned (.bool true) ∧ Below w.heap.size w w' := by
  have HA := hide h
  have HKE := hide hkeep
  have HL := hide hb0
  have HBY := hide hby
  have HBL : Hid (bs.length = m) := hide (by have := hb0.len; simpa using this)
  have HB0 : Hid (Below w.heap.size w w) := hide (Below.refl _ _)
  clear h hkeep hb0 hby
  by_cases hm : 64 < m
  · have hm1 : (64 : Int) < (m : Int) := by omega
    go_enter Try.func11, Try.ntmps11
    go_wp2_with fail
    refine Calls.mono (alive3_any _) ?_
    rintro e w1 ⟨rfl, hb⟩
    have HB1 : Hid (Below w.heap.size w w1) := hide (HB0.out.trans (hb.mono HB0.out.size))
    clear hb
    go_wp2_with fail
    refine Calls.mono (great_any A n c l _ (HA.out.below HB1.out) hn) ?_
    rintro e w99 ⟨bd, rfl, hbd, rfl⟩
    have HBD := hide hbd
    clear hbd
    cases bd
    rotate_left
    · go_wp2_with fail
      refine Calls.mono (alive3_any _) ?_
      rintro e w98 ⟨rfl, hb⟩
      have HB98 : Hid (Below w.heap.size w w98) := hide (HB1.out.trans (hb.mono HB1.out.size))
      clear hb
      go_wp2
      go_ret
      exact ⟨rfl, HB98.out⟩
    have hn2 : n ≤ 150 := HBD.out rfl
    clear HBD
    go_wp2_with fail
    refine Calls.mono (alive3_any _) ?_
    rintro e w98 ⟨rfl, hb⟩
    have HB98 : Hid (Below w.heap.size w w98) := hide (HB1.out.trans (hb.mono HB1.out.size))
    clear hb
    go_wp2
    go_ret
    exact ⟨rfl, HB98.out⟩
  have hm1 : (m : Int) ≤ 64 := by omega
  go_enter Try.func11, Try.ntmps11
  go_wp2_with fail
  refine Calls.mono (alive3_any _) ?_
  rintro e w1 ⟨rfl, hb⟩
  have HB1 : Hid (Below w.heap.size w w1) := hide (HB0.out.trans (hb.mono HB0.out.size))
  clear hb
  go_wp2_with fail
  refine Calls.mono (great_any A n c l _ (HA.out.below HB1.out) hn) ?_
  rintro e w99 ⟨bd, rfl, hbd, rfl⟩
  have HBD := hide hbd
  clear hbd
  cases bd
  rotate_left
  · go_wp2_with fail
    refine Calls.mono (alive3_any _) ?_
    rintro e w98 ⟨rfl, hb⟩
    have HB98 : Hid (Below w.heap.size w w98) := hide (HB1.out.trans (hb.mono HB1.out.size))
    clear hb
    go_wp2
    go_ret
    exact ⟨rfl, HB98.out⟩
  have hn2 : n ≤ 150 := HBD.out rfl
  clear HBD
  have hs1 := HB1.out.size
  go_wp2_with fail
  refine Calls.mono (does_more (B := w.heap.size) (ks := []) A n c l _ (HA.out.below HB1.out) hn2 Ks.nil hs1) ?_
  rintro e w2 ⟨g1, rfl, hk, hb⟩
  obtain ⟨D, hD⟩ : ∃ D, D = durN l n := ⟨_, rfl⟩
  obtain ⟨P, hP⟩ : ∃ P, P = pendN l n := ⟨_, rfl⟩
  have HDL : Hid (D.length = 8) := hide (by rw [hD]; exact durN_len l n (by rw [HA.out.len]; exact Nat.le_refl _))
  have HPL : Hid (P.length ≤ 150) := hide (by rw [hP]; exact Nat.le_trans (pendN_len l n (by rw [HA.out.len]; exact Nat.le_refl _)) hn2)
  rw [← hD, ← hP] at hk
  have HDD := hide hD
  have HPP := hide hP
  have HK2 := hide hk
  have HB2 : Hid (Below w.heap.size w w2) := hide (HB1.out.trans (hb.mono hs1))
  have hs2 := HB2.out.size
  clear hk hb hD hP
  go_wp2_with fail
  refine Calls.mono (does_more A n c l _ (HA.out.below HB2.out) hn2 HK2.out hs2) ?_
  rintro e w3 ⟨g2, rfl, hk, hb⟩
  rw [← HDD.out, ← HPP.out] at hk
  have HK3 := hide hk
  have HB3 : Hid (Below w.heap.size w w3) := hide (HB2.out.trans (hb.mono hs2))
  have hs3 := HB3.out.size
  clear hk hb
  obtain ⟨F, hF⟩ : ∃ F, F = leftOf keep (-1) D P := ⟨_, rfl⟩
  have HF := hide hF
  clear hF
  have HP9 : Hid (P.length ≤ 1000000000) := hide (by have := HPL.out; omega)
  go_wp2_with fail
  refine Calls.mono (left_any (a := [⟨g2, D, P⟩]) (b := []) (k := ⟨g1, D, P⟩) keep (-1) _ HK3.out HKE.out HP9.out) ?_
  rintro e w4 ⟨g3, rfl, hk, hb⟩
  have HK4 : Hid (Ks w.heap.size w4 [⟨g3, F, []⟩, ⟨g2, D, P⟩, ⟨g1, D, P⟩]) := hide (by rw [HF.out]; exact hk)
  have HB4 : Hid (Below w.heap.size w w4) := hide (HB3.out.trans (hb.mono hs3))
  have hs4 := HB4.out.size
  clear hk hb
  go_wp2_with fail
  refine Calls.mono (left_any (a := [⟨g3, F, []⟩, ⟨g2, D, P⟩]) (b := []) (k := ⟨g1, D, P⟩) keep (-1) _ HK4.out HKE.out HP9.out) ?_
  rintro e w5 ⟨g4, rfl, hk, hb⟩
  have HK5 : Hid (Ks w.heap.size w5 [⟨g4, F, []⟩, ⟨g3, F, []⟩, ⟨g2, D, P⟩, ⟨g1, D, P⟩]) := hide (by rw [HF.out]; rw [HF.out] at hk; exact hk)
  have HB5 : Hid (Below w.heap.size w w5) := hide (HB4.out.trans (hb.mono hs4))
  clear hk hb HK2 HK3 HK4 HB1 HB2 HB3 HB4
  go_wp2
  go_loopw [11] (fun i wr => ∃ (j : Nat) (xd : List Sec), j ≤ 8 ∧ i = .int .i64 j ∧ Hid (Ks w.heap.size wr [⟨g4, F, []⟩, ⟨g3, xd, []⟩, ⟨g2, D, P⟩, ⟨g1, D, P⟩]) ∧ Hid (Below w.heap.size w wr)) (fun i _ => 8 - (intOf i).toNat)
  case atStart => exact ⟨0, F, by omega, rfl, HK5, HB5⟩
  case round =>
    obtain ⟨j, xd, hj, rfl, HK, HB⟩ := hrel
    by_cases hlt : j < 8
    · have j0 : (0 : Int) ≤ (j : Int) := by omega
      have j1 : (j : Int) < 8 := by omega
      go_wp2_with fail
      refine Calls.mono (k_write (a := [⟨g4, F, []⟩]) (b := [⟨g2, D, P⟩, ⟨g1, D, P⟩]) (k := ⟨g3, xd, []⟩) (j : Int) Ab m cb bs _ HK.out (HL.out.below HB.out) HBY.out (Nat.zero_le _)) ?_
      rintro e w6 ⟨rfl, hk, hb⟩
      obtain ⟨xp, hxp⟩ : ∃ xp, xp = wrP xd.length (j : Int) bs [] := ⟨_, rfl⟩
      have HXP : Hid (xp.length ≤ 1000000000) := hide (by rw [hxp]; have := wrP_len xd.length (j : Int) bs []; simp at this; omega)
      have HK6 : Hid (Ks w.heap.size w6 [⟨g4, F, []⟩, ⟨g3, xd, xp⟩, ⟨g2, D, P⟩, ⟨g1, D, P⟩]) := hide (by rw [hxp]; exact hk)
      have HB6 : Hid (Below w.heap.size w w6) := hide (HB.out.trans hb)
      clear hk hb hxp
      go_wp2_with fail
      refine Calls.mono (k_rot (a := [⟨g4, F, []⟩]) (b := [⟨g2, D, P⟩, ⟨g1, D, P⟩]) (k := ⟨g3, xd, xp⟩) (j : Int) (j : Int) 7 _ HK6.out (by omega) HXP.out) ?_
      rintro e w7 ⟨rfl, hk, hb⟩
      obtain ⟨xd2, xp2, hx2, hx3⟩ : ∃ xd2 xp2, rotP (j : Int) (j : Int) 7 ⟨g3, xd, xp⟩ = ⟨g3, xd2, xp2⟩ ∧ xp2.length = xp.length := by
        unfold rotP; split
        · exact ⟨_, _, rfl, by simp⟩
        · exact ⟨_, _, rfl, rfl⟩
      rw [hx2] at hk
      have HXP2 : Hid (xp2.length ≤ 1000000000) := hide (by rw [hx3]; exact HXP.out)
      have HK7 : Hid (Ks w.heap.size w7 [⟨g4, F, []⟩, ⟨g3, xd2, xp2⟩, ⟨g2, D, P⟩, ⟨g1, D, P⟩]) := hide hk
      have HB7 : Hid (Below w.heap.size w w7) := hide (HB6.out.trans hb)
      clear hk hb hx2 hx3
      go_wp2_with fail
      refine Calls.mono (k_sync (a := [⟨g4, F, []⟩]) (b := [⟨g2, D, P⟩, ⟨g1, D, P⟩]) (k := ⟨g3, xd2, xp2⟩) _ HK7.out HXP2.out) ?_
      rintro e w8 ⟨rfl, hk, hb⟩
      have HK8 : Hid (Ks w.heap.size w8 [⟨g4, F, []⟩, ⟨g3, seenOf xd2 xp2, []⟩, ⟨g2, D, P⟩, ⟨g1, D, P⟩]) := hide hk
      have HB8 : Hid (Below w.heap.size w w8) := hide (HB7.out.trans hb)
      clear hk hb
      go_wp2
      go_roundw
      case rel => exact ⟨j + 1, seenOf xd2 xp2, by omega, by go_num, HK8, HB8⟩
      case measure => simp [intOf]; omega
    · obtain rfl : j = 8 := by omega
      have hs := HB.out.size
      go_wp2_with fail
      refine Calls.mono (kd_alike _ (Ks.kd (a := [⟨g4, F, []⟩, ⟨g3, xd, []⟩, ⟨g2, D, P⟩]) (b := []) (k := ⟨g1, D, P⟩) HK.out) (Ks.kd (a := [⟨g4, F, []⟩, ⟨g3, xd, []⟩]) (b := [⟨g1, D, P⟩]) (k := ⟨g2, D, P⟩) HK.out) (SameL.refl _)) ?_
      rintro e w6 ⟨rfl, hb⟩
      have HK6 := hide (HK.out.below hb)
      have HB6 : Hid (Below w.heap.size w w6) := hide (HB.out.trans (hb.mono hs))
      have hs6 := HB6.out.size
      clear hb
      go_wp2_with fail
      refine Calls.mono (left_any (a := [⟨g4, F, []⟩, ⟨g3, xd, []⟩]) (b := [⟨g1, D, P⟩]) (k := ⟨g2, D, P⟩) keep (-1) _ HK6.out HKE.out HP9.out) ?_
      rintro e w7 ⟨g5, rfl, hk, hb⟩
      have HK7 : Hid (Ks w.heap.size w7 [⟨g5, F, []⟩, ⟨g4, F, []⟩, ⟨g3, xd, []⟩, ⟨g2, D, P⟩, ⟨g1, D, P⟩]) := hide (by rw [HF.out]; rw [HF.out] at hk; exact hk)
      have HB7 : Hid (Below w.heap.size w w7) := hide (HB6.out.trans (hb.mono hs6))
      have hs7 := HB7.out.size
      clear hk hb
      go_wp2_with fail
      refine Calls.mono (kd_alike _ (Ks.kd (a := [⟨g5, F, []⟩]) (b := [⟨g3, xd, []⟩, ⟨g2, D, P⟩, ⟨g1, D, P⟩]) (k := ⟨g4, F, []⟩) HK7.out) (Ks.kd (a := []) (b := [⟨g4, F, []⟩, ⟨g3, xd, []⟩, ⟨g2, D, P⟩, ⟨g1, D, P⟩]) (k := ⟨g5, F, []⟩) HK7.out) (SameL.refl _)) ?_
      rintro e w8 ⟨rfl, hb⟩
      have HK8 := hide (HK7.out.below hb).drop
      have HB8 : Hid (Below w.heap.size w w8) := hide (HB7.out.trans (hb.mono hs7))
      have hs8 := HB8.out.size
      clear hb
      go_wp2_with fail
      refine Calls.mono (left_any (a := [⟨g4, F, []⟩, ⟨g3, xd, []⟩, ⟨g2, D, P⟩]) (b := []) (k := ⟨g1, D, P⟩) keep (-1) _ HK8.out HKE.out HP9.out) ?_
      rintro e w9 ⟨g6, rfl, hk, hb⟩
      have HK9 : Hid (Ks w.heap.size w9 [⟨g6, F, []⟩, ⟨g4, F, []⟩, ⟨g3, xd, []⟩, ⟨g2, D, P⟩, ⟨g1, D, P⟩]) := hide (by rw [HF.out]; rw [HF.out] at hk; exact hk)
      have HB9 : Hid (Below w.heap.size w w9) := hide (HB8.out.trans (hb.mono hs8))
      clear hk hb HK6 HK7 HK8 HB6 HB7 HB8 HK HB
      go_wp2
      go_loopw [13] (fun i wr => ∃ (j : Nat) (dd : List Sec) (dp : List Wr), j ≤ 8 ∧ i = .int .i64 j ∧ dd.length = 8 ∧ dp.length = P.length + j ∧ Hid (Ks w.heap.size wr [⟨g6, F, []⟩, ⟨g4, F, []⟩, ⟨g3, xd, []⟩, ⟨g2, D, P⟩, ⟨g1, dd, dp⟩]) ∧ Hid (Below w.heap.size w wr)) (fun i _ => 8 - (intOf i).toNat)
      case atStart => exact ⟨0, D, P, by omega, rfl, HDL.out, rfl, HK9, HB9⟩
      case round =>
        obtain ⟨j, dd, dp, hj, rfl, hdl, hpl, HK, HB⟩ := hrel
        have HD8 := hide hdl
        have HP8 := hide hpl
        have HP7 : Hid (dp.length ≤ 1000000) := hide (by rw [hpl]; have := HPL.out; omega)
        clear hdl hpl
        by_cases hlt : j < 8
        · have j0 : (0 : Int) ≤ (j : Int) := by omega
          have j1 : (j : Int) < 8 := by omega
          go_wp2_with fail
          refine Calls.mono (k_write (a := [⟨g6, F, []⟩, ⟨g4, F, []⟩, ⟨g3, xd, []⟩, ⟨g2, D, P⟩]) (b := []) (k := ⟨g1, dd, dp⟩) (j : Int) Ab m cb bs _ HK.out (HL.out.below HB.out) HBY.out (Nat.le_trans HP7.out (by omega))) ?_
          rintro e w10 ⟨rfl, hk, hb⟩
          obtain ⟨xp, hxp⟩ : ∃ xp, xp = wrP dd.length (j : Int) bs dp := ⟨_, rfl⟩
          have hxl : xp.length = dp.length + 1 := by
            rw [hxp]; unfold wrP
            have e1 : wrOk dd.length (j : Int) bs.length = true := decide_eq_true (by rw [HD8.out, HBL.out]; omega)
            rw [e1]; simp
          have HXP : Hid (xp.length ≤ 1000000000) := hide (by rw [hxl]; have := HP7.out; omega)
          have HXL : Hid (xp.length = P.length + (j + 1)) := hide (by rw [hxl, HP8.out]; omega)
          have HK10 : Hid (Ks w.heap.size w10 [⟨g6, F, []⟩, ⟨g4, F, []⟩, ⟨g3, xd, []⟩, ⟨g2, D, P⟩, ⟨g1, dd, xp⟩]) := hide (by rw [hxp]; exact hk)
          have HB10 : Hid (Below w.heap.size w w10) := hide (HB.out.trans hb)
          clear hk hb hxp hxl
          go_wp2_with fail
          refine Calls.mono (k_bad (a := [⟨g6, F, []⟩, ⟨g4, F, []⟩, ⟨g3, xd, []⟩, ⟨g2, D, P⟩]) (b := []) (k := ⟨g1, dd, xp⟩) (7 - (j : Int)) _ HK10.out HXP.out) ?_
          rintro e w11 ⟨rfl, hk, hb⟩
          obtain ⟨xd2, xp2, hx2, hx3, hx4⟩ : ∃ xd2 xp2, badP (7 - (j : Int)) ⟨g1, dd, xp⟩ = ⟨g1, xd2, xp2⟩ ∧ xp2.length = xp.length ∧ xd2.length = dd.length := by
            unfold badP; split
            · exact ⟨_, _, rfl, by simp, badD_len⟩
            · exact ⟨_, _, rfl, rfl, rfl⟩
          rw [hx2] at hk
          have HK11 : Hid (Ks w.heap.size w11 [⟨g6, F, []⟩, ⟨g4, F, []⟩, ⟨g3, xd, []⟩, ⟨g2, D, P⟩, ⟨g1, xd2, xp2⟩]) := hide hk
          have HB11 : Hid (Below w.heap.size w w11) := hide (HB10.out.trans hb)
          have HR1 : Hid (xd2.length = 8) := hide (hx4.trans HD8.out)
          have HR2 : Hid (xp2.length = P.length + (j + 1)) := hide (hx3.trans HXL.out)
          clear hk hb hx2 hx3 hx4
          go_wp2
          go_roundw
          case rel => exact ⟨j + 1, xd2, xp2, by omega, by go_num, HR1.out, HR2.out, HK11, HB11⟩
          case measure => simp [intOf]; omega
        · obtain rfl : j = 8 := by omega
          go_wp2_with fail
          refine Calls.mono (kd_alike _ (Ks.kd (a := [⟨g6, F, []⟩]) (b := [⟨g3, xd, []⟩, ⟨g2, D, P⟩, ⟨g1, dd, dp⟩]) (k := ⟨g4, F, []⟩) HK.out) (Ks.kd (a := []) (b := [⟨g4, F, []⟩, ⟨g3, xd, []⟩, ⟨g2, D, P⟩, ⟨g1, dd, dp⟩]) (k := ⟨g6, F, []⟩) HK.out) (SameL.refl _)) ?_
          rintro e w10 ⟨rfl, hb⟩
          have HK10 := hide (HK.out.below hb)
          have HB10 : Hid (Below w.heap.size w w10) := hide (HB.out.trans (hb.mono HB.out.size))
          clear hb
          go_wp2_with fail
          refine Calls.mono (k_waits (a := []) (b := [⟨g4, F, []⟩, ⟨g3, xd, []⟩, ⟨g2, D, P⟩, ⟨g1, dd, dp⟩]) (k := ⟨g6, F, []⟩) _ HK10.out) ?_
          rintro e w99 ⟨rfl, rfl⟩
          go_wp2_with fail
          refine Calls.mono (k_waits (a := [⟨g6, F, []⟩, ⟨g4, F, []⟩, ⟨g3, xd, []⟩, ⟨g2, D, P⟩]) (b := []) (k := ⟨g1, dd, dp⟩) _ HK10.out) ?_
          rintro e w99 ⟨rfl, rfl⟩
          rw [show ((⟨g1, dd, dp⟩ : Dk).pend.length : Int) = (P.length : Int) + 8 from by show (dp.length : Int) = _; rw [HP8.out]; omega]
          go_wp2_with fail
          refine Calls.mono (k_waits (a := [⟨g6, F, []⟩, ⟨g4, F, []⟩, ⟨g3, xd, []⟩]) (b := [⟨g1, dd, dp⟩]) (k := ⟨g2, D, P⟩) _ HK10.out) ?_
          rintro e w99 ⟨rfl, rfl⟩
          have p1 : (P.length : Int) ≤ 150 := by have := HPL.out; omega
          go_wp2
          go_ret
          exact ⟨by simp [Act.eval], HB10.out⟩
theorem apart_lawI (A Ab : Option Addr) (n c m cb : Nat) (keep : Int) (l : List Act1) (bs : List Int) (w : World) (h : ActsAt w A n l) (hn : n ≤ 140737488355328) (hkeep : 0 ≤ keep ∧ keep < 18446744073709551616) (hb0 : Lies w Ab m (bs.map (Value.int .u8))) (hby : ∀ z ∈ bs, 0 ≤ z ∧ z < 256) :
    Calls Try.prog 11 #[.slice A n c, .int .u64 keep, .slice Ab m cb] w fun e w' => e = .returned (.bool true) ∧ Below w.heap.size w w' := by
  obtain ⟨y, rfl⟩ := Int.eq_ofNat_of_zero_le hkeep.1
  exact apart_law A Ab n c m cb y l bs w h hn (by omega) hb0 hby
end Go.Proofs.Ytphfakjodddilaa
