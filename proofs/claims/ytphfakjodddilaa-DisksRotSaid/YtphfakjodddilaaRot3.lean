/- DisksRot holds for every acts, whichever byte it is, by whatever it turns: the walk of its Go text. -/
import Derived.Test.YtphfakjodddilaaRotMath
namespace Go.Proofs.Ytphfakjodddilaa
open Go.RowKit
set_option linter.unusedSimpArgs false
set_option linter.unusedVariables false

section
variable {B : Nat} {a b : List Dk} {g : Nat} {D : List Sec} {P : List Wr}
theorem rot_yes (k p : Nat) (y : Int) (w : World) (h : Ks B w (a ++ ⟨g, D, P⟩ :: b)) (hk : k < D.length) (hp : p < 64) (hy : 0 ≤ y ∧ y < 256) (hP : P.length ≤ 1000000000) :
    Calls Try.prog 16 #[.pointer (some ⟨g, 0, none⟩), .int .i64 (k : Int), .int .i64 (p : Int), .int .u8 y] w fun e w' => e = .returned (.int .i64 0) ∧ Ks B w' (a ++ ⟨g, rotD k p y D, P.map (rotW k p y)⟩ :: b) ∧ Below B w w' := by
  have e1 : rotOk D.length (k : Int) (p : Int) = true := decide_eq_true (by omega)
  refine (k_rot (k := ⟨g, D, P⟩) (k : Int) (p : Int) y w h hy hP).mono ?_
  rintro e w' ⟨rfl, h2, h3⟩
  refine ⟨by rw [show (⟨g, D, P⟩ : Dk).dur = D from rfl, e1]; rfl, ?_, h3⟩
  unfold rotP at h2
  rw [if_pos e1] at h2
  exact h2
theorem rot_no (n p y : Int) (w : World) (h : Ks B w (a ++ ⟨g, D, P⟩ :: b)) (hn : ¬ (0 ≤ n ∧ n < D.length ∧ 0 ≤ p ∧ p < 64)) (hy : 0 ≤ y ∧ y < 256) (hP : P.length ≤ 1000000000) :
    Calls Try.prog 16 #[.pointer (some ⟨g, 0, none⟩), .int .i64 n, .int .i64 p, .int .u8 y] w fun e w' => e = .returned (.int .i64 1) ∧ Ks B w' (a ++ ⟨g, D, P⟩ :: b) ∧ Below B w w' := by
  have e1 : rotOk D.length n p = false := decide_eq_false hn
  refine (k_rot (k := ⟨g, D, P⟩) n p y w h hy hP).mono ?_
  rintro e w' ⟨rfl, h2, h3⟩
  refine ⟨by rw [show (⟨g, D, P⟩ : Dk).dur = D from rfl, e1]; rfl, ?_, h3⟩
  unfold rotP at h2
  rw [if_neg (by rw [show (⟨g, D, P⟩ : Dk).dur = D from rfl, e1]; simp)] at h2
  exact h2
theorem left_int (keep torn : Int) (w : World) (h : Ks B w (a ++ ⟨g, D, P⟩ :: b)) (hkeep : 0 ≤ keep ∧ keep < 18446744073709551616) (hp : P.length ≤ 1000000000) :
    Calls Try.prog 23 #[.pointer (some ⟨g, 0, none⟩), .int .u64 keep, .int .i64 torn] w fun e w' => ∃ g' F, e = .returned (.pointer (some ⟨g', 0, none⟩)) ∧ Ks B w' (⟨g', F, []⟩ :: (a ++ ⟨g, D, P⟩ :: b)) ∧ F = leftOf keep.toNat torn D P ∧ Below w.heap.size w w' := by
  obtain ⟨y, rfl⟩ := Int.eq_ofNat_of_zero_le hkeep.1
  refine (left_any (k := ⟨g, D, P⟩) y torn w h (by omega) hp).mono ?_
  rintro e w' ⟨g', rfl, h2, h3⟩
  exact ⟨g', _, rfl, h2, by simp, h3⟩
theorem read_bad (k : Nat) (w : World) (h : Ks B w (a ++ ⟨g, D, []⟩ :: b)) (hk : k < D.length) (s : Sec) (hs : s = secAt D k) (hb : s.bad = true) :
    Calls Try.prog 12 #[.pointer (some ⟨g, 0, none⟩), .int .i64 (k : Int)] w fun e w' => e = .returned (.tuple #[.slice none 0 0, .int .i64 12]) ∧ Below w.heap.size w w' := by
  refine (k_read (k := ⟨g, D, []⟩) k w h hk s hs).mono ?_
  rintro e w' ⟨rfl, rfl⟩
  exact ⟨by rw [hb]; rfl, (Below.refl _ _).alloc (Nat.le_refl _) _⟩
theorem read_good (k : Nat) (w : World) (h : Ks B w (a ++ ⟨g, D, []⟩ :: b)) (hk : k < D.length) (s : Sec) (hs : s = secAt D k) (hb : s.bad = false) (ho : OkB s.b) :
    Calls Try.prog 12 #[.pointer (some ⟨g, 0, none⟩), .int .i64 (k : Int)] w fun e w' => ∃ r, e = .returned (.tuple #[.slice (some ⟨r, 0, none⟩) 64 64, .int .i64 0]) ∧ Lies w' (some ⟨r, 0, none⟩) 64 (s.b.map (Value.int .u8)) ∧ Below w.heap.size w w' := by
  refine (k_read (k := ⟨g, D, []⟩) k w h hk s hs).mono ?_
  rintro e w' ⟨rfl, rfl⟩
  exact ⟨w.heap.size, by rw [hb]; rfl, lies_read w s ho, (Below.refl _ _).alloc (Nat.le_refl _) _⟩
end
set_option maxRecDepth 100000 in
set_option maxHeartbeats 8000000 in
theorem rot_law (A : Option Addr) (n c : Nat) (zn zp y : Int) (l : List Act1) (w : World) (h : ActsAt w A n l) (hn : n ≤ 140737488355328) (hzn : 0 ≤ zn ∧ zn < 256) (hzp : 0 ≤ zp ∧ zp < 256) (hzy : 0 ≤ y ∧ y < 256) :
    Calls Try.prog 8 #[.slice A n c, .agg #[.int .u8 zn, .int .u8 zp, .int .u8 y]] w fun e w' => e = .returned (.bool true) ∧ Below w.heap.size w w' := by
  obtain ⟨W0, hW0⟩ : ∃ W0, W0 = w.alloc (.cells #[.int .u8 zn, .int .u8 zp, .int .u8 y] 57) := ⟨_, rfl⟩
  have HBX : Hid (Below w.heap.size w W0) := hide (by rw [hW0]; exact (Below.refl _ _).alloc (Nat.le_refl _) _)
  have HA : Hid (ActsAt W0 A n l) := hide (h.below HBX.out)
  have HB0 : Hid (Below W0.heap.size W0 W0) := hide (Below.refl _ _)
  have hsz0 : w.heap.size < W0.heap.size := by rw [hW0]; simp
  have HC0 : Hid (W0.cell? ⟨w.heap.size, 0, none⟩ = some (.int .u8 zn) ∧ W0.cell? ⟨w.heap.size, 1, none⟩ = some (.int .u8 zp) ∧ W0.cell? ⟨w.heap.size, 2, none⟩ = some (.int .u8 y)) := hide (by
    rw [hW0]; refine ⟨?_, ?_, ?_⟩ <;> rw [cell_of_row _ _ _ _ _ _ (heap_alloc_new w _)] <;> rfl)
  have hWW : w.alloc (.cells #[.int .u8 zn, .int .u8 zp, .int .u8 y] 57) = W0 := hW0.symm
  have HY := hide hzy
  obtain ⟨q0, q1⟩ := hzn
  obtain ⟨q2, q3⟩ := hzp
  obtain ⟨k, hk8⟩ : ∃ k : Nat, zn % 8 = (k : Int) := ⟨(zn % 8).toNat, by omega⟩
  have hk : k < 8 := by omega
  obtain ⟨p, hp64⟩ : ∃ p : Nat, zp % 64 = (p : Int) := ⟨(zp % 64).toNat, by omega⟩
  have hp : p < 64 := by omega
  clear h hzy hW0
  go_enter Try.func8, Try.ntmps8
  go_wp2_with fail
  clear hWW
  refine Calls.mono (alive3_any _) ?_
  rintro e w1 ⟨rfl, hb⟩
  have HB1 : Hid (Below W0.heap.size W0 w1) := hide (HB0.out.trans (hb.mono HB0.out.size))
  clear hb
  go_wp2_with fail
  refine Calls.mono (great_any A n c l _ (HA.out.below HB1.out) hn) ?_
  rintro e w99 ⟨bd, rfl, hbd, rfl⟩
  have HBD := hide hbd
  clear hbd
  cases bd
  rotate_left
  · go_wp2_with fail
    refine Calls.mono (alive3_any _) ?_
    rintro e w98 ⟨rfl, hb⟩
    have HB98 : Hid (Below W0.heap.size W0 w98) := hide (HB1.out.trans (hb.mono HB1.out.size))
    clear hb
    go_wp2
    go_ret
    exact ⟨rfl, (HBX.out.trans (HB98.out.mono HBX.out.size))⟩
  have hn2 : n ≤ 150 := HBD.out rfl
  clear HBD
  have hs1 := HB1.out.size
  go_wp2_with fail
  refine Calls.mono (does_more (B := W0.heap.size) (ks := []) A n c l _ (HA.out.below HB1.out) hn2 Ks.nil hs1) ?_
  rintro e w2 ⟨g1, rfl, hkk, hb⟩
  obtain ⟨D, hD⟩ : ∃ D, D = durN l n := ⟨_, rfl⟩
  obtain ⟨P, hP⟩ : ∃ P, P = pendN l n := ⟨_, rfl⟩
  have HDL : Hid (D.length = 8) := hide (by rw [hD]; exact durN_len l n (by rw [HA.out.len]; exact Nat.le_refl _))
  have HPL : Hid (P.length ≤ 150) := hide (by rw [hP]; exact Nat.le_trans (pendN_len l n (by rw [HA.out.len]; exact Nat.le_refl _)) hn2)
  rw [← hD, ← hP] at hkk
  have HDD := hide hD
  have HPP := hide hP
  have HK2 := hide hkk
  have HF2 := hide (Ks.facts (a := []) hkk)
  have HB2 : Hid (Below W0.heap.size W0 w2) := hide (HB1.out.trans (hb.mono hs1))
  have hs2 := HB2.out.size
  clear hkk hb hD hP
  go_wp2_with fail
  refine Calls.mono (does_more A n c l _ (HA.out.below HB2.out) hn2 HK2.out hs2) ?_
  rintro e w3 ⟨g2, rfl, hkk, hb⟩
  rw [← HDD.out, ← HPP.out] at hkk
  have HK3 := hide hkk
  have HB3 : Hid (Below W0.heap.size W0 w3) := hide (HB2.out.trans (hb.mono hs2))
  have hs3 := HB3.out.size
  have HP9 : Hid (P.length ≤ 1000000000) := hide (by have := HPL.out; omega)
  have HKD : Hid (k < D.length) := hide (by rw [HDL.out]; exact hk)
  have hc0 : w3.cell? ⟨w.heap.size, 0, none⟩ = some (.int .u8 zn) := (HB3.out.cell (p := ⟨w.heap.size, 0, none⟩) hsz0).trans HC0.out.1
  have hc1 : w3.cell? ⟨w.heap.size, 1, none⟩ = some (.int .u8 zp) := (HB3.out.cell (p := ⟨w.heap.size, 1, none⟩) hsz0).trans HC0.out.2.1
  have hc2 : w3.cell? ⟨w.heap.size, 2, none⟩ = some (.int .u8 y) := (HB3.out.cell (p := ⟨w.heap.size, 2, none⟩) hsz0).trans HC0.out.2.2
  obtain ⟨D1, hD1⟩ : ∃ D1, D1 = rotD k p y D := ⟨_, rfl⟩
  obtain ⟨P1, hP1⟩ : ∃ P1, P1 = P.map (rotW k p y) := ⟨_, rfl⟩
  have HL1 : Hid (P1.length = P.length) := hide (by rw [hP1]; simp)
  have HL9 : Hid (P1.length ≤ 1000000000) := hide (by rw [HL1.out]; exact HP9.out)
  have HLD : Hid (D1.length = 8) := hide (by rw [hD1, rotD_len]; exact HDL.out)
  have HKD1 : Hid (k < D1.length) := hide (by rw [HLD.out]; exact hk)
  have HLEFT : Hid (∀ keep torn, leftOf keep torn D1 P1 = rotD k p y (leftOf keep torn D P)) := hide (fun keep torn => by
    rw [hD1, hP1]; exact rot_left HKD.out HF2.out.2.2.1 HF2.out.2.2.2)
  have HLOK : Hid (∀ keep torn, (leftOf keep torn D P).length = 8 ∧ ∀ s ∈ leftOf keep torn D P, OkB s.b) := hide (fun keep torn =>
    ⟨by unfold leftOf; rw [left_len]; exact HDL.out, left_ok HF2.out.2.2.1 HF2.out.2.2.2 _ (Nat.le_refl _)⟩)
  have HBD : Hid (rotD k p y D1 = D) := hide (by rw [hD1]; exact rotD_back HKD.out HF2.out.2.2.1 HY.out)
  have HBP : Hid (P1.map (rotW k p y) = P) := hide (by rw [hP1]; exact rotM_back HF2.out.2.2.2 HY.out)
  have HD1 := hide hD1
  have HP1 := hide hP1
  clear hkk hb hD1 hP1 HK2 HB2 HB1
  go_wp2_with fail
  refine Calls.mono (rot_yes (a := []) k p y _ HK3.out HKD.out hp HY.out HP9.out) ?_
  rintro e w4 ⟨rfl, hkk, hb⟩
  rw [← HD1.out, ← HP1.out] at hkk
  have HK4 : Hid (Ks W0.heap.size w4 [⟨g2, D1, P1⟩, ⟨g1, D, P⟩]) := hide hkk
  have HB4 : Hid (Below W0.heap.size W0 w4) := hide (HB3.out.trans hb)
  have hs4 := HB4.out.size
  clear hkk hb hc0 hc1 hc2 HK3 HB3
  go_wp2_with fail
  refine Calls.mono (k_waits (a := []) (k := ⟨g2, D1, P1⟩) _ HK4.out) ?_
  rintro e w99 ⟨rfl, rfl⟩
  rw [show ((⟨g2, D1, P1⟩ : Dk).pend.length : Int) = (P.length : Int) from by show (P1.length : Int) = _; rw [HL1.out]]
  go_wp2_with fail
  refine Calls.mono (k_waits (a := [⟨g2, D1, P1⟩]) (b := []) (k := ⟨g1, D, P⟩) _ HK4.out) ?_
  rintro e w99 ⟨rfl, rfl⟩
  rw [show ((⟨g1, D, P⟩ : Dk).pend.length : Int) = (P.length : Int) from rfl]
  go_wp2
  go_loopw [10] (fun i wr => ∃ j : Nat, j ≤ 4 ∧ i = .int .u64 j ∧ Hid (Ks W0.heap.size wr [⟨g2, D1, P1⟩, ⟨g1, D, P⟩]) ∧ Hid (Below W0.heap.size W0 wr)) (fun i _ => 4 - (intOf i).toNat)
  case atStart => exact ⟨0, by omega, rfl, HK4, HB4⟩
  case round =>
    obtain ⟨j, hj, rfl, HK, HB⟩ := hrel
    have hsr := HB.out.size
    clear HK4 HB4
    by_cases hlt : j < 4
    · have j0 : (0 : Int) ≤ (j : Int) := by omega
      have j1 : (j : Int) < 4 := by omega
      go_wp2_with fail
      refine Calls.mono (left_int (a := [⟨g2, D1, P1⟩]) (b := []) _ _ _ HK.out (by omega) HP9.out) ?_
      rintro e w5 ⟨g3, F, rfl, hkk, hF, hb⟩
      have HK5 : Hid (Ks W0.heap.size w5 [⟨g3, F, []⟩, ⟨g2, D1, P1⟩, ⟨g1, D, P⟩]) := hide hkk
      have HB5 : Hid (Below W0.heap.size W0 w5) := hide (HB.out.trans (hb.mono hsr))
      have hs5 := HB5.out.size
      have HFL : Hid (F.length = 8 ∧ ∀ s ∈ F, OkB s.b) := hide (by rw [hF]; exact HLOK.out _ _)
      have HFK : Hid (k < F.length) := hide (by rw [HFL.out.1]; exact hk)
      have HF := hide hF
      obtain ⟨s, hs⟩ : ∃ s, s = secAt F k := ⟨_, rfl⟩
      have HSO : Hid (OkB s.b) := hide (by rw [hs]; exact secAt_ok HFL.out.2 HFK.out)
      have HS := hide hs
      clear hkk hb hF hs
      cases hsb : s.bad
      · have HSB := hide hsb
        clear hsb
        go_wp2_with fail
        refine Calls.mono (read_good (a := []) k _ HK5.out HFK.out s HS.out HSB.out HSO.out) ?_
        rintro e w6 ⟨r1, rfl, hl, hb⟩
        have HK6 := hide (HK5.out.below hb)
        have HB6 : Hid (Below W0.heap.size W0 w6) := hide (HB5.out.trans (hb.mono hs5))
        have hs6 := HB6.out.size
        have HX6 := hide hl
        clear hl
        clear hb
        go_wp2_with fail
        refine Calls.mono (left_int (a := [⟨g3, F, []⟩]) (b := [⟨g1, D, P⟩]) _ _ _ HK6.out (by omega) HL9.out) ?_
        rintro e w7 ⟨g4, F2, rfl, hkk, hF2, hb⟩
        have e2 : F2 = rotD k p y F := by rw [hF2, HLEFT.out, HF.out]
        have HS2 : Hid (rotS p y s = secAt F2 k) := hide (by rw [e2, HS.out]; exact (rotD_at HFK.out).symm)
        have HFK2 : Hid (k < F2.length) := hide (by rw [e2, rotD_len]; exact HFK.out)
        have HK7 : Hid (Ks W0.heap.size w7 [⟨g4, F2, []⟩, ⟨g3, F, []⟩, ⟨g2, D1, P1⟩, ⟨g1, D, P⟩]) := hide hkk
        have HB7 : Hid (Below W0.heap.size W0 w7) := hide (HB6.out.trans (hb.mono hs6))
        have hs7 := HB7.out.size
        have HX7 := hide (HX6.out.below hb)
        clear hkk hb hF2 e2 HK6
        go_wp2_with fail
        refine Calls.mono (read_good (a := []) k _ HK7.out HFK2.out (rotS p y s) HS2.out HSB.out (xorB_ok HSO.out HY.out)) ?_
        rintro e w8 ⟨r2, rfl, hl, hb⟩
        have HK8 : Hid (Ks W0.heap.size w8 [⟨g2, D1, P1⟩, ⟨g1, D, P⟩]) := hide (HK7.out.below hb).drop.drop
        have HB8 : Hid (Below W0.heap.size W0 w8) := hide (HB7.out.trans (hb.mono hs7))
        have HX8 := hide (HX7.out.below hb)
        have HY8 : Hid (Lies w8 (some ⟨r2, 0, none⟩) 64 ((xorB s.b p y).map (Value.int .u8))) := hide hl
        clear hl
        clear hb HK7
        go_wp2
        go_loopw [15] (fun i wr => ∃ m : Nat, m ≤ 64 ∧ i = .int .i64 m ∧ ∃ t, wr = w8.drewN t) (fun i _ => 64 - (intOf i).toNat)
        case atStart => exact ⟨0, by omega, rfl, 0, rfl⟩
        case round =>
          obtain ⟨m, hm, rfl, t, rfl⟩ := hrel
          by_cases hmt : m < 64
          · obtain ⟨ab, ao, ea, _, hx⟩ := byte_at HX8.out (by omega)
            obtain ⟨rfl, rfl⟩ : r1 = ab ∧ 0 = ao := by simpa using ea
            obtain ⟨bb, bo, eb, _, hy⟩ := byte_at HY8.out (by omega)
            obtain ⟨rfl, rfl⟩ : r2 = bb ∧ 0 = bo := by simpa using eb
            obtain ⟨u, hu⟩ : ∃ u, u = s.b.getD m 0 := ⟨_, rfl⟩
            have h1 : w8.cell? ⟨r1, m, none⟩ = some (.int .u8 u) := by have := hx m hmt; rw [Nat.zero_add, ← hu] at this; exact this
            have h2 := hy m hmt
            rw [Nat.zero_add, xorB_at _ _ _ _ (by rw [HSO.out.1]; exact hmt), ← hu] at h2
            have m0 : (0 : Int) ≤ (m : Int) := by omega
            have m1 : (m : Int) < 64 := by omega
            have hur : 0 ≤ u ∧ u < 256 := by rw [hu]; exact okB_at HSO.out
            clear hx hy ea eb hu
            by_cases hmp : m = p
            · subst hmp
              rw [if_pos rfl] at h2
              have hback := xor_u8_back u y hur HY.out
              obtain ⟨v, hv⟩ : ∃ v, v = bits .xor .u8 u y := ⟨_, rfl⟩
              rw [← hv] at h2 hback
              clear hv hur
              go_wp2
              go_quiet (fail)
              go_wp2
              go_roundw
              case rel => exact ⟨m + 1, by omega, by go_num, _, rfl⟩
              case measure => simp [intOf]; omega
            · rw [if_neg hmp] at h2
              have hne : ¬ ((m : Int) = (p : Int)) := by omega
              have e1 : ((m : Int) == (p : Int)) = false := by simpa using hne
              have e2 : ((m : Int) != (p : Int)) = true := by simpa using hne
              clear hmp hur
              go_wp2
              go_quiet (fail)
              go_wp2
              go_roundw
              case rel => exact ⟨m + 1, by omega, by go_num, _, rfl⟩
              case measure => simp [intOf]; omega
          · obtain rfl : m = 64 := by omega
            go_wp2
            go_roundw
            case rel => exact ⟨j + 1, by omega, by go_num, hide (HK8.out.below (below_drewN (Below.refl _ _) t)), hide (below_drewN HB8.out t)⟩
            case measure => simp [intOf]; omega
      · have HSB := hide hsb
        clear hsb
        go_wp2_with fail
        refine Calls.mono (read_bad (a := []) k _ HK5.out HFK.out s HS.out HSB.out) ?_
        rintro e w6 ⟨rfl, hb⟩
        have HK6 := hide (HK5.out.below hb)
        have HB6 : Hid (Below W0.heap.size W0 w6) := hide (HB5.out.trans (hb.mono hs5))
        have hs6 := HB6.out.size
        clear hb
        go_wp2_with fail
        refine Calls.mono (left_int (a := [⟨g3, F, []⟩]) (b := [⟨g1, D, P⟩]) _ _ _ HK6.out (by omega) HL9.out) ?_
        rintro e w7 ⟨g4, F2, rfl, hkk, hF2, hb⟩
        have e2 : F2 = rotD k p y F := by rw [hF2, HLEFT.out, HF.out]
        have HS2 : Hid (rotS p y s = secAt F2 k) := hide (by rw [e2, HS.out]; exact (rotD_at HFK.out).symm)
        have HFK2 : Hid (k < F2.length) := hide (by rw [e2, rotD_len]; exact HFK.out)
        have HK7 : Hid (Ks W0.heap.size w7 [⟨g4, F2, []⟩, ⟨g3, F, []⟩, ⟨g2, D1, P1⟩, ⟨g1, D, P⟩]) := hide hkk
        have HB7 : Hid (Below W0.heap.size W0 w7) := hide (HB6.out.trans (hb.mono hs6))
        have hs7 := HB7.out.size
        clear hkk hb hF2 e2 HK6
        go_wp2_with fail
        refine Calls.mono (read_bad (a := []) k _ HK7.out HFK2.out (rotS p y s) HS2.out HSB.out) ?_
        rintro e w8 ⟨rfl, hb⟩
        have HK8 : Hid (Ks W0.heap.size w8 [⟨g2, D1, P1⟩, ⟨g1, D, P⟩]) := hide (HK7.out.below hb).drop.drop
        have HB8 : Hid (Below W0.heap.size W0 w8) := hide (HB7.out.trans (hb.mono hs7))
        clear hb HK7
        go_wp2
        go_loopw [15] (fun i wr => i = .int .i64 0 ∧ wr = w8) (fun _ _ => 0)
        case atStart => exact ⟨rfl, rfl⟩
        case round =>
          obtain ⟨rfl, rfl⟩ := hrel
          go_wp2
          go_roundw
          case rel => exact ⟨j + 1, by omega, by go_num, HK8, HB8⟩
          case measure => simp [intOf]; omega
    · obtain rfl : j = 4 := by omega
      go_wp2_with fail
      refine Calls.mono (rot_yes (a := []) k p y _ HK.out HKD1.out hp HY.out HL9.out) ?_
      rintro e w5 ⟨rfl, hkk, hb⟩
      rw [HBD.out, HBP.out] at hkk
      have HK5 : Hid (Ks W0.heap.size w5 [⟨g2, D, P⟩, ⟨g1, D, P⟩]) := hide hkk
      have HB5 : Hid (Below W0.heap.size W0 w5) := hide (HB.out.trans hb)
      have hs5 := HB5.out.size
      clear hkk hb HK
      go_wp2_with fail
      refine Calls.mono (kd_alike _ (Ks.kd (a := []) (b := [⟨g1, D, P⟩]) (k := ⟨g2, D, P⟩) HK5.out) (Ks.kd (a := [⟨g2, D, P⟩]) (b := []) (k := ⟨g1, D, P⟩) HK5.out) (SameL.refl _)) ?_
      rintro e w6 ⟨rfl, hb⟩
      have HK6 := hide (HK5.out.below hb)
      have HB6 : Hid (Below W0.heap.size W0 w6) := hide (HB5.out.trans (hb.mono hs5))
      have hs6 := HB6.out.size
      clear hb HK5
      go_wp2_with fail
      refine Calls.mono (left_int (a := []) (b := [⟨g1, D, P⟩]) _ _ _ HK6.out (by omega) HP9.out) ?_
      rintro e w7 ⟨g3, F, rfl, hkk, hF, hb⟩
      have HK7 : Hid (Ks W0.heap.size w7 [⟨g3, F, []⟩, ⟨g2, D, P⟩, ⟨g1, D, P⟩]) := hide hkk
      have HB7 : Hid (Below W0.heap.size W0 w7) := hide (HB6.out.trans (hb.mono hs6))
      have hs7 := HB7.out.size
      have HF := hide hF
      clear hkk hb hF HK6
      go_wp2_with fail
      refine Calls.mono (left_int (a := [⟨g3, F, []⟩, ⟨g2, D, P⟩]) (b := []) _ _ _ HK7.out (by omega) HP9.out) ?_
      rintro e w8 ⟨g4, F2, rfl, hkk, hF2, hb⟩
      have e2 : F2 = F := hF2.trans HF.out.symm
      rw [e2] at hkk
      have HK8 : Hid (Ks W0.heap.size w8 [⟨g4, F, []⟩, ⟨g3, F, []⟩, ⟨g2, D, P⟩, ⟨g1, D, P⟩]) := hide hkk
      have HB8 : Hid (Below W0.heap.size W0 w8) := hide (HB7.out.trans (hb.mono hs7))
      have hs8 := HB8.out.size
      clear hkk hb hF2 e2 HK7
      go_wp2_with fail
      refine Calls.mono (kd_alike _ (Ks.kd (a := [⟨g4, F, []⟩]) (b := [⟨g2, D, P⟩, ⟨g1, D, P⟩]) (k := ⟨g3, F, []⟩) HK8.out) (Ks.kd (a := []) (b := [⟨g3, F, []⟩, ⟨g2, D, P⟩, ⟨g1, D, P⟩]) (k := ⟨g4, F, []⟩) HK8.out) (SameL.refl _)) ?_
      rintro e w9 ⟨rfl, hb⟩
      have HK9 : Hid (Ks W0.heap.size w9 [⟨g2, D, P⟩, ⟨g1, D, P⟩]) := hide (HK8.out.below hb).drop.drop
      have HB9 : Hid (Below W0.heap.size W0 w9) := hide (HB8.out.trans (hb.mono hs8))
      clear hb HK8
      go_wp2_with fail
      refine Calls.mono (rot_no (a := []) 8 0 1 _ HK9.out (by rw [HDL.out]; omega) (by omega) HP9.out) ?_
      rintro e w10 ⟨rfl, hkk, hb⟩
      have HK10 : Hid (Ks W0.heap.size w10 [⟨g2, D, P⟩, ⟨g1, D, P⟩]) := hide hkk
      have HB10 : Hid (Below W0.heap.size W0 w10) := hide (HB9.out.trans hb)
      clear hkk hb HK9
      go_wp2_with fail
      refine Calls.mono (rot_no (a := []) 0 64 1 _ HK10.out (by rw [HDL.out]; omega) (by omega) HP9.out) ?_
      rintro e w11 ⟨rfl, hkk, hb⟩
      have HK11 : Hid (Ks W0.heap.size w11 [⟨g2, D, P⟩, ⟨g1, D, P⟩]) := hide hkk
      have HB11 : Hid (Below W0.heap.size W0 w11) := hide (HB10.out.trans hb)
      clear hkk hb HK10
      go_wp2_with fail
      refine Calls.mono (rot_no (a := []) 0 (-1) 1 _ HK11.out (by rw [HDL.out]; omega) (by omega) HP9.out) ?_
      rintro e w12 ⟨rfl, hkk, hb⟩
      have HK12 : Hid (Ks W0.heap.size w12 [⟨g2, D, P⟩, ⟨g1, D, P⟩]) := hide hkk
      have HB12 : Hid (Below W0.heap.size W0 w12) := hide (HB11.out.trans hb)
      clear hkk hb HK11
      go_wp2
      go_ret
      exact ⟨by simp [Act.eval], HBX.out.trans (HB12.out.mono HBX.out.size)⟩
end Go.Proofs.Ytphfakjodddilaa
