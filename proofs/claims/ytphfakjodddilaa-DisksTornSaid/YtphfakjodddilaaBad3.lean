/- DisksBad holds for every acts, whichever sector it is, and for every bytes: the walk of its Go text. -/
import Derived.Test.YtphfakjodddilaaDiskDoes2
namespace Go.Proofs.Ytphfakjodddilaa
open Go.RowKit
set_option linter.unusedSimpArgs false
set_option linter.unusedVariables false

section
variable {dur : List Sec} {pend : List Wr} {k : Nat}
theorem wrAt_map (f : Wr → Wr) {j : Nat} (hj : j < pend.length) : wrAt (pend.map f) j = f (wrAt pend j) := by
  simp [wrAt, List.getD, hj]
theorem wrAt_snoc (x : Wr) {j : Nat} (hj : j < pend.length) : wrAt (pend ++ [x]) j = wrAt pend j := by
  simp [wrAt, List.getD, List.getElem?_append_left hj]
theorem wrAt_last (x : Wr) : wrAt (pend ++ [x]) pend.length = x := by
  simp [wrAt, List.getD]
theorem leftN_snoc (keep : Nat) (torn : Int) (x : Wr) (j : Nat) (hj : j ≤ pend.length) : leftN keep torn dur (pend ++ [x]) j = leftN keep torn dur pend j := by
  induction j with
  | zero => rfl
  | succ j ih => rw [leftN, leftN, ih (by omega), wrAt_snoc x (by omega)]
theorem badW_old {x : Wr} (h : (badW k x).n = k) : (badW k x).old = true := by
  unfold badW at *
  split
  · rfl
  · rename_i h1; rw [if_neg h1] at h; exact absurd h h1
theorem left_bad (keep : Nat) (torn : Int) (hk : k < dur.length) (hw : ∀ x ∈ pend, x.n < dur.length) (j : Nat) (hj : j ≤ pend.length) : (secAt (leftN keep torn (badD k dur) (pend.map (badW k)) j) k).bad = true := by
  induction j with
  | zero => show (secAt (badD k dur) k).bad = true; unfold badD; rw [secAt_set hk, if_pos rfl]
  | succ j ih =>
    have i1 := ih (by omega)
    have hl : (leftN keep torn (badD k dur) (pend.map (badW k)) j).length = dur.length := by rw [left_len, badD_len]
    have hx : (wrAt (pend.map (badW k)) j).n < dur.length := by rw [wrAt_map _ (by omega), badW_n]; exact hw _ (wrAt_mem (by omega))
    have ho : (wrAt (pend.map (badW k)) j).n = k → (wrAt (pend.map (badW k)) j).old = true := by rw [wrAt_map _ (by omega)]; exact badW_old
    rw [leftN]
    unfold stepF
    split
    · unfold tearW
      rw [secAt_set (by rw [hl]; exact hx)]
      split
      · rename_i e; show (secAt _ _).bad = true; rw [e]; exact i1
      · exact i1
    · split
      · rw [apply_at (by rw [hl]; exact hx)]
        split
        · rename_i e; show ((secAt _ _).bad && _) = true; rw [ho e, e, i1]; rfl
        · exact i1
      · exact i1
theorem kept_pow {a i : Nat} (ha : a < 64) (hi : i < 64) : keptB (2 ^ a) i = decide (i = a) := by
  unfold keptB
  rw [Nat.mod_eq_of_lt hi]
  by_cases h : i = a
  · subst h; rw [Nat.div_self (Nat.two_pow_pos _)]; simp
  · by_cases h2 : i < a
    · have e : 2 ^ a / 2 ^ i = 2 * 2 ^ (a - i - 1) := by
        rw [Nat.pow_div (by omega) (by omega), ← Nat.pow_succ']
        congr 1; omega
      rw [e]; simp [h]
    · have e : 2 ^ a / 2 ^ i = 0 := Nat.div_eq_of_lt (Nat.pow_lt_pow_right (by omega) (by omega))
      rw [e]; simp [h]
theorem kept_less {a : Nat} (ha : a < 64) : keptB (2 ^ a - 1) a = false := by
  unfold keptB
  rw [Nat.mod_eq_of_lt ha, Nat.div_eq_of_lt (by have := Nat.two_pow_pos a; omega)]
  rfl
theorem left_pow (D : List Sec) (torn : Int) (P : List Wr) (hp : P.length < 64) (ht : torn < 0 ∨ (P.length : Int) ≤ torn) (j : Nat) (hj : j ≤ P.length) : leftN (2 ^ P.length) torn D P j = D := by
  induction j with
  | zero => rfl
  | succ j ih =>
    rw [leftN, ih (by omega)]
    exact step_lost (by omega) (by rw [kept_pow hp (by omega)]; exact decide_eq_false (by omega))
theorem left_only (D : List Sec) (P : List Wr) (x : Wr) (hp : P.length < 64) : leftOf (2 ^ P.length) (-1) D (P ++ [x]) = applyW D x := by
  unfold leftOf
  rw [show (P ++ [x]).length = P.length + 1 by simp, leftN, leftN_snoc _ _ _ _ (Nat.le_refl _), left_pow D (-1) P hp (by omega) _ (Nat.le_refl _), wrAt_last, step_kept (by omega) (by rw [kept_pow hp hp]; exact decide_eq_true rfl)]
  rfl
theorem left_tears (D : List Sec) (P : List Wr) (x : Wr) (hp : P.length < 64) : leftOf (2 ^ P.length) (P.length : Int) D (P ++ [x]) = tearW D x := by
  unfold leftOf
  rw [show (P ++ [x]).length = P.length + 1 by simp, leftN, leftN_snoc _ _ _ _ (Nat.le_refl _), left_pow D _ P hp (by omega) _ (Nat.le_refl _), wrAt_last, step_torn rfl]
  rfl
theorem left_butlast (D : List Sec) (P : List Wr) (x : Wr) (hp : P.length < 64) : leftOf (2 ^ P.length - 1) (-1) D (P ++ [x]) = leftN (2 ^ P.length - 1) (-1) D P P.length := by
  unfold leftOf
  rw [show (P ++ [x]).length = P.length + 1 by simp, leftN, leftN_snoc _ _ _ _ (Nat.le_refl _), wrAt_last, step_lost (by omega) (kept_less hp)]
theorem first_bad {s : Sec} (h : s.bad = true) : firstI s = 256 := by unfold firstI; rw [h]; rfl
end
set_option maxRecDepth 100000 in
set_option maxHeartbeats 8000000 in
theorem bad_law (A Ab : Option Addr) (n c m cb : Nat) (nk : Int) (l : List Act1) (bs : List Int) (w : World) (h : ActsAt w A n l) (hn : n ≤ 140737488355328) (hnk : 0 ≤ nk ∧ nk < 256) (hb0 : Lies w Ab m (bs.map (Value.int .u8))) (hby : ∀ z ∈ bs, 0 ≤ z ∧ z < 256) :
    Calls Try.prog 9 #[.slice A n c, .int .u8 nk, .slice Ab m cb] w fun e w' => e = .returned (.bool true) ∧ Below w.heap.size w w' := by
  have HA := hide h
  have HL := hide hb0
  have HBY := hide hby
  have HBL : Hid (bs.length = m) := hide (by have := hb0.len; simpa using this)
  have HB0 : Hid (Below w.heap.size w w) := hide (Below.refl _ _)
  obtain ⟨q0, q1⟩ := hnk
  clear h hb0 hby
  by_cases hn60 : 60 < n
  · have hm1 : (60 : Int) < (n : Int) := by omega
    go_enter Try.func9, Try.ntmps9
    go_wp2_with fail
    refine Calls.mono (alive3_any _) ?_
    rintro e w1 ⟨rfl, hb⟩
    have HB1 : Hid (Below w.heap.size w w1) := hide (HB0.out.trans (hb.mono HB0.out.size))
    clear hb
    go_wp2_with fail
    refine Calls.mono (great_any A n c l _ (HA.out.below HB1.out) hn) ?_
    rintro e w99 ⟨bd, rfl, hbd, rfl⟩
    have HBD := hide hbd
    clear hbd
    cases bd
    rotate_left
    · go_wp2_with fail
      refine Calls.mono (alive3_any _) ?_
      rintro e w98 ⟨rfl, hb⟩
      have HB98 : Hid (Below w.heap.size w w98) := hide (HB1.out.trans (hb.mono HB1.out.size))
      clear hb
      go_wp2
      go_ret
      exact ⟨rfl, HB98.out⟩
    have hn2 : n ≤ 150 := HBD.out rfl
    clear HBD
    go_wp2_with fail
    refine Calls.mono (alive3_any _) ?_
    rintro e w98 ⟨rfl, hb⟩
    have HB98 : Hid (Below w.heap.size w w98) := hide (HB1.out.trans (hb.mono HB1.out.size))
    clear hb
    go_wp2
    go_ret
    exact ⟨rfl, HB98.out⟩
  by_cases hm : 64 < m
  · have hm0 : (n : Int) ≤ 60 := by omega
    have hm1 : (64 : Int) < (m : Int) := by omega
    go_enter Try.func9, Try.ntmps9
    go_wp2_with fail
    refine Calls.mono (alive3_any _) ?_
    rintro e w1 ⟨rfl, hb⟩
    have HB1 : Hid (Below w.heap.size w w1) := hide (HB0.out.trans (hb.mono HB0.out.size))
    clear hb
    go_wp2_with fail
    refine Calls.mono (great_any A n c l _ (HA.out.below HB1.out) hn) ?_
    rintro e w99 ⟨bd, rfl, hbd, rfl⟩
    have HBD := hide hbd
    clear hbd
    cases bd
    rotate_left
    · go_wp2_with fail
      refine Calls.mono (alive3_any _) ?_
      rintro e w98 ⟨rfl, hb⟩
      have HB98 : Hid (Below w.heap.size w w98) := hide (HB1.out.trans (hb.mono HB1.out.size))
      clear hb
      go_wp2
      go_ret
      exact ⟨rfl, HB98.out⟩
    have hn2 : n ≤ 150 := HBD.out rfl
    clear HBD
    go_wp2_with fail
    refine Calls.mono (alive3_any _) ?_
    rintro e w98 ⟨rfl, hb⟩
    have HB98 : Hid (Below w.heap.size w w98) := hide (HB1.out.trans (hb.mono HB1.out.size))
    clear hb
    go_wp2
    go_ret
    exact ⟨rfl, HB98.out⟩
  have hm0 : (n : Int) ≤ 60 := by omega
  have hm1 : (m : Int) ≤ 64 := by omega
  obtain ⟨k, hk8⟩ : ∃ k : Nat, nk % 8 = (k : Int) := ⟨(nk % 8).toNat, by omega⟩
  have hk : k < 8 := by omega
  go_enter Try.func9, Try.ntmps9
  go_wp2_with fail
  refine Calls.mono (alive3_any _) ?_
  rintro e w1 ⟨rfl, hb⟩
  have HB1 : Hid (Below w.heap.size w w1) := hide (HB0.out.trans (hb.mono HB0.out.size))
  clear hb
  go_wp2_with fail
  refine Calls.mono (great_any A n c l _ (HA.out.below HB1.out) hn) ?_
  rintro e w99 ⟨bd, rfl, hbd, rfl⟩
  have HBD := hide hbd
  clear hbd
  cases bd
  rotate_left
  · go_wp2_with fail
    refine Calls.mono (alive3_any _) ?_
    rintro e w98 ⟨rfl, hb⟩
    have HB98 : Hid (Below w.heap.size w w98) := hide (HB1.out.trans (hb.mono HB1.out.size))
    clear hb
    go_wp2
    go_ret
    exact ⟨rfl, HB98.out⟩
  have hn2 : n ≤ 150 := HBD.out rfl
  clear HBD
  have hs1 := HB1.out.size
  go_wp2_with fail
  refine Calls.mono (does_more (B := w.heap.size) (ks := []) A n c l _ (HA.out.below HB1.out) hn2 Ks.nil hs1) ?_
  rintro e w2 ⟨g, rfl, hkk, hb⟩
  obtain ⟨D, hD⟩ : ∃ D, D = durN l n := ⟨_, rfl⟩
  obtain ⟨P, hP⟩ : ∃ P, P = pendN l n := ⟨_, rfl⟩
  have HDL : Hid (D.length = 8) := hide (by rw [hD]; exact durN_len l n (by rw [HA.out.len]; exact Nat.le_refl _))
  have HPL : Hid (P.length ≤ 60) := hide (by rw [hP]; have := pendN_len l n (by rw [HA.out.len]; exact Nat.le_refl _); omega)
  rw [← hD, ← hP] at hkk
  have HK2 := hide hkk
  have HWN : Hid (∀ x ∈ P, x.n < D.length) := hide (fun x hx => ((Ks.facts (a := []) hkk).2.2.2 x hx).2)
  have HB2 : Hid (Below w.heap.size w w2) := hide (HB1.out.trans (hb.mono hs1))
  have hs2 := HB2.out.size
  have HKD : Hid (k < D.length) := hide (by rw [HDL.out]; exact hk)
  clear hkk hb hD hP
  obtain ⟨D1, hD1⟩ : ∃ D1, D1 = badD k D := ⟨_, rfl⟩
  obtain ⟨P1, hP1⟩ : ∃ P1, P1 = P.map (badW k) := ⟨_, rfl⟩
  obtain ⟨x, hx⟩ : ∃ x : Wr, x = ⟨k, padB bs, false⟩ := ⟨_, rfl⟩
  have HL1 : Hid (P1.length = P.length) := hide (by rw [hP1]; simp)
  have HLD1 : Hid (D1.length = 8) := hide (by rw [hD1, badD_len]; exact HDL.out)
  have HP1 : Hid (P1.length ≤ 60) := hide (by rw [HL1.out]; exact HPL.out)
  have HSEEN : Hid (firstI (secAt (seenOf D1 P1) k) = 256) := hide (by
    rw [hD1, hP1, bad_seen HKD.out HWN.out]
    refine first_bad ?_
    unfold badD
    rw [secAt_set (by rw [seen_len]; exact HKD.out), if_pos rfl])
  have HLEFT : Hid (∀ keep torn j, j ≤ P1.length → (secAt (leftN keep torn D1 P1 j) k).bad = true) := hide (fun keep torn j hj => by
    rw [hD1, hP1]
    exact left_bad keep torn HKD.out HWN.out j (by rw [← HL1.out]; exact hj))
  have HSX : Hid (⟨padB bs, false⟩ = secAt (seenOf D1 (P1 ++ [x])) k) := hide (by
    rw [seen_snoc, apply_at (by rw [seen_len, HLD1.out, hx]; exact hk), if_pos (by rw [hx]), hx]
    simp)
  have HSY : Hid (⟨padB bs, false⟩ = secAt (seenOf (leftOf (2 ^ P1.length) (-1) D1 (P1 ++ [x])) []) k) := hide (by
    rw [left_only D1 P1 x (by have := HP1.out; omega), seen_none, apply_at (by rw [HLD1.out, hx]; exact hk), if_pos (by rw [hx]), hx]
    simp)
  have HSZ : Hid (firstI (secAt (seenOf (leftOf (2 ^ P1.length - 1) (-1) D1 (P1 ++ [x])) []) k) = 256) := hide (by
    rw [left_butlast D1 P1 x (by have := HP1.out; omega), seen_none]
    exact first_bad (HLEFT.out _ _ _ (Nat.le_refl _)))
  have HST : Hid (firstI (secAt (seenOf (leftOf (2 ^ P1.length) (P1.length : Int) D1 (P1 ++ [x])) []) k) = 256) := hide (by
    rw [left_tears D1 P1 x (by have := HP1.out; omega), seen_none]
    refine first_bad ?_
    unfold tearW
    rw [secAt_set (by rw [HLD1.out, hx]; exact hk), if_pos (by rw [hx]), hx]
    exact HLEFT.out 0 0 0 (Nat.zero_le _))
  have HX := hide hx
  have HDD := hide hD1
  have HPP := hide hP1
  clear hD1 hP1 hx
  obtain ⟨Kp, hKp⟩ : ∃ Kp : Nat, Kp = 2 ^ P1.length := ⟨_, rfl⟩
  have HKP := hide hKp
  have hkp0 : 1 ≤ Kp := by rw [hKp]; exact Nat.two_pow_pos _
  have hkp1 : Kp < 2305843009213693952 := by
    rw [hKp]
    exact Nat.lt_of_lt_of_le (Nat.pow_lt_pow_right (by omega) (show P1.length < 61 by have := HP1.out; omega)) (by decide)
  have HSH : Hid (IntKind.u64.wrap ((2 : Int) ^ P1.length) = (Kp : Int)) := hide (by
    rw [show ((2 : Int) ^ P1.length) = (Kp : Int) by rw [hKp]; simp, IntKind.wrap_u64]
    omega)
  clear hKp
  have p60 : (P1.length : Int) ≤ 60 := by have := HP1.out; omega
  have k0 : (0 : Int) ≤ (k : Int) := by omega
  have k1 : (k : Int) < 8 := by omega
  go_wp2_with fail
  refine Calls.mono (k_bad (a := []) (b := []) (k := ⟨g, D, P⟩) (k : Int) _ HK2.out (Nat.le_trans HPL.out (by omega))) ?_
  rintro e w3 ⟨rfl, hkk, hb⟩
  have HK3 : Hid (Ks w.heap.size w3 [⟨g, D1, P1⟩]) := hide (by
    have e : badP (k : Int) ⟨g, D, P⟩ = ⟨g, D1, P1⟩ := by
      have e1 : badOk D.length (k : Int) = true := decide_eq_true (by have := HKD.out; omega)
      unfold badP
      rw [e1, HDD.out, HPP.out]
      rfl
    rw [e] at hkk
    exact hkk)
  have HB3 : Hid (Below w.heap.size w w3) := hide (HB2.out.trans hb)
  rw [show errI (badOk (⟨g, D, P⟩ : Dk).dur.length (k : Int)) = 0 from by
    have e1 : badOk D.length (k : Int) = true := decide_eq_true (by have := HKD.out; omega)
    show errI (badOk D.length (k : Int)) = 0
    rw [e1]; rfl]
  have hs3 := HB3.out.size
  clear hkk hb HK2 HB2 HB1
  go_wp2_with fail
  refine Calls.mono (kd_first k _ (Ks.kd (a := []) HK3.out) (by rw [HLD1.out]; exact hk)) ?_
  rintro e w4 ⟨rfl, hb⟩
  rw [HSEEN.out]
  have HK4 := hide (HK3.out.below hb)
  have HB4 : Hid (Below w.heap.size w w4) := hide (HB3.out.trans (hb.mono hs3))
  have hs4 := HB4.out.size
  clear hb
  go_wp2_with fail
  refine Calls.mono (left_any (a := []) (b := []) (k := ⟨g, D1, P1⟩) 18446744073709551615 (-1) _ HK4.out (by omega) (Nat.le_trans HP1.out (by omega))) ?_
  rintro e w5 ⟨g5, rfl, hkk, hb⟩
  have HK5 := hide hkk
  have HB5 : Hid (Below w.heap.size w w5) := hide (HB4.out.trans (hb.mono hs4))
  have hs5 := HB5.out.size
  clear hkk hb
  go_wp2_with fail
  refine Calls.mono (kd_first k _ (Ks.kd (a := []) HK5.out) (by show k < (leftOf _ _ _ _).length; unfold leftOf; rw [left_len, HLD1.out]; exact hk)) ?_
  rintro e w6 ⟨rfl, hb⟩
  rw [show firstI (secAt (seenOf (leftOf 18446744073709551615 (-1) D1 P1) []) k) = 256 from first_bad (HLEFT.out _ _ _ (Nat.le_refl _))]
  have HK6 := hide (HK5.out.below hb).drop
  have HB6 : Hid (Below w.heap.size w w6) := hide (HB5.out.trans (hb.mono hs5))
  have hs6 := HB6.out.size
  clear hb HK5 HB5 hs5
  go_wp2_with fail
  refine Calls.mono (left_any (a := []) (b := []) (k := ⟨g, D1, P1⟩) 0 (-1) _ HK6.out (by omega) (Nat.le_trans HP1.out (by omega))) ?_
  rintro e w7 ⟨g7, rfl, hkk, hb⟩
  have HK7 := hide hkk
  have HB7 : Hid (Below w.heap.size w w7) := hide (HB6.out.trans (hb.mono hs6))
  have hs7 := HB7.out.size
  clear hkk hb
  go_wp2_with fail
  refine Calls.mono (kd_first k _ (Ks.kd (a := []) HK7.out) (by show k < (leftOf _ _ _ _).length; unfold leftOf; rw [left_len, HLD1.out]; exact hk)) ?_
  rintro e w8 ⟨rfl, hb⟩
  rw [show firstI (secAt (seenOf (leftOf 0 (-1) D1 P1) []) k) = 256 from first_bad (HLEFT.out _ _ _ (Nat.le_refl _))]
  have HK8 := hide (HK7.out.below hb).drop
  have HB8 : Hid (Below w.heap.size w w8) := hide (HB7.out.trans (hb.mono hs7))
  have hs8 := HB8.out.size
  clear hb HK7 HB7 hs7
  go_wp2_with fail
  refine Calls.mono (k_waits (a := []) (b := []) (k := ⟨g, D1, P1⟩) _ HK8.out) ?_
  rintro e w99 ⟨rfl, rfl⟩
  go_wp2_with fail
  refine Calls.mono (k_write (a := []) (b := []) (k := ⟨g, D1, P1⟩) (k : Int) Ab m cb bs _ HK8.out (HL.out.below HB8.out) HBY.out (Nat.le_trans HP1.out (by omega))) ?_
  rintro e w9 ⟨rfl, hkk, hb⟩
  have HOK : Hid (wrOk D1.length (k : Int) m = true) := hide (decide_eq_true (by rw [HLD1.out]; omega))
  have HK9 : Hid (Ks w.heap.size w9 [⟨g, D1, P1 ++ [x]⟩]) := hide (by
    have e : wrP D1.length (k : Int) bs P1 = P1 ++ [x] := by unfold wrP; rw [HBL.out, HOK.out, HX.out]; rfl
    have h2 : Ks w.heap.size w9 [⟨g, D1, wrP D1.length (k : Int) bs P1⟩] := hkk
    rwa [e] at h2)
  rw [show errI (wrOk (⟨g, D1, P1⟩ : Dk).dur.length (k : Int) m) = 0 from by show errI (wrOk D1.length (k : Int) m) = 0; rw [HOK.out]; rfl]
  have HB9 : Hid (Below w.heap.size w w9) := hide (HB8.out.trans hb)
  have hs9 := HB9.out.size
  clear hkk hb HK8 HB8 HK4 HK6 HB4 HB6
  have HPO : Hid (OkB (padB bs)) := hide (okB_pad (by rw [HBL.out]; omega) HBY.out)
  go_wp2_with fail
  refine Calls.mono (k_read (a := []) (b := []) (k := ⟨g, D1, P1 ++ [x]⟩) k _ HK9.out (by show k < D1.length; rw [HLD1.out]; exact hk) ⟨padB bs, false⟩ HSX.out) ?_
  rintro e w10 ⟨rfl, rfl⟩
  have HLX := hide (lies_read w9 ⟨padB bs, false⟩ HPO.out)
  have HK10 := hide (HK9.out.alloc (.cells (secV ⟨padB bs, false⟩).toArray 64))
  have HB10 := hide (HB9.out.alloc hs9 (.cells (secV ⟨padB bs, false⟩).toArray 64))
  unfold rdV rdE
  generalize w9.alloc (.cells (secV ⟨padB bs, false⟩).toArray 64) = w10 at HLX HK10 HB10 ⊢
  have hs10 := HB10.out.size
  have hsh := HSH.out
  have kp0 : (1 : Int) ≤ (Kp : Int) := by omega
  have kp1 : (Kp : Int) < 2305843009213693952 := by omega
  have HPB : Hid ((P1 ++ [x]).length ≤ 1000000000) := hide (by simp; have := HP1.out; omega)
  go_wp2_with fail
  refine Calls.mono (left_any (a := []) (b := []) (k := ⟨g, D1, P1 ++ [x]⟩) Kp (-1) _ HK10.out (by omega) HPB.out) ?_
  rintro e w11 ⟨g11, rfl, hkk, hb⟩
  have HK11 := hide hkk
  have HLX11 := hide (HLX.out.below hb)
  have HB11 : Hid (Below w.heap.size w w11) := hide (HB10.out.trans (hb.mono hs10))
  have hs11 := HB11.out.size
  clear hkk hb
  go_wp2_with fail
  refine Calls.mono (kd_read k _ (Ks.kd (a := []) HK11.out) (by show k < (leftOf _ _ _ _).length; unfold leftOf; rw [left_len, HLD1.out]; exact hk) ⟨padB bs, false⟩ (by rw [HKP.out]; exact HSY.out)) ?_
  rintro e w12 ⟨rfl, rfl⟩
  have HLY := hide (lies_read w11 ⟨padB bs, false⟩ HPO.out)
  have HLX12 := hide (HLX11.out.alloc (.cells (secV ⟨padB bs, false⟩).toArray 64))
  have HK12 := hide (HK11.out.alloc (.cells (secV ⟨padB bs, false⟩).toArray 64)).drop
  have HB12 := hide (HB11.out.alloc hs11 (.cells (secV ⟨padB bs, false⟩).toArray 64))
  unfold rdV rdE
  generalize w11.alloc (.cells (secV ⟨padB bs, false⟩).toArray 64) = w12 at HLY HLX12 HK12 HB12 ⊢
  have hs12 := HB12.out.size
  go_wp2_with fail
  refine Calls.mono (same_u8 _ _ 64 64 64 (padB bs) _ HLX12.out HLY.out (by omega)) ?_
  rintro e w13 ⟨rfl, d1, rfl⟩
  have HLT : Hid (Lies (w12.drewN d1) (some ⟨w9.heap.size, 0, none⟩) m (bs.map (Value.int .u8))) := hide (by
    have h1 := (HLX12.out.drewN d1).take (k := m) (by omega)
    have e : ((padB bs).map (Value.int .u8)).take m = bs.map (Value.int .u8) := by
      rw [← List.map_take]
      congr 1
      unfold padB
      rw [← HBL.out, List.take_left]
    rwa [e] at h1)
  have HK13 : Hid (Ks w.heap.size (w12.drewN d1) [⟨g, D1, P1 ++ [x]⟩]) := hide (HK12.out.below (below_drewN (Below.refl _ _) d1))
  have HB13 : Hid (Below w.heap.size w (w12.drewN d1)) := hide (below_drewN HB12.out d1)
  generalize w12.drewN d1 = w14 at HLT HK13 HB13 ⊢
  have hs14 := HB13.out.size
  have m0 : (0 : Int) ≤ (m : Int) := by omega
  go_wp2_with fail
  refine Calls.mono (same_u8 _ _ m 64 cb bs _ HLT.out (HL.out.below HB13.out) (by omega)) ?_
  rintro e w15 ⟨rfl, d2, rfl⟩
  have HK15 : Hid (Ks w.heap.size (w14.drewN d2) [⟨g, D1, P1 ++ [x]⟩]) := hide (HK13.out.below (below_drewN (Below.refl _ _) d2))
  have HB15 : Hid (Below w.heap.size w (w14.drewN d2)) := hide (below_drewN HB13.out d2)
  generalize w14.drewN d2 = w16 at HK15 HB15 ⊢
  have hs16 := HB15.out.size
  clear HK9 HK10 HK11 HK12 HK13 HB9 HB10 HB11 HB12 HB13 HLX HLX11 HLX12 HLY HLT
  have HLM := left_any (a := []) (b := []) (k := ⟨g, D1, P1 ++ [x]⟩) (Kp - 1) (-1) _ HK15.out (by omega) HPB.out
  rw [show (((Kp - 1 : Nat)) : Int) = (Kp : Int) - 1 by omega] at HLM
  go_wp2_with fail
  refine Calls.mono HLM ?_
  rintro e w17 ⟨g17, rfl, hkk, hb⟩
  clear HLM
  have HK17 := hide hkk
  have HB17 : Hid (Below w.heap.size w w17) := hide (HB15.out.trans (hb.mono hs16))
  have hs17 := HB17.out.size
  clear hkk hb
  go_wp2_with fail
  refine Calls.mono (kd_first k _ (Ks.kd (a := []) HK17.out) (by show k < (leftOf _ _ _ _).length; unfold leftOf; rw [left_len, HLD1.out]; exact hk)) ?_
  rintro e w18 ⟨rfl, hb⟩
  rw [show firstI (secAt (seenOf (leftOf (Kp - 1) (-1) D1 (P1 ++ [x])) []) k) = 256 from by rw [HKP.out]; exact HSZ.out]
  have HK18 := hide (HK17.out.below hb).drop
  have HB18 : Hid (Below w.heap.size w w18) := hide (HB17.out.trans (hb.mono hs17))
  have hs18 := HB18.out.size
  clear hb
  go_wp2_with fail
  refine Calls.mono (left_any (a := []) (b := []) (k := ⟨g, D1, P1 ++ [x]⟩) Kp (P1.length : Int) _ HK18.out (by omega) HPB.out) ?_
  rintro e w19 ⟨g19, rfl, hkk, hb⟩
  have HK19 := hide hkk
  have HB19 : Hid (Below w.heap.size w w19) := hide (HB18.out.trans (hb.mono hs18))
  have hs19 := HB19.out.size
  clear hkk hb
  go_wp2_with fail
  refine Calls.mono (kd_first k _ (Ks.kd (a := []) HK19.out) (by show k < (leftOf _ _ _ _).length; unfold leftOf; rw [left_len, HLD1.out]; exact hk)) ?_
  rintro e w20 ⟨rfl, hb⟩
  rw [show firstI (secAt (seenOf (leftOf Kp (P1.length : Int) D1 (P1 ++ [x])) []) k) = 256 from by rw [HKP.out]; exact HST.out]
  have HB20 : Hid (Below w.heap.size w w20) := hide (HB19.out.trans (hb.mono hs19))
  clear hb
  go_wp2
  go_ret
  exact ⟨by simp [Act.eval], HB20.out⟩
end Go.Proofs.Ytphfakjodddilaa
