/- GraphsKinds: for every graph the walk of its Go text ends in true. -/
import Derived.Test.YtdlhhkegkfhmoaaAlive10M
import Derived.Test.YtdlhhkegkfhmoaaGp2M
namespace Go.Proofs.Ytdlhhkegkfhmoaa
open Go.RowKit
set_option linter.unusedVariables false
set_option linter.unusedSimpArgs false
set_option maxRecDepth 100000

set_option maxHeartbeats 16000000 in
theorem kinds10_any (A : Option Addr) (n c : Nat) (ns : List Nd) (w : World) (h : NsIn w A n ns) (hc : n ≤ c) (hn : n ≤ 70368744177664) :
    Calls Try.prog 5 #[.agg #[.slice A n c]] w fun e w' => e = .returned (.bool true) ∧ Below w.heap.size w w' := by
  obtain ⟨W0, hW0⟩ : ∃ W0, W0 = w.alloc (.cells #[.slice A n c] 24) := ⟨_, rfl⟩
  have HB0 : Hid (Below w.heap.size w W0) := hide (by rw [hW0]; exact below_al6 (Below.refl _ _))
  have HX : Hid (BoxG W0 w.heap.size (.slice A n c)) := hide (by rw [hW0]; exact BoxG.new w _)
  have HN := hide (h.below HB0.out)
  have HL : Hid (ns.length = n) := hide h.1
  have hW0' := hW0.symm
  clear hW0 h
  go_enter Try.func5, Try.ntmps5
  go_wp2_with fail
  refine Calls.mono (alive10_any _) ?_
  rintro e w1 ⟨rfl, hb⟩
  have HBN := hide hb
  clear hb
  have c0 := (HX.out.kept HBN.out).c0
  go_wp2_with fail
  refine Calls.mono (graph_size A n c ns _ (HN.out.below HBN.out) hn) ?_
  rintro e w2 ⟨r, rfl, hr0, hr1, hb⟩
  replace HBN := hide (below_nx6 HBN.out hb)
  clear hb c0
  by_cases hbig : 20000 < r
  · go_wp2_with fail
    refine Calls.mono (alive10_any _) ?_
    rintro e w3 ⟨rfl, hb⟩
    replace HBN := hide (below_nx6 HBN.out hb)
    clear hb
    go_wp2
    go_ret
    exact ⟨rfl, below_nx6 HB0.out HBN.out⟩
  have hsz := hr1 (by omega)
  have hn2 : n ≤ 10000 := by have h1 := szN_len ns; rw [HL.out] at h1; omega
  clear hr1 hsz hr0
  have c0 := (HX.out.kept HBN.out).c0
  go_wp2_with fail
  refine Calls.mono (weights_any A n c ns _ (HN.out.below HBN.out) (by omega)) ?_
  rintro e w3 ⟨Aw, kw, cw, rfl, ho, hb⟩
  have HKW : Hid (kw = (wtF 0 ns).length) := hide (by have h := ho.1; simpa using h.symm)
  have HLW := hide (lies_of_own ho)
  replace HBN := hide (below_nx6 HBN.out hb)
  have HB3 : Hid (∀ v, Below w3.heap.size w3 v → Below w3.heap.size w3 v) := hide (fun _ h => h)
  clear hb c0 ho hbig
  have c0 := (HX.out.kept HBN.out).c0
  go_wp2_with fail
  refine Calls.mono (gcheck_any A n c ns _ (HN.out.below HBN.out) (by omega) hc) ?_
  rintro e w4 ⟨rfl, hb⟩
  replace HBN := hide (below_nx6 HBN.out hb)
  replace HLW := hide (HLW.out.below hb)
  obtain ⟨M, hM⟩ : ∃ z, z = gphB ns := ⟨_, rfl⟩
  rw [← hM]
  have HM := hide hM
  have HKL : Hid (kw ≤ n) := hide (by rw [HKW.out, ← HL.out]; exact wtF_len 0 ns)
  clear hb c0 hM HB3
  go_wp2
  go_loopw [4, 5, 7] (fun a f i wr => ∃ (k m : Nat) (z : Int), k ≤ n ∧ m ≤ k ∧ i = .int .i64 k ∧ a = .int .i64 m ∧ f = .int .i64 z ∧ Hid (m = (wtF 0 (ns.take k)).length) ∧ Hid (z = inIx (ns.take k)) ∧ Hid (Below W0.heap.size W0 wr) ∧ Hid (Lies wr Aw kw ((wtF 0 ns).map (Value.int .i64)))) (fun _ _ i _ => n - (intOf i).toNat)
  case atStart => exact ⟨0, 0, -1, Nat.zero_le _, Nat.le_refl _, rfl, rfl, rfl, hide (by simp [wtF]), hide (by simp [inIx]), HBN, HLW⟩
  case round =>
    obtain ⟨k, m, z, hk, hmk, rfl, rfl, rfl, HM1, HZ1, HBR, HLR⟩ := hrel
    have c0 := (HX.out.kept HBR.out).c0
    by_cases hlt : k < n
    · obtain ⟨bA, oA, x, rfl, hxk, h0, h1, h2, h3, h4, hxo⟩ := (HN.out.below HBR.out).at hlt
      have HXK := hide hxk
      have HLX : Hid (x.xs.length = x.ni) := hide (lies_len9 hxo.1)
      have f0 : (0 : Int) ≤ (k : Int) := by omega
      have f1 : (k : Int) < (n : Int) := by omega
      obtain ⟨W1, hW1⟩ : ∃ W1, W1 = wr.alloc (.cells #[.int .u8 x.kd, .slice x.I x.ni x.ci, .slice x.S x.ns x.cs, .int .i64 x.N, .int .i64 x.P] 35) := ⟨_, rfl⟩
      have hbw1 : Below wr.heap.size wr W1 := by rw [hW1]; exact below_al6 (Below.refl _ _)
      have HX1 : Hid (BoxN W1 wr.heap.size x) := hide (by rw [hW1]; exact BoxN.new wr x)
      have HBR1 := hide (below_nx6 HBR.out hbw1)
      have HLR1 := hide (HLR.out.below hbw1)
      obtain ⟨q0, q1, q2, q3, q4⟩ := HX1.out.cs
      have hW1' := hW1.symm
      have HNX : Hid (z = -1 ∨ 0 ≤ z) := hide (by rw [HZ1.out]; have := inIx_ge (ns.take k); omega)
      clear hW1 hbw1 hxk hxo
      have HFIT : Hid (M = true → (x.ni = 0 ↔ (x.kd = 2 ∨ x.kd = 1))) := hide (fun h => by rw [← HLX.out]; exact fit_none (may_fit (by rw [← HM.out]; exact h) HXK.out).1)
      have HMS : Hid ((wtF 0 (ns.take (k + 1))).length = m + (if x.kd = 2 then 1 else 0)) := hide (by rw [wt_snoc HXK.out, HM1.out])
      have HZS : Hid (inIx (ns.take (k + 1)) = if z = -1 then (if x.kd = 1 then (k : Int) else -1) else z) := hide (by rw [in_snoc HXK.out, HZ1.out])
      by_cases hk2 : x.kd = 2
      · have hw := wt_at HXK.out hk2
        rw [← HM1.out, ← HKW.out] at hw
        have hmw : m < kw := hw.1
        obtain ⟨bw, ow, rfl, _, hx⟩ := byte_at HLR1.out (by omega)
        have hcw := hx m hmw
        rw [hw.2] at hcw
        have g1 : (x.kd == 2) = true := by simpa using hk2
        have g2 : (x.kd == 1) = false := by rw [hk2]; rfl
        have g3 : ((m : Int) < (kw : Int)) := by omega
        have g4 : (0 : Int) ≤ (m : Int) := by omega
        have HMS2 : Hid (m + 1 = (wtF 0 (ns.take (k + 1))).length) := hide (by rw [HMS.out, if_pos hk2])
        have HZS2 : Hid (z = inIx (ns.take (k + 1))) := hide (by rw [HZS.out, hk2]; split <;> simp [*])
        cases M with
        | true =>
          have hni : x.ni = 0 := (HFIT.out rfl).2 (.inl hk2)
          have g5 : ((x.ni : Int) == 0) = true := by simp [hni]
          clear hk2 hw hx hni
          go_wp2
          go_roundw
          case rel => exact ⟨k + 1, m + 1, z, by omega, by omega, by go_num, by go_num, rfl, HMS2, HZS2, HBR1, HLR1⟩
          case measure => simp [intOf] <;> omega
        | false =>
          clear hk2 hw hx
          go_wp2
          go_roundw
          case rel => exact ⟨k + 1, m + 1, z, by omega, by omega, by go_num, by go_num, rfl, HMS2, HZS2, HBR1, HLR1⟩
          case measure => simp [intOf] <;> omega
      · have g1 : (x.kd == 2) = false := by simpa using hk2
        have HMS2 : Hid (m = (wtF 0 (ns.take (k + 1))).length) := hide (by rw [HMS.out, if_neg hk2]; rfl)
        by_cases hk1 : x.kd = 1
        · have g2 : (x.kd == 1) = true := by simpa using hk1
          by_cases hz : z < 0
          · have HZS2 : Hid ((k : Int) = inIx (ns.take (k + 1))) := hide (by rw [HZS.out, if_pos (by have := HNX.out; omega), if_pos hk1])
            cases M with
            | true =>
              have hni : x.ni = 0 := (HFIT.out rfl).2 (.inr hk1)
              have g5 : ((x.ni : Int) == 0) = true := by simp [hni]
              clear hk2 hk1 hni
              go_wp2
              go_roundw
              case rel => exact ⟨k + 1, m, k, by omega, by omega, by go_num, rfl, rfl, HMS2, HZS2, HBR1, HLR1⟩
              case measure => simp [intOf] <;> omega
            | false =>
              clear hk2 hk1
              go_wp2
              go_roundw
              case rel => exact ⟨k + 1, m, k, by omega, by omega, by go_num, rfl, rfl, HMS2, HZS2, HBR1, HLR1⟩
              case measure => simp [intOf] <;> omega
          · have HZS2 : Hid (z = inIx (ns.take (k + 1))) := hide (by rw [HZS.out, if_neg (by omega)])
            cases M with
            | true => exact absurd (may_input HM.out.symm HXK.out hk1) (by rw [← HZ1.out]; omega)
            | false =>
              clear hk2 hk1
              go_wp2
              go_roundw
              case rel => exact ⟨k + 1, m, z, by omega, by omega, by go_num, rfl, rfl, HMS2, HZS2, HBR1, HLR1⟩
              case measure => simp [intOf] <;> omega
        · have g2 : (x.kd == 1) = false := by simpa using hk1
          have HZS2 : Hid (z = inIx (ns.take (k + 1))) := hide (by rw [HZS.out, if_neg hk1]; split <;> simp [*])
          cases M with
          | true =>
            have hni : ¬ x.ni = 0 := fun h => by rcases (HFIT.out rfl).1 h with h | h <;> contradiction
            have g5 : ((x.ni : Int) == 0) = false := by simpa using hni
            clear hk2 hk1 hni
            go_wp2
            go_roundw
            case rel => exact ⟨k + 1, m, z, by omega, by omega, by go_num, rfl, rfl, HMS2, HZS2, HBR1, HLR1⟩
            case measure => simp [intOf] <;> omega
          | false =>
            clear hk2 hk1
            go_wp2
            go_roundw
            case rel => exact ⟨k + 1, m, z, by omega, by omega, by go_num, rfl, rfl, HMS2, HZS2, HBR1, HLR1⟩
            case measure => simp [intOf] <;> omega
    · obtain rfl : k = n := by omega
      have hall : ns.take k = ns := List.take_of_length_le (by rw [HL.out]; exact Nat.le_refl _)
      have hmk2 : m = kw := by rw [HM1.out, HKW.out, hall]
      have hz2 := HZ1.out
      rw [hall] at hz2
      have HZ2 := hide hz2
      subst hmk2
      have f1 : ¬ ((k : Int) < (k : Int)) := by omega
      have HIN := hide (input_any A k c ns wr (HN.out.below HBR.out) (by omega))
      rw [← HZ2.out] at HIN
      have HZG : Hid (M = true → 0 ≤ z) := hide (fun h => by rw [HZ2.out]; exact (endsOk_parts (gphB_parts (by rw [← HM.out]; exact h)).1).2.1)
      clear hall hz2
      have e9 : ((m : Int) == (m : Int)) = true := by simp
      go_wp2_with fail
      refine Calls.mono HIN.out ?_
      rintro e w5 ⟨rfl, hb⟩
      have HB5 := hide (below_nx6 HBR.out hb)
      clear hb c0 HIN
      have e8 : (z == z) = true := by simp
      cases M with
      | true =>
        have hz0 := HZG.out rfl
        go_wp2
        go_ret
        exact ⟨rfl, below_nx6 HB0.out HB5.out⟩
      | false =>
        go_wp2
        go_ret
        exact ⟨rfl, below_nx6 HB0.out HB5.out⟩

end Go.Proofs.Ytdlhhkegkfhmoaa
