/- DisksWrite holds for every acts, whichever sector it is, and for every bytes: the walk of its Go text. -/
import Derived.Test.YtphfakjodddilaaDiskDoes2
import Derived.Test.YtphfakjodddilaaZeros
namespace Go.Proofs.Ytphfakjodddilaa
open Go.RowKit
set_option linter.unusedSimpArgs false
set_option linter.unusedVariables false

theorem below_row {w0 w w' : World} {B : Nat} {e : TypeId} {v : Value} {n : Nat} {xs : List Value} (h : Below B w0 w) (hB : B ≤ w.heap.size) (ho : w.ownsRow B e 1 v n xs) (hg : w.grownBy w' v.ownBlock) : Below B w0 w' :=
  h.grown hg hB (fun g hgg => (ho.lt g hgg).1)
theorem pad_row (bs : List Int) (m kz : Nat) (hm : bs.length = m) (hk : 64 - m = kz) : bs.map (Value.int .u8) ++ List.replicate kz (Value.int .u8 0) = (padB bs).map (Value.int .u8) := by
  unfold padB
  rw [List.map_append, List.map_replicate, hm, hk]
set_option maxRecDepth 100000 in
set_option maxHeartbeats 8000000 in
theorem write3_law (A Ab : Option Addr) (n c m cb : Nat) (nk : Int) (l : List Act1) (bs : List Int) (w : World) (h : ActsAt w A n l) (hn : n ≤ 140737488355328) (hnk : 0 ≤ nk ∧ nk < 256) (hb0 : Lies w Ab m (bs.map (Value.int .u8))) (hnA : Ab = none → cb = 0) (hby : ∀ z ∈ bs, 0 ≤ z ∧ z < 256) :
    Calls Try.prog 10 #[.slice A n c, .int .u8 nk, .slice Ab m cb] w fun e w' => e = .returned (.bool true) ∧ Below w.heap.size w w' := by
  have HA := hide h
  have HL := hide hb0
  have HBY := hide hby
  have HNA := hide hnA
  have HBL : Hid (bs.length = m) := hide (by have := hb0.len; simpa using this)
  have HB0 : Hid (Below w.heap.size w w) := hide (Below.refl _ _)
  obtain ⟨q0, q1⟩ := hnk
  clear h hb0 hby hnA
  by_cases hm : 64 < m
  · have hm1 : (64 : Int) < (m : Int) := by omega
    go_enter Try.func10, Try.ntmps10
    go_wp2_with fail
    refine Calls.mono (alive3_any _) ?_
    rintro e w1 ⟨rfl, hb⟩
    have HB1 : Hid (Below w.heap.size w w1) := hide (HB0.out.trans (hb.mono HB0.out.size))
    clear hb
    go_wp2_with fail
    refine Calls.mono (great_any A n c l _ (HA.out.below HB1.out) hn) ?_
    rintro e w99 ⟨bd, rfl, hbd, rfl⟩
    have HBD := hide hbd
    clear hbd
    cases bd
    rotate_left
    · go_wp2_with fail
      refine Calls.mono (alive3_any _) ?_
      rintro e w98 ⟨rfl, hb⟩
      have HB98 : Hid (Below w.heap.size w w98) := hide (HB1.out.trans (hb.mono HB1.out.size))
      clear hb
      go_wp2
      go_ret
      exact ⟨rfl, HB98.out⟩
    have hn2 : n ≤ 150 := HBD.out rfl
    clear HBD
    go_wp2_with fail
    refine Calls.mono (alive3_any _) ?_
    rintro e w98 ⟨rfl, hb⟩
    have HB98 : Hid (Below w.heap.size w w98) := hide (HB1.out.trans (hb.mono HB1.out.size))
    clear hb
    go_wp2
    go_ret
    exact ⟨rfl, HB98.out⟩
  have hm1 : (m : Int) ≤ 64 := by omega
  obtain ⟨k, hk8⟩ : ∃ k : Nat, nk % 8 = (k : Int) := ⟨(nk % 8).toNat, by omega⟩
  have hk : k < 8 := by omega
  go_enter Try.func10, Try.ntmps10
  go_wp2_with fail
  refine Calls.mono (alive3_any _) ?_
  rintro e w1 ⟨rfl, hb⟩
  have HB1 : Hid (Below w.heap.size w w1) := hide (HB0.out.trans (hb.mono HB0.out.size))
  clear hb
  go_wp2_with fail
  refine Calls.mono (great_any A n c l _ (HA.out.below HB1.out) hn) ?_
  rintro e w99 ⟨bd, rfl, hbd, rfl⟩
  have HBD := hide hbd
  clear hbd
  cases bd
  rotate_left
  · go_wp2_with fail
    refine Calls.mono (alive3_any _) ?_
    rintro e w98 ⟨rfl, hb⟩
    have HB98 : Hid (Below w.heap.size w w98) := hide (HB1.out.trans (hb.mono HB1.out.size))
    clear hb
    go_wp2
    go_ret
    exact ⟨rfl, HB98.out⟩
  have hn2 : n ≤ 150 := HBD.out rfl
  clear HBD
  have hs1 := HB1.out.size
  go_wp2_with fail
  refine Calls.mono (does_more (B := w.heap.size) (ks := []) A n c l _ (HA.out.below HB1.out) hn2 Ks.nil hs1) ?_
  rintro e w2 ⟨g1, rfl, hkk, hb⟩
  obtain ⟨D, hD⟩ : ∃ D, D = durN l n := ⟨_, rfl⟩
  obtain ⟨P, hP⟩ : ∃ P, P = pendN l n := ⟨_, rfl⟩
  have HDL : Hid (D.length = 8) := hide (by rw [hD]; exact durN_len l n (by rw [HA.out.len]; exact Nat.le_refl _))
  have HPL : Hid (P.length ≤ 150) := hide (by rw [hP]; exact Nat.le_trans (pendN_len l n (by rw [HA.out.len]; exact Nat.le_refl _)) hn2)
  rw [← hD, ← hP] at hkk
  have HDD := hide hD
  have HPP := hide hP
  have HK2 := hide hkk
  have HB2 : Hid (Below w.heap.size w w2) := hide (HB1.out.trans (hb.mono hs1))
  have hs2 := HB2.out.size
  clear hkk hb hD hP
  go_wp2_with fail
  refine Calls.mono (does_more A n c l _ (HA.out.below HB2.out) hn2 HK2.out hs2) ?_
  rintro e w3 ⟨g2, rfl, hkk, hb⟩
  rw [← HDD.out, ← HPP.out] at hkk
  have HK3 := hide hkk
  have HB3 : Hid (Below w.heap.size w w3) := hide (HB2.out.trans (hb.mono hs2))
  have hs3 := HB3.out.size
  clear hkk hb
  obtain ⟨x, hx⟩ : ∃ x : Wr, x = ⟨k, padB bs, false⟩ := ⟨_, rfl⟩
  have HX := hide hx
  have HOK : Hid (wrOk D.length (k : Int) m = true) := hide (decide_eq_true (by rw [HDL.out]; omega))
  have HP9 : Hid (P.length ≤ 1000000000) := hide (by have := HPL.out; omega)
  have k0 : (0 : Int) ≤ (k : Int) := by omega
  have k1 : (k : Int) < 8 := by omega
  clear hx
  go_wp2_with fail
  refine Calls.mono (k_write (a := []) (b := [⟨g1, D, P⟩]) (k := ⟨g2, D, P⟩) (k : Int) Ab m cb bs _ HK3.out (HL.out.below HB3.out) HBY.out HP9.out) ?_
  rintro e w4 ⟨rfl, hkk, hb⟩
  have HK4 : Hid (Ks w.heap.size w4 [⟨g2, D, P ++ [x]⟩, ⟨g1, D, P⟩]) := hide (by
    have e : wrP D.length (k : Int) bs P = P ++ [x] := by unfold wrP; rw [HBL.out, HOK.out, HX.out]; rfl
    have h2 : Ks w.heap.size w4 [⟨g2, D, wrP D.length (k : Int) bs P⟩, ⟨g1, D, P⟩] := hkk
    rwa [e] at h2)
  rw [show errI (wrOk (⟨g2, D, P⟩ : Dk).dur.length (k : Int) m) = 0 from by show errI (wrOk D.length (k : Int) m) = 0; rw [HOK.out]; rfl]
  have HB4 : Hid (Below w.heap.size w w4) := hide (HB3.out.trans hb)
  clear hkk hb
  go_wp2_with fail
  refine Calls.mono (k_waits (a := []) (b := [⟨g1, D, P⟩]) (k := ⟨g2, D, P ++ [x]⟩) _ HK4.out) ?_
  rintro e w99 ⟨rfl, rfl⟩
  rw [show ((⟨g2, D, P ++ [x]⟩ : Dk).pend.length : Int) = (P.length : Int) + 1 from by show ((P ++ [x]).length : Int) = _; simp]
  go_wp2_with fail
  refine Calls.mono (k_waits (a := [⟨g2, D, P ++ [x]⟩]) (b := []) (k := ⟨g1, D, P⟩) _ HK4.out) ?_
  rintro e w99 ⟨rfl, rfl⟩
  have p1 : (P.length : Int) ≤ 150 := by have := HPL.out; omega
  obtain ⟨i0, hi, hz0, hz1, hz2⟩ := info_parts Try.infoB
  have HI := hide hi
  have HZ0 := hide hz0
  have HZ1 := hide hz1
  have HZ2 := hide hz2
  obtain ⟨kz, hkz⟩ : ∃ kz, 64 - m = kz := ⟨_, rfl⟩
  have HKZ := hide hkz
  have hkzi : (64 : Int) - (m : Int) = (kz : Int) := by omega
  have HKZI := hide hkzi
  have HPO : Hid (OkB (padB bs)) := hide (okB_pad (by rw [HBL.out]; omega) HBY.out)
  have HXK : Hid (⟨padB bs, false⟩ = secAt (seenOf D (P ++ [x])) k) := hide (by
    rw [seen_snoc, apply_at (by rw [seen_len, HDL.out, HX.out]; exact hk), if_pos (by rw [HX.out]), HX.out]
    simp)
  have HXO : Hid (∀ j, j ≠ k → secAt (seenOf D P) j = secAt (seenOf D (P ++ [x])) j) := hide (fun j hj => by
    rw [seen_snoc, apply_at (by rw [seen_len, HDL.out, HX.out]; exact hk), if_neg (by rw [HX.out]; exact fun e => hj e.symm)])
  clear hi hz0 hz1 hz2 hkz hkzi HK2 HK3 HB1 HB2 HB3
  go_wp2
  clear hk8
  go_loopw [10] (fun i wr => ∃ j : Nat, j ≤ 8 ∧ i = .int .i64 j ∧ Hid (Ks w.heap.size wr [⟨g2, D, P ++ [x]⟩, ⟨g1, D, P⟩]) ∧ Hid (Below w.heap.size w wr)) (fun i _ => 8 - (intOf i).toNat)
  case atStart => exact ⟨0, by omega, rfl, HK4, HB4⟩
  case round =>
    obtain ⟨j, hj, rfl, HK, HB⟩ := hrel
    by_cases hlt : j < 8
    · have j0 : (0 : Int) ≤ (j : Int) := by omega
      have j1 : (j : Int) < 8 := by omega
      obtain ⟨s, hs⟩ : ∃ s, s = secAt (seenOf D P) j := ⟨_, rfl⟩
      obtain ⟨t, ht⟩ : ∃ t, t = secAt (seenOf D (P ++ [x])) j := ⟨_, rfl⟩
      have hjd : j < D.length := by rw [HDL.out]; exact hlt
      have HRS := hide (k_read (a := [⟨g2, D, P ++ [x]⟩]) (b := []) (k := ⟨g1, D, P⟩) j wr HK.out hjd s hs)
      have HOS : Hid (OkB s.b) := hide (by rw [hs]; exact secAt_ok (Ks.okSeen (a := [⟨g2, D, P ++ [x]⟩]) (b := []) (k := ⟨g1, D, P⟩) HK.out) (by show j < (seenOf D P).length; rw [seen_len]; exact hjd))
      obtain ⟨W1, hW1⟩ : ∃ W1, W1 = wr.alloc (.cells (secV s).toArray 64) := ⟨_, rfl⟩
      have HK1 : Hid (Ks w.heap.size W1 [⟨g2, D, P ++ [x]⟩, ⟨g1, D, P⟩]) := hide (by rw [hW1]; exact HK.out.alloc _)
      have HBW1 : Hid (Below w.heap.size w W1) := hide (by rw [hW1]; exact HB.out.alloc HB.out.size _)
      have HRT := hide (k_read (a := []) (b := [⟨g1, D, P⟩]) (k := ⟨g2, D, P ++ [x]⟩) j W1 HK1.out hjd t ht)
      have HOT : Hid (OkB t.b) := hide (by rw [ht]; exact secAt_ok (Ks.okSeen (a := []) (b := [⟨g1, D, P⟩]) (k := ⟨g2, D, P ++ [x]⟩) HK1.out) (by show j < (seenOf D (P ++ [x])).length; rw [seen_len]; exact hjd))
      obtain ⟨W2, hW2⟩ : ∃ W2, W2 = W1.alloc (.cells (secV t).toArray 64) := ⟨_, rfl⟩
      have HK2 : Hid (Ks w.heap.size W2 [⟨g2, D, P ++ [x]⟩, ⟨g1, D, P⟩]) := hide (by rw [hW2]; exact HK1.out.alloc _)
      have HBW2 : Hid (Below w.heap.size w W2) := hide (by rw [hW2]; exact HBW1.out.alloc HBW1.out.size _)
      have HLS : Hid (Lies W2 (some ⟨wr.heap.size, 0, none⟩) 64 (s.b.map (Value.int .u8))) := hide (by
        rw [hW2]; exact Lies.alloc (by rw [hW1]; exact lies_read wr s HOS.out) _)
      have HLT : Hid (Lies W2 (some ⟨W1.heap.size, 0, none⟩) 64 (t.b.map (Value.int .u8))) := hide (by
        rw [hW2]; exact lies_read W1 t HOT.out)
      rw [← hW1] at HRS
      rw [← hW2] at HRT
      have HSS := hide hs
      have HTT := hide ht
      have hsW2 := HBW2.out.size
      clear hs ht hjd hW1 hW2
      by_cases hjk : j = k
      · have hte : t = ⟨padB bs, false⟩ := by rw [HTT.out, hjk]; exact HXK.out.symm
        have HTB : Hid (t.b = padB bs) := hide (by rw [hte])
        have htb : t.bad = false := by rw [hte]
        rw [htb] at HRT
        have e1 : ((j : Int) == (k : Int)) = true := by rw [hjk]; exact beq_self_eq_true _
        have HJK := hide hjk
        clear hte htb hjk
        go_wp2_with fail
        refine Calls.mono HRS.out ?_
        rintro e W1 ⟨rfl, rfl⟩
        go_wp2_with fail
        refine Calls.mono HRT.out ?_
        rintro e W2 ⟨rfl, rfl⟩
        rw [show rdE false = .int .i64 0 from rfl, show rdV false W1.heap.size = .slice (some ⟨W1.heap.size, 0, none⟩) 64 64 from rfl]
        go_wp2_with (at_builtin; refine wpList_append_src rfl _ _ 22 rfl 5 i0 (.int .u8 0) 1 Try.underlying22 HI.out HZ0.out HZ1.out HZ2.out rfl W2.heap.size (.slice none 0 0) 0 [] rfl (World.ownsRow_nil _ _ _ _) (Nat.le_refl _) Ab m cb (bs.map (Value.int .u8)) rfl (HL.out.below HBW2.out) HNA.out (ones3 _ _) (by omega) (by unfold maxLen; omega) ?_)
        intro A3 c3 w6 ho6 hg6
        have HO6 : Hid (w6.ownsRow W2.heap.size 5 1 (.slice A3 m c3) m (bs.map (Value.int .u8))) := hide (by simpa using ho6)
        have HB26 : Hid (Below W2.heap.size W2 w6) := hide ((Below.refl _ _).grown hg6 (Nat.le_refl _) (by simp [Value.ownBlock]))
        have hs6 := HB26.out.size
        clear ho6 hg6
        have hkzi := HKZI.out
        go_wp2_with (at_builtin; refine wpList_append_zeros rfl (.tmp 67) (.tmp 70) 22 3 rfl 5 i0 (.int .u8 0) .i64 .i64 1 Try.underlying22 Try.underlying3 HI.out HZ0.out HZ1.out HZ2.out rfl rfl W2.heap.size (.slice A3 m c3) m (bs.map (Value.int .u8)) rfl HO6.out hs6 kz rfl (by have := HKZ.out; omega) (by have := HKZ.out; unfold maxLen; omega) ?_)
        intro A7 c7 w7 ho7 hg7
        have hmk : m + kz = 64 := by have := HKZ.out; omega
        rw [hmk, pad_row bs m kz HBL.out HKZ.out] at ho7
        have HL7 : Hid (Lies w7 A7 64 ((padB bs).map (Value.int .u8))) := hide (lies_of_own ho7)
        have HB27 : Hid (Below W2.heap.size W2 w7) := hide (below_row HB26.out hs6 HO6.out hg7)
        have HB7 : Hid (Below w.heap.size w w7) := hide (HBW2.out.trans (HB27.out.mono hsW2))
        have HLT7 : Hid (Lies w7 (some ⟨W1.heap.size, 0, none⟩) 64 ((padB bs).map (Value.int .u8))) := hide (by rw [← HTB.out]; exact HLT.out.below HB27.out)
        have HK7 : Hid (Ks w.heap.size w7 [⟨g2, D, P ++ [x]⟩, ⟨g1, D, P⟩]) := hide (HK2.out.below HB27.out)
        clear ho7 hg7 hkzi
        rw [hmk]
        go_wp2_with fail
        refine Calls.mono (same_u8 _ _ 64 64 c7 (padB bs) _ HLT7.out HL7.out (by omega)) ?_
        rintro e w8 ⟨rfl, d8, rfl⟩
        have HK8 : Hid (Ks w.heap.size (w7.drewN d8) [⟨g2, D, P ++ [x]⟩, ⟨g1, D, P⟩]) := hide (HK7.out.below (below_drewN (Below.refl _ _) d8))
        have HB8 : Hid (Below w.heap.size w (w7.drewN d8)) := hide (below_drewN HB7.out d8)
        go_wp2
        go_roundw
        case rel => exact ⟨j + 1, by omega, by go_num, HK8, HB8⟩
        case measure => simp [intOf]; omega
      · have HST : Hid (t = s) := hide (by rw [HTT.out, HSS.out]; exact (HXO.out j hjk).symm)
        have e1 : ((j : Int) == (k : Int)) = false := beq_eq_false_iff_ne.2 (by omega)
        obtain ⟨bad, hbad⟩ : ∃ bad, bad = s.bad := ⟨_, rfl⟩
        have hbt : bad = t.bad := by rw [HST.out, hbad]
        rw [← hbad] at HRS
        rw [← hbt] at HRT
        clear hbad hbt hjk
        cases bad
        · go_wp2_with fail
          refine Calls.mono HRS.out ?_
          rintro e W1 ⟨rfl, rfl⟩
          go_wp2_with fail
          refine Calls.mono HRT.out ?_
          rintro e W2 ⟨rfl, rfl⟩
          unfold rdV rdE
          go_wp2_with fail
          refine Calls.mono (same_u8 _ _ 64 64 64 s.b _ (by rw [← HST.out]; exact HLT.out) HLS.out (by omega)) ?_
          rintro e w8 ⟨rfl, d8, rfl⟩
          have HK8 : Hid (Ks w.heap.size (W2.drewN d8) [⟨g2, D, P ++ [x]⟩, ⟨g1, D, P⟩]) := hide (HK2.out.below (below_drewN (Below.refl _ _) d8))
          have HB8 : Hid (Below w.heap.size w (W2.drewN d8)) := hide (below_drewN HBW2.out d8)
          go_wp2
          go_roundw
          case rel => exact ⟨j + 1, by omega, by go_num, HK8, HB8⟩
          case measure => simp [intOf]; omega
        · go_wp2_with fail
          refine Calls.mono HRS.out ?_
          rintro e W1 ⟨rfl, rfl⟩
          go_wp2_with fail
          refine Calls.mono HRT.out ?_
          rintro e W2 ⟨rfl, rfl⟩
          unfold rdV rdE
          go_wp2_with fail
          refine Calls.mono (same_u8 none none 0 0 0 [] _ Lies.nothing Lies.nothing (by omega)) ?_
          rintro e w8 ⟨rfl, d8, rfl⟩
          have HK8 : Hid (Ks w.heap.size (W2.drewN d8) [⟨g2, D, P ++ [x]⟩, ⟨g1, D, P⟩]) := hide (HK2.out.below (below_drewN (Below.refl _ _) d8))
          have HB8 : Hid (Below w.heap.size w (W2.drewN d8)) := hide (below_drewN HBW2.out d8)
          go_wp2
          go_roundw
          case rel => exact ⟨j + 1, by omega, by go_num, HK8, HB8⟩
          case measure => simp [intOf]; omega
    · obtain rfl : j = 8 := by omega
      go_wp2
      go_ret
      exact ⟨rfl, HB.out⟩
end Go.Proofs.Ytphfakjodddilaa
