/- Merged: Whole12, Turned12. -/
import Derived.Test.YteagmlaahnpkhaaWZ26
import Derived.Test.YteagmlaahnpkhaaWZ28
namespace Go.Proofs.Yteagmlaahnpkhaa

section
open Go.RowKit
set_option linter.unusedVariables false
set_option linter.unusedSimpArgs false
set_option maxRecDepth 100000

set_option maxHeartbeats 32000000 in
theorem owhole12_any (A : Option Addr) (n c : Nat) (ns : List Nd) (a : Int) (w : World) (h : NsIn w A n ns) (hc : n ≤ c) (hn : n ≤ 70368744177664) (hnil : A = none → c = 0) (ha : 0 ≤ a ∧ a < 256) :
    Calls Try.prog 6 #[.agg #[.slice A n c], .int .u8 a] w fun e w' => e = .returned (.bool true) ∧ Below w.heap.size w w' := by
  obtain ⟨W0, hW0⟩ : ∃ W0, W0 = w.alloc (.cells #[.slice A n c] 24) := ⟨_, rfl⟩
  have HB0 : Hid (Below w.heap.size w W0) := hide (by rw [hW0]; exact below_al6 (Below.refl _ _))
  have HX : Hid (BoxG W0 w.heap.size (.slice A n c)) := hide (by rw [hW0]; exact BoxG.new w _)
  have HN := hide (h.below HB0.out)
  have HL : Hid (ns.length = n) := hide h.1
  have hW0' := hW0.symm
  clear hW0 h
  go_enter Try.func6, Try.ntmps6
  go_wp2_with fail
  refine Calls.mono (alive12_any _) ?_
  rintro e w1 ⟨rfl, hb⟩
  have HBN := hide hb
  replace HX := hide (HX.out.kept hb)
  replace HN := hide (HN.out.below hb)
  clear hb
  have c0 := HX.out.c0
  go_wp2_with fail
  refine Calls.mono (graph_size A n c ns w1 HN.out hn) ?_
  rintro e w2 ⟨r, rfl, hr0, hr1, hb⟩
  have hz : Below w1.heap.size w1 w2 := hb
  replace HBN := hide (below_nx6 HBN.out hz)
  replace HX := hide (HX.out.kept hz)
  replace HN := hide (HN.out.below hz)
  clear hz
  clear hb c0
  by_cases hbig : 20000 < r
  · go_wp2_with fail
    refine Calls.mono (alive12_any _) ?_
    rintro e w3 ⟨rfl, hb⟩
    replace HBN := hide (below_nx6 HBN.out hb)
    clear hb
    go_wp2
    go_ret
    exact ⟨rfl, below_nx6 HB0.out HBN.out⟩
  have hsz := hr1 (by omega)
  have HSZ := hide hsz
  have hn2 : n ≤ 10000 := by have h1 := szN_len ns; rw [HL.out] at h1; omega
  clear hr1 hsz hr0
  have HNIL := hide hnil
  clear hnil
  have c0 := HX.out.c0
  by_cases hcond : 31 < n
  · go_wp2_with fail
    refine Calls.mono (alive12_any _) ?_
    rintro e w3 ⟨rfl, hb⟩
    replace HBN := hide (below_nx6 HBN.out hb)
    clear hb
    go_wp2
    go_ret
    exact ⟨rfl, below_nx6 HB0.out HBN.out⟩
  have hn31 : n ≤ 31 := by omega
  cases hg : gphB ns with
  | false =>
    have HCON := hide (of12_no A n c ns w2 HN.out (by omega) hc hg)
    go_wp2_with fail
    refine Calls.mono HCON.out ?_
    rintro e w3 ⟨rfl, hb⟩
    replace HBN := hide (below_nx6 HBN.out hb)
    clear hb
    go_wp2
    go_ret
    exact ⟨rfl, below_nx6 HB0.out HBN.out⟩
  | true =>
  have HN1 : Hid (1 ≤ n ∧ n ≤ 32) := hide (by have h := gphB_n hg; rw [HL.out] at h; exact h)
  have hn1 : 1 ≤ n := HN1.out.1
  have HG := hide hg
  have HCON := hide (of12_ok A n c ns w2 HN.out (by omega) hc hg)
  clear hg
  go_wp2_with fail
  refine Calls.mono HCON.out ?_
  rintro e w3 ⟨Aa, ka, ca, L1, rfl, hoa, hna, hb⟩
  have HLA := hide (lies_of_own hoa)
  have HNA := hide hna
  have hz : Below w2.heap.size w2 w3 := hb
  replace HBN := hide (below_nx6 HBN.out hz)
  replace HX := hide (HX.out.kept hz)
  replace HN := hide (HN.out.below hz)
  clear hz
  clear hb hoa hna HCON c0
  have HKA : Hid (ka ≤ 32) := hide (by have h := HNA.out.len.2; rw [lies_len9 HLA.out] at h; have := HN1.out; omega)
  obtain ⟨Z, rfl⟩ := Int.eq_ofNat_of_zero_le ha.1
  obtain ⟨k, hk⟩ : ∃ z, z = Z % n := ⟨_, rfl⟩
  have r1 : Int.tmod (Z : Int) (n : Int) = (k : Int) := by rw [hk]; rfl
  have hkn : k < n := by rw [hk]; exact Nat.mod_lt _ (by omega)
  have r2 : ¬ (n : Int) = 0 := by omega
  have r2' : ¬ n = 0 := by omega
  have r6 : ((n : Int) == 0) = false := by simp; omega
  have rz : IntKind.i64.wrap (Z : Int) = (Z : Int) := by rw [IntKind.wrap_i64]; omega
  have r3 : IntKind.i64.wrap (k : Int) = (k : Int) := by rw [IntKind.wrap_i64]; omega
  clear hk
  obtain ⟨iN, hiN, hzN0, hzN1, hzN2⟩ := info_parts infoN10
  have HIN := hide hiN
  have HZ0 := hide hzN0
  have HZ1 := hide hzN1
  have HZ2 := hide hzN2
  clear hiN hzN0 hzN1 hzN2
  have c0 := HX.out.c0
  have HCL : Hid ((cellsN ns).length = n * 5) := hide (by rw [cellsN_len, HL.out])
  go_wp2_with (at_builtin; refine wpList_append_srcN rfl _ (.tmp 42) 22 rfl 33 iN _ 5 72 Try.underlying22 HIN.out HZ0.out HZ1.out HZ2.out rfl (by decide) w3.heap.size (.slice none 0 0) 0 [] rfl (World.ownsRow_nil _ _ _ _) (Nat.le_refl _) A n c (cellsN ns) rfl HCL.out HN.out.cells HNIL.out (cellsN_one ns) (by omega) (by unfold maxLen; omega) ?_)
  intro A4 c4 w4 ho4 hg4 _
  have hb4 : Below w3.heap.size w3 w4 := ⟨hg4.os, hg4.tape, hg4.output, hg4.size, fun i hi => hg4.block i hi (by simp [Value.ownBlock])⟩
  have HO4 := hide ho4
  have HB4 := hide hb4
  have hs4 := hb4.size
  clear ho4 hg4 hb4 c0
  obtain ⟨x, hx⟩ : ∃ x : Nd, x = ⟨5, some ⟨w4.heap.size, 0, none⟩, 1, 1, none, 0, 0, 0, 0, [(k : Int)], []⟩ := ⟨_, rfl⟩
  obtain ⟨y1, hy1⟩ : ∃ u, u = w4.alloc (.cells #[.int .i64 (k : Int)] 3) := ⟨_, rfl⟩
  have by1 : Below w4.heap.size w4 y1 := by rw [hy1]; exact below_al6 (Below.refl _ _)
  have ly1 : Lies y1 (some ⟨w4.heap.size, 0, none⟩) 1 (([(k : Int)] : List Int).map (Value.int .i64)) := by rw [hy1]; exact lit_lies w4 .i64 [(k : Int)] 3
  obtain ⟨y2, hy2⟩ : ∃ u, u = y1.alloc (.cells #[.int .u8 5, .slice (some ⟨w4.heap.size, 0, none⟩) 1 1, .slice none 0 0, .int .i64 0, .int .i64 0] 33) := ⟨_, rfl⟩
  have by2 : Below y1.heap.size y1 y2 := by rw [hy2]; exact below_al6 (Below.refl _ _)
  have s1 : y1.heap.size = w4.heap.size + 1 := by rw [hy1]; simp
  have HFU : Hid (∀ j z, x.five[j]? = some z → y2.cell? ((⟨y1.heap.size, 0, none⟩ : Addr).add j) = some z) := hide (by rw [hy2, hx]; exact five_new y1 ⟨5, some ⟨w4.heap.size, 0, none⟩, 1, 1, none, 0, 0, 0, 0, [(k : Int)], []⟩)
  have HLY := hide (ly1.below by2)
  have HXQ := hide hx
  have HOY : Hid (y2.ownsRow w3.heap.size 33 5 (.slice A4 n c4) n (cellsN ns)) := hide (own_keep10 (own_keep10 HO4.out by1) by2)
  have HBY : Hid (Below w3.heap.size w3 y2) := hide (below_nx6 (below_nx6 HB4.out by1) by2)
  have HXE : Hid (x.xs = [(k : Int)] ∧ x.kd = 5 ∧ fitN x (gphS ns) = true) := hide (by
    rw [hx]
    refine ⟨rfl, rfl, ?_⟩
    rw [fit_relu, gphS_len HG.out, HL.out]
    simp
    omega)
  have HFO : Hid (∀ z ∈ x.five, z.oneCell' = true) := hide (fun z hz => by
    have := cellsN_one [x] z (by simpa [cellsN] using hz)
    exact this)
  rw [s1] at HFU
  rw [hy1] at hy2
  have hy2' := hy2.symm
  clear hx hy1 hy2 by1 by2 ly1
  go_wp2_with (at_builtin; refine wpList_append_srcN rfl (.tmp 43) (.tmp 47) 22 rfl 33 iN _ 5 72 Try.underlying22 HIN.out HZ0.out HZ1.out HZ2.out rfl (by decide) w3.heap.size (.slice A4 n c4) n (cellsN ns) rfl HOY.out HBY.out.size (some ⟨w4.heap.size + 1, 0, none⟩) 1 1 x.five rfl rfl (fun _ => ⟨_, rfl, HFU.out⟩) (fun h => by cases h) HFO.out (by omega) (by unfold maxLen; omega) ?_)
  intro A5 c5 w5 ho5 hg5 _
  have hb5 : Below w3.heap.size w3 w5 := below_own10 HBY.out HOY.out hg5 (Nat.le_refl _)
  have hcap := own_cap12 ho5
  have h5 : w5.ownsRow w3.heap.size 33 5 (.slice A5 (n + 1) c5) (n + 1) (cellsN (ns ++ [x])) := by
    rw [cellsN_append]
    simpa [cellsN] using ho5
  have HLY5 : Hid (Lies w5 (some ⟨w4.heap.size, 0, none⟩) 1 (([(k : Int)] : List Int).map (Value.int .i64))) := hide (HLY.out.grown hg5 (fun b o e => by
    cases e
    intro e2
    have := (HO4.out.lt _ e2.symm).2
    omega))
  have hN5 : NsIn w5 A5 (n + 1) (ns ++ [x]) := NsIn.ofOwn h5 (by rw [List.length_append, HL.out]; rfl) (fun y hy => by
    rcases List.mem_append.1 hy with hy | hy
    · exact (HN.out.oks y hy).below hb5
    · rw [List.mem_singleton] at hy
      subst hy
      rw [HXQ.out]
      exact ⟨HLY5.out, Lies.nothing, Nat.le_refl _, Nat.le_refl _, by dsimp only; omega, by dsimp only; omega, by dsimp only; omega, by dsimp only; omega, by dsimp only; omega⟩)
  have HG5 : Hid (gphB (ns ++ [x]) = true) := hide (by
    rw [gph_snoc HG.out, HXE.out.2.2, HXE.out.2.1, HL.out]
    simp
    omega)
  obtain ⟨V, hV⟩ : ∃ V, V = w5.alloc (.cells #[.slice A5 (n + 1) c5] 24) := ⟨_, rfl⟩
  have hbv : Below w5.heap.size w5 V := by rw [hV]; exact below_al6 (Below.refl _ _)
  have HXV : Hid (BoxG V w5.heap.size (.slice A5 (n + 1) c5)) := hide (by rw [hV]; exact BoxG.new w5 _)
  have HNV := hide (hN5.below hbv)
  have HC5 : Hid (n + 1 ≤ c5) := hide hcap
  have hV' := hV.symm
  have hzv := below_nx6 hb5 hbv
  clear hV hbv ho5 hg5 hcap h5 hN5 hb5 HOY HBY HFU HFO HLY HLY5 HO4 HB4 hs4 s1 hy2'
  have hz : Below w3.heap.size w3 V := hzv
  replace HBN := hide (below_nx6 HBN.out hz)
  replace HX := hide (HX.out.kept hz)
  replace HN := hide (HN.out.below hz)
  replace HLA := hide (HLA.out.below hz)
  clear hz
  clear hzv
  have cv := HXV.out.c0
  have HCON := hide (of12_ok A5 (n + 1) c5 (ns ++ [x]) V HNV.out (by omega) HC5.out HG5.out)
  go_wp2_with fail
  refine Calls.mono HCON.out ?_
  rintro e w6 ⟨Ab, kb, cb, L2, rfl, hob, hnb, hb⟩
  have hcapb := own_cap12 hob
  have HLB := hide (lies_of_own hob)
  have hvl := vld_of HG.out
  rw [Nat.add_sub_cancel, ← HL.out] at hnb
  obtain ⟨L0, e2, hn0⟩ := isNeed_more HXE.out.1 hvl (by rw [HL.out]; exact hkn) hnb
  rw [HL.out] at e2
  obtain ⟨L9, e0⟩ := hn0.last
  have hlen := lies_len9 HLB.out
  have hl0 := hn0.len
  obtain ⟨t, ht⟩ : ∃ t, t = L9.length := ⟨_, rfl⟩
  have hl9 : L0.length = t + 1 := by rw [e0, ht]; simp
  have hkb : kb = t + 1 + 1 := by rw [← hlen, e2, List.length_append, hl9]; rfl
  subst hkb
  have HL0 : Hid (L2 = L0 ++ [(n : Int)]) := hide e2
  have HL9 : Hid (L0 = L9 ++ [(k : Int)]) := hide e0
  have HNB := hide hn0
  have HLL : Hid (L0.length = t + 1) := hide hl9
  have HT9 : Hid (t = L9.length) := hide ht
  have ht32 : t ≤ 32 := by omega
  have HCB : Hid (t + 1 + 1 ≤ cb) := hide hcapb
  obtain ⟨bb, ob, eb, _, hxb⟩ := byte_at HLB.out (by omega)
  subst eb
  have q1 := hxb (t + 1) (by omega)
  have q2 := hxb t (by omega)
  have v1 : L2.getD (t + 1) 0 = (n : Int) := by rw [HL0.out, List.getD, List.getElem?_append_right (by rw [HLL.out]; exact Nat.le_refl _), HLL.out, Nat.sub_self]; rfl
  have v2 : L2.getD t 0 = (k : Int) := by rw [HL0.out, List.getD, List.getElem?_append_left (by rw [HLL.out]; omega), HL9.out, List.getElem?_append_right (by rw [HT9.out]; exact Nat.le_refl _), HT9.out, Nat.sub_self]; rfl
  rw [v1] at q1
  rw [v2] at q2
  have hz : Below V.heap.size V w6 := hb
  replace HBN := hide (below_nx6 HBN.out hz)
  replace HX := hide (HX.out.kept hz)
  replace HN := hide (HN.out.below hz)
  replace HLA := hide (HLA.out.below hz)
  replace HXV := hide (HXV.out.kept hz)
  replace HNV := hide (HNV.out.below hz)
  clear hz
  clear hb hob hnb hcapb hvl e2 hn0 e0 hlen hl0 hl9 ht hxb v1 v2 HCON cv
  have a1 : IntKind.i64.wrap (((t + 1 + 1 : Nat) : Int) - 1) = ((t + 1 : Nat) : Int) := by rw [IntKind.wrap_i64]; omega
  have a2 : IntKind.i64.wrap (((t + 1 + 1 : Nat) : Int) - 2) = (t : Int) := by rw [IntKind.wrap_i64]; omega
  have hvl := hide (vld_of HG.out)
  have HSUB : Hid ((k : Int) ∈ L1 → ∀ z, z ∈ L0 → z ∈ L1) := hide (fun hk1 z hz => by
    rw [HNA.out.mem hvl.out] at hk1 ⊢
    rw [HNB.out.mem hvl.out] at hz
    obtain ⟨k2, e, hk2⟩ := hk1
    obtain ⟨j, rfl, hj⟩ := hz
    have : k = k2 := by omega
    subst this
    exact ⟨j, rfl, hk2.trans hj⟩)
  go_wp2
  go_loopw [12] (fun v wr => ∃ i : Nat, i ≤ t + 1 ∧ v = .int .i64 i ∧ Hid (Below w6.heap.size w6 wr)) (fun v _ => t + 1 - (intOf v).toNat)
  case atStart => exact ⟨0, Nat.zero_le _, rfl, hide (Below.refl _ _)⟩
  case round =>
    obtain ⟨i, hi, rfl, HB⟩ := hrel
    by_cases hlt : i < t + 1
    · have i0 : (0 : Int) ≤ (i : Int) := by omega
      have i1 : (i : Int) < (t : Int) + 1 := by omega
      have i2 : (i : Int) < (t : Int) + 1 + 1 := by omega
      have HC := hide (in12_any Aa ka ca L1 (k : Int) wr (HLA.out.below HB.out) (by have := HKA.out; omega))
      obtain ⟨T, hT⟩ : ∃ T, T = decide ((k : Int) ∈ L1) := ⟨_, rfl⟩
      rw [← hT] at HC
      have HT := hide hT
      clear hT
      go_wp2_with fail
      refine Calls.mono HC.out ?_
      rintro e v1 ⟨rfl, hb⟩
      replace HB := hide (below_nx6 HB.out hb)
      clear hb HC
      cases T with
      | false =>
        go_wp2
        go_roundw
        case rel => exact ⟨i + 1, by omega, by go_num, HB⟩
        case measure => simp [intOf] <;> omega
      | true =>
        obtain ⟨_, _, ex, _, hx2⟩ := byte_at (HLB.out.below HB.out) (by omega)
        cases ex
        have cx := hx2 i (by omega)
        obtain ⟨z, hz⟩ : ∃ z, z = L2.getD i 0 := ⟨_, rfl⟩
        rw [← hz] at cx
        have hz1 : z ∈ L1 := HSUB.out (of_decide_eq_true HT.out.symm) z (by
          rw [hz, HL0.out, List.getD, List.getElem?_append_left (by rw [HLL.out]; exact hlt)]
          exact getD_mem (by rw [HLL.out]; exact hlt))
        have hC2 := in12_any Aa ka ca L1 z v1 (HLA.out.below HB.out) (by have := HKA.out; omega)
        rw [decide_eq_true hz1] at hC2
        have HC2 := hide hC2
        clear hx2 hz hz1 hC2
        go_wp2_with fail
        refine Calls.mono HC2.out ?_
        rintro e v2 ⟨rfl, hb⟩
        replace HB := hide (below_nx6 HB.out hb)
        clear hb HC2 cx
        go_wp2
        go_roundw
        case rel => exact ⟨i + 1, by omega, by go_num, HB⟩
        case measure => simp [intOf] <;> omega
    · obtain rfl : i = t + 1 := by omega
      have i1 : ¬ ((t + 1 : Nat) : Int) < (t : Int) + 1 := by omega
      have i3 : ¬ (t : Int) + 1 < (t : Int) + 1 := by omega
      by_cases hkl : k = n - 1
      · have e1 : ((k : Int) != (n : Int) - 1) = false := by
          rw [bne_eq_false_iff_eq]
          omega
        have hcb := HCB.out
        have b0 : (0 : Int) ≤ (t : Int) + 1 := by omega
        have b1 : (t : Int) + 1 ≤ (cb : Int) := by omega
        have hle : L0 = L1 := by
          have h1 := HNB.out
          rw [hkl] at h1
          exact h1.uniq HNA.out
        have hpre : Lies wr (some ⟨bb, ob, none⟩) (t + 1) (L0.map (Value.int .i64)) := by
          have h := (HLB.out.below HB.out).take (k := t + 1) (by omega)
          rw [HL0.out, List.map_append, List.take_left' (by rw [List.length_map, HLL.out])] at h
          exact h
        have hC2 := is12_any (some ⟨bb, ob, none⟩) Aa (t + 1) cb ka ca 0 L0 L1 wr hpre (HLA.out.below HB.out) (by omega)
        rw [decide_eq_true ⟨rfl, hle⟩] at hC2
        have HC2 := hide hC2
        clear hC2 hpre hle hcb hkl
        go_wp2_with fail
        refine Calls.mono HC2.out ?_
        rintro e v2 ⟨rfl, hb⟩
        replace HB := hide (below_nx6 HB.out hb)
        clear hb HC2
        go_wp2
        go_ret
        exact ⟨rfl, below_nx6 HB0.out (below_nx6 HBN.out HB.out)⟩
      · have e1 : ((k : Int) != (n : Int) - 1) = true := by
          rw [bne_iff_ne]
          omega
        clear hkl
        go_wp2
        go_ret
        exact ⟨rfl, below_nx6 HB0.out (below_nx6 HBN.out HB.out)⟩

end

section
open Go.RowKit
set_option linter.unusedVariables false
set_option linter.unusedSimpArgs false
set_option maxRecDepth 100000

set_option maxHeartbeats 32000000 in
theorem turned12_any (A B : Option Addr) (n c m d : Nat) (ns : List Nd) (l : List Int) (w : World) (h : NsIn w A n ns) (hc : n ≤ c) (hn : n ≤ 70368744177664) (hB : Lies w B m (l.map (Value.int .i64))) (hd : m ≤ d) (hm : m ≤ 281474976710656) :
    Calls Try.prog 7 #[.agg #[.slice A n c], .slice B m d] w fun e w' => e = .returned (.bool true) ∧ Below w.heap.size w w' := by
  obtain ⟨W0, hW0⟩ : ∃ W0, W0 = w.alloc (.cells #[.slice A n c] 24) := ⟨_, rfl⟩
  have HB0 : Hid (Below w.heap.size w W0) := hide (by rw [hW0]; exact below_al6 (Below.refl _ _))
  have HX : Hid (BoxG W0 w.heap.size (.slice A n c)) := hide (by rw [hW0]; exact BoxG.new w _)
  have HN := hide (h.below HB0.out)
  have HL : Hid (ns.length = n) := hide h.1
  have HO := hide (hB.below HB0.out)
  have HM : Hid (l.length = m) := hide (lies_len9 hB)
  have hW0' := hW0.symm
  clear hW0 h hB
  go_enter Try.func7, Try.ntmps7
  go_wp2_with fail
  refine Calls.mono (alive12_any _) ?_
  rintro e w1 ⟨rfl, hb⟩
  have HBN := hide hb
  replace HX := hide (HX.out.kept hb)
  replace HN := hide (HN.out.below hb)
  replace HO := hide (HO.out.below hb)
  clear hb
  have c0 := HX.out.c0
  go_wp2_with fail
  refine Calls.mono (graph_size A n c ns w1 HN.out hn) ?_
  rintro e w2 ⟨r, rfl, hr0, hr1, hb⟩
  have hz : Below w1.heap.size w1 w2 := hb
  replace HBN := hide (below_nx6 HBN.out hz)
  replace HX := hide (HX.out.kept hz)
  replace HN := hide (HN.out.below hz)
  replace HO := hide (HO.out.below hz)
  clear hz
  clear hb c0
  by_cases hbig : 20000 < r
  · go_wp2_with fail
    refine Calls.mono (alive12_any _) ?_
    rintro e w3 ⟨rfl, hb⟩
    replace HBN := hide (below_nx6 HBN.out hb)
    clear hb
    go_wp2
    go_ret
    exact ⟨rfl, below_nx6 HB0.out HBN.out⟩
  have hsz := hr1 (by omega)
  have HSZ := hide hsz
  have hn2 : n ≤ 10000 := by have h1 := szN_len ns; rw [HL.out] at h1; omega
  clear hr1 hsz hr0
  by_cases hcond0 : 40 < m
  · go_wp2_with fail
    refine Calls.mono (alive12_any _) ?_
    rintro e w3 ⟨rfl, hb⟩
    replace HBN := hide (below_nx6 HBN.out hb)
    clear hb
    go_wp2
    go_ret
    exact ⟨rfl, below_nx6 HB0.out HBN.out⟩
  have hm40 : m ≤ 40 := by omega
  obtain ⟨i0, hi, hz0, hz1, hz2⟩ := info_parts Try.infoI
  have HI := hide hi
  have HZ0 := hide hz0
  have HZ1 := hide hz1
  have HZ2 := hide hz2
  clear hi hz0 hz1 hz2
  go_wp2
  go_loopw [5, 6] (fun v i wr => ∃ (k : Nat) (y : Int) (A2 : Option Addr) (c2 : Nat), k ≤ m ∧ y = (m : Int) - 1 - (k : Int) ∧ i = .int .i64 y ∧ v = .slice A2 k c2 ∧ Hid (wr.ownsRow w2.heap.size 3 1 (.slice A2 k c2) k ((l.reverse.take k).map (Value.int .i64))) ∧ Hid (Below w2.heap.size w2 wr)) (fun _ i _ => (intOf i + 1).toNat)
  case atStart => exact ⟨0, _, none, 0, Nat.zero_le _, by simp, rfl, rfl, hide (by simpa using World.ownsRow_nil _ _ _ _), hide (Below.refl _ _)⟩
  case round =>
    obtain ⟨k, y, A2, c2, hk, hy, rfl, rfl, HR, HB⟩ := hrel
    by_cases hlt : k < m
    · obtain ⟨e, he⟩ : ∃ e, m = k + 1 + e := ⟨m - (k + 1), by omega⟩
      obtain rfl : y = (e : Int) := by omega
      clear hy
      obtain ⟨bB, oB, eB, _, hx⟩ := byte_at (HO.out.below HB.out) (by omega)
      have hc1 := hx e (by omega)
      obtain ⟨o, ho⟩ : ∃ o, o = l.getD e 0 := ⟨_, rfl⟩
      rw [← ho] at hc1
      have HTK : Hid (l.reverse.take (k + 1) = l.reverse.take k ++ [o]) := hide (by
        rw [take_getD (by rw [List.length_reverse, HM.out]; exact hlt), ho]
        congr 2
        have hel : e < l.length := by rw [HM.out]; omega
        rw [List.getD, List.getD, List.getElem?_reverse (by rw [HM.out]; omega), show l.length - 1 - k = e by rw [HM.out]; omega])
      have HME : Hid (m = k + 1 + e) := hide he
      have g0 : (0 : Int) ≤ (e : Int) := by omega
      have g1 : (e : Int) < (m : Int) := by omega
      have hs1 := HB.out.size
      have HX3 : Hid ((wr.alloc (.cells #[.int .i64 o] 3)).cell? ⟨wr.heap.size, 0, none⟩ = some (.int .i64 o)) := hide (by have h := cells_new wr [.int .i64 o] 3 0 _ rfl; rwa [Addr.add_lit] at h)
      have hkm : k < 1000000 := by omega
      subst eB
      clear hx ho he
      go_wp2_with (at_builtin; refine wpList_append_one rfl (.tmp 36) (.tmp 41) 27 rfl 3 i0 (.int .i64 0) 8 Try.underlying27 HI.out HZ0.out HZ1.out HZ2.out rfl w2.heap.size A2 k c2 ((l.reverse.take k).map (Value.int .i64)) rfl (HR.out.alloc _) (Nat.le_trans hs1 (by simp)) ⟨wr.heap.size, 0, none⟩ (.int .i64 o) rfl HX3.out rfl (by omega) (by unfold maxLen; omega) ?_)
      intro A3 c3 w3 ho3 hm3
      have HR3 : Hid (w3.ownsRow w2.heap.size 3 1 (.slice A3 (k + 1) c3) (k + 1) ((l.reverse.take (k + 1)).map (Value.int .i64))) := hide (by
        rw [HTK.out, List.map_append]
        simpa [List.map_take] using ho3)
      have HB3 := hide (below_moved (HB.out.alloc hs1 (.cells #[.int .i64 o] 3)) (Nat.le_trans hs1 (by simp)) (HR.out.alloc _) hm3)
      clear ho3 hm3 HR HB HX3 hc1
      go_wp2
      go_roundw
      case rel => exact ⟨k + 1, _, A3, c3, by omega, by have := HME.out; omega, rfl, rfl, HR3, HB3⟩
      case measure => simp [intOf] <;> omega
    · obtain rfl : k = m := by omega
      obtain rfl : y = -1 := by omega
      have hr := HR.out
      rw [List.take_of_length_le (by rw [List.length_reverse, HM.out]; exact Nat.le_refl _)] at hr
      have HRV := hide (lies_of_own hr)
      have hcap := own_cap12 hr
      clear hr HR hy
      have hz : Below w2.heap.size w2 wr := HB.out
      replace HBN := hide (below_nx6 HBN.out hz)
      replace HX := hide (HX.out.kept hz)
      replace HN := hide (HN.out.below hz)
      replace HO := hide (HO.out.below hz)
      clear hz
      clear HB
      cases hord : ordB ns l with
      | false =>
        have hordr : ordB ns l.reverse = false := by rw [ordB_rev]; exact hord
        have cx := HX.out.c0
        have HCON := hide (uses12_no A B n c k d ns l _ HN.out (by omega) hc HO.out (by omega) (by omega) hord)
        go_wp2_with fail
        refine Calls.mono HCON.out ?_
        rintro e x1 ⟨rfl, hb⟩
        have hz : Below wr.heap.size wr x1 := hb
        replace HBN := hide (below_nx6 HBN.out hz)
        replace HX := hide (HX.out.kept hz)
        replace HN := hide (HN.out.below hz)
        replace HO := hide (HO.out.below hz)
        replace HRV := hide (HRV.out.below hz)
        clear hz
        clear hb
        clear cx HCON
        have cx := HX.out.c0
        have HCON := hide (uses12_no A A2 n c k c2 ns l.reverse _ HN.out (by omega) hc HRV.out (by omega) (by omega) hordr)
        go_wp2_with fail
        refine Calls.mono HCON.out ?_
        rintro e x2 ⟨rfl, hb⟩
        have hz : Below x1.heap.size x1 x2 := hb
        replace HBN := hide (below_nx6 HBN.out hz)
        replace HX := hide (HX.out.kept hz)
        replace HN := hide (HN.out.below hz)
        replace HO := hide (HO.out.below hz)
        replace HRV := hide (HRV.out.below hz)
        clear hz
        clear hb
        clear cx HCON
        have cx := HX.out.c0
        have HCON := hide (next12_no A B n c k d ns l (-1) _ HN.out (by omega) hc HO.out (by omega) (by omega) (fun h => by rw [hord] at h; cases h.1))
        go_wp2_with fail
        refine Calls.mono HCON.out ?_
        rintro e x3 ⟨rfl, hb⟩
        have hz : Below x2.heap.size x2 x3 := hb
        replace HBN := hide (below_nx6 HBN.out hz)
        replace HX := hide (HX.out.kept hz)
        replace HN := hide (HN.out.below hz)
        replace HO := hide (HO.out.below hz)
        replace HRV := hide (HRV.out.below hz)
        clear hz
        clear hb
        clear cx HCON
        have cx := HX.out.c0
        have HCON := hide (next12_no A A2 n c k c2 ns l.reverse (-1) _ HN.out (by omega) hc HRV.out (by omega) (by omega) (fun h => by rw [hordr] at h; cases h.1))
        go_wp2_with fail
        refine Calls.mono HCON.out ?_
        rintro e x4 ⟨rfl, hb⟩
        have hz : Below x3.heap.size x3 x4 := hb
        replace HBN := hide (below_nx6 HBN.out hz)
        replace HX := hide (HX.out.kept hz)
        replace HN := hide (HN.out.below hz)
        replace HO := hide (HO.out.below hz)
        replace HRV := hide (HRV.out.below hz)
        clear hz
        clear hb
        clear cx HCON
        go_wp2
        go_ret
        exact ⟨rfl, below_nx6 HB0.out HBN.out⟩
      | true =>
      have hordr : ordB ns l.reverse = true := by rw [ordB_rev]; exact hord
      have HORD := hide (ordB_parts.1 hord)
      have HN1 : Hid (1 ≤ n ∧ n ≤ 32) := hide (by have h := gphB_n (ordB_parts.1 hord).1; rw [HL.out] at h; exact h)
      have cx := HX.out.c0
      have HCON := hide (uses12_ok A B n c k d ns l _ HN.out (by omega) hc HO.out (by omega) (by omega) hord)
      go_wp2_with fail
      refine Calls.mono HCON.out ?_
      rintro e x1 ⟨ga, rfl, ha⟩
      have HRa := hide (ha.lies2 (n := n) (by rw [usL_len]; exact HL.out))
      have hz : Below wr.heap.size wr x1 := ha.1
      replace HBN := hide (below_nx6 HBN.out hz)
      replace HX := hide (HX.out.kept hz)
      replace HN := hide (HN.out.below hz)
      replace HO := hide (HO.out.below hz)
      replace HRV := hide (HRV.out.below hz)
      clear hz
      clear ha
      clear cx HCON
      have cx := HX.out.c0
      have HCON := hide (uses12_ok A A2 n c k c2 ns l.reverse _ HN.out (by omega) hc HRV.out (by omega) (by omega) hordr)
      go_wp2_with fail
      refine Calls.mono HCON.out ?_
      rintro e x2 ⟨gb, rfl, hb⟩
      have HRb := hide (hb.lies2 (n := n) (by rw [usL_len]; exact HL.out))
      have hz : Below x1.heap.size x1 x2 := hb.1
      replace HBN := hide (below_nx6 HBN.out hz)
      replace HX := hide (HX.out.kept hz)
      replace HN := hide (HN.out.below hz)
      replace HO := hide (HO.out.below hz)
      replace HRV := hide (HRV.out.below hz)
      replace HRa := hide (HRa.out.below hz)
      clear hz
      clear hb
      clear cx HCON
      have cx := HX.out.c0
      have HCON := hide (next12_ok A B n c k d 0 ns l (-1) _ HN.out (by omega) hc HO.out (by omega) (by omega) hord (by omega) (by omega))
      go_wp2_with fail
      refine Calls.mono HCON.out ?_
      rintro e x3 ⟨gx, rfl, hx⟩
      have HRx := hide (hx.lies2 (n := n) (by rw [nxL_len _ _ (by rw [HL.out]; exact HN1.out.1)]; exact HL.out))
      have hz : Below x2.heap.size x2 x3 := hx.1
      replace HBN := hide (below_nx6 HBN.out hz)
      replace HX := hide (HX.out.kept hz)
      replace HN := hide (HN.out.below hz)
      replace HO := hide (HO.out.below hz)
      replace HRV := hide (HRV.out.below hz)
      replace HRa := hide (HRa.out.below hz)
      replace HRb := hide (HRb.out.below hz)
      clear hz
      clear hx
      clear cx HCON
      have cx := HX.out.c0
      have HCON := hide (next12_ok A A2 n c k c2 0 ns l.reverse (-1) _ HN.out (by omega) hc HRV.out (by omega) (by omega) hordr (by omega) (by omega))
      go_wp2_with fail
      refine Calls.mono HCON.out ?_
      rintro e x4 ⟨gy, rfl, hy⟩
      have HRy := hide (hy.lies2 (n := n) (by rw [nxL_len _ _ (by rw [HL.out]; exact HN1.out.1)]; exact HL.out))
      have hz : Below x3.heap.size x3 x4 := hy.1
      replace HBN := hide (below_nx6 HBN.out hz)
      replace HX := hide (HX.out.kept hz)
      replace HN := hide (HN.out.below hz)
      replace HO := hide (HO.out.below hz)
      replace HRV := hide (HRV.out.below hz)
      replace HRa := hide (HRa.out.below hz)
      replace HRb := hide (HRb.out.below hz)
      replace HRx := hide (HRx.out.below hz)
      clear hz
      clear hy
      clear cx HCON
      have heq : usL ns l = usL ns l.reverse := by
        unfold usL
        apply List.map_congr_left
        intro t _
        rw [usF_rev]
      have cx := HX.out.c0
      have HCON := hide (sameI_any (some ⟨ga, 0, none⟩) (some ⟨gb, 0, none⟩) n n n n (usL ns l) (usL ns l.reverse) _ HRa.out HRb.out (by omega))
      go_wp2_with fail
      refine Calls.mono HCON.out ?_
      rintro e x5 ⟨he, hb⟩
      rw [decide_eq_true heq] at he
      subst he
      have hz : Below x4.heap.size x4 x5 := hb
      replace HBN := hide (below_nx6 HBN.out hz)
      replace HX := hide (HX.out.kept hz)
      replace HN := hide (HN.out.below hz)
      replace HO := hide (HO.out.below hz)
      replace HRV := hide (HRV.out.below hz)
      replace HRa := hide (HRa.out.below hz)
      replace HRb := hide (HRb.out.below hz)
      replace HRx := hide (HRx.out.below hz)
      replace HRy := hide (HRy.out.below hz)
      clear hz
      clear hb heq
      clear cx HCON
      have hn1 : 1 ≤ n := HN1.out.1
      have hn32 : n ≤ 32 := HN1.out.2
      go_wp2
      go_loopw [15] (fun v wr => ∃ j : Nat, j ≤ n - 1 ∧ v = .int .i64 j ∧ Hid (Below x5.heap.size x5 wr)) (fun v _ => n - 1 - (intOf v).toNat)
      case atStart => exact ⟨0, Nat.zero_le _, rfl, hide (Below.refl _ _)⟩
      case round =>
        obtain ⟨j, hj, rfl, HB⟩ := hrel
        by_cases hlt : j < n - 1
        · have j0 : (0 : Int) ≤ (j : Int) := by omega
          have j1 : (j : Int) < (n : Int) - 1 := by omega
          have j2 : (j : Int) < (n : Int) := by omega
          obtain ⟨_, _, ex, _, hx⟩ := byte_at (HRx.out.below HB.out) (by omega)
          cases ex
          obtain ⟨_, _, ey, _, hy⟩ := byte_at (HRy.out.below HB.out) (by omega)
          cases ey
          obtain ⟨_, _, ea, _, ha⟩ := byte_at (HRa.out.below HB.out) (by omega)
          cases ea
          have cx := hx j (by omega)
          have cy := hy j (by omega)
          have ca := ha j (by omega)
          rw [nxL_getD (by rw [HL.out]; exact hlt), Nat.zero_add] at cx cy
          rw [usL_getD (by rw [HL.out]; omega), Nat.zero_add] at ca
          rw [List.drop_zero] at cx cy
          have k1 := usF_nx ns l 0 j
          have k2 := usF_nx ns l.reverse 0 j
          rw [usF_rev] at k2
          have k3 := nx_rev ns l j
          rw [HM.out] at k3
          have k4 := nxF_range ns l 0 j
          have k5 := nxF_range ns l.reverse 0 j
          rw [List.length_reverse] at k5
          rw [HM.out] at k4 k5
          obtain ⟨X, hX⟩ : ∃ X, X = nxF ns l 0 j := ⟨_, rfl⟩
          obtain ⟨Y, hY⟩ : ∃ Y, Y = nxF ns l.reverse 0 j := ⟨_, rfl⟩
          obtain ⟨Z, hZ⟩ : ∃ Z, Z = usF ns l j := ⟨_, rfl⟩
          rw [← hX] at cx k1 k3 k4
          rw [← hY] at cy k2 k3 k5
          rw [← hZ] at ca k1 k2 k3
          clear hx hy ha hX hY hZ
          by_cases hX0 : X < 0
          · have hY0 : Y < 0 := by omega
            have hZ0 : ((Z : Int) == 1) = false := by simp; omega
            clear k1 k2 k3 k4 k5
            go_wp2
            go_quiet (fail)
            go_wp2
            go_roundw
            case rel => exact ⟨j + 1, by omega, by go_num, hide (below_drewN HB.out _)⟩
            case measure => simp [intOf] <;> omega
          · have hY0 : ¬ Y < 0 := by omega
            have dX := decide_eq_false hX0
            have dY := decide_eq_false hY0
            by_cases hZ1 : Z = 1
            · have hZ0 : ((Z : Int) == 1) = true := by simp; omega
              have hs := k3 hZ1
              have hs2 : IntKind.i64.wrap (X + Y) = (k : Int) - 1 := by rw [IntKind.wrap_i64]; omega
              have hs3 : X + Y = (k : Int) - 1 := hs
              clear k1 k2 k3 k4 k5 hZ1 hs hX0 hY0
              go_wp2
              go_quiet (fail)
              go_wp2
              go_roundw
              case rel => exact ⟨j + 1, by omega, by go_num, hide (below_drewN HB.out _)⟩
              case measure => simp [intOf] <;> omega
            · have hZ0 : ((Z : Int) == 1) = false := by simp; omega
              clear k1 k2 k3 k4 k5 hZ1 hX0 hY0
              go_wp2
              go_quiet (fail)
              go_wp2
              go_roundw
              case rel => exact ⟨j + 1, by omega, by go_num, hide (below_drewN HB.out _)⟩
              case measure => simp [intOf] <;> omega
        · obtain rfl : j = n - 1 := by omega
          have j1 : ¬ ((n - 1 : Nat) : Int) < (n : Int) - 1 := by omega
          go_wp2
          go_ret
          exact ⟨rfl, below_nx6 HB0.out (below_nx6 HBN.out HB.out)⟩

end

end Go.Proofs.Yteagmlaahnpkhaa
