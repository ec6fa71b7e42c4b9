/- MathsRelu: for every tensor the walk of its Go text ends in true. -/
import Derived.Test.YthdicobagmhpcaaMl6
import Derived.Deep.QuietTactic
import Derived.BigQuiet
namespace Go.Proofs.Ythdicobagmhpcaa
open Go.RowKit
set_option linter.unusedVariables false
set_option linter.unusedSimpArgs false
set_option maxRecDepth 100000
def neg32 (x : Int) : Int := wrap32 (-x)
theorem relu32_nn (x : Int) : 0 ≤ relu32 x := by unfold relu32; split <;> omega
theorem relu_twice (l : List Int) : List.map relu32 (List.map relu32 l) = List.map relu32 l := by
  rw [List.map_map]
  apply List.map_congr_left
  intro x _
  show relu32 (relu32 x) = relu32 x
  have := relu32_nn x
  rw [relu32, if_neg (by omega)]
theorem relu_sub {x : Int} (hx : -2147483648 ≤ x ∧ x < 2147483648) (hm : ¬ x = -2147483648) : wrap32 (relu32 x - relu32 (neg32 x)) = x := by
  have h1 : neg32 x = -x := by unfold neg32 wrap32; omega
  rw [h1]
  unfold relu32
  by_cases h : x < 0
  · rw [if_pos h, if_neg (by omega)]; unfold wrap32; omega
  · rw [if_neg h]
    by_cases h2 : -x < 0
    · rw [if_pos h2]; unfold wrap32; omega
    · rw [if_neg h2]; unfold wrap32; omega

set_option maxHeartbeats 4000000 in
theorem relu6_any (A B : Option Addr) (n c m d : Nat) (s l : List Int) (w : World) (hA : Lies w A n (s.map (Value.int .i64))) (hB : Lies w B m (l.map (Value.int .i32))) (wl : ∀ z ∈ l, -2147483648 ≤ z ∧ z < 2147483648) (hn : n ≤ 70368744177664) (hm : m ≤ 70368744177664) :
    Calls Try.prog 5 #[tenV A n c B m d] w fun e w' => e = .returned (.bool true) ∧ Below w.heap.size w w' := by
  obtain ⟨W0, hW0⟩ : ∃ W0, W0 = w.alloc (.cells #[.slice A n c, .slice B m d] 25) := ⟨_, rfl⟩
  have HBW : Hid (Below w.heap.size w W0) := hide (by rw [hW0]; exact (Below.refl w.heap.size w).alloc (Nat.le_refl _) _)
  have HT_t : Hid (TenAt W0 w.heap.size A B n c m d s l) := hide (by rw [hW0]; exact ⟨BoxT.new w _ _, hA.alloc _, hB.alloc _⟩)
  have HL : Hid (l.length = m) := hide (by have := hB.len; simpa using this)
  have hslen : s.length = n := by have := hA.len; simpa using this
  have HWL := hide wl
  have hW0' := hW0.symm
  clear hW0 hA hB wl
  have ht0 := tsz_nn6 n m
  have ht1 := tsz_hi6 hn hm
  go_enter Try.func5, Try.ntmps5
  go_wp2_with fail
  refine Calls.mono (alive6_any _) ?_
  rintro e u1 ⟨rfl, hb⟩
  replace HT_t := hide (HT_t.out.kept hb)
  replace HBW := hide (HBW.out.trans (hb.mono HBW.out.size))
  clear hb
  have cxt0 := HT_t.out.c0
  have cxt1 := HT_t.out.c1
  go_wp2_with fail
  refine Calls.mono (tsize_any A B n c m d _ (by omega) (by omega)) ?_
  rintro e u2 ⟨rfl, hb⟩
  replace HT_t := hide (HT_t.out.kept hb)
  replace HBW := hide (HBW.out.trans (hb.mono HBW.out.size))
  clear cxt0 cxt1 hb
  by_cases hfar : 1048576 < tsz n m
  · go_wp2_with fail
    refine Calls.mono (beyond_yes (some ⟨u2.heap.size, 0, none⟩) 1 1 [(tsz n m : Int)] _ (lies_lit u2 .i64 [(tsz n m : Int)] 3) (by intro z hz; simp at hz; omega) (by simp; omega) (by omega)) ?_
    rintro e u3 ⟨rfl, hw3⟩
    have hb : Below u2.heap.size u2 u3 := by rw [← hw3]; exact below_al6 (Below.refl _ _)
    replace HT_t := hide (HT_t.out.kept hb)
    replace HBW := hide (HBW.out.trans (hb.mono HBW.out.size))
    clear hb hw3
    go_wp2_with fail
    refine Calls.mono (alive6_any _) ?_
    rintro e u4 ⟨rfl, hb⟩
    replace HT_t := hide (HT_t.out.kept hb)
    replace HBW := hide (HBW.out.trans (hb.mono HBW.out.size))
    clear hb
    go_wp2
    go_ret
    exact ⟨rfl, HBW.out⟩
  · go_wp2_with fail
    refine Calls.mono (beyond_no (some ⟨u2.heap.size, 0, none⟩) 1 1 [(tsz n m : Int)] _ (lies_lit u2 .i64 [(tsz n m : Int)] 3) (by intro z hz; simp at hz; omega) (by simp; omega) (by omega)) ?_
    rintro e u5 ⟨rfl, hw3⟩
    have hb : Below u2.heap.size u2 u5 := by rw [← hw3]; exact below_al6 (Below.refl _ _)
    replace HT_t := hide (HT_t.out.kept hb)
    replace HBW := hide (HBW.out.trans (hb.mono HBW.out.size))
    clear hb hw3
    have cxt0 := HT_t.out.c0
    have cxt1 := HT_t.out.c1
    go_wp2_with fail
    refine Calls.mono (tcheck_any A B n c m d s _ HT_t.out.S (by omega)) ?_
    rintro e u6 ⟨rfl, hb⟩
    replace HT_t := hide (HT_t.out.kept hb)
    replace HBW := hide (HBW.out.trans (hb.mono HBW.out.size))
    clear cxt0 cxt1 hb
    by_cases hok : tenOk s m = true
    rotate_left
    · rw [show tenOk s m = false by simpa using hok]
      go_wp2_with fail
      refine Calls.mono (alive6_any _) ?_
      rintro e u7 ⟨rfl, hb⟩
      replace HT_t := hide (HT_t.out.kept hb)
      replace HBW := hide (HBW.out.trans (hb.mono HBW.out.size))
      clear hb
      go_wp2
      go_ret
      exact ⟨rfl, HBW.out⟩
    rw [hok]
    obtain ⟨q1, q2⟩ := tenOk_iff.1 hok
    obtain ⟨hn1, hn4, _⟩ := sizeI_pos q1
    rw [hslen] at hn1 hn4
    have hm4 : m ≤ 4096 := by have := sizeI_le s; omega
    have hmp : 0 < m := by omega
    have HOK := hide hok
    have HQ := hide q2
    clear hok q1 q2 ht0 ht1
    have HA_t := HT_t
    have HBA := hide (Below.refl u6.heap.size u6)
    have hsA := HBW.out.size
    have cxt0 := HT_t.out.c0
    have cxt1 := HT_t.out.c1
    go_wp2_with fail
    refine Calls.mono (twinT_any A B n c m d s l _ HT_t.out.S HT_t.out.L (by omega) (by omega)) ?_
    rintro e u8 ⟨g1p, g2p, rfl, ho1, ho2, hnep, hb0⟩
    have hlo1p := ho1.lt g1p rfl
    have hlo2p := ho2.lt g2p rfl
    obtain ⟨V9, hV9⟩ : ∃ W, W = u8.alloc (.cells #[.slice (some ⟨g1p, 0, none⟩) n (n + 1), .slice (some ⟨g2p, 0, none⟩) m (m + 1)] 25) := ⟨_, rfl⟩
    have hb : Below u6.heap.size u6 V9 := by rw [hV9]; exact below_al6 hb0
    have HBX_p : Hid (BoxT V9 u8.heap.size (.slice (some ⟨g1p, 0, none⟩) n (n + 1)) (.slice (some ⟨g2p, 0, none⟩) m (m + 1))) := hide (by rw [hV9]; exact BoxT.new u8 _ _)
    have HSH_p : Hid (Lies V9 (some ⟨g1p, 0, none⟩) n (s.map (Value.int .i64))) := hide (by rw [hV9]; exact (lies_of_own (own_part ho1 (by simp [hslen]) (by omega))).alloc _)
    have hsVp : V9.heap.size = u8.heap.size + 1 := by rw [hV9]; simp
    obtain ⟨P1, hP1⟩ : ∃ P1 : List Int, P1 = l.map neg32 := ⟨_, rfl⟩
    have HL1 : Hid (P1.length = m) := hide (by rw [hP1]; simp [HL.out])
    have HG1 : Hid (∀ k, k < m → P1.getD k 0 = neg32 (l.getD k 0)) := hide (by intro k hk; rw [hP1]; simp [List.getD, List.getElem?_map, show k < l.length by rw [HL.out]; exact hk])
    have HR_P1 := hide hP1
    clear hP1
    have HM_p : Hid (MixAt V9 g2p P1 l 0) := hide (by rw [hV9]; exact MixAt.of_own (ho2.alloc _) _)
    replace HT_t := hide (HT_t.out.kept hb)
    replace HBA := hide (below_nx6 HBA.out hb)
    replace HBW := hide (HBW.out.trans (hb.mono HBW.out.size))
    have hV9' := hV9.symm
    clear cxt0 cxt1 hV9 hb hb0 ho1 ho2
    have hgp := HM_p.out.lt
    have hxp := HBX_p.out.lt
    have hlt_t := HT_t.out.1.lt
    go_wp2
    go_loopw [4] (fun i wr => ∃ k : Nat, k ≤ m ∧ i = .int .i64 k ∧ Hid (MixAt wr g2p P1 l k) ∧ Hid (wr.heap.size = V9.heap.size ∧ wr.os = V9.os ∧ wr.tape = V9.tape ∧ wr.output = V9.output ∧ ∀ j, j ≠ g2p → wr.heap[j]? = V9.heap[j]?)) (fun i _ => m - (intOf i).toNat)
    case atStart => exact ⟨0, Nat.zero_le _, rfl, HM_p, hide ⟨rfl, rfl, rfl, rfl, fun _ _ => rfl⟩⟩
    case round =>
      obtain ⟨k, hk, rfl, HP, HG⟩ := hrel
      have HXP : Hid (BoxT wr u8.heap.size (.slice (some ⟨g1p, 0, none⟩) n (n + 1)) (.slice (some ⟨g2p, 0, none⟩) m (m + 1))) := hide ((HG.out.2.2.2.2 _ (by omega)).trans HBX_p.out)
      have x1 := HXP.out.c1
      by_cases hlt : k < m
      · have h0 : (0 : Int) ≤ (k : Int) := by omega
        have h3 : (k : Int) < (m : Int) := by omega
        obtain ⟨x, hx⟩ : ∃ x, x = l.getD k 0 := ⟨_, rfl⟩
        have hpc := HP.out.cell HL1.out HL.out hlt
        rw [← hx] at hpc
        have HX := hide hx
        clear hx
        have hpf := HP.out.frozen k
        obtain ⟨v, hv⟩ : ∃ v, v = wrap32 (-x) := ⟨_, rfl⟩
        have HV : Hid (v = P1.getD k 0) := hide (by rw [hv, HG1.out k hlt, ← HX.out]; rfl)
        have hv' := hv.symm
        clear hv
        have HNP : Hid (MixAt (wr.setCell ⟨g2p, k, none⟩ (.int .i32 v)).drew g2p P1 l (k + 1)) := hide (by
          have h := HP.out.set HL1.out HL.out hlt
          rw [← HV.out] at h
          exact h)
        have HNG : Hid ((wr.setCell ⟨g2p, k, none⟩ (.int .i32 v)).drew.heap.size = V9.heap.size ∧ (wr.setCell ⟨g2p, k, none⟩ (.int .i32 v)).drew.os = V9.os ∧ (wr.setCell ⟨g2p, k, none⟩ (.int .i32 v)).drew.tape = V9.tape ∧ (wr.setCell ⟨g2p, k, none⟩ (.int .i32 v)).drew.output = V9.output ∧ ∀ j, j ≠ g2p → (wr.setCell ⟨g2p, k, none⟩ (.int .i32 v)).drew.heap[j]? = V9.heap[j]?) := hide
          ⟨by simp [HG.out.1], HG.out.2.1, HG.out.2.2.1, HG.out.2.2.2.1, fun j h1 => (Below.heap_setCell _ _ _ _ (by dsimp only; omega)).trans (HG.out.2.2.2.2 j h1)⟩
        go_wp2
        go_region
        (try rw [hv'])
        go_wp2
        go_roundw
        case rel => exact ⟨k + 1, by omega, by go_num, HNP, HNG⟩
        case measure => simp [intOf]; omega
      · obtain rfl : m = k := by omega
        have hb : Below u6.heap.size V9 wr := ⟨HG.out.2.1, HG.out.2.2.1, HG.out.2.2.2.1, by rw [HG.out.1]; exact Nat.le_refl _, fun j hj => HG.out.2.2.2.2 j (by omega)⟩
        replace HBW := hide (HBW.out.trans (hb.mono hsA))
        replace HBA := hide (HBA.out.trans hb)
        replace HT_t := hide (HA_t.out.kept HBA.out)
        have HT_p : Hid (TenAt wr u8.heap.size (some ⟨g1p, 0, none⟩) (some ⟨g2p, 0, none⟩) n (n + 1) m (m + 1) s P1) := hide ⟨HXP.out, HSH_p.out.keep (by rw [HG.out.1]; exact Nat.le_refl _) (fun b o e hlt j => by cases e; exact World.cell?_of_block (HG.out.2.2.2.2 _ (by dsimp only; omega))), HP.out.lies HL1.out HL.out⟩
        clear hb
        obtain ⟨La, hLa⟩ : ∃ La : List Int, La = List.map relu32 l := ⟨_, rfl⟩
        have HDa : Hid (∀ k, k < m → La.getD k 0 = relu32 (l.getD k 0)) := hide (by intro k hk; rw [hLa]; simp [List.getD, List.getElem?_map, List.getElem?_eq_getElem (show k < l.length by rw [HL.out]; exact hk)])
        have HR_La := hide hLa
        clear hLa
        obtain ⟨Lb, hLb⟩ : ∃ Lb : List Int, Lb = List.map relu32 P1 := ⟨_, rfl⟩
        have HDb : Hid (∀ k, k < m → Lb.getD k 0 = relu32 (P1.getD k 0)) := hide (by intro k hk; rw [hLb]; simp [List.getD, List.getElem?_map, List.getElem?_eq_getElem (show k < P1.length by rw [HL1.out]; exact hk)])
        have HR_Lb := hide hLb
        clear hLb
        obtain ⟨Lc, hLc⟩ : ∃ Lc : List Int, Lc = List.map relu32 La := ⟨_, rfl⟩
        have HEc : Hid (Lc = La) := hide (by rw [hLc, HR_La.out]; exact relu_twice l)
        have HR_Lc := hide hLc
        clear hLc
        have cxt0 := HT_t.out.c0
        have cxt1 := HT_t.out.c1
        go_wp2_with fail
        refine Calls.mono (relu_ok A B n c m d s l _ HT_t.out.S HT_t.out.L HOK.out) ?_
        rw [← HR_La.out]
        rintro e u10 ⟨g1a, c1a, g2a, rfl, ho1, ho2, _, hb0⟩
        obtain ⟨V11, hV11⟩ : ∃ W, W = u10.alloc (.cells #[.slice (some ⟨g1a, 0, none⟩) n c1a, .slice (some ⟨g2a, 0, none⟩) m m] 25) := ⟨_, rfl⟩
        have HT_a : Hid (TenAt V11 u10.heap.size (some ⟨g1a, 0, none⟩) (some ⟨g2a, 0, none⟩) n c1a m m s La) := hide (by rw [hV11]; exact TenAt.made ho1 ho2)
        have hb : Below wr.heap.size wr V11 := by rw [hV11]; exact below_al6 hb0
        replace HT_t := hide (HT_t.out.kept hb)
        replace HT_p := hide (HT_p.out.kept hb)
        replace HBW := hide (HBW.out.trans (hb.mono HBW.out.size))
        have hV11' := hV11.symm
        clear cxt0 cxt1 hV11 hb hb0 ho1 ho2
        have hlt_a := HT_a.out.1.lt
        have cxp0 := HT_p.out.c0
        have cxp1 := HT_p.out.c1
        go_wp2_with fail
        refine Calls.mono (relu_ok (some ⟨g1p, 0, none⟩) (some ⟨g2p, 0, none⟩) n (n + 1) m (m + 1) s P1 _ HT_p.out.S HT_p.out.L HOK.out) ?_
        rw [← HR_Lb.out]
        rintro e u12 ⟨g1b, c1b, g2b, rfl, ho1, ho2, _, hb0⟩
        obtain ⟨V13, hV13⟩ : ∃ W, W = u12.alloc (.cells #[.slice (some ⟨g1b, 0, none⟩) n c1b, .slice (some ⟨g2b, 0, none⟩) m m] 25) := ⟨_, rfl⟩
        have HT_b : Hid (TenAt V13 u12.heap.size (some ⟨g1b, 0, none⟩) (some ⟨g2b, 0, none⟩) n c1b m m s Lb) := hide (by rw [hV13]; exact TenAt.made ho1 ho2)
        have hb : Below V11.heap.size V11 V13 := by rw [hV13]; exact below_al6 hb0
        replace HT_t := hide (HT_t.out.kept hb)
        replace HT_p := hide (HT_p.out.kept hb)
        replace HT_a := hide (HT_a.out.kept hb)
        replace HBW := hide (HBW.out.trans (hb.mono HBW.out.size))
        have hV13' := hV13.symm
        clear cxp0 cxp1 hV13 hb hb0 ho1 ho2
        have hlt_b := HT_b.out.1.lt
        have cxa0 := HT_a.out.c0
        have cxa1 := HT_a.out.c1
        go_wp2_with fail
        refine Calls.mono (relu_ok (some ⟨g1a, 0, none⟩) (some ⟨g2a, 0, none⟩) n c1a m m s La _ HT_a.out.S HT_a.out.L HOK.out) ?_
        rw [← HR_Lc.out]
        rintro e u14 ⟨g1c, c1c, g2c, rfl, ho1, ho2, _, hb0⟩
        obtain ⟨V15, hV15⟩ : ∃ W, W = u14.alloc (.cells #[.slice (some ⟨g1c, 0, none⟩) n c1c, .slice (some ⟨g2c, 0, none⟩) m m] 25) := ⟨_, rfl⟩
        have HT_c : Hid (TenAt V15 u14.heap.size (some ⟨g1c, 0, none⟩) (some ⟨g2c, 0, none⟩) n c1c m m s Lc) := hide (by rw [hV15]; exact TenAt.made ho1 ho2)
        have hb : Below V13.heap.size V13 V15 := by rw [hV15]; exact below_al6 hb0
        replace HT_t := hide (HT_t.out.kept hb)
        replace HT_p := hide (HT_p.out.kept hb)
        replace HT_a := hide (HT_a.out.kept hb)
        replace HT_b := hide (HT_b.out.kept hb)
        replace HBW := hide (HBW.out.trans (hb.mono HBW.out.size))
        have hV15' := hV15.symm
        clear cxa0 cxa1 hV15 hb hb0 ho1 ho2
        have hlt_c := HT_c.out.1.lt
        have cxa0 := HT_a.out.c0
        have cxa1 := HT_a.out.c1
        have cxc0 := HT_c.out.c0
        have cxc1 := HT_c.out.c1
        go_wp2_with fail
        refine Calls.mono (tsame_any (some ⟨g1a, 0, none⟩) (some ⟨g2a, 0, none⟩) (some ⟨g1c, 0, none⟩) (some ⟨g2c, 0, none⟩) n c1a m m n c1c m m s La s Lc _ HT_a.out.S HT_a.out.L HT_c.out.S HT_c.out.L (by omega) (by omega)) ?_
        rw [show decide (s = s ∧ La = Lc) = true from decide_eq_true ⟨rfl, HEc.out.symm⟩]
        rintro e u16 ⟨rfl, hb⟩
        replace HT_t := hide (HT_t.out.kept hb)
        replace HT_p := hide (HT_p.out.kept hb)
        replace HT_a := hide (HT_a.out.kept hb)
        replace HT_b := hide (HT_b.out.kept hb)
        replace HT_c := hide (HT_c.out.kept hb)
        replace HBW := hide (HBW.out.trans (hb.mono HBW.out.size))
        clear cxa0 cxa1 cxc0 cxc1 hb
        have cxa0 := HT_a.out.c0
        have cxa1 := HT_a.out.c1
        have cxb0 := HT_b.out.c0
        have cxb1 := HT_b.out.c1
        have cxt0 := HT_t.out.c0
        have cxt1 := HT_t.out.c1
        go_wp2
        go_loopw [11] (fun i wr => ∃ k : Nat, k ≤ m ∧ i = .int .i64 k ∧ ∃ j, wr = u16.drewN j) (fun i _ => m - (intOf i).toNat)
        case atStart => exact ⟨0, Nat.zero_le _, rfl, 0, rfl⟩
        case round =>
          obtain ⟨k, hk, rfl, j, rfl⟩ := hrel
          by_cases hlt : k < m
          · have h0 : (0 : Int) ≤ (k : Int) := by omega
            have h3 : (k : Int) < (m : Int) := by omega
            obtain ⟨b, o, rfl, _, hy⟩ := byte_at HT_t.out.L (by omega)
            obtain ⟨ba, oa, ea, _, hya⟩ := byte_at HT_a.out.L (by omega)
            cases ea
            obtain ⟨bb, ob, eb, _, hyb⟩ := byte_at HT_b.out.L (by omega)
            cases eb
            have ct := hy k hlt
            have ca := hya k hlt
            have cb := hyb k hlt
            rw [Nat.zero_add, HDa.out k hlt] at ca
            rw [Nat.zero_add, HDb.out k hlt, HG1.out k hlt] at cb
            have hx := HWL.out (l.getD k 0) (by
              have hkl : k < l.length := by rw [HL.out]; exact hlt
              simp [List.getD, hkl])
            obtain ⟨x, hxe⟩ : ∃ x, x = l.getD k 0 := ⟨_, rfl⟩
            rw [← hxe] at ct ca cb hx
            clear hy hya hyb hxe
            by_cases hmin : x = -2147483648
            · subst hmin
              rw [show relu32 (-2147483648) = 0 by decide] at ca
              rw [show relu32 (neg32 (-2147483648)) = 0 by decide +kernel] at cb
              clear hx
              go_wp2
              go_quiet (fail)
              go_wp2
              go_roundw
              case rel => exact ⟨k + 1, by omega, by go_num, _, rfl⟩
              case measure => simp [intOf]; omega
            · have hs := relu_sub hx hmin
              have hn0 := relu32_nn x
              obtain ⟨ai, hai⟩ : ∃ ai, ai = relu32 x := ⟨_, rfl⟩
              obtain ⟨bi, hbi⟩ : ∃ bi, bi = relu32 (neg32 x) := ⟨_, rfl⟩
              rw [← hai] at hs hn0 ca
              rw [← hbi] at hs cb
              have hb1 : (IntKind.i32.wrap (ai - bi) != x) = false := by rw [IntWalk.i32_left, hs]; simp
              clear hai hbi hx
              go_wp2
              go_quiet (fail)
              go_wp2
              go_roundw
              case rel => exact ⟨k + 1, by omega, by go_num, _, rfl⟩
              case measure => simp [intOf]; omega
          · have HBF : Hid (Below w.heap.size w (u16.drewN j)) := hide (below_drewN HBW.out j)
            go_wp2
            go_ret
            exact ⟨rfl, HBF.out⟩
end Go.Proofs.Ythdicobagmhpcaa
