/- MathsBack: for every tensor and every number of bits the walk of its Go text ends in true. -/
import Derived.Test.YthdicobagmhpcaaMl6
namespace Go.Proofs.Ythdicobagmhpcaa
open Go.RowKit
set_option linter.unusedVariables false
set_option linter.unusedSimpArgs false
set_option maxRecDepth 100000
/-- Eight bits of a number, with their sign. -/
def small32 (x : Int) : Int := wrap32 (IntKind.i8.wrap x)
theorem small32_eq (x : Int) : small32 x = (x + 128) % 256 - 128 := by
  unfold small32 wrap32
  simp [IntKind.wrap, IntKind.bits, IntKind.signed]
  split <;> omega
theorem small32_range (x : Int) : -128 ≤ small32 x ∧ small32 x ≤ 127 := by rw [small32_eq]; omega
theorem pow_small {n : Nat} (hn : n < 24) : (2 : Int) ^ n ≤ 8388608 := by
  have h1 : 2 ^ n ≤ 2 ^ 23 := Nat.pow_le_pow_right (by omega) (by omega)
  have h3 : ((2 ^ n : Nat) : Int) = (2 : Int) ^ n := by simp
  omega
theorem zip_range {f : Int → Int → Int} (h : ∀ x y, -2147483648 ≤ f x y ∧ f x y < 2147483648) : ∀ (a b : List Int), ∀ z ∈ List.zipWith f a b, -2147483648 ≤ z ∧ z < 2147483648
  | [], b => by cases b <;> simp
  | x :: a, [] => by simp
  | x :: a, y :: b => by
    intro z hz
    rw [List.zipWith_cons_cons, List.mem_cons] at hz
    rcases hz with rfl | hz
    · exact h x y
    · exact zip_range h a b z hz
theorem back_one {n : Nat} (hn : n < 24) {x : Int} (hx : -128 ≤ x ∧ x ≤ 127) : shf n (mul32 x (2 ^ n)) = x := by
  obtain ⟨h1, _⟩ := pow_bounds (n := n) (by omega)
  have h2 := pow_small hn
  obtain ⟨P, hP⟩ : ∃ P, P = (2 : Int) ^ n := ⟨_, rfl⟩
  unfold shf mul32
  rw [← hP] at h1 h2 ⊢
  have h3 : -(128 * P) ≤ x * P := by
    have := Int.mul_le_mul_of_nonneg_right hx.1 (show 0 ≤ P by omega)
    rwa [Int.neg_mul] at this
  have h4 : x * P ≤ 127 * P := Int.mul_le_mul_of_nonneg_right hx.2 (by omega)
  rw [show wrap32 (x * P) = x * P by unfold wrap32; omega, Int.add_comm, Int.add_mul_ediv_right _ _ (by omega), show P / 2 / P = 0 from Int.ediv_eq_zero_of_lt (by omega) (by omega)]
  rw [if_neg (by omega), if_neg (by omega)]
  omega
theorem back_all {n m : Nat} (hn : n < 24) {l : List Int} (hl : l.length = m) (h : ∀ z ∈ l, -128 ≤ z ∧ z ≤ 127) : List.map (shf n) (List.zipWith mul32 l (List.replicate m (2 ^ n))) = l := by
  rw [zip_right (g := fun x => mul32 x (2 ^ n)) hl (fun x _ => rfl), List.map_map]
  exact map_same (fun x hx => back_one hn (h x hx))

set_option maxHeartbeats 4000000 in
theorem back6_any (A B : Option Addr) (n c m d : Nat) (s l : List Int) (z : Int) (w : World) (hA : Lies w A n (s.map (Value.int .i64))) (hB : Lies w B m (l.map (Value.int .i32))) (wl : ∀ z ∈ l, -2147483648 ≤ z ∧ z < 2147483648) (hz : 0 ≤ z ∧ z < 256) (hn : n ≤ 70368744177664) (hm : m ≤ 70368744177664) :
    Calls Try.prog 8 #[tenV A n c B m d, .int .u8 z] w fun e w' => e = .returned (.bool true) ∧ Below w.heap.size w w' := by
  obtain ⟨W0, hW0⟩ : ∃ W0, W0 = w.alloc (.cells #[.slice A n c, .slice B m d] 25) := ⟨_, rfl⟩
  have HBW : Hid (Below w.heap.size w W0) := hide (by rw [hW0]; exact (Below.refl w.heap.size w).alloc (Nat.le_refl _) _)
  have HT_t : Hid (TenAt W0 w.heap.size A B n c m d s l) := hide (by rw [hW0]; exact ⟨BoxT.new w _ _, hA.alloc _, hB.alloc _⟩)
  have HL : Hid (l.length = m) := hide (by have := hB.len; simpa using this)
  have hslen : s.length = n := by have := hA.len; simpa using this
  have HWL := hide wl
  have hW0' := hW0.symm
  clear hW0 hA hB wl
  have ht0 := tsz_nn6 n m
  have ht1 := tsz_hi6 hn hm
  go_enter Try.func8, Try.ntmps8
  go_wp2_with fail
  refine Calls.mono (alive6_any _) ?_
  rintro e u1 ⟨rfl, hb⟩
  replace HT_t := hide (HT_t.out.kept hb)
  replace HBW := hide (HBW.out.trans (hb.mono HBW.out.size))
  clear hb
  have cxt0 := HT_t.out.c0
  have cxt1 := HT_t.out.c1
  go_wp2_with fail
  refine Calls.mono (tsize_any A B n c m d _ (by omega) (by omega)) ?_
  rintro e u2 ⟨rfl, hb⟩
  replace HT_t := hide (HT_t.out.kept hb)
  replace HBW := hide (HBW.out.trans (hb.mono HBW.out.size))
  clear cxt0 cxt1 hb
  by_cases hfar : 1048576 < tsz n m
  · go_wp2_with fail
    refine Calls.mono (beyond_yes (some ⟨u2.heap.size, 0, none⟩) 1 1 [(tsz n m : Int)] _ (lies_lit u2 .i64 [(tsz n m : Int)] 3) (by intro z hz; simp at hz; omega) (by simp; omega) (by omega)) ?_
    rintro e u3 ⟨rfl, hw3⟩
    have hb : Below u2.heap.size u2 u3 := by rw [← hw3]; exact below_al6 (Below.refl _ _)
    replace HT_t := hide (HT_t.out.kept hb)
    replace HBW := hide (HBW.out.trans (hb.mono HBW.out.size))
    clear hb hw3
    go_wp2_with fail
    refine Calls.mono (alive6_any _) ?_
    rintro e u4 ⟨rfl, hb⟩
    replace HT_t := hide (HT_t.out.kept hb)
    replace HBW := hide (HBW.out.trans (hb.mono HBW.out.size))
    clear hb
    go_wp2
    go_ret
    exact ⟨rfl, HBW.out⟩
  · go_wp2_with fail
    refine Calls.mono (beyond_no (some ⟨u2.heap.size, 0, none⟩) 1 1 [(tsz n m : Int)] _ (lies_lit u2 .i64 [(tsz n m : Int)] 3) (by intro z hz; simp at hz; omega) (by simp; omega) (by omega)) ?_
    rintro e u5 ⟨rfl, hw3⟩
    have hb : Below u2.heap.size u2 u5 := by rw [← hw3]; exact below_al6 (Below.refl _ _)
    replace HT_t := hide (HT_t.out.kept hb)
    replace HBW := hide (HBW.out.trans (hb.mono HBW.out.size))
    clear hb hw3
    have cxt0 := HT_t.out.c0
    have cxt1 := HT_t.out.c1
    go_wp2_with fail
    refine Calls.mono (tcheck_any A B n c m d s _ HT_t.out.S (by omega)) ?_
    rintro e u6 ⟨rfl, hb⟩
    replace HT_t := hide (HT_t.out.kept hb)
    replace HBW := hide (HBW.out.trans (hb.mono HBW.out.size))
    clear cxt0 cxt1 hb
    by_cases hok : tenOk s m = true
    rotate_left
    · rw [show tenOk s m = false by simpa using hok]
      go_wp2_with fail
      refine Calls.mono (alive6_any _) ?_
      rintro e u7 ⟨rfl, hb⟩
      replace HT_t := hide (HT_t.out.kept hb)
      replace HBW := hide (HBW.out.trans (hb.mono HBW.out.size))
      clear hb
      go_wp2
      go_ret
      exact ⟨rfl, HBW.out⟩
    rw [hok]
    obtain ⟨q1, q2⟩ := tenOk_iff.1 hok
    obtain ⟨hn1, hn4, _⟩ := sizeI_pos q1
    rw [hslen] at hn1 hn4
    have hm4 : m ≤ 4096 := by have := sizeI_le s; omega
    have hmp : 0 < m := by omega
    have HOK := hide hok
    have HQ := hide q2
    clear hok q1 q2 ht0 ht1
    obtain ⟨zN, hzN⟩ : ∃ zN : Nat, z = (zN : Int) := ⟨z.toNat, by omega⟩
    subst hzN
    obtain ⟨bits, hbits⟩ : ∃ bits, bits = zN % 24 := ⟨_, rfl⟩
    have hb24 : bits < 24 := by rw [hbits]; exact Nat.mod_lt _ (by omega)
    have hmod : Int.tmod (zN : Int) 24 = (bits : Int) := by rw [hbits, Int.tmod_eq_emod_of_nonneg (by omega)]; exact (Int.natCast_emod _ _).symm
    have hemod : (zN : Int) % 24 = (bits : Int) := by omega
    have HBT := hide hbits
    clear hbits hz
    have HA_t := HT_t
    have HBA := hide (Below.refl u6.heap.size u6)
    have hsA := HBW.out.size
    have cxt0 := HT_t.out.c0
    have cxt1 := HT_t.out.c1
    go_wp2_with fail
    refine Calls.mono (twinT_any A B n c m d s l _ HT_t.out.S HT_t.out.L (by omega) (by omega)) ?_
    rintro e u8 ⟨g1p, g2p, rfl, ho1, ho2, hnep, hb0⟩
    have hlo1p := ho1.lt g1p rfl
    have hlo2p := ho2.lt g2p rfl
    obtain ⟨V9, hV9⟩ : ∃ W, W = u8.alloc (.cells #[.slice (some ⟨g1p, 0, none⟩) n (n + 1), .slice (some ⟨g2p, 0, none⟩) m (m + 1)] 25) := ⟨_, rfl⟩
    have hb : Below u6.heap.size u6 V9 := by rw [hV9]; exact below_al6 hb0
    have HBX_p : Hid (BoxT V9 u8.heap.size (.slice (some ⟨g1p, 0, none⟩) n (n + 1)) (.slice (some ⟨g2p, 0, none⟩) m (m + 1))) := hide (by rw [hV9]; exact BoxT.new u8 _ _)
    have HSH_p : Hid (Lies V9 (some ⟨g1p, 0, none⟩) n (s.map (Value.int .i64))) := hide (by rw [hV9]; exact (lies_of_own (own_part ho1 (by simp [hslen]) (by omega))).alloc _)
    have hsVp : V9.heap.size = u8.heap.size + 1 := by rw [hV9]; simp
    obtain ⟨P1, hP1⟩ : ∃ P1 : List Int, P1 = l.map small32 := ⟨_, rfl⟩
    have HL1 : Hid (P1.length = m) := hide (by rw [hP1]; simp [HL.out])
    have HG1 : Hid (∀ k, k < m → P1.getD k 0 = small32 (l.getD k 0)) := hide (by intro k hk; rw [hP1]; simp [List.getD, List.getElem?_map, show k < l.length by rw [HL.out]; exact hk])
    have HR1 : Hid (∀ z ∈ P1, -128 ≤ z ∧ z ≤ 127) := hide (by intro z hz; rw [hP1] at hz; obtain ⟨x, _, rfl⟩ := List.mem_map.1 hz; exact small32_range x)
    have HR_P1 := hide hP1
    clear hP1
    obtain ⟨N1, hN1⟩ : ∃ N1 : List Int, N1 = List.replicate m ((2 : Int) ^ bits) := ⟨_, rfl⟩
    have HL2 : Hid (N1.length = m) := hide (by rw [hN1]; simp)
    have HG2 : Hid (∀ k, k < m → N1.getD k 0 = 2 ^ bits) := hide (by intro k hk; rw [hN1]; simp [List.getD, hk])
    have HR_N1 := hide hN1
    clear hN1
    have HM_p : Hid (MixAt V9 g2p P1 l 0) := hide (by rw [hV9]; exact MixAt.of_own (ho2.alloc _) _)
    replace HT_t := hide (HT_t.out.kept hb)
    replace HBA := hide (below_nx6 HBA.out hb)
    replace HBW := hide (HBW.out.trans (hb.mono HBW.out.size))
    have hV9' := hV9.symm
    clear cxt0 cxt1 hV9 hb hb0 ho1 ho2
    have hgp := HM_p.out.lt
    have hxp := HBX_p.out.lt
    have cxt0 := HT_t.out.c0
    have cxt1 := HT_t.out.c1
    go_wp2_with fail
    refine Calls.mono (twinT_any A B n c m d s l _ HT_t.out.S HT_t.out.L (by omega) (by omega)) ?_
    rintro e u10 ⟨g1q, g2q, rfl, ho1, ho2, hneq, hb0⟩
    have hlo1q := ho1.lt g1q rfl
    have hlo2q := ho2.lt g2q rfl
    obtain ⟨V11, hV11⟩ : ∃ W, W = u10.alloc (.cells #[.slice (some ⟨g1q, 0, none⟩) n (n + 1), .slice (some ⟨g2q, 0, none⟩) m (m + 1)] 25) := ⟨_, rfl⟩
    have hb : Below V9.heap.size V9 V11 := by rw [hV11]; exact below_al6 hb0
    have HBX_q : Hid (BoxT V11 u10.heap.size (.slice (some ⟨g1q, 0, none⟩) n (n + 1)) (.slice (some ⟨g2q, 0, none⟩) m (m + 1))) := hide (by rw [hV11]; exact BoxT.new u10 _ _)
    have HSH_q : Hid (Lies V11 (some ⟨g1q, 0, none⟩) n (s.map (Value.int .i64))) := hide (by rw [hV11]; exact (lies_of_own (own_part ho1 (by simp [hslen]) (by omega))).alloc _)
    have hsVq : V11.heap.size = u10.heap.size + 1 := by rw [hV11]; simp
    have HM_q : Hid (MixAt V11 g2q N1 l 0) := hide (by rw [hV11]; exact MixAt.of_own (ho2.alloc _) _)
    replace HM_p := hide (HM_p.out.keep hb hgp)
    replace HBX_p := hide (HBX_p.out.kept hb)
    replace HSH_p := hide (HSH_p.out.below hb)
    replace HT_t := hide (HT_t.out.kept hb)
    replace HBA := hide (below_nx6 HBA.out hb)
    replace HBW := hide (HBW.out.trans (hb.mono HBW.out.size))
    have hV11' := hV11.symm
    clear cxt0 cxt1 hV11 hb hb0 ho1 ho2
    have hgq := HM_q.out.lt
    have hxq := HBX_q.out.lt
    have hlt_t := HT_t.out.1.lt
    have hp2 := pow_bounds (n := bits) (by omega)
    have hp3 := pow_small hb24
    have hb64 : (bits : Int) < 24 := by omega
    go_wp2
    go_loopw [8] (fun i wr => ∃ k : Nat, k ≤ m ∧ i = .int .i64 k ∧ Hid (MixAt wr g2p P1 l k) ∧ Hid (MixAt wr g2q N1 l k) ∧ Hid (wr.heap.size = V11.heap.size ∧ wr.os = V11.os ∧ wr.tape = V11.tape ∧ wr.output = V11.output ∧ ∀ j, j ≠ g2p → j ≠ g2q → wr.heap[j]? = V11.heap[j]?)) (fun i _ => m - (intOf i).toNat)
    case atStart => exact ⟨0, Nat.zero_le _, rfl, HM_p, HM_q, hide ⟨rfl, rfl, rfl, rfl, fun _ _ _ => rfl⟩⟩
    case round =>
      obtain ⟨k, hk, rfl, HP, HN, HG⟩ := hrel
      have HXP : Hid (BoxT wr u8.heap.size (.slice (some ⟨g1p, 0, none⟩) n (n + 1)) (.slice (some ⟨g2p, 0, none⟩) m (m + 1))) := hide ((HG.out.2.2.2.2 _ (by omega) (by omega)).trans HBX_p.out)
      have HXQ : Hid (BoxT wr u10.heap.size (.slice (some ⟨g1q, 0, none⟩) n (n + 1)) (.slice (some ⟨g2q, 0, none⟩) m (m + 1))) := hide ((HG.out.2.2.2.2 _ (by omega) (by omega)).trans HBX_q.out)
      have x1 := HXP.out.c1
      have y1 := HXQ.out.c1
      by_cases hlt : k < m
      · have h0 : (0 : Int) ≤ (k : Int) := by omega
        have h3 : (k : Int) < (m : Int) := by omega
        obtain ⟨x, hx⟩ : ∃ x, x = l.getD k 0 := ⟨_, rfl⟩
        have hpc := HP.out.cell HL1.out HL.out hlt
        have hqc := HN.out.cell HL2.out HL.out hlt
        rw [← hx] at hpc hqc
        have HX := hide hx
        clear hx
        have hpf := HP.out.frozen k
        have hqf := HN.out.frozen k
        have hpq : g2p ≠ g2q := by omega
        obtain ⟨v, hv⟩ : ∃ v, v = wrap32 (IntKind.i8.wrap x) := ⟨_, rfl⟩
        have HV : Hid (v = P1.getD k 0) := hide (by rw [hv, HG1.out k hlt, ← HX.out]; rfl)
        have hx2 : (wr.setCell ⟨g2p, k, none⟩ (.int .i32 v)).cell? ⟨u10.heap.size, 1, none⟩ = some (.slice (some ⟨g2q, 0, none⟩) m (m + 1)) := (World.cell?_of_block (Below.heap_setCell _ _ _ _ (by dsimp only; omega))).trans y1
        have hq2 : (wr.setCell ⟨g2p, k, none⟩ (.int .i32 v)).cell? ⟨g2q, k, none⟩ = some (.int .i32 x) := (World.cell?_of_block (Below.heap_setCell _ _ _ _ (by dsimp only; omega))).trans hqc
        have hf2 : (wr.setCell ⟨g2p, k, none⟩ (.int .i32 v)).frozen? ⟨g2q, k, none⟩ = false := (World.frozen?_of_block (Below.heap_setCell _ _ _ _ (by dsimp only; omega))).trans hqf
        have hv' := hv.symm
        clear hv
        have HNP : Hid (MixAt ((wr.setCell ⟨g2p, k, none⟩ (.int .i32 v)).setCell ⟨g2q, k, none⟩ (.int .i32 (2 ^ bits))).drew.drew g2p P1 l (k + 1)) := hide (by
          have h := HP.out.set HL1.out HL.out hlt
          rw [← HV.out] at h
          exact h.other (a := ⟨g2q, k, none⟩) (by dsimp only; omega) _)
        have HNQ : Hid (MixAt ((wr.setCell ⟨g2p, k, none⟩ (.int .i32 v)).setCell ⟨g2q, k, none⟩ (.int .i32 (2 ^ bits))).drew.drew g2q N1 l (k + 1)) := hide (by
          have h := (HN.out.other (a := ⟨g2p, k, none⟩) (by dsimp only; omega) (.int .i32 v)).set HL2.out HL.out hlt
          rw [HG2.out k hlt] at h
          exact h)
        have HNG : Hid (((wr.setCell ⟨g2p, k, none⟩ (.int .i32 v)).setCell ⟨g2q, k, none⟩ (.int .i32 (2 ^ bits))).drew.drew.heap.size = V11.heap.size ∧ ((wr.setCell ⟨g2p, k, none⟩ (.int .i32 v)).setCell ⟨g2q, k, none⟩ (.int .i32 (2 ^ bits))).drew.drew.os = V11.os ∧ ((wr.setCell ⟨g2p, k, none⟩ (.int .i32 v)).setCell ⟨g2q, k, none⟩ (.int .i32 (2 ^ bits))).drew.drew.tape = V11.tape ∧ ((wr.setCell ⟨g2p, k, none⟩ (.int .i32 v)).setCell ⟨g2q, k, none⟩ (.int .i32 (2 ^ bits))).drew.drew.output = V11.output ∧ ∀ j, j ≠ g2p → j ≠ g2q → ((wr.setCell ⟨g2p, k, none⟩ (.int .i32 v)).setCell ⟨g2q, k, none⟩ (.int .i32 (2 ^ bits))).drew.drew.heap[j]? = V11.heap[j]?) := hide
          ⟨by simp [HG.out.1], HG.out.2.1, HG.out.2.2.1, HG.out.2.2.2.1, fun j h1 h2 => (Below.heap_setCell _ _ _ _ (by dsimp only; omega)).trans ((Below.heap_setCell _ _ _ _ (by dsimp only; omega)).trans (HG.out.2.2.2.2 j h1 h2))⟩
        go_wp2
        go_region
        rw [hv']
        go_wp2
        go_region
        go_wp2
        go_roundw
        case rel => exact ⟨k + 1, by omega, by go_num, HNP, HNQ, HNG⟩
        case measure => simp [intOf]; omega
      · obtain rfl : m = k := by omega
        have hb : Below u6.heap.size V11 wr := ⟨HG.out.2.1, HG.out.2.2.1, HG.out.2.2.2.1, by rw [HG.out.1]; exact Nat.le_refl _, fun j hj => HG.out.2.2.2.2 j (by omega) (by omega)⟩
        replace HBW := hide (HBW.out.trans (hb.mono hsA))
        replace HBA := hide (HBA.out.trans hb)
        replace HT_t := hide (HA_t.out.kept HBA.out)
        have HT_p : Hid (TenAt wr u8.heap.size (some ⟨g1p, 0, none⟩) (some ⟨g2p, 0, none⟩) n (n + 1) m (m + 1) s P1) := hide ⟨HXP.out, HSH_p.out.keep (by rw [HG.out.1]; exact Nat.le_refl _) (fun b o e hlt j => by cases e; exact World.cell?_of_block (HG.out.2.2.2.2 _ (by dsimp only; omega) (by dsimp only; omega))), HP.out.lies HL1.out HL.out⟩
        have HT_q : Hid (TenAt wr u10.heap.size (some ⟨g1q, 0, none⟩) (some ⟨g2q, 0, none⟩) n (n + 1) m (m + 1) s N1) := hide ⟨HXQ.out, HSH_q.out.keep (by rw [HG.out.1]; exact Nat.le_refl _) (fun b o e hlt j => by cases e; exact World.cell?_of_block (HG.out.2.2.2.2 _ (by dsimp only; omega) (by dsimp only; omega))), HN.out.lies HL2.out HL.out⟩
        clear hb
        obtain ⟨Lx, hLx⟩ : ∃ Lx : List Int, Lx = List.zipWith mul32 P1 N1 := ⟨_, rfl⟩
        have HWX : Hid (∀ z ∈ Lx, -2147483648 ≤ z ∧ z < 2147483648) := hide (by intro z hz; rw [hLx] at hz; exact zip_range (fun x y => wrap32_range _) _ _ z hz)
        have HR_Lx := hide hLx
        clear hLx
        obtain ⟨Ly, hLy⟩ : ∃ Ly : List Int, Ly = List.map (shf bits) Lx := ⟨_, rfl⟩
        have HEy : Hid (Ly = P1) := hide (by rw [hLy, HR_Lx.out, HR_N1.out]; exact back_all hb24 HL1.out HR1.out)
        have HR_Ly := hide hLy
        clear hLy
        have cxp0 := HT_p.out.c0
        have cxp1 := HT_p.out.c1
        have cxq0 := HT_q.out.c0
        have cxq1 := HT_q.out.c1
        go_wp2_with fail
        refine Calls.mono (mul_ok (some ⟨g1p, 0, none⟩) (some ⟨g2p, 0, none⟩) (some ⟨g1q, 0, none⟩) (some ⟨g2q, 0, none⟩) n (n + 1) m (m + 1) (n + 1) (m + 1) s P1 N1 _ HT_p.out.S HT_p.out.L HT_q.out.S HT_q.out.L HOK.out) ?_
        rw [← HR_Lx.out]
        rintro e u12 ⟨g1x, c1x, g2x, rfl, ho1, ho2, _, hb0⟩
        obtain ⟨V13, hV13⟩ : ∃ W, W = u12.alloc (.cells #[.slice (some ⟨g1x, 0, none⟩) n c1x, .slice (some ⟨g2x, 0, none⟩) m m] 25) := ⟨_, rfl⟩
        have HT_x : Hid (TenAt V13 u12.heap.size (some ⟨g1x, 0, none⟩) (some ⟨g2x, 0, none⟩) n c1x m m s Lx) := hide (by rw [hV13]; exact TenAt.made ho1 ho2)
        have hb : Below wr.heap.size wr V13 := by rw [hV13]; exact below_al6 hb0
        replace HT_t := hide (HT_t.out.kept hb)
        replace HT_p := hide (HT_p.out.kept hb)
        replace HT_q := hide (HT_q.out.kept hb)
        replace HBW := hide (HBW.out.trans (hb.mono HBW.out.size))
        have hV13' := hV13.symm
        clear cxp0 cxp1 cxq0 cxq1 hV13 hb hb0 ho1 ho2
        have hlt_x := HT_x.out.1.lt
        have cxx0 := HT_x.out.c0
        have cxx1 := HT_x.out.c1
        go_wp2_with fail
        refine Calls.mono (shift_ok (some ⟨g1x, 0, none⟩) (some ⟨g2x, 0, none⟩) n c1x m m s Lx _ HT_x.out.S HT_x.out.L bits (by omega) HWX.out HOK.out) ?_
        rw [← HR_Ly.out]
        rintro e u14 ⟨g1y, c1y, g2y, rfl, ho1, ho2, _, hb0⟩
        obtain ⟨V15, hV15⟩ : ∃ W, W = u14.alloc (.cells #[.slice (some ⟨g1y, 0, none⟩) n c1y, .slice (some ⟨g2y, 0, none⟩) m m] 25) := ⟨_, rfl⟩
        have HT_y : Hid (TenAt V15 u14.heap.size (some ⟨g1y, 0, none⟩) (some ⟨g2y, 0, none⟩) n c1y m m s Ly) := hide (by rw [hV15]; exact TenAt.made ho1 ho2)
        have hb : Below V13.heap.size V13 V15 := by rw [hV15]; exact below_al6 hb0
        replace HT_t := hide (HT_t.out.kept hb)
        replace HT_p := hide (HT_p.out.kept hb)
        replace HT_q := hide (HT_q.out.kept hb)
        replace HT_x := hide (HT_x.out.kept hb)
        replace HBW := hide (HBW.out.trans (hb.mono HBW.out.size))
        have hV15' := hV15.symm
        clear cxx0 cxx1 hV15 hb hb0 ho1 ho2
        have hlt_y := HT_y.out.1.lt
        have cxy0 := HT_y.out.c0
        have cxy1 := HT_y.out.c1
        have cxp0 := HT_p.out.c0
        have cxp1 := HT_p.out.c1
        go_wp2_with fail
        refine Calls.mono (tsame_any (some ⟨g1y, 0, none⟩) (some ⟨g2y, 0, none⟩) (some ⟨g1p, 0, none⟩) (some ⟨g2p, 0, none⟩) n c1y m m n (n + 1) m (m + 1) s Ly s P1 _ HT_y.out.S HT_y.out.L HT_p.out.S HT_p.out.L (by omega) (by omega)) ?_
        rw [show decide (s = s ∧ Ly = P1) = true from decide_eq_true ⟨rfl, HEy.out⟩]
        rintro e u16 ⟨rfl, hb⟩
        replace HT_t := hide (HT_t.out.kept hb)
        replace HT_p := hide (HT_p.out.kept hb)
        replace HT_q := hide (HT_q.out.kept hb)
        replace HT_x := hide (HT_x.out.kept hb)
        replace HT_y := hide (HT_y.out.kept hb)
        replace HBW := hide (HBW.out.trans (hb.mono HBW.out.size))
        clear cxy0 cxy1 cxp0 cxp1 hb
        go_wp2
        go_ret
        exact ⟨rfl, HBW.out⟩
end Go.Proofs.Ythdicobagmhpcaa
