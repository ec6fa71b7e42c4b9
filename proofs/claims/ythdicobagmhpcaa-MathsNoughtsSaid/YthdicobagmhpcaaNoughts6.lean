/- MathsNoughts: for every tensor the walk of its Go text ends in true. -/
import Derived.Test.YthdicobagmhpcaaMl6
namespace Go.Proofs.Ythdicobagmhpcaa
open Go.RowKit
set_option linter.unusedVariables false
set_option linter.unusedSimpArgs false
set_option maxRecDepth 100000
theorem noughts_ex {l : List Int} {m : Nat} (hl : l.length = m) : List.zipWith add32 (l.map fun x => mul32 x (-1)) l = List.replicate m 0 := by
  apply List.ext_getElem
  · simp [hl]
  · intro j h1 h2
    simp only [List.getElem_zipWith, List.getElem_map, List.getElem_replicate]
    unfold add32 mul32 wrap32
    omega

set_option maxHeartbeats 4000000 in
theorem noughts6_any (A B : Option Addr) (n c m d : Nat) (s l : List Int) (w : World) (hA : Lies w A n (s.map (Value.int .i64))) (hB : Lies w B m (l.map (Value.int .i32))) (wl : ∀ z ∈ l, -2147483648 ≤ z ∧ z < 2147483648) (hn : n ≤ 70368744177664) (hm : m ≤ 70368744177664) :
    Calls Try.prog 4 #[tenV A n c B m d] w fun e w' => e = .returned (.bool true) ∧ Below w.heap.size w w' := by
  obtain ⟨W0, hW0⟩ : ∃ W0, W0 = w.alloc (.cells #[.slice A n c, .slice B m d] 25) := ⟨_, rfl⟩
  have HBW : Hid (Below w.heap.size w W0) := hide (by rw [hW0]; exact (Below.refl w.heap.size w).alloc (Nat.le_refl _) _)
  have HT_t : Hid (TenAt W0 w.heap.size A B n c m d s l) := hide (by rw [hW0]; exact ⟨BoxT.new w _ _, hA.alloc _, hB.alloc _⟩)
  have HL : Hid (l.length = m) := hide (by have := hB.len; simpa using this)
  have hslen : s.length = n := by have := hA.len; simpa using this
  have HWL := hide wl
  have hW0' := hW0.symm
  clear hW0 hA hB wl
  have ht0 := tsz_nn6 n m
  have ht1 := tsz_hi6 hn hm
  go_enter Try.func4, Try.ntmps4
  go_wp2_with fail
  refine Calls.mono (alive6_any _) ?_
  rintro e u1 ⟨rfl, hb⟩
  replace HT_t := hide (HT_t.out.kept hb)
  replace HBW := hide (HBW.out.trans (hb.mono HBW.out.size))
  clear hb
  have cxt0 := HT_t.out.c0
  have cxt1 := HT_t.out.c1
  go_wp2_with fail
  refine Calls.mono (tsize_any A B n c m d _ (by omega) (by omega)) ?_
  rintro e u2 ⟨rfl, hb⟩
  replace HT_t := hide (HT_t.out.kept hb)
  replace HBW := hide (HBW.out.trans (hb.mono HBW.out.size))
  clear cxt0 cxt1 hb
  by_cases hfar : 1048576 < tsz n m
  · go_wp2_with fail
    refine Calls.mono (beyond_yes (some ⟨u2.heap.size, 0, none⟩) 1 1 [(tsz n m : Int)] _ (lies_lit u2 .i64 [(tsz n m : Int)] 3) (by intro z hz; simp at hz; omega) (by simp; omega) (by omega)) ?_
    rintro e u3 ⟨rfl, hw3⟩
    have hb : Below u2.heap.size u2 u3 := by rw [← hw3]; exact below_al6 (Below.refl _ _)
    replace HT_t := hide (HT_t.out.kept hb)
    replace HBW := hide (HBW.out.trans (hb.mono HBW.out.size))
    clear hb hw3
    go_wp2_with fail
    refine Calls.mono (alive6_any _) ?_
    rintro e u4 ⟨rfl, hb⟩
    replace HT_t := hide (HT_t.out.kept hb)
    replace HBW := hide (HBW.out.trans (hb.mono HBW.out.size))
    clear hb
    go_wp2
    go_ret
    exact ⟨rfl, HBW.out⟩
  · go_wp2_with fail
    refine Calls.mono (beyond_no (some ⟨u2.heap.size, 0, none⟩) 1 1 [(tsz n m : Int)] _ (lies_lit u2 .i64 [(tsz n m : Int)] 3) (by intro z hz; simp at hz; omega) (by simp; omega) (by omega)) ?_
    rintro e u5 ⟨rfl, hw3⟩
    have hb : Below u2.heap.size u2 u5 := by rw [← hw3]; exact below_al6 (Below.refl _ _)
    replace HT_t := hide (HT_t.out.kept hb)
    replace HBW := hide (HBW.out.trans (hb.mono HBW.out.size))
    clear hb hw3
    have cxt0 := HT_t.out.c0
    have cxt1 := HT_t.out.c1
    go_wp2_with fail
    refine Calls.mono (tcheck_any A B n c m d s _ HT_t.out.S (by omega)) ?_
    rintro e u6 ⟨rfl, hb⟩
    replace HT_t := hide (HT_t.out.kept hb)
    replace HBW := hide (HBW.out.trans (hb.mono HBW.out.size))
    clear cxt0 cxt1 hb
    by_cases hok : tenOk s m = true
    rotate_left
    · rw [show tenOk s m = false by simpa using hok]
      go_wp2_with fail
      refine Calls.mono (alive6_any _) ?_
      rintro e u7 ⟨rfl, hb⟩
      replace HT_t := hide (HT_t.out.kept hb)
      replace HBW := hide (HBW.out.trans (hb.mono HBW.out.size))
      clear hb
      go_wp2
      go_ret
      exact ⟨rfl, HBW.out⟩
    rw [hok]
    obtain ⟨q1, q2⟩ := tenOk_iff.1 hok
    obtain ⟨hn1, hn4, _⟩ := sizeI_pos q1
    rw [hslen] at hn1 hn4
    have hm4 : m ≤ 4096 := by have := sizeI_le s; omega
    have hmp : 0 < m := by omega
    have HOK := hide hok
    have HQ := hide q2
    clear hok q1 q2 ht0 ht1
    have cxt0 := HT_t.out.c0
    have cxt1 := HT_t.out.c1
    go_wp2_with fail
    refine Calls.mono (new_ok A n c m s _ HT_t.out.S HQ.out hmp) ?_
    rintro e u8 ⟨g1o, c1o, g2o, rfl, ho1, ho2, _, hb0⟩
    obtain ⟨Z, hZ⟩ : ∃ Z, Z = List.replicate m (0 : Int) := ⟨_, rfl⟩
    rw [show List.replicate m (Value.int .i32 0) = Z.map (Value.int .i32) by rw [hZ, List.map_replicate]] at ho2
    have HZ := hide hZ
    have HZL : Hid (Z.length = m) := hide (by rw [hZ]; simp)
    clear hZ
    obtain ⟨V9, hV9⟩ : ∃ W, W = u8.alloc (.cells #[.slice (some ⟨g1o, 0, none⟩) n c1o, .slice (some ⟨g2o, 0, none⟩) m m] 25) := ⟨_, rfl⟩
    have HT_o : Hid (TenAt V9 u8.heap.size (some ⟨g1o, 0, none⟩) (some ⟨g2o, 0, none⟩) n c1o m m s Z) := hide (by rw [hV9]; exact TenAt.made ho1 ho2)
    have hb : Below u6.heap.size u6 V9 := by rw [hV9]; exact below_al6 hb0
    replace HT_t := hide (HT_t.out.kept hb)
    replace HBW := hide (HBW.out.trans (hb.mono HBW.out.size))
    have hV9' := hV9.symm
    clear cxt0 cxt1 hV9 hb hb0 ho1 ho2
    have HA_t := HT_t
    have HA_o := HT_o
    have HBA := hide (Below.refl V9.heap.size V9)
    have hsA := HBW.out.size
    obtain ⟨P1, hP1⟩ : ∃ P1 : List Int, P1 = List.replicate m (1 : Int) := ⟨_, rfl⟩
    have HL1 : Hid (P1.length = m) := hide (by rw [hP1]; simp)
    have HG1 : Hid (∀ k, k < m → P1.getD k 0 = 1) := hide (by intro k hk; rw [hP1]; simp [List.getD, hk])
    have HR_P1 := hide hP1
    clear hP1
    obtain ⟨N1, hN1⟩ : ∃ N1 : List Int, N1 = List.replicate m (-1 : Int) := ⟨_, rfl⟩
    have HL2 : Hid (N1.length = m) := hide (by rw [hN1]; simp)
    have HG2 : Hid (∀ k, k < m → N1.getD k 0 = -1) := hide (by intro k hk; rw [hN1]; simp [List.getD, hk])
    have HR_N1 := hide hN1
    clear hN1
    have cxo0 := HT_o.out.c0
    have cxo1 := HT_o.out.c1
    go_wp2_with fail
    refine Calls.mono (twinT_any (some ⟨g1o, 0, none⟩) (some ⟨g2o, 0, none⟩) n c1o m m s Z _ HT_o.out.S HT_o.out.L (by omega) (by omega)) ?_
    rintro e u10 ⟨g1p, g2p, rfl, ho1, ho2, hnep, hb0⟩
    have hlo1p := ho1.lt g1p rfl
    have hlo2p := ho2.lt g2p rfl
    obtain ⟨V11, hV11⟩ : ∃ W, W = u10.alloc (.cells #[.slice (some ⟨g1p, 0, none⟩) n (n + 1), .slice (some ⟨g2p, 0, none⟩) m (m + 1)] 25) := ⟨_, rfl⟩
    have hb : Below V9.heap.size V9 V11 := by rw [hV11]; exact below_al6 hb0
    have HBX_p : Hid (BoxT V11 u10.heap.size (.slice (some ⟨g1p, 0, none⟩) n (n + 1)) (.slice (some ⟨g2p, 0, none⟩) m (m + 1))) := hide (by rw [hV11]; exact BoxT.new u10 _ _)
    have HSH_p : Hid (Lies V11 (some ⟨g1p, 0, none⟩) n (s.map (Value.int .i64))) := hide (by rw [hV11]; exact (lies_of_own (own_part ho1 (by simp [hslen]) (by omega))).alloc _)
    have hsVp : V11.heap.size = u10.heap.size + 1 := by rw [hV11]; simp
    have HM_p : Hid (MixAt V11 g2p P1 Z 0) := hide (by rw [hV11]; exact MixAt.of_own (ho2.alloc _) _)
    replace HT_t := hide (HT_t.out.kept hb)
    replace HT_o := hide (HT_o.out.kept hb)
    replace HBA := hide (below_nx6 HBA.out hb)
    replace HBW := hide (HBW.out.trans (hb.mono HBW.out.size))
    have hV11' := hV11.symm
    clear cxo0 cxo1 hV11 hb hb0 ho1 ho2
    have hgp := HM_p.out.lt
    have hxp := HBX_p.out.lt
    have cxo0 := HT_o.out.c0
    have cxo1 := HT_o.out.c1
    go_wp2_with fail
    refine Calls.mono (twinT_any (some ⟨g1o, 0, none⟩) (some ⟨g2o, 0, none⟩) n c1o m m s Z _ HT_o.out.S HT_o.out.L (by omega) (by omega)) ?_
    rintro e u12 ⟨g1q, g2q, rfl, ho1, ho2, hneq, hb0⟩
    have hlo1q := ho1.lt g1q rfl
    have hlo2q := ho2.lt g2q rfl
    obtain ⟨V13, hV13⟩ : ∃ W, W = u12.alloc (.cells #[.slice (some ⟨g1q, 0, none⟩) n (n + 1), .slice (some ⟨g2q, 0, none⟩) m (m + 1)] 25) := ⟨_, rfl⟩
    have hb : Below V11.heap.size V11 V13 := by rw [hV13]; exact below_al6 hb0
    have HBX_q : Hid (BoxT V13 u12.heap.size (.slice (some ⟨g1q, 0, none⟩) n (n + 1)) (.slice (some ⟨g2q, 0, none⟩) m (m + 1))) := hide (by rw [hV13]; exact BoxT.new u12 _ _)
    have HSH_q : Hid (Lies V13 (some ⟨g1q, 0, none⟩) n (s.map (Value.int .i64))) := hide (by rw [hV13]; exact (lies_of_own (own_part ho1 (by simp [hslen]) (by omega))).alloc _)
    have hsVq : V13.heap.size = u12.heap.size + 1 := by rw [hV13]; simp
    have HM_q : Hid (MixAt V13 g2q N1 Z 0) := hide (by rw [hV13]; exact MixAt.of_own (ho2.alloc _) _)
    replace HM_p := hide (HM_p.out.keep hb hgp)
    replace HBX_p := hide (HBX_p.out.kept hb)
    replace HSH_p := hide (HSH_p.out.below hb)
    replace HT_t := hide (HT_t.out.kept hb)
    replace HT_o := hide (HT_o.out.kept hb)
    replace HBA := hide (below_nx6 HBA.out hb)
    replace HBW := hide (HBW.out.trans (hb.mono HBW.out.size))
    have hV13' := hV13.symm
    clear cxo0 cxo1 hV13 hb hb0 ho1 ho2
    have hgq := HM_q.out.lt
    have hxq := HBX_q.out.lt
    have hlt_t := HT_t.out.1.lt
    have hlt_o := HT_o.out.1.lt
    go_wp2
    go_loopw [7] (fun i wr => ∃ k : Nat, k ≤ m ∧ i = .int .i64 k ∧ Hid (MixAt wr g2p P1 Z k) ∧ Hid (MixAt wr g2q N1 Z k) ∧ Hid (wr.heap.size = V13.heap.size ∧ wr.os = V13.os ∧ wr.tape = V13.tape ∧ wr.output = V13.output ∧ ∀ j, j ≠ g2p → j ≠ g2q → wr.heap[j]? = V13.heap[j]?)) (fun i _ => m - (intOf i).toNat)
    case atStart => exact ⟨0, Nat.zero_le _, rfl, HM_p, HM_q, hide ⟨rfl, rfl, rfl, rfl, fun _ _ _ => rfl⟩⟩
    case round =>
      obtain ⟨k, hk, rfl, HP, HN, HG⟩ := hrel
      have HXP : Hid (BoxT wr u10.heap.size (.slice (some ⟨g1p, 0, none⟩) n (n + 1)) (.slice (some ⟨g2p, 0, none⟩) m (m + 1))) := hide ((HG.out.2.2.2.2 _ (by omega) (by omega)).trans HBX_p.out)
      have HXQ : Hid (BoxT wr u12.heap.size (.slice (some ⟨g1q, 0, none⟩) n (n + 1)) (.slice (some ⟨g2q, 0, none⟩) m (m + 1))) := hide ((HG.out.2.2.2.2 _ (by omega) (by omega)).trans HBX_q.out)
      have x1 := HXP.out.c1
      have y1 := HXQ.out.c1
      by_cases hlt : k < m
      · have h0 : (0 : Int) ≤ (k : Int) := by omega
        have h3 : (k : Int) < (m : Int) := by omega
        have hpc := HP.out.cell HL1.out HZL.out hlt
        have hpf := HP.out.frozen k
        have hqc := HN.out.cell HL2.out HZL.out hlt
        have hqf := HN.out.frozen k
        have hpq : g2p ≠ g2q := by omega
        have hx2 : (wr.setCell ⟨g2p, k, none⟩ (.int .i32 1)).cell? ⟨u12.heap.size, 1, none⟩ = some (.slice (some ⟨g2q, 0, none⟩) m (m + 1)) := (World.cell?_of_block (Below.heap_setCell _ _ _ _ (by dsimp only; omega))).trans y1
        have hq2 : (wr.setCell ⟨g2p, k, none⟩ (.int .i32 1)).cell? ⟨g2q, k, none⟩ = some (.int .i32 (Z.getD k 0)) := (World.cell?_of_block (Below.heap_setCell _ _ _ _ (by dsimp only; omega))).trans hqc
        have hf2 : (wr.setCell ⟨g2p, k, none⟩ (.int .i32 1)).frozen? ⟨g2q, k, none⟩ = false := (World.frozen?_of_block (Below.heap_setCell _ _ _ _ (by dsimp only; omega))).trans hqf
        have HNP : Hid (MixAt ((wr.setCell ⟨g2p, k, none⟩ (.int .i32 1)).setCell ⟨g2q, k, none⟩ (.int .i32 (-1))) g2p P1 Z (k + 1)) := hide (by
          have h := HP.out.set HL1.out HZL.out hlt
          rw [HG1.out k hlt] at h
          exact h.other (by dsimp only; omega) _)
        have HNQ : Hid (MixAt ((wr.setCell ⟨g2p, k, none⟩ (.int .i32 1)).setCell ⟨g2q, k, none⟩ (.int .i32 (-1))) g2q N1 Z (k + 1)) := hide (by
          have h := (HN.out.other (a := ⟨g2p, k, none⟩) (by dsimp only; omega) (.int .i32 1)).set HL2.out HZL.out hlt
          rw [HG2.out k hlt] at h
          exact h)
        have HNG : Hid (((wr.setCell ⟨g2p, k, none⟩ (.int .i32 1)).setCell ⟨g2q, k, none⟩ (.int .i32 (-1))).heap.size = V13.heap.size ∧ ((wr.setCell ⟨g2p, k, none⟩ (.int .i32 1)).setCell ⟨g2q, k, none⟩ (.int .i32 (-1))).os = V13.os ∧ ((wr.setCell ⟨g2p, k, none⟩ (.int .i32 1)).setCell ⟨g2q, k, none⟩ (.int .i32 (-1))).tape = V13.tape ∧ ((wr.setCell ⟨g2p, k, none⟩ (.int .i32 1)).setCell ⟨g2q, k, none⟩ (.int .i32 (-1))).output = V13.output ∧ ∀ j, j ≠ g2p → j ≠ g2q → ((wr.setCell ⟨g2p, k, none⟩ (.int .i32 1)).setCell ⟨g2q, k, none⟩ (.int .i32 (-1))).heap[j]? = V13.heap[j]?) := hide
          ⟨by simp [HG.out.1], HG.out.2.1, HG.out.2.2.1, HG.out.2.2.2.1, fun j h1 h2 => (Below.heap_setCell _ _ _ _ (by dsimp only; omega)).trans ((Below.heap_setCell _ _ _ _ (by dsimp only; omega)).trans (HG.out.2.2.2.2 j h1 h2))⟩
        go_wp2
        go_roundw
        case rel => exact ⟨k + 1, by omega, by go_num, HNP, HNQ, HNG⟩
        case measure => simp [intOf]; omega
      · obtain rfl : m = k := by omega
        have hb : Below V9.heap.size V13 wr := ⟨HG.out.2.1, HG.out.2.2.1, HG.out.2.2.2.1, by rw [HG.out.1]; exact Nat.le_refl _, fun j hj => HG.out.2.2.2.2 j (by omega) (by omega)⟩
        replace HBW := hide (HBW.out.trans (hb.mono hsA))
        replace HBA := hide (HBA.out.trans hb)
        replace HT_t := hide (HA_t.out.kept HBA.out)
        replace HT_o := hide (HA_o.out.kept HBA.out)
        have HT_p : Hid (TenAt wr u10.heap.size (some ⟨g1p, 0, none⟩) (some ⟨g2p, 0, none⟩) n (n + 1) m (m + 1) s P1) := hide ⟨HXP.out, HSH_p.out.keep (by rw [HG.out.1]; exact Nat.le_refl _) (fun b o e hlt j => by cases e; exact World.cell?_of_block (HG.out.2.2.2.2 _ (by dsimp only; omega) (by dsimp only; omega))), HP.out.lies HL1.out HZL.out⟩
        have HT_q : Hid (TenAt wr u12.heap.size (some ⟨g1q, 0, none⟩) (some ⟨g2q, 0, none⟩) n (n + 1) m (m + 1) s N1) := hide ⟨HXQ.out, HSH_q.out.keep (by rw [HG.out.1]; exact Nat.le_refl _) (fun b o e hlt j => by cases e; exact World.cell?_of_block (HG.out.2.2.2.2 _ (by dsimp only; omega) (by dsimp only; omega))), HN.out.lies HL2.out HZL.out⟩
        clear hb
        obtain ⟨La, hLa⟩ : ∃ La : List Int, La = List.zipWith add32 l Z := ⟨_, rfl⟩
        have HEa : Hid (La = l) := hide (by rw [hLa, HZ.out, zip_right (g := fun x => x) HL.out (fun x hx => by have := HWL.out x hx; unfold add32 wrap32; omega)]; simp)
        have HR_La := hide hLa
        clear hLa
        obtain ⟨Lb, hLb⟩ : ∃ Lb : List Int, Lb = List.zipWith mul32 l Z := ⟨_, rfl⟩
        have HEb : Hid (Lb = Z) := hide (by rw [hLb, HZ.out, zip_right (g := fun _ => 0) HL.out (fun x hx => by unfold mul32 wrap32; omega), map_const HL.out])
        have HR_Lb := hide hLb
        clear hLb
        obtain ⟨Lc, hLc⟩ : ∃ Lc : List Int, Lc = List.zipWith mul32 P1 l := ⟨_, rfl⟩
        have HEc : Hid (Lc = l) := hide (by rw [hLc, HR_P1.out, zip_left (g := fun x => x) HL.out (fun x hx => by have := HWL.out x hx; unfold mul32 wrap32; omega)]; simp)
        have HR_Lc := hide hLc
        clear hLc
        obtain ⟨Ld, hLd⟩ : ∃ Ld : List Int, Ld = List.zipWith mul32 l N1 := ⟨_, rfl⟩
        have HR_Ld := hide hLd
        clear hLd
        obtain ⟨Lx, hLx⟩ : ∃ Lx : List Int, Lx = List.zipWith add32 Ld l := ⟨_, rfl⟩
        have HEx : Hid (Lx = Z) := hide (by rw [hLx, HR_Ld.out, HR_N1.out, zip_right (g := fun x => mul32 x (-1)) HL.out (fun x hx => rfl), HZ.out]; exact noughts_ex HL.out)
        have HR_Lx := hide hLx
        clear hLx
        have cxt0 := HT_t.out.c0
        have cxt1 := HT_t.out.c1
        have cxo0 := HT_o.out.c0
        have cxo1 := HT_o.out.c1
        go_wp2_with fail
        refine Calls.mono (add_ok A B (some ⟨g1o, 0, none⟩) (some ⟨g2o, 0, none⟩) n c m d c1o m s l Z _ HT_t.out.S HT_t.out.L HT_o.out.S HT_o.out.L HOK.out) ?_
        rw [← HR_La.out]
        rintro e u14 ⟨g1a, c1a, g2a, rfl, ho1, ho2, _, hb0⟩
        obtain ⟨V15, hV15⟩ : ∃ W, W = u14.alloc (.cells #[.slice (some ⟨g1a, 0, none⟩) n c1a, .slice (some ⟨g2a, 0, none⟩) m m] 25) := ⟨_, rfl⟩
        have HT_a : Hid (TenAt V15 u14.heap.size (some ⟨g1a, 0, none⟩) (some ⟨g2a, 0, none⟩) n c1a m m s La) := hide (by rw [hV15]; exact TenAt.made ho1 ho2)
        have hb : Below wr.heap.size wr V15 := by rw [hV15]; exact below_al6 hb0
        replace HT_t := hide (HT_t.out.kept hb)
        replace HT_o := hide (HT_o.out.kept hb)
        replace HT_p := hide (HT_p.out.kept hb)
        replace HT_q := hide (HT_q.out.kept hb)
        replace HBW := hide (HBW.out.trans (hb.mono HBW.out.size))
        have hV15' := hV15.symm
        clear cxt0 cxt1 cxo0 cxo1 hV15 hb hb0 ho1 ho2
        have hlt_a := HT_a.out.1.lt
        have cxt0 := HT_t.out.c0
        have cxt1 := HT_t.out.c1
        have cxo0 := HT_o.out.c0
        have cxo1 := HT_o.out.c1
        go_wp2_with fail
        refine Calls.mono (mul_ok A B (some ⟨g1o, 0, none⟩) (some ⟨g2o, 0, none⟩) n c m d c1o m s l Z _ HT_t.out.S HT_t.out.L HT_o.out.S HT_o.out.L HOK.out) ?_
        rw [← HR_Lb.out]
        rintro e u16 ⟨g1b, c1b, g2b, rfl, ho1, ho2, _, hb0⟩
        obtain ⟨V17, hV17⟩ : ∃ W, W = u16.alloc (.cells #[.slice (some ⟨g1b, 0, none⟩) n c1b, .slice (some ⟨g2b, 0, none⟩) m m] 25) := ⟨_, rfl⟩
        have HT_b : Hid (TenAt V17 u16.heap.size (some ⟨g1b, 0, none⟩) (some ⟨g2b, 0, none⟩) n c1b m m s Lb) := hide (by rw [hV17]; exact TenAt.made ho1 ho2)
        have hb : Below V15.heap.size V15 V17 := by rw [hV17]; exact below_al6 hb0
        replace HT_t := hide (HT_t.out.kept hb)
        replace HT_o := hide (HT_o.out.kept hb)
        replace HT_p := hide (HT_p.out.kept hb)
        replace HT_q := hide (HT_q.out.kept hb)
        replace HT_a := hide (HT_a.out.kept hb)
        replace HBW := hide (HBW.out.trans (hb.mono HBW.out.size))
        have hV17' := hV17.symm
        clear cxt0 cxt1 cxo0 cxo1 hV17 hb hb0 ho1 ho2
        have hlt_b := HT_b.out.1.lt
        have cxp0 := HT_p.out.c0
        have cxp1 := HT_p.out.c1
        have cxt0 := HT_t.out.c0
        have cxt1 := HT_t.out.c1
        go_wp2_with fail
        refine Calls.mono (mul_ok (some ⟨g1p, 0, none⟩) (some ⟨g2p, 0, none⟩) A B n (n + 1) m (m + 1) c d s P1 l _ HT_p.out.S HT_p.out.L HT_t.out.S HT_t.out.L HOK.out) ?_
        rw [← HR_Lc.out]
        rintro e u18 ⟨g1c, c1c, g2c, rfl, ho1, ho2, _, hb0⟩
        obtain ⟨V19, hV19⟩ : ∃ W, W = u18.alloc (.cells #[.slice (some ⟨g1c, 0, none⟩) n c1c, .slice (some ⟨g2c, 0, none⟩) m m] 25) := ⟨_, rfl⟩
        have HT_c : Hid (TenAt V19 u18.heap.size (some ⟨g1c, 0, none⟩) (some ⟨g2c, 0, none⟩) n c1c m m s Lc) := hide (by rw [hV19]; exact TenAt.made ho1 ho2)
        have hb : Below V17.heap.size V17 V19 := by rw [hV19]; exact below_al6 hb0
        replace HT_t := hide (HT_t.out.kept hb)
        replace HT_o := hide (HT_o.out.kept hb)
        replace HT_p := hide (HT_p.out.kept hb)
        replace HT_q := hide (HT_q.out.kept hb)
        replace HT_a := hide (HT_a.out.kept hb)
        replace HT_b := hide (HT_b.out.kept hb)
        replace HBW := hide (HBW.out.trans (hb.mono HBW.out.size))
        have hV19' := hV19.symm
        clear cxp0 cxp1 cxt0 cxt1 hV19 hb hb0 ho1 ho2
        have hlt_c := HT_c.out.1.lt
        have cxt0 := HT_t.out.c0
        have cxt1 := HT_t.out.c1
        have cxq0 := HT_q.out.c0
        have cxq1 := HT_q.out.c1
        go_wp2_with fail
        refine Calls.mono (mul_ok A B (some ⟨g1q, 0, none⟩) (some ⟨g2q, 0, none⟩) n c m d (n + 1) (m + 1) s l N1 _ HT_t.out.S HT_t.out.L HT_q.out.S HT_q.out.L HOK.out) ?_
        rw [← HR_Ld.out]
        rintro e u20 ⟨g1d, c1d, g2d, rfl, ho1, ho2, _, hb0⟩
        obtain ⟨V21, hV21⟩ : ∃ W, W = u20.alloc (.cells #[.slice (some ⟨g1d, 0, none⟩) n c1d, .slice (some ⟨g2d, 0, none⟩) m m] 25) := ⟨_, rfl⟩
        have HT_d : Hid (TenAt V21 u20.heap.size (some ⟨g1d, 0, none⟩) (some ⟨g2d, 0, none⟩) n c1d m m s Ld) := hide (by rw [hV21]; exact TenAt.made ho1 ho2)
        have hb : Below V19.heap.size V19 V21 := by rw [hV21]; exact below_al6 hb0
        replace HT_t := hide (HT_t.out.kept hb)
        replace HT_o := hide (HT_o.out.kept hb)
        replace HT_p := hide (HT_p.out.kept hb)
        replace HT_q := hide (HT_q.out.kept hb)
        replace HT_a := hide (HT_a.out.kept hb)
        replace HT_b := hide (HT_b.out.kept hb)
        replace HT_c := hide (HT_c.out.kept hb)
        replace HBW := hide (HBW.out.trans (hb.mono HBW.out.size))
        have hV21' := hV21.symm
        clear cxt0 cxt1 cxq0 cxq1 hV21 hb hb0 ho1 ho2
        have hlt_d := HT_d.out.1.lt
        have cxd0 := HT_d.out.c0
        have cxd1 := HT_d.out.c1
        have cxt0 := HT_t.out.c0
        have cxt1 := HT_t.out.c1
        go_wp2_with fail
        refine Calls.mono (add_ok (some ⟨g1d, 0, none⟩) (some ⟨g2d, 0, none⟩) A B n c1d m m c d s Ld l _ HT_d.out.S HT_d.out.L HT_t.out.S HT_t.out.L HOK.out) ?_
        rw [← HR_Lx.out]
        rintro e u22 ⟨g1x, c1x, g2x, rfl, ho1, ho2, _, hb0⟩
        obtain ⟨V23, hV23⟩ : ∃ W, W = u22.alloc (.cells #[.slice (some ⟨g1x, 0, none⟩) n c1x, .slice (some ⟨g2x, 0, none⟩) m m] 25) := ⟨_, rfl⟩
        have HT_x : Hid (TenAt V23 u22.heap.size (some ⟨g1x, 0, none⟩) (some ⟨g2x, 0, none⟩) n c1x m m s Lx) := hide (by rw [hV23]; exact TenAt.made ho1 ho2)
        have hb : Below V21.heap.size V21 V23 := by rw [hV23]; exact below_al6 hb0
        replace HT_t := hide (HT_t.out.kept hb)
        replace HT_o := hide (HT_o.out.kept hb)
        replace HT_p := hide (HT_p.out.kept hb)
        replace HT_q := hide (HT_q.out.kept hb)
        replace HT_a := hide (HT_a.out.kept hb)
        replace HT_b := hide (HT_b.out.kept hb)
        replace HT_c := hide (HT_c.out.kept hb)
        replace HT_d := hide (HT_d.out.kept hb)
        replace HBW := hide (HBW.out.trans (hb.mono HBW.out.size))
        have hV23' := hV23.symm
        clear cxd0 cxd1 cxt0 cxt1 hV23 hb hb0 ho1 ho2
        have hlt_x := HT_x.out.1.lt
        have cxa0 := HT_a.out.c0
        have cxa1 := HT_a.out.c1
        have cxt0 := HT_t.out.c0
        have cxt1 := HT_t.out.c1
        go_wp2_with fail
        refine Calls.mono (tsame_any (some ⟨g1a, 0, none⟩) (some ⟨g2a, 0, none⟩) A B n c1a m m n c m d s La s l _ HT_a.out.S HT_a.out.L HT_t.out.S HT_t.out.L (by omega) (by omega)) ?_
        rw [show decide (s = s ∧ La = l) = true from decide_eq_true ⟨rfl, HEa.out⟩]
        rintro e u24 ⟨rfl, hb⟩
        replace HT_t := hide (HT_t.out.kept hb)
        replace HT_o := hide (HT_o.out.kept hb)
        replace HT_p := hide (HT_p.out.kept hb)
        replace HT_q := hide (HT_q.out.kept hb)
        replace HT_a := hide (HT_a.out.kept hb)
        replace HT_b := hide (HT_b.out.kept hb)
        replace HT_c := hide (HT_c.out.kept hb)
        replace HT_d := hide (HT_d.out.kept hb)
        replace HT_x := hide (HT_x.out.kept hb)
        replace HBW := hide (HBW.out.trans (hb.mono HBW.out.size))
        clear cxa0 cxa1 cxt0 cxt1 hb
        have cxb0 := HT_b.out.c0
        have cxb1 := HT_b.out.c1
        have cxo0 := HT_o.out.c0
        have cxo1 := HT_o.out.c1
        go_wp2_with fail
        refine Calls.mono (tsame_any (some ⟨g1b, 0, none⟩) (some ⟨g2b, 0, none⟩) (some ⟨g1o, 0, none⟩) (some ⟨g2o, 0, none⟩) n c1b m m n c1o m m s Lb s Z _ HT_b.out.S HT_b.out.L HT_o.out.S HT_o.out.L (by omega) (by omega)) ?_
        rw [show decide (s = s ∧ Lb = Z) = true from decide_eq_true ⟨rfl, HEb.out⟩]
        rintro e u25 ⟨rfl, hb⟩
        replace HT_t := hide (HT_t.out.kept hb)
        replace HT_o := hide (HT_o.out.kept hb)
        replace HT_p := hide (HT_p.out.kept hb)
        replace HT_q := hide (HT_q.out.kept hb)
        replace HT_a := hide (HT_a.out.kept hb)
        replace HT_b := hide (HT_b.out.kept hb)
        replace HT_c := hide (HT_c.out.kept hb)
        replace HT_d := hide (HT_d.out.kept hb)
        replace HT_x := hide (HT_x.out.kept hb)
        replace HBW := hide (HBW.out.trans (hb.mono HBW.out.size))
        clear cxb0 cxb1 cxo0 cxo1 hb
        have cxc0 := HT_c.out.c0
        have cxc1 := HT_c.out.c1
        have cxt0 := HT_t.out.c0
        have cxt1 := HT_t.out.c1
        go_wp2_with fail
        refine Calls.mono (tsame_any (some ⟨g1c, 0, none⟩) (some ⟨g2c, 0, none⟩) A B n c1c m m n c m d s Lc s l _ HT_c.out.S HT_c.out.L HT_t.out.S HT_t.out.L (by omega) (by omega)) ?_
        rw [show decide (s = s ∧ Lc = l) = true from decide_eq_true ⟨rfl, HEc.out⟩]
        rintro e u26 ⟨rfl, hb⟩
        replace HT_t := hide (HT_t.out.kept hb)
        replace HT_o := hide (HT_o.out.kept hb)
        replace HT_p := hide (HT_p.out.kept hb)
        replace HT_q := hide (HT_q.out.kept hb)
        replace HT_a := hide (HT_a.out.kept hb)
        replace HT_b := hide (HT_b.out.kept hb)
        replace HT_c := hide (HT_c.out.kept hb)
        replace HT_d := hide (HT_d.out.kept hb)
        replace HT_x := hide (HT_x.out.kept hb)
        replace HBW := hide (HBW.out.trans (hb.mono HBW.out.size))
        clear cxc0 cxc1 cxt0 cxt1 hb
        have cxx0 := HT_x.out.c0
        have cxx1 := HT_x.out.c1
        have cxo0 := HT_o.out.c0
        have cxo1 := HT_o.out.c1
        go_wp2_with fail
        refine Calls.mono (tsame_any (some ⟨g1x, 0, none⟩) (some ⟨g2x, 0, none⟩) (some ⟨g1o, 0, none⟩) (some ⟨g2o, 0, none⟩) n c1x m m n c1o m m s Lx s Z _ HT_x.out.S HT_x.out.L HT_o.out.S HT_o.out.L (by omega) (by omega)) ?_
        rw [show decide (s = s ∧ Lx = Z) = true from decide_eq_true ⟨rfl, HEx.out⟩]
        rintro e u27 ⟨rfl, hb⟩
        replace HT_t := hide (HT_t.out.kept hb)
        replace HT_o := hide (HT_o.out.kept hb)
        replace HT_p := hide (HT_p.out.kept hb)
        replace HT_q := hide (HT_q.out.kept hb)
        replace HT_a := hide (HT_a.out.kept hb)
        replace HT_b := hide (HT_b.out.kept hb)
        replace HT_c := hide (HT_c.out.kept hb)
        replace HT_d := hide (HT_d.out.kept hb)
        replace HT_x := hide (HT_x.out.kept hb)
        replace HBW := hide (HBW.out.trans (hb.mono HBW.out.size))
        clear cxx0 cxx1 cxo0 cxo1 hb
        go_wp2
        go_ret
        exact ⟨rfl, HBW.out⟩
end Go.Proofs.Ythdicobagmhpcaa
