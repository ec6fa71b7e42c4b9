/- TensorsBack, the walk where there is a tensor. -/
import Derived.Test.YtaoobdnbjagpnaaTBack5
namespace Go.Proofs.Ytaoobdnbjagpnaa
open Go.RowKit
set_option linter.unusedVariables false
set_option linter.unusedSimpArgs false
set_option maxRecDepth 100000

set_option maxHeartbeats 4000000 in
theorem back5_ok0 (A B A' : Option Addr) (n c m d n' c' : Nat) (s l bs : List Int) (w : World) (hA : Lies w A n (s.map (Value.int .i64))) (hB : Lies w B m (l.map (Value.int .i32))) (hS : Lies w A' n' (bs.map (Value.int .u8)))
    (wl : Words l) (wb : Bytes bs) (hc' : n' ≤ c') (hn : n ≤ 70368744177664) (hm : m ≤ 70368744177664) (hn' : n' ≤ 140737488355328) (hnear : tsz n m + n' ≤ 1048576) (ho : tenOk s m = true) (hg : getOk bs = false) :
    Calls Try.prog 3 #[tenV A n c B m d, .slice A' n' c'] w fun e w' => e = .returned (.bool true) ∧ Below w.heap.size w w' := by
  obtain ⟨W, hW⟩ : ∃ W, W = w.alloc (.cells #[.slice A n c, .slice B m d] 25) := ⟨_, rfl⟩
  have HX0 : Hid (BoxT W w.heap.size (.slice A n c) (.slice B m d)) := hide (by rw [hW]; exact BoxT.new w _ _)
  have HB0 : Hid (Below w.heap.size w W) := hide (by rw [hW]; exact (Below.refl w.heap.size w).alloc (Nat.le_refl _) _)
  have hW' := hW.symm
  clear hW
  have HA := hide (hA.below HB0.out)
  have HB := hide (hB.below HB0.out)
  have HS := hide (hS.below HB0.out)
  have HWL := hide wl
  have HWB := hide wb
  have HL : Hid (l.length = m) := hide (by have := hB.len; simpa using this)
  have HSL : Hid (s.length = n) := hide (by have := hA.len; simpa using this)
  have HBL : Hid (bs.length = n') := hide (by have := hS.len; simpa using this)
  clear hA hB hS wl wb
  have hsW := HB0.out.size
  have a0 := HX0.out.c0
  have a1 := HX0.out.c1
  have HK : Hid (∀ w', Below W.heap.size W w' → w'.cell? ⟨w.heap.size, 0, none⟩ = some (.slice A n c) ∧ w'.cell? ⟨w.heap.size, 1, none⟩ = some (.slice B m d)) := hide (fun w' hb => ⟨(HX0.out.kept hb).c0, (HX0.out.kept hb).c1⟩)
  have hb0 : Below W.heap.size W (W.drewN 1) := below_drewN (Below.refl _ W) 1
  have ht0 := tsz_nonneg' n m
  have ht1 := tsz_le' hn hm
  have HBY : Hid (∀ v : World, Calls Try.prog 6 #[.slice (some ⟨v.heap.size, 0, none⟩) 2 2] (v.alloc (.cells #[.int .i64 (tsz n m : Int), .int .i64 (n' : Int)] 3)) fun e w' => e = .returned (.bool false) ∧ (v.alloc (.cells #[.int .i64 (tsz n m : Int), .int .i64 (n' : Int)] 3)) = w') := hide (fun v =>
    beyond_no (some ⟨v.heap.size, 0, none⟩) 2 2 [(tsz n m : Int), (n' : Int)] _ (lies_lit v .i64 [(tsz n m : Int), (n' : Int)] 3) (by intro z hz; simp at hz; omega) (by simp; omega) (by omega))
  obtain ⟨hn2, hm2⟩ := tsz_small' (n := n) (m := m) (by omega)
  clear ht0 ht1
  go_enter Try.func3, Try.ntmps3
  go_wp2_with fail
  refine Calls.mono (alive5_any _) ?_
  rintro e wA ⟨rfl, hbA0⟩
  have hbA : Below W.heap.size W wA := hbA0
  clear a0 a1 hb0 hbA0
  obtain ⟨a0, a1⟩ := HK.out _ hbA
  go_wp2_with fail
  refine Calls.mono (tsize_any _ _ _ _ _ _ _ (by omega) (by omega)) ?_
  rintro e w2 ⟨rfl, hb20⟩
  have hb2 : Below W.heap.size W w2 := hbA.trans (hb20.mono hbA.size)
  clear a0 a1 hb20 hbA
  obtain ⟨a0, a1⟩ := HK.out _ hb2
  go_wp2_with fail
  refine Calls.mono (HBY.out _) ?_
  rintro e w3 ⟨rfl, hw3⟩
  have hb3 : Below W.heap.size W w3 := by rw [← hw3]; exact hb2.alloc hb2.size _
  clear hw3 hb2
  clear a0 a1
  obtain ⟨a0, a1⟩ := HK.out _ hb3
  obtain ⟨K, hK⟩ : ∃ K, K = n + 4 * m := ⟨_, rfl⟩
  obtain ⟨v1, v2⟩ := tenOk_iff.1 ho
  have v3 := sizeI_pos v1
  have v4 := sizeI_le s
  rw [HSL.out] at v3
  have hm4 : m ≤ 4096 := by omega
  have hn4 : n ≤ 4 := by omega
  have hKm : K ≤ 32768 := by omega
  have HTL : Hid ((tenB s l).length = K + 1) := hide (by rw [tenB_len, HSL.out, HL.out]; omega)
  have HTB : Hid (Bytes (tenB s l)) := hide (tenB_bytes (size_dims v1) (by rw [HSL.out]; omega))
  have HLE : Hid (getOk ((tenB s l).take K) = false) := hide (by
    have h := get_less (s := s) (l := l) (by rw [HL.out]; exact ho)
    rwa [HSL.out, HL.out, show n + 1 + 4 * m - 1 = K by omega] at h)
  have HMO : Hid (getOk (tenB s l ++ [0]) = false) := hide (get_more (s := s) (l := l) (by rw [HL.out]; exact ho) 0)
  have HPUT : Hid (∀ v, Below W.heap.size W v → Calls Try.prog 8 #[tenV A n c B m d] v fun e w' => ∃ g cc, e = .returned (.tuple #[.slice (some ⟨g, 0, none⟩) (K + 1) cc, .int .i64 0]) ∧ Lies w' (some ⟨g, 0, none⟩) (K + 1) ((tenB s l).map (Value.int .u8)) ∧ K + 1 ≤ cc ∧ Below W.heap.size W w') := hide (fun v hv => by
    refine (tput_ok A B n c m d s l v (HA.out.below hv) (HB.out.below hv) ho).mono ?_
    rintro e w' ⟨g, cc, rfl, hown, hb⟩
    rw [show n + 1 + 4 * m = K + 1 by omega] at hown
    obtain ⟨ys, _, _, hle⟩ := own_full hown
    exact ⟨g, cc, by rw [show n + 1 + 4 * m = K + 1 by omega], lies_of_own hown, hle, hv.trans (hb.mono hv.size)⟩)
  have hKn : (1 : Int) + (n : Int) + 4 * (m : Int) = (K : Int) + 1 := by omega
  clear v1 v2 v3 v4 hK
  obtain ⟨i0, hi, hz0, hz1, hz2⟩ := info_parts Try.infoB
  have HI := hide hi
  have HZ0 := hide hz0
  have HZ1 := hide hz1
  have HZ2 := hide hz2
  clear hi hz0 hz1 hz2
  go_wp2_with fail
  refine Calls.mono (HPUT.out _ hb3) ?_
  rintro e w4 ⟨g, cc, rfl, hp, hcc, hb4⟩
  have HP := hide hp
  clear hp hb3
  clear a0 a1
  obtain ⟨a0, a1⟩ := HK.out _ hb4
  go_wp2_with fail
  refine Calls.mono (tcheck_any A B n c m d s _ (HA.out.below hb4) (by omega)) ?_
  rintro e w5 ⟨rfl, hb50⟩
  rw [ho]
  have hb5 : Below W.heap.size W w5 := hb4.trans (hb50.mono hb4.size)
  have HP5 := hide (HP.out.below hb50)
  clear hb50 hb4 HP
  clear a0 a1
  obtain ⟨a0, a1⟩ := HK.out _ hb5
  go_wp2_with fail
  refine Calls.mono (tget_back (some ⟨g, 0, none⟩) cc _ HSL.out HL.out ho HWL.out HTB.out HP5.out hcc (by omega)) ?_
  rintro e w6 ⟨A3, c3, A4, c4, rfl, h3, h4, hb60⟩
  have hb6 : Below W.heap.size W w6 := hb5.trans (hb60.mono hb5.size)
  obtain ⟨Wx, hWx⟩ : ∃ Wx, Wx = w6.alloc (.cells #[.slice A3 n c3, .slice A4 m c4] 25) := ⟨_, rfl⟩
  have HXX : Hid (BoxT Wx w6.heap.size (.slice A3 n c3) (.slice A4 m c4)) := hide (by rw [hWx]; exact BoxT.new w6 _ _)
  have hbx : Below W.heap.size W Wx := by rw [hWx]; exact hb6.alloc hb6.size _
  have hbx0 : Below w6.heap.size w6 Wx := by rw [hWx]; exact (Below.refl _ w6).alloc (Nat.le_refl _) _
  have HPx := hide ((HP5.out.below hb60).below hbx0)
  have H3 := hide (h3.below hbx0)
  have H4 := hide (h4.below hbx0)
  have hWx' := hWx.symm
  clear hWx h3 h4 hb60 hb6 hbx0 hb5 HP5 a0 a1
  obtain ⟨a0, a1⟩ := HK.out _ hbx
  go_wp2_with fail
  refine Calls.mono (twin_Bytes (some ⟨g, 0, none⟩) (K + 1) cc (tenB s l) _ HPx.out (by omega)) ?_
  rintro e w7 ⟨rfl, ho7, hb70⟩
  have hb7 : Below W.heap.size W w7 := hbx.trans (hb70.mono hbx.size)
  have hxlt := HXX.out.lt
  have HO7 : Hid (w7.ownsRow Wx.heap.size 5 1 (.slice (some ⟨Wx.heap.size, 0, none⟩) (K + 1) (K + 1 + 1)) (K + 1) ((tenB s l).map (Value.int .u8))) := hide (own_part ho7 (by simp [HTL.out]) (by omega))
  have hs7 : Wx.heap.size ≤ w7.heap.size := hb70.size
  have hsx := hbx.size
  clear ho7
  have HX8 : Hid ((w7.alloc (.cells #[.int .u8 0] 5)).cell? ⟨w7.heap.size, 0, none⟩ = some (.int .u8 0)) := hide (by have h := cells_new w7 [.int .u8 0] 5 0 _ rfl; rwa [Addr.add_lit] at h)
  go_wp2_with (at_builtin; go_loud (with_reducible refine wpList_append_one rfl (.tmp 47) (.tmp 48) 26 rfl 5 i0 (.int .u8 0) 1 Try.underlying26 HI.out HZ0.out HZ1.out HZ2.out rfl Wx.heap.size (some ⟨Wx.heap.size, 0, none⟩) (K + 1) (K + 1 + 1) ((tenB s l).map (Value.int .u8)) rfl (HO7.out.alloc _) (Nat.le_trans hs7 (by simp)) ⟨w7.heap.size, 0, none⟩ (.int .u8 0) rfl HX8.out rfl (by omega) (by unfold maxLen; omega) ?_))
  rintro A8 c8 w8 ho8 hm8
  have hb78 : Below Wx.heap.size w7 w8 := below_moved ((Below.refl Wx.heap.size w7).alloc hs7 _) (Nat.le_trans hs7 (by simp)) (HO7.out.alloc _) hm8
  have hbx8 : Below Wx.heap.size Wx w8 := hb70.trans hb78
  have hb8 : Below W.heap.size W w8 := hbx.trans (hbx8.mono hsx)
  obtain ⟨g8, rfl⟩ := own_some ho8 (by omega)
  obtain ⟨_, _, _, hc8⟩ := own_full ho8
  have HL8 : Hid (Lies w8 (some ⟨g8, 0, none⟩) (K + 1 + 1) ((tenB s l ++ [0]).map (Value.int .u8))) := hide (by rw [List.map_append]; exact lies_of_own ho8)
  have HB8 : Hid (Bytes (tenB s l ++ [0])) := hide (fun x hx => by
    rcases List.mem_append.1 hx with h | h
    · exact HTB.out x h
    · simp at h; omega)
  have HX8x := hide (HXX.out.kept hbx8)
  have HP8 := hide (HPx.out.below hbx8)
  have H38 := hide (H3.out.below hbx8)
  have H48 := hide (H4.out.below hbx8)
  clear ho8 hm8 hb78 hbx8 hb70 hbx HXX HPx H3 H4 HO7 HX8 hb7 hs7
  go_wp2_with fail
  refine Calls.mono (tget_err (some ⟨g8, 0, none⟩) (K + 1 + 1) c8 (tenB s l ++ [0]) _ HL8.out HB8.out (by omega) hc8 HMO.out) ?_
  rintro e w9 ⟨rfl, hb90⟩
  have hz9 : Below w8.heap.size w8 (w9.alloc (.cells #[.slice none 0 0, .slice none 0 0] 25)) := hb90.alloc hb90.size _
  have hb9 : Below W.heap.size W (w9.alloc (.cells #[.slice none 0 0, .slice none 0 0] 25)) := hb8.trans (hz9.mono hb8.size)
  have HX9 := hide (HX8x.out.kept hz9)
  have HP9 := hide (HP8.out.below hz9)
  have H39 := hide (H38.out.below hz9)
  have H49 := hide (H48.out.below hz9)
  clear hb90 hz9 hb8 HX8x HP8 H38 H48 HL8 HB8 HMO
  have hk1 : ((K + 1 : Nat) : Int) - 1 = (K : Int) := by omega
  have hk2 : IntKind.i64.wrap (K : Int) = (K : Int) := by rw [IntKind.wrap_i64]; omega
  go_wp2_with fail
  refine Calls.mono (tget_err (some ⟨g, 0, none⟩) K cc ((tenB s l).take K) _ (by rw [List.map_take]; exact HP9.out.take (k := K) (by omega)) (fun x hx => HTB.out x (List.mem_of_mem_take hx)) (by omega) (by omega) HLE.out) ?_
  rintro e w10 ⟨rfl, hb100⟩
  obtain ⟨Wz, hWz⟩ : ∃ Wz, Wz = w10.alloc (.cells #[.slice none 0 0, .slice none 0 0] 25) := ⟨_, rfl⟩
  have hz10 : Below w9.heap.size w9 w10 := (((Below.refl w9.heap.size w9).alloc (Nat.le_refl _) _).trans (hb100.mono (by simp)))
  have hbz0 : Below (w9.alloc (.cells #[.slice none 0 0, .slice none 0 0] 25)).heap.size (w9.alloc (.cells #[.slice none 0 0, .slice none 0 0] 25)) (w10.alloc (.cells #[.slice none 0 0, .slice none 0 0] 25)) := hb100.alloc hb100.size _
  have hb10 : Below W.heap.size W (w10.alloc (.cells #[.slice none 0 0, .slice none 0 0] 25)) := hb9.trans (hbz0.mono hb9.size)
  have HX10 := hide (HX9.out.kept hbz0)
  have H310 := hide (H39.out.below hbz0)
  have H410 := hide (H49.out.below hbz0)
  clear hb100 hz10 hbz0 hb9 HX9 HP9 H39 H49 HTB HLE hWz Wz a0 a1
  obtain ⟨a0, a1⟩ := HK.out _ hb10
  have x0 := HX10.out.c0
  have x1 := HX10.out.c1
  have HSA : Hid (Calls Try.prog 12 #[tenV A3 n c3 A4 m c4, tenV A n c B m d] (w10.alloc (.cells #[.slice none 0 0, .slice none 0 0] 25)) fun e w' => e = .returned (.bool true) ∧ Below W.heap.size W w') := hide (by
    refine (tsame_any A3 A4 A B n c3 m c4 n c m d s l s l _ H310.out H410.out (HA.out.below hb10) (HB.out.below hb10) (by omega) (by omega)).mono ?_
    rintro e w' ⟨rfl, hb⟩
    exact ⟨by simp, hb10.trans (hb.mono hb10.size)⟩)
  have hw1 : IntKind.i64.wrap (1 + (n : Int)) = 1 + (n : Int) := by rw [IntKind.wrap_i64]; omega
  have hw2 : IntKind.i64.wrap (4 * (m : Int)) = 4 * (m : Int) := by rw [IntKind.wrap_i64]; omega
  have hw3 : IntKind.i64.wrap (1 + (n : Int) + 4 * (m : Int)) = (K : Int) + 1 := by rw [IntKind.wrap_i64]; omega
  go_wp2_with fail
  refine Calls.mono HSA.out ?_
  rintro e w11 ⟨rfl, hb11⟩
  clear a0 a1 x0 x1 HSA HX10 H310 H410 hb10
  obtain ⟨a0, a1⟩ := HK.out _ hb11
  go_wp2_with fail
  refine Calls.mono (tget_err A' n' c' bs _ (HS.out.below hb11) HWB.out (by omega) hc' hg) ?_
  rintro e wg ⟨rfl, hbg0⟩
  have hbg : Below W.heap.size W wg := hb11.trans (hbg0.mono hb11.size)
  clear hbg0 hb11
  have HXY : Hid (BoxT (wg.alloc (.cells #[.slice none 0 0, .slice none 0 0] 25)) wg.heap.size (.slice none 0 0) (.slice none 0 0)) := hide (by exact BoxT.new wg _ _)
  have hby : Below W.heap.size W (wg.alloc (.cells #[.slice none 0 0, .slice none 0 0] 25)) := by exact hbg.alloc hbg.size _
  have hgy : Below wg.heap.size wg (wg.alloc (.cells #[.slice none 0 0, .slice none 0 0] 25)) := by exact (Below.refl _ wg).alloc (Nat.le_refl _) _
  have y0 := HXY.out.c0
  have y1 := HXY.out.c1
  go_wp2_with fail
  refine Calls.mono (tput_any none none 0 0 0 0 [] [] _ lies_empty lies_empty (by omega)) ?_
  rintro e wp ⟨P2, kp, cp, rfl, hp, _, hkp, hbp0⟩
  have hbp : Below W.heap.size W wp := hby.trans (hbp0.mono hby.size)
  have y0' := (HXY.out.kept hbp0).c0
  have y1' := (HXY.out.kept hbp0).c1
  have HXP := hide (HXY.out.kept hbp0)
  rw [show tenOk [] 0 = false by rfl]
  clear hp
  clear y0 y1 hby hgy hbp0
  have HBE := hide (HB0.out.trans (hbp.mono hsW))
  go_wp2
  go_ret
  exact ⟨rfl, HBE.out⟩

set_option maxHeartbeats 4000000 in
theorem back5_ok1 (A B A' : Option Addr) (n c m d n' c' : Nat) (s l bs : List Int) (w : World) (hA : Lies w A n (s.map (Value.int .i64))) (hB : Lies w B m (l.map (Value.int .i32))) (hS : Lies w A' n' (bs.map (Value.int .u8)))
    (wl : Words l) (wb : Bytes bs) (hc' : n' ≤ c') (hn : n ≤ 70368744177664) (hm : m ≤ 70368744177664) (hn' : n' ≤ 140737488355328) (hnear : tsz n m + n' ≤ 1048576) (ho : tenOk s m = true) (hg : getOk bs = true) :
    Calls Try.prog 3 #[tenV A n c B m d, .slice A' n' c'] w fun e w' => e = .returned (.bool true) ∧ Below w.heap.size w w' := by
  obtain ⟨W, hW⟩ : ∃ W, W = w.alloc (.cells #[.slice A n c, .slice B m d] 25) := ⟨_, rfl⟩
  have HX0 : Hid (BoxT W w.heap.size (.slice A n c) (.slice B m d)) := hide (by rw [hW]; exact BoxT.new w _ _)
  have HB0 : Hid (Below w.heap.size w W) := hide (by rw [hW]; exact (Below.refl w.heap.size w).alloc (Nat.le_refl _) _)
  have hW' := hW.symm
  clear hW
  have HA := hide (hA.below HB0.out)
  have HB := hide (hB.below HB0.out)
  have HS := hide (hS.below HB0.out)
  have HWL := hide wl
  have HWB := hide wb
  have HL : Hid (l.length = m) := hide (by have := hB.len; simpa using this)
  have HSL : Hid (s.length = n) := hide (by have := hA.len; simpa using this)
  have HBL : Hid (bs.length = n') := hide (by have := hS.len; simpa using this)
  clear hA hB hS wl wb
  have hsW := HB0.out.size
  have a0 := HX0.out.c0
  have a1 := HX0.out.c1
  have HK : Hid (∀ w', Below W.heap.size W w' → w'.cell? ⟨w.heap.size, 0, none⟩ = some (.slice A n c) ∧ w'.cell? ⟨w.heap.size, 1, none⟩ = some (.slice B m d)) := hide (fun w' hb => ⟨(HX0.out.kept hb).c0, (HX0.out.kept hb).c1⟩)
  have hb0 : Below W.heap.size W (W.drewN 1) := below_drewN (Below.refl _ W) 1
  have ht0 := tsz_nonneg' n m
  have ht1 := tsz_le' hn hm
  have HBY : Hid (∀ v : World, Calls Try.prog 6 #[.slice (some ⟨v.heap.size, 0, none⟩) 2 2] (v.alloc (.cells #[.int .i64 (tsz n m : Int), .int .i64 (n' : Int)] 3)) fun e w' => e = .returned (.bool false) ∧ (v.alloc (.cells #[.int .i64 (tsz n m : Int), .int .i64 (n' : Int)] 3)) = w') := hide (fun v =>
    beyond_no (some ⟨v.heap.size, 0, none⟩) 2 2 [(tsz n m : Int), (n' : Int)] _ (lies_lit v .i64 [(tsz n m : Int), (n' : Int)] 3) (by intro z hz; simp at hz; omega) (by simp; omega) (by omega))
  obtain ⟨hn2, hm2⟩ := tsz_small' (n := n) (m := m) (by omega)
  clear ht0 ht1
  go_enter Try.func3, Try.ntmps3
  go_wp2_with fail
  refine Calls.mono (alive5_any _) ?_
  rintro e wA ⟨rfl, hbA0⟩
  have hbA : Below W.heap.size W wA := hbA0
  clear a0 a1 hb0 hbA0
  obtain ⟨a0, a1⟩ := HK.out _ hbA
  go_wp2_with fail
  refine Calls.mono (tsize_any _ _ _ _ _ _ _ (by omega) (by omega)) ?_
  rintro e w2 ⟨rfl, hb20⟩
  have hb2 : Below W.heap.size W w2 := hbA.trans (hb20.mono hbA.size)
  clear a0 a1 hb20 hbA
  obtain ⟨a0, a1⟩ := HK.out _ hb2
  go_wp2_with fail
  refine Calls.mono (HBY.out _) ?_
  rintro e w3 ⟨rfl, hw3⟩
  have hb3 : Below W.heap.size W w3 := by rw [← hw3]; exact hb2.alloc hb2.size _
  clear hw3 hb2
  clear a0 a1
  obtain ⟨a0, a1⟩ := HK.out _ hb3
  obtain ⟨K, hK⟩ : ∃ K, K = n + 4 * m := ⟨_, rfl⟩
  obtain ⟨v1, v2⟩ := tenOk_iff.1 ho
  have v3 := sizeI_pos v1
  have v4 := sizeI_le s
  rw [HSL.out] at v3
  have hm4 : m ≤ 4096 := by omega
  have hn4 : n ≤ 4 := by omega
  have hKm : K ≤ 32768 := by omega
  have HTL : Hid ((tenB s l).length = K + 1) := hide (by rw [tenB_len, HSL.out, HL.out]; omega)
  have HTB : Hid (Bytes (tenB s l)) := hide (tenB_bytes (size_dims v1) (by rw [HSL.out]; omega))
  have HLE : Hid (getOk ((tenB s l).take K) = false) := hide (by
    have h := get_less (s := s) (l := l) (by rw [HL.out]; exact ho)
    rwa [HSL.out, HL.out, show n + 1 + 4 * m - 1 = K by omega] at h)
  have HMO : Hid (getOk (tenB s l ++ [0]) = false) := hide (get_more (s := s) (l := l) (by rw [HL.out]; exact ho) 0)
  have HPUT : Hid (∀ v, Below W.heap.size W v → Calls Try.prog 8 #[tenV A n c B m d] v fun e w' => ∃ g cc, e = .returned (.tuple #[.slice (some ⟨g, 0, none⟩) (K + 1) cc, .int .i64 0]) ∧ Lies w' (some ⟨g, 0, none⟩) (K + 1) ((tenB s l).map (Value.int .u8)) ∧ K + 1 ≤ cc ∧ Below W.heap.size W w') := hide (fun v hv => by
    refine (tput_ok A B n c m d s l v (HA.out.below hv) (HB.out.below hv) ho).mono ?_
    rintro e w' ⟨g, cc, rfl, hown, hb⟩
    rw [show n + 1 + 4 * m = K + 1 by omega] at hown
    obtain ⟨ys, _, _, hle⟩ := own_full hown
    exact ⟨g, cc, by rw [show n + 1 + 4 * m = K + 1 by omega], lies_of_own hown, hle, hv.trans (hb.mono hv.size)⟩)
  have hKn : (1 : Int) + (n : Int) + 4 * (m : Int) = (K : Int) + 1 := by omega
  clear v1 v2 v3 v4 hK
  obtain ⟨i0, hi, hz0, hz1, hz2⟩ := info_parts Try.infoB
  have HI := hide hi
  have HZ0 := hide hz0
  have HZ1 := hide hz1
  have HZ2 := hide hz2
  clear hi hz0 hz1 hz2
  go_wp2_with fail
  refine Calls.mono (HPUT.out _ hb3) ?_
  rintro e w4 ⟨g, cc, rfl, hp, hcc, hb4⟩
  have HP := hide hp
  clear hp hb3
  clear a0 a1
  obtain ⟨a0, a1⟩ := HK.out _ hb4
  go_wp2_with fail
  refine Calls.mono (tcheck_any A B n c m d s _ (HA.out.below hb4) (by omega)) ?_
  rintro e w5 ⟨rfl, hb50⟩
  rw [ho]
  have hb5 : Below W.heap.size W w5 := hb4.trans (hb50.mono hb4.size)
  have HP5 := hide (HP.out.below hb50)
  clear hb50 hb4 HP
  clear a0 a1
  obtain ⟨a0, a1⟩ := HK.out _ hb5
  go_wp2_with fail
  refine Calls.mono (tget_back (some ⟨g, 0, none⟩) cc _ HSL.out HL.out ho HWL.out HTB.out HP5.out hcc (by omega)) ?_
  rintro e w6 ⟨A3, c3, A4, c4, rfl, h3, h4, hb60⟩
  have hb6 : Below W.heap.size W w6 := hb5.trans (hb60.mono hb5.size)
  obtain ⟨Wx, hWx⟩ : ∃ Wx, Wx = w6.alloc (.cells #[.slice A3 n c3, .slice A4 m c4] 25) := ⟨_, rfl⟩
  have HXX : Hid (BoxT Wx w6.heap.size (.slice A3 n c3) (.slice A4 m c4)) := hide (by rw [hWx]; exact BoxT.new w6 _ _)
  have hbx : Below W.heap.size W Wx := by rw [hWx]; exact hb6.alloc hb6.size _
  have hbx0 : Below w6.heap.size w6 Wx := by rw [hWx]; exact (Below.refl _ w6).alloc (Nat.le_refl _) _
  have HPx := hide ((HP5.out.below hb60).below hbx0)
  have H3 := hide (h3.below hbx0)
  have H4 := hide (h4.below hbx0)
  have hWx' := hWx.symm
  clear hWx h3 h4 hb60 hb6 hbx0 hb5 HP5 a0 a1
  obtain ⟨a0, a1⟩ := HK.out _ hbx
  go_wp2_with fail
  refine Calls.mono (twin_Bytes (some ⟨g, 0, none⟩) (K + 1) cc (tenB s l) _ HPx.out (by omega)) ?_
  rintro e w7 ⟨rfl, ho7, hb70⟩
  have hb7 : Below W.heap.size W w7 := hbx.trans (hb70.mono hbx.size)
  have hxlt := HXX.out.lt
  have HO7 : Hid (w7.ownsRow Wx.heap.size 5 1 (.slice (some ⟨Wx.heap.size, 0, none⟩) (K + 1) (K + 1 + 1)) (K + 1) ((tenB s l).map (Value.int .u8))) := hide (own_part ho7 (by simp [HTL.out]) (by omega))
  have hs7 : Wx.heap.size ≤ w7.heap.size := hb70.size
  have hsx := hbx.size
  clear ho7
  have HX8 : Hid ((w7.alloc (.cells #[.int .u8 0] 5)).cell? ⟨w7.heap.size, 0, none⟩ = some (.int .u8 0)) := hide (by have h := cells_new w7 [.int .u8 0] 5 0 _ rfl; rwa [Addr.add_lit] at h)
  go_wp2_with (at_builtin; go_loud (with_reducible refine wpList_append_one rfl (.tmp 47) (.tmp 48) 26 rfl 5 i0 (.int .u8 0) 1 Try.underlying26 HI.out HZ0.out HZ1.out HZ2.out rfl Wx.heap.size (some ⟨Wx.heap.size, 0, none⟩) (K + 1) (K + 1 + 1) ((tenB s l).map (Value.int .u8)) rfl (HO7.out.alloc _) (Nat.le_trans hs7 (by simp)) ⟨w7.heap.size, 0, none⟩ (.int .u8 0) rfl HX8.out rfl (by omega) (by unfold maxLen; omega) ?_))
  rintro A8 c8 w8 ho8 hm8
  have hb78 : Below Wx.heap.size w7 w8 := below_moved ((Below.refl Wx.heap.size w7).alloc hs7 _) (Nat.le_trans hs7 (by simp)) (HO7.out.alloc _) hm8
  have hbx8 : Below Wx.heap.size Wx w8 := hb70.trans hb78
  have hb8 : Below W.heap.size W w8 := hbx.trans (hbx8.mono hsx)
  obtain ⟨g8, rfl⟩ := own_some ho8 (by omega)
  obtain ⟨_, _, _, hc8⟩ := own_full ho8
  have HL8 : Hid (Lies w8 (some ⟨g8, 0, none⟩) (K + 1 + 1) ((tenB s l ++ [0]).map (Value.int .u8))) := hide (by rw [List.map_append]; exact lies_of_own ho8)
  have HB8 : Hid (Bytes (tenB s l ++ [0])) := hide (fun x hx => by
    rcases List.mem_append.1 hx with h | h
    · exact HTB.out x h
    · simp at h; omega)
  have HX8x := hide (HXX.out.kept hbx8)
  have HP8 := hide (HPx.out.below hbx8)
  have H38 := hide (H3.out.below hbx8)
  have H48 := hide (H4.out.below hbx8)
  clear ho8 hm8 hb78 hbx8 hb70 hbx HXX HPx H3 H4 HO7 HX8 hb7 hs7
  go_wp2_with fail
  refine Calls.mono (tget_err (some ⟨g8, 0, none⟩) (K + 1 + 1) c8 (tenB s l ++ [0]) _ HL8.out HB8.out (by omega) hc8 HMO.out) ?_
  rintro e w9 ⟨rfl, hb90⟩
  have hz9 : Below w8.heap.size w8 (w9.alloc (.cells #[.slice none 0 0, .slice none 0 0] 25)) := hb90.alloc hb90.size _
  have hb9 : Below W.heap.size W (w9.alloc (.cells #[.slice none 0 0, .slice none 0 0] 25)) := hb8.trans (hz9.mono hb8.size)
  have HX9 := hide (HX8x.out.kept hz9)
  have HP9 := hide (HP8.out.below hz9)
  have H39 := hide (H38.out.below hz9)
  have H49 := hide (H48.out.below hz9)
  clear hb90 hz9 hb8 HX8x HP8 H38 H48 HL8 HB8 HMO
  have hk1 : ((K + 1 : Nat) : Int) - 1 = (K : Int) := by omega
  have hk2 : IntKind.i64.wrap (K : Int) = (K : Int) := by rw [IntKind.wrap_i64]; omega
  go_wp2_with fail
  refine Calls.mono (tget_err (some ⟨g, 0, none⟩) K cc ((tenB s l).take K) _ (by rw [List.map_take]; exact HP9.out.take (k := K) (by omega)) (fun x hx => HTB.out x (List.mem_of_mem_take hx)) (by omega) (by omega) HLE.out) ?_
  rintro e w10 ⟨rfl, hb100⟩
  obtain ⟨Wz, hWz⟩ : ∃ Wz, Wz = w10.alloc (.cells #[.slice none 0 0, .slice none 0 0] 25) := ⟨_, rfl⟩
  have hz10 : Below w9.heap.size w9 w10 := (((Below.refl w9.heap.size w9).alloc (Nat.le_refl _) _).trans (hb100.mono (by simp)))
  have hbz0 : Below (w9.alloc (.cells #[.slice none 0 0, .slice none 0 0] 25)).heap.size (w9.alloc (.cells #[.slice none 0 0, .slice none 0 0] 25)) (w10.alloc (.cells #[.slice none 0 0, .slice none 0 0] 25)) := hb100.alloc hb100.size _
  have hb10 : Below W.heap.size W (w10.alloc (.cells #[.slice none 0 0, .slice none 0 0] 25)) := hb9.trans (hbz0.mono hb9.size)
  have HX10 := hide (HX9.out.kept hbz0)
  have H310 := hide (H39.out.below hbz0)
  have H410 := hide (H49.out.below hbz0)
  clear hb100 hz10 hbz0 hb9 HX9 HP9 H39 H49 HTB HLE hWz Wz a0 a1
  obtain ⟨a0, a1⟩ := HK.out _ hb10
  have x0 := HX10.out.c0
  have x1 := HX10.out.c1
  have HSA : Hid (Calls Try.prog 12 #[tenV A3 n c3 A4 m c4, tenV A n c B m d] (w10.alloc (.cells #[.slice none 0 0, .slice none 0 0] 25)) fun e w' => e = .returned (.bool true) ∧ Below W.heap.size W w') := hide (by
    refine (tsame_any A3 A4 A B n c3 m c4 n c m d s l s l _ H310.out H410.out (HA.out.below hb10) (HB.out.below hb10) (by omega) (by omega)).mono ?_
    rintro e w' ⟨rfl, hb⟩
    exact ⟨by simp, hb10.trans (hb.mono hb10.size)⟩)
  have hw1 : IntKind.i64.wrap (1 + (n : Int)) = 1 + (n : Int) := by rw [IntKind.wrap_i64]; omega
  have hw2 : IntKind.i64.wrap (4 * (m : Int)) = 4 * (m : Int) := by rw [IntKind.wrap_i64]; omega
  have hw3 : IntKind.i64.wrap (1 + (n : Int) + 4 * (m : Int)) = (K : Int) + 1 := by rw [IntKind.wrap_i64]; omega
  go_wp2_with fail
  refine Calls.mono HSA.out ?_
  rintro e w11 ⟨rfl, hb11⟩
  clear a0 a1 x0 x1 HSA HX10 H310 H410 hb10
  obtain ⟨a0, a1⟩ := HK.out _ hb11
  go_wp2_with fail
  refine Calls.mono (tget_any A' n' c' bs _ (HS.out.below hb11) HWB.out (by omega) hc') ?_
  rintro e wg ⟨A1, q, c1, A2, k, k2, rfl, h1, h2, hq, hk, hbg0⟩
  have hbg : Below W.heap.size W wg := hb11.trans (hbg0.mono hb11.size)
  clear hbg0 hb11
  rw [if_pos hg]
  have H1 := hide h1
  have H2 := hide h2
  clear h1 h2
  obtain ⟨Wy, hWy⟩ : ∃ Wy, Wy = wg.alloc (.cells #[.slice A1 q c1, .slice A2 k k2] 25) := ⟨_, rfl⟩
  have HXY : Hid (BoxT Wy wg.heap.size (.slice A1 q c1) (.slice A2 k k2)) := hide (by rw [hWy]; exact BoxT.new wg _ _)
  have hby : Below W.heap.size W Wy := by rw [hWy]; exact hbg.alloc hbg.size _
  have hgy : Below wg.heap.size wg Wy := by rw [hWy]; exact (Below.refl _ wg).alloc (Nat.le_refl _) _
  have hWy' := hWy.symm
  clear hWy
  have y0 := HXY.out.c0
  have y1 := HXY.out.c1
  go_wp2_with fail
  refine Calls.mono (tput_any A1 A2 q c1 k k2 (gotS bs) (gotL bs) _ (H1.out.below hgy) (H2.out.below hgy) (by omega)) ?_
  rintro e wp ⟨P2, kp, cp, rfl, hp, _, hkp, hbp0⟩
  have hbp : Below W.heap.size W wp := hby.trans (hbp0.mono hby.size)
  have y0' := (HXY.out.kept hbp0).c0
  have y1' := (HXY.out.kept hbp0).c1
  have HXP := hide (HXY.out.kept hbp0)
  obtain ⟨o1, o2⟩ := putB_got HWB.out hg (k := k) (by have := H2.out.len; simpa using this)
  rw [o2] at hp
  rw [if_pos o1]
  have HP2 := hide hp
  have HO1 := hide o1
  have H1p := hide ((H1.out.below hgy).below hbp0)
  clear hp o1 o2
  clear y0 y1 hby hgy hbp0
  have hsp := hbp.size
  have HKY : Hid (∀ w', Below wp.heap.size wp w' → w'.cell? ⟨wg.heap.size, 0, none⟩ = some (.slice A1 q c1) ∧ w'.cell? ⟨wg.heap.size, 1, none⟩ = some (.slice A2 k k2)) := hide (fun w' hb => ⟨(HXP.out.kept hb).c0, (HXP.out.kept hb).c1⟩)
  have hp0 : Below wp.heap.size wp (wp.drewN 1) := below_drewN (Below.refl _ wp) 1
  have HC1 : Hid (∀ v, Below wp.heap.size wp v → Calls Try.prog 9 #[tenV A1 q c1 A2 k k2] v fun e w' => e = .returned (.bool true) ∧ Below wp.heap.size wp w') := hide (fun v hv => (tcheck_any A1 A2 q c1 k k2 (gotS bs) v (H1p.out.below hv) (by omega)).mono (by rintro e w' ⟨rfl, hb⟩; exact ⟨by rw [HO1.out], hv.trans (hb.mono hv.size)⟩))
  have HC2 : Hid (∀ v, Below wp.heap.size wp v → Calls Try.prog 13 #[.slice P2 kp cp, .slice A' n' c'] v fun e w' => e = .returned (.bool true) ∧ Below wp.heap.size wp w') := hide (fun v hv => (sameG_Bytes P2 A' kp cp n' c' bs bs v (HP2.out.below hv) ((HS.out.below hbp).below hv) (by omega)).mono (by rintro e w' ⟨rfl, j, rfl⟩; exact ⟨by simp, below_drewN hv j⟩))
  go_wp2_with fail
  refine Calls.mono (HC1.out _ (Below.refl _ wp)) ?_
  rintro e wC ⟨rfl, hbC⟩
  go_wp2_with fail
  refine Calls.mono (HC2.out _ hbC) ?_
  rintro e wS ⟨rfl, hbS⟩
  have HBE := hide (HB0.out.trans ((hbp.trans (hbS.mono hsp)).mono hsW))
  go_wp2
  go_ret
  exact ⟨rfl, HBE.out⟩

theorem back5_any (A B A' : Option Addr) (n c m d n' c' : Nat) (s l bs : List Int) (w : World) (hA : Lies w A n (s.map (Value.int .i64))) (hB : Lies w B m (l.map (Value.int .i32))) (hS : Lies w A' n' (bs.map (Value.int .u8)))
    (wl : Words l) (wb : Bytes bs) (hc' : n' ≤ c') (hn : n * 8 ≤ 140737488351232) (hm : m * 4 ≤ 140737488351232) (hn' : n' ≤ 140737488351232) :
    Calls Try.prog 3 #[tenV A n c B m d, .slice A' n' c'] w fun e w' => e = .returned (.bool true) ∧ Below w.heap.size w w' := by
  by_cases h : tsz n m + n' ≤ 1048576
  · by_cases ho : tenOk s m = true
    · by_cases hg : getOk bs = true
      · exact back5_ok1 A B A' n c m d n' c' s l bs w hA hB hS wl wb hc' (by omega) (by omega) (by omega) h ho hg
      · exact back5_ok0 A B A' n c m d n' c' s l bs w hA hB hS wl wb hc' (by omega) (by omega) (by omega) h ho (by simpa using hg)
    · by_cases hg : getOk bs = true
      · exact back5_bad1 A B A' n c m d n' c' s l bs w hA hB hS wl wb hc' (by omega) (by omega) (by omega) h (by simpa using ho) hg
      · exact back5_bad0 A B A' n c m d n' c' s l bs w hA hB hS wl wb hc' (by omega) (by omega) (by omega) h (by simpa using ho) (by simpa using hg)
  · exact back5_far A B A' n c m d n' c' s l bs w hA hB hS wl wb hc' (by omega) (by omega) (by omega) (by omega)
end Go.Proofs.Ytaoobdnbjagpnaa
