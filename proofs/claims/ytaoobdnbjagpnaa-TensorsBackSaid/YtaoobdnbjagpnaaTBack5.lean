/- TensorsBack holds for every tensor and any bytes: the walk of its Go text. -/
import Derived.Test.YtaoobdnbjagpnaaTMath2
import Derived.Test.YtaoobdnbjagpnaaTLaw
import Derived.Test.YtaoobdnbjagpnaaAlive5
import Derived.Test.YtaoobdnbjagpnaaBeyond
namespace Go.Proofs.Ytaoobdnbjagpnaa
open Go.RowKit
set_option linter.unusedVariables false
set_option linter.unusedSimpArgs false
set_option maxRecDepth 100000

theorem tsz_nonneg' (n m : Nat) : 0 ≤ (tsz n m : Int) := by omega
theorem tsz_le' {n m N : Nat} (hn : n ≤ N) (hm : m ≤ N) : (tsz n m : Int) ≤ 1 + 2 * N := by unfold tsz; split <;> omega
theorem tsz_small' {n m : Nat} (h : tsz n m ≤ 1048576) : n ≤ 1048576 ∧ m ≤ 1048576 := by unfold tsz at h; split at h <;> omega

/-- What Get answers to the bytes of a tensor. -/
theorem tget_back {n m k : Nat} {s l : List Int} (P : Option Addr) (cc : Nat) (w : World) (hs : s.length = n) (hl : l.length = m) (hok : tenOk s m = true) (hw : Words l) (hby : Bytes (tenB s l)) (h : Lies w P k ((tenB s l).map (Value.int .u8))) (hk : k ≤ cc) (hkm : k ≤ 281474976710656) :
    Calls Try.prog 10 #[.slice P k cc] w fun e w' => ∃ A1 c1 A2 k2, e = .returned (.tuple #[tenV A1 n c1 A2 m k2, .int .i64 0]) ∧ Lies w' A1 n (s.map (Value.int .i64)) ∧ Lies w' A2 m (l.map (Value.int .i32)) ∧ Below w.heap.size w w' := by
  obtain ⟨g1, g2, g3⟩ := get_back (s := s) (l := l) (by rw [hl]; exact hok) hw
  refine (tget_any P k cc (tenB s l) w h hby hkm hk).mono ?_
  rintro e w' ⟨A1, q, c1, A2, k', k2, rfl, h1, h2, _, _, hb⟩
  rw [g2] at h1
  rw [g3] at h2
  have e1 : q = n := by have := h1.len; simp at this; omega
  have e2 : k' = m := by have := h2.len; simp at this; omega
  subst e1 e2
  exact ⟨A1, c1, A2, k2, by rw [if_pos g1], h1, h2, hb⟩

set_option maxHeartbeats 4000000 in
theorem back5_far (A B A' : Option Addr) (n c m d n' c' : Nat) (s l bs : List Int) (w : World) (hA : Lies w A n (s.map (Value.int .i64))) (hB : Lies w B m (l.map (Value.int .i32))) (hS : Lies w A' n' (bs.map (Value.int .u8)))
    (wl : Words l) (wb : Bytes bs) (hc' : n' ≤ c') (hn : n ≤ 70368744177664) (hm : m ≤ 70368744177664) (hn' : n' ≤ 140737488355328) (hfar : 1048576 < tsz n m + n') :
    Calls Try.prog 3 #[tenV A n c B m d, .slice A' n' c'] w fun e w' => e = .returned (.bool true) ∧ Below w.heap.size w w' := by
  obtain ⟨W, hW⟩ : ∃ W, W = w.alloc (.cells #[.slice A n c, .slice B m d] 25) := ⟨_, rfl⟩
  have HX0 : Hid (BoxT W w.heap.size (.slice A n c) (.slice B m d)) := hide (by rw [hW]; exact BoxT.new w _ _)
  have HB0 : Hid (Below w.heap.size w W) := hide (by rw [hW]; exact (Below.refl w.heap.size w).alloc (Nat.le_refl _) _)
  have hW' := hW.symm
  clear hW
  have HA := hide (hA.below HB0.out)
  have HB := hide (hB.below HB0.out)
  have HS := hide (hS.below HB0.out)
  have HWL := hide wl
  have HWB := hide wb
  have HL : Hid (l.length = m) := hide (by have := hB.len; simpa using this)
  have HSL : Hid (s.length = n) := hide (by have := hA.len; simpa using this)
  have HBL : Hid (bs.length = n') := hide (by have := hS.len; simpa using this)
  clear hA hB hS wl wb
  have hsW := HB0.out.size
  have a0 := HX0.out.c0
  have a1 := HX0.out.c1
  have HK : Hid (∀ w', Below W.heap.size W w' → w'.cell? ⟨w.heap.size, 0, none⟩ = some (.slice A n c) ∧ w'.cell? ⟨w.heap.size, 1, none⟩ = some (.slice B m d)) := hide (fun w' hb => ⟨(HX0.out.kept hb).c0, (HX0.out.kept hb).c1⟩)
  have hb0 : Below W.heap.size W (W.drewN 1) := below_drewN (Below.refl _ W) 1
  have ht0 := tsz_nonneg' n m
  have ht1 := tsz_le' hn hm
  have HBY : Hid (∀ v : World, Calls Try.prog 6 #[.slice (some ⟨v.heap.size, 0, none⟩) 2 2] (v.alloc (.cells #[.int .i64 (tsz n m : Int), .int .i64 (n' : Int)] 3)) fun e w' => e = .returned (.bool true) ∧ (v.alloc (.cells #[.int .i64 (tsz n m : Int), .int .i64 (n' : Int)] 3)) = w') := hide (fun v =>
    beyond_yes (some ⟨v.heap.size, 0, none⟩) 2 2 [(tsz n m : Int), (n' : Int)] _ (lies_lit v .i64 [(tsz n m : Int), (n' : Int)] 3) (by intro z hz; simp at hz; omega) (by simp; omega) (by omega))
  clear ht0 ht1
  go_enter Try.func3, Try.ntmps3
  go_wp2_with fail
  refine Calls.mono (alive5_any _) ?_
  rintro e wA ⟨rfl, hbA0⟩
  have hbA : Below W.heap.size W wA := hbA0
  clear a0 a1 hb0 hbA0
  obtain ⟨a0, a1⟩ := HK.out _ hbA
  go_wp2_with fail
  refine Calls.mono (tsize_any _ _ _ _ _ _ _ (by omega) (by omega)) ?_
  rintro e w2 ⟨rfl, hb20⟩
  have hb2 : Below W.heap.size W w2 := hbA.trans (hb20.mono hbA.size)
  clear a0 a1 hb20 hbA
  obtain ⟨a0, a1⟩ := HK.out _ hb2
  go_wp2_with fail
  refine Calls.mono (HBY.out _) ?_
  rintro e w3 ⟨rfl, hw3⟩
  have hb3 : Below W.heap.size W w3 := by rw [← hw3]; exact hb2.alloc hb2.size _
  clear hw3 hb2
  clear a0 a1
  have HB3 := hide (HB0.out.trans (hb3.mono hsW))
  have hs3 := HB3.out.size
  go_wp2_with fail
  refine Calls.mono (alive5_any _) ?_
  rintro e w4 ⟨rfl, hb4⟩
  have HB4 := hide (HB3.out.trans (hb4.mono hs3))
  clear hb4
  go_wp2
  go_ret
  exact ⟨rfl, HB4.out⟩

set_option maxHeartbeats 4000000 in
theorem back5_bad0 (A B A' : Option Addr) (n c m d n' c' : Nat) (s l bs : List Int) (w : World) (hA : Lies w A n (s.map (Value.int .i64))) (hB : Lies w B m (l.map (Value.int .i32))) (hS : Lies w A' n' (bs.map (Value.int .u8)))
    (wl : Words l) (wb : Bytes bs) (hc' : n' ≤ c') (hn : n ≤ 70368744177664) (hm : m ≤ 70368744177664) (hn' : n' ≤ 140737488355328) (hnear : tsz n m + n' ≤ 1048576) (ho : tenOk s m = false) (hg : getOk bs = false) :
    Calls Try.prog 3 #[tenV A n c B m d, .slice A' n' c'] w fun e w' => e = .returned (.bool true) ∧ Below w.heap.size w w' := by
  obtain ⟨W, hW⟩ : ∃ W, W = w.alloc (.cells #[.slice A n c, .slice B m d] 25) := ⟨_, rfl⟩
  have HX0 : Hid (BoxT W w.heap.size (.slice A n c) (.slice B m d)) := hide (by rw [hW]; exact BoxT.new w _ _)
  have HB0 : Hid (Below w.heap.size w W) := hide (by rw [hW]; exact (Below.refl w.heap.size w).alloc (Nat.le_refl _) _)
  have hW' := hW.symm
  clear hW
  have HA := hide (hA.below HB0.out)
  have HB := hide (hB.below HB0.out)
  have HS := hide (hS.below HB0.out)
  have HWL := hide wl
  have HWB := hide wb
  have HL : Hid (l.length = m) := hide (by have := hB.len; simpa using this)
  have HSL : Hid (s.length = n) := hide (by have := hA.len; simpa using this)
  have HBL : Hid (bs.length = n') := hide (by have := hS.len; simpa using this)
  clear hA hB hS wl wb
  have hsW := HB0.out.size
  have a0 := HX0.out.c0
  have a1 := HX0.out.c1
  have HK : Hid (∀ w', Below W.heap.size W w' → w'.cell? ⟨w.heap.size, 0, none⟩ = some (.slice A n c) ∧ w'.cell? ⟨w.heap.size, 1, none⟩ = some (.slice B m d)) := hide (fun w' hb => ⟨(HX0.out.kept hb).c0, (HX0.out.kept hb).c1⟩)
  have hb0 : Below W.heap.size W (W.drewN 1) := below_drewN (Below.refl _ W) 1
  have ht0 := tsz_nonneg' n m
  have ht1 := tsz_le' hn hm
  have HBY : Hid (∀ v : World, Calls Try.prog 6 #[.slice (some ⟨v.heap.size, 0, none⟩) 2 2] (v.alloc (.cells #[.int .i64 (tsz n m : Int), .int .i64 (n' : Int)] 3)) fun e w' => e = .returned (.bool false) ∧ (v.alloc (.cells #[.int .i64 (tsz n m : Int), .int .i64 (n' : Int)] 3)) = w') := hide (fun v =>
    beyond_no (some ⟨v.heap.size, 0, none⟩) 2 2 [(tsz n m : Int), (n' : Int)] _ (lies_lit v .i64 [(tsz n m : Int), (n' : Int)] 3) (by intro z hz; simp at hz; omega) (by simp; omega) (by omega))
  obtain ⟨hn2, hm2⟩ := tsz_small' (n := n) (m := m) (by omega)
  clear ht0 ht1
  go_enter Try.func3, Try.ntmps3
  go_wp2_with fail
  refine Calls.mono (alive5_any _) ?_
  rintro e wA ⟨rfl, hbA0⟩
  have hbA : Below W.heap.size W wA := hbA0
  clear a0 a1 hb0 hbA0
  obtain ⟨a0, a1⟩ := HK.out _ hbA
  go_wp2_with fail
  refine Calls.mono (tsize_any _ _ _ _ _ _ _ (by omega) (by omega)) ?_
  rintro e w2 ⟨rfl, hb20⟩
  have hb2 : Below W.heap.size W w2 := hbA.trans (hb20.mono hbA.size)
  clear a0 a1 hb20 hbA
  obtain ⟨a0, a1⟩ := HK.out _ hb2
  go_wp2_with fail
  refine Calls.mono (HBY.out _) ?_
  rintro e w3 ⟨rfl, hw3⟩
  have hb3 : Below W.heap.size W w3 := by rw [← hw3]; exact hb2.alloc hb2.size _
  clear hw3 hb2
  clear a0 a1
  obtain ⟨a0, a1⟩ := HK.out _ hb3
  go_wp2_with fail
  refine Calls.mono (tput_any A B n c m d s l _ (HA.out.below hb3) (HB.out.below hb3) (by omega)) ?_
  rintro e w4 ⟨P, k, cc, rfl, hp, _, hk, hb40⟩
  rw [ho]
  have hb4 : Below W.heap.size W w4 := hb3.trans (hb40.mono hb3.size)
  clear hp hb40 hb3
  clear a0 a1
  obtain ⟨a0, a1⟩ := HK.out _ hb4
  go_wp2_with fail
  refine Calls.mono (tcheck_any A B n c m d s _ (HA.out.below hb4) (by omega)) ?_
  rintro e w5 ⟨rfl, hb50⟩
  rw [ho]
  have hb5 : Below W.heap.size W w5 := hb4.trans (hb50.mono hb4.size)
  clear hb50 hb4 a0 a1
  go_wp2_with fail
  refine Calls.mono (tget_err A' n' c' bs _ (HS.out.below hb5) HWB.out (by omega) hc' hg) ?_
  rintro e wg ⟨rfl, hbg0⟩
  have hbg : Below W.heap.size W wg := hb5.trans (hbg0.mono hb5.size)
  clear hbg0 hb5
  have HXY : Hid (BoxT (wg.alloc (.cells #[.slice none 0 0, .slice none 0 0] 25)) wg.heap.size (.slice none 0 0) (.slice none 0 0)) := hide (by exact BoxT.new wg _ _)
  have hby : Below W.heap.size W (wg.alloc (.cells #[.slice none 0 0, .slice none 0 0] 25)) := by exact hbg.alloc hbg.size _
  have hgy : Below wg.heap.size wg (wg.alloc (.cells #[.slice none 0 0, .slice none 0 0] 25)) := by exact (Below.refl _ wg).alloc (Nat.le_refl _) _
  have y0 := HXY.out.c0
  have y1 := HXY.out.c1
  go_wp2_with fail
  refine Calls.mono (tput_any none none 0 0 0 0 [] [] _ lies_empty lies_empty (by omega)) ?_
  rintro e wp ⟨P2, kp, cp, rfl, hp, _, hkp, hbp0⟩
  have hbp : Below W.heap.size W wp := hby.trans (hbp0.mono hby.size)
  have y0' := (HXY.out.kept hbp0).c0
  have y1' := (HXY.out.kept hbp0).c1
  have HXP := hide (HXY.out.kept hbp0)
  rw [show tenOk [] 0 = false by rfl]
  clear hp
  clear y0 y1 hby hgy hbp0
  have HBE := hide (HB0.out.trans (hbp.mono hsW))
  go_wp2
  go_ret
  exact ⟨rfl, HBE.out⟩

set_option maxHeartbeats 4000000 in
theorem back5_bad1 (A B A' : Option Addr) (n c m d n' c' : Nat) (s l bs : List Int) (w : World) (hA : Lies w A n (s.map (Value.int .i64))) (hB : Lies w B m (l.map (Value.int .i32))) (hS : Lies w A' n' (bs.map (Value.int .u8)))
    (wl : Words l) (wb : Bytes bs) (hc' : n' ≤ c') (hn : n ≤ 70368744177664) (hm : m ≤ 70368744177664) (hn' : n' ≤ 140737488355328) (hnear : tsz n m + n' ≤ 1048576) (ho : tenOk s m = false) (hg : getOk bs = true) :
    Calls Try.prog 3 #[tenV A n c B m d, .slice A' n' c'] w fun e w' => e = .returned (.bool true) ∧ Below w.heap.size w w' := by
  obtain ⟨W, hW⟩ : ∃ W, W = w.alloc (.cells #[.slice A n c, .slice B m d] 25) := ⟨_, rfl⟩
  have HX0 : Hid (BoxT W w.heap.size (.slice A n c) (.slice B m d)) := hide (by rw [hW]; exact BoxT.new w _ _)
  have HB0 : Hid (Below w.heap.size w W) := hide (by rw [hW]; exact (Below.refl w.heap.size w).alloc (Nat.le_refl _) _)
  have hW' := hW.symm
  clear hW
  have HA := hide (hA.below HB0.out)
  have HB := hide (hB.below HB0.out)
  have HS := hide (hS.below HB0.out)
  have HWL := hide wl
  have HWB := hide wb
  have HL : Hid (l.length = m) := hide (by have := hB.len; simpa using this)
  have HSL : Hid (s.length = n) := hide (by have := hA.len; simpa using this)
  have HBL : Hid (bs.length = n') := hide (by have := hS.len; simpa using this)
  clear hA hB hS wl wb
  have hsW := HB0.out.size
  have a0 := HX0.out.c0
  have a1 := HX0.out.c1
  have HK : Hid (∀ w', Below W.heap.size W w' → w'.cell? ⟨w.heap.size, 0, none⟩ = some (.slice A n c) ∧ w'.cell? ⟨w.heap.size, 1, none⟩ = some (.slice B m d)) := hide (fun w' hb => ⟨(HX0.out.kept hb).c0, (HX0.out.kept hb).c1⟩)
  have hb0 : Below W.heap.size W (W.drewN 1) := below_drewN (Below.refl _ W) 1
  have ht0 := tsz_nonneg' n m
  have ht1 := tsz_le' hn hm
  have HBY : Hid (∀ v : World, Calls Try.prog 6 #[.slice (some ⟨v.heap.size, 0, none⟩) 2 2] (v.alloc (.cells #[.int .i64 (tsz n m : Int), .int .i64 (n' : Int)] 3)) fun e w' => e = .returned (.bool false) ∧ (v.alloc (.cells #[.int .i64 (tsz n m : Int), .int .i64 (n' : Int)] 3)) = w') := hide (fun v =>
    beyond_no (some ⟨v.heap.size, 0, none⟩) 2 2 [(tsz n m : Int), (n' : Int)] _ (lies_lit v .i64 [(tsz n m : Int), (n' : Int)] 3) (by intro z hz; simp at hz; omega) (by simp; omega) (by omega))
  obtain ⟨hn2, hm2⟩ := tsz_small' (n := n) (m := m) (by omega)
  clear ht0 ht1
  go_enter Try.func3, Try.ntmps3
  go_wp2_with fail
  refine Calls.mono (alive5_any _) ?_
  rintro e wA ⟨rfl, hbA0⟩
  have hbA : Below W.heap.size W wA := hbA0
  clear a0 a1 hb0 hbA0
  obtain ⟨a0, a1⟩ := HK.out _ hbA
  go_wp2_with fail
  refine Calls.mono (tsize_any _ _ _ _ _ _ _ (by omega) (by omega)) ?_
  rintro e w2 ⟨rfl, hb20⟩
  have hb2 : Below W.heap.size W w2 := hbA.trans (hb20.mono hbA.size)
  clear a0 a1 hb20 hbA
  obtain ⟨a0, a1⟩ := HK.out _ hb2
  go_wp2_with fail
  refine Calls.mono (HBY.out _) ?_
  rintro e w3 ⟨rfl, hw3⟩
  have hb3 : Below W.heap.size W w3 := by rw [← hw3]; exact hb2.alloc hb2.size _
  clear hw3 hb2
  clear a0 a1
  obtain ⟨a0, a1⟩ := HK.out _ hb3
  go_wp2_with fail
  refine Calls.mono (tput_any A B n c m d s l _ (HA.out.below hb3) (HB.out.below hb3) (by omega)) ?_
  rintro e w4 ⟨P, k, cc, rfl, hp, _, hk, hb40⟩
  rw [ho]
  have hb4 : Below W.heap.size W w4 := hb3.trans (hb40.mono hb3.size)
  clear hp hb40 hb3
  clear a0 a1
  obtain ⟨a0, a1⟩ := HK.out _ hb4
  go_wp2_with fail
  refine Calls.mono (tcheck_any A B n c m d s _ (HA.out.below hb4) (by omega)) ?_
  rintro e w5 ⟨rfl, hb50⟩
  rw [ho]
  have hb5 : Below W.heap.size W w5 := hb4.trans (hb50.mono hb4.size)
  clear hb50 hb4 a0 a1
  go_wp2_with fail
  refine Calls.mono (tget_any A' n' c' bs _ (HS.out.below hb5) HWB.out (by omega) hc') ?_
  rintro e wg ⟨A1, q, c1, A2, k, k2, rfl, h1, h2, hq, hk, hbg0⟩
  have hbg : Below W.heap.size W wg := hb5.trans (hbg0.mono hb5.size)
  clear hbg0 hb5
  rw [if_pos hg]
  have H1 := hide h1
  have H2 := hide h2
  clear h1 h2
  obtain ⟨Wy, hWy⟩ : ∃ Wy, Wy = wg.alloc (.cells #[.slice A1 q c1, .slice A2 k k2] 25) := ⟨_, rfl⟩
  have HXY : Hid (BoxT Wy wg.heap.size (.slice A1 q c1) (.slice A2 k k2)) := hide (by rw [hWy]; exact BoxT.new wg _ _)
  have hby : Below W.heap.size W Wy := by rw [hWy]; exact hbg.alloc hbg.size _
  have hgy : Below wg.heap.size wg Wy := by rw [hWy]; exact (Below.refl _ wg).alloc (Nat.le_refl _) _
  have hWy' := hWy.symm
  clear hWy
  have y0 := HXY.out.c0
  have y1 := HXY.out.c1
  go_wp2_with fail
  refine Calls.mono (tput_any A1 A2 q c1 k k2 (gotS bs) (gotL bs) _ (H1.out.below hgy) (H2.out.below hgy) (by omega)) ?_
  rintro e wp ⟨P2, kp, cp, rfl, hp, _, hkp, hbp0⟩
  have hbp : Below W.heap.size W wp := hby.trans (hbp0.mono hby.size)
  have y0' := (HXY.out.kept hbp0).c0
  have y1' := (HXY.out.kept hbp0).c1
  have HXP := hide (HXY.out.kept hbp0)
  obtain ⟨o1, o2⟩ := putB_got HWB.out hg (k := k) (by have := H2.out.len; simpa using this)
  rw [o2] at hp
  rw [if_pos o1]
  have HP2 := hide hp
  have HO1 := hide o1
  have H1p := hide ((H1.out.below hgy).below hbp0)
  clear hp o1 o2
  clear y0 y1 hby hgy hbp0
  have hsp := hbp.size
  have HKY : Hid (∀ w', Below wp.heap.size wp w' → w'.cell? ⟨wg.heap.size, 0, none⟩ = some (.slice A1 q c1) ∧ w'.cell? ⟨wg.heap.size, 1, none⟩ = some (.slice A2 k k2)) := hide (fun w' hb => ⟨(HXP.out.kept hb).c0, (HXP.out.kept hb).c1⟩)
  have hp0 : Below wp.heap.size wp (wp.drewN 1) := below_drewN (Below.refl _ wp) 1
  have HC1 : Hid (∀ v, Below wp.heap.size wp v → Calls Try.prog 9 #[tenV A1 q c1 A2 k k2] v fun e w' => e = .returned (.bool true) ∧ Below wp.heap.size wp w') := hide (fun v hv => (tcheck_any A1 A2 q c1 k k2 (gotS bs) v (H1p.out.below hv) (by omega)).mono (by rintro e w' ⟨rfl, hb⟩; exact ⟨by rw [HO1.out], hv.trans (hb.mono hv.size)⟩))
  have HC2 : Hid (∀ v, Below wp.heap.size wp v → Calls Try.prog 13 #[.slice P2 kp cp, .slice A' n' c'] v fun e w' => e = .returned (.bool true) ∧ Below wp.heap.size wp w') := hide (fun v hv => (sameG_Bytes P2 A' kp cp n' c' bs bs v (HP2.out.below hv) ((HS.out.below hbp).below hv) (by omega)).mono (by rintro e w' ⟨rfl, j, rfl⟩; exact ⟨by simp, below_drewN hv j⟩))
  go_wp2_with fail
  refine Calls.mono (HC1.out _ (Below.refl _ wp)) ?_
  rintro e wC ⟨rfl, hbC⟩
  go_wp2_with fail
  refine Calls.mono (HC2.out _ hbC) ?_
  rintro e wS ⟨rfl, hbS⟩
  have HBE := hide (HB0.out.trans ((hbp.trans (hbS.mono hsp)).mono hsW))
  go_wp2
  go_ret
  exact ⟨rfl, HBE.out⟩

end Go.Proofs.Ytaoobdnbjagpnaa
