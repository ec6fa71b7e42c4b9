/- Merged: Od10, Od11, Needs12. -/
import Derived.Test.YteagmlaahnpkhaaWZ25
import Derived.Test.YteagmlaahnpkhaaWZ08
namespace Go.Proofs.Yteagmlaahnpkhaa

section
open Go.RowKit
set_option linter.unusedVariables false
set_option linter.unusedSimpArgs false
set_option maxRecDepth 100000

theorem kn12_alive (q : Nat) : gphB (kn12 q) = true ∧ ordB (kn12 q) [0, 1, 3, 4] = true ∧ ordB (kn12 q) [0, 0] = false ∧ ordB (kn12 q) [5] = false := ⟨by kernel_rfl, by kernel_rfl, by kernel_rfl, by kernel_rfl⟩

theorem kn12_ans (q : Nat) : nxL (kn12 q) [0, 1, 3, 4] 0 = [1, 3, -1, 3, 4] ∧ nxL (kn12 q) [0, 1, 3, 4] 3 = [-1, 3, -1, 3, 4] ∧ usL (kn12 q) [0, 1, 3, 4] = [3, 1, 0, 1, 0] := ⟨by kernel_rfl, by kernel_rfl, by kernel_rfl⟩

theorem kn12_ins (q k : Nat) : insN (kn12 q) k = if k = 1 then [0] else if k = 3 then [0, 0] else if k = 4 then [3, 1] else [] := by
  match k with
  | 0 => rfl
  | 1 => rfl
  | 2 => rfl
  | 3 => rfl
  | 4 => rfl
  | k + 5 => simp [insN, kn12]

theorem kn12_need (q : Nat) : IsNeed (kn12 q) 4 [0, 1, 3, 4] := by
  refine ⟨fun j => j == 0 || j == 1 || j == 3 || j == 4, fun j => ?_, by kernel_rfl⟩
  have h4 : Need (kn12 q) 4 4 := Need.refl _ _
  have h3 : Need (kn12 q) 4 3 := h4.step (by rw [kn12_ins]; decide)
  have h1 : Need (kn12 q) 4 1 := h4.step (by rw [kn12_ins]; decide)
  have h0 : Need (kn12 q) 4 0 := h1.step (by rw [kn12_ins]; decide)
  simp only [Bool.or_eq_true, beq_iff_eq]
  constructor
  · rintro (((rfl | rfl) | rfl) | rfl)
    · exact h0
    · exact h1
    · exact h3
    · exact h4
  · intro h
    refine h (fun j => ((j = 0 ∨ j = 1) ∨ j = 3) ∨ j = 4) (.inr rfl) ?_
    rintro k l (((rfl | rfl) | rfl) | rfl) hl
    · rw [kn12_ins] at hl; simp at hl
    · rw [kn12_ins] at hl; simp at hl; omega
    · rw [kn12_ins] at hl; simp at hl; omega
    · rw [kn12_ins] at hl; simp at hl; omega

theorem RwAt.lies2 {w0 w : World} {g n : Nat} {xs : List Int} (h : RwAt w0 w g (xs.map (Value.int .i64))) (hn : xs.length = n) : Lies w (some ⟨g, 0, none⟩) n (xs.map (Value.int .i64)) := h.lies (by rw [List.length_map, hn])

set_option maxHeartbeats 16000000 in
theorem alive12_any (w : World) : Calls Try.prog 8 #[] w fun e w' => e = .returned (.bool true) ∧ Below w.heap.size w w' := by
  obtain ⟨q, hq⟩ : ∃ q, q = w.heap.size := ⟨_, rfl⟩
  obtain ⟨a1, a2, a3, a4⟩ := kn12_alive q
  obtain ⟨n1, n2, n3⟩ := kn12_ans q
  have HK := hide (known12_any w)
  rw [← hq] at HK
  have HA1 := hide a1
  have HA2 := hide a2
  have HA3 := hide a3
  have HA4 := hide a4
  have HN1 := hide n1
  have HN2 := hide n2
  have HN3 := hide n3
  clear a1 a2 a3 a4 n1 n2 n3
  have HQ := hide hq
  clear hq
  go_enter Try.func8, Try.ntmps8
  go_wp2_with fail
  refine Calls.mono HK.out ?_
  rintro e w1 ⟨rfl, hn, hb⟩
  rw [HQ.out] at hb
  obtain ⟨p, hp⟩ : ∃ p, p = w1.heap.size := ⟨_, rfl⟩
  obtain ⟨V, hV⟩ : ∃ V, V = w1.alloc (.cells #[.slice (some ⟨q + 6, 0, none⟩) 5 5] 24) := ⟨_, rfl⟩
  have hbx : BoxG V p (.slice (some ⟨q + 6, 0, none⟩) 5 5) := by rw [hV, hp]; exact BoxG.new w1 _
  have hbv : Below w1.heap.size w1 V := by rw [hV]; exact below_al6 (Below.refl _ _)
  have HX := hide hbx
  have HN := hide (hn.below hbv)
  have HB := hide (hb.trans (hbv.mono hb.size))
  have hV' := hV.symm
  have hp' := hp.symm
  clear hV hp hbx hbv hn hb HK
  obtain ⟨r, hr⟩ : ∃ r, r = V.heap.size := ⟨_, rfl⟩
  obtain ⟨U, hU⟩ : ∃ U, U = V.alloc (.cells #[.int .i64 0, .int .i64 1, .int .i64 3, .int .i64 4] 3) := ⟨_, rfl⟩
  have hbu : Below V.heap.size V U := by rw [hU]; exact below_al6 (Below.refl _ _)
  have HO : Hid (Lies U (some ⟨r, 0, none⟩) 4 (([0, 1, 3, 4] : List Int).map (Value.int .i64))) := hide (by rw [hU, hr]; exact lit_lies V .i64 [0, 1, 3, 4] 3)
  replace HX := hide (HX.out.kept hbu)
  replace HN := hide (HN.out.below hbu)
  replace HB := hide (HB.out.trans (hbu.mono HB.out.size))
  have hU' := hU.symm
  have hr' := hr.symm
  clear hU hr hbu
  have cx := HX.out.c0
  have HCON := hide (of12_ok (some ⟨q + 6, 0, none⟩) 5 5 (kn12 q) U HN.out (by omega) (by omega) HA1.out)
  go_wp2_with fail
  refine Calls.mono HCON.out ?_
  rintro e v1 ⟨Aa, ka, ca, La, rfl, hoa, hna, hb⟩
  obtain rfl : La = [0, 1, 3, 4] := hna.uniq (kn12_need q)
  have HAA := hide (lies_of_own hoa)
  have HKA : Hid (ka = 4) := hide (by have h := hoa.1; simpa using h.symm)
  have hz : Below U.heap.size U v1 := hb
  replace HX := hide (HX.out.kept hz)
  replace HN := hide (HN.out.below hz)
  replace HO := hide (HO.out.below hz)
  replace HB := hide (HB.out.trans (hz.mono HB.out.size))
  clear hz
  clear hoa hna hb
  clear cx HCON
  have cx := HX.out.c0
  have HCON := hide (next12_ok (some ⟨q + 6, 0, none⟩) (some ⟨r, 0, none⟩) 5 5 4 4 0 (kn12 q) [0, 1, 3, 4] (-1) v1 HN.out (by omega) (by omega) HO.out (by omega) (by omega) HA2.out (by omega) (by omega))
  go_wp2_with fail
  refine Calls.mono HCON.out ?_
  rintro e v2 ⟨gb, rfl, hb⟩
  rw [HN1.out] at hb
  have HRb := hide (hb.lies2 (n := 5) rfl)
  have hz : Below v1.heap.size v1 v2 := hb.1
  replace HX := hide (HX.out.kept hz)
  replace HN := hide (HN.out.below hz)
  replace HO := hide (HO.out.below hz)
  replace HAA := hide (HAA.out.below hz)
  replace HB := hide (HB.out.trans (hz.mono HB.out.size))
  clear hz
  clear hb
  clear cx HCON
  have cx := HX.out.c0
  have HCON := hide (next12_ok (some ⟨q + 6, 0, none⟩) (some ⟨r, 0, none⟩) 5 5 4 4 3 (kn12 q) [0, 1, 3, 4] 2 v2 HN.out (by omega) (by omega) HO.out (by omega) (by omega) HA2.out (by omega) (by omega))
  go_wp2_with fail
  refine Calls.mono HCON.out ?_
  rintro e v3 ⟨gc, rfl, hc⟩
  rw [HN2.out] at hc
  have HRc := hide (hc.lies2 (n := 5) rfl)
  have hz : Below v2.heap.size v2 v3 := hc.1
  replace HX := hide (HX.out.kept hz)
  replace HN := hide (HN.out.below hz)
  replace HO := hide (HO.out.below hz)
  replace HAA := hide (HAA.out.below hz)
  replace HRb := hide (HRb.out.below hz)
  replace HB := hide (HB.out.trans (hz.mono HB.out.size))
  clear hz
  clear hc
  clear cx HCON
  have cx := HX.out.c0
  have HCON := hide (uses12_ok (some ⟨q + 6, 0, none⟩) (some ⟨r, 0, none⟩) 5 5 4 4 (kn12 q) [0, 1, 3, 4] v3 HN.out (by omega) (by omega) HO.out (by omega) (by omega) HA2.out)
  go_wp2_with fail
  refine Calls.mono HCON.out ?_
  rintro e v4 ⟨gd, rfl, hd⟩
  rw [HN3.out] at hd
  have HRd := hide (hd.lies2 (n := 5) rfl)
  have hz : Below v3.heap.size v3 v4 := hd.1
  replace HX := hide (HX.out.kept hz)
  replace HN := hide (HN.out.below hz)
  replace HO := hide (HO.out.below hz)
  replace HAA := hide (HAA.out.below hz)
  replace HRb := hide (HRb.out.below hz)
  replace HRc := hide (HRc.out.below hz)
  replace HB := hide (HB.out.trans (hz.mono HB.out.size))
  clear hz
  clear hd
  clear cx HCON
  have hlt : Below v4.heap.size v4 (v4.alloc (.cells #[.int .i64 0, .int .i64 0] 3)) := below_al6 (Below.refl _ _)
  have HLT := hide hlt
  have HLL := hide (lit_lies v4 .i64 [0, 0] 3)
  clear hlt
  have cx2 := (HX.out.kept HLT.out).c0
  have cx := HX.out.c0
  have HCON := hide (next12_no (some ⟨q + 6, 0, none⟩) (some ⟨v4.heap.size, 0, none⟩) 5 5 2 2 (kn12 q) [0, 0] (-1) (v4.alloc (.cells #[.int .i64 0, .int .i64 0] 3)) (HN.out.below HLT.out) (by omega) (by omega) HLL.out (by omega) (by omega) (fun h => by have h1 := h.1; rw [HA3.out] at h1; cases h1))
  go_wp2_with fail
  refine Calls.mono HCON.out ?_
  rintro e v5 ⟨rfl, hb⟩
  have hz : Below v4.heap.size v4 v5 := below_nx6 HLT.out hb
  replace HX := hide (HX.out.kept hz)
  replace HN := hide (HN.out.below hz)
  replace HO := hide (HO.out.below hz)
  replace HAA := hide (HAA.out.below hz)
  replace HRb := hide (HRb.out.below hz)
  replace HRc := hide (HRc.out.below hz)
  replace HRd := hide (HRd.out.below hz)
  replace HB := hide (HB.out.trans (hz.mono HB.out.size))
  clear hz
  clear hb HLT HLL cx2
  clear cx HCON
  have hd0 : Below v5.heap.size v5 v5.drew := below_drewN (Below.refl _ _) 1
  have HXK : Hid (∀ v, Below v5.heap.size v5 v → v.cell? ⟨p, 0, none⟩ = some (.slice (some ⟨q + 6, 0, none⟩) 5 5)) := hide (fun v hv => (HX.out.kept hv).c0)
  go_wp2
  have hS0 : Hid (v5.drew.cell? ⟨p, 0, none⟩ = some (.slice (some ⟨q + 6, 0, none⟩) 5 5)) := hide (HXK.out _ hd0)
  refine wp_region_U (fun _ v => v.cell? ⟨p, 0, none⟩ = some (.slice (some ⟨q + 6, 0, none⟩) 5 5)) 99 (by kernel_rfl) ?_
  refine wpAnyU_take (i := 0) (oi := { dst := some 49, op := _, type := _, pos := _, after := _, guard := none }) (v := .agg #[.slice (some ⟨q + 6, 0, none⟩) 5 5]) rfl (by kernel_rfl) (by kernel_rfl) (by kernel_rfl) (by kernel_rfl) (fun _ _ _ h => h) (yields_take rfl (fun w' hw => by have h1 := hw.const; go_simp)) hS0.out ?_
  simp only [Act.put, List.setIfInBounds_toArray, List.set_cons_zero, List.set_cons_succ]
  refine wpAnyU_take (i := 1) (oi := { dst := some 50, op := _, type := _, pos := _, after := _, guard := none }) (v := .slice (some ⟨r, 0, none⟩) 4 4) rfl (by kernel_rfl) (by kernel_rfl) (by kernel_rfl) (by kernel_rfl) (fun _ _ _ h => h) (yields_take rfl (fun w' hw => by have h1 := hw.const; go_simp)) hS0.out ?_
  simp only [Act.put, List.setIfInBounds_toArray, List.set_cons_zero, List.set_cons_succ]
  refine wpAnyU_take (i := 2) (oi := { dst := some 51, op := _, type := _, pos := _, after := _, guard := none }) (v := .slice (some ⟨r, 0, none⟩) 2 4) rfl (by kernel_rfl) (by kernel_rfl) (by kernel_rfl) (by kernel_rfl) (fun _ _ _ h => h) (yields_take rfl (fun w' hw => by have h1 := hw.const; go_simp)) hS0.out ?_
  simp only [Act.put, List.setIfInBounds_toArray, List.set_cons_zero, List.set_cons_succ]
  refine wpAnyU_one (i := 3) (by kernel_rfl) rfl ?_
  intro K hK
  go_simp
  refine Calls.mono (next12_no (some ⟨q + 6, 0, none⟩) (some ⟨r, 0, none⟩) 5 5 2 4 (kn12 q) [0, 1] 2 _ (HN.out.below hd0) (by omega) (by omega) ((HO.out.take (k := 2) (by omega)).below hd0) (by omega) (by omega) (fun h => by omega)) ?_
  rintro e v6 ⟨he, hb⟩
  (try dsimp only)
  subst he
  have hd1 : Below v5.heap.size v5 v6 := below_nx6 hd0 hb
  clear hb
  (try dsimp only)
  have hS1 : Hid (v6.cell? ⟨p, 0, none⟩ = some (.slice (some ⟨q + 6, 0, none⟩) 5 5)) := hide (HXK.out _ hd1)
  refine hK.out _ _ hS1.out (fun _ => ?_)
  clear hK K hS0
  refine wpAnyU_take (i := 4) (oi := { dst := some 48, op := _, type := _, pos := _, after := _, guard := none }) (v := .tuple #[.slice none 0 0, .int .i64 1]) rfl (by kernel_rfl) (by kernel_rfl) (by kernel_rfl) (by kernel_rfl) (fun _ _ _ h => h) (yields_take rfl (fun w' hw => by have h1 := hw.const; go_simp)) hS1.out ?_
  simp only [Act.put, List.setIfInBounds_toArray, List.set_cons_zero, List.set_cons_succ]
  refine wpAnyU_take (i := 5) (oi := { dst := some 53, op := _, type := _, pos := _, after := _, guard := none }) (v := .slice none 0 0) rfl (by kernel_rfl) (by kernel_rfl) (by kernel_rfl) (by kernel_rfl) (fun _ _ _ h => h) (yields_take rfl (fun w' hw => by have h1 := hw.const; go_simp)) hS1.out ?_
  simp only [Act.put, List.setIfInBounds_toArray, List.set_cons_zero, List.set_cons_succ]
  refine wpAnyU_take (i := 6) (oi := { dst := some 54, op := _, type := _, pos := _, after := _, guard := none }) (v := .int .i64 1) rfl (by kernel_rfl) (by kernel_rfl) (by kernel_rfl) (by kernel_rfl) (fun _ _ _ h => h) (yields_take rfl (fun w' hw => by have h1 := hw.const; go_simp)) hS1.out ?_
  simp only [Act.put, List.setIfInBounds_toArray, List.set_cons_zero, List.set_cons_succ]
  refine wpAnyU_take (i := 7) (oi := { dst := some 13, op := _, type := _, pos := _, after := _, guard := none }) (v := .slice none 0 0) rfl (by kernel_rfl) (by kernel_rfl) (by kernel_rfl) (by kernel_rfl) (fun _ _ _ h => h) (yields_take rfl (fun w' hw => by have h1 := hw.const; go_simp)) hS1.out ?_
  simp only [Act.put, List.setIfInBounds_toArray, List.set_cons_zero, List.set_cons_succ]
  refine wpAnyU_take (i := 8) (oi := { dst := some 14, op := _, type := _, pos := _, after := _, guard := none }) (v := .int .i64 1) rfl (by kernel_rfl) (by kernel_rfl) (by kernel_rfl) (by kernel_rfl) (fun _ _ _ h => h) (yields_take rfl (fun w' hw => by have h1 := hw.const; go_simp)) hS1.out ?_
  simp only [Act.put, List.setIfInBounds_toArray, List.set_cons_zero, List.set_cons_succ]
  refine wpAnyU_done (by kernel_rfl) ?_ _
  clear hS1
  have hz : Below v5.heap.size v5 v6 := hd1
  replace HX := hide (HX.out.kept hz)
  replace HN := hide (HN.out.below hz)
  replace HO := hide (HO.out.below hz)
  replace HAA := hide (HAA.out.below hz)
  replace HRb := hide (HRb.out.below hz)
  replace HRc := hide (HRc.out.below hz)
  replace HRd := hide (HRd.out.below hz)
  replace HB := hide (HB.out.trans (hz.mono HB.out.size))
  clear hz
  clear HXK hd0 hd1
  have hlt : Below v6.heap.size v6 (v6.alloc (.cells #[.int .i64 5] 3)) := below_al6 (Below.refl _ _)
  have HLT := hide hlt
  have HLL := hide (lit_lies v6 .i64 [5] 3)
  clear hlt
  have cx2 := (HX.out.kept HLT.out).c0
  have cx := HX.out.c0
  have HCON := hide (uses12_no (some ⟨q + 6, 0, none⟩) (some ⟨v6.heap.size, 0, none⟩) 5 5 1 1 (kn12 q) [5] (v6.alloc (.cells #[.int .i64 5] 3)) (HN.out.below HLT.out) (by omega) (by omega) HLL.out (by omega) (by omega) HA4.out)
  go_wp2_with fail
  refine Calls.mono HCON.out ?_
  rintro e v7 ⟨rfl, hb⟩
  have hz : Below v6.heap.size v6 v7 := below_nx6 HLT.out hb
  replace HX := hide (HX.out.kept hz)
  replace HN := hide (HN.out.below hz)
  replace HO := hide (HO.out.below hz)
  replace HAA := hide (HAA.out.below hz)
  replace HRb := hide (HRb.out.below hz)
  replace HRc := hide (HRc.out.below hz)
  replace HRd := hide (HRd.out.below hz)
  replace HB := hide (HB.out.trans (hz.mono HB.out.size))
  clear hz
  clear hb HLT HLL cx2
  clear cx HCON
  have hlt : Below v7.heap.size v7 (v7.alloc (.cells #[.int .i64 0, .int .i64 1, .int .i64 3, .int .i64 4] 3)) := below_al6 (Below.refl _ _)
  have HLT := hide hlt
  have HLL := hide (lit_lies v7 .i64 [0, 1, 3, 4] 3)
  clear hlt
  have cx2 := (HX.out.kept HLT.out).c0
  have cx := HX.out.c0
  have HCON := hide (is12_any Aa (some ⟨v7.heap.size, 0, none⟩) ka ca 4 4 0 [0, 1, 3, 4] [0, 1, 3, 4] (v7.alloc (.cells #[.int .i64 0, .int .i64 1, .int .i64 3, .int .i64 4] 3)) (HAA.out.below HLT.out) HLL.out (by have := HKA.out; omega))
  go_wp2_with fail
  refine Calls.mono HCON.out ?_
  rintro e v8 ⟨he, hb⟩
  replace he : e = .returned (.bool true) := by simpa using he
  subst he
  have hz : Below v7.heap.size v7 v8 := below_nx6 HLT.out hb
  replace HX := hide (HX.out.kept hz)
  replace HN := hide (HN.out.below hz)
  replace HO := hide (HO.out.below hz)
  replace HAA := hide (HAA.out.below hz)
  replace HRb := hide (HRb.out.below hz)
  replace HRc := hide (HRc.out.below hz)
  replace HRd := hide (HRd.out.below hz)
  replace HB := hide (HB.out.trans (hz.mono HB.out.size))
  clear hz
  clear hb HLT HLL cx2
  clear cx HCON
  have hlt : Below v8.heap.size v8 (v8.alloc (.cells #[.int .i64 1, .int .i64 3, .int .i64 (-1), .int .i64 3, .int .i64 4] 3)) := below_al6 (Below.refl _ _)
  have HLT := hide hlt
  have HLL := hide (lit_lies v8 .i64 [1, 3, -1, 3, 4] 3)
  clear hlt
  have cx2 := (HX.out.kept HLT.out).c0
  have cx := HX.out.c0
  have HCON := hide (is12_any (some ⟨gb, 0, none⟩) (some ⟨v8.heap.size, 0, none⟩) 5 5 5 5 0 [1, 3, -1, 3, 4] [1, 3, -1, 3, 4] (v8.alloc (.cells #[.int .i64 1, .int .i64 3, .int .i64 (-1), .int .i64 3, .int .i64 4] 3)) (HRb.out.below HLT.out) HLL.out (by have := HKA.out; omega))
  go_wp2_with fail
  refine Calls.mono HCON.out ?_
  rintro e v9 ⟨he, hb⟩
  replace he : e = .returned (.bool true) := by simpa using he
  subst he
  have hz : Below v8.heap.size v8 v9 := below_nx6 HLT.out hb
  replace HX := hide (HX.out.kept hz)
  replace HN := hide (HN.out.below hz)
  replace HO := hide (HO.out.below hz)
  replace HAA := hide (HAA.out.below hz)
  replace HRb := hide (HRb.out.below hz)
  replace HRc := hide (HRc.out.below hz)
  replace HRd := hide (HRd.out.below hz)
  replace HB := hide (HB.out.trans (hz.mono HB.out.size))
  clear hz
  clear hb HLT HLL cx2
  clear cx HCON
  have hlt : Below v9.heap.size v9 (v9.alloc (.cells #[.int .i64 (-1), .int .i64 3, .int .i64 (-1), .int .i64 3, .int .i64 4] 3)) := below_al6 (Below.refl _ _)
  have HLT := hide hlt
  have HLL := hide (lit_lies v9 .i64 [-1, 3, -1, 3, 4] 3)
  clear hlt
  have cx2 := (HX.out.kept HLT.out).c0
  have cx := HX.out.c0
  have HCON := hide (is12_any (some ⟨gc, 0, none⟩) (some ⟨v9.heap.size, 0, none⟩) 5 5 5 5 0 [-1, 3, -1, 3, 4] [-1, 3, -1, 3, 4] (v9.alloc (.cells #[.int .i64 (-1), .int .i64 3, .int .i64 (-1), .int .i64 3, .int .i64 4] 3)) (HRc.out.below HLT.out) HLL.out (by have := HKA.out; omega))
  go_wp2_with fail
  refine Calls.mono HCON.out ?_
  rintro e v10 ⟨he, hb⟩
  replace he : e = .returned (.bool true) := by simpa using he
  subst he
  have hz : Below v9.heap.size v9 v10 := below_nx6 HLT.out hb
  replace HX := hide (HX.out.kept hz)
  replace HN := hide (HN.out.below hz)
  replace HO := hide (HO.out.below hz)
  replace HAA := hide (HAA.out.below hz)
  replace HRb := hide (HRb.out.below hz)
  replace HRc := hide (HRc.out.below hz)
  replace HRd := hide (HRd.out.below hz)
  replace HB := hide (HB.out.trans (hz.mono HB.out.size))
  clear hz
  clear hb HLT HLL cx2
  clear cx HCON
  have hlt : Below v10.heap.size v10 (v10.alloc (.cells #[.int .i64 3, .int .i64 1, .int .i64 0, .int .i64 1, .int .i64 0] 3)) := below_al6 (Below.refl _ _)
  have HLT := hide hlt
  have HLL := hide (lit_lies v10 .i64 [3, 1, 0, 1, 0] 3)
  clear hlt
  have cx2 := (HX.out.kept HLT.out).c0
  have cx := HX.out.c0
  have HCON := hide (is12_any (some ⟨gd, 0, none⟩) (some ⟨v10.heap.size, 0, none⟩) 5 5 5 5 0 [3, 1, 0, 1, 0] [3, 1, 0, 1, 0] (v10.alloc (.cells #[.int .i64 3, .int .i64 1, .int .i64 0, .int .i64 1, .int .i64 0] 3)) (HRd.out.below HLT.out) HLL.out (by have := HKA.out; omega))
  go_wp2_with fail
  refine Calls.mono HCON.out ?_
  rintro e v11 ⟨he, hb⟩
  replace he : e = .returned (.bool true) := by simpa using he
  subst he
  have hz : Below v10.heap.size v10 v11 := below_nx6 HLT.out hb
  replace HX := hide (HX.out.kept hz)
  replace HN := hide (HN.out.below hz)
  replace HO := hide (HO.out.below hz)
  replace HAA := hide (HAA.out.below hz)
  replace HRb := hide (HRb.out.below hz)
  replace HRc := hide (HRc.out.below hz)
  replace HRd := hide (HRd.out.below hz)
  replace HB := hide (HB.out.trans (hz.mono HB.out.size))
  clear hz
  clear hb HLT HLL cx2
  clear cx HCON
  go_wp2
  go_ret
  exact ⟨rfl, HB.out⟩

end

section
open Go.RowKit
set_option linter.unusedVariables false
set_option linter.unusedSimpArgs false

theorem own_cap12 {w : World} {b : Nat} {e : TypeId} {s n c : Nat} {A : Option Addr} {xs : List Value} (h : w.ownsRow b e s (.slice A n c) n xs) : n ≤ c := by
  rcases h.2 with ⟨h1, h2⟩ | ⟨g, cap, cur, h1, _, _, h2, _⟩
  · omega
  · cases h1
    exact h2

theorem usL_getD {ns : List Nd} {l : List Int} {j : Nat} (h : j < ns.length) : (usL ns l).getD j 0 = (usF ns l j : Int) := by
  rw [List.getD, usL_at h]; rfl

theorem nxL_getD {ns : List Nd} {l : List Int} {p j : Nat} (h : j < ns.length - 1) : (nxL ns l p).getD j 0 = nxF ns (l.drop p) p j := by
  rw [List.getD, nxL_at h]; rfl

theorem nxL_getD_last {ns : List Nd} {l : List Int} {p : Nat} : (nxL ns l p).getD (ns.length - 1) 0 = (l.length : Int) := by
  rw [List.getD, nxL_last]; rfl

theorem slice_pre (B : Option Addr) (m d k : Nat) (hnil : B = none → d = 0) (hk : k ≤ m) (hd : m ≤ d) (w : World) : (Instr.sliceAt 27 (.slice B m d) none (some (.int .i64 (k : Int))) none).run Try.prog w = .ok (.slice B k d) w := by
  have f0 : (0 : Int) ≤ (k : Int) := by omega
  have f1 : (k : Int) ≤ (d : Int) := by omega
  cases B with
  | none =>
    obtain rfl : d = 0 := hnil rfl
    obtain rfl : k = 0 := by omega
    go_simp
  | some ad => go_simp

theorem slice_suf (B : Option Addr) (m d k : Nat) (hnil : B = none → d = 0) (hk : k ≤ m) (hd : m ≤ d) (w : World) : (Instr.sliceAt 27 (.slice B m d) (some (.int .i64 (k : Int))) none none).run Try.prog w = .ok (.slice (if d = k then B else B.map (·.add k)) (m - k) (d - k)) w := by
  have f0 : (0 : Int) ≤ (k : Int) := by omega
  have f1 : (k : Int) ≤ (m : Int) := by omega
  have f2 : (k : Int) ≤ (d : Int) := by omega
  cases B with
  | none =>
    obtain rfl : d = 0 := hnil rfl
    obtain rfl : k = 0 := by omega
    go_simp
  | some ad =>
    by_cases h : d = k
    · rw [if_pos h]
      go_simp
    · rw [if_neg h]
      go_simp

theorem totN_mono (f : Nat → Nat) : ∀ (n j : Nat), j ≤ n → totN f j ≤ totN f n
  | 0, j, h => by obtain rfl : j = 0 := by omega
                  exact Nat.le_refl _
  | n + 1, j, h => by
    by_cases e : j = n + 1
    · rw [e]; exact Nat.le_refl _
    · have := totN_mono f n j (by omega)
      rw [totN]
      omega

theorem tot_all {ns : List Nd} {l : List Int} {n : Nat} (h : ordB ns l = true) (hn : ns.length = n) : totN (fun j => usF ns l j) n = lenF ns l := by
  refine tot_us ns n l (fun o ho x hx => ?_)
  obtain ⟨h1, _, h3, _⟩ := ordB_parts.1 h
  have h4 := h3 o ho
  have h5 := vld_of h1 o.toNat x hx
  omega

theorem lenF_drop {ns : List Nd} {l : List Int} {k u : Nat} {x : Nd} (h : l[k]? = some (u : Int)) (hx : ns[u]? = some x) : lenF ns (l.drop k) = x.xs.length + lenF ns (l.drop (k + 1)) := by
  obtain ⟨h1, h2⟩ := List.getElem?_eq_some_iff.1 h
  rw [List.drop_eq_getElem_cons h1, h2, lenF, Int.toNat_natCast, insN_at hx]

theorem usF_cut (ns : List Nd) (l : List Int) (k j : Nat) : usF ns l j = usF ns (l.take k) j + usF ns (l.drop k) j := by
  rw [← usF_append, List.take_append_drop]

end

section
open Go.RowKit
set_option linter.unusedVariables false
set_option linter.unusedSimpArgs false
set_option maxRecDepth 100000

theorem need_at {ns : List Nd} {L : List Int} {n i : Nat} (h : IsNeed ns (n - 1) L) (hv : Vld ns) (hn : 1 ≤ n) (hi : i < L.length) : ∃ j : Nat, L.getD i 0 = (j : Int) ∧ L[i]? = some (j : Int) ∧ Need ns (n - 1) j ∧ j < n := by
  have e : L.getD i 0 = L[i] := by simp [List.getD, hi]
  have e2 : L[i]? = some L[i] := List.getElem?_eq_getElem hi
  obtain ⟨j, h1, h2⟩ := (h.mem hv L[i]).1 (List.getElem_mem hi)
  have := h2.le hv
  exact ⟨j, by rw [e, h1], by rw [e2, h1], h2, by omega⟩

theorem need_in {ns : List Nd} {L : List Int} {n i j : Nat} {z : Int} (h : IsNeed ns (n - 1) L) (hv : Vld ns) (hi : L[i]? = some (j : Int)) (hj : Need ns (n - 1) j) (hz : z ∈ insN ns j) : z ∈ L.take i := by
  have h1 := hv j z hz
  obtain ⟨k, rfl⟩ := Int.eq_ofNat_of_zero_le h1.1
  exact asc_ahead h.asc hi ((h.mem hv _).2 ⟨k, rfl, hj.step hz⟩) h1.2

theorem need_taken {ns : List Nd} {L : List Int} {n m i j : Nat} (h : IsNeed ns (n - 1) L) (hv : Vld ns) (hm : L.length = m) (hi : L[i]? = some (j : Int)) (hj : Need ns (n - 1) j) : i = m - 1 ∨ ∃ q k : Nat, i < q ∧ q < m ∧ L[q]? = some (k : Int) ∧ (j : Int) ∈ insN ns k := by
  rcases hj.pred with rfl | ⟨k, hk, hjk⟩
  · left
    obtain ⟨L0, e⟩ := h.last
    have h1 := (List.getElem?_eq_some_iff.1 hi).1
    rcases Nat.lt_or_ge i (m - 1) with h2 | h2
    · exfalso
      have hl : L[m - 1]? = some ((n - 1 : Nat) : Int) := by
        rw [e] at hm ⊢
        rw [List.length_append] at hm
        simp only [List.length_cons, List.length_nil] at hm
        rw [List.getElem?_append_right (by omega), show m - 1 - L0.length = 0 by omega]
        rfl
      obtain ⟨l1, l2⟩ := List.getElem?_eq_some_iff.1 hl
      obtain ⟨i1, i2⟩ := List.getElem?_eq_some_iff.1 hi
      have := List.pairwise_iff_getElem.1 h.asc i (m - 1) i1 l1 h2
      omega
    · omega
  · right
    have h1 := hv k _ hjk
    obtain ⟨q, hq, hq2⟩ := asc_behind h.asc hi ((h.mem hv _).2 ⟨k, rfl, hk⟩) h1.2
    have := (List.getElem?_eq_some_iff.1 hq2).1
    exact ⟨q, k, hq, by omega, hq2, hjk⟩

theorem need_less {ns : List Nd} {L : List Int} {n i j k : Nat} (h : IsNeed ns (n - 1) L) (hi : L[i]? = some (j : Int)) (hk : L[i + 1]? = some (k : Int)) : j < k := by
  obtain ⟨i1, i2⟩ := List.getElem?_eq_some_iff.1 hi
  obtain ⟨l1, l2⟩ := List.getElem?_eq_some_iff.1 hk
  have := List.pairwise_iff_getElem.1 h.asc i (i + 1) i1 l1 (by omega)
  omega

set_option maxHeartbeats 32000000 in
theorem oneeds12_any (A : Option Addr) (n c : Nat) (ns : List Nd) (w : World) (h : NsIn w A n ns) (hc : n ≤ c) (hn : n ≤ 70368744177664) :
    Calls Try.prog 3 #[.agg #[.slice A n c]] w fun e w' => e = .returned (.bool true) ∧ Below w.heap.size w w' := by
  obtain ⟨W0, hW0⟩ : ∃ W0, W0 = w.alloc (.cells #[.slice A n c] 24) := ⟨_, rfl⟩
  have HB0 : Hid (Below w.heap.size w W0) := hide (by rw [hW0]; exact below_al6 (Below.refl _ _))
  have HX : Hid (BoxG W0 w.heap.size (.slice A n c)) := hide (by rw [hW0]; exact BoxG.new w _)
  have HN := hide (h.below HB0.out)
  have HL : Hid (ns.length = n) := hide h.1
  have hW0' := hW0.symm
  clear hW0 h
  go_enter Try.func3, Try.ntmps3
  go_wp2_with fail
  refine Calls.mono (alive12_any _) ?_
  rintro e w1 ⟨rfl, hb⟩
  have HBN := hide hb
  replace HX := hide (HX.out.kept hb)
  replace HN := hide (HN.out.below hb)
  clear hb
  have c0 := HX.out.c0
  go_wp2_with fail
  refine Calls.mono (graph_size A n c ns w1 HN.out hn) ?_
  rintro e w2 ⟨r, rfl, hr0, hr1, hb⟩
  have hz : Below w1.heap.size w1 w2 := hb
  replace HBN := hide (below_nx6 HBN.out hz)
  replace HX := hide (HX.out.kept hz)
  replace HN := hide (HN.out.below hz)
  clear hz
  clear hb c0
  by_cases hbig : 20000 < r
  · go_wp2_with fail
    refine Calls.mono (alive12_any _) ?_
    rintro e w3 ⟨rfl, hb⟩
    replace HBN := hide (below_nx6 HBN.out hb)
    clear hb
    go_wp2
    go_ret
    exact ⟨rfl, below_nx6 HB0.out HBN.out⟩
  have hsz := hr1 (by omega)
  have HSZ := hide hsz
  have hn2 : n ≤ 10000 := by have h1 := szN_len ns; rw [HL.out] at h1; omega
  clear hr1 hsz hr0
  have c0 := HX.out.c0
  cases hg : gphB ns with
  | false =>
    have HCON := hide (of12_no A n c ns w2 HN.out (by omega) hc hg)
    go_wp2_with fail
    refine Calls.mono HCON.out ?_
    rintro e w3 ⟨rfl, hb⟩
    replace HBN := hide (below_nx6 HBN.out hb)
    clear hb
    go_wp2
    go_ret
    exact ⟨rfl, below_nx6 HB0.out HBN.out⟩
  | true =>
  have HN1 : Hid (1 ≤ n ∧ n ≤ 32) := hide (by have h := gphB_n hg; rw [HL.out] at h; exact h)
  have hn1 : 1 ≤ n := HN1.out.1
  have hn32 : n ≤ 32 := HN1.out.2
  have HV := hide (vld_of hg)
  have HCON := hide (of12_ok A n c ns w2 HN.out (by omega) hc hg)
  clear hg
  go_wp2_with fail
  refine Calls.mono HCON.out ?_
  rintro e w3 ⟨Aa, m, ca, L, rfl, hoa, hna, hb⟩
  have HLA := hide (lies_of_own hoa)
  have hca := own_cap12 hoa
  have HNA := hide hna
  have HM : Hid (L.length = m) := hide (lies_len9 HLA.out)
  have hm1 : 1 ≤ m := by have h := hna.len.1; rw [HM.out] at h; exact h
  have hm32 : m ≤ 32 := by have h := hna.len.2; rw [HM.out] at h; omega
  have hz : Below w2.heap.size w2 w3 := hb
  replace HBN := hide (below_nx6 HBN.out hz)
  replace HX := hide (HX.out.kept hz)
  replace HN := hide (HN.out.below hz)
  clear hz
  clear hb hoa hna HCON c0
  obtain ⟨bl, ol, el, _, hxl⟩ := byte_at HLA.out hm1
  subst el
  have HCL : Hid (∀ v, Below w3.heap.size w3 v → ∀ i, i < m → v.cell? ⟨bl, ol + i, none⟩ = some (.int .i64 (L.getD i 0))) := hide (fun v hv i hi => by
    obtain ⟨_, _, e, _, hx⟩ := byte_at (HLA.out.below hv) hm1
    cases e
    exact hx i hi)
  have HLAST : Hid (L.getD (m - 1) 0 = (n : Int) - 1) := hide (by
    obtain ⟨L0, e⟩ := HNA.out.last
    have h := HM.out
    rw [e, List.length_append] at h
    simp only [List.length_cons, List.length_nil] at h
    rw [e, List.getD, List.getElem?_append_right (by omega), show m - 1 - L0.length = 0 by omega]
    show ((n - 1 : Nat) : Int) = _
    omega)
  have c0 := HX.out.c0
  have q1 := HCL.out w3 (Below.refl _ _) (m - 1) (by omega)
  rw [HLAST.out] at q1
  have e0 : ((m : Int) == 0) = false := beq_eq_false_iff_ne.2 (by omega)
  have e1 : (0 : Int) ≤ (m : Int) - 1 := by omega
  have e2 : (m : Int) - 1 < (m : Int) := by omega
  have e3 : ((m : Int) - 1).toNat = m - 1 := by omega
  clear hxl
  go_wp2
  go_quiet (fail)
  go_wp2
  clear e0 q1 c0
  go_loopw [5] (fun v wr => ∃ i : Nat, i ≤ m ∧ v = .int .i64 i ∧ Hid (Below w3.heap.size w3 wr)) (fun v _ => m - (intOf v).toNat)
  case atStart => exact ⟨0, Nat.zero_le _, rfl, hide (below_drewN (Below.refl _ _) _)⟩
  case round =>
    obtain ⟨i, hi, rfl, HB⟩ := hrel
    by_cases hlt : i < m
    · have i0 : (0 : Int) ≤ (i : Int) := by omega
      have i1 : (i : Int) < (m : Int) := by omega
      have i4 : (i : Int) ≤ (m : Int) := by omega
      have i5 : (i : Int) ≤ (ca : Int) := by omega
      obtain ⟨u, hu1, hu2, hu3, hun⟩ := need_at HNA.out HV.out hn1 (by rw [HM.out]; exact hlt)
      have HU1 := hide hu1
      have HU2 := hide hu2
      have HU3 := hide hu3
      obtain ⟨bA, oA, x, eA, hxu, _⟩ := HN.out.at hun
      subst eA
      have HXU : Hid (insN ns u = x.xs) := hide (insN_at hxu)
      have HNX : Hid (ns[u]? = some x) := hide hxu
      have g0 : (0 : Int) ≤ (u : Int) := by omega
      have g1 : (u : Int) < (n : Int) := by omega
      have HKC : Hid (∀ v, Below wr.heap.size wr v → v.cell? ⟨w.heap.size, 0, none⟩ = some (.slice (some ⟨bA, oA, none⟩) n c) ∧ v.cell? ⟨bl, ol + i, none⟩ = some (.int .i64 (u : Int)) ∧ v.cell? ⟨bA, oA + u * 5, none⟩ = some (.int .u8 x.kd) ∧ v.cell? ⟨bA, oA + u * 5 + 1, none⟩ = some (.slice x.I x.ni x.ci) ∧ v.cell? ⟨bA, oA + u * 5 + 2, none⟩ = some (.slice x.S x.ns x.cs) ∧ v.cell? ⟨bA, oA + u * 5 + 3, none⟩ = some (.int .i64 x.N) ∧ v.cell? ⟨bA, oA + u * 5 + 4, none⟩ = some (.int .i64 x.P)) := hide (fun v hv => by
        have hv2 := below_nx6 HB.out hv
        obtain ⟨b2, o2, x2, e2, hx2, h0, h1, h2, h3, h4, hxo⟩ := (HN.out.below hv2).at hun
        cases e2
        rw [HNX.out] at hx2
        cases hx2
        have hq := HCL.out v hv2 i hlt
        rw [HU1.out] at hq
        exact ⟨(HX.out.kept hv2).c0, hq, h0, h1, h2, h3, h4⟩)
      have HLX : Hid (Lies w3 x.I x.ni (x.xs.map (Value.int .i64)) ∧ x.ni ≤ 70368744177664) := hide (by
        obtain ⟨b2, o2, x2, _, hx2, _, _, _, _, _, ho2⟩ := HN.out.at hun
        rw [HNX.out] at hx2
        cases hx2
        exact ⟨ho2.1, ho2.2.2.2.2.1⟩)
      have HLN : Hid (x.xs.length = x.ni) := hide (lies_len9 HLX.out.1)
      have hd0 : Below wr.heap.size wr wr.drew := below_drewN (Below.refl _ _) 1
      clear hu1 hu2 hu3 hxu
      go_wp2
      have hS0 : Hid (wr.drew.cell? ⟨w.heap.size, 0, none⟩ = some (.slice (some ⟨bA, oA, none⟩) n c) ∧ wr.drew.cell? ⟨bl, ol + i, none⟩ = some (.int .i64 (u : Int)) ∧ wr.drew.cell? ⟨bA, oA + u * 5, none⟩ = some (.int .u8 x.kd) ∧ wr.drew.cell? ⟨bA, oA + u * 5 + 1, none⟩ = some (.slice x.I x.ni x.ci) ∧ wr.drew.cell? ⟨bA, oA + u * 5 + 2, none⟩ = some (.slice x.S x.ns x.cs) ∧ wr.drew.cell? ⟨bA, oA + u * 5 + 3, none⟩ = some (.int .i64 x.N) ∧ wr.drew.cell? ⟨bA, oA + u * 5 + 4, none⟩ = some (.int .i64 x.P)) := hide (HKC.out _ hd0)
      refine wp_region_U (fun _ v => v.cell? ⟨w.heap.size, 0, none⟩ = some (.slice (some ⟨bA, oA, none⟩) n c) ∧ v.cell? ⟨bl, ol + i, none⟩ = some (.int .i64 (u : Int)) ∧ v.cell? ⟨bA, oA + u * 5, none⟩ = some (.int .u8 x.kd) ∧ v.cell? ⟨bA, oA + u * 5 + 1, none⟩ = some (.slice x.I x.ni x.ci) ∧ v.cell? ⟨bA, oA + u * 5 + 2, none⟩ = some (.slice x.S x.ns x.cs) ∧ v.cell? ⟨bA, oA + u * 5 + 3, none⟩ = some (.int .i64 x.N) ∧ v.cell? ⟨bA, oA + u * 5 + 4, none⟩ = some (.int .i64 x.P)) 99 (by kernel_rfl) ?_
      refine wpAnyU_take (i := 0) (oi := { dst := some 54, op := _, type := _, pos := _, after := _, guard := none }) (v := .pointer (some ⟨w.heap.size, 0, none⟩)) rfl (by kernel_rfl) (by kernel_rfl) (by kernel_rfl) (by kernel_rfl) (fun _ _ _ h => h) (yields_take rfl (fun w' hw => by obtain ⟨h1, h2, h3, h4, h5, h6, h7⟩ := hw.const; go_simp)) hS0.out ?_
      simp only [Act.put, List.setIfInBounds_toArray, List.set_cons_zero, List.set_cons_succ]
      refine wpAnyU_take (i := 1) (oi := { dst := some 55, op := _, type := _, pos := _, after := _, guard := none }) (v := .slice (some ⟨bA, oA, none⟩) n c) rfl (by kernel_rfl) (by kernel_rfl) (by kernel_rfl) (by kernel_rfl) (fun _ _ _ h => h) (yields_take rfl (fun w' hw => by obtain ⟨h1, h2, h3, h4, h5, h6, h7⟩ := hw.const; go_simp)) hS0.out ?_
      simp only [Act.put, List.setIfInBounds_toArray, List.set_cons_zero, List.set_cons_succ]
      refine wpAnyU_take (i := 2) (oi := { dst := some 56, op := _, type := _, pos := _, after := _, guard := none }) (v := .slice (some ⟨bl, ol, none⟩) m ca) rfl (by kernel_rfl) (by kernel_rfl) (by kernel_rfl) (by kernel_rfl) (fun _ _ _ h => h) (yields_take rfl (fun w' hw => by obtain ⟨h1, h2, h3, h4, h5, h6, h7⟩ := hw.const; go_simp)) hS0.out ?_
      simp only [Act.put, List.setIfInBounds_toArray, List.set_cons_zero, List.set_cons_succ]
      refine wpAnyU_take (i := 3) (oi := { dst := some 57, op := _, type := _, pos := _, after := _, guard := none }) (v := .int .i64 (i : Int)) rfl (by kernel_rfl) (by kernel_rfl) (by kernel_rfl) (by kernel_rfl) (fun _ _ _ h => h) (yields_take rfl (fun w' hw => by obtain ⟨h1, h2, h3, h4, h5, h6, h7⟩ := hw.const; go_simp)) hS0.out ?_
      simp only [Act.put, List.setIfInBounds_toArray, List.set_cons_zero, List.set_cons_succ]
      refine wpAnyU_take (i := 4) (oi := { dst := some 58, op := _, type := _, pos := _, after := _, guard := none }) (v := .pointer (some ⟨bl, ol + i, none⟩)) rfl (by kernel_rfl) (by kernel_rfl) (by kernel_rfl) (by kernel_rfl) (fun _ _ _ h => h) (yields_take rfl (fun w' hw => by obtain ⟨h1, h2, h3, h4, h5, h6, h7⟩ := hw.const; go_simp)) hS0.out ?_
      simp only [Act.put, List.setIfInBounds_toArray, List.set_cons_zero, List.set_cons_succ]
      refine wpAnyU_take (i := 5) (oi := { dst := some 59, op := _, type := _, pos := _, after := _, guard := none }) (v := .int .i64 (u : Int)) rfl (by kernel_rfl) (by kernel_rfl) (by kernel_rfl) (by kernel_rfl) (fun _ _ _ h => h) (yields_take rfl (fun w' hw => by obtain ⟨h1, h2, h3, h4, h5, h6, h7⟩ := hw.const; go_simp)) hS0.out ?_
      simp only [Act.put, List.setIfInBounds_toArray, List.set_cons_zero, List.set_cons_succ]
      refine wpAnyU_take (i := 6) (oi := { dst := some 60, op := _, type := _, pos := _, after := _, guard := none }) (v := .pointer (some ⟨bA, oA + u * 5, none⟩)) rfl (by kernel_rfl) (by kernel_rfl) (by kernel_rfl) (by kernel_rfl) (fun _ _ _ h => h) (yields_take rfl (fun w' hw => by obtain ⟨h1, h2, h3, h4, h5, h6, h7⟩ := hw.const; go_simp)) hS0.out ?_
      simp only [Act.put, List.setIfInBounds_toArray, List.set_cons_zero, List.set_cons_succ]
      refine wpAnyU_take (i := 7) (oi := { dst := some 61, op := _, type := _, pos := _, after := _, guard := none }) (v := .agg #[.int .u8 x.kd, .slice x.I x.ni x.ci, .slice x.S x.ns x.cs, .int .i64 x.N, .int .i64 x.P]) rfl (by kernel_rfl) (by kernel_rfl) (by kernel_rfl) (by kernel_rfl) (fun _ _ _ h => h) (yields_take rfl (fun w' hw => by obtain ⟨h1, h2, h3, h4, h5, h6, h7⟩ := hw.const; go_simp)) hS0.out ?_
      simp only [Act.put, List.setIfInBounds_toArray, List.set_cons_zero, List.set_cons_succ]
      refine wpAnyU_one (i := 8) (by kernel_rfl) rfl ?_
      intro K hK
      go_simp
      have hS1 : Hid ((wr.drew.alloc (.cells #[.int .u8 0, .slice none 0 0, .slice none 0 0, .int .i64 0, .int .i64 0] 33)).cell? ⟨w.heap.size, 0, none⟩ = some (.slice (some ⟨bA, oA, none⟩) n c) ∧ (wr.drew.alloc (.cells #[.int .u8 0, .slice none 0 0, .slice none 0 0, .int .i64 0, .int .i64 0] 33)).cell? ⟨bl, ol + i, none⟩ = some (.int .i64 (u : Int)) ∧ (wr.drew.alloc (.cells #[.int .u8 0, .slice none 0 0, .slice none 0 0, .int .i64 0, .int .i64 0] 33)).cell? ⟨bA, oA + u * 5, none⟩ = some (.int .u8 x.kd) ∧ (wr.drew.alloc (.cells #[.int .u8 0, .slice none 0 0, .slice none 0 0, .int .i64 0, .int .i64 0] 33)).cell? ⟨bA, oA + u * 5 + 1, none⟩ = some (.slice x.I x.ni x.ci) ∧ (wr.drew.alloc (.cells #[.int .u8 0, .slice none 0 0, .slice none 0 0, .int .i64 0, .int .i64 0] 33)).cell? ⟨bA, oA + u * 5 + 2, none⟩ = some (.slice x.S x.ns x.cs) ∧ (wr.drew.alloc (.cells #[.int .u8 0, .slice none 0 0, .slice none 0 0, .int .i64 0, .int .i64 0] 33)).cell? ⟨bA, oA + u * 5 + 3, none⟩ = some (.int .i64 x.N) ∧ (wr.drew.alloc (.cells #[.int .u8 0, .slice none 0 0, .slice none 0 0, .int .i64 0, .int .i64 0] 33)).cell? ⟨bA, oA + u * 5 + 4, none⟩ = some (.int .i64 x.P)) := hide (HKC.out _ (below_al6 hd0))
      refine hK.out _ _ hS1.out (fun _ => ?_)
      clear hK K hS0
      refine wpAnyU_one (i := 9) (by kernel_rfl) rfl ?_
      intro K hK
      go_simp
      have hS2 : Hid ((wr.alloc (.cells #[.int .u8 x.kd, .slice x.I x.ni x.ci, .slice x.S x.ns x.cs, .int .i64 x.N, .int .i64 x.P] 33)).drew.cell? ⟨w.heap.size, 0, none⟩ = some (.slice (some ⟨bA, oA, none⟩) n c) ∧ (wr.alloc (.cells #[.int .u8 x.kd, .slice x.I x.ni x.ci, .slice x.S x.ns x.cs, .int .i64 x.N, .int .i64 x.P] 33)).drew.cell? ⟨bl, ol + i, none⟩ = some (.int .i64 (u : Int)) ∧ (wr.alloc (.cells #[.int .u8 x.kd, .slice x.I x.ni x.ci, .slice x.S x.ns x.cs, .int .i64 x.N, .int .i64 x.P] 33)).drew.cell? ⟨bA, oA + u * 5, none⟩ = some (.int .u8 x.kd) ∧ (wr.alloc (.cells #[.int .u8 x.kd, .slice x.I x.ni x.ci, .slice x.S x.ns x.cs, .int .i64 x.N, .int .i64 x.P] 33)).drew.cell? ⟨bA, oA + u * 5 + 1, none⟩ = some (.slice x.I x.ni x.ci) ∧ (wr.alloc (.cells #[.int .u8 x.kd, .slice x.I x.ni x.ci, .slice x.S x.ns x.cs, .int .i64 x.N, .int .i64 x.P] 33)).drew.cell? ⟨bA, oA + u * 5 + 2, none⟩ = some (.slice x.S x.ns x.cs) ∧ (wr.alloc (.cells #[.int .u8 x.kd, .slice x.I x.ni x.ci, .slice x.S x.ns x.cs, .int .i64 x.N, .int .i64 x.P] 33)).drew.cell? ⟨bA, oA + u * 5 + 3, none⟩ = some (.int .i64 x.N) ∧ (wr.alloc (.cells #[.int .u8 x.kd, .slice x.I x.ni x.ci, .slice x.S x.ns x.cs, .int .i64 x.N, .int .i64 x.P] 33)).drew.cell? ⟨bA, oA + u * 5 + 4, none⟩ = some (.int .i64 x.P)) := hide (HKC.out _ (below_drewN (below_al6 (Below.refl _ _)) 1))
      refine hK.out _ _ hS2.out (fun _ => ?_)
      clear hK K hS1
      refine wpAnyU_done (by kernel_rfl) ?_ _
      clear hS2
      obtain ⟨V, hV⟩ : ∃ V, V = (wr.alloc (.cells #[.int .u8 x.kd, .slice x.I x.ni x.ci, .slice x.S x.ns x.cs, .int .i64 x.N, .int .i64 x.P] 33)).drew := ⟨_, rfl⟩
      rw [← hV]
      have HXB : Hid (BoxN V wr.heap.size x) := hide (by rw [hV]; exact BoxN.new wr x)
      have HBV : Hid (Below w3.heap.size w3 V) := hide (by rw [hV]; exact below_drewN (below_al6 HB.out) 1)
      obtain ⟨px, hpx⟩ : ∃ z, z = wr.heap.size := ⟨_, rfl⟩
      rw [← hpx]
      rw [← hpx] at HXB
      clear hV hd0 HKC hpx
      go_wp2
      go_loopw [7] (fun v wq => ∃ j : Nat, j ≤ x.ni ∧ v = .int .i64 j ∧ Hid (Below V.heap.size V wq)) (fun v _ => x.ni - (intOf v).toNat)
      case atStart => exact ⟨0, Nat.zero_le _, rfl, hide (Below.refl _ _)⟩
      case round =>
        obtain ⟨j, hj, rfl, HQ⟩ := hrel
        have cb := (HXB.out.kept HQ.out).cs.2.1
        by_cases hlt2 : j < x.ni
        · have j0 : (0 : Int) ≤ (j : Int) := by omega
          have j1 : (j : Int) < (x.ni : Int) := by omega
          have hni : x.ni ≤ 70368744177664 := HLX.out.2
          obtain ⟨bI, oI, eI, _, hxI⟩ := byte_at (HLX.out.1.below (below_nx6 HBV.out HQ.out)) (by omega)
          obtain ⟨z, hz⟩ : ∃ z, z = x.xs.getD j 0 := ⟨_, rfl⟩
          have HZC : Hid (∀ v, Below wr.heap.size wr v → v.cell? ⟨px, 1, none⟩ = some (.slice (some ⟨bI, oI, none⟩) x.ni x.ci) ∧ v.cell? ⟨bI, oI + j, none⟩ = some (.int .i64 z)) := hide (fun v hv => by
            have h1 := (HXB.out.kept (below_nx6 HQ.out hv)).cs.2.1
            rw [eI] at h1
            refine ⟨h1, ?_⟩
            have h2 := hxI j hlt2
            rw [← hz] at h2
            exact (hv.cell (World.block_lt_of_cell? wr _ h2)).trans h2)
          have hzin : z ∈ L.take i := need_in HNA.out HV.out HU2.out HU3.out (by rw [HXU.out, hz]; exact getD_mem (by rw [HLN.out]; exact hlt2))
          have HZIN := hide hzin
          have hd0 : Below wr.heap.size wr wr.drew := below_drewN (Below.refl _ _) 1
          have HPRE : Hid (Lies wr.drew (some ⟨bl, ol, none⟩) i ((L.take i).map (Value.int .i64))) := hide (by
            rw [List.map_take]
            exact ((HLA.out.below (below_nx6 (below_nx6 HBV.out HQ.out) hd0)).take (by omega)))
          rw [eI] at cb
          have HEI := hide eI
          clear hxI hz hzin eI
          go_wp2
          have hS0 : Hid (wr.drew.cell? ⟨px, 1, none⟩ = some (.slice (some ⟨bI, oI, none⟩) x.ni x.ci) ∧ wr.drew.cell? ⟨bI, oI + j, none⟩ = some (.int .i64 z)) := hide (HZC.out _ hd0)
          refine wp_region_U (fun _ v => v.cell? ⟨px, 1, none⟩ = some (.slice (some ⟨bI, oI, none⟩) x.ni x.ci) ∧ v.cell? ⟨bI, oI + j, none⟩ = some (.int .i64 z)) 99 (by kernel_rfl) ?_
          refine wpAnyU_take (i := 0) (oi := { dst := some 69, op := _, type := _, pos := _, after := _, guard := none }) (v := .slice (some ⟨bl, ol, none⟩) m ca) rfl (by kernel_rfl) (by kernel_rfl) (by kernel_rfl) (by kernel_rfl) (fun _ _ _ h => h) (yields_take rfl (fun w' hw => by obtain ⟨h1, h2⟩ := hw.const; go_simp)) hS0.out ?_
          simp only [Act.put, List.setIfInBounds_toArray, List.set_cons_zero, List.set_cons_succ]
          refine wpAnyU_take (i := 1) (oi := { dst := some 70, op := _, type := _, pos := _, after := _, guard := none }) (v := .int .i64 (i : Int)) rfl (by kernel_rfl) (by kernel_rfl) (by kernel_rfl) (by kernel_rfl) (fun _ _ _ h => h) (yields_take rfl (fun w' hw => by obtain ⟨h1, h2⟩ := hw.const; go_simp)) hS0.out ?_
          simp only [Act.put, List.setIfInBounds_toArray, List.set_cons_zero, List.set_cons_succ]
          refine wpAnyU_take (i := 2) (oi := { dst := some 71, op := _, type := _, pos := _, after := _, guard := none }) (v := .slice (some ⟨bl, ol, none⟩) i ca) rfl (by kernel_rfl) (by kernel_rfl) (by kernel_rfl) (by kernel_rfl) (fun _ _ _ h => h) (yields_take rfl (fun w' hw => by obtain ⟨h1, h2⟩ := hw.const; go_simp)) hS0.out ?_
          simp only [Act.put, List.setIfInBounds_toArray, List.set_cons_zero, List.set_cons_succ]
          refine wpAnyU_take (i := 3) (oi := { dst := some 72, op := _, type := _, pos := _, after := _, guard := none }) (v := .pointer (some ⟨px, 1, none⟩)) rfl (by kernel_rfl) (by kernel_rfl) (by kernel_rfl) (by kernel_rfl) (fun _ _ _ h => h) (yields_take rfl (fun w' hw => by obtain ⟨h1, h2⟩ := hw.const; go_simp)) hS0.out ?_
          simp only [Act.put, List.setIfInBounds_toArray, List.set_cons_zero, List.set_cons_succ]
          refine wpAnyU_take (i := 4) (oi := { dst := some 73, op := _, type := _, pos := _, after := _, guard := none }) (v := .slice (some ⟨bI, oI, none⟩) x.ni x.ci) rfl (by kernel_rfl) (by kernel_rfl) (by kernel_rfl) (by kernel_rfl) (fun _ _ _ h => h) (yields_take rfl (fun w' hw => by obtain ⟨h1, h2⟩ := hw.const; go_simp)) hS0.out ?_
          simp only [Act.put, List.setIfInBounds_toArray, List.set_cons_zero, List.set_cons_succ]
          refine wpAnyU_take (i := 5) (oi := { dst := some 74, op := _, type := _, pos := _, after := _, guard := none }) (v := .int .i64 (j : Int)) rfl (by kernel_rfl) (by kernel_rfl) (by kernel_rfl) (by kernel_rfl) (fun _ _ _ h => h) (yields_take rfl (fun w' hw => by obtain ⟨h1, h2⟩ := hw.const; go_simp)) hS0.out ?_
          simp only [Act.put, List.setIfInBounds_toArray, List.set_cons_zero, List.set_cons_succ]
          refine wpAnyU_take (i := 6) (oi := { dst := some 75, op := _, type := _, pos := _, after := _, guard := none }) (v := .pointer (some ⟨bI, oI + j, none⟩)) rfl (by kernel_rfl) (by kernel_rfl) (by kernel_rfl) (by kernel_rfl) (fun _ _ _ h => h) (yields_take rfl (fun w' hw => by obtain ⟨h1, h2⟩ := hw.const; go_simp)) hS0.out ?_
          simp only [Act.put, List.setIfInBounds_toArray, List.set_cons_zero, List.set_cons_succ]
          refine wpAnyU_take (i := 7) (oi := { dst := some 76, op := _, type := _, pos := _, after := _, guard := none }) (v := .int .i64 z) rfl (by kernel_rfl) (by kernel_rfl) (by kernel_rfl) (by kernel_rfl) (fun _ _ _ h => h) (yields_take rfl (fun w' hw => by obtain ⟨h1, h2⟩ := hw.const; go_simp)) hS0.out ?_
          simp only [Act.put, List.setIfInBounds_toArray, List.set_cons_zero, List.set_cons_succ]
          refine wpAnyU_one (i := 8) (by kernel_rfl) rfl ?_
          intro K hK
          go_simp
          refine Calls.mono (in12_any (some ⟨bl, ol, none⟩) i ca (L.take i) z _ HPRE.out (by omega)) ?_
          rintro e v1 ⟨he, hb⟩
          (try dsimp only)
          rw [decide_eq_true HZIN.out] at he
          subst he
          have hd1 : Below wr.heap.size wr v1 := below_nx6 hd0 hb
          clear hb
          (try dsimp only)
          have hS1 : Hid (v1.cell? ⟨px, 1, none⟩ = some (.slice (some ⟨bI, oI, none⟩) x.ni x.ci) ∧ v1.cell? ⟨bI, oI + j, none⟩ = some (.int .i64 z)) := hide (HZC.out _ hd1)
          refine hK.out _ _ hS1.out (fun _ => ?_)
          clear hK K hS0
          refine wpAnyU_take (i := 9) (oi := { dst := some 78, op := _, type := _, pos := _, after := _, guard := none }) (v := .bool false) rfl (by kernel_rfl) (by kernel_rfl) (by kernel_rfl) (by kernel_rfl) (fun _ _ _ h => h) (yields_take rfl (fun w' hw => by obtain ⟨h1, h2⟩ := hw.const; go_simp)) hS1.out ?_
          simp only [Act.put, List.setIfInBounds_toArray, List.set_cons_zero, List.set_cons_succ]
          refine wpAnyU_done (by kernel_rfl) ?_ _
          clear hS1
          have HQ2 := hide (below_nx6 HQ.out hd1)
          clear HZC HPRE hd0 hd1 cb
          go_wp2
          go_roundw
          case rel => exact ⟨j + 1, by omega, by go_num, HQ2⟩
          case measure => simp [intOf] <;> omega
        · obtain rfl : j = x.ni := by omega
          have j1 : ¬ ((x.ni : Int) < (x.ni : Int)) := by omega
          have HBQ := hide (below_nx6 HBV.out HQ.out)
          obtain ⟨q0, hq⟩ : ∃ q, q = i + 1 := ⟨_, rfl⟩
          have e4 : IntKind.i64.wrap ((i : Int) + 1) = (q0 : Int) := by rw [IntKind.wrap_i64]; omega
          obtain ⟨T0, hT0⟩ : ∃ T, T = ((i : Int) == (m : Int) - 1) := ⟨_, rfl⟩
          have HT0 : Hid (T0 = true ↔ i = m - 1 ∨ ∃ q' k : Nat, i < q' ∧ q' < q0 ∧ L[q']? = some (k : Int) ∧ (u : Int) ∈ insN ns k) := hide (by
            rw [hT0, beq_iff_eq]
            constructor
            · intro h; left; omega
            · rintro (h | ⟨q', k, h1, h2, _⟩)
              · omega
              · omega)
          have e5 := hT0.symm
          have HQE := hide hq
          have hqi : i < q0 := by omega
          have hqm : q0 ≤ m := by omega
          have e6 : (i : Int) + 1 = (q0 : Int) := by omega
          clear hT0 hq
          go_wp2
          go_loopw [8, 9] (fun tv v wz => ∃ (q : Nat) (T : Bool), i < q ∧ q ≤ m ∧ v = .int .i64 q ∧ tv = .bool T ∧ Hid (T = true ↔ i = m - 1 ∨ ∃ q' k : Nat, i < q' ∧ q' < q ∧ L[q']? = some (k : Int) ∧ (u : Int) ∈ insN ns k) ∧ Hid (Below wr.heap.size wr wz)) (fun _ v _ => m - (intOf v).toNat)
          case atStart => exact ⟨q0, T0, hqi, hqm, rfl, rfl, HT0, hide (Below.refl _ _)⟩
          case round =>
            clear e4 e5 e6 HT0 HQE hqi hqm
            obtain ⟨q, T, hqi, hqm, rfl, rfl, HT, HZ⟩ := hrel
            by_cases hlq : q < m
            · obtain ⟨u2, hu1, hu2, hu3, hun2⟩ := need_at HNA.out HV.out hn1 (by rw [HM.out]; exact hlq)
              have HQ1 := hide hu1
              have HQ2 := hide hu2
              have k0 : (0 : Int) ≤ (u2 : Int) := by omega
              have k1 : (u2 : Int) < (n : Int) := by omega
              have k2 : (0 : Int) ≤ (q : Int) := by omega
              have k3 : (q : Int) < (m : Int) := by omega
              obtain ⟨b2, o2, x2, e2, hx2, _, h1, _, _, _, hxo⟩ := (HN.out.below (below_nx6 HBQ.out HZ.out)).at hun2
              cases e2
              have HX2 : Hid (insN ns u2 = x2.xs) := hide (insN_at hx2)
              have HLX2 : Hid (Lies wr x2.I x2.ni (x2.xs.map (Value.int .i64)) ∧ x2.ni ≤ 70368744177664) := hide ⟨hxo.1, hxo.2.2.2.2.1⟩
              have HKC : Hid (∀ v, Below wr.heap.size wr v → v.cell? ⟨w.heap.size, 0, none⟩ = some (.slice (some ⟨bA, oA, none⟩) n c) ∧ v.cell? ⟨bl, ol + q, none⟩ = some (.int .i64 (u2 : Int)) ∧ v.cell? ⟨bl, ol + i, none⟩ = some (.int .i64 (u : Int)) ∧ v.cell? ⟨bA, oA + u2 * 5 + 1, none⟩ = some (.slice x2.I x2.ni x2.ci)) := hide (fun v hv => by
                have hv2 := below_nx6 (below_nx6 HBQ.out HZ.out) hv
                have hq1 := HCL.out v hv2 q hlq
                rw [HQ1.out] at hq1
                have hq2 := HCL.out v hv2 i hlt
                rw [HU1.out] at hq2
                exact ⟨(HX.out.kept hv2).c0, hq1, hq2, (hv.cell (World.block_lt_of_cell? wr _ h1)).trans h1⟩)
              have hd0 : Below wr.heap.size wr wr.drew := below_drewN (Below.refl _ _) 1
              clear hu1 hu2 hu3 hx2 h1 hxo
              cases T with
              | true =>
                have HT2 : Hid (true = true ↔ i = m - 1 ∨ ∃ q' k : Nat, i < q' ∧ q' < q + 1 ∧ L[q']? = some (k : Int) ∧ (u : Int) ∈ insN ns k) := hide ⟨fun _ => by
                  rcases HT.out.1 rfl with h | ⟨q', k, h1, h2, h3⟩
                  · exact .inl h
                  · exact .inr ⟨q', k, h1, by omega, h3⟩, fun _ => rfl⟩
                clear HKC hd0
                go_wp2
                go_quiet (fail)
                go_wp2
                go_roundw
                case rel => exact ⟨q + 1, true, by omega, by omega, by go_num, rfl, hide (by simpa using HT2.out), hide (below_drewN HZ.out _)⟩
                case measure => simp [intOf] <;> omega
              | false =>
                obtain ⟨B, hB⟩ : ∃ B, B = decide ((u : Int) ∈ x2.xs) := ⟨_, rfl⟩
                have HBB := hide hB
                have HT2 : Hid (B = true ↔ i = m - 1 ∨ ∃ q' k : Nat, i < q' ∧ q' < q + 1 ∧ L[q']? = some (k : Int) ∧ (u : Int) ∈ insN ns k) := hide (by
                  rw [hB, decide_eq_true_iff, ← HX2.out]
                  constructor
                  · intro h
                    exact .inr ⟨q, u2, hqi, by omega, HQ2.out, h⟩
                  · rintro (h | ⟨q', k, h1, h2, h3, h4⟩)
                    · exact absurd (HT.out.2 (.inl h)) (by decide)
                    · by_cases e : q' = q
                      · subst e
                        rw [HQ2.out] at h3
                        have : u2 = k := by injection h3 with h3; omega
                        subst this
                        exact h4
                      · exact absurd (HT.out.2 (.inr ⟨q', k, h1, by omega, h3, h4⟩)) (by decide))
                clear hB
                go_wp2
                have hS0 : Hid (wr.drew.cell? ⟨w.heap.size, 0, none⟩ = some (.slice (some ⟨bA, oA, none⟩) n c) ∧ wr.drew.cell? ⟨bl, ol + q, none⟩ = some (.int .i64 (u2 : Int)) ∧ wr.drew.cell? ⟨bl, ol + i, none⟩ = some (.int .i64 (u : Int)) ∧ wr.drew.cell? ⟨bA, oA + u2 * 5 + 1, none⟩ = some (.slice x2.I x2.ni x2.ci)) := hide (HKC.out _ hd0)
                refine wp_region_U (fun _ v => v.cell? ⟨w.heap.size, 0, none⟩ = some (.slice (some ⟨bA, oA, none⟩) n c) ∧ v.cell? ⟨bl, ol + q, none⟩ = some (.int .i64 (u2 : Int)) ∧ v.cell? ⟨bl, ol + i, none⟩ = some (.int .i64 (u : Int)) ∧ v.cell? ⟨bA, oA + u2 * 5 + 1, none⟩ = some (.slice x2.I x2.ni x2.ci)) 99 (by kernel_rfl) ?_
                refine wpAnyU_take (i := 0) (oi := { dst := some 92, op := _, type := _, pos := _, after := _, guard := none }) (v := .bool false) rfl (by kernel_rfl) (by kernel_rfl) (by kernel_rfl) (by kernel_rfl) (fun _ _ _ h => h) (yields_take rfl (fun w' hw => by obtain ⟨h1, h2, h3, h4⟩ := hw.const; go_simp)) hS0.out ?_
                simp only [Act.put, List.setIfInBounds_toArray, List.set_cons_zero, List.set_cons_succ]
                refine wpAnyU_take (i := 1) (oi := { dst := some 93, op := _, type := _, pos := _, after := _, guard := none }) (v := .bool false) rfl (by kernel_rfl) (by kernel_rfl) (by kernel_rfl) (by kernel_rfl) (fun _ _ _ h => h) (yields_take rfl (fun w' hw => by obtain ⟨h1, h2, h3, h4⟩ := hw.const; go_simp)) hS0.out ?_
                simp only [Act.put, List.setIfInBounds_toArray, List.set_cons_zero, List.set_cons_succ]
                refine wpAnyU_take (i := 2) (oi := { dst := some 94, op := _, type := _, pos := _, after := _, guard := some (1, false) }) (v := .pointer (some ⟨w.heap.size, 0, none⟩)) rfl (by kernel_rfl) (by kernel_rfl) (by kernel_rfl) (by kernel_rfl) (fun _ _ _ h => h) (yields_take rfl (fun w' hw => by obtain ⟨h1, h2, h3, h4⟩ := hw.const; go_simp)) hS0.out ?_
                simp only [Act.put, List.setIfInBounds_toArray, List.set_cons_zero, List.set_cons_succ]
                refine wpAnyU_take (i := 3) (oi := { dst := some 95, op := _, type := _, pos := _, after := _, guard := some (1, false) }) (v := .slice (some ⟨bA, oA, none⟩) n c) rfl (by kernel_rfl) (by kernel_rfl) (by kernel_rfl) (by kernel_rfl) (fun _ _ _ h => h) (yields_take rfl (fun w' hw => by obtain ⟨h1, h2, h3, h4⟩ := hw.const; go_simp)) hS0.out ?_
                simp only [Act.put, List.setIfInBounds_toArray, List.set_cons_zero, List.set_cons_succ]
                refine wpAnyU_take (i := 4) (oi := { dst := some 96, op := _, type := _, pos := _, after := _, guard := some (1, false) }) (v := .slice (some ⟨bl, ol, none⟩) m ca) rfl (by kernel_rfl) (by kernel_rfl) (by kernel_rfl) (by kernel_rfl) (fun _ _ _ h => h) (yields_take rfl (fun w' hw => by obtain ⟨h1, h2, h3, h4⟩ := hw.const; go_simp)) hS0.out ?_
                simp only [Act.put, List.setIfInBounds_toArray, List.set_cons_zero, List.set_cons_succ]
                refine wpAnyU_take (i := 5) (oi := { dst := some 97, op := _, type := _, pos := _, after := _, guard := some (1, false) }) (v := .int .i64 (q : Int)) rfl (by kernel_rfl) (by kernel_rfl) (by kernel_rfl) (by kernel_rfl) (fun _ _ _ h => h) (yields_take rfl (fun w' hw => by obtain ⟨h1, h2, h3, h4⟩ := hw.const; go_simp)) hS0.out ?_
                simp only [Act.put, List.setIfInBounds_toArray, List.set_cons_zero, List.set_cons_succ]
                refine wpAnyU_take (i := 6) (oi := { dst := some 98, op := _, type := _, pos := _, after := _, guard := some (1, false) }) (v := .pointer (some ⟨bl, ol + q, none⟩)) rfl (by kernel_rfl) (by kernel_rfl) (by kernel_rfl) (by kernel_rfl) (fun _ _ _ h => h) (yields_take rfl (fun w' hw => by obtain ⟨h1, h2, h3, h4⟩ := hw.const; go_simp)) hS0.out ?_
                simp only [Act.put, List.setIfInBounds_toArray, List.set_cons_zero, List.set_cons_succ]
                refine wpAnyU_take (i := 7) (oi := { dst := some 99, op := _, type := _, pos := _, after := _, guard := some (1, false) }) (v := .int .i64 (u2 : Int)) rfl (by kernel_rfl) (by kernel_rfl) (by kernel_rfl) (by kernel_rfl) (fun _ _ _ h => h) (yields_take rfl (fun w' hw => by obtain ⟨h1, h2, h3, h4⟩ := hw.const; go_simp)) hS0.out ?_
                simp only [Act.put, List.setIfInBounds_toArray, List.set_cons_zero, List.set_cons_succ]
                refine wpAnyU_take (i := 8) (oi := { dst := some 100, op := _, type := _, pos := _, after := _, guard := some (1, false) }) (v := .pointer (some ⟨bA, oA + u2 * 5, none⟩)) rfl (by kernel_rfl) (by kernel_rfl) (by kernel_rfl) (by kernel_rfl) (fun _ _ _ h => h) (yields_take rfl (fun w' hw => by obtain ⟨h1, h2, h3, h4⟩ := hw.const; go_simp)) hS0.out ?_
                simp only [Act.put, List.setIfInBounds_toArray, List.set_cons_zero, List.set_cons_succ]
                refine wpAnyU_take (i := 9) (oi := { dst := some 101, op := _, type := _, pos := _, after := _, guard := some (1, false) }) (v := .pointer (some ⟨bA, oA + u2 * 5 + 1, none⟩)) rfl (by kernel_rfl) (by kernel_rfl) (by kernel_rfl) (by kernel_rfl) (fun _ _ _ h => h) (yields_take rfl (fun w' hw => by obtain ⟨h1, h2, h3, h4⟩ := hw.const; go_simp)) hS0.out ?_
                simp only [Act.put, List.setIfInBounds_toArray, List.set_cons_zero, List.set_cons_succ]
                refine wpAnyU_take (i := 10) (oi := { dst := some 102, op := _, type := _, pos := _, after := _, guard := some (1, false) }) (v := .slice x2.I x2.ni x2.ci) rfl (by kernel_rfl) (by kernel_rfl) (by kernel_rfl) (by kernel_rfl) (fun _ _ _ h => h) (yields_take rfl (fun w' hw => by obtain ⟨h1, h2, h3, h4⟩ := hw.const; go_simp)) hS0.out ?_
                simp only [Act.put, List.setIfInBounds_toArray, List.set_cons_zero, List.set_cons_succ]
                refine wpAnyU_take (i := 11) (oi := { dst := some 103, op := _, type := _, pos := _, after := _, guard := some (1, false) }) (v := .slice (some ⟨bl, ol, none⟩) m ca) rfl (by kernel_rfl) (by kernel_rfl) (by kernel_rfl) (by kernel_rfl) (fun _ _ _ h => h) (yields_take rfl (fun w' hw => by obtain ⟨h1, h2, h3, h4⟩ := hw.const; go_simp)) hS0.out ?_
                simp only [Act.put, List.setIfInBounds_toArray, List.set_cons_zero, List.set_cons_succ]
                refine wpAnyU_take (i := 12) (oi := { dst := some 104, op := _, type := _, pos := _, after := _, guard := some (1, false) }) (v := .int .i64 (i : Int)) rfl (by kernel_rfl) (by kernel_rfl) (by kernel_rfl) (by kernel_rfl) (fun _ _ _ h => h) (yields_take rfl (fun w' hw => by obtain ⟨h1, h2, h3, h4⟩ := hw.const; go_simp)) hS0.out ?_
                simp only [Act.put, List.setIfInBounds_toArray, List.set_cons_zero, List.set_cons_succ]
                refine wpAnyU_take (i := 13) (oi := { dst := some 105, op := _, type := _, pos := _, after := _, guard := some (1, false) }) (v := .pointer (some ⟨bl, ol + i, none⟩)) rfl (by kernel_rfl) (by kernel_rfl) (by kernel_rfl) (by kernel_rfl) (fun _ _ _ h => h) (yields_take rfl (fun w' hw => by obtain ⟨h1, h2, h3, h4⟩ := hw.const; go_simp)) hS0.out ?_
                simp only [Act.put, List.setIfInBounds_toArray, List.set_cons_zero, List.set_cons_succ]
                refine wpAnyU_take (i := 14) (oi := { dst := some 106, op := _, type := _, pos := _, after := _, guard := some (1, false) }) (v := .int .i64 (u : Int)) rfl (by kernel_rfl) (by kernel_rfl) (by kernel_rfl) (by kernel_rfl) (fun _ _ _ h => h) (yields_take rfl (fun w' hw => by obtain ⟨h1, h2, h3, h4⟩ := hw.const; go_simp)) hS0.out ?_
                simp only [Act.put, List.setIfInBounds_toArray, List.set_cons_zero, List.set_cons_succ]
                refine wpAnyU_one (i := 15) (by kernel_rfl) rfl ?_
                intro K hK
                go_simp
                refine Calls.mono (in12_any x2.I x2.ni x2.ci x2.xs (u : Int) _ (HLX2.out.1.below hd0) (by have := HLX2.out.2; omega)) ?_
                rintro e v1 ⟨he, hb⟩
                (try dsimp only)
                rw [← HBB.out] at he
                subst he
                have hd1 : Below wr.heap.size wr v1 := below_nx6 hd0 hb
                clear hb
                (try dsimp only)
                have hS1 : Hid (v1.cell? ⟨w.heap.size, 0, none⟩ = some (.slice (some ⟨bA, oA, none⟩) n c) ∧ v1.cell? ⟨bl, ol + q, none⟩ = some (.int .i64 (u2 : Int)) ∧ v1.cell? ⟨bl, ol + i, none⟩ = some (.int .i64 (u : Int)) ∧ v1.cell? ⟨bA, oA + u2 * 5 + 1, none⟩ = some (.slice x2.I x2.ni x2.ci)) := hide (HKC.out _ hd1)
                refine hK.out _ _ hS1.out (fun _ => ?_)
                clear hK K hS0
                refine wpAnyU_take (i := 16) (oi := { dst := some 108, op := _, type := _, pos := _, after := _, guard := none }) (v := .bool B) rfl (by kernel_rfl) (by kernel_rfl) (by kernel_rfl) (by kernel_rfl) (fun _ _ _ h => h) (yields_take rfl (fun w' hw => by obtain ⟨h1, h2, h3, h4⟩ := hw.const; go_simp)) hS1.out ?_
                simp only [Act.put, List.setIfInBounds_toArray, List.set_cons_zero, List.set_cons_succ]
                refine wpAnyU_take (i := 17) (oi := { dst := some 8, op := _, type := _, pos := _, after := _, guard := none }) (v := .bool B) rfl (by kernel_rfl) (by kernel_rfl) (by kernel_rfl) (by kernel_rfl) (fun _ _ _ h => h) (yields_take rfl (fun w' hw => by obtain ⟨h1, h2, h3, h4⟩ := hw.const; go_simp)) hS1.out ?_
                simp only [Act.put, List.setIfInBounds_toArray, List.set_cons_zero, List.set_cons_succ]
                refine wpAnyU_done (by kernel_rfl) ?_ _
                clear hS1
                have HZ2 := hide (below_nx6 HZ.out hd1)
                clear HKC hd0 hd1
                go_wp2
                go_roundw
                case rel => exact ⟨q + 1, B, by omega, by omega, by go_num, rfl, HT2, HZ2⟩
                case measure => simp [intOf] <;> omega
            · obtain rfl : q = m := by omega
              have k3 : ¬ (q : Int) < (q : Int) := by omega
              obtain rfl : T = true := HT.out.2 (by
                rcases need_taken HNA.out HV.out HM.out HU2.out HU3.out with h | ⟨q', k, h1, h2, h3, h4⟩
                · exact .inl h
                · exact .inr ⟨q', k, h1, h2, h3, h4⟩)
              have HBZ := hide (below_nx6 HBQ.out HZ.out)
              by_cases hi0 : i = 0
              · have z1 : decide ((0 : Int) < (i : Int)) = false := decide_eq_false (by omega)
                have z2 : decide (0 < i) = false := decide_eq_false (by omega)
                clear hi0
                go_wp2
                go_quiet (fail)
                go_wp2
                go_roundw
                case rel => exact ⟨i + 1, by omega, by go_num, hide (below_drewN HBZ.out _)⟩
                case measure => simp [intOf] <;> omega
              · have z1 : decide ((0 : Int) < (i : Int)) = true := decide_eq_true (by omega)
                have z2 : decide (0 < i) = true := decide_eq_true (by omega)
                obtain ⟨e, he⟩ : ∃ e, i = e + 1 := ⟨i - 1, by omega⟩
                obtain ⟨u0, hu1, hu2, _, _⟩ := need_at HNA.out HV.out hn1 (show e < L.length by rw [HM.out]; omega)
                have hless := need_less HNA.out hu2 (by rw [← he]; exact HU2.out)
                have hq1 := HCL.out wr HBZ.out e (by omega)
                rw [hu1] at hq1
                have hq2 := HCL.out wr HBZ.out i hlt
                rw [HU1.out] at hq2
                have z3 : (i : Int) - 1 = (e : Int) := by omega
                have z4 : (0 : Int) ≤ (e : Int) := by omega
                have z5 : (e : Int) < (q : Int) := by omega
                have z6 : decide ((u : Int) ≤ (u0 : Int)) = false := decide_eq_false (by omega)
                have z7 : decide (u ≤ u0) = false := decide_eq_false (by omega)
                clear hi0 he hu1 hu2 hless
                go_wp2
                go_quiet (fail)
                go_wp2
                go_roundw
                case rel => exact ⟨i + 1, by omega, by go_num, hide (below_drewN HBZ.out _)⟩
                case measure => simp [intOf] <;> omega
    · obtain rfl : i = m := by omega
      have i1 : ¬ (i : Int) < (i : Int) := by omega
      go_wp2
      go_ret
      exact ⟨rfl, below_nx6 HB0.out (below_nx6 HBN.out HB.out)⟩

end

end Go.Proofs.Yteagmlaahnpkhaa
