/- Merged: Mb11. -/
import Derived.Test.YtohndckbhjakfaaGreatDoorWZ32
import Derived.Test.YtohndckbhjakfaaGreatDoorWZ35
import Derived.Test.YtohndckbhjakfaaGreatDoorWZ36
namespace Go.Proofs.YtohndckbhjakfaaGreatDoor

section
open Go.RowKit
set_option linter.unusedVariables false
set_option linter.unusedSimpArgs false
set_option maxRecDepth 100000

theorem own_cap63 {w : World} {b : Nat} {e : TypeId} {s n c : Nat} {A : Option Addr} {xs : List Value} (h : w.ownsRow b e s (.slice A n c) n xs) : c ≤ 9223372036854775807 := by
  rcases h.2 with ⟨h1, h2⟩ | ⟨g, cap, cur, h1, _, _, _, h3, _⟩
  · cases h1; omega
  · cases h1
    unfold maxLen at h3
    omega

theorem NsIn.kd {w : World} {A : Option Addr} {n : Nat} {ns : List Nd} (h : NsIn w A n ns) : ∀ x ∈ ns, 0 ≤ x.kd := by
  intro x hx
  obtain ⟨j, hj, e⟩ := List.getElem_of_mem hx
  have hl := h.1
  obtain ⟨b, o, y, _, hy, _, _, _, _, _, hok⟩ := h.at (k := j) (by omega)
  rw [List.getElem?_eq_getElem hj, e] at hy
  injection hy with hy
  subst hy
  exact hok.2.2.2.2.2.2.1.1

set_option maxHeartbeats 16000000 in
theorem modelsBack_any (A B : Option Addr) (n c m d : Nat) (ns : List Nd) (ts : List Wt) (w : World) (h : NsIn w A n ns) (hc : n ≤ c) (hn : n ≤ 70368744177664) (hW : WsIn w B m ts) (hm : m ≤ 70368744177664) (hv : LaidV w) :
    Calls Tryz.prog 3 #[.agg #[.slice A n c, .slice B m d]] w fun e w' => e = .returned (.bool true) ∧ Below w.heap.size w w' := by
  obtain ⟨W0, hW0⟩ : ∃ W0, W0 = w.alloc (.cells #[.slice A n c, .slice B m d] 27) := ⟨_, rfl⟩
  have HB0 : Hid (Below w.heap.size w W0) := hide (by rw [hW0]; exact below_al6 (Below.refl _ _))
  have HX : Hid (BoxM W0 w.heap.size (.slice A n c) (.slice B m d)) := hide (by rw [hW0]; exact BoxM.new w _ _)
  have HN := hide (h.below HB0.out)
  have HWS := hide (hW.below HB0.out)
  have HV := hide (hv.below HB0.out)
  have HL : Hid (ns.length = n) := hide h.1
  have HM : Hid (ts.length = m) := hide hW.1
  have HKD := hide h.kd
  have HWL := hide hW.all
  have hW0' := hW0.symm
  clear hW0 h hW hv
  go_enter Tryz.func3, Tryz.ntmps3
  go_wp2_with fail
  refine Calls.mono (alive11_any _ HV.out) ?_
  rintro e w1 ⟨rfl, hb⟩
  have HBN := hide hb
  clear hb
  obtain ⟨c0, c1⟩ := (HX.out.kept HBN.out).cs
  go_wp2_with fail
  refine Calls.mono (model_size A B n c m d ns ts _ (HN.out.below HBN.out) hn (HWS.out.below HBN.out) hm) ?_
  rintro e w2 ⟨r, rfl, hr1, hb⟩
  replace HBN := hide (below_nx6 HBN.out hb)
  clear hb c0 c1
  by_cases hbig : 60000 < r
  · go_wp2_with fail
    refine Calls.mono (alive11_any _ (HV.out.below HBN.out)) ?_
    rintro e w3 ⟨rfl, hb⟩
    replace HBN := hide (below_nx6 HBN.out hb)
    clear hb
    go_wp2
    go_ret
    exact ⟨rfl, below_nx6 HB0.out HBN.out⟩
  have hsz := hr1 (by omega)
  have hn2 : n ≤ 60000 := by have h1 := szN_len ns; rw [HL.out] at h1; omega
  have hm2 : m ≤ 60000 := by have h1 := szT_len ts; rw [HM.out] at h1; omega
  clear hr1 hsz
  obtain ⟨c0, c1⟩ := (HX.out.kept HBN.out).cs
  go_wp2_with fail
  refine Calls.mono (mput_any A B n c m d ns ts _ (HN.out.below HBN.out) (by omega) hc (HWS.out.below HBN.out) hm) ?_
  rintro e w3 ⟨A3, k3, c3, z, rfl, hp0, hp1, hb⟩
  have HP0 := hide hp0
  have HP1 := hide (fun hh => (hp1 hh).2.1)
  have HP2 := hide (fun hh => (hp1 hh).1)
  have HP3 := hide (fun hh => (hp1 hh).2.2)
  have HB3 := hide (below_nx6 HBN.out hb)
  have HS3 : Hid (W0.heap.size ≤ w3.heap.size) := hide HB3.out.size
  clear hb hp0 hp1 c0 c1 hbig
  obtain ⟨R, hR⟩ : ∃ z, z = mdB ns ts := ⟨_, rfl⟩
  rw [← hR] at HP0 HP1 HP2 HP3
  have HR := hide hR
  have HNO : Hid (¬ (gphB ns = true ∧ wsFit ns (wtF 0 ns) ts = true) → R = false) := hide (fun h => by
    rw [HR.out]
    cases e : mdB ns ts with
    | false => rfl
    | true => exact absurd (mdB_parts.1 e) h)
  clear hR
  have HKC : Hid (∀ v, Below W0.heap.size W0 v → v.cell? ⟨w.heap.size, 0, none⟩ = some (.slice A n c) ∧ v.cell? ⟨w.heap.size, 1, none⟩ = some (.slice B m d)) := hide (fun v hv => (HX.out.kept hv).cs)
  obtain ⟨c0, c1⟩ := HKC.out _ HB3.out
  have hd0 : Below W0.heap.size W0 w3.drew := below_drewN HB3.out 1
  obtain ⟨G, hG⟩ : ∃ z, z = gphB ns := ⟨_, rfl⟩
  have hck := gcheck_any A n c ns w3.drew (HN.out.below hd0) (by omega) hc
  rw [← hG] at hck
  have HCK := hide hck
  have HG := hide hG
  obtain ⟨k1, hk1⟩ : ∃ k, k = (wtF 0 ns).length := ⟨_, rfl⟩
  have HK1 := hide hk1
  have hk1n : k1 ≤ n := by have := wtF_len11 ns 0; rw [← hk1, HL.out] at this; exact this
  clear hck hG hk1
  go_wp2
  cases G with
  | false =>
    obtain rfl : R = false := HNO.out (fun h => by rw [← HG.out] at h; cases h.1)
    have hS0 : Hid (w3.drew.cell? ⟨w.heap.size, 0, none⟩ = some (.slice A n c) ∧ w3.drew.cell? ⟨w.heap.size, 1, none⟩ = some (.slice B m d)) := hide (HKC.out _ hd0)
    refine wp_region_U (fun _ v => v.cell? ⟨w.heap.size, 0, none⟩ = some (.slice A n c) ∧ v.cell? ⟨w.heap.size, 1, none⟩ = some (.slice B m d)) 99 (by kernel_rfl) ?_
    refine wpAnyU_take (i := 0) (oi := { dst := some 23, op := _, type := _, pos := _, after := _, guard := none }) (v := .pointer (some ⟨w.heap.size, 0, none⟩)) rfl (by kernel_rfl) (by kernel_rfl) (by kernel_rfl) (by kernel_rfl) (fun _ _ _ h => h) (yields_take rfl (fun w' hw => by obtain ⟨h1, h2⟩ := hw.const; go_simp)) hS0.out ?_
    simp only [Act.put, List.setIfInBounds_toArray, List.set_cons_zero, List.set_cons_succ]
    refine wpAnyU_take (i := 1) (oi := { dst := some 24, op := _, type := _, pos := _, after := _, guard := none }) (v := .agg #[.slice A n c]) rfl (by kernel_rfl) (by kernel_rfl) (by kernel_rfl) (by kernel_rfl) (fun _ _ _ h => h) (yields_take rfl (fun w' hw => by obtain ⟨h1, h2⟩ := hw.const; go_simp)) hS0.out ?_
    simp only [Act.put, List.setIfInBounds_toArray, List.set_cons_zero, List.set_cons_succ]
    refine wpAnyU_one (i := 2) (by kernel_rfl) rfl ?_
    intro K hK
    go_simp
    refine Calls.mono (HCK.out) ?_
    rintro e w4 ⟨rfl, hb⟩
    (try dsimp only)
    have hd1 : Below W0.heap.size W0 w4 := below_nx6 hd0 hb
    have hg1 : Below w3.heap.size w3 w4 := below_nx6 (below_drewN (Below.refl _ _) 1) hb
    clear hb
    (try dsimp only)
    have hS1 : Hid (w4.cell? ⟨w.heap.size, 0, none⟩ = some (.slice A n c) ∧ w4.cell? ⟨w.heap.size, 1, none⟩ = some (.slice B m d)) := hide (HKC.out _ hd1)
    refine hK.out _ _ hS1.out (fun _ => ?_)
    clear hK K hS0
    refine wpAnyU_take (i := 3) (oi := { dst := some 26, op := _, type := _, pos := _, after := _, guard := none }) (v := .bool false) rfl (by kernel_rfl) (by kernel_rfl) (by kernel_rfl) (by kernel_rfl) (fun _ _ _ h => h) (yields_take rfl (fun w' hw => by obtain ⟨h1, h2⟩ := hw.const; go_simp)) hS1.out ?_
    simp only [Act.put, List.setIfInBounds_toArray, List.set_cons_zero, List.set_cons_succ]
    refine wpAnyU_take (i := 4) (oi := { dst := some 27, op := _, type := _, pos := _, after := _, guard := some (3, true) }) (v := undef) rfl (by kernel_rfl) (by kernel_rfl) (by kernel_rfl) (by kernel_rfl) (fun _ _ _ h => h) (.inr ⟨rfl, rfl⟩) hS1.out ?_
    simp only [Act.put, List.setIfInBounds_toArray, List.set_cons_zero, List.set_cons_succ]
    refine wpAnyU_take (i := 5) (oi := { dst := some 28, op := _, type := _, pos := _, after := _, guard := some (3, true) }) (v := undef) rfl (by kernel_rfl) (by kernel_rfl) (by kernel_rfl) (by kernel_rfl) (fun _ _ _ h => h) (.inr ⟨rfl, rfl⟩) hS1.out ?_
    simp only [Act.put, List.setIfInBounds_toArray, List.set_cons_zero, List.set_cons_succ]
    refine wpAnyU_take (i := 6) (oi := { dst := some 29, op := _, type := _, pos := _, after := _, guard := some (3, true) }) (v := undef) rfl (by kernel_rfl) (by kernel_rfl) (by kernel_rfl) (by kernel_rfl) (fun _ _ _ h => h) (.inr ⟨rfl, rfl⟩) hS1.out ?_
    simp only [Act.put, List.setIfInBounds_toArray, List.set_cons_zero, List.set_cons_succ]
    refine wpAnyU_take (i := 7) (oi := { dst := some 30, op := _, type := _, pos := _, after := _, guard := some (3, true) }) (v := undef) rfl (by kernel_rfl) (by kernel_rfl) (by kernel_rfl) (by kernel_rfl) (fun _ _ _ h => h) (.inr ⟨rfl, rfl⟩) hS1.out ?_
    simp only [Act.put, List.setIfInBounds_toArray, List.set_cons_zero, List.set_cons_succ]
    refine wpAnyU_take (i := 8) (oi := { dst := some 31, op := _, type := _, pos := _, after := _, guard := some (3, true) }) (v := undef) rfl (by kernel_rfl) (by kernel_rfl) (by kernel_rfl) (by kernel_rfl) (fun _ _ _ h => h) (.inr ⟨rfl, rfl⟩) hS1.out ?_
    simp only [Act.put, List.setIfInBounds_toArray, List.set_cons_zero, List.set_cons_succ]
    refine wpAnyU_take (i := 9) (oi := { dst := some 32, op := _, type := _, pos := _, after := _, guard := some (3, true) }) (v := undef) rfl (by kernel_rfl) (by kernel_rfl) (by kernel_rfl) (by kernel_rfl) (fun _ _ _ h => h) (.inr ⟨rfl, rfl⟩) hS1.out ?_
    simp only [Act.put, List.setIfInBounds_toArray, List.set_cons_zero, List.set_cons_succ]
    refine wpAnyU_take (i := 10) (oi := { dst := some 33, op := _, type := _, pos := _, after := _, guard := some (3, true) }) (v := undef) rfl (by kernel_rfl) (by kernel_rfl) (by kernel_rfl) (by kernel_rfl) (fun _ _ _ h => h) (.inr ⟨rfl, rfl⟩) hS1.out ?_
    simp only [Act.put, List.setIfInBounds_toArray, List.set_cons_zero, List.set_cons_succ]
    refine wpAnyU_take (i := 11) (oi := { dst := some 34, op := _, type := _, pos := _, after := _, guard := some (3, true) }) (v := undef) rfl (by kernel_rfl) (by kernel_rfl) (by kernel_rfl) (by kernel_rfl) (fun _ _ _ h => h) (.inr ⟨rfl, rfl⟩) hS1.out ?_
    simp only [Act.put, List.setIfInBounds_toArray, List.set_cons_zero, List.set_cons_succ]
    refine wpAnyU_take (i := 12) (oi := { dst := some 35, op := _, type := _, pos := _, after := _, guard := none }) (v := .bool false) rfl (by kernel_rfl) (by kernel_rfl) (by kernel_rfl) (by kernel_rfl) (fun _ _ _ h => h) (yields_take rfl (fun w' hw => by obtain ⟨h1, h2⟩ := hw.const; go_simp)) hS1.out ?_
    simp only [Act.put, List.setIfInBounds_toArray, List.set_cons_zero, List.set_cons_succ]
    refine wpAnyU_take (i := 13) (oi := { dst := some 5, op := _, type := _, pos := _, after := _, guard := none }) (v := .bool false) rfl (by kernel_rfl) (by kernel_rfl) (by kernel_rfl) (by kernel_rfl) (fun _ _ _ h => h) (yields_take rfl (fun w' hw => by obtain ⟨h1, h2⟩ := hw.const; go_simp)) hS1.out ?_
    simp only [Act.put, List.setIfInBounds_toArray, List.set_cons_zero, List.set_cons_succ]
    refine wpAnyU_done (by kernel_rfl) ?_ _
    clear hS1
    have HBE := hide hd1
    obtain ⟨x0, x1⟩ := HKC.out _ HBE.out
    go_wp2
    go_loopw [5, 6] (fun v i wr => v = .bool false ∧ i = .int .i64 0 ∧ wr = w4) (fun _ _ _ => 0)
    case atStart => exact ⟨rfl, rfl, rfl⟩
    case round =>
      obtain ⟨rfl, rfl, rfl⟩ := hrel
      obtain ⟨rfl, rfl⟩ := HP0.out (by simp)
      go_wp2
      go_ret
      exact ⟨rfl, below_nx6 HB0.out HBE.out⟩
  | true =>
    by_cases hkm : k1 = m
    · have e0 : ((k1 : Int) == (m : Int)) = true := by rw [beq_iff_eq]; omega
      have HKM := hide hkm
      clear hkm
      have hS0 : Hid (w3.drew.cell? ⟨w.heap.size, 0, none⟩ = some (.slice A n c) ∧ w3.drew.cell? ⟨w.heap.size, 1, none⟩ = some (.slice B m d)) := hide (HKC.out _ hd0)
      refine wp_region_U (fun _ v => v.cell? ⟨w.heap.size, 0, none⟩ = some (.slice A n c) ∧ v.cell? ⟨w.heap.size, 1, none⟩ = some (.slice B m d)) 99 (by kernel_rfl) ?_
      refine wpAnyU_take (i := 0) (oi := { dst := some 23, op := _, type := _, pos := _, after := _, guard := none }) (v := .pointer (some ⟨w.heap.size, 0, none⟩)) rfl (by kernel_rfl) (by kernel_rfl) (by kernel_rfl) (by kernel_rfl) (fun _ _ _ h => h) (yields_take rfl (fun w' hw => by obtain ⟨h1, h2⟩ := hw.const; go_simp)) hS0.out ?_
      simp only [Act.put, List.setIfInBounds_toArray, List.set_cons_zero, List.set_cons_succ]
      refine wpAnyU_take (i := 1) (oi := { dst := some 24, op := _, type := _, pos := _, after := _, guard := none }) (v := .agg #[.slice A n c]) rfl (by kernel_rfl) (by kernel_rfl) (by kernel_rfl) (by kernel_rfl) (fun _ _ _ h => h) (yields_take rfl (fun w' hw => by obtain ⟨h1, h2⟩ := hw.const; go_simp)) hS0.out ?_
      simp only [Act.put, List.setIfInBounds_toArray, List.set_cons_zero, List.set_cons_succ]
      refine wpAnyU_one (i := 2) (by kernel_rfl) rfl ?_
      intro K hK
      go_simp
      refine Calls.mono (HCK.out) ?_
      rintro e w4 ⟨rfl, hb⟩
      (try dsimp only)
      have hd1 : Below W0.heap.size W0 w4 := below_nx6 hd0 hb
      have hg1 : Below w3.heap.size w3 w4 := below_nx6 (below_drewN (Below.refl _ _) 1) hb
      clear hb
      (try dsimp only)
      have hS1 : Hid (w4.cell? ⟨w.heap.size, 0, none⟩ = some (.slice A n c) ∧ w4.cell? ⟨w.heap.size, 1, none⟩ = some (.slice B m d)) := hide (HKC.out _ hd1)
      refine hK.out _ _ hS1.out (fun _ => ?_)
      clear hK K hS0
      refine wpAnyU_take (i := 3) (oi := { dst := some 26, op := _, type := _, pos := _, after := _, guard := none }) (v := .bool true) rfl (by kernel_rfl) (by kernel_rfl) (by kernel_rfl) (by kernel_rfl) (fun _ _ _ h => h) (yields_take rfl (fun w' hw => by obtain ⟨h1, h2⟩ := hw.const; go_simp)) hS1.out ?_
      simp only [Act.put, List.setIfInBounds_toArray, List.set_cons_zero, List.set_cons_succ]
      refine wpAnyU_take (i := 4) (oi := { dst := some 27, op := _, type := _, pos := _, after := _, guard := some (3, true) }) (v := .pointer (some ⟨w.heap.size, 0, none⟩)) rfl (by kernel_rfl) (by kernel_rfl) (by kernel_rfl) (by kernel_rfl) (fun _ _ _ h => h) (yields_take rfl (fun w' hw => by obtain ⟨h1, h2⟩ := hw.const; go_simp)) hS1.out ?_
      simp only [Act.put, List.setIfInBounds_toArray, List.set_cons_zero, List.set_cons_succ]
      refine wpAnyU_take (i := 5) (oi := { dst := some 28, op := _, type := _, pos := _, after := _, guard := some (3, true) }) (v := .agg #[.slice A n c]) rfl (by kernel_rfl) (by kernel_rfl) (by kernel_rfl) (by kernel_rfl) (fun _ _ _ h => h) (yields_take rfl (fun w' hw => by obtain ⟨h1, h2⟩ := hw.const; go_simp)) hS1.out ?_
      simp only [Act.put, List.setIfInBounds_toArray, List.set_cons_zero, List.set_cons_succ]
      refine wpAnyU_take (i := 8) (oi := { dst := some 31, op := _, type := _, pos := _, after := _, guard := some (3, true) }) (v := .pointer (some ⟨w.heap.size, 1, none⟩)) rfl (by kernel_rfl) (by kernel_rfl) (by kernel_rfl) (by kernel_rfl) (fun _ _ _ h => h) (yields_take rfl (fun w' hw => by obtain ⟨h1, h2⟩ := hw.const; go_simp)) hS1.out ?_
      simp only [Act.put, List.setIfInBounds_toArray, List.set_cons_zero, List.set_cons_succ]
      refine wpAnyU_take (i := 9) (oi := { dst := some 32, op := _, type := _, pos := _, after := _, guard := some (3, true) }) (v := .slice B m d) rfl (by kernel_rfl) (by kernel_rfl) (by kernel_rfl) (by kernel_rfl) (fun _ _ _ h => h) (yields_take rfl (fun w' hw => by obtain ⟨h1, h2⟩ := hw.const; go_simp)) hS1.out ?_
      simp only [Act.put, List.setIfInBounds_toArray, List.set_cons_zero, List.set_cons_succ]
      refine wpAnyU_take (i := 10) (oi := { dst := some 33, op := _, type := _, pos := _, after := _, guard := some (3, true) }) (v := .int .i64 (m : Int)) rfl (by kernel_rfl) (by kernel_rfl) (by kernel_rfl) (by kernel_rfl) (fun _ _ _ h => h) (yields_take rfl (fun w' hw => by obtain ⟨h1, h2⟩ := hw.const; go_simp)) hS1.out ?_
      simp only [Act.put, List.setIfInBounds_toArray, List.set_cons_zero, List.set_cons_succ]
      refine wpAnyU_one (i := 6) (by kernel_rfl) rfl ?_
      intro K hK
      go_simp
      refine Calls.mono (weights_any A n c ns _ (HN.out.below hd1) (by omega)) ?_
      rintro e w5 ⟨A5, k5, c5, rfl, ho5, hb⟩
      (try dsimp only)
      have hkk : k5 = k1 := (lies_len9 (lies_of_own ho5)).symm.trans HK1.out.symm
      rw [hkk]
      have hd2 : Below W0.heap.size W0 w5 := below_nx6 hd1 hb
      have hg2 : Below w3.heap.size w3 w5 := below_nx6 hg1 hb
      clear hb ho5
      (try dsimp only)
      have hS2 : Hid (w5.cell? ⟨w.heap.size, 0, none⟩ = some (.slice A n c) ∧ w5.cell? ⟨w.heap.size, 1, none⟩ = some (.slice B m d)) := hide (HKC.out _ hd2)
      refine hK.out _ _ hS2.out (fun _ => ?_)
      clear hK K hS1
      refine wpAnyU_take (i := 7) (oi := { dst := some 30, op := _, type := _, pos := _, after := _, guard := some (3, true) }) (v := .int .i64 (k1 : Int)) rfl (by kernel_rfl) (by kernel_rfl) (by kernel_rfl) (by kernel_rfl) (fun _ _ _ h => h) (yields_take rfl (fun w' hw => by obtain ⟨h1, h2⟩ := hw.const; go_simp)) hS2.out ?_
      simp only [Act.put, List.setIfInBounds_toArray, List.set_cons_zero, List.set_cons_succ]
      refine wpAnyU_take (i := 11) (oi := { dst := some 34, op := _, type := _, pos := _, after := _, guard := some (3, true) }) (v := .bool true) rfl (by kernel_rfl) (by kernel_rfl) (by kernel_rfl) (by kernel_rfl) (fun _ _ _ h => h) (yields_take rfl (fun w' hw => by obtain ⟨h1, h2⟩ := hw.const; go_simp)) hS2.out ?_
      simp only [Act.put, List.setIfInBounds_toArray, List.set_cons_zero, List.set_cons_succ]
      refine wpAnyU_take (i := 12) (oi := { dst := some 35, op := _, type := _, pos := _, after := _, guard := none }) (v := .bool true) rfl (by kernel_rfl) (by kernel_rfl) (by kernel_rfl) (by kernel_rfl) (fun _ _ _ h => h) (yields_take rfl (fun w' hw => by obtain ⟨h1, h2⟩ := hw.const; go_simp)) hS2.out ?_
      simp only [Act.put, List.setIfInBounds_toArray, List.set_cons_zero, List.set_cons_succ]
      refine wpAnyU_take (i := 13) (oi := { dst := some 5, op := _, type := _, pos := _, after := _, guard := none }) (v := .bool true) rfl (by kernel_rfl) (by kernel_rfl) (by kernel_rfl) (by kernel_rfl) (fun _ _ _ h => h) (yields_take rfl (fun w' hw => by obtain ⟨h1, h2⟩ := hw.const; go_simp)) hS2.out ?_
      simp only [Act.put, List.setIfInBounds_toArray, List.set_cons_zero, List.set_cons_succ]
      refine wpAnyU_done (by kernel_rfl) ?_ _
      clear hS2
      have HBE := hide hd2
      have HG3 := hide hg2
      have hm32 : m ≤ 32 := by have h1 := gphB_n11 HG.out.symm; have h2 := HL.out; have h3 := HKM.out; omega
      clear e0 hd0 hd1 hd2 c0 c1
      obtain ⟨c0, c1⟩ := HKC.out _ HBE.out
      go_wp2
      clear c0 c1
      go_loopw [5, 6] (fun v i wr => ∃ (i' : Nat) (b : Bool), i' ≤ m ∧ i = .int .i64 i' ∧ v = .bool b ∧ Hid (b = true → ∀ (j : Nat) (z : Int) (t : Wt), j < i' → (wtF 0 ns)[j]? = some z → ts[j]? = some t → tenOk t.s t.m = true ∧ t.s = shOf ns z) ∧ Hid (b = false → R = false) ∧ Hid (Below w5.heap.size w5 wr)) (fun _ i _ => m - (intOf i).toNat)
      case atStart => exact ⟨0, true, Nat.zero_le _, rfl, rfl, hide (fun _ j z t hj => absurd hj (by omega)), hide (fun h => by cases h), hide (Below.refl _ _)⟩
      case round =>
        obtain ⟨i, b, hi, rfl, rfl, HPT, HPF, HB⟩ := hrel
        have HBR := hide (below_nx6 HBE.out HB.out)
        obtain ⟨c0, c1⟩ := HKC.out _ HBR.out
        cases b with
        | false =>
          obtain rfl : R = false := HPF.out rfl
          obtain ⟨rfl, rfl⟩ := HP0.out (by simp)
          go_wp2
          go_ret
          exact ⟨rfl, below_nx6 HB0.out HBR.out⟩
        | true =>
        by_cases hlt : i < m
        · obtain ⟨bT, oT, t, eB, ht, t0, t1, hto⟩ := (HWS.out.below HBR.out).at hlt
          obtain ⟨zz, hz⟩ : ∃ z, (wtF 0 ns)[i]? = some z := ⟨(wtF 0 ns)[i]'(by rw [← HK1.out, HKM.out]; exact hlt), List.getElem?_eq_getElem _⟩
          obtain ⟨u, x, rfl, hxu, hkd, hsh⟩ := wt_node hz
          have hun : u < n := by rw [← HL.out]; exact (List.getElem?_eq_some_iff.1 hxu).1
          obtain ⟨bA, oA, x2, eA, hx2, _, _, h2, _, _, hxo⟩ := (HN.out.below HBR.out).at hun
          rw [hxu] at hx2
          cases hx2
          have hgd : (wtF 0 ns).getD i 0 = (u : Int) := by rw [List.getD, hz]; rfl
          have HGD := hide hgd
          have HZ := hide hz
          have HT := hide ht
          have HSH := hide hsh
          have i0 : (0 : Int) ≤ (i : Int) := by omega
          have i1 : (i : Int) < (m : Int) := by omega
          have i2 : (i : Int) < (k1 : Int) := by have := HKM.out; omega
          have u0 : (0 : Int) ≤ (u : Int) := by omega
          have u1 : (u : Int) < (n : Int) := by omega
          subst eB eA
          have HKR : Hid (∀ v, Below wr.heap.size wr v → v.cell? ⟨w.heap.size, 0, none⟩ = some (.slice (some ⟨bA, oA, none⟩) n c) ∧ v.cell? ⟨w.heap.size, 1, none⟩ = some (.slice (some ⟨bT, oT, none⟩) m d) ∧ v.cell? ⟨bT, oT + i * 2, none⟩ = some (.slice t.A t.n t.c) ∧ v.cell? ⟨bT, oT + i * 2 + 1, none⟩ = some (.slice t.B t.m t.d) ∧ v.cell? ⟨bA, oA + u * 5 + 2, none⟩ = some (.slice x.S x.ns x.cs)) := hide (fun v hv => by
            have k := fun {b o : Nat} {z : Value} (h : wr.cell? ⟨b, o, none⟩ = some z) => (hv.cell (World.block_lt_of_cell? wr _ h)).trans h
            exact ⟨(HKC.out _ (below_nx6 HBR.out hv)).1, (HKC.out _ (below_nx6 HBR.out hv)).2, k t0, k t1, k h2⟩)
          have HTW := hide hto
          have HXW := hide hxo
          have hd0 : Below wr.heap.size wr wr.drew := below_drewN (Below.refl _ _) 1
          clear hz hxu hkd hsh ht hto hxo h2 hgd
          obtain ⟨T, hT⟩ : ∃ z, z = tenOk t.s t.m := ⟨_, rfl⟩
          have HTT := hide hT
          clear hT
          go_wp2
          clear t0 t1 c0 c1
          cases T with
          | false =>
            obtain rfl : R = false := HNO.out (fun h => by have := (wsFit_at h.2 HZ.out HT.out).1; rw [← HTT.out] at this; cases this)
            have hS0 : Hid (wr.drew.cell? ⟨w.heap.size, 0, none⟩ = some (.slice (some ⟨bA, oA, none⟩) n c) ∧ wr.drew.cell? ⟨w.heap.size, 1, none⟩ = some (.slice (some ⟨bT, oT, none⟩) m d) ∧ wr.drew.cell? ⟨bT, oT + i * 2, none⟩ = some (.slice t.A t.n t.c) ∧ wr.drew.cell? ⟨bT, oT + i * 2 + 1, none⟩ = some (.slice t.B t.m t.d) ∧ wr.drew.cell? ⟨bA, oA + u * 5 + 2, none⟩ = some (.slice x.S x.ns x.cs)) := hide (HKR.out _ hd0)
            refine wp_region_U (fun _ v => v.cell? ⟨w.heap.size, 0, none⟩ = some (.slice (some ⟨bA, oA, none⟩) n c) ∧ v.cell? ⟨w.heap.size, 1, none⟩ = some (.slice (some ⟨bT, oT, none⟩) m d) ∧ v.cell? ⟨bT, oT + i * 2, none⟩ = some (.slice t.A t.n t.c) ∧ v.cell? ⟨bT, oT + i * 2 + 1, none⟩ = some (.slice t.B t.m t.d) ∧ v.cell? ⟨bA, oA + u * 5 + 2, none⟩ = some (.slice x.S x.ns x.cs)) 99 (by kernel_rfl) ?_
            refine wpAnyU_take (i := 0) (oi := { dst := some 46, op := _, type := _, pos := _, after := _, guard := none }) (v := .pointer (some ⟨w.heap.size, 1, none⟩)) rfl (by kernel_rfl) (by kernel_rfl) (by kernel_rfl) (by kernel_rfl) (fun _ _ _ h => h) (yields_take rfl (fun w' hw => by obtain ⟨h1, h2, h3, h4, h5⟩ := hw.const; go_simp)) hS0.out ?_
            simp only [Act.put, List.setIfInBounds_toArray, List.set_cons_zero, List.set_cons_succ]
            refine wpAnyU_take (i := 1) (oi := { dst := some 47, op := _, type := _, pos := _, after := _, guard := none }) (v := .slice (some ⟨bT, oT, none⟩) m d) rfl (by kernel_rfl) (by kernel_rfl) (by kernel_rfl) (by kernel_rfl) (fun _ _ _ h => h) (yields_take rfl (fun w' hw => by obtain ⟨h1, h2, h3, h4, h5⟩ := hw.const; go_simp)) hS0.out ?_
            simp only [Act.put, List.setIfInBounds_toArray, List.set_cons_zero, List.set_cons_succ]
            refine wpAnyU_take (i := 2) (oi := { dst := some 48, op := _, type := _, pos := _, after := _, guard := none }) (v := .int .i64 (i : Int)) rfl (by kernel_rfl) (by kernel_rfl) (by kernel_rfl) (by kernel_rfl) (fun _ _ _ h => h) (yields_take rfl (fun w' hw => by obtain ⟨h1, h2, h3, h4, h5⟩ := hw.const; go_simp)) hS0.out ?_
            simp only [Act.put, List.setIfInBounds_toArray, List.set_cons_zero, List.set_cons_succ]
            refine wpAnyU_take (i := 3) (oi := { dst := some 49, op := _, type := _, pos := _, after := _, guard := none }) (v := .pointer (some ⟨bT, oT + i * 2, none⟩)) rfl (by kernel_rfl) (by kernel_rfl) (by kernel_rfl) (by kernel_rfl) (fun _ _ _ h => h) (yields_take rfl (fun w' hw => by obtain ⟨h1, h2, h3, h4, h5⟩ := hw.const; go_simp)) hS0.out ?_
            simp only [Act.put, List.setIfInBounds_toArray, List.set_cons_zero, List.set_cons_succ]
            refine wpAnyU_take (i := 4) (oi := { dst := some 50, op := _, type := _, pos := _, after := _, guard := none }) (v := .agg #[.slice t.A t.n t.c, .slice t.B t.m t.d]) rfl (by kernel_rfl) (by kernel_rfl) (by kernel_rfl) (by kernel_rfl) (fun _ _ _ h => h) (yields_take rfl (fun w' hw => by obtain ⟨h1, h2, h3, h4, h5⟩ := hw.const; go_simp)) hS0.out ?_
            simp only [Act.put, List.setIfInBounds_toArray, List.set_cons_zero, List.set_cons_succ]
            refine wpAnyU_one (i := 5) (by kernel_rfl) rfl ?_
            intro K hK
            go_simp
            refine Calls.mono (tcheck_any t.A t.B t.n t.c t.m t.d t.s _ (HTW.out.1.1.below hd0) (by have := HTW.out.2.2.1.1; omega)) ?_
            rintro e w6 ⟨he, hb⟩
            (try dsimp only)
            rw [← HTT.out] at he
            subst he
            have hd1 : Below wr.heap.size wr w6 := below_nx6 hd0 hb
            clear hb
            (try dsimp only)
            have hS1 : Hid (w6.cell? ⟨w.heap.size, 0, none⟩ = some (.slice (some ⟨bA, oA, none⟩) n c) ∧ w6.cell? ⟨w.heap.size, 1, none⟩ = some (.slice (some ⟨bT, oT, none⟩) m d) ∧ w6.cell? ⟨bT, oT + i * 2, none⟩ = some (.slice t.A t.n t.c) ∧ w6.cell? ⟨bT, oT + i * 2 + 1, none⟩ = some (.slice t.B t.m t.d) ∧ w6.cell? ⟨bA, oA + u * 5 + 2, none⟩ = some (.slice x.S x.ns x.cs)) := hide (HKR.out _ hd1)
            refine hK.out _ _ hS1.out (fun _ => ?_)
            clear hK K hS0
            refine wpAnyU_take (i := 6) (oi := { dst := some 52, op := _, type := _, pos := _, after := _, guard := none }) (v := .bool false) rfl (by kernel_rfl) (by kernel_rfl) (by kernel_rfl) (by kernel_rfl) (fun _ _ _ h => h) (yields_take rfl (fun w' hw => by obtain ⟨h1, h2, h3, h4, h5⟩ := hw.const; go_simp)) hS1.out ?_
            simp only [Act.put, List.setIfInBounds_toArray, List.set_cons_zero, List.set_cons_succ]
            refine wpAnyU_take (i := 7) (oi := { dst := some 53, op := _, type := _, pos := _, after := _, guard := some (6, true) }) (v := undef) rfl (by kernel_rfl) (by kernel_rfl) (by kernel_rfl) (by kernel_rfl) (fun _ _ _ h => h) (.inr ⟨rfl, rfl⟩) hS1.out ?_
            simp only [Act.put, List.setIfInBounds_toArray, List.set_cons_zero, List.set_cons_succ]
            refine wpAnyU_take (i := 8) (oi := { dst := some 54, op := _, type := _, pos := _, after := _, guard := some (6, true) }) (v := undef) rfl (by kernel_rfl) (by kernel_rfl) (by kernel_rfl) (by kernel_rfl) (fun _ _ _ h => h) (.inr ⟨rfl, rfl⟩) hS1.out ?_
            simp only [Act.put, List.setIfInBounds_toArray, List.set_cons_zero, List.set_cons_succ]
            refine wpAnyU_take (i := 9) (oi := { dst := some 55, op := _, type := _, pos := _, after := _, guard := some (6, true) }) (v := undef) rfl (by kernel_rfl) (by kernel_rfl) (by kernel_rfl) (by kernel_rfl) (fun _ _ _ h => h) (.inr ⟨rfl, rfl⟩) hS1.out ?_
            simp only [Act.put, List.setIfInBounds_toArray, List.set_cons_zero, List.set_cons_succ]
            refine wpAnyU_take (i := 10) (oi := { dst := some 56, op := _, type := _, pos := _, after := _, guard := some (6, true) }) (v := undef) rfl (by kernel_rfl) (by kernel_rfl) (by kernel_rfl) (by kernel_rfl) (fun _ _ _ h => h) (.inr ⟨rfl, rfl⟩) hS1.out ?_
            simp only [Act.put, List.setIfInBounds_toArray, List.set_cons_zero, List.set_cons_succ]
            refine wpAnyU_take (i := 11) (oi := { dst := some 57, op := _, type := _, pos := _, after := _, guard := some (6, true) }) (v := undef) rfl (by kernel_rfl) (by kernel_rfl) (by kernel_rfl) (by kernel_rfl) (fun _ _ _ h => h) (.inr ⟨rfl, rfl⟩) hS1.out ?_
            simp only [Act.put, List.setIfInBounds_toArray, List.set_cons_zero, List.set_cons_succ]
            refine wpAnyU_take (i := 12) (oi := { dst := some 58, op := _, type := _, pos := _, after := _, guard := some (6, true) }) (v := undef) rfl (by kernel_rfl) (by kernel_rfl) (by kernel_rfl) (by kernel_rfl) (fun _ _ _ h => h) (.inr ⟨rfl, rfl⟩) hS1.out ?_
            simp only [Act.put, List.setIfInBounds_toArray, List.set_cons_zero, List.set_cons_succ]
            refine wpAnyU_take (i := 13) (oi := { dst := some 59, op := _, type := _, pos := _, after := _, guard := some (6, true) }) (v := undef) rfl (by kernel_rfl) (by kernel_rfl) (by kernel_rfl) (by kernel_rfl) (fun _ _ _ h => h) (.inr ⟨rfl, rfl⟩) hS1.out ?_
            simp only [Act.put, List.setIfInBounds_toArray, List.set_cons_zero, List.set_cons_succ]
            refine wpAnyU_take (i := 14) (oi := { dst := some 60, op := _, type := _, pos := _, after := _, guard := some (6, true) }) (v := undef) rfl (by kernel_rfl) (by kernel_rfl) (by kernel_rfl) (by kernel_rfl) (fun _ _ _ h => h) (.inr ⟨rfl, rfl⟩) hS1.out ?_
            simp only [Act.put, List.setIfInBounds_toArray, List.set_cons_zero, List.set_cons_succ]
            refine wpAnyU_take (i := 15) (oi := { dst := some 61, op := _, type := _, pos := _, after := _, guard := some (6, true) }) (v := undef) rfl (by kernel_rfl) (by kernel_rfl) (by kernel_rfl) (by kernel_rfl) (fun _ _ _ h => h) (.inr ⟨rfl, rfl⟩) hS1.out ?_
            simp only [Act.put, List.setIfInBounds_toArray, List.set_cons_zero, List.set_cons_succ]
            refine wpAnyU_take (i := 16) (oi := { dst := some 62, op := _, type := _, pos := _, after := _, guard := some (6, true) }) (v := undef) rfl (by kernel_rfl) (by kernel_rfl) (by kernel_rfl) (by kernel_rfl) (fun _ _ _ h => h) (.inr ⟨rfl, rfl⟩) hS1.out ?_
            simp only [Act.put, List.setIfInBounds_toArray, List.set_cons_zero, List.set_cons_succ]
            refine wpAnyU_take (i := 17) (oi := { dst := some 63, op := _, type := _, pos := _, after := _, guard := some (6, true) }) (v := undef) rfl (by kernel_rfl) (by kernel_rfl) (by kernel_rfl) (by kernel_rfl) (fun _ _ _ h => h) (.inr ⟨rfl, rfl⟩) hS1.out ?_
            simp only [Act.put, List.setIfInBounds_toArray, List.set_cons_zero, List.set_cons_succ]
            refine wpAnyU_take (i := 18) (oi := { dst := some 64, op := _, type := _, pos := _, after := _, guard := some (6, true) }) (v := undef) rfl (by kernel_rfl) (by kernel_rfl) (by kernel_rfl) (by kernel_rfl) (fun _ _ _ h => h) (.inr ⟨rfl, rfl⟩) hS1.out ?_
            simp only [Act.put, List.setIfInBounds_toArray, List.set_cons_zero, List.set_cons_succ]
            refine wpAnyU_take (i := 19) (oi := { dst := some 65, op := _, type := _, pos := _, after := _, guard := some (6, true) }) (v := undef) rfl (by kernel_rfl) (by kernel_rfl) (by kernel_rfl) (by kernel_rfl) (fun _ _ _ h => h) (.inr ⟨rfl, rfl⟩) hS1.out ?_
            simp only [Act.put, List.setIfInBounds_toArray, List.set_cons_zero, List.set_cons_succ]
            refine wpAnyU_take (i := 20) (oi := { dst := some 66, op := _, type := _, pos := _, after := _, guard := some (6, true) }) (v := undef) rfl (by kernel_rfl) (by kernel_rfl) (by kernel_rfl) (by kernel_rfl) (fun _ _ _ h => h) (.inr ⟨rfl, rfl⟩) hS1.out ?_
            simp only [Act.put, List.setIfInBounds_toArray, List.set_cons_zero, List.set_cons_succ]
            refine wpAnyU_take (i := 21) (oi := { dst := some 67, op := _, type := _, pos := _, after := _, guard := some (6, true) }) (v := undef) rfl (by kernel_rfl) (by kernel_rfl) (by kernel_rfl) (by kernel_rfl) (fun _ _ _ h => h) (.inr ⟨rfl, rfl⟩) hS1.out ?_
            simp only [Act.put, List.setIfInBounds_toArray, List.set_cons_zero, List.set_cons_succ]
            refine wpAnyU_take (i := 22) (oi := { dst := some 68, op := _, type := _, pos := _, after := _, guard := some (6, true) }) (v := undef) rfl (by kernel_rfl) (by kernel_rfl) (by kernel_rfl) (by kernel_rfl) (fun _ _ _ h => h) (.inr ⟨rfl, rfl⟩) hS1.out ?_
            simp only [Act.put, List.setIfInBounds_toArray, List.set_cons_zero, List.set_cons_succ]
            refine wpAnyU_take (i := 23) (oi := { dst := some 69, op := _, type := _, pos := _, after := _, guard := some (6, true) }) (v := undef) rfl (by kernel_rfl) (by kernel_rfl) (by kernel_rfl) (by kernel_rfl) (fun _ _ _ h => h) (.inr ⟨rfl, rfl⟩) hS1.out ?_
            simp only [Act.put, List.setIfInBounds_toArray, List.set_cons_zero, List.set_cons_succ]
            refine wpAnyU_take (i := 24) (oi := { dst := some 70, op := _, type := _, pos := _, after := _, guard := some (6, true) }) (v := undef) rfl (by kernel_rfl) (by kernel_rfl) (by kernel_rfl) (by kernel_rfl) (fun _ _ _ h => h) (.inr ⟨rfl, rfl⟩) hS1.out ?_
            simp only [Act.put, List.setIfInBounds_toArray, List.set_cons_zero, List.set_cons_succ]
            refine wpAnyU_take (i := 25) (oi := { dst := some 71, op := _, type := _, pos := _, after := _, guard := some (6, true) }) (v := undef) rfl (by kernel_rfl) (by kernel_rfl) (by kernel_rfl) (by kernel_rfl) (fun _ _ _ h => h) (.inr ⟨rfl, rfl⟩) hS1.out ?_
            simp only [Act.put, List.setIfInBounds_toArray, List.set_cons_zero, List.set_cons_succ]
            refine wpAnyU_take (i := 26) (oi := { dst := some 72, op := _, type := _, pos := _, after := _, guard := none }) (v := .bool false) rfl (by kernel_rfl) (by kernel_rfl) (by kernel_rfl) (by kernel_rfl) (fun _ _ _ h => h) (yields_take rfl (fun w' hw => by obtain ⟨h1, h2, h3, h4, h5⟩ := hw.const; go_simp)) hS1.out ?_
            simp only [Act.put, List.setIfInBounds_toArray, List.set_cons_zero, List.set_cons_succ]
            refine wpAnyU_take (i := 27) (oi := { dst := some 5, op := _, type := _, pos := _, after := _, guard := none }) (v := .bool false) rfl (by kernel_rfl) (by kernel_rfl) (by kernel_rfl) (by kernel_rfl) (fun _ _ _ h => h) (yields_take rfl (fun w' hw => by obtain ⟨h1, h2, h3, h4, h5⟩ := hw.const; go_simp)) hS1.out ?_
            simp only [Act.put, List.setIfInBounds_toArray, List.set_cons_zero, List.set_cons_succ]
            refine wpAnyU_done (by kernel_rfl) ?_ _
            clear hS1
            have HBE8 := hide (below_nx6 HB.out hd1)
            clear HKR
            go_wp2
            go_roundw
            case rel => exact ⟨i + 1, false, by omega, by go_num, rfl, hide (fun h => by cases h), hide (by simp), HBE8⟩
            case measure => simp [intOf] <;> omega
          | true =>
            obtain ⟨Q, hQ⟩ : ∃ z, z = decide (t.s = x.sh) := ⟨_, rfl⟩
            have HQ := hide hQ
            clear hQ
            have hS0 : Hid (wr.drew.cell? ⟨w.heap.size, 0, none⟩ = some (.slice (some ⟨bA, oA, none⟩) n c) ∧ wr.drew.cell? ⟨w.heap.size, 1, none⟩ = some (.slice (some ⟨bT, oT, none⟩) m d) ∧ wr.drew.cell? ⟨bT, oT + i * 2, none⟩ = some (.slice t.A t.n t.c) ∧ wr.drew.cell? ⟨bT, oT + i * 2 + 1, none⟩ = some (.slice t.B t.m t.d) ∧ wr.drew.cell? ⟨bA, oA + u * 5 + 2, none⟩ = some (.slice x.S x.ns x.cs)) := hide (HKR.out _ hd0)
            refine wp_region_U (fun _ v => v.cell? ⟨w.heap.size, 0, none⟩ = some (.slice (some ⟨bA, oA, none⟩) n c) ∧ v.cell? ⟨w.heap.size, 1, none⟩ = some (.slice (some ⟨bT, oT, none⟩) m d) ∧ v.cell? ⟨bT, oT + i * 2, none⟩ = some (.slice t.A t.n t.c) ∧ v.cell? ⟨bT, oT + i * 2 + 1, none⟩ = some (.slice t.B t.m t.d) ∧ v.cell? ⟨bA, oA + u * 5 + 2, none⟩ = some (.slice x.S x.ns x.cs)) 99 (by kernel_rfl) ?_
            refine wpAnyU_take (i := 0) (oi := { dst := some 46, op := _, type := _, pos := _, after := _, guard := none }) (v := .pointer (some ⟨w.heap.size, 1, none⟩)) rfl (by kernel_rfl) (by kernel_rfl) (by kernel_rfl) (by kernel_rfl) (fun _ _ _ h => h) (yields_take rfl (fun w' hw => by obtain ⟨h1, h2, h3, h4, h5⟩ := hw.const; go_simp)) hS0.out ?_
            simp only [Act.put, List.setIfInBounds_toArray, List.set_cons_zero, List.set_cons_succ]
            refine wpAnyU_take (i := 1) (oi := { dst := some 47, op := _, type := _, pos := _, after := _, guard := none }) (v := .slice (some ⟨bT, oT, none⟩) m d) rfl (by kernel_rfl) (by kernel_rfl) (by kernel_rfl) (by kernel_rfl) (fun _ _ _ h => h) (yields_take rfl (fun w' hw => by obtain ⟨h1, h2, h3, h4, h5⟩ := hw.const; go_simp)) hS0.out ?_
            simp only [Act.put, List.setIfInBounds_toArray, List.set_cons_zero, List.set_cons_succ]
            refine wpAnyU_take (i := 2) (oi := { dst := some 48, op := _, type := _, pos := _, after := _, guard := none }) (v := .int .i64 (i : Int)) rfl (by kernel_rfl) (by kernel_rfl) (by kernel_rfl) (by kernel_rfl) (fun _ _ _ h => h) (yields_take rfl (fun w' hw => by obtain ⟨h1, h2, h3, h4, h5⟩ := hw.const; go_simp)) hS0.out ?_
            simp only [Act.put, List.setIfInBounds_toArray, List.set_cons_zero, List.set_cons_succ]
            refine wpAnyU_take (i := 3) (oi := { dst := some 49, op := _, type := _, pos := _, after := _, guard := none }) (v := .pointer (some ⟨bT, oT + i * 2, none⟩)) rfl (by kernel_rfl) (by kernel_rfl) (by kernel_rfl) (by kernel_rfl) (fun _ _ _ h => h) (yields_take rfl (fun w' hw => by obtain ⟨h1, h2, h3, h4, h5⟩ := hw.const; go_simp)) hS0.out ?_
            simp only [Act.put, List.setIfInBounds_toArray, List.set_cons_zero, List.set_cons_succ]
            refine wpAnyU_take (i := 4) (oi := { dst := some 50, op := _, type := _, pos := _, after := _, guard := none }) (v := .agg #[.slice t.A t.n t.c, .slice t.B t.m t.d]) rfl (by kernel_rfl) (by kernel_rfl) (by kernel_rfl) (by kernel_rfl) (fun _ _ _ h => h) (yields_take rfl (fun w' hw => by obtain ⟨h1, h2, h3, h4, h5⟩ := hw.const; go_simp)) hS0.out ?_
            simp only [Act.put, List.setIfInBounds_toArray, List.set_cons_zero, List.set_cons_succ]
            refine wpAnyU_one (i := 5) (by kernel_rfl) rfl ?_
            intro K hK
            go_simp
            refine Calls.mono (tcheck_any t.A t.B t.n t.c t.m t.d t.s _ (HTW.out.1.1.below hd0) (by have := HTW.out.2.2.1.1; omega)) ?_
            rintro e w6 ⟨he, hb⟩
            (try dsimp only)
            rw [← HTT.out] at he
            subst he
            have hd1 : Below wr.heap.size wr w6 := below_nx6 hd0 hb
            clear hb
            (try dsimp only)
            have hS1 : Hid (w6.cell? ⟨w.heap.size, 0, none⟩ = some (.slice (some ⟨bA, oA, none⟩) n c) ∧ w6.cell? ⟨w.heap.size, 1, none⟩ = some (.slice (some ⟨bT, oT, none⟩) m d) ∧ w6.cell? ⟨bT, oT + i * 2, none⟩ = some (.slice t.A t.n t.c) ∧ w6.cell? ⟨bT, oT + i * 2 + 1, none⟩ = some (.slice t.B t.m t.d) ∧ w6.cell? ⟨bA, oA + u * 5 + 2, none⟩ = some (.slice x.S x.ns x.cs)) := hide (HKR.out _ hd1)
            refine hK.out _ _ hS1.out (fun _ => ?_)
            clear hK K hS0
            refine wpAnyU_take (i := 6) (oi := { dst := some 52, op := _, type := _, pos := _, after := _, guard := none }) (v := .bool true) rfl (by kernel_rfl) (by kernel_rfl) (by kernel_rfl) (by kernel_rfl) (fun _ _ _ h => h) (yields_take rfl (fun w' hw => by obtain ⟨h1, h2, h3, h4, h5⟩ := hw.const; go_simp)) hS1.out ?_
            simp only [Act.put, List.setIfInBounds_toArray, List.set_cons_zero, List.set_cons_succ]
            refine wpAnyU_take (i := 7) (oi := { dst := some 53, op := _, type := _, pos := _, after := _, guard := some (6, true) }) (v := .pointer (some ⟨w.heap.size, 1, none⟩)) rfl (by kernel_rfl) (by kernel_rfl) (by kernel_rfl) (by kernel_rfl) (fun _ _ _ h => h) (yields_take rfl (fun w' hw => by obtain ⟨h1, h2, h3, h4, h5⟩ := hw.const; go_simp)) hS1.out ?_
            simp only [Act.put, List.setIfInBounds_toArray, List.set_cons_zero, List.set_cons_succ]
            refine wpAnyU_take (i := 8) (oi := { dst := some 54, op := _, type := _, pos := _, after := _, guard := some (6, true) }) (v := .slice (some ⟨bT, oT, none⟩) m d) rfl (by kernel_rfl) (by kernel_rfl) (by kernel_rfl) (by kernel_rfl) (fun _ _ _ h => h) (yields_take rfl (fun w' hw => by obtain ⟨h1, h2, h3, h4, h5⟩ := hw.const; go_simp)) hS1.out ?_
            simp only [Act.put, List.setIfInBounds_toArray, List.set_cons_zero, List.set_cons_succ]
            refine wpAnyU_take (i := 9) (oi := { dst := some 55, op := _, type := _, pos := _, after := _, guard := some (6, true) }) (v := .int .i64 (i : Int)) rfl (by kernel_rfl) (by kernel_rfl) (by kernel_rfl) (by kernel_rfl) (fun _ _ _ h => h) (yields_take rfl (fun w' hw => by obtain ⟨h1, h2, h3, h4, h5⟩ := hw.const; go_simp)) hS1.out ?_
            simp only [Act.put, List.setIfInBounds_toArray, List.set_cons_zero, List.set_cons_succ]
            refine wpAnyU_take (i := 10) (oi := { dst := some 56, op := _, type := _, pos := _, after := _, guard := some (6, true) }) (v := .pointer (some ⟨bT, oT + i * 2, none⟩)) rfl (by kernel_rfl) (by kernel_rfl) (by kernel_rfl) (by kernel_rfl) (fun _ _ _ h => h) (yields_take rfl (fun w' hw => by obtain ⟨h1, h2, h3, h4, h5⟩ := hw.const; go_simp)) hS1.out ?_
            simp only [Act.put, List.setIfInBounds_toArray, List.set_cons_zero, List.set_cons_succ]
            refine wpAnyU_take (i := 11) (oi := { dst := some 57, op := _, type := _, pos := _, after := _, guard := some (6, true) }) (v := .pointer (some ⟨bT, oT + i * 2, none⟩)) rfl (by kernel_rfl) (by kernel_rfl) (by kernel_rfl) (by kernel_rfl) (fun _ _ _ h => h) (yields_take rfl (fun w' hw => by obtain ⟨h1, h2, h3, h4, h5⟩ := hw.const; go_simp)) hS1.out ?_
            simp only [Act.put, List.setIfInBounds_toArray, List.set_cons_zero, List.set_cons_succ]
            refine wpAnyU_take (i := 12) (oi := { dst := some 58, op := _, type := _, pos := _, after := _, guard := some (6, true) }) (v := .slice t.A t.n t.c) rfl (by kernel_rfl) (by kernel_rfl) (by kernel_rfl) (by kernel_rfl) (fun _ _ _ h => h) (yields_take rfl (fun w' hw => by obtain ⟨h1, h2, h3, h4, h5⟩ := hw.const; go_simp)) hS1.out ?_
            simp only [Act.put, List.setIfInBounds_toArray, List.set_cons_zero, List.set_cons_succ]
            refine wpAnyU_take (i := 13) (oi := { dst := some 59, op := _, type := _, pos := _, after := _, guard := some (6, true) }) (v := .pointer (some ⟨w.heap.size, 0, none⟩)) rfl (by kernel_rfl) (by kernel_rfl) (by kernel_rfl) (by kernel_rfl) (fun _ _ _ h => h) (yields_take rfl (fun w' hw => by obtain ⟨h1, h2, h3, h4, h5⟩ := hw.const; go_simp)) hS1.out ?_
            simp only [Act.put, List.setIfInBounds_toArray, List.set_cons_zero, List.set_cons_succ]
            refine wpAnyU_take (i := 14) (oi := { dst := some 60, op := _, type := _, pos := _, after := _, guard := some (6, true) }) (v := .pointer (some ⟨w.heap.size, 0, none⟩)) rfl (by kernel_rfl) (by kernel_rfl) (by kernel_rfl) (by kernel_rfl) (fun _ _ _ h => h) (yields_take rfl (fun w' hw => by obtain ⟨h1, h2, h3, h4, h5⟩ := hw.const; go_simp)) hS1.out ?_
            simp only [Act.put, List.setIfInBounds_toArray, List.set_cons_zero, List.set_cons_succ]
            refine wpAnyU_take (i := 15) (oi := { dst := some 61, op := _, type := _, pos := _, after := _, guard := some (6, true) }) (v := .slice (some ⟨bA, oA, none⟩) n c) rfl (by kernel_rfl) (by kernel_rfl) (by kernel_rfl) (by kernel_rfl) (fun _ _ _ h => h) (yields_take rfl (fun w' hw => by obtain ⟨h1, h2, h3, h4, h5⟩ := hw.const; go_simp)) hS1.out ?_
            simp only [Act.put, List.setIfInBounds_toArray, List.set_cons_zero, List.set_cons_succ]
            refine wpAnyU_take (i := 16) (oi := { dst := some 62, op := _, type := _, pos := _, after := _, guard := some (6, true) }) (v := .pointer (some ⟨w.heap.size, 0, none⟩)) rfl (by kernel_rfl) (by kernel_rfl) (by kernel_rfl) (by kernel_rfl) (fun _ _ _ h => h) (yields_take rfl (fun w' hw => by obtain ⟨h1, h2, h3, h4, h5⟩ := hw.const; go_simp)) hS1.out ?_
            simp only [Act.put, List.setIfInBounds_toArray, List.set_cons_zero, List.set_cons_succ]
            refine wpAnyU_take (i := 17) (oi := { dst := some 63, op := _, type := _, pos := _, after := _, guard := some (6, true) }) (v := .agg #[.slice (some ⟨bA, oA, none⟩) n c]) rfl (by kernel_rfl) (by kernel_rfl) (by kernel_rfl) (by kernel_rfl) (fun _ _ _ h => h) (yields_take rfl (fun w' hw => by obtain ⟨h1, h2, h3, h4, h5⟩ := hw.const; go_simp)) hS1.out ?_
            simp only [Act.put, List.setIfInBounds_toArray, List.set_cons_zero, List.set_cons_succ]
            refine wpAnyU_take (i := 19) (oi := { dst := some 65, op := _, type := _, pos := _, after := _, guard := some (6, true) }) (v := .int .i64 (i : Int)) rfl (by kernel_rfl) (by kernel_rfl) (by kernel_rfl) (by kernel_rfl) (fun _ _ _ h => h) (yields_take rfl (fun w' hw => by obtain ⟨h1, h2, h3, h4, h5⟩ := hw.const; go_simp)) hS1.out ?_
            simp only [Act.put, List.setIfInBounds_toArray, List.set_cons_zero, List.set_cons_succ]
            refine wpAnyU_one (i := 18) (by kernel_rfl) rfl ?_
            intro K hK
            go_simp
            refine Calls.mono (weights_any (some ⟨bA, oA, none⟩) n c ns _ (HN.out.below (below_nx6 HBR.out hd1)) (by omega)) ?_
            rintro e w7 ⟨A7, k7, c7, rfl, ho7, hb⟩
            (try dsimp only)
            have hkk : k7 = k1 := (lies_len9 (lies_of_own ho7)).symm.trans HK1.out.symm
            have hd2 : Below wr.heap.size wr w7 := below_nx6 hd1 hb
            obtain ⟨bW, oW, eW, _, hxW⟩ := byte_at (lies_of_own ho7) (by omega)
            have hcw := hxW i (by omega)
            rw [HGD.out] at hcw
            subst eW
            rw [hkk]
            clear hb ho7 hxW
            (try dsimp only)
            have hS2 : Hid (w7.cell? ⟨w.heap.size, 0, none⟩ = some (.slice (some ⟨bA, oA, none⟩) n c) ∧ w7.cell? ⟨w.heap.size, 1, none⟩ = some (.slice (some ⟨bT, oT, none⟩) m d) ∧ w7.cell? ⟨bT, oT + i * 2, none⟩ = some (.slice t.A t.n t.c) ∧ w7.cell? ⟨bT, oT + i * 2 + 1, none⟩ = some (.slice t.B t.m t.d) ∧ w7.cell? ⟨bA, oA + u * 5 + 2, none⟩ = some (.slice x.S x.ns x.cs)) := hide (HKR.out _ hd2)
            refine hK.out _ _ hS2.out (fun _ => ?_)
            clear hK K hS1
            refine wpAnyU_take (i := 20) (oi := { dst := some 66, op := _, type := _, pos := _, after := _, guard := some (6, true) }) (v := .pointer (some ⟨bW, oW + i, none⟩)) rfl (by kernel_rfl) (by kernel_rfl) (by kernel_rfl) (by kernel_rfl) (fun _ _ _ h => h) (yields_take rfl (fun w' hw => by obtain ⟨h1, h2, h3, h4, h5⟩ := hw.const; go_simp)) hS2.out ?_
            simp only [Act.put, List.setIfInBounds_toArray, List.set_cons_zero, List.set_cons_succ]
            refine wpAnyU_one (i := 21) (by kernel_rfl) rfl ?_
            intro K hK
            go_simp
            have hS3 : Hid (w7.cell? ⟨w.heap.size, 0, none⟩ = some (.slice (some ⟨bA, oA, none⟩) n c) ∧ w7.cell? ⟨w.heap.size, 1, none⟩ = some (.slice (some ⟨bT, oT, none⟩) m d) ∧ w7.cell? ⟨bT, oT + i * 2, none⟩ = some (.slice t.A t.n t.c) ∧ w7.cell? ⟨bT, oT + i * 2 + 1, none⟩ = some (.slice t.B t.m t.d) ∧ w7.cell? ⟨bA, oA + u * 5 + 2, none⟩ = some (.slice x.S x.ns x.cs)) := hide (HKR.out _ hd2)
            refine hK.out _ _ hS3.out (fun _ => ?_)
            clear hK K hS2
            refine wpAnyU_take (i := 22) (oi := { dst := some 68, op := _, type := _, pos := _, after := _, guard := some (6, true) }) (v := .pointer (some ⟨bA, oA + u * 5, none⟩)) rfl (by kernel_rfl) (by kernel_rfl) (by kernel_rfl) (by kernel_rfl) (fun _ _ _ h => h) (yields_take rfl (fun w' hw => by obtain ⟨h1, h2, h3, h4, h5⟩ := hw.const; go_simp)) hS3.out ?_
            simp only [Act.put, List.setIfInBounds_toArray, List.set_cons_zero, List.set_cons_succ]
            refine wpAnyU_take (i := 23) (oi := { dst := some 69, op := _, type := _, pos := _, after := _, guard := some (6, true) }) (v := .pointer (some ⟨bA, oA + u * 5 + 2, none⟩)) rfl (by kernel_rfl) (by kernel_rfl) (by kernel_rfl) (by kernel_rfl) (fun _ _ _ h => h) (yields_take rfl (fun w' hw => by obtain ⟨h1, h2, h3, h4, h5⟩ := hw.const; go_simp)) hS3.out ?_
            simp only [Act.put, List.setIfInBounds_toArray, List.set_cons_zero, List.set_cons_succ]
            refine wpAnyU_take (i := 24) (oi := { dst := some 70, op := _, type := _, pos := _, after := _, guard := some (6, true) }) (v := .slice x.S x.ns x.cs) rfl (by kernel_rfl) (by kernel_rfl) (by kernel_rfl) (by kernel_rfl) (fun _ _ _ h => h) (yields_take rfl (fun w' hw => by obtain ⟨h1, h2, h3, h4, h5⟩ := hw.const; go_simp)) hS3.out ?_
            simp only [Act.put, List.setIfInBounds_toArray, List.set_cons_zero, List.set_cons_succ]
            refine wpAnyU_one (i := 25) (by kernel_rfl) rfl ?_
            intro K hK
            go_simp
            refine Calls.mono (sameG_Ints t.A x.S t.n t.c x.ns x.cs t.s x.sh _ (HTW.out.1.1.below hd2) (HXW.out.2.1.below hd2) (by have := HTW.out.2.2.1.1; omega)) ?_
            rintro e w8 ⟨he, jj, hw8⟩
            (try dsimp only)
            rw [← HQ.out] at he
            subst he
            have hd3 : Below wr.heap.size wr w8 := by rw [hw8]; exact below_drewN hd2 jj
            clear hw8
            (try dsimp only)
            have hS4 : Hid (w8.cell? ⟨w.heap.size, 0, none⟩ = some (.slice (some ⟨bA, oA, none⟩) n c) ∧ w8.cell? ⟨w.heap.size, 1, none⟩ = some (.slice (some ⟨bT, oT, none⟩) m d) ∧ w8.cell? ⟨bT, oT + i * 2, none⟩ = some (.slice t.A t.n t.c) ∧ w8.cell? ⟨bT, oT + i * 2 + 1, none⟩ = some (.slice t.B t.m t.d) ∧ w8.cell? ⟨bA, oA + u * 5 + 2, none⟩ = some (.slice x.S x.ns x.cs)) := hide (HKR.out _ hd3)
            refine hK.out _ _ hS4.out (fun _ => ?_)
            clear hK K hS3
            refine wpAnyU_take (i := 26) (oi := { dst := some 72, op := _, type := _, pos := _, after := _, guard := none }) (v := .bool Q) rfl (by kernel_rfl) (by kernel_rfl) (by kernel_rfl) (by kernel_rfl) (fun _ _ _ h => h) (yields_take rfl (fun w' hw => by obtain ⟨h1, h2, h3, h4, h5⟩ := hw.const; go_simp)) hS4.out ?_
            simp only [Act.put, List.setIfInBounds_toArray, List.set_cons_zero, List.set_cons_succ]
            refine wpAnyU_take (i := 27) (oi := { dst := some 5, op := _, type := _, pos := _, after := _, guard := none }) (v := .bool Q) rfl (by kernel_rfl) (by kernel_rfl) (by kernel_rfl) (by kernel_rfl) (fun _ _ _ h => h) (yields_take rfl (fun w' hw => by obtain ⟨h1, h2, h3, h4, h5⟩ := hw.const; go_simp)) hS4.out ?_
            simp only [Act.put, List.setIfInBounds_toArray, List.set_cons_zero, List.set_cons_succ]
            refine wpAnyU_done (by kernel_rfl) ?_ _
            clear hS4
            have HBE8 := hide (below_nx6 HB.out hd3)
            have HPT2 : Hid (Q = true → ∀ (j : Nat) (z : Int) (t : Wt), j < i + 1 → (wtF 0 ns)[j]? = some z → ts[j]? = some t → tenOk t.s t.m = true ∧ t.s = shOf ns z) := hide (fun hq j z' t' hj hz' ht' => by
              by_cases e : j = i
              · subst e
                rw [HZ.out] at hz'
                rw [HT.out] at ht'
                cases hz'
                cases ht'
                have h1 := HQ.out
                rw [hq] at h1
                exact ⟨HTT.out.symm, by rw [HSH.out]; exact of_decide_eq_true h1.symm⟩
              · exact HPT.out (by simp) j z' t' (by omega) hz' ht')
            have HPF2 : Hid (Q = false → R = false) := hide (fun hq => HNO.out (fun h => by
              have h1 := (wsFit_at h.2 HZ.out HT.out).2
              rw [HSH.out] at h1
              have h2 := HQ.out
              rw [decide_eq_true h1, hq] at h2
              cases h2))
            clear HKR
            go_wp2
            go_roundw
            case rel => exact ⟨i + 1, Q, by omega, by go_num, rfl, HPT2, HPF2, HBE8⟩
            case measure => simp [intOf] <;> omega
        · obtain rfl : i = m := by omega
          have i1 : ¬ (i : Int) < (i : Int) := by omega
          obtain rfl : R = true := by
            rw [HR.out, mdB_parts]
            exact ⟨HG.out.symm, wsFit_mk (by rw [HM.out, ← HK1.out, HKM.out]) (fun j z t hz ht => HPT.out (by simp) j z t (by have := (List.getElem?_eq_some_iff.1 ht).1; rw [HM.out] at this; exact this) hz ht)⟩
          obtain rfl := HP2.out (by simp)
          have ho3 := HP1.out (by simp)
          have hk3 := HP3.out (by simp)
          have hmd := HR.out.symm
          obtain ⟨hgb, hfit⟩ := mdB_parts.1 hmd
          have hP := lies_of_own ho3
          have hlenP : (mdP ns ts).length = k3 := lies_len9 hP
          have hbody := (mdP_body ns ts).1
          obtain ⟨l, hl⟩ : ∃ l, k3 = l + 4 := ⟨k3 - 4, by omega⟩
          subst hl
          have hcap3 := own_cap11 ho3
          have hc63 := own_cap63 ho3
          have HPL := hide hP
          have HMD := hide hmd
          have hbp := mdP_bytes (ts := ts) hgb
          have HBP := hide hbp
          have hgb2 := (getB_put hmd HKD.out (fun t ht => (HWL.out t ht).1)).1
          have HGB2 := hide hgb2
          obtain ⟨bP, oP, eP, _, _⟩ := byte_at hP (by omega)
          subst eP
          have hbr3 := below_nx6 HG3.out HB.out
          have HBR3 := hide hbr3
          have hgt := mget_any (some ⟨bP, oP, none⟩) (l + 4) c3 (mdP ns ts) wr (hP.below hbr3) hbp (by omega) hcap3 hc63
          have HGT := hide hgt
          have HMI : Hid (Lies w3 (some ⟨bP, oP, none⟩) l ((mdI ns ts).map (Value.int .u8))) := hide (by
            have h1 := hP.take (k := l) (by omega)
            rw [← List.map_take] at h1
            have h2 := (mdP_body ns ts).2.1
            rw [hlenP, Nat.add_sub_cancel] at h2
            rwa [h2] at h1)
          have HMB : Hid (ByteL (mdI ns ts)) := hide (mdI_bytes hgb)
          have hlc : l ≤ c3 := by omega
          clear hP hgt hbp hgb2 hbody hlenP hbr3 hgb hfit ho3 hmd
          go_wp2_with fail
          refine Calls.mono HGT.out ?_
          rintro e w6 ⟨h1, hb6⟩
          rcases h1 with ⟨h2, _⟩ | ⟨_, ns', ts', A', B', c', d', rfl, hcc, hns', hws', hmd', hmp', hkd'⟩
          · rw [HGB2.out] at h2; cases h2
          obtain ⟨e1, e2⟩ := mdP_inj hmd' HMD.out hkd' HKD.out hws'.all HWL.out hmp'
          have hn' : ns'.length = n := by have h := congrArg List.length e1; rw [List.length_map, List.length_map, HL.out] at h; exact h
          have hm' : ts'.length = i := by have h := congrArg List.length e2; rw [List.length_map, List.length_map, HM.out] at h; exact h
          rw [hn', hm']
          rw [hn'] at hns'
          rw [hm'] at hws'
          have hbm : Below w6.heap.size w6 (w6.alloc (.cells #[.slice A' n c', .slice B' i d'] 27)) := below_al6 (Below.refl _ _)
          have hb7 := below_nx6 HBR.out (below_nx6 hb6 hbm)
          have HB7 := hide hb7
          have HB37 := hide (below_nx6 HBR3.out (below_nx6 hb6 hbm))
          obtain ⟨x0, x1⟩ := (BoxM.new w6 (.slice A' n c') (.slice B' i d')).cs
          have q0 := (HKC.out _ hb7).1
          have q1 := (HKC.out _ hb7).2
          have HSM := hide (sameM_true A' B' A B n c' i d' c d ns' ns ts' ts _ (hns'.below hbm) (HN.out.below hb7) (hws'.below hbm) (HWS.out.below hb7) (by omega) (by omega) e1 e2)
          clear hb6 hns' hws' hmd' hmp' hkd' hn' hm' e1 e2 hbm hb7 c0 c1
          go_wp2_with fail
          refine Calls.mono HSM.out ?_
          rintro e w8 ⟨rfl, hb8⟩
          have HB8 := hide (below_nx6 HB7.out hb8)
          have HB38 := hide (below_nx6 HB37.out hb8)
          clear hb8 x0 x1 q0 q1 HSM
          have HSU := hide (summed_any (some ⟨bP, oP, none⟩) l c3 (mdI ns ts) w8 (HMI.out.below HB38.out) HMB.out (fun h => by cases h) (by omega))
          go_wp2_with fail
          refine Calls.mono HSU.out ?_
          rintro e w9 ⟨A9, c9, rfl, ho9, hb9⟩
          have HL9 := hide (lies_of_own ho9)
          have HB9 := hide (below_nx6 HB8.out hb9)
          have HSB := hide (sameG_Bytes A9 (some ⟨bP, oP, none⟩) (l + 4) c9 (l + 4) c3 (mdP ns ts) (mdP ns ts) w9 HL9.out (HPL.out.below (below_nx6 HB38.out hb9)) (by omega))
          rw [show decide (mdP ns ts = mdP ns ts) = true by simp] at HSB
          clear ho9 hb9
          go_wp2_with fail
          refine Calls.mono HSB.out ?_
          rintro e w10 ⟨rfl, jj, hw10⟩
          have HB10 := hide (below_nx6 HB0.out (by rw [hw10]; exact below_drewN HB9.out jj : Below W0.heap.size W0 w10))
          clear hw10
          go_wp2
          go_ret
          exact ⟨rfl, HB10.out⟩
    · have e0 : ((k1 : Int) == (m : Int)) = false := by rw [beq_eq_false_iff_ne]; omega
      obtain rfl : R = false := HNO.out (fun h => by have h1 := wsFit_len h.2; rw [← HK1.out, HM.out] at h1; omega)
      clear hkm
      have hS0 : Hid (w3.drew.cell? ⟨w.heap.size, 0, none⟩ = some (.slice A n c) ∧ w3.drew.cell? ⟨w.heap.size, 1, none⟩ = some (.slice B m d)) := hide (HKC.out _ hd0)
      refine wp_region_U (fun _ v => v.cell? ⟨w.heap.size, 0, none⟩ = some (.slice A n c) ∧ v.cell? ⟨w.heap.size, 1, none⟩ = some (.slice B m d)) 99 (by kernel_rfl) ?_
      refine wpAnyU_take (i := 0) (oi := { dst := some 23, op := _, type := _, pos := _, after := _, guard := none }) (v := .pointer (some ⟨w.heap.size, 0, none⟩)) rfl (by kernel_rfl) (by kernel_rfl) (by kernel_rfl) (by kernel_rfl) (fun _ _ _ h => h) (yields_take rfl (fun w' hw => by obtain ⟨h1, h2⟩ := hw.const; go_simp)) hS0.out ?_
      simp only [Act.put, List.setIfInBounds_toArray, List.set_cons_zero, List.set_cons_succ]
      refine wpAnyU_take (i := 1) (oi := { dst := some 24, op := _, type := _, pos := _, after := _, guard := none }) (v := .agg #[.slice A n c]) rfl (by kernel_rfl) (by kernel_rfl) (by kernel_rfl) (by kernel_rfl) (fun _ _ _ h => h) (yields_take rfl (fun w' hw => by obtain ⟨h1, h2⟩ := hw.const; go_simp)) hS0.out ?_
      simp only [Act.put, List.setIfInBounds_toArray, List.set_cons_zero, List.set_cons_succ]
      refine wpAnyU_one (i := 2) (by kernel_rfl) rfl ?_
      intro K hK
      go_simp
      refine Calls.mono (HCK.out) ?_
      rintro e w4 ⟨rfl, hb⟩
      (try dsimp only)
      have hd1 : Below W0.heap.size W0 w4 := below_nx6 hd0 hb
      have hg1 : Below w3.heap.size w3 w4 := below_nx6 (below_drewN (Below.refl _ _) 1) hb
      clear hb
      (try dsimp only)
      have hS1 : Hid (w4.cell? ⟨w.heap.size, 0, none⟩ = some (.slice A n c) ∧ w4.cell? ⟨w.heap.size, 1, none⟩ = some (.slice B m d)) := hide (HKC.out _ hd1)
      refine hK.out _ _ hS1.out (fun _ => ?_)
      clear hK K hS0
      refine wpAnyU_take (i := 3) (oi := { dst := some 26, op := _, type := _, pos := _, after := _, guard := none }) (v := .bool true) rfl (by kernel_rfl) (by kernel_rfl) (by kernel_rfl) (by kernel_rfl) (fun _ _ _ h => h) (yields_take rfl (fun w' hw => by obtain ⟨h1, h2⟩ := hw.const; go_simp)) hS1.out ?_
      simp only [Act.put, List.setIfInBounds_toArray, List.set_cons_zero, List.set_cons_succ]
      refine wpAnyU_take (i := 4) (oi := { dst := some 27, op := _, type := _, pos := _, after := _, guard := some (3, true) }) (v := .pointer (some ⟨w.heap.size, 0, none⟩)) rfl (by kernel_rfl) (by kernel_rfl) (by kernel_rfl) (by kernel_rfl) (fun _ _ _ h => h) (yields_take rfl (fun w' hw => by obtain ⟨h1, h2⟩ := hw.const; go_simp)) hS1.out ?_
      simp only [Act.put, List.setIfInBounds_toArray, List.set_cons_zero, List.set_cons_succ]
      refine wpAnyU_take (i := 5) (oi := { dst := some 28, op := _, type := _, pos := _, after := _, guard := some (3, true) }) (v := .agg #[.slice A n c]) rfl (by kernel_rfl) (by kernel_rfl) (by kernel_rfl) (by kernel_rfl) (fun _ _ _ h => h) (yields_take rfl (fun w' hw => by obtain ⟨h1, h2⟩ := hw.const; go_simp)) hS1.out ?_
      simp only [Act.put, List.setIfInBounds_toArray, List.set_cons_zero, List.set_cons_succ]
      refine wpAnyU_take (i := 8) (oi := { dst := some 31, op := _, type := _, pos := _, after := _, guard := some (3, true) }) (v := .pointer (some ⟨w.heap.size, 1, none⟩)) rfl (by kernel_rfl) (by kernel_rfl) (by kernel_rfl) (by kernel_rfl) (fun _ _ _ h => h) (yields_take rfl (fun w' hw => by obtain ⟨h1, h2⟩ := hw.const; go_simp)) hS1.out ?_
      simp only [Act.put, List.setIfInBounds_toArray, List.set_cons_zero, List.set_cons_succ]
      refine wpAnyU_take (i := 9) (oi := { dst := some 32, op := _, type := _, pos := _, after := _, guard := some (3, true) }) (v := .slice B m d) rfl (by kernel_rfl) (by kernel_rfl) (by kernel_rfl) (by kernel_rfl) (fun _ _ _ h => h) (yields_take rfl (fun w' hw => by obtain ⟨h1, h2⟩ := hw.const; go_simp)) hS1.out ?_
      simp only [Act.put, List.setIfInBounds_toArray, List.set_cons_zero, List.set_cons_succ]
      refine wpAnyU_take (i := 10) (oi := { dst := some 33, op := _, type := _, pos := _, after := _, guard := some (3, true) }) (v := .int .i64 (m : Int)) rfl (by kernel_rfl) (by kernel_rfl) (by kernel_rfl) (by kernel_rfl) (fun _ _ _ h => h) (yields_take rfl (fun w' hw => by obtain ⟨h1, h2⟩ := hw.const; go_simp)) hS1.out ?_
      simp only [Act.put, List.setIfInBounds_toArray, List.set_cons_zero, List.set_cons_succ]
      refine wpAnyU_one (i := 6) (by kernel_rfl) rfl ?_
      intro K hK
      go_simp
      refine Calls.mono (weights_any A n c ns _ (HN.out.below hd1) (by omega)) ?_
      rintro e w5 ⟨A5, k5, c5, rfl, ho5, hb⟩
      (try dsimp only)
      have hkk : k5 = k1 := (lies_len9 (lies_of_own ho5)).symm.trans HK1.out.symm
      rw [hkk]
      have hd2 : Below W0.heap.size W0 w5 := below_nx6 hd1 hb
      have hg2 : Below w3.heap.size w3 w5 := below_nx6 hg1 hb
      clear hb ho5
      (try dsimp only)
      have hS2 : Hid (w5.cell? ⟨w.heap.size, 0, none⟩ = some (.slice A n c) ∧ w5.cell? ⟨w.heap.size, 1, none⟩ = some (.slice B m d)) := hide (HKC.out _ hd2)
      refine hK.out _ _ hS2.out (fun _ => ?_)
      clear hK K hS1
      refine wpAnyU_take (i := 7) (oi := { dst := some 30, op := _, type := _, pos := _, after := _, guard := some (3, true) }) (v := .int .i64 (k1 : Int)) rfl (by kernel_rfl) (by kernel_rfl) (by kernel_rfl) (by kernel_rfl) (fun _ _ _ h => h) (yields_take rfl (fun w' hw => by obtain ⟨h1, h2⟩ := hw.const; go_simp)) hS2.out ?_
      simp only [Act.put, List.setIfInBounds_toArray, List.set_cons_zero, List.set_cons_succ]
      refine wpAnyU_take (i := 11) (oi := { dst := some 34, op := _, type := _, pos := _, after := _, guard := some (3, true) }) (v := .bool false) rfl (by kernel_rfl) (by kernel_rfl) (by kernel_rfl) (by kernel_rfl) (fun _ _ _ h => h) (yields_take rfl (fun w' hw => by obtain ⟨h1, h2⟩ := hw.const; go_simp)) hS2.out ?_
      simp only [Act.put, List.setIfInBounds_toArray, List.set_cons_zero, List.set_cons_succ]
      refine wpAnyU_take (i := 12) (oi := { dst := some 35, op := _, type := _, pos := _, after := _, guard := none }) (v := .bool false) rfl (by kernel_rfl) (by kernel_rfl) (by kernel_rfl) (by kernel_rfl) (fun _ _ _ h => h) (yields_take rfl (fun w' hw => by obtain ⟨h1, h2⟩ := hw.const; go_simp)) hS2.out ?_
      simp only [Act.put, List.setIfInBounds_toArray, List.set_cons_zero, List.set_cons_succ]
      refine wpAnyU_take (i := 13) (oi := { dst := some 5, op := _, type := _, pos := _, after := _, guard := none }) (v := .bool false) rfl (by kernel_rfl) (by kernel_rfl) (by kernel_rfl) (by kernel_rfl) (fun _ _ _ h => h) (yields_take rfl (fun w' hw => by obtain ⟨h1, h2⟩ := hw.const; go_simp)) hS2.out ?_
      simp only [Act.put, List.setIfInBounds_toArray, List.set_cons_zero, List.set_cons_succ]
      refine wpAnyU_done (by kernel_rfl) ?_ _
      clear hS2
      have HBE := hide hd2
      obtain ⟨x0, x1⟩ := HKC.out _ HBE.out
      go_wp2
      go_loopw [5, 6] (fun v i wr => v = .bool false ∧ i = .int .i64 0 ∧ wr = w5) (fun _ _ _ => 0)
      case atStart => exact ⟨rfl, rfl, rfl⟩
      case round =>
        obtain ⟨rfl, rfl, rfl⟩ := hrel
        obtain ⟨rfl, rfl⟩ := HP0.out (by simp)
        go_wp2
        go_ret
        exact ⟨rfl, below_nx6 HB0.out HBE.out⟩

end

end Go.Proofs.YtohndckbhjakfaaGreatDoor
