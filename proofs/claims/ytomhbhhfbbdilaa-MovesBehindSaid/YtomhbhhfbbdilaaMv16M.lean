/- Contracts of joinOrigin and of its closure: which tensor a number of the joined one comes from, and from where there. -/
import Derived.Test.YtomhbhhfbbdilaaMv15M
namespace Go.Proofs.Ytomhbhhfbbdilaa
open Go.RowKit
set_option linter.unusedVariables false
set_option linter.unusedSimpArgs false
set_option maxRecDepth 100000

set_option maxHeartbeats 1000000 in
theorem joinOrigin_ok (P A B : Option Addr) (q d n c k e a : Nat) (w : World) :
    Calls Try.prog 57 #[.slice P q d, .agg #[.slice A n c, .slice B k e], .int .i64 (a : Int)] w fun e0 w' => e0 = .returned (.func (.func 92) #[] #[.pointer (some ⟨w.heap.size + 1, 0, none⟩), .pointer (some ⟨w.heap.size + 2, 0, none⟩), .pointer (some ⟨w.heap.size, 0, none⟩)]) ∧
      w' = ((w.alloc (.cells #[.slice P q d] 101)).alloc (.cells #[.slice A n c, .slice B k e] 87)).alloc (.cells #[.int .i64 (a : Int)] 3) := by
  go_enter Try.func57, Try.ntmps57
  go_wp2
  go_ret
  exact ⟨rfl, rfl⟩

theorem lt_cell9 {w : World} {b i : Nat} {v : Value} (h : w.cell? ⟨b, i, none⟩ = some v) : b < w.heap.size := by
  rcases Nat.lt_or_ge b w.heap.size with h1 | h1
  · exact h1
  · exfalso
    have e : w.heap[b]? = none := Array.getElem?_eq_none h1
    simp [World.cell?, e] at h

set_option maxHeartbeats 4000000 in
theorem joinOrig_ok (p q r g z a n c k' e KT stT i : Nat) (A B : Option Addr) (s st : List Int) (ts : List Tn) (w : World) (hT : BoxL w q (.slice A n c) (.slice B k' e)) (hP : w.heap[p]? = some (.cells #[.slice (some ⟨g, 0, none⟩) z z] 101 (0, 0))) (hR : w.heap[r]? = some (.cells #[.int .i64 (a : Int)] 3 (0, 0)))
    (hA : Lies w A n (s.map (Value.int .i64))) (hB : Lies w B k' (st.map (Value.int .i64))) (ha : a < n) (hak : a < k') (hK : s.getD a 0 = (KT : Int)) (hst : st.getD a 0 = (stT : Int)) (hst1 : 1 ≤ stT) (hKT : (KT : Int) = sumSz ts a z) (hK1 : 1 ≤ KT) (hi : i ≤ 4096)
    (hl : ts.length = z) (hz : z ≤ 4) (hS : LsAt w g ts z) (hO : ∀ (j : Nat) (t : Tn), ts[j]? = some t → t.Ok w ∧ a < t.n ∧ 1 ≤ t.s.getD a 0 ∧ t.s.getD a 0 ≤ 64 ∧ 1 ≤ (strL t.s).getD a 0 ∧ ∀ x : Nat, (x : Int) < t.s.getD a 0 → (i / stT / KT * (t.s.getD a 0).toNat + x) * ((strL t.s).getD a 0).toNat + i % stT ≤ 1000000) :
    Calls Try.prog 92 #[.int .i64 (i : Int), .pointer (some ⟨q, 0, none⟩), .pointer (some ⟨r, 0, none⟩), .pointer (some ⟨p, 0, none⟩)] w fun e0 w' => ∃ (j x : Nat) (t : Tn), ts[j]? = some t ∧ (x : Int) < t.s.getD a 0 ∧ ((i / stT % KT : Nat) : Int) = sumSz ts a j + (x : Int) ∧
      e0 = .returned (.tuple #[.int .i64 (j : Int), .int .i64 (((i / stT / KT * (t.s.getD a 0).toNat + x) * ((strL t.s).getD a 0).toNat + i % stT : Nat) : Int)]) ∧ Below w.heap.size w w' := by
  have hsb : ∀ j, 0 ≤ sz9 ts a j ∧ sz9 ts a j ≤ 64 := fun j => by
    unfold sz9
    split
    · rename_i t h; have := hO j t h; omega
    · omega
  have HSB := hide (sumSz_le hsb)
  have hK64 : KT ≤ 256 := by have := (HSB.out z).2; omega
  obtain ⟨bf, hbf⟩ : ∃ x, x = i / stT / KT := ⟨_, rfl⟩
  obtain ⟨at_, hat⟩ : ∃ x, x = i / stT % KT := ⟨_, rfl⟩
  obtain ⟨bh, hbh⟩ : ∃ x, x = i % stT := ⟨_, rfl⟩
  have hatK : at_ < KT := by rw [hat]; exact Nat.mod_lt _ hK1
  have HSPL : Hid (Calls Try.prog 93 #[.agg #[.slice A n c, .slice B k' e], .int .i64 (i : Int), .int .i64 (a : Int)] w fun e0 w' => e0 = .returned (.tuple #[.int .i64 (bf : Int), .int .i64 (at_ : Int), .int .i64 (bh : Int)]) ∧ Below w.heap.size w w') := hide (by
    rw [hbf, hat, hbh]
    exact split_ok A B n c k' e s st a KT stT i w hA hB ha hak hK hst (by omega) hst1 hK1)
  rw [← hbf, ← hat, ← hbh]
  rw [← hbf, ← hbh] at hO
  have HT := hide hT
  have HP := hide hP
  have HR := hide hR
  have HS := hide hS
  have HO := hide hO
  have HL := hide hl
  have HKT := hide hKT
  have x0 := hT.c0
  have x1 := hT.c1
  have x2 : w.cell? ⟨r, 0, none⟩ = some (.int .i64 (a : Int)) := cell_of_row _ _ 0 _ _ (0, 0) hR
  clear hT hP hR hS hO hl hKT hbf hat hbh hA hB hK hst hsb
  have hz0 : 0 < z := by
    rcases Nat.eq_zero_or_pos z with e | e
    · have := HKT.out
      rw [e, sumSz] at this
      omega
    · exact e
  go_enter Try.func92, Try.ntmps92
  go_wp2_with fail
  refine Calls.mono HSPL.out ?_
  rintro e0 w1 ⟨rfl, hb1⟩
  have HB1 := hide hb1
  clear hb1 x0 x1 x2 HSPL
  go_wp2
  go_loopw [5, 8] (fun jv xv wr => ∃ (j x : Nat), j < z ∧ jv = .int .i64 (j : Int) ∧ xv = .int .i64 (x : Int) ∧ x ≤ 256 ∧ Hid ((at_ : Int) = sumSz ts a j + (x : Int)) ∧ Hid (Below w.heap.size w wr)) (fun jv _ _ => z - (intOf jv).toNat)
  case atStart => exact ⟨0, at_, hz0, rfl, rfl, by omega, hide (by rw [sumSz]; omega), HB1⟩
  case round =>
    clear HB1
    obtain ⟨j, x, hj, rfl, rfl, hx, HX, HB⟩ := hrel
    have hj' : j < ts.length := by rw [HL.out]; exact hj
    obtain ⟨t, ht⟩ : ∃ t, ts[j]? = some t := ⟨ts[j], List.getElem?_eq_getElem hj'⟩
    obtain ⟨o1, o2, o3, o4, o5, o6⟩ := HO.out j t ht
    obtain ⟨gs, _, _, hLs⟩ := HS.out.cells hj ht
    have HT1 := hide o1.1
    have HTL := hide hLs
    have HLM := hide o6
    obtain ⟨KJ, hKJ⟩ := Int.eq_ofNat_of_zero_le (show 0 ≤ t.s.getD a 0 by omega)
    obtain ⟨SJ, hSJ⟩ := Int.eq_ofNat_of_zero_le (show 0 ≤ (strL t.s).getD a 0 by omega)
    have hKJ1 : 1 ≤ KJ := by omega
    have hKJ2 : KJ ≤ 64 := by omega
    have hSJ1 : 1 ≤ SJ := by omega
    have HKJ := hide hKJ
    have HSJ := hide hSJ
    have HTT := hide ht
    have hj0 : (0 : Int) ≤ (j : Int) := by omega
    have hj1 : (j : Int) < (z : Int) := by omega
    have ha0 : (0 : Int) ≤ (a : Int) := by omega
    have ha1 : (a : Int) < (t.n : Int) := by omega
    obtain ⟨tb, to, htA, _, _⟩ := byte_at o1.1 (by omega)
    have HTA := hide htA
    have HF : Hid (∀ v, Below w.heap.size w v → ∃ gs, v.cell? ⟨p, 0, none⟩ = some (.slice (some ⟨g, 0, none⟩) z z) ∧ v.cell? ⟨g, j * 2, none⟩ = some (.slice (some ⟨tb, to, none⟩) t.n t.c) ∧ v.cell? ⟨r, 0, none⟩ = some (.int .i64 (a : Int)) ∧ v.cell? ⟨tb, to + a, none⟩ = some (.int .i64 (KJ : Int)) ∧ v.cell? ⟨g, j * 2 + 1, none⟩ = some (.slice (some ⟨gs, 0, none⟩) t.n t.n) ∧ Lies v (some ⟨gs, 0, none⟩) t.n ((strL t.s).map (Value.int .i64))) := hide (fun v hv => by
      obtain ⟨gs, k1, k2, k3⟩ := (HS.out.below hv).cells hj HTT.out
      have h1 := HT1.out.below hv
      rw [HTA.out] at h1 k1
      obtain ⟨_, _, e1, _, x1⟩ := byte_at h1 (by omega)
      cases e1
      have h3 := x1 a (by omega)
      rw [HKJ.out] at h3
      exact ⟨gs, cell_of_row _ _ 0 _ _ (0, 0) ((hv.block _ (lt_of_heap HP.out)).trans HP.out), k1, cell_of_row _ _ 0 _ _ (0, 0) ((hv.block _ (lt_of_heap HR.out)).trans HR.out), h3, k2, k3⟩)
    have hd1 : Below w.heap.size w wr.drew := below_drewN HB.out 1
    clear o1 o2 o3 o4 o5 o6 hLs hKJ hSJ ht htA hj'
    go_wp2
    by_cases hlt : KJ ≤ x
    · have c1 : (KJ : Int) ≤ (x : Int) := by omega
      have c2 : ¬ ((x : Int) < (KJ : Int)) := by omega
      obtain ⟨x2, hx2⟩ : ∃ y, y = x - KJ := ⟨_, rfl⟩
      have m1 : IntKind.i64.wrap ((x : Int) - (KJ : Int)) = (x2 : Int) := by rw [IntKind.wrap_i64]; omega
      have hd2 : Below w.heap.size w wr.drew.drew := below_drewN hd1 1
      have HX2 : Hid ((at_ : Int) = sumSz ts a (j + 1) + (x2 : Int)) := hide (by rw [sumSz, sz9_at HTT.out, HKJ.out]; have := HX.out; omega)
      have hjz : j + 1 < z := by
        by_cases e : j + 1 = z
        · have h1 := HX2.out
          have h2 := HKT.out
          rw [e, ← h2] at h1
          omega
        · omega
      have hx3 : x2 ≤ 256 := by omega
      clear hx2
      have hS0 : Hid (wr.drew.cell? ⟨p, 0, none⟩ = some (.slice (some ⟨g, 0, none⟩) z z) ∧ wr.drew.cell? ⟨g, j * 2, none⟩ = some (.slice (some ⟨tb, to, none⟩) t.n t.c) ∧ wr.drew.cell? ⟨r, 0, none⟩ = some (.int .i64 (a : Int)) ∧ wr.drew.cell? ⟨tb, to + a, none⟩ = some (.int .i64 (KJ : Int))) := hide (by obtain ⟨_, f1, f2, f3, f4, _, _⟩ := HF.out _ hd1; exact ⟨f1, f2, f3, f4⟩)
      refine wp_region_U (fun _ v => v.cell? ⟨p, 0, none⟩ = some (.slice (some ⟨g, 0, none⟩) z z) ∧ v.cell? ⟨g, j * 2, none⟩ = some (.slice (some ⟨tb, to, none⟩) t.n t.c) ∧ v.cell? ⟨r, 0, none⟩ = some (.int .i64 (a : Int)) ∧ v.cell? ⟨tb, to + a, none⟩ = some (.int .i64 (KJ : Int))) 99 (by kernel_rfl) ?_
      refine wpAnyU_take (i := 0) (oi := { dst := some 18, op := _, type := _, pos := _, after := _, guard := none }) (v := .int .i64 (x : Int)) rfl (by kernel_rfl) (by kernel_rfl) (by kernel_rfl) (by kernel_rfl) (fun _ _ _ h => h) (yields_take rfl (fun w' hw => by obtain ⟨h1, h2, h3, h4⟩ := hw.const; go_simp)) hS0.out ?_
      simp only [Act.put, List.setIfInBounds_toArray, List.set_cons_zero, List.set_cons_succ]
      refine wpAnyU_take (i := 1) (oi := { dst := some 19, op := _, type := _, pos := _, after := _, guard := none }) (v := .slice (some ⟨g, 0, none⟩) z z) rfl (by kernel_rfl) (by kernel_rfl) (by kernel_rfl) (by kernel_rfl) (fun _ _ _ h => h) (yields_take rfl (fun w' hw => by obtain ⟨h1, h2, h3, h4⟩ := hw.const; go_simp)) hS0.out ?_
      simp only [Act.put, List.setIfInBounds_toArray, List.set_cons_zero, List.set_cons_succ]
      refine wpAnyU_take (i := 2) (oi := { dst := some 20, op := _, type := _, pos := _, after := _, guard := none }) (v := .int .i64 (j : Int)) rfl (by kernel_rfl) (by kernel_rfl) (by kernel_rfl) (by kernel_rfl) (fun _ _ _ h => h) (yields_take rfl (fun w' hw => by obtain ⟨h1, h2, h3, h4⟩ := hw.const; go_simp)) hS0.out ?_
      simp only [Act.put, List.setIfInBounds_toArray, List.set_cons_zero, List.set_cons_succ]
      refine wpAnyU_take (i := 3) (oi := { dst := some 21, op := _, type := _, pos := _, after := _, guard := none }) (v := .pointer (some ⟨g, j * 2, none⟩)) rfl (by kernel_rfl) (by kernel_rfl) (by kernel_rfl) (by kernel_rfl) (fun _ _ _ h => h) (yields_take rfl (fun w' hw => by obtain ⟨h1, h2, h3, h4⟩ := hw.const; go_simp)) hS0.out ?_
      simp only [Act.put, List.setIfInBounds_toArray, List.set_cons_zero, List.set_cons_succ]
      refine wpAnyU_take (i := 4) (oi := { dst := some 22, op := _, type := _, pos := _, after := _, guard := none }) (v := .pointer (some ⟨g, j * 2, none⟩)) rfl (by kernel_rfl) (by kernel_rfl) (by kernel_rfl) (by kernel_rfl) (fun _ _ _ h => h) (yields_take rfl (fun w' hw => by obtain ⟨h1, h2, h3, h4⟩ := hw.const; go_simp)) hS0.out ?_
      simp only [Act.put, List.setIfInBounds_toArray, List.set_cons_zero, List.set_cons_succ]
      refine wpAnyU_take (i := 5) (oi := { dst := some 23, op := _, type := _, pos := _, after := _, guard := none }) (v := .pointer (some ⟨g, j * 2, none⟩)) rfl (by kernel_rfl) (by kernel_rfl) (by kernel_rfl) (by kernel_rfl) (fun _ _ _ h => h) (yields_take rfl (fun w' hw => by obtain ⟨h1, h2, h3, h4⟩ := hw.const; go_simp)) hS0.out ?_
      simp only [Act.put, List.setIfInBounds_toArray, List.set_cons_zero, List.set_cons_succ]
      refine wpAnyU_take (i := 6) (oi := { dst := some 24, op := _, type := _, pos := _, after := _, guard := none }) (v := .slice (some ⟨tb, to, none⟩) t.n t.c) rfl (by kernel_rfl) (by kernel_rfl) (by kernel_rfl) (by kernel_rfl) (fun _ _ _ h => h) (yields_take rfl (fun w' hw => by obtain ⟨h1, h2, h3, h4⟩ := hw.const; go_simp)) hS0.out ?_
      simp only [Act.put, List.setIfInBounds_toArray, List.set_cons_zero, List.set_cons_succ]
      refine wpAnyU_take (i := 7) (oi := { dst := some 25, op := _, type := _, pos := _, after := _, guard := none }) (v := .int .i64 (a : Int)) rfl (by kernel_rfl) (by kernel_rfl) (by kernel_rfl) (by kernel_rfl) (fun _ _ _ h => h) (yields_take rfl (fun w' hw => by obtain ⟨h1, h2, h3, h4⟩ := hw.const; go_simp)) hS0.out ?_
      simp only [Act.put, List.setIfInBounds_toArray, List.set_cons_zero, List.set_cons_succ]
      refine wpAnyU_take (i := 8) (oi := { dst := some 26, op := _, type := _, pos := _, after := _, guard := none }) (v := .pointer (some ⟨tb, to + a, none⟩)) rfl (by kernel_rfl) (by kernel_rfl) (by kernel_rfl) (by kernel_rfl) (fun _ _ _ h => h) (yields_take rfl (fun w' hw => by obtain ⟨h1, h2, h3, h4⟩ := hw.const; go_simp)) hS0.out ?_
      simp only [Act.put, List.setIfInBounds_toArray, List.set_cons_zero, List.set_cons_succ]
      refine wpAnyU_take (i := 9) (oi := { dst := some 27, op := _, type := _, pos := _, after := _, guard := none }) (v := .int .i64 (KJ : Int)) rfl (by kernel_rfl) (by kernel_rfl) (by kernel_rfl) (by kernel_rfl) (fun _ _ _ h => h) (yields_take rfl (fun w' hw => by obtain ⟨h1, h2, h3, h4⟩ := hw.const; go_simp)) hS0.out ?_
      simp only [Act.put, List.setIfInBounds_toArray, List.set_cons_zero, List.set_cons_succ]
      refine wpAnyU_take (i := 10) (oi := { dst := some 28, op := _, type := _, pos := _, after := _, guard := none }) (v := .bool true) rfl (by kernel_rfl) (by kernel_rfl) (by kernel_rfl) (by kernel_rfl) (fun _ _ _ h => h) (yields_take rfl (fun w' hw => by obtain ⟨h1, h2, h3, h4⟩ := hw.const; go_simp)) hS0.out ?_
      simp only [Act.put, List.setIfInBounds_toArray, List.set_cons_zero, List.set_cons_succ]
      refine wpAnyU_done (by kernel_rfl) ?_ _
      clear hS0
      go_wp2
      have hS0 : Hid (wr.drew.drew.cell? ⟨p, 0, none⟩ = some (.slice (some ⟨g, 0, none⟩) z z) ∧ wr.drew.drew.cell? ⟨g, j * 2, none⟩ = some (.slice (some ⟨tb, to, none⟩) t.n t.c) ∧ wr.drew.drew.cell? ⟨r, 0, none⟩ = some (.int .i64 (a : Int)) ∧ wr.drew.drew.cell? ⟨tb, to + a, none⟩ = some (.int .i64 (KJ : Int))) := hide (by obtain ⟨_, f1, f2, f3, f4, _, _⟩ := HF.out _ hd2; exact ⟨f1, f2, f3, f4⟩)
      refine wp_region_U (fun _ v => v.cell? ⟨p, 0, none⟩ = some (.slice (some ⟨g, 0, none⟩) z z) ∧ v.cell? ⟨g, j * 2, none⟩ = some (.slice (some ⟨tb, to, none⟩) t.n t.c) ∧ v.cell? ⟨r, 0, none⟩ = some (.int .i64 (a : Int)) ∧ v.cell? ⟨tb, to + a, none⟩ = some (.int .i64 (KJ : Int))) 99 (by kernel_rfl) ?_
      refine wpAnyU_take (i := 0) (oi := { dst := some 29, op := _, type := _, pos := _, after := _, guard := none }) (v := .int .i64 (x : Int)) rfl (by kernel_rfl) (by kernel_rfl) (by kernel_rfl) (by kernel_rfl) (fun _ _ _ h => h) (yields_take rfl (fun w' hw => by obtain ⟨h1, h2, h3, h4⟩ := hw.const; go_simp)) hS0.out ?_
      simp only [Act.put, List.setIfInBounds_toArray, List.set_cons_zero, List.set_cons_succ]
      refine wpAnyU_take (i := 1) (oi := { dst := some 30, op := _, type := _, pos := _, after := _, guard := none }) (v := .slice (some ⟨g, 0, none⟩) z z) rfl (by kernel_rfl) (by kernel_rfl) (by kernel_rfl) (by kernel_rfl) (fun _ _ _ h => h) (yields_take rfl (fun w' hw => by obtain ⟨h1, h2, h3, h4⟩ := hw.const; go_simp)) hS0.out ?_
      simp only [Act.put, List.setIfInBounds_toArray, List.set_cons_zero, List.set_cons_succ]
      refine wpAnyU_take (i := 2) (oi := { dst := some 31, op := _, type := _, pos := _, after := _, guard := none }) (v := .int .i64 (j : Int)) rfl (by kernel_rfl) (by kernel_rfl) (by kernel_rfl) (by kernel_rfl) (fun _ _ _ h => h) (yields_take rfl (fun w' hw => by obtain ⟨h1, h2, h3, h4⟩ := hw.const; go_simp)) hS0.out ?_
      simp only [Act.put, List.setIfInBounds_toArray, List.set_cons_zero, List.set_cons_succ]
      refine wpAnyU_take (i := 3) (oi := { dst := some 32, op := _, type := _, pos := _, after := _, guard := none }) (v := .pointer (some ⟨g, j * 2, none⟩)) rfl (by kernel_rfl) (by kernel_rfl) (by kernel_rfl) (by kernel_rfl) (fun _ _ _ h => h) (yields_take rfl (fun w' hw => by obtain ⟨h1, h2, h3, h4⟩ := hw.const; go_simp)) hS0.out ?_
      simp only [Act.put, List.setIfInBounds_toArray, List.set_cons_zero, List.set_cons_succ]
      refine wpAnyU_take (i := 4) (oi := { dst := some 33, op := _, type := _, pos := _, after := _, guard := none }) (v := .pointer (some ⟨g, j * 2, none⟩)) rfl (by kernel_rfl) (by kernel_rfl) (by kernel_rfl) (by kernel_rfl) (fun _ _ _ h => h) (yields_take rfl (fun w' hw => by obtain ⟨h1, h2, h3, h4⟩ := hw.const; go_simp)) hS0.out ?_
      simp only [Act.put, List.setIfInBounds_toArray, List.set_cons_zero, List.set_cons_succ]
      refine wpAnyU_take (i := 5) (oi := { dst := some 34, op := _, type := _, pos := _, after := _, guard := none }) (v := .pointer (some ⟨g, j * 2, none⟩)) rfl (by kernel_rfl) (by kernel_rfl) (by kernel_rfl) (by kernel_rfl) (fun _ _ _ h => h) (yields_take rfl (fun w' hw => by obtain ⟨h1, h2, h3, h4⟩ := hw.const; go_simp)) hS0.out ?_
      simp only [Act.put, List.setIfInBounds_toArray, List.set_cons_zero, List.set_cons_succ]
      refine wpAnyU_take (i := 6) (oi := { dst := some 35, op := _, type := _, pos := _, after := _, guard := none }) (v := .slice (some ⟨tb, to, none⟩) t.n t.c) rfl (by kernel_rfl) (by kernel_rfl) (by kernel_rfl) (by kernel_rfl) (fun _ _ _ h => h) (yields_take rfl (fun w' hw => by obtain ⟨h1, h2, h3, h4⟩ := hw.const; go_simp)) hS0.out ?_
      simp only [Act.put, List.setIfInBounds_toArray, List.set_cons_zero, List.set_cons_succ]
      refine wpAnyU_take (i := 7) (oi := { dst := some 36, op := _, type := _, pos := _, after := _, guard := none }) (v := .int .i64 (a : Int)) rfl (by kernel_rfl) (by kernel_rfl) (by kernel_rfl) (by kernel_rfl) (fun _ _ _ h => h) (yields_take rfl (fun w' hw => by obtain ⟨h1, h2, h3, h4⟩ := hw.const; go_simp)) hS0.out ?_
      simp only [Act.put, List.setIfInBounds_toArray, List.set_cons_zero, List.set_cons_succ]
      refine wpAnyU_take (i := 8) (oi := { dst := some 37, op := _, type := _, pos := _, after := _, guard := none }) (v := .pointer (some ⟨tb, to + a, none⟩)) rfl (by kernel_rfl) (by kernel_rfl) (by kernel_rfl) (by kernel_rfl) (fun _ _ _ h => h) (yields_take rfl (fun w' hw => by obtain ⟨h1, h2, h3, h4⟩ := hw.const; go_simp)) hS0.out ?_
      simp only [Act.put, List.setIfInBounds_toArray, List.set_cons_zero, List.set_cons_succ]
      refine wpAnyU_take (i := 9) (oi := { dst := some 38, op := _, type := _, pos := _, after := _, guard := none }) (v := .int .i64 (KJ : Int)) rfl (by kernel_rfl) (by kernel_rfl) (by kernel_rfl) (by kernel_rfl) (fun _ _ _ h => h) (yields_take rfl (fun w' hw => by obtain ⟨h1, h2, h3, h4⟩ := hw.const; go_simp)) hS0.out ?_
      simp only [Act.put, List.setIfInBounds_toArray, List.set_cons_zero, List.set_cons_succ]
      refine wpAnyU_take (i := 10) (oi := { dst := some 39, op := _, type := _, pos := _, after := _, guard := none }) (v := .int .i64 (x2 : Int)) rfl (by kernel_rfl) (by kernel_rfl) (by kernel_rfl) (by kernel_rfl) (fun _ _ _ h => h) (yields_take rfl (fun w' hw => by obtain ⟨h1, h2, h3, h4⟩ := hw.const; go_simp)) hS0.out ?_
      simp only [Act.put, List.setIfInBounds_toArray, List.set_cons_zero, List.set_cons_succ]
      refine wpAnyU_take (i := 11) (oi := { dst := some 8, op := _, type := _, pos := _, after := _, guard := none }) (v := .int .i64 (x2 : Int)) rfl (by kernel_rfl) (by kernel_rfl) (by kernel_rfl) (by kernel_rfl) (fun _ _ _ h => h) (yields_take rfl (fun w' hw => by obtain ⟨h1, h2, h3, h4⟩ := hw.const; go_simp)) hS0.out ?_
      simp only [Act.put, List.setIfInBounds_toArray, List.set_cons_zero, List.set_cons_succ]
      refine wpAnyU_done (by kernel_rfl) ?_ _
      clear hS0
      have HB2 := hide hd2
      clear hd1 hd2
      go_wp2
      go_roundw
      case rel => exact ⟨j + 1, x2, hjz, by go_num, rfl, hx3, HX2, HB2⟩
      case measure => simp [intOf]; omega
    · have c1 : ¬ ((KJ : Int) ≤ (x : Int)) := by omega
      have c2 : (x : Int) < (KJ : Int) := by omega
      have hS0 : Hid (wr.drew.cell? ⟨p, 0, none⟩ = some (.slice (some ⟨g, 0, none⟩) z z) ∧ wr.drew.cell? ⟨g, j * 2, none⟩ = some (.slice (some ⟨tb, to, none⟩) t.n t.c) ∧ wr.drew.cell? ⟨r, 0, none⟩ = some (.int .i64 (a : Int)) ∧ wr.drew.cell? ⟨tb, to + a, none⟩ = some (.int .i64 (KJ : Int))) := hide (by obtain ⟨_, f1, f2, f3, f4, _, _⟩ := HF.out _ hd1; exact ⟨f1, f2, f3, f4⟩)
      refine wp_region_U (fun _ v => v.cell? ⟨p, 0, none⟩ = some (.slice (some ⟨g, 0, none⟩) z z) ∧ v.cell? ⟨g, j * 2, none⟩ = some (.slice (some ⟨tb, to, none⟩) t.n t.c) ∧ v.cell? ⟨r, 0, none⟩ = some (.int .i64 (a : Int)) ∧ v.cell? ⟨tb, to + a, none⟩ = some (.int .i64 (KJ : Int))) 99 (by kernel_rfl) ?_
      refine wpAnyU_take (i := 0) (oi := { dst := some 18, op := _, type := _, pos := _, after := _, guard := none }) (v := .int .i64 (x : Int)) rfl (by kernel_rfl) (by kernel_rfl) (by kernel_rfl) (by kernel_rfl) (fun _ _ _ h => h) (yields_take rfl (fun w' hw => by obtain ⟨h1, h2, h3, h4⟩ := hw.const; go_simp)) hS0.out ?_
      simp only [Act.put, List.setIfInBounds_toArray, List.set_cons_zero, List.set_cons_succ]
      refine wpAnyU_take (i := 1) (oi := { dst := some 19, op := _, type := _, pos := _, after := _, guard := none }) (v := .slice (some ⟨g, 0, none⟩) z z) rfl (by kernel_rfl) (by kernel_rfl) (by kernel_rfl) (by kernel_rfl) (fun _ _ _ h => h) (yields_take rfl (fun w' hw => by obtain ⟨h1, h2, h3, h4⟩ := hw.const; go_simp)) hS0.out ?_
      simp only [Act.put, List.setIfInBounds_toArray, List.set_cons_zero, List.set_cons_succ]
      refine wpAnyU_take (i := 2) (oi := { dst := some 20, op := _, type := _, pos := _, after := _, guard := none }) (v := .int .i64 (j : Int)) rfl (by kernel_rfl) (by kernel_rfl) (by kernel_rfl) (by kernel_rfl) (fun _ _ _ h => h) (yields_take rfl (fun w' hw => by obtain ⟨h1, h2, h3, h4⟩ := hw.const; go_simp)) hS0.out ?_
      simp only [Act.put, List.setIfInBounds_toArray, List.set_cons_zero, List.set_cons_succ]
      refine wpAnyU_take (i := 3) (oi := { dst := some 21, op := _, type := _, pos := _, after := _, guard := none }) (v := .pointer (some ⟨g, j * 2, none⟩)) rfl (by kernel_rfl) (by kernel_rfl) (by kernel_rfl) (by kernel_rfl) (fun _ _ _ h => h) (yields_take rfl (fun w' hw => by obtain ⟨h1, h2, h3, h4⟩ := hw.const; go_simp)) hS0.out ?_
      simp only [Act.put, List.setIfInBounds_toArray, List.set_cons_zero, List.set_cons_succ]
      refine wpAnyU_take (i := 4) (oi := { dst := some 22, op := _, type := _, pos := _, after := _, guard := none }) (v := .pointer (some ⟨g, j * 2, none⟩)) rfl (by kernel_rfl) (by kernel_rfl) (by kernel_rfl) (by kernel_rfl) (fun _ _ _ h => h) (yields_take rfl (fun w' hw => by obtain ⟨h1, h2, h3, h4⟩ := hw.const; go_simp)) hS0.out ?_
      simp only [Act.put, List.setIfInBounds_toArray, List.set_cons_zero, List.set_cons_succ]
      refine wpAnyU_take (i := 5) (oi := { dst := some 23, op := _, type := _, pos := _, after := _, guard := none }) (v := .pointer (some ⟨g, j * 2, none⟩)) rfl (by kernel_rfl) (by kernel_rfl) (by kernel_rfl) (by kernel_rfl) (fun _ _ _ h => h) (yields_take rfl (fun w' hw => by obtain ⟨h1, h2, h3, h4⟩ := hw.const; go_simp)) hS0.out ?_
      simp only [Act.put, List.setIfInBounds_toArray, List.set_cons_zero, List.set_cons_succ]
      refine wpAnyU_take (i := 6) (oi := { dst := some 24, op := _, type := _, pos := _, after := _, guard := none }) (v := .slice (some ⟨tb, to, none⟩) t.n t.c) rfl (by kernel_rfl) (by kernel_rfl) (by kernel_rfl) (by kernel_rfl) (fun _ _ _ h => h) (yields_take rfl (fun w' hw => by obtain ⟨h1, h2, h3, h4⟩ := hw.const; go_simp)) hS0.out ?_
      simp only [Act.put, List.setIfInBounds_toArray, List.set_cons_zero, List.set_cons_succ]
      refine wpAnyU_take (i := 7) (oi := { dst := some 25, op := _, type := _, pos := _, after := _, guard := none }) (v := .int .i64 (a : Int)) rfl (by kernel_rfl) (by kernel_rfl) (by kernel_rfl) (by kernel_rfl) (fun _ _ _ h => h) (yields_take rfl (fun w' hw => by obtain ⟨h1, h2, h3, h4⟩ := hw.const; go_simp)) hS0.out ?_
      simp only [Act.put, List.setIfInBounds_toArray, List.set_cons_zero, List.set_cons_succ]
      refine wpAnyU_take (i := 8) (oi := { dst := some 26, op := _, type := _, pos := _, after := _, guard := none }) (v := .pointer (some ⟨tb, to + a, none⟩)) rfl (by kernel_rfl) (by kernel_rfl) (by kernel_rfl) (by kernel_rfl) (fun _ _ _ h => h) (yields_take rfl (fun w' hw => by obtain ⟨h1, h2, h3, h4⟩ := hw.const; go_simp)) hS0.out ?_
      simp only [Act.put, List.setIfInBounds_toArray, List.set_cons_zero, List.set_cons_succ]
      refine wpAnyU_take (i := 9) (oi := { dst := some 27, op := _, type := _, pos := _, after := _, guard := none }) (v := .int .i64 (KJ : Int)) rfl (by kernel_rfl) (by kernel_rfl) (by kernel_rfl) (by kernel_rfl) (fun _ _ _ h => h) (yields_take rfl (fun w' hw => by obtain ⟨h1, h2, h3, h4⟩ := hw.const; go_simp)) hS0.out ?_
      simp only [Act.put, List.setIfInBounds_toArray, List.set_cons_zero, List.set_cons_succ]
      refine wpAnyU_take (i := 10) (oi := { dst := some 28, op := _, type := _, pos := _, after := _, guard := none }) (v := .bool false) rfl (by kernel_rfl) (by kernel_rfl) (by kernel_rfl) (by kernel_rfl) (fun _ _ _ h => h) (yields_take rfl (fun w' hw => by obtain ⟨h1, h2, h3, h4⟩ := hw.const; go_simp)) hS0.out ?_
      simp only [Act.put, List.setIfInBounds_toArray, List.set_cons_zero, List.set_cons_succ]
      refine wpAnyU_done (by kernel_rfl) ?_ _
      clear hS0
      have hd2 : Below w.heap.size w wr.drew.drew := below_drewN hd1 1
      have hlm := HLM.out x (by rw [HKJ.out]; exact c2)
      rw [HKJ.out, HSJ.out, Int.toNat_natCast, Int.toNat_natCast] at hlm
      obtain ⟨rs, hrs⟩ : ∃ y, y = (bf * KJ + x) * SJ + bh := ⟨_, rfl⟩
      obtain ⟨gs, f1, f2, f3, f4, f5, f6⟩ := HF.out _ hd2
      have HCL : Hid (Calls Try.prog 88 #[.agg #[.slice (some ⟨tb, to, none⟩) t.n t.c, .slice (some ⟨gs, 0, none⟩) t.n t.n], .int .i64 (a : Int), .int .i64 (bf : Int), .int .i64 (x : Int), .int .i64 (bh : Int)] wr.drew.drew fun e' w' => e' = .returned (.int .i64 (rs : Int)) ∧ Below wr.drew.drew.heap.size wr.drew.drew w') := hide (by
        rw [hrs]
        have h1 := HT1.out.below hd2
        rw [HTA.out] at h1
        exact lindex_ok _ _ t.n t.c t.n t.n t.s (strL t.s) a KJ SJ bf x bh _ h1 f6 (by omega) (by omega) HKJ.out HSJ.out hlm hSJ1)
      have HRS := hide hrs
      clear hrs hlm
      go_wp2
      have hS0 : Hid (wr.drew.drew.cell? ⟨p, 0, none⟩ = some (.slice (some ⟨g, 0, none⟩) z z) ∧ wr.drew.drew.cell? ⟨g, j * 2, none⟩ = some (.slice (some ⟨tb, to, none⟩) t.n t.c) ∧ wr.drew.drew.cell? ⟨r, 0, none⟩ = some (.int .i64 (a : Int)) ∧ wr.drew.drew.cell? ⟨g, j * 2 + 1, none⟩ = some (.slice (some ⟨gs, 0, none⟩) t.n t.n)) := hide (⟨f1, f2, f3, f5⟩)
      refine wp_region_U (fun _ v => v.cell? ⟨p, 0, none⟩ = some (.slice (some ⟨g, 0, none⟩) z z) ∧ v.cell? ⟨g, j * 2, none⟩ = some (.slice (some ⟨tb, to, none⟩) t.n t.c) ∧ v.cell? ⟨r, 0, none⟩ = some (.int .i64 (a : Int)) ∧ v.cell? ⟨g, j * 2 + 1, none⟩ = some (.slice (some ⟨gs, 0, none⟩) t.n t.n)) 99 (by kernel_rfl) ?_
      refine wpAnyU_take (i := 0) (oi := { dst := some 42, op := _, type := _, pos := _, after := _, guard := none }) (v := .int .i64 (j : Int)) rfl (by kernel_rfl) (by kernel_rfl) (by kernel_rfl) (by kernel_rfl) (fun _ _ _ h => h) (yields_take rfl (fun w' hw => by obtain ⟨h1, h2, h3, h4⟩ := hw.const; go_simp)) hS0.out ?_
      simp only [Act.put, List.setIfInBounds_toArray, List.set_cons_zero, List.set_cons_succ]
      refine wpAnyU_take (i := 1) (oi := { dst := some 43, op := _, type := _, pos := _, after := _, guard := none }) (v := .slice (some ⟨g, 0, none⟩) z z) rfl (by kernel_rfl) (by kernel_rfl) (by kernel_rfl) (by kernel_rfl) (fun _ _ _ h => h) (yields_take rfl (fun w' hw => by obtain ⟨h1, h2, h3, h4⟩ := hw.const; go_simp)) hS0.out ?_
      simp only [Act.put, List.setIfInBounds_toArray, List.set_cons_zero, List.set_cons_succ]
      refine wpAnyU_take (i := 2) (oi := { dst := some 44, op := _, type := _, pos := _, after := _, guard := none }) (v := .int .i64 (j : Int)) rfl (by kernel_rfl) (by kernel_rfl) (by kernel_rfl) (by kernel_rfl) (fun _ _ _ h => h) (yields_take rfl (fun w' hw => by obtain ⟨h1, h2, h3, h4⟩ := hw.const; go_simp)) hS0.out ?_
      simp only [Act.put, List.setIfInBounds_toArray, List.set_cons_zero, List.set_cons_succ]
      refine wpAnyU_take (i := 3) (oi := { dst := some 45, op := _, type := _, pos := _, after := _, guard := none }) (v := .pointer (some ⟨g, j * 2, none⟩)) rfl (by kernel_rfl) (by kernel_rfl) (by kernel_rfl) (by kernel_rfl) (fun _ _ _ h => h) (yields_take rfl (fun w' hw => by obtain ⟨h1, h2, h3, h4⟩ := hw.const; go_simp)) hS0.out ?_
      simp only [Act.put, List.setIfInBounds_toArray, List.set_cons_zero, List.set_cons_succ]
      refine wpAnyU_take (i := 4) (oi := { dst := some 46, op := _, type := _, pos := _, after := _, guard := none }) (v := .agg #[.slice (some ⟨tb, to, none⟩) t.n t.c, .slice (some ⟨gs, 0, none⟩) t.n t.n]) rfl (by kernel_rfl) (by kernel_rfl) (by kernel_rfl) (by kernel_rfl) (fun _ _ _ h => h) (yields_take rfl (fun w' hw => by obtain ⟨h1, h2, h3, h4⟩ := hw.const; go_simp)) hS0.out ?_
      simp only [Act.put, List.setIfInBounds_toArray, List.set_cons_zero, List.set_cons_succ]
      refine wpAnyU_take (i := 5) (oi := { dst := some 47, op := _, type := _, pos := _, after := _, guard := none }) (v := .int .i64 (a : Int)) rfl (by kernel_rfl) (by kernel_rfl) (by kernel_rfl) (by kernel_rfl) (fun _ _ _ h => h) (yields_take rfl (fun w' hw => by obtain ⟨h1, h2, h3, h4⟩ := hw.const; go_simp)) hS0.out ?_
      simp only [Act.put, List.setIfInBounds_toArray, List.set_cons_zero, List.set_cons_succ]
      refine wpAnyU_take (i := 6) (oi := { dst := some 48, op := _, type := _, pos := _, after := _, guard := none }) (v := .int .i64 (bf : Int)) rfl (by kernel_rfl) (by kernel_rfl) (by kernel_rfl) (by kernel_rfl) (fun _ _ _ h => h) (yields_take rfl (fun w' hw => by obtain ⟨h1, h2, h3, h4⟩ := hw.const; go_simp)) hS0.out ?_
      simp only [Act.put, List.setIfInBounds_toArray, List.set_cons_zero, List.set_cons_succ]
      refine wpAnyU_take (i := 7) (oi := { dst := some 49, op := _, type := _, pos := _, after := _, guard := none }) (v := .int .i64 (x : Int)) rfl (by kernel_rfl) (by kernel_rfl) (by kernel_rfl) (by kernel_rfl) (fun _ _ _ h => h) (yields_take rfl (fun w' hw => by obtain ⟨h1, h2, h3, h4⟩ := hw.const; go_simp)) hS0.out ?_
      simp only [Act.put, List.setIfInBounds_toArray, List.set_cons_zero, List.set_cons_succ]
      refine wpAnyU_take (i := 8) (oi := { dst := some 50, op := _, type := _, pos := _, after := _, guard := none }) (v := .int .i64 (bh : Int)) rfl (by kernel_rfl) (by kernel_rfl) (by kernel_rfl) (by kernel_rfl) (fun _ _ _ h => h) (yields_take rfl (fun w' hw => by obtain ⟨h1, h2, h3, h4⟩ := hw.const; go_simp)) hS0.out ?_
      simp only [Act.put, List.setIfInBounds_toArray, List.set_cons_zero, List.set_cons_succ]
      refine wpAnyU_one (i := 9) (by kernel_rfl) rfl ?_
      intro K hK
      go_simp
      refine Calls.mono (HCL.out) ?_
      rintro e w9 ⟨rfl, hb⟩
      dsimp only
      have hS1 : Hid (w9.cell? ⟨p, 0, none⟩ = some (.slice (some ⟨g, 0, none⟩) z z) ∧ w9.cell? ⟨g, j * 2, none⟩ = some (.slice (some ⟨tb, to, none⟩) t.n t.c) ∧ w9.cell? ⟨r, 0, none⟩ = some (.int .i64 (a : Int)) ∧ w9.cell? ⟨g, j * 2 + 1, none⟩ = some (.slice (some ⟨gs, 0, none⟩) t.n t.n)) := hide (⟨(World.cell?_of_block (hb.block _ (lt_cell9 f1))).trans f1, (World.cell?_of_block (hb.block _ (lt_cell9 f2))).trans f2, (World.cell?_of_block (hb.block _ (lt_cell9 f3))).trans f3, (World.cell?_of_block (hb.block _ (lt_cell9 f5))).trans f5⟩)
      refine hK.out _ _ hS1.out (fun _ => ?_)
      clear hK K hS0
      refine wpAnyU_take (i := 10) (oi := { dst := some 5, op := _, type := _, pos := _, after := _, guard := none }) (v := .int .i64 (j : Int)) rfl (by kernel_rfl) (by kernel_rfl) (by kernel_rfl) (by kernel_rfl) (fun _ _ _ h => h) (yields_take rfl (fun w' hw => by obtain ⟨h1, h2, h3, h4⟩ := hw.const; go_simp)) hS1.out ?_
      simp only [Act.put, List.setIfInBounds_toArray, List.set_cons_zero, List.set_cons_succ]
      refine wpAnyU_take (i := 11) (oi := { dst := some 6, op := _, type := _, pos := _, after := _, guard := none }) (v := .int .i64 (rs : Int)) rfl (by kernel_rfl) (by kernel_rfl) (by kernel_rfl) (by kernel_rfl) (fun _ _ _ h => h) (yields_take rfl (fun w' hw => by obtain ⟨h1, h2, h3, h4⟩ := hw.const; go_simp)) hS1.out ?_
      simp only [Act.put, List.setIfInBounds_toArray, List.set_cons_zero, List.set_cons_succ]
      refine wpAnyU_done (by kernel_rfl) ?_ _
      clear hS1
      have HB9 := hide (below_nx6 hd2 hb)
      clear hd1 hd2 hb f1 f2 f3 f4 f5 f6
      go_wp2
      go_ret2
      exact ⟨j, x, t, HTT.out, by rw [HKJ.out]; exact c2, HX.out, by rw [HKJ.out, HSJ.out, Int.toNat_natCast, Int.toNat_natCast, ← HRS.out]; rfl, HB9.out⟩

end Go.Proofs.Ytomhbhhfbbdilaa
