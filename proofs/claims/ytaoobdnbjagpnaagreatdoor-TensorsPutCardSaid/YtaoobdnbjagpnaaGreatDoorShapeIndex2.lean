/- Contracts of Index of package shapes: one for each way an answer comes out; nothing that was there is changed. -/
import Derived.Test.YtaoobdnbjagpnaaGreatDoorShapeIndex
namespace Go.Proofs.YtaoobdnbjagpnaaGreatDoor
open Go.RowKit
set_option linter.unusedVariables false
set_option linter.unusedSimpArgs false

set_option maxRecDepth 100000 in
set_option maxHeartbeats 1000000 in
theorem index_err (A B : Option Addr) (n c m cB : Nat) (xs ys : List Int) (w : World) (hA : Lies w A n (xs.map (Value.int .i64))) (hB : Lies w B m (ys.map (Value.int .i64))) (hn : n ≤ 281474976710656) (hm : m ≤ 281474976710656)
    (hno : okAt xs ys = false) :
    Calls Tryz.prog 32 #[.slice A n c, .slice B m cB] w fun e w' => e = .returned (.tuple #[.int .i64 0, .int .i64 1]) ∧ Below w.heap.size w w' := by
  have HB0 := hide ((Below.refl w.heap.size w).alloc (Nat.le_refl _) (.cells #[.slice B m cB] 22))
  have HA := hide (hA.below HB0.out)
  have HB := hide (hB.below HB0.out)
  have hx0 : Box1 (w.alloc (.cells #[.slice B m cB] 22)) w.heap.size 22 (.slice B m cB) := Box1.new _ _ _
  have HX0 := hide hx0
  clear hA hB hx0
  go_enter Tryz.func32, Tryz.ntmps32
  go_wp2_with fail
  refine Calls.mono (check_any A n c xs _ HA.out hn) ?_
  rintro e w1 ⟨rfl, hb1⟩
  have HB1 := hide (HB0.out.trans (hb1.mono (by simp)))
  have hc1 := (HX0.out.below hb1 (by simp)).cell
  have HA1 := hide (HA.out.below hb1)
  have HY1 := hide (HB.out.below hb1)
  have hs1 := HB1.out.size
  clear hb1 HA HB HX0
  by_cases hs : 0 < sizeI xs
  · rw [decide_eq_true hs]
    have HI : Hid ((decide (ys.length = xs.length) && allIn xs ys) = false) := hide (by
      have h := hno
      unfold okAt at h
      rwa [decide_eq_true hs, Bool.true_and] at h)
    clear hno hs
    go_wp2_with fail
    refine Calls.mono (inside_any A B n c m cB xs ys w1 HA1.out HY1.out hn hm) ?_
    rintro e w2 ⟨rfl, hb2⟩
    rw [HI.out]
    have HB2 := hide (HB1.out.trans (hb2.mono hs1))
    clear hb2
    go_wp2
    go_ret2
    exact ⟨rfl, HB2.out⟩
  · rw [decide_eq_false hs]
    clear hno hs
    go_wp2
    go_ret2
    exact ⟨rfl, HB1.out⟩

set_option maxRecDepth 100000 in
set_option maxHeartbeats 1000000 in
theorem index_ok (A B : Option Addr) (n c m cB : Nat) (xs ys : List Int) (w : World) (hA : Lies w A n (xs.map (Value.int .i64))) (hB : Lies w B m (ys.map (Value.int .i64))) (hn : n ≤ 281474976710656) (hm : m ≤ 281474976710656)
    (hyes : okAt xs ys = true) :
    Calls Tryz.prog 32 #[.slice A n c, .slice B m cB] w fun e w' => e = .returned (.tuple #[.int .i64 (valI xs ys), .int .i64 0]) ∧ Below w.heap.size w w' := by
  have hl1 : xs.length = n := by have := hA.len; simpa using this
  have hl2 : ys.length = m := by have := hB.len; simpa using this
  unfold okAt at hyes
  simp only [Bool.and_eq_true, decide_eq_true_eq] at hyes
  obtain ⟨hsz, hll, hin⟩ := hyes
  have hdim := size_dims hsz
  obtain ⟨hn1, hn4, hsp⟩ := sizeI_pos hsz
  have hBlt : ∀ b o, B = some ⟨b, o, none⟩ → 0 < m → b < w.heap.size := fun b o e hm0 => by
    obtain ⟨b', o', e', hlt, _⟩ := hB.cells hm0
    rw [e] at e'
    injection e' with e'
    injection e' with e1 e2
    omega
  have HB0 := hide ((Below.refl w.heap.size w).alloc (Nat.le_refl _) (.cells #[.slice B m cB] 22))
  have HA0 := hide hA
  have HY0 := hide hB
  have HA := hide (hA.below HB0.out)
  have HB := hide (hB.below HB0.out)
  have hx0 : Box1 (w.alloc (.cells #[.slice B m cB] 22)) w.heap.size 22 (.slice B m cB) := Box1.new _ _ _
  have HX0 := hide hx0
  have HI : Hid ((decide (ys.length = xs.length) && allIn xs ys) = true) := hide (by simp [hll, hin])
  have HSZ := hide hsz
  have HDIM := hide hdim
  have HIN := hide hin
  have HL : Hid (xs.length = n ∧ ys.length = m ∧ m = n ∧ 1 ≤ n ∧ n ≤ 4) := hide (by omega)
  have HLT := hide hBlt
  clear hA hB hx0 hsz hll hin hdim hsp hl1 hl2 hn1 hn4 hBlt
  go_enter Tryz.func32, Tryz.ntmps32
  go_wp2_with fail
  refine Calls.mono (check_any A n c xs _ HA.out hn) ?_
  rintro e w1 ⟨rfl, hb1⟩
  rw [decide_eq_true HSZ.out]
  have HB1 := hide (HB0.out.trans (hb1.mono (by simp)))
  have hx1 := HX0.out.below hb1 (by simp)
  have hc1 := hx1.cell
  have HX1 := hide hx1
  have HA1 := hide (HA.out.below hb1)
  have HY1 := hide (HB.out.below hb1)
  have hs1 := HB1.out.size
  have hlt1 := hx1.lt
  clear hb1 HA HB HX0 hx1
  go_wp2_with fail
  refine Calls.mono (inside_any A B n c m cB xs ys w1 HA1.out HY1.out hn hm) ?_
  rintro e w2 ⟨rfl, hb2⟩
  rw [HI.out]
  have HB2 := hide (HB1.out.trans (hb2.mono hs1))
  have HX2 := hide (HX1.out.below hb2 hlt1)
  have hlt2 : w.heap.size < w2.heap.size := Nat.lt_of_lt_of_le hlt1 hb2.size
  have hs2 := HB2.out.size
  clear hb2 hc1 HX1 HA1 HY1 HB1 hs1 hlt1 HB0
  have HV := hide (visit_index (fun k wr => Box1 wr w2.heap.size 3 (.int .i64 (valI (xs.drop k) (ys.drop k))) ∧ Box1 wr (w2.heap.size + 1) 3 (.int .i64 (prodZ (xs.drop k))) ∧ Box1 wr w.heap.size 22 (.slice B m cB) ∧ Below w.heap.size w wr) A n c xs ⟨w2.heap.size, 0, none⟩ ⟨w2.heap.size + 1, 0, none⟩ ⟨w.heap.size, 0, none⟩ ((w2.alloc (.cells #[.int .i64 0] 3)).alloc (.cells #[.int .i64 1] 3)) hn
      (fun k wr hk hI => by
        obtain ⟨h1, h2, h3, h4⟩ := hI
        obtain ⟨l1, l2, l3, l4, l5⟩ := HL.out
        have hd := HDIM.out.at (k := k) (by omega)
        have hy := allIn_at k HIN.out (by omega) (by omega)
        have hp := prodZ_small (l := xs.drop (k + 1)) (by rw [List.length_drop]; omega)
        have hp1 := (HDIM.out.drop (k + 1)).pos
        have hv := valI_bound (HDIM.out.drop (k + 1)) (allIn_drop_of (k + 1) HIN.out)
        refine Calls.mono (index_step w2.heap.size (w2.heap.size + 1) w.heap.size _ _ ys B m cB k (xs.getD k 0) wr h1 h2 h3 (by omega) (by omega) (by omega) (HY0.out.below h4) (fun b o e => by have := HLT.out b o e (by omega); omega) (by omega) hm hv.1 (by omega) (by omega) hp hy.1 (by omega) (by omega) hd.2.1) ?_
        rintro e w' ⟨rfl, q, rfl⟩
        have e1 := valI_drop (xs := xs) (ys := ys) (k := k) (by omega) (by omega)
        have e2 := prodZ_drop (xs := xs) (k := k) (by omega)
        rw [hd.2.2] at e2
        rw [← e1, e2]
        have s1 := (h1.set (.int .i64 (valI (xs.drop k) (ys.drop k)))).other (a := ⟨w2.heap.size + 1, 0, none⟩) (by simp) (.int .i64 (prodZ (xs.drop k)))
        have s2 := (h2.other (a := ⟨w2.heap.size, 0, none⟩) (by simp) (.int .i64 (valI (xs.drop k) (ys.drop k)))).set (.int .i64 (prodZ (xs.drop k)))
        have s3 := (h3.other (a := ⟨w2.heap.size, 0, none⟩) (by simp; omega) (.int .i64 (valI (xs.drop k) (ys.drop k)))).other (a := ⟨w2.heap.size + 1, 0, none⟩) (by simp; omega) (.int .i64 (prodZ (xs.drop k)))
        refine ⟨rfl, s1, s2, s3, below_drewN ((h4.setCell hs2 _).setCell (Nat.le_succ_of_le hs2) _) q⟩)
      (fun k wr hI => HA0.out.below hI.2.2.2)
      (by
        obtain ⟨l1, l2, l3, l4, l5⟩ := HL.out
        rw [List.drop_eq_nil_of_le (by omega), List.drop_eq_nil_of_le (by omega)]
        refine ⟨(Box1.new w2 (.int .i64 0) 3).alloc _, ?_, (HX2.out.alloc _).alloc _, (HB2.out.alloc hs2 _).alloc (by simp; omega) _⟩
        have := Box1.new (w2.alloc (.cells #[.int .i64 0] 3)) (.int .i64 1) 3
        simpa [prodZ] using this))
  go_wp2_with fail
  refine Calls.mono HV.out ?_
  rintro e w3 ⟨rfl, hv, _, _, hbel⟩
  rw [List.drop_zero, List.drop_zero] at hv
  have hc := hv.cell
  have HBL := hide hbel
  clear hv hbel HV
  go_wp2
  go_ret2
  exact ⟨rfl, HBL.out⟩
end Go.Proofs.YtaoobdnbjagpnaaGreatDoor
