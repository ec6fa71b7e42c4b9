/- Contracts of the statements' own helpers on tensors: Of, TensorSize, TwinTensor. -/
import Derived.Test.YtlalfjlcgabnnaaGreatDoorTen4
import Derived.Test.YtlalfjlcgabnnaaGreatDoorTen9
namespace Go.Proofs.YtlalfjlcgabnnaaGreatDoor
open Go.RowKit
set_option linter.unusedVariables false
set_option linter.unusedSimpArgs false
set_option maxRecDepth 20000

/-- How great a tensor counts. -/
def tsz (n m : Nat) : Nat := if 1 + n ≤ 1048576 then 1 + n + m else 1 + n

theorem tsize_any (A B : Option Addr) (n c m d : Nat) (w : World) (hn : n ≤ 281474976710656) (hm : m ≤ 281474976710656) :
    Calls Tryz.prog 5 #[tenV A n c B m d] w fun e w' => e = .returned (.int .i64 (tsz n m)) ∧ Below w.heap.size w w' := by
  have HX := hide (BoxT.new w (.slice A n c) (.slice B m d))
  have HB := hide ((Below.refl w.heap.size w).alloc (Nat.le_refl _) (.cells #[.slice A n c, .slice B m d] 25))
  have h0 := HX.out.c0
  have h1 := HX.out.c1
  by_cases hb : 1 + n ≤ 1048576
  · have hb' : (1 : Int) + (n : Int) ≤ 1048576 := by omega
    have HT : Hid ((tsz n m : Int) = 1 + (n : Int) + (m : Int)) := hide (by rw [tsz, if_pos hb]; omega)
    go_enter Tryz.func5, Tryz.ntmps5
    go_wp2
    go_ret
    exact ⟨by rw [HT.out]; rfl, HB.out⟩
  · have hb' : ¬ (1 : Int) + (n : Int) ≤ 1048576 := by omega
    have HT : Hid ((tsz n m : Int) = 1 + (n : Int)) := hide (by rw [tsz, if_neg hb]; omega)
    go_enter Tryz.func5, Tryz.ntmps5
    go_wp2
    go_ret
    exact ⟨by rw [HT.out]; rfl, HB.out⟩

theorem BoxT.set2 {w : World} {p : Nat} {v u : Value} (h : BoxT w p v u) (x y : Value) : BoxT ((w.setCell ⟨p, 0, none⟩ x).setCell ⟨p, 1, none⟩ y) p x y := by
  have h0 : w.heap[p]? = some (.cells #[v, u] 25 (0, 0)) := h
  have e1 := setCell_eq_setRow w p 0 _ _ (0, 0) x h0
  have h1 := setRow_heap w p _ (#[v, u].setIfInBounds 0 x) _ _ h0
  have e2 := setCell_eq_setRow (w.setRow p (#[v, u].setIfInBounds 0 x)) p 1 _ _ (0, 0) y h1
  have h2 := setRow_heap (w.setRow p (#[v, u].setIfInBounds 0 x)) p _ ((#[v, u].setIfInBounds 0 x).setIfInBounds 1 y) _ _ h1
  rw [e1, e2]
  exact h2

theorem BoxT.f0 {w : World} {p : Nat} {v u : Value} (h : BoxT w p v u) (j : Nat) : w.frozen? ⟨p, j, none⟩ = false := by
  have h' : w.heap[p]? = some (.cells #[v, u] 25 (0, 0)) := h
  simp [World.frozen?, h']

set_option maxHeartbeats 1000000 in
/-- A tensor's copy: its lists in memory of their own, each with a mark behind it. -/
theorem twinT_any (A B : Option Addr) (n c m d : Nat) (s l : List Int) (w : World) (hA : Lies w A n (s.map (Value.int .i64))) (hB : Lies w B m (l.map (Value.int .i32))) (hn : n ≤ 1073741824) (hm : m ≤ 1073741824) :
    Calls Tryz.prog 6 #[tenV A n c B m d] w fun e w' => ∃ g1 g2, e = .returned (tenV (some ⟨g1, 0, none⟩) n (n + 1) (some ⟨g2, 0, none⟩) m (m + 1)) ∧
      w'.ownsRow w.heap.size 3 1 (.slice (some ⟨g1, 0, none⟩) (n + 1) (n + 1)) (n + 1) (s.map (Value.int .i64) ++ [.int .i64 77]) ∧ w'.ownsRow w.heap.size 21 1 (.slice (some ⟨g2, 0, none⟩) (m + 1) (m + 1)) (m + 1) (l.map (Value.int .i32) ++ [.int .i32 77]) ∧ g1 ≠ g2 ∧ Below w.heap.size w w' := by
  have HX := hide (BoxT.new w (.slice A n c) (.slice B m d))
  have HR := hide (BoxT.new (w.alloc (.cells #[.slice A n c, .slice B m d] 25)) (.slice none 0 0) (.slice none 0 0))
  have HB0 := hide (((Below.refl w.heap.size w).alloc (Nat.le_refl _) (.cells #[.slice A n c, .slice B m d] 25)).alloc (by simp) (.cells #[.slice none 0 0, .slice none 0 0] 25))
  have HA := hide hA
  have HB := hide hB
  clear hA hB
  obtain ⟨W, hW⟩ : ∃ W, W = (w.alloc (.cells #[.slice A n c, .slice B m d] 25)).alloc (.cells #[.slice none 0 0, .slice none 0 0] 25) := ⟨_, rfl⟩
  have HXW : Hid (BoxT W w.heap.size (.slice A n c) (.slice B m d)) := hide (by rw [hW]; exact HX.out.alloc _)
  have HRW : Hid (BoxT W (w.heap.size + 1) (.slice none 0 0) (.slice none 0 0)) := hide (by rw [hW]; have h := HR.out; rwa [World.size_alloc] at h)
  have HBW : Hid (Below w.heap.size w W) := hide (by rw [hW]; exact HB0.out)
  have hsW : W.heap.size = w.heap.size + 2 := by rw [hW]; simp
  have hW' := hW.symm
  clear hW
  have x0 := HXW.out.c0
  have x1 := HXW.out.c1
  have hltX : w.heap.size < W.heap.size := by omega
  go_enter Tryz.func6, Tryz.ntmps6
  go_wp2
  have r0 := HRW.out.c0
  have r1 := HRW.out.c1
  have rf0 := HRW.out.f0 0
  have rf1 := HRW.out.f0 1
  have HXR : Hid (∀ w', Below W.heap.size W w' → w'.cell? ⟨w.heap.size, 0, none⟩ = some (.slice A n c) ∧ w'.cell? ⟨w.heap.size, 1, none⟩ = some (.slice B m d) ∧ w'.cell? ⟨w.heap.size + 1, 0, none⟩ = some (.slice none 0 0) ∧ w'.cell? ⟨w.heap.size + 1, 1, none⟩ = some (.slice none 0 0) ∧ w'.frozen? ⟨w.heap.size + 1, 0, none⟩ = false ∧ w'.frozen? ⟨w.heap.size + 1, 1, none⟩ = false) := hide (fun w' hb =>
    ⟨(HXW.out.kept hb).c0, (HXW.out.kept hb).c1, (HRW.out.kept hb).c0, (HRW.out.kept hb).c1, (HRW.out.kept hb).f0 0, (HRW.out.kept hb).f0 1⟩)
  go_region_held3 (fun w' => w'.cell? ⟨w.heap.size, 0, none⟩ = some (.slice A n c) ∧ w'.cell? ⟨w.heap.size, 1, none⟩ = some (.slice B m d))
    (first | (exact ⟨p0, p1⟩) | (exact ⟨(HXR.out _ ((below_drewN (Below.refl _ W) 1).trans hb1)).1, (HXR.out _ ((below_drewN (Below.refl _ W) 1).trans hb1)).2.1⟩) | (exact ⟨x0, x1⟩) | go_keep)
    (first
      | (go_at_call 7; refine Calls.mono (twin_Ints A n c s _ ((HA.out.below HBW.out).drewN 1) hn) ?_; rintro e w1 ⟨rfl, ho1, hb1⟩)
      | (go_at_call 21; refine Calls.mono (twin_Numbers B m d l _ (((HB.out.below HBW.out).drewN 1).below hb1) hm) ?_; rintro e w2 ⟨rfl, ho2, hb2⟩; obtain ⟨p0, p1, q0, q1, qf0, qf1⟩ := HXR.out w2 (((below_drewN (Below.refl _ W) 1).trans hb1).trans (hb2.mono hb1.size))))
  have hb12 := ((below_drewN (Below.refl _ W) 1).trans hb1).trans (hb2.mono hb1.size)
  have HR2 := hide ((HRW.out.kept hb12).set2 (.slice (some ⟨w.heap.size + 2, 0, none⟩) n (n + 1)) (.slice (some ⟨w1.heap.size, 0, none⟩) m (m + 1)))
  have hs1 : w.heap.size + 2 ≤ w1.heap.size := by rw [← hsW]; exact hb1.size
  have lt1 : w.heap.size + 2 < w1.heap.size := by rw [← hsW]; exact (ho1.lt _ rfl).2
  have HO1 : Hid (w2.ownsRow (w.heap.size + 2) 3 1 (.slice (some ⟨w.heap.size + 2, 0, none⟩) (n + 1) (n + 1)) (n + 1) (s.map (Value.int .i64) ++ [.int .i64 77])) := hide (by
    have h : w2.ownsRow W.heap.size 3 1 (.slice (some ⟨W.heap.size, 0, none⟩) (n + 1) (n + 1)) (n + 1) (s.map (Value.int .i64) ++ [.int .i64 77]) := own_below ho1 hb2
    rw [hsW] at h
    exact h)
  have HO2 := hide ho2
  have HB2 := hide (HBW.out.trans (hb12.mono HBW.out.size))
  clear ho1 ho2 hb1 hb2 hb12
  go_wp2
  (try simp only [Exit.inBlock, Exit.then])
  refine ret_ten1 (p := 2) rfl rfl (w.heap.size + 1) _ rfl HR2.out rfl ?_
  refine ⟨w.heap.size + 2, w1.heap.size, rfl, ?_, ?_, ?_, ?_⟩
  · exact own_base (own_setCell' (own_setCell' HO1.out (by simp) _) (by simp) _) (by omega)
  · exact own_base (own_setCell' (own_setCell' HO2.out (by simp; omega) _) (by simp; omega) _) (by omega)
  · omega
  · exact (HB2.out.setCell (by simp) _).setCell (by simp) _

end Go.Proofs.YtlalfjlcgabnnaaGreatDoor
