/- Contracts of At of package shapes: one for each way an answer comes out; nothing that was there is changed. -/
import Derived.Test.YtlkldodkoeaedaaGreatDoorShapeIndex2
namespace Go.Proofs.YtlkldodkoeaedaaGreatDoor
open Go.RowKit
set_option linter.unusedVariables false
set_option linter.unusedSimpArgs false

theorem make_ints (w : World) (n : Nat) (h : n ≤ 1048576) : (Instr.makeSlice 22 (.int .i64 (n : Int)) (.int .i64 (n : Int))).run Tryz.prog w = .ok (.slice (some ⟨w.heap.size, 0, none⟩) n n) (w.alloc (.cells ((List.replicate n (0 : Int)).map (Value.int .i64)).toArray 3)) := by
  obtain ⟨i0, hi, hz0, hz1, hz2⟩ := info_parts Tryz.infoI
  have hr := run_make (P := Tryz.prog) w 22 3 i0 (.int .i64 0) Tryz.underlying22 hi hz0 .i64 .i64 (n : Int) (n : Int) (by omega) (by omega) (by rw [hz2]; omega) (by omega)
  have e : madeCells (Value.int .i64 0).cells n = ((List.replicate n (0 : Int)).map (Value.int .i64)).toArray := by
    apply Array.toList_inj.1
    have := toList_madeCells_one (.int .i64 0) n
    simpa [Value.cells] using this
  rw [hr, hz1]
  simp only [Int.toNat_natCast, Nat.mul_one]
  rw [e]

/-- The places while they are laid, from the last one on. -/
def rowK (xs : List Int) (i : Int) (k : Nat) : List Value := (List.replicate k (0 : Int) ++ digs (xs.drop k) i).map (Value.int .i64)
theorem rowK_len {xs : List Int} {i : Int} {k : Nat} (h : k ≤ xs.length) : (rowK xs i k).length = xs.length := by
  simp [rowK, digs_len]; omega
theorem rowK_set {xs : List Int} {i : Int} {k : Nat} (h : k < xs.length) : (rowK xs i (k + 1)).toArray.setIfInBounds k (.int .i64 (i / prodZ (xs.drop (k + 1)) % xs.getD k 0)) = (rowK xs i k).toArray := by
  rw [List.setIfInBounds_toArray]
  congr 1
  unfold rowK
  rw [drop_at h, digs, ← List.map_set, List.set_append_left _ _ (by simp)]
  congr 1
  rw [List.replicate_succ', List.set_append_right _ _ (by simp)]
  simp

set_option maxRecDepth 100000 in
set_option maxHeartbeats 1000000 in
theorem at_err (A : Option Addr) (n c : Nat) (i : Int) (xs : List Int) (w : World) (hA : Lies w A n (xs.map (Value.int .i64))) (hn : n ≤ 281474976710656) (h : i < 0 ∨ sizeI xs ≤ i) :
    Calls Tryz.prog 8 #[.slice A n c, .int .i64 i] w fun e w' => e = .returned (.tuple #[.slice none 0 0, .int .i64 1]) ∧ Below w.heap.size w w' := by
  by_cases h0 : i < 0
  · clear h
    go_enter Tryz.func8, Tryz.ntmps8
    go_wp2
    go_ret2
    exact ⟨rfl, Below.refl _ _⟩
  · have h1 : sizeI xs ≤ i := by omega
    have HS := hide (size_any A n c xs w hA hn)
    obtain ⟨y, hy⟩ : ∃ y, y = sizeI xs := ⟨_, rfl⟩
    rw [← hy] at h1 HS
    clear hA h hy
    go_enter Tryz.func8, Tryz.ntmps8
    go_wp2_with fail
    refine Calls.mono HS.out ?_
    rintro e w1 ⟨rfl, hb1⟩
    have HB1 := hide hb1
    clear hb1 HS
    go_wp2
    go_ret2
    exact ⟨rfl, HB1.out⟩

set_option maxRecDepth 100000 in
set_option maxHeartbeats 1000000 in
theorem at_ok (A : Option Addr) (n c : Nat) (i : Int) (xs : List Int) (w : World) (hA : Lies w A n (xs.map (Value.int .i64))) (hn : n ≤ 281474976710656) (h0 : 0 ≤ i) (h1 : i < sizeI xs) :
    Calls Tryz.prog 8 #[.slice A n c, .int .i64 i] w fun e w' => ∃ g, w.heap.size ≤ g ∧ e = .returned (.tuple #[.slice (some ⟨g, 0, none⟩) n n, .int .i64 0]) ∧ w'.heap[g]? = some (.cells ((digs xs i).map (Value.int .i64)).toArray 3 (0, 0)) ∧ Below w.heap.size w w' := by
  have hlen : xs.length = n := by have := hA.len; simpa using this
  have hdim := size_dims (xs := xs) (by omega)
  obtain ⟨hn1, hn4, hsp⟩ := sizeI_pos (xs := xs) (by omega)
  have hi4 : i ≤ 4096 := by have := sizeI_le xs; omega
  have HS := hide (size_any A n c xs w hA hn)
  have HA := hide hA
  have HDIM := hide hdim
  have HL : Hid (xs.length = n ∧ 1 ≤ n ∧ n ≤ 4) := hide (by omega)
  have hnn : (1 : Int) ≤ (n : Int) := by omega
  have hmk := fun w => make_ints w n (by omega)
  obtain ⟨y, hy⟩ : ∃ y, y = sizeI xs := ⟨_, rfl⟩
  rw [← hy] at h1 HS
  clear hA hdim hlen hn1 hn4 hsp hy
  go_enter Tryz.func8, Tryz.ntmps8
  go_wp2_with fail
  refine Calls.mono HS.out ?_
  rintro e w1 ⟨rfl, hb1⟩
  have HB1 := hide hb1
  have hs1 := hb1.size
  clear hb1 HS
  have HV := hide (visit_at (fun k wr => wr.heap[w1.heap.size]? = some (.cells (rowK xs i k).toArray 3 (0, 0)) ∧ Box1 wr (w1.heap.size + 2) 3 (.int .i64 (i / prodZ (xs.drop k))) ∧ Box1 wr (w1.heap.size + 1) 22 (.slice (some ⟨w1.heap.size, 0, none⟩) n n) ∧ Below w.heap.size w wr) A n c xs ⟨w1.heap.size + 2, 0, none⟩ ⟨w1.heap.size + 1, 0, none⟩ (((w1.alloc (.cells ((List.replicate n (0 : Int)).map (Value.int .i64)).toArray 3)).alloc (.cells #[.slice (some ⟨w1.heap.size, 0, none⟩) n n] 22)).alloc (.cells #[.int .i64 i] 3)) hn
      (fun k wr hk hI => by
        obtain ⟨g1, g2, g3, g4⟩ := hI
        obtain ⟨l1, l2, l3⟩ := HL.out
        have hd := HDIM.out.at (k := k) (by omega)
        have hp := (HDIM.out.drop (k + 1)).pos
        have q0 : 0 ≤ i / prodZ (xs.drop (k + 1)) := Int.ediv_nonneg h0 (by omega)
        have q1 : i / prodZ (xs.drop (k + 1)) ≤ i := Int.ediv_le_self _ h0
        refine Calls.mono (at_step (w1.heap.size + 2) (w1.heap.size + 1) w1.heap.size _ (rowK xs i (k + 1)) n k (xs.getD k 0) wr g2 g3 g1 (by omega) (by rw [rowK_len (by omega)]; omega) hk hn q0 (by omega) hd.1 hd.2.1) ?_
        rintro e w' ⟨rfl, q, rfl⟩
        have e2 : i / prodZ (xs.drop (k + 1)) / xs.getD k 0 = i / prodZ (xs.drop k) := by
          have e3 := prodZ_drop (xs := xs) (k := k) (by omega)
          rw [hd.2.2] at e3
          rw [← e3, Int.ediv_ediv_of_nonneg (by omega)]
        rw [e2]
        have s1 := heap_setCell_same wr w1.heap.size k (rowK xs i (k + 1)).toArray 3 (.int .i64 (i / prodZ (xs.drop (k + 1)) % xs.getD k 0)) g1
        rw [rowK_set (by omega)] at s1
        have s2 := (g2.other (a := ⟨w1.heap.size, k, none⟩) (by simp) (.int .i64 (i / prodZ (xs.drop (k + 1)) % xs.getD k 0))).set (.int .i64 (i / prodZ (xs.drop k)))
        have s3 := (g3.other (a := ⟨w1.heap.size, k, none⟩) (by simp) (.int .i64 (i / prodZ (xs.drop (k + 1)) % xs.getD k 0))).other (a := ⟨w1.heap.size + 2, 0, none⟩) (by simp) (.int .i64 (i / prodZ (xs.drop k)))
        exact ⟨rfl, (Below.heap_setCell _ _ _ _ (by simp)).trans s1, s2, s3, below_drewN ((g4.setCell hs1 _).setCell (Nat.le_trans hs1 (Nat.le_add_right _ _)) _) q⟩)
      (fun k wr hI => HA.out.below hI.2.2.2)
      (by
        obtain ⟨l1, l2, l3⟩ := HL.out
        have e0 : rowK xs i n = (List.replicate n (0 : Int)).map (Value.int .i64) := by
          unfold rowK
          rw [List.drop_eq_nil_of_le (by omega)]
          simp [digs]
        rw [e0, List.drop_eq_nil_of_le (by omega)]
        have s1 := heap_alloc_new w1 (.cells ((List.replicate n (0 : Int)).map (Value.int .i64)).toArray 3 (0, 0))
        have s1b := lt_of_heap s1
        have s2 := Box1.new (w1.alloc (.cells ((List.replicate n (0 : Int)).map (Value.int .i64)).toArray 3)) (.slice (some ⟨w1.heap.size, 0, none⟩) n n) 22
        have s3 := Box1.new ((w1.alloc (.cells ((List.replicate n (0 : Int)).map (Value.int .i64)).toArray 3)).alloc (.cells #[.slice (some ⟨w1.heap.size, 0, none⟩) n n] 22)) (.int .i64 i) 3
        have b1 := (Below.refl (w1.heap.size + 1) (w1.alloc (.cells ((List.replicate n (0 : Int)).map (Value.int .i64)).toArray 3))).alloc (by simp) (.cells #[.slice (some ⟨w1.heap.size, 0, none⟩) n n] 22)
        have b2 := b1.alloc (by simp) (.cells #[.int .i64 i] 3)
        refine ⟨(b2.block _ (by omega)).trans s1, ?_, ?_, ((HB1.out.alloc hs1 _).alloc (by simp; omega) _).alloc (by simp; omega) _⟩
        · simpa [prodZ] using s3
        · have := s2.alloc (.cells #[.int .i64 i] 3)
          simpa using this))
  have earr : ((List.replicate n (0 : Int)).map (Value.int .i64)).toArray = Array.replicate n (.int .i64 0) := by simp
  rw [earr] at HV
  clear earr
  go_wp2_with fail
  refine Calls.mono HV.out ?_
  rintro e w3 ⟨rfl, hrow, hrest, hsl, hbel⟩
  have hc := hsl.cell
  rw [rowK, List.drop_zero, List.replicate_zero, List.nil_append] at hrow
  have HROW := hide hrow
  have HBL := hide hbel
  clear hrow hrest hsl hbel HV
  go_wp2
  go_ret2
  exact ⟨w1.heap.size, hs1, rfl, HROW.out, HBL.out⟩
end Go.Proofs.YtlkldodkoeaedaaGreatDoor
