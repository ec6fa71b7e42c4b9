/- Contracts of the document's disk: turned. -/
import Derived.Test.YtapdaeafeejknaaGreatDoorRDisk6
namespace Go.Proofs.YtapdaeafeejknaaGreatDoor
open Go.RowKit
set_option maxRecDepth 20000
set_option linter.unusedVariables false
set_option linter.unusedSimpArgs false

theorem str_take (b : List Int) (k : Nat) : (strOfNums b).extract 0 k = strOfNums (b.take k) := by
  apply ByteArray.ext
  rw [ByteArray.data_extract]
  simp [strOfNums, List.map_take]
theorem str_drop (b : List Int) (k : Nat) : (strOfNums b).extract k (strOfNums b).size = strOfNums (b.drop k) := by
  apply ByteArray.ext
  rw [ByteArray.data_extract, strOfNums_size]
  simp [strOfNums, List.map_drop]
  exact List.take_of_length_le (by simp)
theorem str_at (b : List Int) (hb : ∀ x ∈ b, 0 ≤ x ∧ x < 256) (j : Nat) (hj : j < b.length) (h : j < (strOfNums b).size) : (((strOfNums b)[j]'h).toNat : Int) = b.getD j 0 := by
  rw [← strOf_at b hb j hj]
  congr 2
  have h2 : j < (strOfNums b).data.size := h
  show (strOfNums b).data[j] = _
  rw [List.getD, Array.getElem?_toList, Array.getElem?_eq_getElem h2]
  rfl
theorem lies1 (w : World) (z : Int) : Lies (w.alloc (.cells #[.int .u8 z] 5)) (some ⟨w.heap.size, 0, none⟩) 1 ([z].map (Value.int .u8)) :=
  ⟨rfl, fun _ => ⟨w.heap.size, 0, rfl, by simp, fun j hj => by obtain rfl : j = 0 := by omega
                                                               rw [cell_of_row _ _ _ _ _ _ (heap_alloc_new w _)]; rfl⟩⟩

set_option maxRecDepth 100000 in
set_option maxHeartbeats 4000000 in
theorem turned_any (b : List Int) (p : Nat) (y : Int) (w : World) (hb : OkB b) (hp : p < 64) (hy : 0 ≤ y ∧ y < 256) :
    Calls Tryz.prog 36 #[strV b, .int .i64 (p : Int), .int .u8 y] w fun e w' => e = .returned (strV (xorB b p y)) ∧ Below w.heap.size w w' := by
  have hsz : (strOfNums b).size = 64 := by rw [strOfNums_size, hb.1]
  obtain ⟨x, hx⟩ : ∃ x, x = b.getD p 0 := ⟨_, rfl⟩
  obtain ⟨z, hz⟩ : ∃ z, bits .xor .u8 x y = z := ⟨_, rfl⟩
  have a0 : (0 : Int) ≤ (p : Int) := by omega
  have a1 : (p : Int) < 64 := by omega
  have hlen := hb.1
  have a2 : (p : Int) ≤ 64 := by omega
  have a3 : IntKind.i64.wrap ((p : Int) + 1) = (p : Int) + 1 := IntWalk.i64_in _ (by omega)
  have a4 : (0 : Int) ≤ (p : Int) + 1 := by omega
  have a5 : (p : Int) + 1 ≤ 64 := by omega
  have a6 : ((p : Int) + 1).toNat = p + 1 := by omega
  have e1 : (strOfNums b).extract 0 p = strOfNums (b.take p) := str_take b p
  have e3 : (strOfNums b).extract (p + 1) 64 = strOfNums (b.drop (p + 1)) := by rw [← hsz]; exact str_drop b (p + 1)
  have e2 : ∀ h, (((strOfNums b)[p]'h).toNat : Int) = x := fun h => by rw [hx]; exact str_at b hb.2 p (by omega) h
  have e4 : strOfNums (b.take p) ++ strOfNums [z] = strOfNums (b.take p ++ [z]) := str_append _ _
  have e5 : strOfNums (b.take p ++ [z]) ++ strOfNums (b.drop (p + 1)) = strOfNums (xorB b p y) := by
    rw [str_append, xorB, ← hx, hz, List.set_eq_take_append_cons_drop, if_pos (by omega)]
    simp
  have s1 : (strOfNums (b.take p)).size + (strOfNums [z]).size ≤ 9223372036854775807 := by rw [strOfNums_size, strOfNums_size]; simp; omega
  have s2 : (strOfNums (b.take p ++ [z])).size + (strOfNums (b.drop (p + 1))).size ≤ 9223372036854775807 := by rw [strOfNums_size, strOfNums_size]; simp; omega
  have HB : Hid (Below w.heap.size w (w.alloc (.cells #[.int .u8 z] 5)).drew) := hide (below_drewN ((Below.refl w.heap.size w).alloc (Nat.le_refl _) _) 1)
  clear hx hlen hb hp hy
  unfold strV
  go_enter Tryz.func36, Tryz.ntmps36
  go_wp2
  refine wp_region_U (fun _ _ => True) 50 (by kernel_rfl) ?_
  refine wpAnyU_take (i := 0) (oi := { dst := some 7, op := _, type := _, pos := _, after := _, guard := none }) (v := .string (strOfNums b)) rfl (by kernel_rfl) (by kernel_rfl) (by kernel_rfl) (by kernel_rfl) (fun _ _ _ h => h) (yields_take rfl (fun w' hw => by go_simp)) trivial ?_
  simp only [Act.put, List.setIfInBounds_toArray, List.set_cons_zero, List.set_cons_succ]
  refine wpAnyU_take (i := 1) (oi := { dst := some 8, op := _, type := _, pos := _, after := _, guard := none }) (v := .int .i64 (p : Int)) rfl (by kernel_rfl) (by kernel_rfl) (by kernel_rfl) (by kernel_rfl) (fun _ _ _ h => h) (yields_take rfl (fun w' hw => by go_simp)) trivial ?_
  simp only [Act.put, List.setIfInBounds_toArray, List.set_cons_zero, List.set_cons_succ]
  refine wpAnyU_take (i := 2) (oi := { dst := some 9, op := _, type := _, pos := _, after := _, guard := none }) (v := .string (strOfNums (b.take p))) rfl (by kernel_rfl) (by kernel_rfl) (by kernel_rfl) (by kernel_rfl) (fun _ _ _ h => h) (yields_take rfl (fun w' hw => by go_simp)) trivial ?_
  simp only [Act.put, List.setIfInBounds_toArray, List.set_cons_zero, List.set_cons_succ]
  refine wpAnyU_take (i := 3) (oi := { dst := some 10, op := _, type := _, pos := _, after := _, guard := none }) (v := .string (strOfNums b)) rfl (by kernel_rfl) (by kernel_rfl) (by kernel_rfl) (by kernel_rfl) (fun _ _ _ h => h) (yields_take rfl (fun w' hw => by go_simp)) trivial ?_
  simp only [Act.put, List.setIfInBounds_toArray, List.set_cons_zero, List.set_cons_succ]
  refine wpAnyU_take (i := 4) (oi := { dst := some 11, op := _, type := _, pos := _, after := _, guard := none }) (v := .int .i64 (p : Int)) rfl (by kernel_rfl) (by kernel_rfl) (by kernel_rfl) (by kernel_rfl) (fun _ _ _ h => h) (yields_take rfl (fun w' hw => by go_simp)) trivial ?_
  simp only [Act.put, List.setIfInBounds_toArray, List.set_cons_zero, List.set_cons_succ]
  refine wpAnyU_take (i := 5) (oi := { dst := some 12, op := _, type := _, pos := _, after := _, guard := none }) (v := .int .u8 x) rfl (by kernel_rfl) (by kernel_rfl) (by kernel_rfl) (by kernel_rfl) (fun _ _ _ h => h) (yields_take rfl (fun w' hw => by go_simp)) trivial ?_
  simp only [Act.put, List.setIfInBounds_toArray, List.set_cons_zero, List.set_cons_succ]
  refine wpAnyU_take (i := 6) (oi := { dst := some 13, op := _, type := _, pos := _, after := _, guard := none }) (v := .int .u8 y) rfl (by kernel_rfl) (by kernel_rfl) (by kernel_rfl) (by kernel_rfl) (fun _ _ _ h => h) (yields_take rfl (fun w' hw => by go_simp)) trivial ?_
  simp only [Act.put, List.setIfInBounds_toArray, List.set_cons_zero, List.set_cons_succ]
  refine wpAnyU_take (i := 7) (oi := { dst := some 14, op := _, type := _, pos := _, after := _, guard := none }) (v := .int .u8 z) rfl (by kernel_rfl) (by kernel_rfl) (by kernel_rfl) (by kernel_rfl) (fun _ _ _ h => h) (yields_take rfl (fun w' hw => by go_simp)) trivial ?_
  simp only [Act.put, List.setIfInBounds_toArray, List.set_cons_zero, List.set_cons_succ]
  refine wpAnyU_take (i := 11) (oi := { dst := some 18, op := _, type := _, pos := _, after := _, guard := none }) (v := .string (strOfNums b)) rfl (by kernel_rfl) (by kernel_rfl) (by kernel_rfl) (by kernel_rfl) (fun _ _ _ h => h) (yields_take rfl (fun w' hw => by go_simp)) trivial ?_
  simp only [Act.put, List.setIfInBounds_toArray, List.set_cons_zero, List.set_cons_succ]
  refine wpAnyU_take (i := 12) (oi := { dst := some 19, op := _, type := _, pos := _, after := _, guard := none }) (v := .int .i64 (p : Int)) rfl (by kernel_rfl) (by kernel_rfl) (by kernel_rfl) (by kernel_rfl) (fun _ _ _ h => h) (yields_take rfl (fun w' hw => by go_simp)) trivial ?_
  simp only [Act.put, List.setIfInBounds_toArray, List.set_cons_zero, List.set_cons_succ]
  refine wpAnyU_take (i := 13) (oi := { dst := some 20, op := _, type := _, pos := _, after := _, guard := none }) (v := .int .i64 ((p : Int) + 1)) rfl (by kernel_rfl) (by kernel_rfl) (by kernel_rfl) (by kernel_rfl) (fun _ _ _ h => h) (yields_take rfl (fun w' hw => by go_simp)) trivial ?_
  simp only [Act.put, List.setIfInBounds_toArray, List.set_cons_zero, List.set_cons_succ]
  refine wpAnyU_take (i := 14) (oi := { dst := some 21, op := _, type := _, pos := _, after := _, guard := none }) (v := .string (strOfNums (b.drop (p + 1)))) rfl (by kernel_rfl) (by kernel_rfl) (by kernel_rfl) (by kernel_rfl) (fun _ _ _ h => h) (yields_take rfl (fun w' hw => by go_simp)) trivial ?_
  simp only [Act.put, List.setIfInBounds_toArray, List.set_cons_zero, List.set_cons_succ]
  refine wpAnyU_one (i := 8) (by kernel_rfl) rfl ?_
  intro K hK
  go_simp
  refine hK.out _ _ trivial (fun _ => ?_)
  clear hK K
  have hcv := conv_any (some ⟨w.heap.size, 0, none⟩) 1 1 [z] ((w.alloc (.cells #[.int .u8 z] 5)).drew) ((lies1 w z).drewN 1)
  unfold strV at hcv
  refine wpAnyU_one (i := 9) (by kernel_rfl) rfl ?_
  intro K hK
  go_simp
  refine hK.out _ _ trivial (fun _ => ?_)
  clear hK K hcv
  refine wpAnyU_take (i := 10) (oi := { dst := some 17, op := _, type := _, pos := _, after := _, guard := none }) (v := .string (strOfNums (b.take p ++ [z]))) rfl (by kernel_rfl) (by kernel_rfl) (by kernel_rfl) (by kernel_rfl) (fun _ _ _ h => h) (yields_take rfl (fun w' hw => by go_simp)) trivial ?_
  simp only [Act.put, List.setIfInBounds_toArray, List.set_cons_zero, List.set_cons_succ]
  refine wpAnyU_take (i := 15) (oi := { dst := some 22, op := _, type := _, pos := _, after := _, guard := none }) (v := .string (strOfNums (xorB b p y))) rfl (by kernel_rfl) (by kernel_rfl) (by kernel_rfl) (by kernel_rfl) (fun _ _ _ h => h) (yields_take rfl (fun w' hw => by go_simp)) trivial ?_
  simp only [Act.put, List.setIfInBounds_toArray, List.set_cons_zero, List.set_cons_succ]
  refine wpAnyU_take (i := 16) (oi := { dst := some 6, op := _, type := _, pos := _, after := _, guard := none }) (v := .string (strOfNums (xorB b p y))) rfl (by kernel_rfl) (by kernel_rfl) (by kernel_rfl) (by kernel_rfl) (fun _ _ _ h => h) (yields_take rfl (fun w' hw => by go_simp)) trivial ?_
  simp only [Act.put, List.setIfInBounds_toArray, List.set_cons_zero, List.set_cons_succ]
  refine wpAnyU_done (by kernel_rfl) ?_ _
  go_wp2
  go_ret
  exact ⟨rfl, HB.out⟩
end Go.Proofs.YtapdaeafeejknaaGreatDoor
