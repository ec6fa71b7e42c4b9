/- Contracts of package tensors: New, At; a block that holds a tensor. -/
import Derived.Test.YtlalfjlcgabnnaaGreatDoorTen1
import Derived.Laws.CopyOwn
namespace Go.Proofs.YtlalfjlcgabnnaaGreatDoor
open Go.RowKit
set_option linter.unusedVariables false
set_option linter.unusedSimpArgs false
set_option maxRecDepth 20000

theorem grown_setRow (w : World) (g : Nat) (cs : Array Value) : w.grownBy (w.setRow g cs) (some g) :=
  ⟨rfl, rfl, rfl, by simp, fun k _ hk => setRow_other w g k cs (by intro e; exact hk (by rw [e]))⟩

theorem own_setRow {w : World} {base : Nat} {e : TypeId} {A : Option Addr} {n c : Nat} {xs : List Value} (h : w.ownsRow base e 1 (.slice A n c) n xs) {g : Nat} (hg : g < base) (cs : Array Value) : (w.setRow g cs).ownsRow base e 1 (.slice A n c) n xs :=
  h.kept (row := some g) (grown_setRow w g cs) (by
    right
    intro e
    have := (h.lt g e).1
    omega)

/-- A block that holds a tensor. -/
def BoxT (w : World) (p : Nat) (v u : Value) : Prop := w.heap[p]? = some (.cells #[v, u] 25 (0, 0))

section
variable {w : World} {p : Nat} {v u : Value}

theorem BoxT.new (w : World) (v u : Value) : BoxT (w.alloc (.cells #[v, u] 25)) w.heap.size v u := heap_alloc_new w _

theorem BoxT.lt (h : BoxT w p v u) : p < w.heap.size := lt_of_heap h

theorem BoxT.below (h : BoxT w p v u) {B : Nat} {w' : World} (hb : Below B w w') (hB : p < B) : BoxT w' p v u := (hb.block p hB).trans h

theorem BoxT.kept (h : BoxT w p v u) {w' : World} (hb : Below w.heap.size w w') : BoxT w' p v u := h.below hb h.lt

theorem BoxT.alloc (h : BoxT w p v u) (o : Obj) : BoxT (w.alloc o) p v u := h.kept ((Below.refl w.heap.size w).alloc (Nat.le_refl _) o)

theorem BoxT.set (h : BoxT w p v u) (x y : Value) : BoxT (w.setRow p #[x, y]) p x y := setRow_heap w p _ _ _ _ h

theorem BoxT.c0 (h : BoxT w p v u) : w.cell? ⟨p, 0, none⟩ = some v := cell_of_row _ _ 0 _ _ (0, 0) h

theorem BoxT.c1 (h : BoxT w p v u) : w.cell? ⟨p, 1, none⟩ = some u := cell_of_row _ _ 1 _ _ (0, 0) h

end

theorem sizeT : (Tryz.prog.info? 25).map (·.size) = some 2 := by kernel_rfl

set_option maxHeartbeats 800000 in
theorem new_err (A : Option Addr) (n c : Nat) (s : List Int) (w : World) (h : Lies w A n (s.map (Value.int .i64))) (hn : n ≤ 281474976710656) (hs : ¬ 0 < sizeI s) :
    Calls Tryz.prog 23 #[.slice A n c] w fun e w' => e = .returned (.tuple #[tenV none 0 0 none 0 0, .int .i64 1]) ∧ Below w.heap.size w w' := by
  have HA := hide h
  have HD : Hid (decide (0 < sizeI s) = false) := hide (decide_eq_false hs)
  clear h hs
  go_enter Tryz.func23, Tryz.ntmps23
  go_wp2_with fail
  refine Calls.mono (check_any A n c s _ (HA.out.alloc _) hn) ?_
  rintro e w2 ⟨rfl, hb⟩
  rw [HD.out]
  have HBX := hide ((BoxT.new w (.slice none 0 0) (.slice none 0 0)).kept hb)
  have HBB := hide ((((Below.refl w.heap.size w).alloc (Nat.le_refl _) (.cells #[.slice none 0 0, .slice none 0 0] 25))).trans (hb.mono (by simp)))
  clear hb
  go_wp2_with (refine wpList_store_row rfl 25 _ _ rfl w.heap.size #[.slice none 0 0, .slice none 0 0] rfl rfl 25 _ HBX.out sizeT rfl (by simp [Value.oneCell']) ?_)
  (try simp only [Exit.inBlock, Exit.then])
  refine ret_ten (p := 2) (u := 3) rfl rfl w.heap.size _ rfl (HBX.out.set _ _) rfl ?_
  exact ⟨rfl, below_setRow HBB.out (Nat.le_refl _) _⟩

set_option maxHeartbeats 800000 in
theorem new_ok (A : Option Addr) (n c q : Nat) (s : List Int) (w : World) (h : Lies w A n (s.map (Value.int .i64))) (hq : sizeI s = (q : Int)) (hp : 0 < q) :
    Calls Tryz.prog 23 #[.slice A n c] w fun e w' => ∃ g1 c1 g2, e = .returned (.tuple #[tenV (some ⟨g1, 0, none⟩) n c1 (some ⟨g2, 0, none⟩) q q, .int .i64 0]) ∧
      w'.ownsRow w.heap.size 3 1 (.slice (some ⟨g1, 0, none⟩) n c1) n (s.map (Value.int .i64)) ∧ w'.ownsRow w.heap.size 21 1 (.slice (some ⟨g2, 0, none⟩) q q) q (List.replicate q (.int .i32 0)) ∧ g1 ≠ g2 ∧ Below w.heap.size w w' := by
  have hlen : s.length = n := by have := h.len; simpa using this
  obtain ⟨hn1, hn4, _⟩ := sizeI_pos (xs := s) (by omega)
  rw [hlen] at hn1 hn4
  have hq4 := sizeI_le s
  have HA := hide h
  have HD : Hid (decide (0 < sizeI s) = true) := hide (decide_eq_true (by omega))
  have HQ := hide hq
  clear h hq hlen
  go_enter Tryz.func23, Tryz.ntmps23
  go_wp2_with fail
  refine Calls.mono (check_any A n c s _ (HA.out.alloc _) (by omega)) ?_
  rintro e w2 ⟨rfl, hb⟩
  rw [HD.out]
  have HBX := hide ((BoxT.new w (.slice none 0 0) (.slice none 0 0)).kept hb)
  have HBB := hide ((((Below.refl w.heap.size w).alloc (Nat.le_refl _) (.cells #[.slice none 0 0, .slice none 0 0] 25))).trans (hb.mono (by simp)))
  clear hb
  go_wp2_with fail
  refine Calls.mono (clone_ints A n c s w2 (HA.out.below HBB.out) (by omega) (by omega)) ?_
  rintro e w3 ⟨g1, c1, rfl, ho1, hb3⟩
  have HBX3 := hide (HBX.out.kept hb3)
  have hlt3 := HBX.out.lt
  have HB3 := hide (HBB.out.trans (hb3.mono HBB.out.size))
  have HO1 := hide ho1
  clear ho1 hb3 HBX HBB
  go_wp2_with fail
  refine Calls.mono (size_any A n c s w3 (HA.out.below HB3.out) (by omega)) ?_
  rintro e w4 ⟨rfl, hb4⟩
  have HBX4 := hide (HBX3.out.kept hb4)
  have HB4 := hide (HB3.out.trans (hb4.mono HB3.out.size))
  have HO4 := hide (own_below HO1.out hb4)
  have hsz := HB4.out.size
  rw [HQ.out]
  have hmk := make_nums [] (q : Int) q rfl (by have := HQ.out; omega) w4
  have HBX5 := hide (HBX4.out.alloc (.cells (part [] q 0).toArray 21))
  clear hb4 HBX3 HB3 HO1 HBX4
  go_wp2_with (refine wpList_store_row rfl 25 _ _ rfl w.heap.size #[.slice (some ⟨g1, 0, none⟩) n c1, .slice (some ⟨w4.heap.size, 0, none⟩) q q] rfl rfl 25 _ HBX5.out sizeT rfl (by simp [Value.oneCell']) ?_)
  (try simp only [Exit.inBlock, Exit.then])
  refine ret_ten (p := 2) (u := 3) rfl rfl w.heap.size _ rfl (HBX5.out.set _ _) rfl ?_
  have hlt1 := (HO4.out.lt g1 rfl)
  refine ⟨g1, c1, w4.heap.size, rfl, ?_, ?_, by omega, below_setRow (HB4.out.alloc (by omega) _) (Nat.le_refl _) _⟩
  · exact own_base (own_setRow (HO4.out.alloc _) hlt3 _) (by omega)
  · refine own_base (base := w4.heap.size) (own_setRow (own_of_block (Nat.le_refl _) (heap_alloc_new w4 _) (by rw [part_none]; simp) (Nat.le_refl _) (by unfold maxLen; have := HQ.out; omega) (by rw [part_none]; simp)) (by omega) _) (by omega)

end Go.Proofs.YtlalfjlcgabnnaaGreatDoor
