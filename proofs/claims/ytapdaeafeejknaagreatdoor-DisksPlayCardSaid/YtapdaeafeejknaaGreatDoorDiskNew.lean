/- Contracts of Clone (at sectors), durableDisk and New of package disks. -/
import Derived.Test.YtapdaeafeejknaaGreatDoorDiskWrite2
import Derived.Lib.SliceRun
import Derived.Laws.MakeOwn
namespace Go.Proofs.YtapdaeafeejknaaGreatDoor
open Go.RowKit
set_option maxRecDepth 20000
set_option linter.unusedSimpArgs false

theorem SR.list {B : Nat} {w : World} {g c : Nat} {l : List Sec} (h : SR B w g c l) : ∀ j u, (secsV l)[j]? = some u → w.cell? ⟨g, j, none⟩ = some u := by
  intro j u hj
  have := h.1.cells (g := g) rfl j u hj
  rwa [Addr.add_lit, Nat.zero_add] at this
theorem SR.len {B : Nat} {w : World} {g c : Nat} {l : List Sec} (h : SR B w g c l) : (secsV l).length = l.length * 65 := h.1.1

set_option maxRecDepth 100000 in
set_option maxHeartbeats 800000 in
theorem clone_any {B g c : Nat} {l : List Sec} (w : World) (h : SR B w g c l) (hp : 0 < l.length) (hm : l.length ≤ 16384) :
    Calls Tryz.prog 33 #[.slice (some ⟨g, 0, none⟩) l.length c] w fun e w' => ∃ g' c', e = .returned (.slice (some ⟨g', 0, none⟩) l.length c') ∧ SR w.heap.size w' g' c' l ∧ Below w.heap.size w w' := by
  obtain ⟨i, hi, hz0, hz1, hz2⟩ := info_parts Tryz.zeroSec
  have HI := hide hi
  have HZ0 := hide hz0
  have HZ1 := hide hz1
  have HZ2 := hide hz2
  have HS := hide h
  have HL : Hid (∀ j u, (secsV l)[j]? = some u → (w.alloc (.cells #[] 87)).cell? ((⟨g, 0, none⟩ : Addr).add j) = some u) := hide (fun j u hj => by
    rw [Addr.add_lit, Nat.zero_add]
    exact (h.alloc (.cells #[] 87)).list j u hj)
  have HLN := hide h.len
  have heq : (binOp .eql 67 (.slice (some ⟨g, 0, none⟩) l.length c) (.slice none 0 0)).run Tryz.prog w = .ok (.bool false) w := Lib.run_eql_slice_nil w _ _ _ _ _ _ _ Tryz.underlying67
  clear h hi hz0 hz1 hz2
  go_enter Tryz.func33, Tryz.ntmps33
  go_wp2_with (at_builtin; refine wpList_append_grows _ rfl _ _ 67 rfl 87 i _ 65 65 Tryz.underlying67 HI.out HZ0.out HZ1.out HZ2.out rfl (Nat.succ_pos _) (some ⟨w.heap.size, 0, none⟩) 0 0 [] rfl (fun h => by cases h) rfl (fun _ _ j u hj => by cases hj) ⟨g, 0, none⟩ l.length c (secsV l) rfl HLN.out HL.out (secsV_one l) (by omega) (by unfold maxLen; omega) (by omega) ?_)
  intro v' w' hown hgr
  obtain ⟨g', c', rfl⟩ : ∃ g' c', v' = .slice (some ⟨g', 0, none⟩) l.length c' := by
    rcases hown.2 with ⟨_, h0⟩ | ⟨g', c', _, h0, _⟩
    · omega
    · exact ⟨g', c', h0⟩
  have HF : Hid (SR w.heap.size w' g' c' l) := hide (by
    exact ⟨own_base' hown (by simp), HS.out.2⟩)
  have HB : Hid (Below w.heap.size w w') := hide (((Below.refl w.heap.size w).alloc (Nat.le_refl _) _).grown hgr (by simp) (by simp))
  clear hown hgr heq
  go_wp2
  go_ret
  exact ⟨g', c', by simp [Act.eval], HF.out, HB.out⟩

set_option maxRecDepth 100000 in
set_option maxHeartbeats 800000 in
theorem durable_any {B g c : Nat} {l : List Sec} (w : World) (h : SR B w g c l) (hp : 0 < l.length) (hm : l.length ≤ 16384) :
    Calls Tryz.prog 28 #[.slice (some ⟨g, 0, none⟩) l.length c] w fun e w' => ∃ L, e = .returned L.ptr ∧ DiskAt B w' L l [] ∧ (∀ b, L.has b → b = g ∨ w.heap.size ≤ b) ∧ Below w.heap.size w w' := by
  have HS := hide h
  clear h
  go_enter Tryz.func28, Tryz.ntmps28
  go_wp2_with fail
  refine Calls.mono (clone_any _ HS.out hp hm) ?_
  rintro e w1 ⟨g1, c1, rfl, hs1, hb1⟩
  have HS1 := hide hs1
  have HB1 := hide hb1
  clear hs1 hb1
  have hlt := HS.out.lt
  have hlt1 := HS1.out.lt
  have hbs := HB1.out.size
  have HFIN : Hid (DiskAt B (w1.alloc (.cells #[.slice (some ⟨g1, 0, none⟩) l.length c1, .slice (some ⟨g, 0, none⟩) l.length c, .slice none 0 0] 77)) ⟨w1.heap.size, g1, c1, g, c, .slice none 0 0⟩ l []) := hide (by
    refine ⟨by show B ≤ w1.heap.size; omega, heap_alloc_new w1 _, own_base' (HS1.out.alloc _).1 (by omega), ((HS.out.below HB1.out).alloc _).1, World.ownsRow_nil _ _ _ _, by show g1 ≠ g; omega, hp, hm, HS.out.2, by simp⟩)
  have HBL : Hid (Below w.heap.size w (w1.alloc (.cells #[.slice (some ⟨g1, 0, none⟩) l.length c1, .slice (some ⟨g, 0, none⟩) l.length c, .slice none 0 0] 77))) := hide (HB1.out.alloc hbs _)
  go_wp2
  go_ret
  refine ⟨⟨w1.heap.size, g1, c1, g, c, .slice none 0 0⟩, rfl, HFIN.out, ?_, HBL.out⟩
  rintro b (e | e | e | e)
  · exact .inr (by show w.heap.size ≤ b; rw [e]; exact hbs)
  · exact .inr (by rw [e]; exact hlt1.1)
  · exact .inl e
  · cases e

theorem new_bad (n : Int) (w : World) (h : n < 1 ∨ 16384 < n) : Calls Tryz.prog 5 #[.int .i64 n] w fun e w' => e = .returned (.tuple #[.pointer none, .int .i64 1]) ∧ w = w' := by
  by_cases h1 : n < 1
  · go_enter Tryz.func5, Tryz.ntmps5
    go_wp2
    go_ret2
    exact ⟨rfl, rfl⟩
  · have h2 : 16384 < n := by omega
    have h3 : 1 ≤ n := by omega
    clear h h1
    go_enter Tryz.func5, Tryz.ntmps5
    go_wp2
    go_ret2
    exact ⟨rfl, rfl⟩

def zeroSec : Sec := ⟨zeros64, false⟩
theorem secV_zero : secV zeroSec = zSec.toList := by
  simp [secV, zeroSec, zeros64, zSec]
theorem madeSecs (n : Nat) : madeCells zSec (n * 65) = (secsV (List.replicate n zeroSec)).toArray := by
  have hok : ∀ s ∈ List.replicate n zeroSec, OkB s.b := fun s hs => by rw [(List.mem_replicate.1 hs).2]; exact okB_zeros
  have hlen : (secsV (List.replicate n zeroSec)).length = n * 65 := by
    have := flat_len (secs_row hok)
    simpa [secsV, secsL] using this
  apply Array.toList_inj.1
  apply List.ext_getElem?
  intro j
  by_cases hj : j < n * 65
  · have hz : zSec.size = 65 := by rfl
    have hd : j / 65 < n := by omega
    have e1 : (secsV (List.replicate n zeroSec))[j]? = (secV zeroSec)[j % 65]? := by
      have h1 := flat_get (secs_row hok) (secs_at (l := List.replicate n zeroSec) (n := j / 65) (by simpa using hd)) (j := j % 65) (Nat.mod_lt _ (by omega))
      rw [show j / 65 * 65 + j % 65 = j by omega] at h1
      rw [show secAt (List.replicate n zeroSec) (j / 65) = zeroSec by simp [secAt, List.getD, hd]] at h1
      exact h1
    rw [show (secsV (List.replicate n zeroSec)).toArray.toList = secsV (List.replicate n zeroSec) from rfl, e1, secV_zero]
    have hm : j % 65 < zSec.size := by rw [hz]; omega
    simp [madeCells, hj, hz]
    rw [Array.getElem?_eq_getElem hm]
    simp [hm]
  · rw [List.getElem?_eq_none (by simp [madeCells]; omega), List.getElem?_eq_none (by simp [hlen]; omega)]
theorem make_secs (n : Nat) (hn : n ≤ 16384) (w : World) :
    (Instr.makeSlice 67 (.int .i64 (n : Int)) (.int .i64 (n : Int))).run Tryz.prog w = .ok (.slice (some ⟨w.heap.size, 0, none⟩) n n) (w.alloc (.cells (secsV (List.replicate n zeroSec)).toArray 87)) := by
  obtain ⟨i, hi, hz0, hz1, hz2⟩ := info_parts Tryz.zeroSec
  have hr := run_make (P := Tryz.prog) w 67 87 i (.agg zSec) Tryz.underlying67 hi hz0 .i64 .i64 (n : Int) (n : Int) (by omega) (by omega) (by rw [hz2]; omega) (by omega)
  rw [hr, hz1, show ((n : Int)).toNat = n by omega, ← madeSecs n]
  rfl
theorem SR.made (w : World) (n : Nat) (hn : n ≤ 16384) : SR w.heap.size (w.alloc (.cells (secsV (List.replicate n zeroSec)).toArray 87)) w.heap.size n (List.replicate n zeroSec) := by
  have hok : ∀ s ∈ List.replicate n zeroSec, OkB s.b := fun s hs => by rw [(List.mem_replicate.1 hs).2]; exact okB_zeros
  have hlen : (secsV (List.replicate n zeroSec)).length = n * 65 := by
    have := flat_len (secs_row hok)
    simpa [secsV, secsL] using this
  refine ⟨?_, hok⟩
  have := World.ownsRow_lit (base := w.heap.size) (e := 87) (size := 65) w (secsV (List.replicate n zeroSec)).toArray n (Nat.le_refl _) (by unfold maxLen; omega) (by rw [List.size_toArray, hlen])
  rw [List.length_replicate]
  simpa using this
set_option maxHeartbeats 800000 in
theorem new_ok (n : Nat) (w : World) (h1 : 1 ≤ n) (h2 : n ≤ 16384) : Calls Tryz.prog 5 #[.int .i64 (n : Int)] w fun e w' => ∃ L, e = .returned (.tuple #[L.ptr, .int .i64 0]) ∧ DiskAt w.heap.size w' L (List.replicate n zeroSec) [] ∧ (∀ b, L.has b → w.heap.size ≤ b) ∧ Below w.heap.size w w' := by
  have hmk := make_secs n h2
  have HSR := hide (SR.made w n h2)
  have HB := hide ((Below.refl w.heap.size w).alloc (Nat.le_refl _) (.cells (secsV (List.replicate n zeroSec)).toArray 87))
  have a1 : (1 : Int) ≤ (n : Int) := by omega
  have a2 : (n : Int) ≤ 16384 := by omega
  have HL : Hid ((List.replicate n zeroSec).length = n) := hide (by simp)
  go_enter Tryz.func5, Tryz.ntmps5
  go_wp2_with fail
  clear hmk
  have HD := durable_any _ HSR.out (by rw [HL.out]; omega) (by rw [HL.out]; exact h2)
  rw [HL.out] at HD
  ((with_reducible refine Calls.mono HD ?_))
  rintro e w1 ⟨L, rfl, hd, hh, hb⟩
  have HD1 := hide hd
  have HH : Hid (∀ b, L.has b → w.heap.size ≤ b) := hide (fun b hb' => by
    rcases hh b hb' with e | e
    · omega
    · simp at e; omega)
  have HB1 : Hid (Below w.heap.size w w1) := hide (HB.out.trans (hb.mono (by simp)))
  clear hd hh hb HD
  go_wp2
  go_ret2
  exact ⟨L, rfl, HD1.out, HH.out, HB1.out⟩
end Go.Proofs.YtapdaeafeejknaaGreatDoor
