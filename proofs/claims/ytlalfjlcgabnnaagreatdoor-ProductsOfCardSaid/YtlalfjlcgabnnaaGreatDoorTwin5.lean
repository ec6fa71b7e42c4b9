/- Contracts of the copies that statements make (Twin..: with a mark behind the last) and of the look whether such a copy is as it was (Left..). -/
import Derived.Test.YtlalfjlcgabnnaaGreatDoorCells
import Derived.OwnWalk
namespace Go.Proofs.YtlalfjlcgabnnaaGreatDoor
open Go.RowKit

def preV (κ : IntKind) (zs : List Int) (k : Nat) : List Value := (zs.take k).map (Value.int κ)

theorem preV_snoc (κ : IntKind) (zs : List Int) (k : Nat) (h : k < zs.length) : preV κ zs (k + 1) = preV κ zs k ++ [.int κ (zs.getD k 0)] := by
  have e : zs.getD k 0 = zs[k] := by simp [List.getD, h]
  rw [preV, List.take_succ_eq_append_getElem h, List.map_append, ← e]
  rfl

theorem preV_all (κ : IntKind) (zs : List Int) {k : Nat} (h : zs.length = k) : preV κ zs k = zs.map (Value.int κ) := by rw [preV, List.take_of_length_le (by omega)]

theorem own_part {w : World} {base : Nat} {e : TypeId} {g n m c : Nat} {xs ys : List Value} (h : w.ownsRow base e 1 (.slice (some ⟨g, 0, none⟩) m c) m (xs ++ ys)) (hx : xs.length = n) (hm : n ≤ m) : w.ownsRow base e 1 (.slice (some ⟨g, 0, none⟩) n c) n xs := by
  rcases h.2 with ⟨e0, _⟩ | ⟨g', cap, cur, e0, hb, hh, hmc, hcm, hcs, hta⟩
  · injection e0 with e0; cases e0
  · injection e0 with e0 _ e2
    injection e0 with e0
    injection e0 with e0
    subst e0
    subst e2
    refine ⟨by omega, .inr ⟨g, c, cur, rfl, hb, hh, by omega, hcm, hcs, ?_⟩⟩
    have h1 := congrArg (List.take n) hta
    rw [List.take_take, List.take_left' hx, Nat.mul_one, Nat.min_eq_left hm] at h1
    rw [Nat.mul_one]
    exact h1

theorem Tryz.infoT_Ints : (Tryz.prog.info? 3).map (fun i => (i.zero, i.size, i.bytes)) = some (some (.int .i64 0), 1, 8) := by kernel_rfl

set_option maxRecDepth 100000 in
set_option maxHeartbeats 1000000 in
theorem twin_Ints (A : Option Addr) (n c : Nat) (zs : List Int) (w : World) (h : Lies w A n (zs.map (Value.int .i64))) (hn : n ≤ 1073741824) :
    Calls Tryz.prog 7 #[.slice A n c] w fun e w' => e = .returned (.slice (some ⟨w.heap.size, 0, none⟩) n (n + 1)) ∧
      w'.ownsRow w.heap.size 3 1 (.slice (some ⟨w.heap.size, 0, none⟩) (n + 1) (n + 1)) (n + 1) (zs.map (Value.int .i64) ++ [.int .i64 77]) ∧ Below w.heap.size w w' := by
  obtain ⟨i0, hi, hz0, hz1, hz2⟩ := info_parts Tryz.infoT_Ints
  have hb2 : i0.bytes * (n + 1) ≤ 281474976710656 := by rw [hz2]; omega
  have HI := hide hi
  have HZ0 := hide hz0
  have HZ1 := hide hz1
  have HB2 := hide hb2
  have HL := hide h
  have HLEN : Hid (zs.length = n) := hide (by have := h.len; simpa using this)
  clear hi hz0 hz1 hz2 hb2 h
  go_enter Tryz.func7, Tryz.ntmps7
  go_wp2_with (at_make; refine wpList_make_own _ rfl _ _ 22 rfl w.heap.size 3 i0 (.int .i64 0) 1 Tryz.underlying22 HI.out HZ0.out HZ1.out _ _ _ (n + 1) rfl rfl (by omega) HB2.out (by unfold maxLen; omega) (Nat.le_refl _) ?_)
  intro w1 ho1 hg1
  have HO1 := hide ho1
  have HB1 := hide ((Below.refl w.heap.size w).grown hg1 (Nat.le_refl _) (by simp))
  clear ho1 hg1
  go_wp2
  go_loopw [3, 4] (fun v i wr => ∃ k : Nat, k ≤ n ∧ i = .int .i64 k ∧ v = .slice (some ⟨w.heap.size, 0, none⟩) k (n + 1) ∧ Hid (wr.ownsRow w.heap.size 3 1 (.slice (some ⟨w.heap.size, 0, none⟩) k (n + 1)) k (preV .i64 zs k)) ∧ Hid (Below w.heap.size w wr))
    (fun _ i _ => n - (intOf i).toNat)
  case atStart => exact ⟨0, Nat.zero_le _, rfl, rfl, HO1, HB1⟩
  case round =>
    obtain ⟨k, hk, rfl, rfl, HR, HB⟩ := hrel
    have hsr := HB.out.size
    by_cases hlt : k < n
    · obtain ⟨b, o, rfl, hbl, hx⟩ := byte_at (HL.out.below HB.out) (by omega)
      obtain ⟨z, hz⟩ : ∃ z, z = zs.getD k 0 := ⟨_, rfl⟩
      have hc : wr.cell? ⟨b, o + k, none⟩ = some (.int .i64 z) := by rw [hz]; exact hx k hlt
      have HZ := hide hz
      clear hx hz
      have HNEW := hide (cells_new wr [.int .i64 z] 3)
      go_wp2_with (at_builtin; refine wpList_append_fits _ rfl (.tmp 15) (.tmp 20) 22 rfl w.heap.size 3 i0 1 Tryz.underlying22 HI.out HZ1.out w.heap.size k (n + 1) (preV .i64 zs k) rfl (HR.out.alloc _) ⟨wr.heap.size, 0, none⟩ 1 1 [.int .i64 z] rfl rfl HNEW.out (by simp [Value.oneCell']) (by omega) ?_)
      intro w2 ho2 hg2
      have HR2 : Hid (w2.ownsRow w.heap.size 3 1 (.slice (some ⟨w.heap.size, 0, none⟩) (k + 1) (n + 1)) (k + 1) (preV .i64 zs (k + 1))) := hide (by
        rw [preV_snoc _ _ _ (by rw [HLEN.out]; exact hlt), ← HZ.out]
        exact ho2)
      have HBn := hide ((HB.out.alloc (by omega) (.cells #[.int .i64 z] 3)).grown hg2 (by simp; omega) (fun b hb => by injection hb with hb; omega))
      clear ho2 hg2 HR HB HNEW hc
      go_wp2
      go_roundw
      case rel => exact ⟨k + 1, by omega, by go_num, rfl, HR2, HBn⟩
      case measure => simp [intOf]; omega
    · obtain rfl : k = n := by omega
      have HNEW := hide (cells_new wr [.int .i64 77] 3)
      go_wp2_with (at_builtin; refine wpList_append_fits _ rfl (.tmp 22) (.tmp 23) 22 rfl w.heap.size 3 i0 1 Tryz.underlying22 HI.out HZ1.out w.heap.size k (k + 1) (preV .i64 zs k) rfl (HR.out.alloc _) ⟨wr.heap.size, 0, none⟩ 1 1 [.int .i64 77] rfl rfl HNEW.out (by simp [Value.oneCell']) (by omega) ?_)
      intro w2 ho2 hg2
      have HR2 : Hid (w2.ownsRow w.heap.size 3 1 (.slice (some ⟨w.heap.size, 0, none⟩) (k + 1) (k + 1)) (k + 1) (zs.map (Value.int .i64) ++ [.int .i64 77])) := hide (by
        rw [preV_all _ _ HLEN.out] at ho2
        exact ho2)
      have HBn := hide ((HB.out.alloc (by omega) (.cells #[.int .i64 77] 3)).grown hg2 (by simp; omega) (fun b hb => by injection hb with hb; omega))
      clear ho2 hg2 HR HB HNEW
      have q1 : (k : Int) ≤ (k : Int) + 1 := by omega
      go_wp2
      go_ret
      exact ⟨rfl, HR2.out, HBn.out⟩

set_option maxRecDepth 100000 in
set_option maxHeartbeats 1000000 in
theorem left_Ints (g n c c' : Nat) (A : Option Addr) (zs : List Int) (w : World) (h : Lies w (some ⟨g, 0, none⟩) (n + 1) (zs.map (Value.int .i64) ++ [.int .i64 77])) (k : Lies w A n (zs.map (Value.int .i64))) (hc : n + 1 ≤ c) (hn : n ≤ 1073741824) :
    Calls Tryz.prog 15 #[.slice (some ⟨g, 0, none⟩) n c, .slice A n c'] w fun e w' => e = .returned (.bool true) ∧ ∃ k, w' = w.drewN k := by
  have hlen : zs.length = n := by have := k.len; simpa using this
  obtain ⟨b0, o0, e0, _, hx0⟩ := h.cells (by omega)
  injection e0 with e0
  injection e0 with e1 e2
  subst e1
  subst e2
  have hlast := hx0 n (by omega)
  rw [List.getElem?_append_right (by simp [hlen])] at hlast
  simp [hlen] at hlast
  have ht : ∀ j, j < n → w.cell? ⟨g, j, none⟩ = some (.int .i64 (zs.getD j 0)) := by
    intro j hj
    have := hx0 j (by omega)
    rw [List.getElem?_append_left (by simp [hlen]; exact hj)] at this
    rw [Nat.zero_add] at this
    rw [this]
    simp [List.getD, show j < zs.length by omega]
  have HT := hide ht
  have HK := hide k
  clear h k ht hx0 hlen
  go_enter Tryz.func15, Tryz.ntmps15
  go_wp2
  go_loopw [5] (fun i wr => ∃ k : Nat, k ≤ n ∧ i = .int .i64 k ∧ ∃ j, wr = w.drewN j) (fun i _ => n - (intOf i).toNat)
  case atStart => exact ⟨0, Nat.zero_le _, rfl, 0, rfl⟩
  case round =>
    obtain ⟨k, hk, rfl, j, rfl⟩ := hrel
    by_cases hlt : k < n
    · obtain ⟨b', o', rfl, _, hy⟩ := byte_at HK.out (by omega)
      obtain ⟨z, hz⟩ : ∃ z, z = zs.getD k 0 := ⟨_, rfl⟩
      have h1 : w.cell? ⟨g, k, none⟩ = some (.int .i64 z) := by rw [hz]; exact HT.out k hlt
      have h2 : w.cell? ⟨b', o' + k, none⟩ = some (.int .i64 z) := by rw [hz]; exact hy k hlt
      have h0 : (0 : Int) ≤ (k : Int) := by omega
      have h3 : (k : Int) < (n : Int) := by omega
      clear hy hz hlast
      go_wp2
      go_quiet (fail)
      go_wp2
      go_roundw
      case rel => exact ⟨k + 1, by omega, by go_num, _, rfl⟩
      case measure => simp [intOf]; omega
    · obtain rfl : k = n := by omega
      have q1 : (k : Int) + 1 ≤ (c : Int) := by omega
      have q2 : (k : Int) < (k : Int) + 1 := by omega
      go_wp2
      go_ret
      exact ⟨rfl, _, rfl⟩

theorem Tryz.infoT_Numbers : (Tryz.prog.info? 21).map (fun i => (i.zero, i.size, i.bytes)) = some (some (.int .i32 0), 1, 4) := by kernel_rfl

set_option maxRecDepth 100000 in
set_option maxHeartbeats 1000000 in
theorem twin_Numbers (A : Option Addr) (n c : Nat) (zs : List Int) (w : World) (h : Lies w A n (zs.map (Value.int .i32))) (hn : n ≤ 1073741824) :
    Calls Tryz.prog 21 #[.slice A n c] w fun e w' => e = .returned (.slice (some ⟨w.heap.size, 0, none⟩) n (n + 1)) ∧
      w'.ownsRow w.heap.size 21 1 (.slice (some ⟨w.heap.size, 0, none⟩) (n + 1) (n + 1)) (n + 1) (zs.map (Value.int .i32) ++ [.int .i32 77]) ∧ Below w.heap.size w w' := by
  obtain ⟨i0, hi, hz0, hz1, hz2⟩ := info_parts Tryz.infoT_Numbers
  have hb2 : i0.bytes * (n + 1) ≤ 281474976710656 := by rw [hz2]; omega
  have HI := hide hi
  have HZ0 := hide hz0
  have HZ1 := hide hz1
  have HB2 := hide hb2
  have HL := hide h
  have HLEN : Hid (zs.length = n) := hide (by have := h.len; simpa using this)
  clear hi hz0 hz1 hz2 hb2 h
  go_enter Tryz.func21, Tryz.ntmps21
  go_wp2_with (at_make; refine wpList_make_own _ rfl _ _ 23 rfl w.heap.size 21 i0 (.int .i32 0) 1 Tryz.underlying23 HI.out HZ0.out HZ1.out _ _ _ (n + 1) rfl rfl (by omega) HB2.out (by unfold maxLen; omega) (Nat.le_refl _) ?_)
  intro w1 ho1 hg1
  have HO1 := hide ho1
  have HB1 := hide ((Below.refl w.heap.size w).grown hg1 (Nat.le_refl _) (by simp))
  clear ho1 hg1
  go_wp2
  go_loopw [3, 4] (fun v i wr => ∃ k : Nat, k ≤ n ∧ i = .int .i64 k ∧ v = .slice (some ⟨w.heap.size, 0, none⟩) k (n + 1) ∧ Hid (wr.ownsRow w.heap.size 21 1 (.slice (some ⟨w.heap.size, 0, none⟩) k (n + 1)) k (preV .i32 zs k)) ∧ Hid (Below w.heap.size w wr))
    (fun _ i _ => n - (intOf i).toNat)
  case atStart => exact ⟨0, Nat.zero_le _, rfl, rfl, HO1, HB1⟩
  case round =>
    obtain ⟨k, hk, rfl, rfl, HR, HB⟩ := hrel
    have hsr := HB.out.size
    by_cases hlt : k < n
    · obtain ⟨b, o, rfl, hbl, hx⟩ := byte_at (HL.out.below HB.out) (by omega)
      obtain ⟨z, hz⟩ : ∃ z, z = zs.getD k 0 := ⟨_, rfl⟩
      have hc : wr.cell? ⟨b, o + k, none⟩ = some (.int .i32 z) := by rw [hz]; exact hx k hlt
      have HZ := hide hz
      clear hx hz
      have HNEW := hide (cells_new wr [.int .i32 z] 21)
      go_wp2_with (at_builtin; refine wpList_append_fits _ rfl (.tmp 15) (.tmp 20) 23 rfl w.heap.size 21 i0 1 Tryz.underlying23 HI.out HZ1.out w.heap.size k (n + 1) (preV .i32 zs k) rfl (HR.out.alloc _) ⟨wr.heap.size, 0, none⟩ 1 1 [.int .i32 z] rfl rfl HNEW.out (by simp [Value.oneCell']) (by omega) ?_)
      intro w2 ho2 hg2
      have HR2 : Hid (w2.ownsRow w.heap.size 21 1 (.slice (some ⟨w.heap.size, 0, none⟩) (k + 1) (n + 1)) (k + 1) (preV .i32 zs (k + 1))) := hide (by
        rw [preV_snoc _ _ _ (by rw [HLEN.out]; exact hlt), ← HZ.out]
        exact ho2)
      have HBn := hide ((HB.out.alloc (by omega) (.cells #[.int .i32 z] 21)).grown hg2 (by simp; omega) (fun b hb => by injection hb with hb; omega))
      clear ho2 hg2 HR HB HNEW hc
      go_wp2
      go_roundw
      case rel => exact ⟨k + 1, by omega, by go_num, rfl, HR2, HBn⟩
      case measure => simp [intOf]; omega
    · obtain rfl : k = n := by omega
      have HNEW := hide (cells_new wr [.int .i32 77] 21)
      go_wp2_with (at_builtin; refine wpList_append_fits _ rfl (.tmp 22) (.tmp 23) 23 rfl w.heap.size 21 i0 1 Tryz.underlying23 HI.out HZ1.out w.heap.size k (k + 1) (preV .i32 zs k) rfl (HR.out.alloc _) ⟨wr.heap.size, 0, none⟩ 1 1 [.int .i32 77] rfl rfl HNEW.out (by simp [Value.oneCell']) (by omega) ?_)
      intro w2 ho2 hg2
      have HR2 : Hid (w2.ownsRow w.heap.size 21 1 (.slice (some ⟨w.heap.size, 0, none⟩) (k + 1) (k + 1)) (k + 1) (zs.map (Value.int .i32) ++ [.int .i32 77])) := hide (by
        rw [preV_all _ _ HLEN.out] at ho2
        exact ho2)
      have HBn := hide ((HB.out.alloc (by omega) (.cells #[.int .i32 77] 21)).grown hg2 (by simp; omega) (fun b hb => by injection hb with hb; omega))
      clear ho2 hg2 HR HB HNEW
      have q1 : (k : Int) ≤ (k : Int) + 1 := by omega
      go_wp2
      go_ret
      exact ⟨rfl, HR2.out, HBn.out⟩

set_option maxRecDepth 100000 in
set_option maxHeartbeats 1000000 in
theorem left_Numbers (g n c c' : Nat) (A : Option Addr) (zs : List Int) (w : World) (h : Lies w (some ⟨g, 0, none⟩) (n + 1) (zs.map (Value.int .i32) ++ [.int .i32 77])) (k : Lies w A n (zs.map (Value.int .i32))) (hc : n + 1 ≤ c) (hn : n ≤ 1073741824) :
    Calls Tryz.prog 30 #[.slice (some ⟨g, 0, none⟩) n c, .slice A n c'] w fun e w' => e = .returned (.bool true) ∧ ∃ k, w' = w.drewN k := by
  have hlen : zs.length = n := by have := k.len; simpa using this
  obtain ⟨b0, o0, e0, _, hx0⟩ := h.cells (by omega)
  injection e0 with e0
  injection e0 with e1 e2
  subst e1
  subst e2
  have hlast := hx0 n (by omega)
  rw [List.getElem?_append_right (by simp [hlen])] at hlast
  simp [hlen] at hlast
  have ht : ∀ j, j < n → w.cell? ⟨g, j, none⟩ = some (.int .i32 (zs.getD j 0)) := by
    intro j hj
    have := hx0 j (by omega)
    rw [List.getElem?_append_left (by simp [hlen]; exact hj)] at this
    rw [Nat.zero_add] at this
    rw [this]
    simp [List.getD, show j < zs.length by omega]
  have HT := hide ht
  have HK := hide k
  clear h k ht hx0 hlen
  go_enter Tryz.func30, Tryz.ntmps30
  go_wp2
  go_loopw [5] (fun i wr => ∃ k : Nat, k ≤ n ∧ i = .int .i64 k ∧ ∃ j, wr = w.drewN j) (fun i _ => n - (intOf i).toNat)
  case atStart => exact ⟨0, Nat.zero_le _, rfl, 0, rfl⟩
  case round =>
    obtain ⟨k, hk, rfl, j, rfl⟩ := hrel
    by_cases hlt : k < n
    · obtain ⟨b', o', rfl, _, hy⟩ := byte_at HK.out (by omega)
      obtain ⟨z, hz⟩ : ∃ z, z = zs.getD k 0 := ⟨_, rfl⟩
      have h1 : w.cell? ⟨g, k, none⟩ = some (.int .i32 z) := by rw [hz]; exact HT.out k hlt
      have h2 : w.cell? ⟨b', o' + k, none⟩ = some (.int .i32 z) := by rw [hz]; exact hy k hlt
      have h0 : (0 : Int) ≤ (k : Int) := by omega
      have h3 : (k : Int) < (n : Int) := by omega
      clear hy hz hlast
      go_wp2
      go_quiet (fail)
      go_wp2
      go_roundw
      case rel => exact ⟨k + 1, by omega, by go_num, _, rfl⟩
      case measure => simp [intOf]; omega
    · obtain rfl : k = n := by omega
      have q1 : (k : Int) + 1 ≤ (c : Int) := by omega
      have q2 : (k : Int) < (k : Int) + 1 := by omega
      go_wp2
      go_ret
      exact ⟨rfl, _, rfl⟩

theorem Tryz.infoT_Bytes : (Tryz.prog.info? 5).map (fun i => (i.zero, i.size, i.bytes)) = some (some (.int .u8 0), 1, 1) := by kernel_rfl

end Go.Proofs.YtlalfjlcgabnnaaGreatDoor
