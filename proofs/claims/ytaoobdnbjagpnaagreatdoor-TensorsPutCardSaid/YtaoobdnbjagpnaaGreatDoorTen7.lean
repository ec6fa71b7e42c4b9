/- Contract of getShape of package tensors: the dimensions that bytes begin with, and the bytes behind them. -/
import Derived.Test.YtaoobdnbjagpnaaGreatDoorTen6
import Derived.Test.YtaoobdnbjagpnaaGreatDoorGet
import Derived.Test.YtaoobdnbjagpnaaGreatDoorLits
namespace Go.Proofs.YtaoobdnbjagpnaaGreatDoor
open Go.RowKit
set_option linter.unusedVariables false
set_option linter.unusedSimpArgs false
set_option maxRecDepth 20000

set_option maxHeartbeats 1000000 in
theorem getShape_none (A : Option Addr) (n c : Nat) (bs : List Int) (w : World) (h : Lies w A n (bs.map (Value.int .u8))) (hb : Bytes bs) (hn : n ≤ 281474976710656) (hno : n = 0 ∨ (n : Int) ≤ bs.getD 0 0) :
    Calls Tryz.prog 96 #[.slice A n c] w fun e w' => e = .returned (.tuple #[.slice none 0 0, .slice none 0 0]) ∧ w' = w := by
  by_cases h0 : n = 0
  · subst h0
    clear h hb
    go_enter Tryz.func96, Tryz.ntmps96
    go_wp2
    go_ret2
    exact ⟨rfl, rfl⟩
  · have hq := (bytes_getD hb 0)
    obtain ⟨b, o, rfl, hbl, hx⟩ := byte_at h (by omega)
    obtain ⟨z, hz⟩ : ∃ z, z = bs.getD 0 0 := ⟨_, rfl⟩
    have hc : w.cell? ⟨b, o, none⟩ = some (.int .u8 z) := by have := hx 0 (by omega); rw [Nat.add_zero] at this; rw [hz]; exact this
    have hb1 : ((n : Int) == 0) = false := beq_eq_false_iff_ne.2 (by omega)
    rw [← hz] at hq hno
    have hle : (n : Int) ≤ z := by omega
    have hn0 : 0 < n := by omega
    clear hx hz h hno
    go_enter Tryz.func96, Tryz.ntmps96
    go_wp2
    go_ret2
    exact ⟨rfl, rfl⟩

theorem lies_slice {w : World} {b o n : Nat} {bs : List Int} {k : IntKind} (h : Lies w (some ⟨b, o, none⟩) n (bs.map (Value.int k))) {i j : Nat} (hij : i ≤ j) (hj : j ≤ n) :
    Lies w (some ⟨b, o + i, none⟩) (j - i) (((bs.drop i).take (j - i)).map (Value.int k)) := by
  have hl : bs.length = n := by have := h.len; simpa using this
  refine ⟨by simp [hl]; omega, fun hp => ?_⟩
  obtain ⟨b', o', e, hb, hx⟩ := h.cells (by omega)
  cases e
  refine ⟨b, o + i, rfl, hb, fun m hm => ?_⟩
  rw [Nat.add_assoc, hx (i + m) (by omega)]
  simp [List.getElem?_take, hm, List.getElem?_drop]
theorem lies_empty {w : World} {A : Option Addr} {k : IntKind} : Lies w A 0 (([] : List Int).map (Value.int k)) := ⟨rfl, fun h => absurd h (by omega)⟩

/-- The dimensions that bytes begin with. -/
def shpOf (bs : List Int) (k : Nat) : List Int := (bs.drop 1).take k
theorem shpOf_succ {bs : List Int} {k : Nat} (h : 1 + k < bs.length) : shpOf bs (k + 1) = shpOf bs k ++ [bs.getD (1 + k) 0] := by
  have hkl : k < (bs.drop 1).length := by rw [List.length_drop]; omega
  have e : (bs.drop 1)[k] = bs.getD (1 + k) 0 := by rw [List.getElem_drop]; simp [List.getD, h]
  rw [shpOf, List.take_succ_eq_append_getElem hkl, e]
  rfl
theorem shpOf_len {bs : List Int} {k : Nat} (h : 1 + k ≤ bs.length) : (shpOf bs k).length = k := by simp [shpOf]; omega

set_option maxHeartbeats 1000000 in
theorem getShape_ok (A : Option Addr) (n c q : Nat) (bs : List Int) (w : World) (h : Lies w A n (bs.map (Value.int .u8))) (hb : Bytes bs) (hn : n ≤ 281474976710656) (hnc : n ≤ c) (hq : bs.getD 0 0 = (q : Int)) (hqn : q < n) :
    Calls Tryz.prog 96 #[.slice A n c] w fun e w' => ∃ A1 c1 R cr, e = .returned (.tuple #[.slice A1 q c1, .slice R (n - (1 + q)) cr]) ∧ w'.ownsRow w.heap.size 3 1 (.slice A1 q c1) q ((shpOf bs q).map (Value.int .i64)) ∧
      Lies w' R (n - (1 + q)) ((bs.drop (1 + q)).map (Value.int .u8)) ∧ n - (1 + q) ≤ cr ∧ Below w.heap.size w w' := by
  obtain ⟨i, hi, hz0, hz1, hz2⟩ := info_parts Tryz.infoI
  have hl : bs.length = n := by have := h.len; simpa using this
  have hq0 := bytes_getD hb 0
  rw [hq] at hq0
  obtain ⟨b, o, rfl, hbl, hx⟩ := byte_at h (by omega)
  have hc : w.cell? ⟨b, o, none⟩ = some (.int .u8 (q : Int)) := by have := hx 0 (by omega); rw [Nat.add_zero, hq] at this; exact this
  have hb1 : ((n : Int) == 0) = false := beq_eq_false_iff_ne.2 (by omega)
  have HI := hide hi
  have HZ0 := hide hz0
  have HZ1 := hide hz1
  have HZ2 := hide hz2
  have HA := hide h
  have HL := hide hl
  have HBY := hide hb
  have hw1 : IntKind.i64.wrap (q : Int) = (q : Int) := by rw [IntKind.wrap_i64]; omega
  have hlt : (q : Int) < (n : Int) := by omega
  have hle : ¬ (n : Int) ≤ (q : Int) := by omega
  have hn0 : 0 < n := by omega
  clear h hi hz0 hz1 hz2 hx hl hb hq
  by_cases hc1 : c = 1
  · subst hc1
    obtain rfl : n = 1 := by omega
    obtain rfl : q = 0 := by omega
    go_enter Tryz.func96, Tryz.ntmps96
    go_wp2
    go_loopw [2, 28] (fun v i wr => v = .slice none 0 0 ∧ i = .int .i64 0 ∧ wr = w) (fun _ _ _ => 0)
    case atStart => exact ⟨rfl, rfl, rfl⟩
    case round =>
      obtain ⟨rfl, rfl, rfl⟩ := hrel
      have hmx : Tryz.prog.follows .mixedOrders = true := by kernel_rfl
      go_wp2
      go_quiet (fail)
      go_wp2
      go_ret2
      exact ⟨none, 0, _, _, rfl, World.ownsRow_nil _ _ _ _, by rw [List.drop_eq_nil_of_le (by have := HL.out; omega)]; exact lies_empty, by omega, below_drewN (Below.refl _ _) _⟩
  · go_enter Tryz.func96, Tryz.ntmps96
    go_wp2
    go_loopw [2, 28] (fun v i wr => ∃ (k : Nat) (A1 : Option Addr) (c1 : Nat), k ≤ q ∧ i = .int .i64 k ∧ v = .slice A1 k c1 ∧ Hid (wr.ownsRow w.heap.size 3 1 (.slice A1 k c1) k ((shpOf bs k).map (Value.int .i64))) ∧ Hid (Below w.heap.size w wr))
      (fun _ i _ => q - (intOf i).toNat)
    case atStart => exact ⟨0, none, 0, Nat.zero_le _, rfl, rfl, hide (World.ownsRow_nil _ _ _ _), hide (Below.refl _ _)⟩
    case round =>
      obtain ⟨k, A1, c1, hk, rfl, rfl, HR, HB⟩ := hrel
      by_cases hlt2 : k < q
      · obtain ⟨b1, o1, e1, _, hx⟩ := byte_at (HA.out.below HB.out) (by omega)
        cases e1
        obtain ⟨z, hz⟩ : ∃ z, z = bs.getD (1 + k) 0 := ⟨_, rfl⟩
        have hck : wr.cell? ⟨b, o + (1 + k), none⟩ = some (.int .u8 z) := by rw [hz]; exact hx (1 + k) (by omega)
        have hck' : wr.cell? ⟨b, o + 1 + k, none⟩ = some (.int .u8 z) := by rw [Nat.add_assoc]; exact hck
        have hwz : IntKind.i64.wrap z = z := by
          have := bytes_getD HBY.out (1 + k)
          rw [← hz] at this
          rw [IntKind.wrap_i64]; omega
        have HZ := hide hz
        have hsz := HB.out.size
        have hkq : (k : Int) < (q : Int) := by omega
        clear hx hz
        go_wp2_with (at_builtin; refine wpList_append_ints rfl _ _ 22 rfl 3 i _ 8 Tryz.underlying22 HI.out HZ0.out HZ1.out HZ2.out rfl w.heap.size A1 k c1 (k + 1) .i64 (shpOf bs k) rfl (HR.out.alloc _) (by simp; omega) (some ⟨wr.heap.size, 0, none⟩) 1 1 [z] rfl (lies_lit wr .i64 [z] 3) (by intro e; cases e) rfl (by omega) (by unfold maxLen; omega) ?_)
        intro A2 c2 w2 ho2 hb2
        have HO2 : Hid (w2.ownsRow w.heap.size 3 1 (.slice A2 (k + 1) c2) (k + 1) ((shpOf bs (k + 1)).map (Value.int .i64))) := hide (by
          rw [shpOf_succ (by rw [HL.out]; omega), ← HZ.out, List.map_append]
          exact ho2)
        have HB2 : Hid (Below w.heap.size w w2) := hide ((HB.out.alloc hsz _).trans hb2)
        clear ho2 hb2 HR HB
        go_wp2
        go_roundw
        case rel => exact ⟨k + 1, A2, c2, by omega, by go_num, rfl, HO2, HB2⟩
        case measure => simp [intOf]; omega
      · obtain rfl : k = q := by omega
        have hmx : Tryz.prog.follows .mixedOrders = true := by kernel_rfl
        have HD : Hid (Lies wr (some ⟨b, o + (1 + k), none⟩) (n - (1 + k)) ((bs.drop (1 + k)).map (Value.int .u8))) := hide (by
          have h := lies_slice (HA.out.below HB.out) (i := 1 + k) (j := n) (by omega) (Nat.le_refl _)
          rwa [List.take_of_length_le (by rw [List.length_drop, HL.out]; exact Nat.le_refl _)] at h)
        have hlast : (1 : Int) + (k : Int) ≤ (n : Int) := by omega
        by_cases hce : c = 1 + k
        · subst hce
          obtain rfl : n = 1 + k := by omega
          go_wp2
          go_quiet (fail)
          go_wp2
          go_ret2
          refine ⟨A1, c1, _, _, rfl, HR.out, ?_, by omega, below_drewN HB.out _⟩
          rw [Nat.sub_self, List.drop_eq_nil_of_le (by rw [HL.out]; exact Nat.le_refl _)]
          exact lies_empty
        · go_wp2
          go_quiet (fail)
          go_wp2
          go_ret2
          exact ⟨A1, c1, _, _, rfl, HR.out, HD.out.drewN _, by omega, below_drewN HB.out _⟩
end Go.Proofs.YtaoobdnbjagpnaaGreatDoor
