/- Contracts of putShape and Grow. -/
import Derived.Test.YtaoobdnbjagpnaaGreatDoorTen2
import Derived.Test.YtaoobdnbjagpnaaGreatDoorPut
import Derived.Test.YtaoobdnbjagpnaaGreatDoorZeros
import Derived.Test.YtaoobdnbjagpnaaGreatDoorTwin5
namespace Go.Proofs.YtaoobdnbjagpnaaGreatDoor
open Go.RowKit
set_option linter.unusedVariables false
set_option linter.unusedSimpArgs false
set_option maxRecDepth 20000

theorem mod_small {d : Int} (h : 1 ≤ d ∧ d ≤ 64 ∧ dz d = d) : IntKind.u8.wrap d = d := by
  rw [IntKind.wrap_u8]; omega

set_option maxHeartbeats 1000000 in
theorem putShape_any (A : Option Addr) (n c : Nat) (s : List Int) (w : World) (h : Lies w A n (s.map (Value.int .i64))) (hs : AllDim s) (hn : n ≤ 4) :
    Calls Tryz.prog 93 #[.slice A n c] w fun e w' => ∃ g c', e = .returned (.slice (some ⟨g, 0, none⟩) (n + 1) c') ∧ w'.ownsRow w.heap.size 5 1 (.slice (some ⟨g, 0, none⟩) (n + 1) c') (n + 1) (((n : Int) :: s).map (Value.int .u8)) ∧ Below w.heap.size w w' := by
  obtain ⟨i, hi, hz0, hz1, hz2⟩ := info_parts Tryz.infoB
  have hl : s.length = n := by have := h.len; simpa using this
  have HI := hide hi
  have HZ0 := hide hz0
  have HZ1 := hide hz1
  have HZ2 := hide hz2
  have HA := hide h
  have HL := hide hl
  have HS := hide hs
  have hw : IntKind.u8.wrap (n : Int) = (n : Int) := by rw [IntKind.wrap_u8]; omega
  have HO0 : Hid ((w.alloc (.cells #[.int .u8 (n : Int)] 5)).ownsRow w.heap.size 5 1 (.slice (some ⟨w.heap.size, 0, none⟩) 1 1) 1 (((n : Int) :: s.take 0).map (Value.int .u8))) :=
    hide (own_of_block (Nat.le_refl _) (heap_alloc_new w _) rfl (Nat.le_refl _) (by unfold maxLen; omega) rfl)
  clear h hi hz0 hz1 hz2 hl hs
  go_enter Tryz.func93, Tryz.ntmps93
  go_wp2
  go_loopw [3, 12] (fun v i wr => ∃ k g c' : Nat, k ≤ n ∧ i = .int .i64 k ∧ v = .slice (some ⟨g, 0, none⟩) (k + 1) c' ∧ Hid (wr.ownsRow w.heap.size 5 1 (.slice (some ⟨g, 0, none⟩) (k + 1) c') (k + 1) (((n : Int) :: s.take k).map (Value.int .u8))) ∧ Hid (Below w.heap.size w wr))
    (fun _ i _ => n - (intOf i).toNat)
  case atStart => exact ⟨0, w.heap.size, 1, Nat.zero_le _, rfl, rfl, HO0, hide ((Below.refl w.heap.size w).alloc (Nat.le_refl _) _)⟩
  case round =>
    obtain ⟨k, g, c', hk, rfl, rfl, HR, HB⟩ := hrel
    by_cases hlt : k < n
    · obtain ⟨b, o, rfl, hbl, hx⟩ := byte_at (HA.out.below HB.out) (by omega)
      obtain ⟨z, hz⟩ : ∃ z, z = s.getD k 0 := ⟨_, rfl⟩
      have hc : wr.cell? ⟨b, o + k, none⟩ = some (.int .i64 z) := by rw [hz]; exact hx k hlt
      have hwz : IntKind.u8.wrap z = z := by rw [hz]; exact mod_small (HS.out.at (by rw [HL.out]; exact hlt))
      have HZ := hide hz
      have hsz := HB.out.size
      clear hx hz
      go_wp2_with (at_builtin; refine wpList_append_ints rfl _ _ 56 rfl 5 i _ 1 Tryz.underlying56 HI.out HZ0.out HZ1.out HZ2.out rfl w.heap.size (some ⟨g, 0, none⟩) (k + 1) c' (k + 1 + 1) .u8 ((n : Int) :: s.take k) rfl (HR.out.alloc _) (by simp; omega) (some ⟨wr.heap.size, 0, none⟩) 1 1 [z] rfl (lies_new wr [.int .u8 z] 5) (by intro e; cases e) rfl (by omega) (by unfold maxLen; omega) ?_)
      intro A2 c2 w2 ho2 hb2
      obtain ⟨g2, rfl⟩ : ∃ g2, A2 = some ⟨g2, 0, none⟩ := by
        rcases own_addr ho2 with rfl | h
        · rcases ho2.2 with ⟨_, h0⟩ | ⟨_, _, _, h0, _⟩
          · omega
          · cases h0
        · exact h
      have HO2 : Hid (w2.ownsRow w.heap.size 5 1 (.slice (some ⟨g2, 0, none⟩) (k + 1 + 1) c2) (k + 1 + 1) (((n : Int) :: s.take (k + 1)).map (Value.int .u8))) := hide (by
        rw [List.take_succ_eq_append_getElem (by rw [HL.out]; exact hlt)]
        have e : s[k]'(by rw [HL.out]; exact hlt) = z := by rw [HZ.out]; simp [List.getD, HL.out, hlt]
        rw [e, List.map_cons, List.map_append, List.map_take]
        exact ho2)
      have HB2 : Hid (Below w.heap.size w w2) := hide ((HB.out.alloc hsz _).trans hb2)
      clear ho2 hb2 HR HB
      go_wp2
      go_roundw
      case rel => exact ⟨k + 1, g2, c2, by omega, by go_num, rfl, HO2, HB2⟩
      case measure => simp [intOf]; omega
    · obtain rfl : k = n := by omega
      go_wp2
      go_ret
      refine ⟨g, c', rfl, ?_, HB.out⟩
      have h := HR.out
      rwa [List.take_of_length_le (by rw [HL.out]; exact Nat.le_refl _)] at h

/-- A row of the call's own, seen as far as it reaches. -/
theorem own_full {w : World} {base : Nat} {e : TypeId} {g n c : Nat} {xs : List Value} (h : w.ownsRow base e 1 (.slice (some ⟨g, 0, none⟩) n c) n xs) :
    ∃ ys, w.ownsRow base e 1 (.slice (some ⟨g, 0, none⟩) c c) c ys ∧ ys.take n = xs ∧ n ≤ c := by
  rcases h.2 with ⟨h0, _⟩ | ⟨g', cap, cur, h0, hb, hg, hm, hl, hz, ht⟩
  · cases h0
  · cases h0
    exact ⟨cur.toList, own_of_block hb (by simpa using hg) (by simp [hz]) (Nat.le_refl _) hl (by rw [List.take_of_length_le (by simp [hz])]), by simpa using ht, hm⟩

set_option maxHeartbeats 1000000 in
theorem grow_any (g n c k base : Nat) (xs : List Value) (w : World) (ho : w.ownsRow base 5 1 (.slice (some ⟨g, 0, none⟩) n c) n xs) (hbase : base ≤ w.heap.size) (hn : n ≤ 1073741824) (hk : k ≤ 1073741824) :
    Calls Tryz.prog 94 #[.slice (some ⟨g, 0, none⟩) n c, .int .i64 (k : Int)] w fun e w' => ∃ g' c', e = .returned (.slice (some ⟨g', 0, none⟩) n c') ∧ w'.ownsRow base 5 1 (.slice (some ⟨g', 0, none⟩) n c') n xs ∧ w.grownBy w' (some g) := by
  obtain ⟨i, hi, hz0, hz1, hz2⟩ := info_parts Tryz.infoB
  obtain ⟨ys, hf, hys, hnc⟩ := own_full ho
  have HI := hide hi
  have HZ0 := hide hz0
  have HZ1 := hide hz1
  have HZ2 := hide hz2
  have HO := hide ho
  have HF := hide hf
  have HYS := hide hys
  have hcm : c ≤ maxLen := by
    rcases ho.2 with ⟨h0, _⟩ | ⟨g', cap, cur, h0, hb, hg, hm, hl, hz, ht⟩
    · cases h0
    · cases h0; exact hl
  have HCM := hide hcm
  unfold maxLen at hcm
  clear ho hi hz0 hz1 hz2 hf hys
  have hneg : ¬ ((k : Int) < 0) := by omega
  by_cases hfit : n + k ≤ c
  · have h2 : (k : Int) - ((c : Int) - (n : Int)) ≤ 0 := by omega
    go_enter Tryz.func94, Tryz.ntmps94
    go_wp2
    go_ret
    exact ⟨g, c, rfl, HO.out, World.grownBy.refl _ _⟩
  · obtain ⟨q, hq⟩ : ∃ q : Nat, n + k = c + q := ⟨n + k - c, by omega⟩
    have h2 : (k : Int) - ((c : Int) - (n : Int)) = (q : Int) := by omega
    have hq0 : 0 < q := by omega
    go_enter Tryz.func94, Tryz.ntmps94
    go_wp2_with (at_builtin; refine wpList_append_zeros rfl _ _ 56 3 rfl 5 i (.int .u8 0) .i64 .i64 1 Tryz.underlying56 Tryz.underlying3 HI.out HZ0.out HZ1.out HZ2.out rfl rfl base (.slice (some ⟨g, 0, none⟩) c c) c ys rfl HF.out hbase q rfl (by omega) (by unfold maxLen; omega) ?_)
    intro A' c' w' ho' hg'
    obtain ⟨g', rfl⟩ : ∃ g', A' = some ⟨g', 0, none⟩ := by
      rcases ho'.2 with ⟨_, h0⟩ | ⟨g', cap, cur, h0, _⟩
      · omega
      · cases h0; exact ⟨g', rfl⟩
    have hcc : c + q ≤ c' := (own_full ho').choose_spec.2.2
    have HB : Hid (w.grownBy w' (some g)) := hide hg'
    have HP : Hid (w'.ownsRow base 5 1 (.slice (some ⟨g', 0, none⟩) n c') n xs) := hide (by
      have e : ys ++ List.replicate q (Value.int .u8 0) = xs ++ (ys.drop n ++ List.replicate q (Value.int .u8 0)) := by
        rw [← List.append_assoc, ← HYS.out, List.take_append_drop]
      rw [e] at ho'
      exact own_part ho' (by have := HO.out.1; omega) (by omega))
    clear ho' hg'
    go_wp2
    go_ret
    exact ⟨g', c', rfl, HP.out, HB.out⟩
end Go.Proofs.YtaoobdnbjagpnaaGreatDoor
