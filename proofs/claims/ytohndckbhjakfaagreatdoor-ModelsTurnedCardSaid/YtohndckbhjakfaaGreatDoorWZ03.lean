/- Merged: SameG, Ten3, Ten4, Zeros, Twin5. -/
import Derived.Test.YtohndckbhjakfaaGreatDoorWZ00
import Derived.Deep.QuietTactic
import Derived.BigQuiet
import Derived.Test.YtohndckbhjakfaaGreatDoorWZ02
import Derived.RangeFuncBound
import Derived.Lib.AppendZeros
import Derived.Lib.AppendZerosOnto
import Derived.OwnWalk
namespace Go.Proofs.YtohndckbhjakfaaGreatDoor

section
open Go.RowKit
set_option linter.unusedVariables false
set_option linter.unusedSimpArgs false

theorem take_more {xs ys : List Int} {k : Nat} (h1 : k < xs.length) (h2 : k < ys.length) (h : xs.take k = ys.take k) (e : xs.getD k 0 = ys.getD k 0) : xs.take (k + 1) = ys.take (k + 1) := by
  rw [List.take_succ_eq_append_getElem h1, List.take_succ_eq_append_getElem h2, h]
  simp [List.getD, h1, h2] at e
  rw [e]

theorem take_end {xs ys : List Int} {k : Nat} (h1 : xs.length = k) (h2 : ys.length = k) (h : xs.take k = ys.take k) : xs = ys := by
  rwa [List.take_of_length_le (by omega), List.take_of_length_le (by omega)] at h

set_option maxRecDepth 100000 in
set_option maxHeartbeats 400000 in
theorem sameG_Bytes (A B : Option Addr) (n c m d : Nat) (xs ys : List Int) (w : World) (h : Lies w A n (xs.map (Value.int .u8))) (k : Lies w B m (ys.map (Value.int .u8))) (hm : n ≤ 281474976710656) :
    Calls Tryz.prog 15 #[.slice A n c, .slice B m d] w fun e w' => e = .returned (.bool (decide (xs = ys))) ∧ ∃ j, w' = w.drewN j := by
  have hl1 : xs.length = n := by have := h.len; simpa using this
  have hl2 : ys.length = m := by have := k.len; simpa using this
  have HA := hide h
  have HB := hide k
  have HL1 := hide hl1
  have HL2 := hide hl2
  clear h k
  by_cases hnm : n = m
  · subst hnm
    clear hl1 hl2
    go_enter Tryz.func15, Tryz.ntmps15
    go_wp2
    go_loopw [5] (fun i wr => ∃ k : Nat, k ≤ n ∧ i = .int .i64 k ∧ Hid (xs.take k = ys.take k) ∧ ∃ j, wr = w.drewN j) (fun i _ => n - (intOf i).toNat)
    case atStart => exact ⟨0, Nat.zero_le _, rfl, hide rfl, 0, rfl⟩
    case round =>
      obtain ⟨k, hk, rfl, HT, j, rfl⟩ := hrel
      by_cases hlt : k < n
      · obtain ⟨b, o, rfl, _, hx⟩ := byte_at HA.out (by omega)
        obtain ⟨b', o', rfl, _, hy⟩ := byte_at HB.out (by omega)
        obtain ⟨z, hz⟩ : ∃ z, z = xs.getD k 0 := ⟨_, rfl⟩
        obtain ⟨u, hu⟩ : ∃ u, u = ys.getD k 0 := ⟨_, rfl⟩
        have h1 : w.cell? ⟨b, o + k, none⟩ = some (.int .u8 z) := by rw [hz]; exact hx k hlt
        have h2 : w.cell? ⟨b', o' + k, none⟩ = some (.int .u8 u) := by rw [hu]; exact hy k hlt
        have h0 : (0 : Int) ≤ (k : Int) := by omega
        have h3 : (k : Int) < (n : Int) := by omega
        have HZ := hide hz
        have HU := hide hu
        clear hx hy hz hu
        by_cases he : z = u
        · subst he
          have HN : Hid (xs.take (k + 1) = ys.take (k + 1)) := hide (take_more (by rw [HL1.out]; exact hlt) (by rw [HL2.out]; exact hlt) HT.out (by rw [← HZ.out, ← HU.out]))
          go_wp2
          go_quiet (fail)
          go_wp2
          go_roundw
          case rel => exact ⟨k + 1, by omega, by go_num, HN, _, rfl⟩
          case measure => simp [intOf]; omega
        · have HN : Hid (¬ xs = ys) := hide (by intro e; rw [HZ.out, HU.out, e] at he; exact he rfl)
          have hb1 : (z == u) = false := beq_eq_false_iff_ne.2 he
          go_wp2
          go_quiet (fail)
          go_wp2
          go_ret
          exact ⟨by rw [decide_eq_false HN.out]; rfl, _, World.drewN_drewN _ _ _⟩
      · obtain rfl : k = n := by omega
        have HE := hide (take_end HL1.out HL2.out HT.out)
        go_wp2
        go_ret
        exact ⟨by rw [decide_eq_true HE.out]; rfl, _, rfl⟩
  · have HN : Hid (¬ xs = ys) := hide (by intro e; rw [e] at hl1; omega)
    have hb1 : ((n : Int) == (m : Int)) = false := beq_eq_false_iff_ne.2 (by omega)
    clear hl1 hl2
    go_enter Tryz.func15, Tryz.ntmps15
    go_wp2
    go_ret
    exact ⟨by rw [decide_eq_false HN.out]; rfl, 0, rfl⟩

end

section
open Go.RowKit Go.Shelf
set_option linter.unusedVariables false
set_option linter.unusedSimpArgs false
set_option maxRecDepth 20000

set_option maxHeartbeats 400000 in
theorem equal_ints (A B : Option Addr) (n c m d : Nat) (xs ys : List Int) (w : World) (h : Lies w A n (xs.map (Value.int .i64))) (k : Lies w B m (ys.map (Value.int .i64))) (hm : n ≤ 281474976710656) :
    Calls Tryz.prog 50 #[.slice A n c, .slice B m d] w fun e w' => e = .returned (.bool (decide (xs = ys))) ∧ ∃ j, w' = w.drewN j := by
  have hl1 : xs.length = n := by have := h.len; simpa using this
  have hl2 : ys.length = m := by have := k.len; simpa using this
  have HA := hide h
  have HB := hide k
  have HL1 := hide hl1
  have HL2 := hide hl2
  clear h k
  by_cases hnm : n = m
  · subst hnm
    clear hl1 hl2
    go_enter Tryz.func50, Tryz.ntmps50
    go_wp2
    go_loopw [13] (fun i wr => ∃ k : Nat, k ≤ n ∧ i = .int .i64 k ∧ Hid (xs.take k = ys.take k) ∧ ∃ j, wr = w.drewN j) (fun i _ => n - (intOf i).toNat)
    case atStart => exact ⟨0, Nat.zero_le _, rfl, hide rfl, 0, rfl⟩
    case round =>
      obtain ⟨k, hk, rfl, HT, j, rfl⟩ := hrel
      by_cases hlt : k < n
      · obtain ⟨b, o, rfl, _, hx⟩ := byte_at HA.out (by omega)
        obtain ⟨b', o', rfl, _, hy⟩ := byte_at HB.out (by omega)
        obtain ⟨z, hz⟩ : ∃ z, z = xs.getD k 0 := ⟨_, rfl⟩
        obtain ⟨u, hu⟩ : ∃ u, u = ys.getD k 0 := ⟨_, rfl⟩
        have h1 : w.cell? ⟨b, o + k, none⟩ = some (.int .i64 z) := by rw [hz]; exact hx k hlt
        have h2 : w.cell? ⟨b', o' + k, none⟩ = some (.int .i64 u) := by rw [hu]; exact hy k hlt
        have h0 : (0 : Int) ≤ (k : Int) := by omega
        have h3 : (k : Int) < (n : Int) := by omega
        have HZ := hide hz
        have HU := hide hu
        clear hx hy hz hu
        by_cases he : z = u
        · subst he
          have HN : Hid (xs.take (k + 1) = ys.take (k + 1)) := hide (take_more (by rw [HL1.out]; exact hlt) (by rw [HL2.out]; exact hlt) HT.out (by rw [← HZ.out, ← HU.out]))
          go_wp2
          go_quiet (fail)
          go_wp2
          go_roundw
          case rel => exact ⟨k + 1, by omega, by go_num, HN, _, rfl⟩
          case measure => simp [intOf]; omega
        · have HN : Hid (¬ xs = ys) := hide (by intro e; rw [HZ.out, HU.out, e] at he; exact he rfl)
          have hb1 : (z == u) = false := beq_eq_false_iff_ne.2 he
          go_wp2
          go_quiet (fail)
          go_wp2
          go_ret
          exact ⟨by rw [decide_eq_false HN.out]; rfl, _, World.drewN_drewN _ _ _⟩
      · obtain rfl : k = n := by omega
        have HE := hide (take_end HL1.out HL2.out HT.out)
        go_wp2
        go_ret
        exact ⟨by rw [decide_eq_true HE.out]; rfl, _, rfl⟩
  · have HN : Hid (¬ xs = ys) := hide (by intro e; rw [e] at hl1; omega)
    have hb1 : ((n : Int) == (m : Int)) = false := beq_eq_false_iff_ne.2 (by omega)
    clear hl1 hl2
    go_enter Tryz.func50, Tryz.ntmps50
    go_wp2
    go_ret
    exact ⟨by rw [decide_eq_false HN.out]; rfl, 0, rfl⟩

end

section
open Go.RowKit Go.Shelf
set_option linter.unusedVariables false
set_option linter.unusedSimpArgs false
set_option maxRecDepth 20000
attribute [local go_sem] Oper.semAt_some

end

section
open Go.RowKit
set_option linter.unusedSimpArgs false
set_option linter.unusedVariables false

section
variable {P : Program} {w : World}

theorem zeroCells_one (z : Value) (k : Nat) : (Builtin.zeroCells #[z] k).toList = List.replicate k z := by
  apply List.ext_getElem?
  intro j
  by_cases hj : j < k
  · simp [Builtin.zeroCells, hj, Nat.mod_one]
  · simp [Builtin.zeroCells, hj]

theorem zeroCells_size (z : Value) (k : Nat) : (Builtin.zeroCells #[z] k).size = k := by simp [Builtin.zeroCells]

theorem run_append_zeros (t tn ty e : TypeId) (i : TypeInfo) (z : Value) (kq kn : IntKind) (bytes : Nat) (ht : P.underlying t = some (.slice e)) (htn : P.underlying tn = some (.int kn)) (hi : P.info? e = some i) (hz : i.zero = some z) (hsize : i.size = 1) (hby : i.bytes = bytes) (hzc : z.cells = #[z]) (hz1 : z.oneCell' = true)
    (base : Nat) (v : Value) (n : Nat) (xs : List Value) (ho : w.ownsRow base e 1 v n xs) (hbase : base ≤ w.heap.size) (k : Nat) (hb : (n + k) * bytes ≤ 140737488355328) (h63 : n + k ≤ maxLen) :
    ∃ A' c' w', (Builtin.append_ #[t, tn] ty #[v, .int kq (k : Int)]).run P w = .ok (.slice A' (n + k) c') w' ∧ w'.ownsRow base e 1 (.slice A' (n + k) c') (n + k) (xs ++ List.replicate k z) ∧ w.grownBy w' v.ownBlock := by
  have hm : (n + k : Nat) ≤ 9223372036854775807 := by unfold maxLen at h63; exact h63
  have hkw : IntKind.i64.wrap (k : Int) = k := by rw [IntKind.wrap_i64]; omega
  have hneg : ¬ ((k : Int) < 0) := by omega
  have hkb : k * bytes ≤ 140737488355328 := Nat.le_trans (Nat.mul_le_mul_right _ (Nat.le_add_left _ _)) hb
  have h48i : ¬ (281474976710656 < (k : Int) * (i.bytes : Int)) := by
    rw [hby, ← Int.natCast_mul]; omega
  have hlen := ho.1
  by_cases hk : k = 0
  · subst hk
    rcases ho.2 with ⟨rfl, rfl⟩ | ⟨g, cap, cur, rfl, r1, r2, r3, r4, r5, r6⟩
    · refine ⟨none, 0, w, ?_, by simpa using ho, World.grownBy.refl _ _⟩
      simp [Builtin.append_, run_underlying ht, run_underlying htn, sizeOf, typeInfo, hi, hsize, asInt, asIntOf, IntKind.wrap_i64]
    · refine ⟨some ⟨g, 0, none⟩, cap, w, ?_, by simpa using ho, World.grownBy.refl _ _⟩
      simp [Builtin.append_, run_underlying ht, run_underlying htn, sizeOf, typeInfo, hi, hsize, asInt, asIntOf, IntKind.wrap_i64, r3, storeCells]
  · have hk0 : 0 < k := Nat.pos_of_ne_zero hk
    rcases ho.2 with ⟨rfl, rfl⟩ | ⟨g, cap, cur, rfl, r1, r2, r3, r4, r5, r6⟩
    · have hr := Lib.run_append_nil_zeros (P := P) w t tn ty e i z kq kn ht htn hi hz k hk0 (by omega) (by omega) (by rw [hby]; omega)
      have hge := grownCap_ge w k 0 e
      have hcm : grownCap w k 0 e ≤ maxLen := grownCap_le_maxLen w k 0 e (by omega)
      have hxs : xs = [] := List.eq_nil_of_length_eq_zero (by simpa using hlen)
      subst hxs
      refine ⟨some ⟨w.heap.size, 0, none⟩, grownCap w k 0 e, _, by rw [Nat.zero_add]; exact hr, ⟨by simp, .inr ⟨w.heap.size, _, _, rfl, hbase, heap_alloc_new w.drew _, by omega, hcm, ?_, ?_⟩⟩, ⟨rfl, rfl, rfl, by simp, fun j hj _ => heap_alloc_old w.drew _ hj⟩⟩
      · rw [hzc]; simp only [Array.size_append, zeroCells_size]; omega
      · rw [hzc, Array.toList_append, zeroCells_one, zeroCells_one]
        simp
    · by_cases hfit : n + k ≤ cap
      · have hst := run_storeCells_at P g n e (List.replicate k z) 0 cur w r2 (by simp; omega) (by intro u hu; rw [(List.mem_replicate.1 hu).2]; exact hz1)
        simp only [Nat.add_zero] at hst
        obtain ⟨cur2, hh2, hle2, hown, hgr⟩ := own_seg (w := w) (B := base) (e := e) (s := 1) (g := g) (n := cap) (c := cap) (xs := cur.toList) ⟨by simpa using r5, .inr ⟨g, cap, cur, rfl, r1, r2, Nat.le_refl _, r4, r5, by rw [List.take_of_length_le (by simp [r5])]⟩⟩ n (List.replicate k z) (by simp; omega)
        have hcc : cur2 = cur := by rw [r2] at hh2; injection hh2 with hh2; injection hh2 with hh2 _ _; exact hh2.symm
        subst hcc
        refine ⟨some ⟨g, 0, none⟩, cap, w.setRow g (cur2.toList.take n ++ List.replicate k z ++ cur2.toList.drop (n + (List.replicate k z).length)).toArray, ?_, ?_, hgr⟩
        · simp [Builtin.append_, run_underlying ht, run_underlying htn, sizeOf, typeInfo, zeroValue, hi, hz, hsize, asInt, asIntOf, hkw, hneg, h48i, hfit, hk, hzc, zeroCells_one, Addr.add_lit]
          simp at hst
          rw [hst]
          rfl
        · refine ⟨by rw [List.length_append, hlen]; simp, .inr ⟨g, cap, _, rfl, r1, setRow_heap w g cur2 _ e _ r2, hfit, r4, ?_, ?_⟩⟩
          · simp; omega
          · rw [← r6]
            apply List.ext_getElem?
            intro j
            simp only [List.getElem?_take, List.getElem?_append, List.length_append, List.length_take, List.length_replicate, Array.length_toList, List.getElem?_drop, List.getElem?_replicate, Nat.mul_one]
            have hsz : cur2.size = cap := by omega
            have m1 : min n cur2.size = n := by omega
            rw [m1]
            by_cases h1 : j < n
            · simp [h1, show j < n + k by omega]
            · by_cases h2 : j < n + k
              · simp [h1, h2, show j - n < k by omega]
              · simp [h1, h2, show ¬ j - n < k by omega]
      · have hold : (Builtin.firstCells i.size n (.slice (some ⟨g, 0, none⟩) n cap)).run P w.drew = .ok xs.toArray w.drew := by
          refine run_firstCells_some (P := P) w.drew i.size n ⟨g, 0, none⟩ n cap xs (by rw [hsize]; exact hlen) (fun j u hj => ?_)
          exact ho.cells (g := g) rfl j u hj
        have hr := Lib.run_append_grow_zeros (P := P) w t tn ty e i z kq kn ht htn hi hz (some ⟨g, 0, none⟩) n cap xs hold k hk0 (by omega) (by omega) (by omega) (by rw [hby]; omega) (growslice_fits (by omega) (by rw [hby]; exact hb))
        have hge := grownCap_ge w (n + k) cap e
        have hcm : grownCap w (n + k) cap e ≤ maxLen := grownCap_le_maxLen w (n + k) cap e h63
        refine ⟨some ⟨w.heap.size, 0, none⟩, grownCap w (n + k) cap e, _, hr, ⟨by simp at hlen ⊢; omega, .inr ⟨w.heap.size, _, _, rfl, hbase, heap_alloc_new w.drew _, hge, hcm, ?_, ?_⟩⟩, ⟨rfl, rfl, rfl, by simp, fun j hj _ => heap_alloc_old w.drew _ hj⟩⟩
        · rw [hzc]; simp only [Array.size_append, zeroCells_size, List.size_toArray, hlen]; omega
        · rw [hzc, Array.toList_append, Array.toList_append, zeroCells_one, zeroCells_one]
          rw [List.take_left' (by simp at hlen ⊢; omega)]

theorem wpList_append_zeros {ops : Array Oper} {rest : List Oper} {op : Oper} {a : Act} {Q : Exit → Act → World → Prop} (hgd : op.guard = none) (s x : Operand) (t tn : TypeId)
    (hop : op.op = .call { callee := .builtin .append, args := #[s, x], argTypes := #[t, tn] })
    (e : TypeId) (i : TypeInfo) (z : Value) (kq kn : IntKind) (bytes : Nat) (ht : P.underlying t = some (.slice e)) (htn : P.underlying tn = some (.int kn)) (hi : P.info? e = some i) (hz : i.zero = some z) (hsize : i.size = 1) (hby : i.bytes = bytes) (hzc : z.cells = #[z]) (hz1 : z.oneCell' = true)
    (base : Nat) (v : Value) (n : Nat) (xs : List Value) (hs : a.eval s = v) (ho : w.ownsRow base e 1 v n xs) (hbase : base ≤ w.heap.size) (k : Nat) (hx : a.eval x = .int kq (k : Int)) (hb : (n + k) * bytes ≤ 140737488355328) (h63 : n + k ≤ maxLen)
    (h : ∀ A' c' w', w'.ownsRow base e 1 (.slice A' (n + k) c') (n + k) (xs ++ List.replicate k z) → w.grownBy w' v.ownBlock → wpList P ops Q rest (a.put op.dst (.slice A' (n + k) c')) w') : wpList P ops Q (op :: rest) a w := by
  obtain ⟨A', c', w', hrun, h2, h3⟩ := run_append_zeros (P := P) (w := w) t tn op.type e i z kq kn bytes ht htn hi hz hsize hby hzc hz1 base v n xs ho hbase k hb h63
  exact Lib.wpList_append_run w hgd s x t tn hop v (.int kq (k : Int)) hs hx _ w' hrun (h A' c' w' h2 h3)

end

end

section
open Go.RowKit

def preV (κ : IntKind) (zs : List Int) (k : Nat) : List Value := (zs.take k).map (Value.int κ)

theorem own_part {w : World} {base : Nat} {e : TypeId} {g n m c : Nat} {xs ys : List Value} (h : w.ownsRow base e 1 (.slice (some ⟨g, 0, none⟩) m c) m (xs ++ ys)) (hx : xs.length = n) (hm : n ≤ m) : w.ownsRow base e 1 (.slice (some ⟨g, 0, none⟩) n c) n xs := by
  rcases h.2 with ⟨e0, _⟩ | ⟨g', cap, cur, e0, hb, hh, hmc, hcm, hcs, hta⟩
  · injection e0 with e0; cases e0
  · injection e0 with e0 _ e2
    injection e0 with e0
    injection e0 with e0
    subst e0
    subst e2
    refine ⟨by omega, .inr ⟨g, c, cur, rfl, hb, hh, by omega, hcm, hcs, ?_⟩⟩
    have h1 := congrArg (List.take n) hta
    rw [List.take_take, List.take_left' hx, Nat.mul_one, Nat.min_eq_left hm] at h1
    rw [Nat.mul_one]
    exact h1

end

end Go.Proofs.YtohndckbhjakfaaGreatDoor

