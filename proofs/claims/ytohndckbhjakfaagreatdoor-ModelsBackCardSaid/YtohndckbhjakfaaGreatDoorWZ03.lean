/- Merged: Zeros, Twin5, Ten5, Ten6. -/
import Derived.Test.YtohndckbhjakfaaGreatDoorWZ02
import Derived.Lib.AppendZeros
import Derived.Lib.AppendZerosOnto
import Derived.Test.YtohndckbhjakfaaGreatDoorWZ00
import Derived.OwnWalk
import Derived.Test.YtohndckbhjakfaaGreatDoorWZ01
import Derived.RangeFuncBound
import Derived.Shelf.RegionOpen
namespace Go.Proofs.YtohndckbhjakfaaGreatDoor

section
open Go.RowKit
set_option linter.unusedSimpArgs false
set_option linter.unusedVariables false

section
variable {P : Program} {w : World}

theorem zeroCells_one (z : Value) (k : Nat) : (Builtin.zeroCells #[z] k).toList = List.replicate k z := by
  apply List.ext_getElem?
  intro j
  by_cases hj : j < k
  · simp [Builtin.zeroCells, hj, Nat.mod_one]
  · simp [Builtin.zeroCells, hj]

theorem zeroCells_size (z : Value) (k : Nat) : (Builtin.zeroCells #[z] k).size = k := by simp [Builtin.zeroCells]

theorem run_append_zeros (t tn ty e : TypeId) (i : TypeInfo) (z : Value) (kq kn : IntKind) (bytes : Nat) (ht : P.underlying t = some (.slice e)) (htn : P.underlying tn = some (.int kn)) (hi : P.info? e = some i) (hz : i.zero = some z) (hsize : i.size = 1) (hby : i.bytes = bytes) (hzc : z.cells = #[z]) (hz1 : z.oneCell' = true)
    (base : Nat) (v : Value) (n : Nat) (xs : List Value) (ho : w.ownsRow base e 1 v n xs) (hbase : base ≤ w.heap.size) (k : Nat) (hb : (n + k) * bytes ≤ 140737488355328) (h63 : n + k ≤ maxLen) :
    ∃ A' c' w', (Builtin.append_ #[t, tn] ty #[v, .int kq (k : Int)]).run P w = .ok (.slice A' (n + k) c') w' ∧ w'.ownsRow base e 1 (.slice A' (n + k) c') (n + k) (xs ++ List.replicate k z) ∧ w.grownBy w' v.ownBlock := by
  have hm : (n + k : Nat) ≤ 9223372036854775807 := by unfold maxLen at h63; exact h63
  have hkw : IntKind.i64.wrap (k : Int) = k := by rw [IntKind.wrap_i64]; omega
  have hneg : ¬ ((k : Int) < 0) := by omega
  have hkb : k * bytes ≤ 140737488355328 := Nat.le_trans (Nat.mul_le_mul_right _ (Nat.le_add_left _ _)) hb
  have h48i : ¬ (281474976710656 < (k : Int) * (i.bytes : Int)) := by
    rw [hby, ← Int.natCast_mul]; omega
  have hlen := ho.1
  by_cases hk : k = 0
  · subst hk
    rcases ho.2 with ⟨rfl, rfl⟩ | ⟨g, cap, cur, rfl, r1, r2, r3, r4, r5, r6⟩
    · refine ⟨none, 0, w, ?_, by simpa using ho, World.grownBy.refl _ _⟩
      simp [Builtin.append_, run_underlying ht, run_underlying htn, sizeOf, typeInfo, hi, hsize, asInt, asIntOf, IntKind.wrap_i64]
    · refine ⟨some ⟨g, 0, none⟩, cap, w, ?_, by simpa using ho, World.grownBy.refl _ _⟩
      simp [Builtin.append_, run_underlying ht, run_underlying htn, sizeOf, typeInfo, hi, hsize, asInt, asIntOf, IntKind.wrap_i64, r3, storeCells]
  · have hk0 : 0 < k := Nat.pos_of_ne_zero hk
    rcases ho.2 with ⟨rfl, rfl⟩ | ⟨g, cap, cur, rfl, r1, r2, r3, r4, r5, r6⟩
    · have hr := Lib.run_append_nil_zeros (P := P) w t tn ty e i z kq kn ht htn hi hz k hk0 (by omega) (by omega) (by rw [hby]; omega)
      have hge := grownCap_ge w k 0 e
      have hcm : grownCap w k 0 e ≤ maxLen := grownCap_le_maxLen w k 0 e (by omega)
      have hxs : xs = [] := List.eq_nil_of_length_eq_zero (by simpa using hlen)
      subst hxs
      refine ⟨some ⟨w.heap.size, 0, none⟩, grownCap w k 0 e, _, by rw [Nat.zero_add]; exact hr, ⟨by simp, .inr ⟨w.heap.size, _, _, rfl, hbase, heap_alloc_new w.drew _, by omega, hcm, ?_, ?_⟩⟩, ⟨rfl, rfl, rfl, by simp, fun j hj _ => heap_alloc_old w.drew _ hj⟩⟩
      · rw [hzc]; simp only [Array.size_append, zeroCells_size]; omega
      · rw [hzc, Array.toList_append, zeroCells_one, zeroCells_one]
        simp
    · by_cases hfit : n + k ≤ cap
      · have hst := run_storeCells_at P g n e (List.replicate k z) 0 cur w r2 (by simp; omega) (by intro u hu; rw [(List.mem_replicate.1 hu).2]; exact hz1)
        simp only [Nat.add_zero] at hst
        obtain ⟨cur2, hh2, hle2, hown, hgr⟩ := own_seg (w := w) (B := base) (e := e) (s := 1) (g := g) (n := cap) (c := cap) (xs := cur.toList) ⟨by simpa using r5, .inr ⟨g, cap, cur, rfl, r1, r2, Nat.le_refl _, r4, r5, by rw [List.take_of_length_le (by simp [r5])]⟩⟩ n (List.replicate k z) (by simp; omega)
        have hcc : cur2 = cur := by rw [r2] at hh2; injection hh2 with hh2; injection hh2 with hh2 _ _; exact hh2.symm
        subst hcc
        refine ⟨some ⟨g, 0, none⟩, cap, w.setRow g (cur2.toList.take n ++ List.replicate k z ++ cur2.toList.drop (n + (List.replicate k z).length)).toArray, ?_, ?_, hgr⟩
        · simp [Builtin.append_, run_underlying ht, run_underlying htn, sizeOf, typeInfo, zeroValue, hi, hz, hsize, asInt, asIntOf, hkw, hneg, h48i, hfit, hk, hzc, zeroCells_one, Addr.add_lit]
          simp at hst
          rw [hst]
          rfl
        · refine ⟨by rw [List.length_append, hlen]; simp, .inr ⟨g, cap, _, rfl, r1, setRow_heap w g cur2 _ e _ r2, hfit, r4, ?_, ?_⟩⟩
          · simp; omega
          · rw [← r6]
            apply List.ext_getElem?
            intro j
            simp only [List.getElem?_take, List.getElem?_append, List.length_append, List.length_take, List.length_replicate, Array.length_toList, List.getElem?_drop, List.getElem?_replicate, Nat.mul_one]
            have hsz : cur2.size = cap := by omega
            have m1 : min n cur2.size = n := by omega
            rw [m1]
            by_cases h1 : j < n
            · simp [h1, show j < n + k by omega]
            · by_cases h2 : j < n + k
              · simp [h1, h2, show j - n < k by omega]
              · simp [h1, h2, show ¬ j - n < k by omega]
      · have hold : (Builtin.firstCells i.size n (.slice (some ⟨g, 0, none⟩) n cap)).run P w.drew = .ok xs.toArray w.drew := by
          refine run_firstCells_some (P := P) w.drew i.size n ⟨g, 0, none⟩ n cap xs (by rw [hsize]; exact hlen) (fun j u hj => ?_)
          exact ho.cells (g := g) rfl j u hj
        have hr := Lib.run_append_grow_zeros (P := P) w t tn ty e i z kq kn ht htn hi hz (some ⟨g, 0, none⟩) n cap xs hold k hk0 (by omega) (by omega) (by omega) (by rw [hby]; omega) (growslice_fits (by omega) (by rw [hby]; exact hb))
        have hge := grownCap_ge w (n + k) cap e
        have hcm : grownCap w (n + k) cap e ≤ maxLen := grownCap_le_maxLen w (n + k) cap e h63
        refine ⟨some ⟨w.heap.size, 0, none⟩, grownCap w (n + k) cap e, _, hr, ⟨by simp at hlen ⊢; omega, .inr ⟨w.heap.size, _, _, rfl, hbase, heap_alloc_new w.drew _, hge, hcm, ?_, ?_⟩⟩, ⟨rfl, rfl, rfl, by simp, fun j hj _ => heap_alloc_old w.drew _ hj⟩⟩
        · rw [hzc]; simp only [Array.size_append, zeroCells_size, List.size_toArray, hlen]; omega
        · rw [hzc, Array.toList_append, Array.toList_append, zeroCells_one, zeroCells_one]
          rw [List.take_left' (by simp at hlen ⊢; omega)]

theorem wpList_append_zeros {ops : Array Oper} {rest : List Oper} {op : Oper} {a : Act} {Q : Exit → Act → World → Prop} (hgd : op.guard = none) (s x : Operand) (t tn : TypeId)
    (hop : op.op = .call { callee := .builtin .append, args := #[s, x], argTypes := #[t, tn] })
    (e : TypeId) (i : TypeInfo) (z : Value) (kq kn : IntKind) (bytes : Nat) (ht : P.underlying t = some (.slice e)) (htn : P.underlying tn = some (.int kn)) (hi : P.info? e = some i) (hz : i.zero = some z) (hsize : i.size = 1) (hby : i.bytes = bytes) (hzc : z.cells = #[z]) (hz1 : z.oneCell' = true)
    (base : Nat) (v : Value) (n : Nat) (xs : List Value) (hs : a.eval s = v) (ho : w.ownsRow base e 1 v n xs) (hbase : base ≤ w.heap.size) (k : Nat) (hx : a.eval x = .int kq (k : Int)) (hb : (n + k) * bytes ≤ 140737488355328) (h63 : n + k ≤ maxLen)
    (h : ∀ A' c' w', w'.ownsRow base e 1 (.slice A' (n + k) c') (n + k) (xs ++ List.replicate k z) → w.grownBy w' v.ownBlock → wpList P ops Q rest (a.put op.dst (.slice A' (n + k) c')) w') : wpList P ops Q (op :: rest) a w := by
  obtain ⟨A', c', w', hrun, h2, h3⟩ := run_append_zeros (P := P) (w := w) t tn op.type e i z kq kn bytes ht htn hi hz hsize hby hzc hz1 base v n xs ho hbase k hb h63
  exact Lib.wpList_append_run w hgd s x t tn hop v (.int kq (k : Int)) hs hx _ w' hrun (h A' c' w' h2 h3)

end

end

section
open Go.RowKit

def preV (κ : IntKind) (zs : List Int) (k : Nat) : List Value := (zs.take k).map (Value.int κ)

theorem own_part {w : World} {base : Nat} {e : TypeId} {g n m c : Nat} {xs ys : List Value} (h : w.ownsRow base e 1 (.slice (some ⟨g, 0, none⟩) m c) m (xs ++ ys)) (hx : xs.length = n) (hm : n ≤ m) : w.ownsRow base e 1 (.slice (some ⟨g, 0, none⟩) n c) n xs := by
  rcases h.2 with ⟨e0, _⟩ | ⟨g', cap, cur, e0, hb, hh, hmc, hcm, hcs, hta⟩
  · injection e0 with e0; cases e0
  · injection e0 with e0 _ e2
    injection e0 with e0
    injection e0 with e0
    subst e0
    subst e2
    refine ⟨by omega, .inr ⟨g, c, cur, rfl, hb, hh, by omega, hcm, hcs, ?_⟩⟩
    have h1 := congrArg (List.take n) hta
    rw [List.take_take, List.take_left' hx, Nat.mul_one, Nat.min_eq_left hm] at h1
    rw [Nat.mul_one]
    exact h1

end

section
open Go.RowKit
set_option linter.unusedVariables false
set_option linter.unusedSimpArgs false
set_option maxRecDepth 20000

/-- A row of the call's own, seen as far as it reaches. -/
theorem own_full {w : World} {base : Nat} {e : TypeId} {g n c : Nat} {xs : List Value} (h : w.ownsRow base e 1 (.slice (some ⟨g, 0, none⟩) n c) n xs) :
    ∃ ys, w.ownsRow base e 1 (.slice (some ⟨g, 0, none⟩) c c) c ys ∧ ys.take n = xs ∧ n ≤ c := by
  rcases h.2 with ⟨h0, _⟩ | ⟨g', cap, cur, h0, hb, hg, hm, hl, hz, ht⟩
  · cases h0
  · cases h0
    exact ⟨cur.toList, own_of_block hb (by simpa using hg) (by simp [hz]) (Nat.le_refl _) hl (by rw [List.take_of_length_le (by simp [hz])]), by simpa using ht, hm⟩

set_option maxHeartbeats 1000000 in
theorem grow_any (g n c k base : Nat) (xs : List Value) (w : World) (ho : w.ownsRow base 5 1 (.slice (some ⟨g, 0, none⟩) n c) n xs) (hbase : base ≤ w.heap.size) (hn : n ≤ 1073741824) (hk : k ≤ 1073741824) :
    Calls Tryz.prog 52 #[.slice (some ⟨g, 0, none⟩) n c, .int .i64 (k : Int)] w fun e w' => ∃ g' c', e = .returned (.slice (some ⟨g', 0, none⟩) n c') ∧ w'.ownsRow base 5 1 (.slice (some ⟨g', 0, none⟩) n c') n xs ∧ w.grownBy w' (some g) := by
  obtain ⟨i, hi, hz0, hz1, hz2⟩ := info_parts Tryz.infoB
  obtain ⟨ys, hf, hys, hnc⟩ := own_full ho
  have HI := hide hi
  have HZ0 := hide hz0
  have HZ1 := hide hz1
  have HZ2 := hide hz2
  have HO := hide ho
  have HF := hide hf
  have HYS := hide hys
  have hcm : c ≤ maxLen := by
    rcases ho.2 with ⟨h0, _⟩ | ⟨g', cap, cur, h0, hb, hg, hm, hl, hz, ht⟩
    · cases h0
    · cases h0; exact hl
  have HCM := hide hcm
  unfold maxLen at hcm
  clear ho hi hz0 hz1 hz2 hf hys
  have hneg : ¬ ((k : Int) < 0) := by omega
  by_cases hfit : n + k ≤ c
  · have h2 : (k : Int) - ((c : Int) - (n : Int)) ≤ 0 := by omega
    go_enter Tryz.func52, Tryz.ntmps52
    go_wp2
    go_ret
    exact ⟨g, c, rfl, HO.out, World.grownBy.refl _ _⟩
  · obtain ⟨q, hq⟩ : ∃ q : Nat, n + k = c + q := ⟨n + k - c, by omega⟩
    have h2 : (k : Int) - ((c : Int) - (n : Int)) = (q : Int) := by omega
    have hq0 : 0 < q := by omega
    go_enter Tryz.func52, Tryz.ntmps52
    go_wp2_with (at_builtin; refine wpList_append_zeros rfl _ _ 30 3 rfl 5 i (.int .u8 0) .i64 .i64 1 Tryz.underlying30 Tryz.underlying3 HI.out HZ0.out HZ1.out HZ2.out rfl rfl base (.slice (some ⟨g, 0, none⟩) c c) c ys rfl HF.out hbase q rfl (by omega) (by unfold maxLen; omega) ?_)
    intro A' c' w' ho' hg'
    obtain ⟨g', rfl⟩ : ∃ g', A' = some ⟨g', 0, none⟩ := by
      rcases ho'.2 with ⟨_, h0⟩ | ⟨g', cap, cur, h0, _⟩
      · omega
      · cases h0; exact ⟨g', rfl⟩
    have hcc : c + q ≤ c' := (own_full ho').choose_spec.2.2
    have HB : Hid (w.grownBy w' (some g)) := hide hg'
    have HP : Hid (w'.ownsRow base 5 1 (.slice (some ⟨g', 0, none⟩) n c') n xs) := hide (by
      have e : ys ++ List.replicate q (Value.int .u8 0) = xs ++ (ys.drop n ++ List.replicate q (Value.int .u8 0)) := by
        rw [← List.append_assoc, ← HYS.out, List.take_append_drop]
      rw [e] at ho'
      exact own_part ho' (by have := HO.out.1; omega) (by omega))
    clear ho' hg'
    go_wp2
    go_ret
    exact ⟨g', c', rfl, HP.out, HB.out⟩

end

section
open Go.RowKit Go.Shelf
set_option linter.unusedVariables false
set_option linter.unusedSimpArgs false
set_option maxRecDepth 20000
attribute [local go_sem] Oper.semAt_some

/-- The bytes of a tensor. -/
def tenB (s l : List Int) : List Int := (s.length : Int) :: s ++ enc l

theorem four_wrap (z : Int) : four (IntKind.u32.wrap z) = four z := by
  unfold four
  rw [IntKind.wrap_u32]
  congr 1
  · omega
  · congr 1
    · omega
    · congr 1
      · omega
      · congr 1
        omega

/-- What holds between two rounds of Put's loop. -/
def putI (w : World) (n : Nat) (s l : List Int) (p : Nat) (k : Nat) (W : World) : Prop :=
  (∃ g c', Box1 W p 30 (.slice (some ⟨g, 0, none⟩) (n + 1 + 4 * k) c') ∧ W.ownsRow w.heap.size 5 1 (.slice (some ⟨g, 0, none⟩) (n + 1 + 4 * k) c') (n + 1 + 4 * k) (((n : Int) :: s ++ enc (l.take k)).map (Value.int .u8))) ∧ Below w.heap.size w W

theorem own_some {w : World} {base : Nat} {e : TypeId} {A : Option Addr} {n c : Nat} {xs : List Value} (h : w.ownsRow base e 1 (.slice A n c) n xs) (hn : 0 < n) : ∃ g, A = some ⟨g, 0, none⟩ := by
  rcases h.2 with ⟨_, h0⟩ | ⟨g', cap, cur, h0, _⟩
  · omega
  · cases h0; exact ⟨g', rfl⟩

end

end Go.Proofs.YtohndckbhjakfaaGreatDoor

