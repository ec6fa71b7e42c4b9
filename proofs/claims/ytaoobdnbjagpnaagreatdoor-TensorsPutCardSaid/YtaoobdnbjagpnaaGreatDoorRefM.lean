/- Merged: Ref05, Ref05b, Ref05c. -/
import Derived.Test.YtaoobdnbjagpnaaGreatDoorRef04b
import Derived.Test.YtaoobdnbjagpnaaGreatDoorTen9
import Derived.Test.YtaoobdnbjagpnaaGreatDoorSameG
import Derived.Test.YtaoobdnbjagpnaaGreatDoorTMath2
import Derived.Test.YtaoobdnbjagpnaaGreatDoorBookM
import Derived.Test.YtaoobdnbjagpnaaGreatDoorRef01
import Derived.Deep.RegionLaw
namespace Go.Proofs.YtaoobdnbjagpnaaGreatDoor

section
open Go.RowKit
set_option linter.unusedVariables false
set_option linter.unusedSimpArgs false

set_option maxRecDepth 100000 in
set_option maxHeartbeats 400000 in
theorem rsame_ints (A B : Option Addr) (n c m d : Nat) (xs ys : List Int) (w : World) (h : Lies w A n (xs.map (Value.int .i64))) (k : Lies w B m (ys.map (Value.int .i64))) (hm : n ≤ 281474976710656) :
    Calls Tryz.prog 41 #[.slice A n c, .slice B m d] w fun e w' => e = .returned (.bool (decide (xs = ys))) ∧ ∃ j, w' = w.drewN j := by
  have hl1 : xs.length = n := by have := h.len; simpa using this
  have hl2 : ys.length = m := by have := k.len; simpa using this
  have HA := hide h
  have HB := hide k
  have HL1 := hide hl1
  have HL2 := hide hl2
  clear h k
  by_cases hnm : n = m
  · subst hnm
    clear hl1 hl2
    go_enter Tryz.func41, Tryz.ntmps41
    go_wp2
    go_loopw [5] (fun i wr => ∃ k : Nat, k ≤ n ∧ i = .int .i64 k ∧ Hid (xs.take k = ys.take k) ∧ ∃ j, wr = w.drewN j) (fun i _ => n - (intOf i).toNat)
    case atStart => exact ⟨0, Nat.zero_le _, rfl, hide rfl, 0, rfl⟩
    case round =>
      obtain ⟨k, hk, rfl, HT, j, rfl⟩ := hrel
      by_cases hlt : k < n
      · obtain ⟨b, o, rfl, _, hx⟩ := byte_at HA.out (by omega)
        obtain ⟨b', o', rfl, _, hy⟩ := byte_at HB.out (by omega)
        obtain ⟨z, hz⟩ : ∃ z, z = xs.getD k 0 := ⟨_, rfl⟩
        obtain ⟨u, hu⟩ : ∃ u, u = ys.getD k 0 := ⟨_, rfl⟩
        have h1 : w.cell? ⟨b, o + k, none⟩ = some (.int .i64 z) := by rw [hz]; exact hx k hlt
        have h2 : w.cell? ⟨b', o' + k, none⟩ = some (.int .i64 u) := by rw [hu]; exact hy k hlt
        have h0 : (0 : Int) ≤ (k : Int) := by omega
        have h3 : (k : Int) < (n : Int) := by omega
        have HZ := hide hz
        have HU := hide hu
        clear hx hy hz hu
        by_cases he : z = u
        · subst he
          have HN : Hid (xs.take (k + 1) = ys.take (k + 1)) := hide (take_more (by rw [HL1.out]; exact hlt) (by rw [HL2.out]; exact hlt) HT.out (by rw [← HZ.out, ← HU.out]))
          go_wp2
          go_quiet (fail)
          go_wp2
          go_roundw
          case rel => exact ⟨k + 1, by omega, by go_num, HN, _, rfl⟩
          case measure => simp [intOf]; omega
        · have HN : Hid (¬ xs = ys) := hide (by intro e; rw [HZ.out, HU.out, e] at he; exact he rfl)
          have hb1 : (z == u) = false := beq_eq_false_iff_ne.2 he
          go_wp2
          go_quiet (fail)
          go_wp2
          go_ret
          exact ⟨by rw [decide_eq_false HN.out]; rfl, _, World.drewN_drewN _ _ _⟩
      · obtain rfl : k = n := by omega
        have HE := hide (take_end HL1.out HL2.out HT.out)
        go_wp2
        go_ret
        exact ⟨by rw [decide_eq_true HE.out]; rfl, _, rfl⟩
  · have HN : Hid (¬ xs = ys) := hide (by intro e; rw [e] at hl1; omega)
    have hb1 : ((n : Int) == (m : Int)) = false := beq_eq_false_iff_ne.2 (by omega)
    clear hl1 hl2
    go_enter Tryz.func41, Tryz.ntmps41
    go_wp2
    go_ret
    exact ⟨by rw [decide_eq_false HN.out]; rfl, 0, rfl⟩

theorem quiet_of_still {f : FuncId} {args : Array Value} {w : World} {E : Ending} (h : Calls Tryz.prog f args w fun e w' => e = E ∧ w = w') :
    Calls Tryz.prog f args w fun e w' => e = E ∧ w' = w := h.mono fun _ _ ⟨a, b⟩ => ⟨a, b.symm⟩
theorem pick_decide {a b : Bool} : (a && b) = (if a = true then b else false) := by cases a <;> rfl

set_option maxHeartbeats 1000000 in
theorem rtcheck_any (A B : Option Addr) (n c m d : Nat) (s : List Int) (w : World) (hA : Lies w A n (s.map (Value.int .i64))) (hn : n ≤ 281474976710656) :
    Calls Tryz.prog 13 #[tenV A n c B m d] w fun e w' => e = .returned (.bool (tenOk s m)) ∧ Below w.heap.size w w' := by
  obtain ⟨W, hW⟩ : ∃ W, W = w.alloc (.cells #[.slice A n c, .slice B m d] 25) := ⟨_, rfl⟩
  have HX : Hid (BoxT W w.heap.size (.slice A n c) (.slice B m d)) := hide (by rw [hW]; exact BoxT.new w _ _)
  have HB : Hid (Below w.heap.size w W) := hide (by rw [hW]; exact (Below.refl w.heap.size w).alloc (Nat.le_refl _) _)
  have HA := hide (hA.below HB.out)
  have hW' := hW.symm
  clear hW hA
  have a0 := HX.out.c0
  have a1 := HX.out.c1
  by_cases h0 : 0 < sizeI s
  · have HD : Hid (decide (0 < sizeI s) = true) := hide (decide_eq_true h0)
    by_cases h1 : (m : Int) = sizeI s
    · have HT : Hid (tenOk s m = true) := hide (tenOk_iff.2 ⟨h0, h1.symm⟩)
      have HQ : Hid (sizeI s = (m : Int)) := hide h1.symm
      have HC1 : Hid (∀ k, Calls Tryz.prog 37 #[.slice A n c] (W.drewN k) fun e w' => e = .returned (.bool true) ∧ w' = W.drewN k) := hide (fun k => by have h := quiet_of_still (rcheck_any A n c s (W.drewN k) (HA.out.drewN k) hn); rw [HD.out] at h; exact h)
      have HC2 : Hid (∀ k, Calls Tryz.prog 38 #[.slice A n c] (W.drewN k) fun e w' => e = .returned (.int .i64 (m : Int)) ∧ w' = W.drewN k) := hide (fun k => by have h := quiet_of_still (rsize_any A n c s (W.drewN k) (HA.out.drewN k) hn); rw [HQ.out] at h; exact h)
      clear h0 h1
      go_enter Tryz.func13, Tryz.ntmps13
      go_wp2
      go_quiet ((first
        | (go_at_call 37; exact Calls.quiet_of_same (HC1.out _))
        | (go_at_call 38; exact Calls.quiet_of_same (HC2.out _))))
      go_wp2
      go_ret
      exact ⟨by rw [HT.out]; rfl, below_drewN HB.out _⟩
    · have HT : Hid (tenOk s m = false) := hide (by simp [tenOk, h0]; omega)
      have hq : ((m : Int) == sizeI s) = false := beq_eq_false_iff_ne.2 h1
      obtain ⟨z, hz⟩ : ∃ z, z = sizeI s := ⟨_, rfl⟩
      rw [← hz] at hq
      have HZ : Hid (sizeI s = z) := hide hz.symm
      have HC1 : Hid (∀ k, Calls Tryz.prog 37 #[.slice A n c] (W.drewN k) fun e w' => e = .returned (.bool true) ∧ w' = W.drewN k) := hide (fun k => by have h := quiet_of_still (rcheck_any A n c s (W.drewN k) (HA.out.drewN k) hn); rw [HD.out] at h; exact h)
      have HC2 : Hid (∀ k, Calls Tryz.prog 38 #[.slice A n c] (W.drewN k) fun e w' => e = .returned (.int .i64 z) ∧ w' = W.drewN k) := hide (fun k => by have h := quiet_of_still (rsize_any A n c s (W.drewN k) (HA.out.drewN k) hn); rw [HZ.out] at h; exact h)
      clear h0 h1 hz
      go_enter Tryz.func13, Tryz.ntmps13
      go_wp2
      go_quiet ((first
        | (go_at_call 37; exact Calls.quiet_of_same (HC1.out _))
        | (go_at_call 38; exact Calls.quiet_of_same (HC2.out _))))
      go_wp2
      go_ret
      exact ⟨by rw [HT.out]; rfl, below_drewN HB.out _⟩
  · have HD : Hid (decide (0 < sizeI s) = false) := hide (decide_eq_false h0)
    have HT : Hid (tenOk s m = false) := hide (by simp [tenOk, h0])
    have HC1 : Hid (∀ k, Calls Tryz.prog 37 #[.slice A n c] (W.drewN k) fun e w' => e = .returned (.bool false) ∧ w' = W.drewN k) := hide (fun k => by have h := quiet_of_still (rcheck_any A n c s (W.drewN k) (HA.out.drewN k) hn); rw [HD.out] at h; exact h)
    clear h0
    go_enter Tryz.func13, Tryz.ntmps13
    go_wp2
    go_quiet ((first
      | (go_at_call 37; exact Calls.quiet_of_same (HC1.out _))))
    go_wp2
    go_ret
    exact ⟨by rw [HT.out]; rfl, below_drewN HB.out _⟩

set_option maxHeartbeats 800000 in
theorem rtnew_err (A : Option Addr) (n c : Nat) (s : List Int) (w : World) (h : Lies w A n (s.map (Value.int .i64))) (hn : n ≤ 281474976710656) (hs : ¬ 0 < sizeI s) :
    Calls Tryz.prog 11 #[.slice A n c] w fun e w' => e = .returned (.tuple #[tenV none 0 0 none 0 0, .int .i64 1]) ∧ Below w.heap.size w w' := by
  have HA := hide h
  have HD : Hid (decide (0 < sizeI s) = false) := hide (decide_eq_false hs)
  have HBX := hide (BoxT.new w (.slice none 0 0) (.slice none 0 0))
  have HBB := hide ((((Below.refl w.heap.size w).alloc (Nat.le_refl _) (.cells #[.slice none 0 0, .slice none 0 0] 25))))
  clear h hs
  go_enter Tryz.func11, Tryz.ntmps11
  go_wp2_with fail
  refine Calls.mono (rcheck_any A n c s _ (HA.out.alloc _) hn) ?_
  rintro e w2 ⟨rfl, rfl⟩
  rw [HD.out]
  go_wp2_with (refine wpList_store_row rfl 25 _ _ rfl w.heap.size #[.slice none 0 0, .slice none 0 0] rfl rfl 25 _ HBX.out sizeT rfl (by simp [Value.oneCell']) ?_)
  (try simp only [Exit.inBlock, Exit.then])
  refine ret_ten (p := 2) (u := 3) rfl rfl w.heap.size _ rfl (HBX.out.set _ _) rfl ?_
  exact ⟨rfl, below_setRow HBB.out (Nat.le_refl _) _⟩

set_option maxHeartbeats 800000 in
theorem rtnew_ok (A : Option Addr) (n c q : Nat) (s : List Int) (w : World) (h : Lies w A n (s.map (Value.int .i64))) (hnil : A = none → c = 0) (hq : sizeI s = (q : Int)) (hp : 0 < q) :
    Calls Tryz.prog 11 #[.slice A n c] w fun e w' => ∃ A1 c1 g2, e = .returned (.tuple #[tenV A1 n c1 (some ⟨g2, 0, none⟩) q q, .int .i64 0]) ∧
      Lies w' A1 n (s.map (Value.int .i64)) ∧ Lies w' (some ⟨g2, 0, none⟩) q ((List.replicate q (0 : Int)).map (Value.int .i32)) ∧ Below w.heap.size w w' := by
  have hlen : s.length = n := by have := h.len; simpa using this
  obtain ⟨hn1, hn4, _⟩ := sizeI_pos (xs := s) (by omega)
  rw [hlen] at hn1 hn4
  have hq4 := sizeI_le s
  have HA := hide h
  have HD : Hid (decide (0 < sizeI s) = true) := hide (decide_eq_true (by omega))
  have HQ := hide hq
  have HNIL := hide hnil
  obtain ⟨i0, hi, hz0, hz1, hz2⟩ := info_parts Tryz.infoI
  have HI := hide hi
  have HZ0 := hide hz0
  have HZ1 := hide hz1
  have HZ2 := hide hz2
  clear h hq hlen hi hz0 hz1 hz2 hnil
  obtain ⟨W, hW⟩ : ∃ W, W = w.alloc (.cells #[.slice none 0 0, .slice none 0 0] 25) := ⟨_, rfl⟩
  have HBX : Hid (BoxT W w.heap.size (.slice none 0 0) (.slice none 0 0)) := hide (by rw [hW]; exact BoxT.new w _ _)
  have HBB : Hid (Below w.heap.size w W) := hide (by rw [hW]; exact (Below.refl w.heap.size w).alloc (Nat.le_refl _) _)
  have hW' := hW.symm
  clear hW
  go_enter Tryz.func11, Tryz.ntmps11
  go_wp2_with fail
  refine Calls.mono (rcheck_any A n c s _ (HA.out.below HBB.out) (by omega)) ?_
  rintro e w2 ⟨rfl, rfl⟩
  rw [HD.out]
  go_wp2_with (at_builtin; with_reducible refine wpList_append_nil rfl (.const (.slice none 0 0)) (.tmp 8) 22 rfl 3 i0 (.int .i64 0) 8 Tryz.underlying22 HI.out HZ0.out HZ1.out HZ2.out rfl rfl A n c .i64 s rfl (HA.out.below HBB.out) HNIL.out (by omega) (by unfold maxLen; omega) ?_)
  intro A1 c1 w3 ho1 hb3
  have hs23 := hb3.size
  have HBX3 := hide (HBX.out.kept hb3)
  have hlt3 := HBX.out.lt
  have HB3 := hide (HBB.out.trans (hb3.mono HBB.out.size))
  have HO1 := hide ho1
  clear ho1 hb3 HBX
  go_wp2_with fail
  refine Calls.mono (rsize_any A n c s w3 (HA.out.below HB3.out) (by omega)) ?_
  rintro e w4 ⟨rfl, rfl⟩
  have hsz := HB3.out.size
  rw [HQ.out]
  have hmk := make_nums [] (q : Int) q rfl (by have := HQ.out; omega) w3
  have HBX5 := hide (HBX3.out.alloc (.cells (part [] q 0).toArray 21))
  have hmk5 := heap_alloc_new w3 (.cells (part [] q 0).toArray 21)
  have HMK := hide hmk5
  clear HBX3 hmk5
  go_wp2_with (refine wpList_store_row rfl 25 _ _ rfl w.heap.size #[.slice A1 n c1, .slice (some ⟨w3.heap.size, 0, none⟩) q q] rfl rfl 25 _ HBX5.out sizeT rfl (by simp [Value.oneCell']) ?_)
  (try simp only [Exit.inBlock, Exit.then])
  refine ret_ten (p := 2) (u := 3) rfl rfl w.heap.size _ rfl (HBX5.out.set _ _) rfl ?_
  refine ⟨A1, c1, w3.heap.size, rfl, ?_, ?_, below_setRow (HB3.out.alloc (by omega) _) (Nat.le_refl _) _⟩
  · exact lies_of_own (own_setRow (HO1.out.alloc _) hlt3 _)
  · have h0 : World.ownsRow (w3.alloc (.cells (part [] q 0).toArray 21)) w3.heap.size 21 1 (.slice (some ⟨w3.heap.size, 0, none⟩) q q) q (List.replicate q (.int .i32 0)) := own_of_block (Nat.le_refl _) HMK.out (by rw [part_none]; simp) (Nat.le_refl _) (by unfold maxLen; have := HQ.out; omega) (by rw [part_none]; simp)
    have hne : w.heap.size ≠ w3.heap.size := by omega
    rw [List.map_replicate]
    exact lies_of_own (own_setRow h0 (by omega) _)

/-- What At answers: a number and an error. -/
def atV (s l ys : List Int) (m : Nat) : Int := if tenOk s m = true ∧ okAt s ys = true then l.getD (valI s ys).toNat 0 else 0
def atE (s ys : List Int) (m : Nat) : Int := if tenOk s m = true ∧ okAt s ys = true then 0 else 1

set_option maxHeartbeats 800000 in
theorem tat_any (A B At' : Option Addr) (n c m d k ck : Nat) (s l ys : List Int) (w : World) (hA : Lies w A n (s.map (Value.int .i64))) (hB : Lies w B m (l.map (Value.int .i32))) (hY : Lies w At' k (ys.map (Value.int .i64)))
    (hn : n ≤ 281474976710656) (hk : k ≤ 281474976710656) :
    Calls Tryz.prog 8 #[tenV A n c B m d, .slice At' k ck] w fun e w' => e = .returned (.tuple #[.int .i32 (atV s l ys m), .int .i64 (atE s ys m)]) ∧ Below w.heap.size w w' := by
  have HA := hide hA
  have HY := hide hY
  have HBL := hide hB
  obtain ⟨W, hW⟩ : ∃ W, W = w.alloc (.cells #[.slice A n c, .slice B m d] 25) := ⟨_, rfl⟩
  have HBX : Hid (BoxT W w.heap.size (.slice A n c) (.slice B m d)) := hide (by rw [hW]; exact BoxT.new w _ _)
  have HBB : Hid (Below w.heap.size w W) := hide (by rw [hW]; exact (Below.refl w.heap.size w).alloc (Nat.le_refl _) _)
  have hW' := hW.symm
  clear hW hA hB hY
  have a0 := HBX.out.c0
  have a1 := HBX.out.c1
  by_cases h1 : tenOk s m = true
  · have H1 := hide h1
    obtain ⟨q1, q2⟩ := tenOk_iff.1 h1
    by_cases h2 : okAt s ys = true
    · have hv := valI_bound (xs := s) (ys := ys) (size_dims q1) (by unfold okAt at h2; simp only [Bool.and_eq_true] at h2; exact h2.2.2)
      rw [← (sizeI_pos q1).2.2, q2] at hv
      obtain ⟨b, o, rfl, hbl, hx⟩ := byte_at HBL.out (by omega)
      have HX := hide (hx (valI s ys).toNat (by omega))
      have HV : Hid (idxV s ys = valI s ys) := hide (by rw [idxV, if_pos h2])
      have HE : Hid (idxE s ys = 0) := hide (by rw [idxE, if_pos h2])
      have HR : Hid (atV s l ys m = l.getD (valI s ys).toNat 0 ∧ atE s ys m = 0) := hide (by rw [atV, atE, if_pos ⟨h1, h2⟩, if_pos ⟨h1, h2⟩]; exact ⟨rfl, rfl⟩)
      clear h1 h2 q1 q2 hx
      go_enter Tryz.func8, Tryz.ntmps8
      go_wp2_with fail
      refine Calls.mono (tcheck_any A (some ⟨b, o, none⟩) n c m d s _ (HA.out.below HBB.out) hn) ?_
      rintro e w2 ⟨rfl, hb⟩
      rw [H1.out]
      have HB2 := hide (HBB.out.trans (hb.mono HBB.out.size))
      have HBX2 := hide (HBX.out.kept hb)
      clear hb a0 a1
      have hc0 := HBX2.out.c0
      go_wp2_with fail
      refine Calls.mono (index_any A At' n c k ck s ys w2 (HA.out.below HB2.out) (HY.out.below HB2.out) hn hk) ?_
      rintro e w3 ⟨rfl, hb⟩
      rw [HV.out, HE.out]
      have hc1 := (HBX2.out.kept hb).c1
      have HB3 := hide (HB2.out.trans (hb.mono HB2.out.size))
      have hcx : w3.cell? ⟨b, o + (valI s ys).toNat, none⟩ = some (.int .i32 (l.getD (valI s ys).toNat 0)) := (HB3.out.cell (p := ⟨b, o + (valI s ys).toNat, none⟩) hbl).trans HX.out
      clear hb hc0
      obtain ⟨i, hi⟩ : ∃ i, i = (valI s ys).toNat := ⟨_, rfl⟩
      obtain ⟨z, hz⟩ : ∃ z, z = l.getD i 0 := ⟨_, rfl⟩
      have hvi : valI s ys = (i : Int) := by omega
      rw [← hi, ← hz] at hcx
      rw [hvi] at hv ⊢
      have him : i < m := by omega
      have HIZ : Hid (z = l.getD (valI s ys).toNat 0) := hide (by rw [hz, hi])
      clear hi hz hvi hv
      go_wp2
      go_ret2
      exact ⟨by rw [HR.out.1, HR.out.2, ← HIZ.out]; rfl, HB3.out⟩
    · have HV : Hid (idxV s ys = 0) := hide (by rw [idxV, if_neg h2])
      have HE : Hid (idxE s ys = 1) := hide (by rw [idxE, if_neg h2])
      have HR : Hid (atV s l ys m = 0 ∧ atE s ys m = 1) := hide (by rw [atV, atE, if_neg (fun h => h2 h.2), if_neg (fun h => h2 h.2)]; exact ⟨rfl, rfl⟩)
      clear h1 h2 q1 q2
      go_enter Tryz.func8, Tryz.ntmps8
      go_wp2_with fail
      refine Calls.mono (tcheck_any A B n c m d s _ (HA.out.below HBB.out) hn) ?_
      rintro e w2 ⟨rfl, hb⟩
      rw [H1.out]
      have HB2 := hide (HBB.out.trans (hb.mono HBB.out.size))
      have HBX2 := hide (HBX.out.kept hb)
      clear hb a0 a1
      have hc0 := HBX2.out.c0
      go_wp2_with fail
      refine Calls.mono (index_any A At' n c k ck s ys w2 (HA.out.below HB2.out) (HY.out.below HB2.out) hn hk) ?_
      rintro e w3 ⟨rfl, hb⟩
      rw [HV.out, HE.out]
      have HB3 := hide (HB2.out.trans (hb.mono HB2.out.size))
      clear hb hc0
      go_wp2
      go_ret2
      exact ⟨by rw [HR.out.1, HR.out.2]; rfl, HB3.out⟩
  · have H1 : Hid (tenOk s m = false) := hide (by simpa using h1)
    have HR : Hid (atV s l ys m = 0 ∧ atE s ys m = 1) := hide (by rw [atV, atE, if_neg (fun h => h1 h.1), if_neg (fun h => h1 h.1)]; exact ⟨rfl, rfl⟩)
    clear h1
    go_enter Tryz.func8, Tryz.ntmps8
    go_wp2_with fail
    refine Calls.mono (tcheck_any A B n c m d s _ (HA.out.below HBB.out) hn) ?_
    rintro e w2 ⟨rfl, hb⟩
    rw [H1.out]
    have HB2 := hide (HBB.out.trans (hb.mono HBB.out.size))
    clear hb a0 a1
    go_wp2
    go_ret2
    exact ⟨by rw [HR.out.1, HR.out.2]; rfl, HB2.out⟩

set_option maxHeartbeats 800000 in
theorem rtat_any (A B At' : Option Addr) (n c m d k ck : Nat) (s l ys : List Int) (w : World) (hA : Lies w A n (s.map (Value.int .i64))) (hB : Lies w B m (l.map (Value.int .i32))) (hY : Lies w At' k (ys.map (Value.int .i64)))
    (hn : n ≤ 281474976710656) (hk : k ≤ 281474976710656) :
    Calls Tryz.prog 9 #[tenV A n c B m d, .slice At' k ck] w fun e w' => e = .returned (.tuple #[.int .i32 (atV s l ys m), .int .i64 (atE s ys m)]) ∧ Below w.heap.size w w' := by
  have HA := hide hA
  have HY := hide hY
  have HBL := hide hB
  obtain ⟨W, hW⟩ : ∃ W, W = w.alloc (.cells #[.slice A n c, .slice B m d] 25) := ⟨_, rfl⟩
  have HBX : Hid (BoxT W w.heap.size (.slice A n c) (.slice B m d)) := hide (by rw [hW]; exact BoxT.new w _ _)
  have HBB : Hid (Below w.heap.size w W) := hide (by rw [hW]; exact (Below.refl w.heap.size w).alloc (Nat.le_refl _) _)
  have hW' := hW.symm
  clear hW hA hB hY
  have a0 := HBX.out.c0
  have a1 := HBX.out.c1
  by_cases h1 : tenOk s m = true
  · have H1 := hide h1
    obtain ⟨q1, q2⟩ := tenOk_iff.1 h1
    by_cases h2 : okAt s ys = true
    · have hv := valI_bound (xs := s) (ys := ys) (size_dims q1) (by unfold okAt at h2; simp only [Bool.and_eq_true] at h2; exact h2.2.2)
      rw [← (sizeI_pos q1).2.2, q2] at hv
      obtain ⟨b, o, rfl, hbl, hx⟩ := byte_at HBL.out (by omega)
      have HX := hide (hx (valI s ys).toNat (by omega))
      have HV : Hid (idxV s ys = valI s ys) := hide (by rw [idxV, if_pos h2])
      have HE : Hid (idxE s ys = 0) := hide (by rw [idxE, if_pos h2])
      have HR : Hid (atV s l ys m = l.getD (valI s ys).toNat 0 ∧ atE s ys m = 0) := hide (by rw [atV, atE, if_pos ⟨h1, h2⟩, if_pos ⟨h1, h2⟩]; exact ⟨rfl, rfl⟩)
      clear h1 h2 q1 q2 hx
      go_enter Tryz.func9, Tryz.ntmps9
      go_wp2_with fail
      refine Calls.mono (rtcheck_any A (some ⟨b, o, none⟩) n c m d s _ (HA.out.below HBB.out) hn) ?_
      rintro e w2 ⟨rfl, hb⟩
      rw [H1.out]
      have HB2 := hide (HBB.out.trans (hb.mono HBB.out.size))
      have HBX2 := hide (HBX.out.kept hb)
      clear hb a0 a1
      have hc0 := HBX2.out.c0
      go_wp2_with fail
      refine Calls.mono (rindex_any A At' n c k ck s ys w2 (HA.out.below HB2.out) (HY.out.below HB2.out) hn hk) ?_
      rintro e w3 ⟨rfl, hb⟩
      rw [HV.out, HE.out]
      have hc1 := (HBX2.out.kept hb).c1
      have HB3 := hide (HB2.out.trans (hb.mono HB2.out.size))
      have hcx : w3.cell? ⟨b, o + (valI s ys).toNat, none⟩ = some (.int .i32 (l.getD (valI s ys).toNat 0)) := (HB3.out.cell (p := ⟨b, o + (valI s ys).toNat, none⟩) hbl).trans HX.out
      clear hb hc0
      obtain ⟨i, hi⟩ : ∃ i, i = (valI s ys).toNat := ⟨_, rfl⟩
      obtain ⟨z, hz⟩ : ∃ z, z = l.getD i 0 := ⟨_, rfl⟩
      have hvi : valI s ys = (i : Int) := by omega
      rw [← hi, ← hz] at hcx
      rw [hvi] at hv ⊢
      have him : i < m := by omega
      have HIZ : Hid (z = l.getD (valI s ys).toNat 0) := hide (by rw [hz, hi])
      clear hi hz hvi hv
      go_wp2
      go_ret2
      exact ⟨by rw [HR.out.1, HR.out.2, ← HIZ.out]; rfl, HB3.out⟩
    · have HV : Hid (idxV s ys = 0) := hide (by rw [idxV, if_neg h2])
      have HE : Hid (idxE s ys = 1) := hide (by rw [idxE, if_neg h2])
      have HR : Hid (atV s l ys m = 0 ∧ atE s ys m = 1) := hide (by rw [atV, atE, if_neg (fun h => h2 h.2), if_neg (fun h => h2 h.2)]; exact ⟨rfl, rfl⟩)
      clear h1 h2 q1 q2
      go_enter Tryz.func9, Tryz.ntmps9
      go_wp2_with fail
      refine Calls.mono (rtcheck_any A B n c m d s _ (HA.out.below HBB.out) hn) ?_
      rintro e w2 ⟨rfl, hb⟩
      rw [H1.out]
      have HB2 := hide (HBB.out.trans (hb.mono HBB.out.size))
      have HBX2 := hide (HBX.out.kept hb)
      clear hb a0 a1
      have hc0 := HBX2.out.c0
      go_wp2_with fail
      refine Calls.mono (rindex_any A At' n c k ck s ys w2 (HA.out.below HB2.out) (HY.out.below HB2.out) hn hk) ?_
      rintro e w3 ⟨rfl, hb⟩
      rw [HV.out, HE.out]
      have HB3 := hide (HB2.out.trans (hb.mono HB2.out.size))
      clear hb hc0
      go_wp2
      go_ret2
      exact ⟨by rw [HR.out.1, HR.out.2]; rfl, HB3.out⟩
  · have H1 : Hid (tenOk s m = false) := hide (by simpa using h1)
    have HR : Hid (atV s l ys m = 0 ∧ atE s ys m = 1) := hide (by rw [atV, atE, if_neg (fun h => h1 h.1), if_neg (fun h => h1 h.1)]; exact ⟨rfl, rfl⟩)
    clear h1
    go_enter Tryz.func9, Tryz.ntmps9
    go_wp2_with fail
    refine Calls.mono (rtcheck_any A B n c m d s _ (HA.out.below HBB.out) hn) ?_
    rintro e w2 ⟨rfl, hb⟩
    rw [H1.out]
    have HB2 := hide (HBB.out.trans (hb.mono HBB.out.size))
    clear hb a0 a1
    go_wp2
    go_ret2
    exact ⟨by rw [HR.out.1, HR.out.2]; rfl, HB2.out⟩

set_option maxHeartbeats 1000000 in
theorem rtsame_any (A B A' B' : Option Addr) (n c m d n' c' m' d' : Nat) (s l s' l' : List Int) (w : World) (hA : Lies w A n (s.map (Value.int .i64))) (hB : Lies w B m (l.map (Value.int .i32))) (hA' : Lies w A' n' (s'.map (Value.int .i64))) (hB' : Lies w B' m' (l'.map (Value.int .i32)))
    (hn : n ≤ 281474976710656) (hm : m ≤ 281474976710656) :
    Calls Tryz.prog 15 #[tenV A n c B m d, tenV A' n' c' B' m' d'] w fun e w' => e = .returned (.bool (decide (s = s' ∧ l = l'))) ∧ Below w.heap.size w w' := by
  obtain ⟨W, hW⟩ : ∃ W, W = (w.alloc (.cells #[.slice A n c, .slice B m d] 25)).alloc (.cells #[.slice A' n' c', .slice B' m' d'] 25) := ⟨_, rfl⟩
  have HX0 : Hid (BoxT W w.heap.size (.slice A n c) (.slice B m d)) := hide (by rw [hW]; exact (BoxT.new w _ _).alloc _)
  have HX1 : Hid (BoxT W (w.heap.size + 1) (.slice A' n' c') (.slice B' m' d')) := hide (by
    rw [hW]
    have h := (BoxT.new (w.alloc (.cells #[.slice A n c, .slice B m d] 25)) (.slice A' n' c') (.slice B' m' d'))
    rwa [World.size_alloc] at h)
  have HB0 : Hid (Below w.heap.size w W) := hide (by rw [hW]; exact ((Below.refl w.heap.size w).alloc (Nat.le_refl _) _).alloc (by simp) _)
  have HA := hide (hA.below HB0.out)
  have HB := hide (hB.below HB0.out)
  have HA' := hide (hA'.below HB0.out)
  have HB' := hide (hB'.below HB0.out)
  have HL1 : Hid (l.length = m) := hide (by have := hB.len; simpa using this)
  have HL2 : Hid (l'.length = m') := hide (by have := hB'.len; simpa using this)
  have hW' := hW.symm
  clear hW hA hB hA' hB'
  have hsW := HB0.out.size
  have a0 := HX0.out.c0
  have b0 := HX1.out.c0
  by_cases hs : s = s'
  · have HS : Hid (decide (s = s') = true) := hide (decide_eq_true hs)
    have HSS := hide hs
    clear hs
    by_cases hm' : m = m'
    · subst hm'
      go_enter Tryz.func15, Tryz.ntmps15
      go_wp2_with fail
      refine Calls.mono (rsame_ints A A' n c n' c' s s' _ HA.out HA'.out hn) ?_
      rw [HS.out]
      rintro e w1 ⟨rfl, j0, rfl⟩
      clear a0 b0
      have a1 := (HX0.out.kept (below_drewN (Below.refl _ W) j0)).c1
      have b1 := (HX1.out.kept (below_drewN (Below.refl _ W) j0)).c1
      go_wp2
      clear a1 b1
      go_loopw [5] (fun i wr => ∃ k : Nat, k ≤ m ∧ i = .int .i64 k ∧ Hid (l.take k = l'.take k) ∧ ∃ j, wr = W.drewN j) (fun i _ => m - (intOf i).toNat)
      case atStart => exact ⟨0, Nat.zero_le _, rfl, hide rfl, _, rfl⟩
      case round =>
        obtain ⟨k, hk, rfl, HT, j, rfl⟩ := hrel
        have a1 := HX0.out.c1
        have b1 := HX1.out.c1
        by_cases hlt : k < m
        · obtain ⟨b, o, rfl, _, hx⟩ := byte_at HB.out (by omega)
          obtain ⟨b', o', rfl, _, hy⟩ := byte_at HB'.out (by omega)
          obtain ⟨z, hz⟩ : ∃ z, z = l.getD k 0 := ⟨_, rfl⟩
          obtain ⟨u, hu⟩ : ∃ u, u = l'.getD k 0 := ⟨_, rfl⟩
          have h1 : W.cell? ⟨b, o + k, none⟩ = some (.int .i32 z) := by rw [hz]; exact hx k hlt
          have h2 : W.cell? ⟨b', o' + k, none⟩ = some (.int .i32 u) := by rw [hu]; exact hy k hlt
          have h0 : (0 : Int) ≤ (k : Int) := by omega
          have h3 : (k : Int) < (m : Int) := by omega
          have HZ := hide hz
          have HU := hide hu
          clear hx hy hz hu
          by_cases he : z = u
          · subst he
            have HN : Hid (l.take (k + 1) = l'.take (k + 1)) := hide (take_more (by rw [HL1.out]; exact hlt) (by rw [HL2.out]; exact hlt) HT.out (by rw [← HZ.out, ← HU.out]))
            go_wp2
            go_quiet (fail)
            go_wp2
            go_roundw
            case rel => exact ⟨k + 1, by omega, by go_num, HN, _, rfl⟩
            case measure => simp [intOf]; omega
          · have HN : Hid (¬ l = l') := hide (by intro e; rw [HZ.out, HU.out, e] at he; exact he rfl)
            have hb1 : (z == u) = false := beq_eq_false_iff_ne.2 he
            go_wp2
            go_quiet (fail)
            go_wp2
            go_ret
            exact ⟨by rw [decide_eq_false (fun h => HN.out h.2)]; rfl, HB0.out.trans ((below_drewN (below_drewN (Below.refl _ W) _) _).mono hsW)⟩
        · obtain rfl : k = m := by omega
          have HE := hide (take_end HL1.out HL2.out HT.out)
          go_wp2
          go_ret
          exact ⟨by rw [decide_eq_true ⟨HSS.out, HE.out⟩]; rfl, HB0.out.trans ((below_drewN (Below.refl _ W) _).mono hsW)⟩
    · have HN : Hid (¬ l = l') := hide (by intro e; apply hm'; rw [← HL1.out, ← HL2.out, e])
      have hb2 : ((m : Int) == (m' : Int)) = false := beq_eq_false_iff_ne.2 (by omega)
      clear hm'
      go_enter Tryz.func15, Tryz.ntmps15
      go_wp2_with fail
      refine Calls.mono (rsame_ints A A' n c n' c' s s' _ HA.out HA'.out hn) ?_
      rw [HS.out]
      rintro e w1 ⟨rfl, j0, rfl⟩
      clear a0 b0
      have a1 := (HX0.out.kept (below_drewN (Below.refl _ W) j0)).c1
      have b1 := (HX1.out.kept (below_drewN (Below.refl _ W) j0)).c1
      go_wp2
      go_ret
      exact ⟨by rw [decide_eq_false (fun h => HN.out h.2)]; rfl, HB0.out.trans ((below_drewN (Below.refl _ W) j0).mono hsW)⟩
  · have HS : Hid (decide (s = s') = false) := hide (decide_eq_false hs)
    have HN := hide hs
    clear hs
    go_enter Tryz.func15, Tryz.ntmps15
    go_wp2_with fail
    refine Calls.mono (rsame_ints A A' n c n' c' s s' _ HA.out HA'.out hn) ?_
    rw [HS.out]
    rintro e w1 ⟨rfl, j0, rfl⟩
    clear a0 b0
    go_wp2
    go_ret
    exact ⟨by rw [decide_eq_false (fun h => HN.out h.1)]; rfl, HB0.out.trans ((below_drewN (Below.refl _ W) j0).mono hsW)⟩
end

section
open Go.RowKit
set_option linter.unusedVariables false
set_option linter.unusedSimpArgs false
set_option maxRecDepth 20000

theorem enc_take {l : List Int} {k : Nat} (h : k < l.length) : enc (l.take (k + 1)) = enc (l.take k) ++ four (l.getD k 0) := by
  rw [take_snoc h]
  simp [enc, List.getD]

theorem four_u32 (z : Int) : four z = [z % 256, z % 4294967296 / 256 % 256, z % 4294967296 / 65536 % 256, z % 4294967296 / 16777216] := by
  obtain ⟨q, hq⟩ : ∃ q, q = z / 4294967296 := ⟨_, rfl⟩
  obtain ⟨u, hu⟩ : ∃ u, u = z % 4294967296 := ⟨_, rfl⟩
  have hz : z = 4294967296 * q + u := by omega
  have hb : 0 ≤ u ∧ u < 4294967296 := by omega
  rw [← hu]
  clear hu hq
  subst hz
  simp only [four]
  rw [show (4294967296 * q + u) / 256 % 256 = u / 256 % 256 by omega, show (4294967296 * q + u) / 65536 % 256 = u / 65536 % 256 by omega, show (4294967296 * q + u) / 16777216 % 256 = u / 16777216 by omega]

set_option maxHeartbeats 2000000 in
theorem rtput_ok (A B : Option Addr) (n c m d : Nat) (s l : List Int) (w : World) (hA : Lies w A n (s.map (Value.int .i64))) (hB : Lies w B m (l.map (Value.int .i32))) (hok : tenOk s m = true) :
    Calls Tryz.prog 22 #[tenV A n c B m d] w fun e w' => ∃ P cc, e = .returned (.tuple #[.slice P (1 + n + 4 * m) cc, .int .i64 0]) ∧ Lies w' P (1 + n + 4 * m) ((tenB s l).map (Value.int .u8)) ∧ Below w.heap.size w w' := by
  obtain ⟨q1, q2⟩ := tenOk_iff.1 hok
  have hsl : s.length = n := by have := hA.len; simpa using this
  have hsz := sizeI_pos q1
  have hm4 := sizeI_le s
  have HD := hide (size_dims q1)
  rw [hsl] at hsz
  obtain ⟨hn1, hn4, _⟩ := hsz
  have hmm : m ≤ 4096 := by omega
  obtain ⟨i0, hi, hz0, hz1, hz2⟩ := info_parts Tryz.infoB
  have HI := hide hi
  have HZ0 := hide hz0
  have HZ1 := hide hz1
  have HZ2 := hide hz2
  clear hi hz0 hz1 hz2
  obtain ⟨W, hW⟩ : ∃ W, W = w.alloc (.cells #[.slice A n c, .slice B m d] 25) := ⟨_, rfl⟩
  have HX : Hid (BoxT W w.heap.size (.slice A n c) (.slice B m d)) := hide (by rw [hW]; exact BoxT.new w _ _)
  have HB0 : Hid (Below w.heap.size w W) := hide (by rw [hW]; exact (Below.refl w.heap.size w).alloc (Nat.le_refl _) _)
  have hW' := hW.symm
  have HA := hide (hA.below HB0.out)
  have HB := hide (hB.below HB0.out)
  have HOK := hide hok
  have HL : Hid (l.length = m) := hide (by have := hB.len; simpa using this)
  have HSL := hide hsl
  have hsW := HB0.out.size
  clear hA hB hok q1 q2 hsl hm4 hW
  have a0 := HX.out.c0
  have a1 := HX.out.c1
  go_enter Tryz.func22, Tryz.ntmps22
  go_wp2_with fail
  refine Calls.mono (rtcheck_any A B n c m d s _ HA.out (by omega)) ?_
  rintro e w1 ⟨rfl, hb⟩
  rw [HOK.out]
  have HX1 := hide (HX.out.kept hb)
  clear a0 a1
  have a0 := HX1.out.c0
  have HBw := hide hb
  have hs1 := hb.size
  clear hb
  have hwn : IntKind.u8.wrap (n : Int) = (n : Int) := by rw [IntKind.wrap_u8]; omega
  obtain ⟨w2, hw2⟩ : ∃ w2, w2 = w1.alloc (.cells #[.int .u8 (n : Int)] 5) := ⟨_, rfl⟩
  have HB2 : Hid (Below W.heap.size W w2) := hide (by rw [hw2]; exact HBw.out.alloc hs1 _)
  have HO2 : Hid (w2.ownsRow W.heap.size 5 1 (.slice (some ⟨w1.heap.size, 0, none⟩) 1 1) 1 [.int .u8 (n : Int)]) := hide (by rw [hw2]; exact own_of_block hs1 (heap_alloc_new w1 _) rfl (Nat.le_refl _) (by unfold maxLen; omega) rfl)
  have hw2' := hw2.symm
  clear hw2 HX1
  go_wp2
  clear a0
  go_loopw [4, 5] (fun v i wr => ∃ (k : Nat) (A2 : Option Addr) (c2 : Nat), k ≤ n ∧ i = .int .i64 k ∧ v = .slice A2 (1 + k) c2 ∧ Hid (wr.ownsRow W.heap.size 5 1 (.slice A2 (1 + k) c2) (1 + k) (((n : Int) :: s.take k).map (Value.int .u8))) ∧ Hid (Below W.heap.size W wr)) (fun _ i _ => n - (intOf i).toNat)
  case atStart => exact ⟨0, _, _, Nat.zero_le _, rfl, rfl, hide (by simpa using HO2.out), HB2⟩
  case round =>
    obtain ⟨k, A2, c2, hk, rfl, rfl, HR, HBr⟩ := hrel
    have hsr := HBr.out.size
    have a0 := (HX.out.kept HBr.out).c0
    by_cases hlt : k < n
    · obtain ⟨b, o, rfl, hbl, hx⟩ := byte_at (HA.out.below HBr.out) (by omega)
      obtain ⟨x, hxe⟩ : ∃ x, x = s.getD k 0 := ⟨_, rfl⟩
      have hd := HD.out.at (by rw [HSL.out]; exact hlt)
      have hc := hx k hlt
      rw [← hxe] at hc hd
      have hwx : IntKind.u8.wrap x = x := by rw [IntKind.wrap_u8]; omega
      have HXE := hide hxe
      clear hx hxe hd
      have h0 : (0 : Int) ≤ (k : Int) := by omega
      have h3 : (k : Int) < (n : Int) := by omega
      have HX3 : Hid ((wr.alloc (.cells #[.int .u8 x] 5)).cell? ⟨wr.heap.size, 0, none⟩ = some (.int .u8 x)) := hide (by have h := cells_new wr [.int .u8 x] 5 0 _ rfl; rwa [Addr.add_lit] at h)
      go_wp2_with (at_builtin; with_reducible refine wpList_append_one rfl (.tmp 23) (.tmp 30) 56 rfl 5 i0 (.int .u8 0) 1 Tryz.underlying56 HI.out HZ0.out HZ1.out HZ2.out rfl W.heap.size A2 (1 + k) c2 (((n : Int) :: s.take k).map (Value.int .u8)) rfl (HR.out.alloc _) (Nat.le_trans hsr (by simp)) ⟨wr.heap.size, 0, none⟩ (.int .u8 x) rfl HX3.out rfl (by omega) (by unfold maxLen; omega) ?_)
      intro A3 c3 w3 ho3 hm3
      have HR3 : Hid (w3.ownsRow W.heap.size 5 1 (.slice A3 (1 + (k + 1)) c3) (1 + (k + 1)) (((n : Int) :: s.take (k + 1)).map (Value.int .u8))) := hide (by
        rw [take_snoc (by rw [HSL.out]; exact hlt), ← HXE.out]
        simpa [Nat.add_assoc] using ho3)
      have HB3 := hide (below_moved (HBr.out.alloc hsr (.cells #[.int .u8 x] 5)) (Nat.le_trans hsr (by simp)) (HR.out.alloc _) hm3)
      clear ho3 hm3 HR HBr HX3 hc a0
      go_wp2
      go_roundw
      case rel => exact ⟨k + 1, A3, c3, by omega, by go_num, rfl, HR3, HB3⟩
      case measure => simp [intOf]; omega
    · obtain rfl : k = n := by omega
      have HR0 : Hid (wr.ownsRow W.heap.size 5 1 (.slice A2 (1 + k) c2) (1 + k) (((k : Int) :: s ++ enc (l.take 0)).map (Value.int .u8))) := hide (by
        have h := HR.out
        rw [List.take_of_length_le (by rw [HSL.out]; exact Nat.le_refl _)] at h
        simpa [enc] using h)
      obtain ⟨n, hkn⟩ : ∃ n, n = k := ⟨_, rfl⟩
      subst hkn
      clear HR hk hlt
      go_wp2
      clear a0
      go_loopw [4, 6] (fun v i w' => ∃ (k : Nat) (A2 : Option Addr) (c2 : Nat), k ≤ m ∧ i = .int .i64 k ∧ v = .slice A2 (1 + n + 4 * k) c2 ∧ Hid (w'.ownsRow W.heap.size 5 1 (.slice A2 (1 + n + 4 * k) c2) (1 + n + 4 * k) (((n : Int) :: s ++ enc (l.take k)).map (Value.int .u8))) ∧ Hid (Below W.heap.size W w')) (fun _ i _ => m - (intOf i).toNat)
      case atStart => exact ⟨0, _, _, Nat.zero_le _, rfl, rfl, HR0, HBr⟩
      case round =>
        clear HR0 HBr hsr
        obtain ⟨k, A2, c2, hk, rfl, rfl, HR, HBr⟩ := hrel
        have hsr := HBr.out.size
        have a1 := (HX.out.kept HBr.out).c1
        by_cases hlt : k < m
        · obtain ⟨b, o, rfl, hbl, hx⟩ := byte_at (HB.out.below HBr.out) (by omega)
          obtain ⟨z, hz⟩ : ∃ z, z = l.getD k 0 := ⟨_, rfl⟩
          have hc := hx k hlt
          rw [← hz] at hc
          have HZ := hide hz
          clear hx hz
          have h0 : (0 : Int) ≤ (k : Int) := by omega
          have h3 : (k : Int) < (m : Int) := by omega
          have HF4 : Hid (four z = [z % 256, z % 4294967296 / 256 % 256, z % 4294967296 / 65536 % 256, z % 4294967296 / 16777216]) := hide (four_u32 z)
          have HL4 : Hid (Lies (wr.alloc (.cells #[.int .u8 (z % 256), .int .u8 (z % 4294967296 / 256 % 256), .int .u8 (z % 4294967296 / 65536 % 256), .int .u8 (z % 4294967296 / 16777216)] 5)) (some ⟨wr.heap.size, 0, none⟩) 4 ((four z).map (Value.int .u8))) := hide (by
            rw [HF4.out]
            exact lies_lit wr .u8 [z % 256, z % 4294967296 / 256 % 256, z % 4294967296 / 65536 % 256, z % 4294967296 / 16777216] 5)
          go_wp2_with (at_builtin; with_reducible refine wpList_append_ints rfl (.tmp 45) (.tmp 60) 56 rfl 5 i0 (.int .u8 0) 1 Tryz.underlying56 HI.out HZ0.out HZ1.out HZ2.out rfl W.heap.size A2 (1 + n + 4 * k) c2 (1 + n + 4 * (k + 1)) .u8 ((n : Int) :: s ++ enc (l.take k)) rfl (HR.out.alloc _) (Nat.le_trans hsr (by simp)) (some ⟨wr.heap.size, 0, none⟩) 4 4 (four z) rfl HL4.out (fun h => by cases h) (by omega) (by omega) (by unfold maxLen; omega) ?_)
          intro A3 c3 w3 ho3 hb3
          have HR3 : Hid (w3.ownsRow W.heap.size 5 1 (.slice A3 (1 + n + 4 * (k + 1)) c3) (1 + n + 4 * (k + 1)) (((n : Int) :: s ++ enc (l.take (k + 1))).map (Value.int .u8))) := hide (by
            rw [enc_take (by rw [HL.out]; exact hlt), ← HZ.out, ← List.append_assoc]
            simpa using ho3)
          have HB3 := hide ((HBr.out.alloc hsr _).trans hb3)
          clear ho3 hb3 HR HBr HL4 HF4 hc a1
          go_wp2
          go_roundw
          case rel => exact ⟨k + 1, A3, c3, by omega, by go_num, rfl, HR3, HB3⟩
          case measure => simp [intOf]; omega
        · obtain rfl : k = m := by omega
          go_wp2
          go_ret2
          refine ⟨A2, c2, rfl, ?_, HB0.out.trans (HBr.out.mono hsW)⟩
          have h := lies_of_own HR.out
          rw [List.take_of_length_le (by rw [HL.out]; exact Nat.le_refl _)] at h
          rw [tenB, HSL.out]
          exact h

set_option maxHeartbeats 1000000 in
theorem rtput_any (A B : Option Addr) (n c m d : Nat) (s l : List Int) (w : World) (hA : Lies w A n (s.map (Value.int .i64))) (hB : Lies w B m (l.map (Value.int .i32))) (hn : n ≤ 281474976710656) :
    Calls Tryz.prog 22 #[tenV A n c B m d] w fun e w' => ∃ P k cc, e = .returned (.tuple #[.slice P k cc, .int .i64 (if tenOk s m = true then 0 else 1)]) ∧ Lies w' P k ((putB s l m).map (Value.int .u8)) ∧ k ≤ 32768 ∧ Below w.heap.size w w' := by
  by_cases hok : tenOk s m = true
  · have hsl : s.length = n := by have := hA.len; simpa using this
    obtain ⟨q1, q2⟩ := tenOk_iff.1 hok
    have h4 := (sizeI_pos q1).2.1
    have h5 := sizeI_le s
    refine (rtput_ok A B n c m d s l w hA hB hok).mono ?_
    rintro e w' ⟨P, cc, rfl, h, hb⟩
    exact ⟨P, _, cc, by rw [if_pos hok], by rw [putB, if_pos hok]; exact h, by omega, hb⟩
  · have H1 : Hid (tenOk s m = false) := hide (by simpa using hok)
    have HP : Hid (putB s l m = []) := hide (by rw [putB, if_neg hok])
    obtain ⟨W, hW⟩ : ∃ W, W = w.alloc (.cells #[.slice A n c, .slice B m d] 25) := ⟨_, rfl⟩
    have HX : Hid (BoxT W w.heap.size (.slice A n c) (.slice B m d)) := hide (by rw [hW]; exact BoxT.new w _ _)
    have HB0 : Hid (Below w.heap.size w W) := hide (by rw [hW]; exact (Below.refl w.heap.size w).alloc (Nat.le_refl _) _)
    have hW' := hW.symm
    have HA := hide (hA.below HB0.out)
    have hsW := HB0.out.size
    have HE : Hid ((if tenOk s m = true then (0 : Int) else 1) = 1) := hide (if_neg hok)
    rw [HE.out]
    clear hA hB hok hW
    have a0 := HX.out.c0
    have a1 := HX.out.c1
    go_enter Tryz.func22, Tryz.ntmps22
    go_wp2_with fail
    refine Calls.mono (rtcheck_any A B n c m d s _ HA.out (by omega)) ?_
    rintro e w1 ⟨rfl, hb⟩
    rw [H1.out]
    have HB1 := hide (HB0.out.trans (hb.mono hsW))
    clear hb a0 a1
    go_wp2
    go_ret2
    exact ⟨none, 0, 0, rfl, by rw [HP.out]; exact lies_empty, by omega, HB1.out⟩
end

section
open Go.RowKit
set_option linter.unusedVariables false
set_option linter.unusedSimpArgs false
set_option maxRecDepth 20000

theorem blk2_set {w : World} {p : Nat} {v u : Value} (h : BoxT w p v u) (x : Value) : BoxT (w.setCell ⟨p, 0, none⟩ x) p x u := by
  have h2 := heap_setCell_same w p 0 #[v, u] 25 x h
  show (w.setCell ⟨p, 0, none⟩ x).heap[p]? = _
  rw [h2]
  rfl
theorem blk2_set1 {w : World} {p : Nat} {v u : Value} (h : BoxT w p v u) (x : Value) : BoxT (w.setCell ⟨p, 1, none⟩ x) p v x := by
  have h2 := heap_setCell_same w p 1 #[v, u] 25 x h
  show (w.setCell ⟨p, 1, none⟩ x).heap[p]? = _
  rw [h2]
  rfl
theorem own_setLow {w : World} {base : Nat} {e : TypeId} {v : Value} {n : Nat} {xs : List Value} (h : w.ownsRow base e 1 v n xs) {a : Addr} (ha : a.block < base) (u : Value) : (w.setCell a u).ownsRow base e 1 v n xs :=
  h.kept (grown_setCell w a u) (by
    right
    intro e'
    have := (h.lt _ e').1
    omega)
theorem own_movedT {w w' : World} {base base' : Nat} {e e' : TypeId} {v u u' : Value} {n m : Nat} {xs ys : List Value} (h : w.ownsRow base e 1 v n xs) (k : w.ownsRow base' e' 1 u m ys) (hne : e ≠ e') (hm : Moved w w' u u') : w'.ownsRow base e 1 v n xs := by
  rcases hm with ⟨_, hg⟩ | ⟨hg, _⟩
  · exact h.kept hg (own_neT h k hne)
  · exact h.kept hg (by by_cases hv : v.ownBlock = none; exact .inl hv; exact .inr hv)
theorem got_bad {bs : List Int} (h : getOk bs = false) : gotS bs = [] ∧ gotL bs = [] ∧ (if getOk bs = true then (0 : Int) else 4) = 4 := by
  rw [gotS, gotL, h]
  exact ⟨rfl, rfl, rfl⟩
theorem wd_at (bs : List Int) (j : Nat) : wd bs j = signed (head4 (bs.drop (4 * j))) := by
  unfold wd head4
  simp only [List.getD, List.getElem?_drop]
  rfl
theorem dec_at2 (bs : List Int) (q k : Nat) (h : k < q) : (dec bs q).getD k 0 = wd bs k := by simp [dec, List.getD, h]

set_option maxHeartbeats 1000000 in
theorem rtget_none (A : Option Addr) (c : Nat) (w : World) :
    Calls Tryz.prog 24 #[.slice A 0 c] w fun e w' => e = .returned (.tuple #[tenV none 0 0 none 0 0, .int .i64 4]) ∧ Below w.heap.size w w' := by
  obtain ⟨W, hW⟩ : ∃ W, W = w.alloc (.cells #[.slice none 0 0, .slice none 0 0] 25) := ⟨_, rfl⟩
  have HBX : Hid (BoxT W w.heap.size (.slice none 0 0) (.slice none 0 0)) := hide (by rw [hW]; exact BoxT.new w _ _)
  have HBB : Hid (Below w.heap.size w W) := hide (by rw [hW]; exact (Below.refl w.heap.size w).alloc (Nat.le_refl _) _)
  have hW' := hW.symm
  clear hW
  go_enter Tryz.func24, Tryz.ntmps24
  go_wp2_with (refine wpList_store_row rfl 25 _ _ rfl w.heap.size #[.slice none 0 0, .slice none 0 0] rfl rfl 25 _ HBX.out sizeT rfl (by simp [Value.oneCell']) ?_)
  (try simp only [Exit.inBlock, Exit.then])
  refine ret_ten (p := 2) (u := 3) rfl rfl w.heap.size _ rfl (HBX.out.set _ _) rfl ?_
  exact ⟨rfl, below_setRow HBB.out (Nat.le_refl _) _⟩

set_option maxHeartbeats 1000000 in
theorem rtget_early (A : Option Addr) (n c : Nat) (bs : List Int) (w : World) (h : Lies w A n (bs.map (Value.int .u8))) (hb : Bytes bs) (hn : n ≤ 281474976710656) (h1 : 0 < n) (hbad : 4 < bs.getD 0 0 ∨ (n : Int) < 1 + bs.getD 0 0) :
    Calls Tryz.prog 24 #[.slice A n c] w fun e w' => e = .returned (.tuple #[tenV none 0 0 none 0 0, .int .i64 4]) ∧ Below w.heap.size w w' := by
  obtain ⟨W, hW⟩ : ∃ W, W = w.alloc (.cells #[.slice none 0 0, .slice none 0 0] 25) := ⟨_, rfl⟩
  have HBX : Hid (BoxT W w.heap.size (.slice none 0 0) (.slice none 0 0)) := hide (by rw [hW]; exact BoxT.new w _ _)
  have HBB : Hid (Below w.heap.size w W) := hide (by rw [hW]; exact (Below.refl w.heap.size w).alloc (Nat.le_refl _) _)
  have hW' := hW.symm
  obtain ⟨b, o, rfl, hbl, hx⟩ := byte_at (h.below HBB.out) h1
  have hq := bytes_getD hb 0
  have c0 := hx 0 h1
  rw [Nat.add_zero] at c0
  obtain ⟨x, hxe⟩ : ∃ x, x = bs.getD 0 0 := ⟨_, rfl⟩
  rw [← hxe] at c0 hq hbad
  have hw1 : IntKind.i64.wrap (1 + x) = 1 + x := by rw [IntKind.wrap_i64]; omega
  clear hW hx h hb hxe
  have g1 : ¬ (n : Int) < 1 := by omega
  by_cases h4 : 4 < x
  · clear hbad
    go_enter Tryz.func24, Tryz.ntmps24
    go_wp2_with (refine wpList_store_row rfl 25 _ _ rfl w.heap.size #[.slice none 0 0, .slice none 0 0] rfl rfl 25 _ HBX.out sizeT rfl (by simp [Value.oneCell']) ?_)
    (try simp only [Exit.inBlock, Exit.then])
    refine ret_ten (p := 2) (u := 3) rfl rfl w.heap.size _ rfl (HBX.out.set _ _) rfl ?_
    exact ⟨rfl, below_setRow HBB.out (Nat.le_refl _) _⟩
  · have h5 : (n : Int) < 1 + x := by omega
    clear hbad
    go_enter Tryz.func24, Tryz.ntmps24
    go_wp2_with (refine wpList_store_row rfl 25 _ _ rfl w.heap.size #[.slice none 0 0, .slice none 0 0] rfl rfl 25 _ HBX.out sizeT rfl (by simp [Value.oneCell']) ?_)
    (try simp only [Exit.inBlock, Exit.then])
    refine ret_ten (p := 2) (u := 3) rfl rfl w.heap.size _ rfl (HBX.out.set _ _) rfl ?_
    exact ⟨rfl, below_setRow HBB.out (Nat.le_refl _) _⟩

/-- What Get answers: a tensor in memory of its own, and an error. -/
def GotR (w : World) (bs : List Int) (e : Ending) (w' : World) : Prop := ∃ A1 q c1 A2 k k2, e = .returned (.tuple #[tenV A1 q c1 A2 k k2, .int .i64 (if getOk bs = true then 0 else 4)]) ∧
  Lies w' A1 q ((gotS bs).map (Value.int .i64)) ∧ Lies w' A2 k ((gotL bs).map (Value.int .i32)) ∧ Below w.heap.size w w'

set_option maxHeartbeats 2000000 in
theorem rtget_main (A : Option Addr) (n c q : Nat) (bs : List Int) (w : World) (h : Lies w A n (bs.map (Value.int .u8))) (hb : Bytes bs) (hn : n ≤ 281474976710656) (hnc : n ≤ c) (hq : bs.getD 0 0 = (q : Int)) (hq4 : q ≤ 4) (hqn : 1 + q ≤ n) :
    Calls Tryz.prog 24 #[.slice A n c] w (GotR w bs) := by
  obtain ⟨i0, hi, hz0, hz1, hz2⟩ := info_parts Tryz.infoI
  obtain ⟨i1, hi', hz0', hz1', hz2'⟩ := info_parts Tryz.infoT_Numbers
  have HI := hide hi
  have HZ0 := hide hz0
  have HZ1 := hide hz1
  have HZ2 := hide hz2
  have HI' := hide hi'
  have HZ0' := hide hz0'
  have HZ1' := hide hz1'
  have HZ2' := hide hz2'
  clear hi hz0 hz1 hz2 hi' hz0' hz1' hz2'
  obtain ⟨W, hW⟩ : ∃ W, W = w.alloc (.cells #[.slice none 0 0, .slice none 0 0] 25) := ⟨_, rfl⟩
  have HBX : Hid (BoxT W w.heap.size (.slice none 0 0) (.slice none 0 0)) := hide (by rw [hW]; exact BoxT.new w _ _)
  have HBB : Hid (Below w.heap.size w W) := hide (by rw [hW]; exact (Below.refl w.heap.size w).alloc (Nat.le_refl _) _)
  have hW' := hW.symm
  have hW1 : w.heap.size < W.heap.size := by rw [hW]; simp
  obtain ⟨b, o, rfl, hbl, hx⟩ := byte_at (h.below HBB.out) (by omega)
  have HA := hide (h.below HBB.out)
  have HBY := hide hb
  have HXB := hide hx
  have c0 := hx 0 (by omega)
  rw [Nat.add_zero, hq] at c0
  obtain ⟨W2, hW2⟩ : ∃ W2, W2 = W.alloc (.cells #[.slice none 0 0, .slice none 0 0] 25) := ⟨_, rfl⟩
  have HBT : Hid (BoxT W2 W.heap.size (.slice none 0 0) (.slice none 0 0)) := hide (by rw [hW2]; exact BoxT.new W _ _)
  have HB2 : Hid (Below W.heap.size W W2) := hide (by rw [hW2]; exact (Below.refl W.heap.size W).alloc (Nat.le_refl _) _)
  have hW2' := hW2.symm
  have hsW2 : W2.heap.size = W.heap.size + 1 := by rw [hW2]; simp
  have HBL : Hid (bs.length = n) := hide (by have := h.len; simpa using this)
  have HDQ : Hid (dimsOf bs = q) := hide (by rw [dimsOf, hq]; simp)
  have hw1 : IntKind.i64.wrap (1 + (q : Int)) = 1 + (q : Int) := by rw [IntKind.wrap_i64]; omega
  have hsW := HBB.out.size
  clear hW hx h hb hW2 hq
  have g1 : ¬ (n : Int) < 1 := by omega
  have g2 : ¬ 4 < (q : Int) := by omega
  have g3 : ¬ (n : Int) < 1 + (q : Int) := by omega
  go_enter Tryz.func24, Tryz.ntmps24
  go_wp2
  clear c0
  go_loopw [5] (fun i wr => ∃ (k : Nat) (A2 : Option Addr) (c2 : Nat), k ≤ q ∧ i = .int .i64 k ∧ Hid (BoxT wr W.heap.size (.slice A2 k c2) (.slice none 0 0)) ∧ Hid (wr.ownsRow W2.heap.size 3 1 (.slice A2 k c2) k ((shpOf bs k).map (Value.int .i64))) ∧ Hid (Below W.heap.size W wr)) (fun i _ => q - (intOf i).toNat)
  case atStart => exact ⟨0, none, 0, Nat.zero_le _, rfl, HBT, hide (by rw [shpOf, List.take_zero]; exact World.ownsRow_nil _ _ _ _), HB2⟩
  case round =>
    obtain ⟨k, A2, c2, hk, rfl, HBi, HR, HBr⟩ := hrel
    have hsr := HBr.out.size
    have c0 := (HBr.out.cell (p := ⟨b, o + 0, none⟩) hbl).trans (HXB.out 0 (by omega))
    rw [Nat.add_zero, show bs.getD 0 0 = (q : Int) by have := HDQ.out; have h2 := bytes_getD HBY.out 0; rw [dimsOf] at this; omega] at c0
    by_cases hlt : k < q
    · obtain ⟨x, hxe⟩ : ∃ x, x = bs.getD (1 + k) 0 := ⟨_, rfl⟩
      have hxb := bytes_getD HBY.out (1 + k)
      have y0 := (HBr.out.cell (p := ⟨b, o + (1 + k), none⟩) hbl).trans (HXB.out (1 + k) (by omega))
      rw [← hxe] at hxb y0
      have HXE := hide hxe
      have hxw : IntKind.i64.wrap x = x := by rw [IntKind.wrap_i64]; omega
      have x0 := HBi.out.c0
      have HBa := hide (HBi.out.alloc (.cells #[.int .i64 x] 3))
      have x1 := HBa.out.c0
      have hk1 : IntKind.i64.wrap (1 + (k : Int)) = 1 + (k : Int) := by rw [IntKind.wrap_i64]; omega
      have h0 : (0 : Int) ≤ 1 + (k : Int) := by omega
      have h3 : 1 + (k : Int) < (n : Int) := by omega
      have h4 : (1 + (k : Int)).toNat = 1 + k := by omega
      clear hxe
      have hlr := HBi.out.lt
      have HO3 : Hid ((wr.alloc (.cells #[.int .i64 x] 3)).drew.ownsRow W2.heap.size 3 1 (.slice A2 k c2) k ((shpOf bs k).map (Value.int .i64))) := hide (HR.out.alloc _)
      have hbs : W2.heap.size ≤ (wr.alloc (.cells #[.int .i64 x] 3)).drew.heap.size := by show _ ≤ (wr.alloc _).heap.size; simp; omega
      have HX3 : Hid ((wr.alloc (.cells #[.int .i64 x] 3)).drew.cell? ⟨wr.heap.size, 0, none⟩ = some (.int .i64 x)) := hide (by have h := cells_new wr [.int .i64 x] 3 0 _ rfl; rw [Addr.add_lit] at h; exact h)
      have HBA : Hid (Below W2.heap.size wr (wr.alloc (.cells #[.int .i64 x] 3)).drew) := hide (((Below.refl W2.heap.size wr).alloc (by omega) _).drew)
      have HBK : Hid (∀ w', Below W2.heap.size wr w' → BoxT w' W.heap.size (.slice A2 k c2) (.slice none 0 0)) := hide (fun w' hb => HBi.out.below hb (by omega))
      go_wp2
      go_region_law (go_loud (refine step_append_one rfl (.tmp 40) (.tmp 47) 22 rfl 3 i0 (.int .i64 0) 8 Tryz.underlying22 HI.out HZ0.out HZ1.out HZ2.out rfl W2.heap.size A2 k c2 ((shpOf bs k).map (Value.int .i64)) rfl HO3.out hbs ⟨wr.heap.size, 0, none⟩ (.int .i64 x) rfl HX3.out rfl (by omega) (by unfold maxLen; omega) ?_); intro g5 c5 w5 ho5 hm5; have hb5 : Below W2.heap.size wr w5 := below_moved HBA.out hbs HO3.out hm5; have HB5 := hide (HBK.out _ hb5); have k0 := HB5.out.c0; have k1 : w5.frozen? ⟨W.heap.size, 0, none⟩ = false := (by have h := HB5.out; unfold BoxT at h; simp [World.frozen?, h]))
      all_goals
        have hne5 : W.heap.size ≠ g5 := by have := (ho5.lt g5 rfl).1; omega
        have HBn : Hid (BoxT (w5.setCell ⟨W.heap.size, 0, none⟩ (.slice (some ⟨g5, 0, none⟩) (k + 1) c5)) W.heap.size (.slice (some ⟨g5, 0, none⟩) (k + 1) c5) (.slice none 0 0)) := hide (blk2_set HB5.out _)
        have HRn : Hid ((w5.setCell ⟨W.heap.size, 0, none⟩ (.slice (some ⟨g5, 0, none⟩) (k + 1) c5)).ownsRow W2.heap.size 3 1 (.slice (some ⟨g5, 0, none⟩) (k + 1) c5) (k + 1) ((shpOf bs (k + 1)).map (Value.int .i64))) := hide (by
          rw [shpOf_succ (by rw [HBL.out]; omega), List.map_append, ← HXE.out]
          exact own_setCell ho5 hne5 _)
        have HBe : Hid (Below W.heap.size W (w5.setCell ⟨W.heap.size, 0, none⟩ (.slice (some ⟨g5, 0, none⟩) (k + 1) c5))) := hide ((HBr.out.trans (hb5.mono (by omega))).setCell (by simp) _)
        clear ho5 hm5 hb5 HB5 k0 k1 HO3 hbs HX3 HBA HBK HBa HBi HR HBr x0 x1 y0 c0 hne5
        go_wp2
        go_roundw
      all_goals first
        | exact ⟨k + 1, _, _, by omega, by go_num, HBn, HRn, HBe⟩
        | (simp [intOf]; omega)
    · obtain rfl : k = q := by omega
      obtain ⟨r, rfl⟩ : ∃ r, n = 1 + k + r := ⟨n - (1 + k), by omega⟩
      have x0 := HBi.out.c0
      have HBXr : Hid (BoxT wr w.heap.size (.slice none 0 0) (.slice none 0 0)) := hide (HBX.out.below HBr.out hW1)
      have hlr := HBi.out.lt
      by_cases hs : 0 < sizeI (shpOf bs k)
      · have HD : Hid (decide (0 < sizeI (shpOf bs k)) = true) := hide (decide_eq_true hs)
        obtain ⟨z, hz⟩ : ∃ z : Nat, sizeI (shpOf bs k) = (z : Int) := ⟨(sizeI (shpOf bs k)).toNat, by omega⟩
        have hz4 := sizeI_le (shpOf bs k)
        rw [hz] at hs hz4
        have HZ := hide hz
        have hw4 : IntKind.i64.wrap (4 * (z : Int)) = 4 * (z : Int) := by rw [IntKind.wrap_i64]; omega
        by_cases hl : r = 4 * z
        · have HG : Hid (getOk bs = true) := hide (getOk_iff.2 (by rw [HDQ.out, HBL.out, hz]; omega))
          have hcc : ¬ c = 1 + k := by omega
          subst hl
          clear hz
          go_wp2_with fail
          rw [show 1 + k + 4 * z - (1 + k) = 4 * z by omega]
          refine Calls.mono (rcheck_any A2 k c2 (shpOf bs k) _ (lies_of_own HR.out) (by omega)) ?_
          rintro e w9 ⟨rfl, rfl⟩
          rw [HD.out]
          go_wp2_with fail
          refine Calls.mono (rsize_any A2 k c2 (shpOf bs k) _ (lies_of_own HR.out) (by omega)) ?_
          rintro e w9 ⟨rfl, rfl⟩
          rw [HZ.out]
          clear x0
          go_wp2
          have HGS : Hid (gotS bs = shpOf bs k) := hide (by rw [gotS, if_pos HG.out, HDQ.out])
          have HGL : Hid (gotL bs = dec (bs.drop (1 + k)) z) := hide (by rw [gotL, if_pos HG.out, HDQ.out, HZ.out, Int.toNat_natCast])
          obtain ⟨L, hL⟩ : ∃ L, L = dec (bs.drop (1 + k)) z := ⟨_, rfl⟩
          have HLL : Hid (L.length = z) := hide (by rw [hL, dec_len])
          have HAT : Hid (∀ j, j < z → L.getD j 0 = signed (head4 (bs.drop (1 + k + 4 * j)))) := hide (fun j hj => by rw [hL, dec_at2 _ _ _ hj, wd_at, List.drop_drop])
          rw [← hL] at HGL
          clear hL
          go_loopw [7] (fun i w' => ∃ (j : Nat) (A3 : Option Addr) (c3 : Nat), j ≤ z ∧ i = .int .i64 ((4 * j : Nat) : Int) ∧ Hid (BoxT w' W.heap.size (.slice A2 k c2) (.slice A3 j c3)) ∧ Hid (w'.ownsRow W2.heap.size 21 1 (.slice A3 j c3) j (preV .i32 L j)) ∧ Hid (w'.ownsRow W2.heap.size 3 1 (.slice A2 k c2) k ((shpOf bs k).map (Value.int .i64))) ∧ Hid (Below W.heap.size W w')) (fun i _ => 4 * z - (intOf i).toNat)
          case atStart => exact ⟨0, none, 0, Nat.zero_le _, rfl, HBi, hide (World.ownsRow_nil _ _ _ _), HR, HBr⟩
          case round =>
            obtain ⟨j, A3, c3, hj, rfl, HBj, HRj, HRs, HBs⟩ := hrel
            have hss := HBs.out.size
            have hls := HBj.out.lt
            have x1 := HBj.out.c1
            by_cases hjz : j < z
            · have HLd : Hid (Lies wr (some ⟨b, o + (1 + k) + 4 * j, none⟩) (4 * z - 4 * j) ((bs.drop (1 + k + 4 * j)).map (Value.int .u8))) := hide (by
                have h2 := (HA.out.below HBs.out).drop (k := 1 + k + 4 * j) (cap := c) (by omega) hnc
                rw [if_neg (by omega), ← List.map_drop, show 1 + k + 4 * z - (1 + k + 4 * j) = 4 * z - 4 * j by omega] at h2
                simpa [Addr.add_lit, Nat.add_assoc] using h2)
              have HCk := hide (ref_get4_long _ (4 * z - 4 * j) (c - (1 + k) - 4 * j) _ wr (by omega) HLd.out (fun x hx => HBY.out x (List.mem_of_mem_drop hx)))
              have hcj : ¬ c - (1 + k) = 4 * j := by omega
              have i0' : (0 : Int) ≤ ((4 * j : Nat) : Int) := by omega
              have i1' : ((4 * j : Nat) : Int) < ((4 * z : Nat) : Int) := by omega
              go_wp2_with fail
              refine Calls.mono HCk.out ?_
              rintro e w' ⟨rfl, rfl⟩
              clear HCk HLd
              obtain ⟨y, hy⟩ : ∃ y, y = head4 (bs.drop (1 + k + 4 * j)) := ⟨_, rfl⟩
              have HLj : Hid (L.getD j 0 = signed y) := hide (by rw [hy]; exact HAT.out j hjz)
              rw [← hy]
              clear hy
              have HX : Hid ((wr.alloc (.cells #[.int .i32 (wrap32 y)] 21)).cell? ⟨wr.heap.size, 0, none⟩ = some (.int .i32 (wrap32 y))) := hide (by have h := cells_new wr [.int .i32 (wrap32 y)] 21 0 _ rfl; rwa [Addr.add_lit] at h)
              go_wp2_with (at_builtin; with_reducible refine wpList_append_one rfl (.tmp 85) (.tmp 88) 23 rfl 21 i1 (.int .i32 0) 4 Tryz.underlying23 HI'.out HZ0'.out HZ1'.out HZ2'.out rfl W2.heap.size A3 j c3 (preV .i32 L j) rfl (HRj.out.alloc _) (by simp; omega) ⟨wr.heap.size, 0, none⟩ (.int .i32 (wrap32 y)) rfl HX.out rfl (by omega) (by unfold maxLen; omega) ?_)
              intro A5 c5 w5 ho5 hm5
              have hb5 : Below W2.heap.size wr w5 := below_moved ((Below.refl W2.heap.size wr).alloc (by omega) _) (by simp; omega) (HRj.out.alloc _) hm5
              have HB5 := hide (HBj.out.below hb5 (by omega))
              have HR5 := hide (own_movedT (HRs.out.alloc _) (HRj.out.alloc _) (by decide) hm5)
              have k0 := HB5.out.c1
              have k1 : w5.frozen? ⟨W.heap.size, 1, none⟩ = false := by have h := HB5.out; unfold BoxT at h; simp [World.frozen?, h]
              have HBn : Hid (BoxT (w5.setCell ⟨W.heap.size, 1, none⟩ (.slice A5 (j + 1) c5)) W.heap.size (.slice A2 k c2) (.slice A5 (j + 1) c5)) := hide (blk2_set1 HB5.out _)
              have HRn : Hid ((w5.setCell ⟨W.heap.size, 1, none⟩ (.slice A5 (j + 1) c5)).ownsRow W2.heap.size 21 1 (.slice A5 (j + 1) c5) (j + 1) (preV .i32 L (j + 1))) := hide (by
                rw [preV_snoc _ _ _ (by rw [HLL.out]; exact hjz), HLj.out, signed, IntWalk.i32_left, hsW2]
                exact own_setLow ho5 (a := ⟨W.heap.size, 1, none⟩) (by show W.heap.size < _; omega) _)
              have HRm := hide (own_setLow HR5.out (a := ⟨W.heap.size, 1, none⟩) (by show W.heap.size < _; omega) (.slice A5 (j + 1) c5))
              have HBe : Hid (Below W.heap.size W (w5.setCell ⟨W.heap.size, 1, none⟩ (.slice A5 (j + 1) c5))) := hide ((HBs.out.trans (hb5.mono (by omega))).setCell (by simp) _)
              clear ho5 hm5 hb5 HB5 HR5 HX HBj HRj HRs HBs x1 HLj
              go_wp2
              go_roundw
              case rel => exact ⟨j + 1, A5, c5, by omega, by go_num, HBn, HRn, HRm, HBe⟩
              case measure => simp [intOf]; omega
            · obtain rfl : j = z := by omega
              have x0 := HBj.out.c0
              have HBXs : Hid (BoxT wr w.heap.size (.slice none 0 0) (.slice none 0 0)) := hide (HBX.out.below HBs.out hW1)
              go_wp2_with (refine wpList_store_row rfl 25 _ _ rfl w.heap.size #[.slice A2 k c2, .slice A3 j c3] rfl rfl 25 _ HBXs.out sizeT rfl (by simp [Value.oneCell']) ?_)
              (try simp only [Exit.inBlock, Exit.then])
              refine ret_ten (p := 2) (u := 3) rfl rfl w.heap.size _ rfl (HBXs.out.set _ _) rfl ?_
              unfold GotR
              exact ⟨A2, k, c2, A3, j, c3, by rw [if_pos HG.out]; rfl, by rw [HGS.out]; exact lies_of_own (own_setRow HRs.out (by omega) _), by rw [HGL.out, ← preV_all .i32 L HLL.out]; exact lies_of_own (own_setRow HRj.out (by omega) _), below_setRow (HBB.out.trans (HBs.out.mono hsW)) (Nat.le_refl _) _⟩
        · have HG : Hid (gotS bs = [] ∧ gotL bs = [] ∧ (if getOk bs = true then (0 : Int) else 4) = 4) := hide (got_bad (Bool.eq_false_iff.2 (fun h => by
            have h2 := (getOk_iff.1 h).2.2
            rw [HDQ.out, HBL.out, hz] at h2
            omega)))
          have hne : ((r : Int) == 4 * (z : Int)) = false := beq_eq_false_iff_ne.2 (by omega)
          clear hz
          by_cases hcc : c = 1 + k
          · go_wp2_with fail
            rw [show 1 + k + r - (1 + k) = r by omega]
            refine Calls.mono (rcheck_any A2 k c2 (shpOf bs k) _ (lies_of_own HR.out) (by omega)) ?_
            rintro e w9 ⟨rfl, rfl⟩
            rw [HD.out]
            go_wp2_with fail
            refine Calls.mono (rsize_any A2 k c2 (shpOf bs k) _ (lies_of_own HR.out) (by omega)) ?_
            rintro e w9 ⟨rfl, rfl⟩
            rw [HZ.out]
            go_wp2_with (refine wpList_store_row rfl 25 _ _ rfl w.heap.size #[.slice none 0 0, .slice none 0 0] rfl rfl 25 _ HBXr.out sizeT rfl (by simp [Value.oneCell']) ?_)
            (try simp only [Exit.inBlock, Exit.then])
            refine ret_ten (p := 2) (u := 3) rfl rfl w.heap.size _ rfl (HBXr.out.set _ _) rfl ?_
            unfold GotR
            exact ⟨none, 0, 0, none, 0, 0, by rw [HG.out.2.2]; rfl, by rw [HG.out.1]; exact lies_empty, by rw [HG.out.2.1]; exact lies_empty, below_setRow (HBB.out.trans (HBr.out.mono hsW)) (Nat.le_refl _) _⟩
          · go_wp2_with fail
            rw [show 1 + k + r - (1 + k) = r by omega]
            refine Calls.mono (rcheck_any A2 k c2 (shpOf bs k) _ (lies_of_own HR.out) (by omega)) ?_
            rintro e w9 ⟨rfl, rfl⟩
            rw [HD.out]
            go_wp2_with fail
            refine Calls.mono (rsize_any A2 k c2 (shpOf bs k) _ (lies_of_own HR.out) (by omega)) ?_
            rintro e w9 ⟨rfl, rfl⟩
            rw [HZ.out]
            go_wp2_with (refine wpList_store_row rfl 25 _ _ rfl w.heap.size #[.slice none 0 0, .slice none 0 0] rfl rfl 25 _ HBXr.out sizeT rfl (by simp [Value.oneCell']) ?_)
            (try simp only [Exit.inBlock, Exit.then])
            refine ret_ten (p := 2) (u := 3) rfl rfl w.heap.size _ rfl (HBXr.out.set _ _) rfl ?_
            unfold GotR
            exact ⟨none, 0, 0, none, 0, 0, by rw [HG.out.2.2]; rfl, by rw [HG.out.1]; exact lies_empty, by rw [HG.out.2.1]; exact lies_empty, below_setRow (HBB.out.trans (HBr.out.mono hsW)) (Nat.le_refl _) _⟩
      · have HD : Hid (decide (0 < sizeI (shpOf bs k)) = false) := hide (decide_eq_false hs)
        have HG : Hid (gotS bs = [] ∧ gotL bs = [] ∧ (if getOk bs = true then (0 : Int) else 4) = 4) := hide (got_bad (Bool.eq_false_iff.2 (fun h => hs (by have := (getOk_iff.1 h).2.1; rwa [HDQ.out] at this))))
        clear hs
        by_cases hcc : c = 1 + k
        · go_wp2_with fail
          rw [show 1 + k + r - (1 + k) = r by omega]
          refine Calls.mono (rcheck_any A2 k c2 (shpOf bs k) _ (lies_of_own HR.out) (by omega)) ?_
          rintro e w9 ⟨rfl, rfl⟩
          rw [HD.out]
          go_wp2_with (refine wpList_store_row rfl 25 _ _ rfl w.heap.size #[.slice none 0 0, .slice none 0 0] rfl rfl 25 _ HBXr.out sizeT rfl (by simp [Value.oneCell']) ?_)
          (try simp only [Exit.inBlock, Exit.then])
          refine ret_ten (p := 2) (u := 3) rfl rfl w.heap.size _ rfl (HBXr.out.set _ _) rfl ?_
          unfold GotR
          exact ⟨none, 0, 0, none, 0, 0, by rw [HG.out.2.2]; rfl, by rw [HG.out.1]; exact lies_empty, by rw [HG.out.2.1]; exact lies_empty, below_setRow (HBB.out.trans (HBr.out.mono hsW)) (Nat.le_refl _) _⟩
        · go_wp2_with fail
          rw [show 1 + k + r - (1 + k) = r by omega]
          refine Calls.mono (rcheck_any A2 k c2 (shpOf bs k) _ (lies_of_own HR.out) (by omega)) ?_
          rintro e w9 ⟨rfl, rfl⟩
          rw [HD.out]
          go_wp2_with (refine wpList_store_row rfl 25 _ _ rfl w.heap.size #[.slice none 0 0, .slice none 0 0] rfl rfl 25 _ HBXr.out sizeT rfl (by simp [Value.oneCell']) ?_)
          (try simp only [Exit.inBlock, Exit.then])
          refine ret_ten (p := 2) (u := 3) rfl rfl w.heap.size _ rfl (HBXr.out.set _ _) rfl ?_
          unfold GotR
          exact ⟨none, 0, 0, none, 0, 0, by rw [HG.out.2.2]; rfl, by rw [HG.out.1]; exact lies_empty, by rw [HG.out.2.1]; exact lies_empty, below_setRow (HBB.out.trans (HBr.out.mono hsW)) (Nat.le_refl _) _⟩

theorem shp_long {bs : List Int} (h : 4 < (shpOf bs (dimsOf bs)).length) : ¬ 0 < sizeI (shpOf bs (dimsOf bs)) := by
  intro hs
  have := (sizeI_pos hs).2.1
  omega
theorem rtget_any (A : Option Addr) (n c : Nat) (bs : List Int) (w : World) (h : Lies w A n (bs.map (Value.int .u8))) (hb : Bytes bs) (hn : n ≤ 281474976710656) (hnc : n ≤ c) :
    Calls Tryz.prog 24 #[.slice A n c] w (GotR w bs) := by
  have hl : bs.length = n := by have := h.len; simpa using this
  have bad : getOk bs = false → Calls Tryz.prog 24 #[.slice A n c] w (fun e w' => e = .returned (.tuple #[tenV none 0 0 none 0 0, .int .i64 4]) ∧ Below w.heap.size w w') → Calls Tryz.prog 24 #[.slice A n c] w (GotR w bs) := by
    intro hg hc
    obtain ⟨g1, g2, g3⟩ := got_bad hg
    refine hc.mono ?_
    rintro e w' ⟨rfl, hb⟩
    exact ⟨none, 0, 0, none, 0, 0, by rw [g3], by rw [g1]; exact lies_empty, by rw [g2]; exact lies_empty, hb⟩
  by_cases h0 : n = 0
  · subst h0
    refine bad (Bool.eq_false_iff.2 (fun hg => ?_)) (rtget_none A c w)
    have := (getOk_iff.1 hg).1
    omega
  · have hq := bytes_getD hb 0
    obtain ⟨q, hqe⟩ : ∃ q : Nat, bs.getD 0 0 = (q : Int) := ⟨(bs.getD 0 0).toNat, by omega⟩
    have hd : dimsOf bs = q := by rw [dimsOf, hqe]; simp
    by_cases hbad : 4 < q ∨ n < 1 + q
    · refine bad (Bool.eq_false_iff.2 (fun hg => ?_)) (rtget_early A n c bs w h hb hn (by omega) (by rw [hqe]; omega))
      obtain ⟨a1, a2, _⟩ := getOk_iff.1 hg
      have a3 := (sizeI_pos a2).2.1
      rw [shpOf_len a1] at a3
      rw [hd] at a1 a3
      omega
    · exact rtget_main A n c q bs w h hb hn hnc hqe (by omega) (by omega)
end
end Go.Proofs.YtaoobdnbjagpnaaGreatDoor
