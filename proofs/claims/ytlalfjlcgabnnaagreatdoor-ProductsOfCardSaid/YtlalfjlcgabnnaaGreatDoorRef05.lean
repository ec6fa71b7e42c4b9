/- Contracts of the document's answers of layer 5: Check, New, At, Same; At of package tensors in one way. -/
import Derived.Test.YtlalfjlcgabnnaaGreatDoorRef04b
import Derived.Test.YtlalfjlcgabnnaaGreatDoorTen9
import Derived.Test.YtlalfjlcgabnnaaGreatDoorSameG
namespace Go.Proofs.YtlalfjlcgabnnaaGreatDoor
open Go.RowKit
set_option linter.unusedVariables false
set_option linter.unusedSimpArgs false

theorem quiet_of_still {f : FuncId} {args : Array Value} {w : World} {E : Ending} (h : Calls Tryz.prog f args w fun e w' => e = E ∧ w = w') :
    Calls Tryz.prog f args w fun e w' => e = E ∧ w' = w := h.mono fun _ _ ⟨a, b⟩ => ⟨a, b.symm⟩

theorem pick_decide {a b : Bool} : (a && b) = (if a = true then b else false) := by cases a <;> rfl

set_option maxHeartbeats 1000000 in
theorem rtcheck_any (A B : Option Addr) (n c m d : Nat) (s : List Int) (w : World) (hA : Lies w A n (s.map (Value.int .i64))) (hn : n ≤ 281474976710656) :
    Calls Tryz.prog 25 #[tenV A n c B m d] w fun e w' => e = .returned (.bool (tenOk s m)) ∧ Below w.heap.size w w' := by
  obtain ⟨W, hW⟩ : ∃ W, W = w.alloc (.cells #[.slice A n c, .slice B m d] 25) := ⟨_, rfl⟩
  have HX : Hid (BoxT W w.heap.size (.slice A n c) (.slice B m d)) := hide (by rw [hW]; exact BoxT.new w _ _)
  have HB : Hid (Below w.heap.size w W) := hide (by rw [hW]; exact (Below.refl w.heap.size w).alloc (Nat.le_refl _) _)
  have HA := hide (hA.below HB.out)
  have hW' := hW.symm
  clear hW hA
  have a0 := HX.out.c0
  have a1 := HX.out.c1
  by_cases h0 : 0 < sizeI s
  · have HD : Hid (decide (0 < sizeI s) = true) := hide (decide_eq_true h0)
    by_cases h1 : (m : Int) = sizeI s
    · have HT : Hid (tenOk s m = true) := hide (tenOk_iff.2 ⟨h0, h1.symm⟩)
      have HQ : Hid (sizeI s = (m : Int)) := hide h1.symm
      have HC1 : Hid (∀ k, Calls Tryz.prog 28 #[.slice A n c] (W.drewN k) fun e w' => e = .returned (.bool true) ∧ w' = W.drewN k) := hide (fun k => by have h := quiet_of_still (rcheck_any A n c s (W.drewN k) (HA.out.drewN k) hn); rw [HD.out] at h; exact h)
      have HC2 : Hid (∀ k, Calls Tryz.prog 81 #[.slice A n c] (W.drewN k) fun e w' => e = .returned (.int .i64 (m : Int)) ∧ w' = W.drewN k) := hide (fun k => by have h := quiet_of_still (rsize_any A n c s (W.drewN k) (HA.out.drewN k) hn); rw [HQ.out] at h; exact h)
      clear h0 h1
      go_enter Tryz.func25, Tryz.ntmps25
      go_wp2
      go_quiet ((first
        | (go_at_call 28; exact Calls.quiet_of_same (HC1.out _))
        | (go_at_call 81; exact Calls.quiet_of_same (HC2.out _))))
      go_wp2
      go_ret
      exact ⟨by rw [HT.out]; rfl, below_drewN HB.out _⟩
    · have HT : Hid (tenOk s m = false) := hide (by simp [tenOk, h0]; omega)
      have hq : ((m : Int) == sizeI s) = false := beq_eq_false_iff_ne.2 h1
      obtain ⟨z, hz⟩ : ∃ z, z = sizeI s := ⟨_, rfl⟩
      rw [← hz] at hq
      have HZ : Hid (sizeI s = z) := hide hz.symm
      have HC1 : Hid (∀ k, Calls Tryz.prog 28 #[.slice A n c] (W.drewN k) fun e w' => e = .returned (.bool true) ∧ w' = W.drewN k) := hide (fun k => by have h := quiet_of_still (rcheck_any A n c s (W.drewN k) (HA.out.drewN k) hn); rw [HD.out] at h; exact h)
      have HC2 : Hid (∀ k, Calls Tryz.prog 81 #[.slice A n c] (W.drewN k) fun e w' => e = .returned (.int .i64 z) ∧ w' = W.drewN k) := hide (fun k => by have h := quiet_of_still (rsize_any A n c s (W.drewN k) (HA.out.drewN k) hn); rw [HZ.out] at h; exact h)
      clear h0 h1 hz
      go_enter Tryz.func25, Tryz.ntmps25
      go_wp2
      go_quiet ((first
        | (go_at_call 28; exact Calls.quiet_of_same (HC1.out _))
        | (go_at_call 81; exact Calls.quiet_of_same (HC2.out _))))
      go_wp2
      go_ret
      exact ⟨by rw [HT.out]; rfl, below_drewN HB.out _⟩
  · have HD : Hid (decide (0 < sizeI s) = false) := hide (decide_eq_false h0)
    have HT : Hid (tenOk s m = false) := hide (by simp [tenOk, h0])
    have HC1 : Hid (∀ k, Calls Tryz.prog 28 #[.slice A n c] (W.drewN k) fun e w' => e = .returned (.bool false) ∧ w' = W.drewN k) := hide (fun k => by have h := quiet_of_still (rcheck_any A n c s (W.drewN k) (HA.out.drewN k) hn); rw [HD.out] at h; exact h)
    clear h0
    go_enter Tryz.func25, Tryz.ntmps25
    go_wp2
    go_quiet ((first
      | (go_at_call 28; exact Calls.quiet_of_same (HC1.out _))))
    go_wp2
    go_ret
    exact ⟨by rw [HT.out]; rfl, below_drewN HB.out _⟩

set_option maxHeartbeats 800000 in
theorem rtnew_err (A : Option Addr) (n c : Nat) (s : List Int) (w : World) (h : Lies w A n (s.map (Value.int .i64))) (hn : n ≤ 281474976710656) (hs : ¬ 0 < sizeI s) :
    Calls Tryz.prog 26 #[.slice A n c] w fun e w' => e = .returned (.tuple #[tenV none 0 0 none 0 0, .int .i64 1]) ∧ Below w.heap.size w w' := by
  have HA := hide h
  have HD : Hid (decide (0 < sizeI s) = false) := hide (decide_eq_false hs)
  have HBX := hide (BoxT.new w (.slice none 0 0) (.slice none 0 0))
  have HBB := hide ((((Below.refl w.heap.size w).alloc (Nat.le_refl _) (.cells #[.slice none 0 0, .slice none 0 0] 25))))
  clear h hs
  go_enter Tryz.func26, Tryz.ntmps26
  go_wp2_with fail
  refine Calls.mono (rcheck_any A n c s _ (HA.out.alloc _) hn) ?_
  rintro e w2 ⟨rfl, rfl⟩
  rw [HD.out]
  go_wp2_with (refine wpList_store_row rfl 25 _ _ rfl w.heap.size #[.slice none 0 0, .slice none 0 0] rfl rfl 25 _ HBX.out sizeT rfl (by simp [Value.oneCell']) ?_)
  (try simp only [Exit.inBlock, Exit.then])
  refine ret_ten (p := 2) (u := 3) rfl rfl w.heap.size _ rfl (HBX.out.set _ _) rfl ?_
  exact ⟨rfl, below_setRow HBB.out (Nat.le_refl _) _⟩

set_option maxHeartbeats 800000 in
theorem rtnew_ok (A : Option Addr) (n c q : Nat) (s : List Int) (w : World) (h : Lies w A n (s.map (Value.int .i64))) (hnil : A = none → c = 0) (hq : sizeI s = (q : Int)) (hp : 0 < q) :
    Calls Tryz.prog 26 #[.slice A n c] w fun e w' => ∃ A1 c1 g2, e = .returned (.tuple #[tenV A1 n c1 (some ⟨g2, 0, none⟩) q q, .int .i64 0]) ∧
      Lies w' A1 n (s.map (Value.int .i64)) ∧ Lies w' (some ⟨g2, 0, none⟩) q ((List.replicate q (0 : Int)).map (Value.int .i32)) ∧ Below w.heap.size w w' := by
  have hlen : s.length = n := by have := h.len; simpa using this
  obtain ⟨hn1, hn4, _⟩ := sizeI_pos (xs := s) (by omega)
  rw [hlen] at hn1 hn4
  have hq4 := sizeI_le s
  have HA := hide h
  have HD : Hid (decide (0 < sizeI s) = true) := hide (decide_eq_true (by omega))
  have HQ := hide hq
  have HNIL := hide hnil
  obtain ⟨i0, hi, hz0, hz1, hz2⟩ := info_parts Tryz.infoI
  have HI := hide hi
  have HZ0 := hide hz0
  have HZ1 := hide hz1
  have HZ2 := hide hz2
  clear h hq hlen hi hz0 hz1 hz2 hnil
  obtain ⟨W, hW⟩ : ∃ W, W = w.alloc (.cells #[.slice none 0 0, .slice none 0 0] 25) := ⟨_, rfl⟩
  have HBX : Hid (BoxT W w.heap.size (.slice none 0 0) (.slice none 0 0)) := hide (by rw [hW]; exact BoxT.new w _ _)
  have HBB : Hid (Below w.heap.size w W) := hide (by rw [hW]; exact (Below.refl w.heap.size w).alloc (Nat.le_refl _) _)
  have hW' := hW.symm
  clear hW
  go_enter Tryz.func26, Tryz.ntmps26
  go_wp2_with fail
  refine Calls.mono (rcheck_any A n c s _ (HA.out.below HBB.out) (by omega)) ?_
  rintro e w2 ⟨rfl, rfl⟩
  rw [HD.out]
  go_wp2_with (at_builtin; with_reducible refine wpList_append_nil rfl (.const (.slice none 0 0)) (.tmp 8) 22 rfl 3 i0 (.int .i64 0) 8 Tryz.underlying22 HI.out HZ0.out HZ1.out HZ2.out rfl rfl A n c .i64 s rfl (HA.out.below HBB.out) HNIL.out (by omega) (by unfold maxLen; omega) ?_)
  intro A1 c1 w3 ho1 hb3
  have hs23 := hb3.size
  have HBX3 := hide (HBX.out.kept hb3)
  have hlt3 := HBX.out.lt
  have HB3 := hide (HBB.out.trans (hb3.mono HBB.out.size))
  have HO1 := hide ho1
  clear ho1 hb3 HBX
  go_wp2_with fail
  refine Calls.mono (rsize_any A n c s w3 (HA.out.below HB3.out) (by omega)) ?_
  rintro e w4 ⟨rfl, rfl⟩
  have hsz := HB3.out.size
  rw [HQ.out]
  have hmk := make_nums [] (q : Int) q rfl (by have := HQ.out; omega) w3
  have HBX5 := hide (HBX3.out.alloc (.cells (part [] q 0).toArray 21))
  have hmk5 := heap_alloc_new w3 (.cells (part [] q 0).toArray 21)
  have HMK := hide hmk5
  clear HBX3 hmk5
  go_wp2_with (refine wpList_store_row rfl 25 _ _ rfl w.heap.size #[.slice A1 n c1, .slice (some ⟨w3.heap.size, 0, none⟩) q q] rfl rfl 25 _ HBX5.out sizeT rfl (by simp [Value.oneCell']) ?_)
  (try simp only [Exit.inBlock, Exit.then])
  refine ret_ten (p := 2) (u := 3) rfl rfl w.heap.size _ rfl (HBX5.out.set _ _) rfl ?_
  refine ⟨A1, c1, w3.heap.size, rfl, ?_, ?_, below_setRow (HB3.out.alloc (by omega) _) (Nat.le_refl _) _⟩
  · exact lies_of_own (own_setRow (HO1.out.alloc _) hlt3 _)
  · have h0 : World.ownsRow (w3.alloc (.cells (part [] q 0).toArray 21)) w3.heap.size 21 1 (.slice (some ⟨w3.heap.size, 0, none⟩) q q) q (List.replicate q (.int .i32 0)) := own_of_block (Nat.le_refl _) HMK.out (by rw [part_none]; simp) (Nat.le_refl _) (by unfold maxLen; have := HQ.out; omega) (by rw [part_none]; simp)
    have hne : w.heap.size ≠ w3.heap.size := by omega
    rw [List.map_replicate]
    exact lies_of_own (own_setRow h0 (by omega) _)

/-- What At answers: a number and an error. -/
def atV (s l ys : List Int) (m : Nat) : Int := if tenOk s m = true ∧ okAt s ys = true then l.getD (valI s ys).toNat 0 else 0

def atE (s ys : List Int) (m : Nat) : Int := if tenOk s m = true ∧ okAt s ys = true then 0 else 1

end Go.Proofs.YtlalfjlcgabnnaaGreatDoor
