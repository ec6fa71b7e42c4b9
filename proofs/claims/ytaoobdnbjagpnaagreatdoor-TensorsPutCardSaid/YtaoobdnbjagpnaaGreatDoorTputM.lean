/- TensorsPut: for every tensor and any bytes the walk of its Go text ends in true. -/
import Derived.Test.YtaoobdnbjagpnaaGreatDoorRefM
import Derived.Test.YtaoobdnbjagpnaaGreatDoorBookM
import Derived.Test.YtaoobdnbjagpnaaGreatDoorBeyond
import Derived.Test.YtaoobdnbjagpnaaGreatDoorTLaw
namespace Go.Proofs.YtaoobdnbjagpnaaGreatDoor
open Go.RowKit
set_option linter.unusedVariables false
set_option linter.unusedSimpArgs false
set_option maxRecDepth 100000

theorem book_new5 (w : World) {base : Nat} (hb : base ≤ w.heap.size) : BkAt (w.alloc (.cells #[Value.int .i64 0, Value.slice none 0 0, Value.slice none 0 0, Value.slice none 0 0, Value.slice none 0 0, Value.slice none 0 0, Value.slice none 0 0, Value.slice none 0 0, Value.slice none 0 0, Value.slice none 0 0, Value.slice none 0 0, Value.slice none 0 0, Value.slice none 0 0, Value.slice none 0 0, Value.slice none 0 0, Value.slice none 0 0] 50)) w.heap.size base 0 none 0 [] none 0 [] none 0 [] :=
  ⟨heap_alloc_new w _, World.ownsRow_nil _ _ _ _, ⟨fun i t ht => by simp at ht, fun i j t u _ ht => by simp at ht⟩, Nat.le_refl _, fun i t ht => by simp at ht,
    World.ownsRow_nil _ _ _ _, ⟨fun i t ht => by simp at ht, fun i j t u _ ht => by simp at ht⟩, Nat.le_refl _, fun i t ht => by simp at ht,
    World.ownsRow_nil _ _ _ _, ⟨fun i t ht => by simp at ht, fun i j t u _ ht => by simp at ht⟩, Nat.le_refl _, fun i t ht => by simp at ht, by simp; omega, hb, by omega⟩
theorem below_al5 {W v : World} {o : Obj} (h : Below W.heap.size W v) : Below W.heap.size W (v.alloc o) := h.alloc h.size o
theorem below_nx5 {W v w' : World} (h : Below W.heap.size W v) (k : Below v.heap.size v w') : Below W.heap.size W w' := h.trans (k.mono h.size)
theorem tsz_nn5 (n m : Nat) : 0 ≤ (tsz n m : Int) := by omega
theorem tsz_hi5 {n m N : Nat} (hn : n ≤ N) (hm : m ≤ N) : (tsz n m : Int) ≤ 1 + 2 * N := by unfold tsz; split <;> omega
theorem tsz_lo5 {n m : Nat} (h : tsz n m ≤ 1048576) : n ≤ 1048576 ∧ m ≤ 1048576 := by unfold tsz at h; split at h <;> omega

/-- Its block is made ahead of N; behind N. -/
def Bef (v : Value) (N : Nat) : Prop := ∀ g, v.ownBlock = some g → g < N
def Aft (v : Value) (N : Nat) : Prop := ∀ g, v.ownBlock = some g → N ≤ g
theorem Bef.le {v : Value} {N M : Nat} (h : Bef v N) (hN : N ≤ M) : Bef v M := fun g hg => Nat.lt_of_lt_of_le (h g hg) hN
theorem Aft.le {v : Value} {N M : Nat} (h : Aft v N) (hN : M ≤ N) : Aft v M := fun g hg => Nat.le_trans hN (h g hg)
theorem bef_of {w : World} {base : Nat} {e : TypeId} {v : Value} {n : Nat} {xs : List Value} (h : w.ownsRow base e 1 v n xs) : Bef v w.heap.size := fun g hg => (h.lt g hg).2
theorem aft_of {w : World} {base : Nat} {e : TypeId} {v : Value} {n : Nat} {xs : List Value} (h : w.ownsRow base e 1 v n xs) : Aft v base := fun g hg => (h.lt g hg).1
theorem apart_ba {x : It} {v : Value} {N : Nat} (h1 : Bef x.l N) (h2 : Aft v N) : (x.l.ownBlock = none ∨ x.l.ownBlock ≠ v.ownBlock) ∧ (v.ownBlock = none ∨ v.ownBlock ≠ x.l.ownBlock) := by
  cases hx : x.l.ownBlock with
  | none => exact ⟨.inl rfl, by cases hv : v.ownBlock with
      | none => exact .inl rfl
      | some g => exact .inr (by simp)⟩
  | some a => cases hv : v.ownBlock with
    | none => exact ⟨.inr (by simp), .inl rfl⟩
    | some b =>
      have := h1 a hx
      have := h2 b hv
      exact ⟨.inr (by simp; omega), .inr (by simp; omega)⟩

/-- What Put answers, in memory of its own. -/
theorem tput_own (A B : Option Addr) (n c m d : Nat) (s l : List Int) (w : World) (hA : Lies w A n (s.map (Value.int .i64))) (hB : Lies w B m (l.map (Value.int .i32))) (hn : n ≤ 281474976710656) :
    Calls Tryz.prog 21 #[tenV A n c B m d] w fun e w' => ∃ P k cc, e = .returned (.tuple #[.slice P k cc, .int .i64 (if tenOk s m = true then 0 else 1)]) ∧ w'.ownsRow w.heap.size 5 1 (.slice P k cc) k ((putB s l m).map (Value.int .u8)) ∧ k ≤ 32768 ∧ Below w.heap.size w w' := by
  have hl : s.length = n := by have := hA.len; simpa using this
  by_cases h : tenOk s m = true
  · refine (tput_ok A B n c m d s l w hA hB h).mono ?_
    rintro e w' ⟨g, c', rfl, ho, hb⟩
    obtain ⟨q1, q2⟩ := tenOk_iff.1 h
    have h4 := (sizeI_pos q1).2.1
    have h5 := sizeI_le s
    exact ⟨_, _, _, by rw [if_pos h], by rw [putB, if_pos h]; exact ho, by omega, hb⟩
  · refine (tput_err A B n c m d s w hA hn (by simpa using h)).mono ?_
    rintro e w' ⟨rfl, hb⟩
    exact ⟨none, 0, 0, by rw [if_neg h], by rw [putB, if_neg h]; exact World.ownsRow_nil _ _ _ _, by omega, hb⟩
/-- What Get answers, in memory of its own. -/
theorem tget_own (A : Option Addr) (n c : Nat) (bs : List Int) (w : World) (h : Lies w A n (bs.map (Value.int .u8))) (hb : Bytes bs) (hn : n ≤ 281474976710656) (hnc : n ≤ c) :
    Calls Tryz.prog 23 #[.slice A n c] w fun e w' => ∃ A1 q c1 A2 k k2, e = .returned (.tuple #[tenV A1 q c1 A2 k k2, .int .i64 (if getOk bs = true then 0 else 4)]) ∧
      w'.ownsRow w.heap.size 3 1 (.slice A1 q c1) q ((gotS bs).map (Value.int .i64)) ∧ w'.ownsRow w.heap.size 21 1 (.slice A2 k k2) k ((gotL bs).map (Value.int .i32)) ∧ q ≤ 255 ∧ k ≤ 4096 ∧ Below w.heap.size w w' := by
  have hl : bs.length = n := by have := h.len; simpa using this
  by_cases hok : getOk bs = true
  · obtain ⟨h1, h2, h3⟩ := getOk_iff.1 hok
    have hq := bytes_getD hb 0
    have hqq : bs.getD 0 0 = (dimsOf bs : Int) := by rw [dimsOf]; omega
    have hk : sizeI (shpOf bs (dimsOf bs)) = ((sizeI (shpOf bs (dimsOf bs))).toNat : Int) := by omega
    have h4 := sizeI_le (shpOf bs (dimsOf bs))
    refine (tget_ok A n c (dimsOf bs) _ bs w h hb hn hnc hqq (by omega) hk (by omega) (by omega)).mono ?_
    rintro e w' ⟨g1, c1, g2, rfl, ho1, ho2, hne, hbb⟩
    refine ⟨_, _, _, _, _, _, by rw [if_pos hok], ?_, ?_, by omega, by omega, hbb⟩
    · rw [gotS, if_pos hok]; exact ho1
    · rw [gotL, if_pos hok]; exact ho2
  · refine (tget_err A n c bs w h hb hn hnc (by simpa using hok)).mono ?_
    rintro e w' ⟨rfl, hbb⟩
    refine ⟨none, 0, 0, none, 0, 0, by rw [if_neg hok], ?_, ?_, by omega, by omega, hbb⟩
    · rw [gotS, if_neg hok]; exact World.ownsRow_nil _ _ _ _
    · rw [gotL, if_neg hok]; exact World.ownsRow_nil _ _ _ _

set_option maxHeartbeats 1000000 in
theorem book_bytes (w : World) (B base N : Nat) (HByte : Option Addr) (cByte : Nat) (iByte : List It) (HInt : Option Addr) (cInt : Nat) (iInt : List It) (HNumber : Option Addr) (cNumber : Nat) (iNumber : List It)
    (A : Option Addr) (n c : Nat) (xs : List Value) (h : BkAt w B base N HByte cByte iByte HInt cInt iInt HNumber cNumber iNumber)
    (ho : w.ownsRow base 5 1 (.slice A n c) n xs) (hn : n ≤ 1073741824) (hN : N + 1 ≤ 1048000) (ha : ApartOf iByte (.slice A n c)) :
    Calls Tryz.prog 27 #[.pointer (some ⟨B, 0, none⟩), .slice A n c] w fun e w' => e = .returned (.tuple #[]) ∧
      (∃ H1 c1, BkAt w' B base (N + 1) H1 c1 (iByte ++ [⟨A, n, c, none, 0, 0, N + 1⟩]) HInt cInt iInt HNumber cNumber iNumber) ∧
      KeepT [50, 91] w w' ∧ Below base w w' := by
  have hf := h.few
  have hi := h.manyByte
  refine Calls.mono (add_Byte B base N cByte n c HByte A _ iByte w h.blk rfl rfl h.rowByte h.baseW h.baseB (by omega) (by omega)) ?_
  rintro e w1 ⟨rfl, H1, c1, hk⟩
  exact ⟨rfl, ⟨H1, c1, h.addByte hk ho hn (by omega) ha⟩, hk.keep, hk.below⟩

set_option maxHeartbeats 8000000 in
theorem tput_far (A B A' : Option Addr) (n c m d n' c' : Nat) (s l bs : List Int) (w : World) (hA : Lies w A n (s.map (Value.int .i64))) (hB : Lies w B m (l.map (Value.int .i32))) (hS : Lies w A' n' (bs.map (Value.int .u8)))
    (wb : Bytes bs) (hc' : n' ≤ c') (hn : n ≤ 70368744177664) (hm : m ≤ 70368744177664) (hn' : n' ≤ 140737488355328) (hfar : 1048576 < tsz n m + n') :
    Calls Tryz.prog 4 #[tenV A n c B m d, .slice A' n' c'] w fun e w' => e = .returned (.bool true) ∧ Below w.heap.size w w' := by
  obtain ⟨W, hW⟩ : ∃ W, W = w.alloc (.cells #[.slice A n c, .slice B m d] 25) := ⟨_, rfl⟩
  have HX0 : Hid (BoxT W w.heap.size (.slice A n c) (.slice B m d)) := hide (by rw [hW]; exact BoxT.new w _ _)
  have HB0 : Hid (Below w.heap.size w W) := hide (by rw [hW]; exact (Below.refl w.heap.size w).alloc (Nat.le_refl _) _)
  have hW' := hW.symm
  clear hW
  have HA := hide (hA.below HB0.out)
  have HB := hide (hB.below HB0.out)
  have HS := hide (hS.below HB0.out)
  have HWB := hide wb
  have HL : Hid (l.length = m) := hide (by have := hB.len; simpa using this)
  have HSL : Hid (s.length = n) := hide (by have := hA.len; simpa using this)
  have HBL : Hid (bs.length = n') := hide (by have := hS.len; simpa using this)
  clear hA hB hS wb
  have hsW := HB0.out.size
  have a0 := HX0.out.c0
  have a1 := HX0.out.c1
  have ht0 := tsz_nn5 n m
  have ht1 := tsz_hi5 hn hm
  have HBY : Hid (∀ v : World, Calls Tryz.prog 5 #[.slice (some ⟨v.heap.size, 0, none⟩) 2 2] (v.alloc (.cells #[.int .i64 (tsz n m : Int), .int .i64 (n' : Int)] 3)) fun e w' => e = .returned (.bool true) ∧ (v.alloc (.cells #[.int .i64 (tsz n m : Int), .int .i64 (n' : Int)] 3)) = w') := hide (fun v =>
    beyond_yes (some ⟨v.heap.size, 0, none⟩) 2 2 [(tsz n m : Int), (n' : Int)] _ (lies_lit v .i64 [(tsz n m : Int), (n' : Int)] 3) (by intro z hz; simp at hz; omega) (by simp; omega) (by omega))
  clear ht0 ht1
  go_enter Tryz.func4, Tryz.ntmps4
  go_wp2_with fail
  refine Calls.mono (tsize_any _ _ _ _ _ _ _ (by omega) (by omega)) ?_
  rintro e w2 ⟨rfl, hb2⟩
  clear a0 a1
  go_wp2_with fail
  refine Calls.mono (HBY.out _) ?_
  rintro e w3 ⟨rfl, hw3⟩
  have hbW : Below W.heap.size W w3 := by rw [← hw3]; exact below_al5 hb2
  clear hw3 hb2
  have HB3 := hide (HB0.out.trans (hbW.mono hsW))
  go_wp2
  go_ret
  exact ⟨rfl, HB3.out⟩

set_option maxHeartbeats 8000000 in
theorem tput_near (A B A' : Option Addr) (n c m d n' c' : Nat) (s l bs : List Int) (w : World) (hA : Lies w A n (s.map (Value.int .i64))) (hB : Lies w B m (l.map (Value.int .i32))) (hS : Lies w A' n' (bs.map (Value.int .u8)))
    (wb : Bytes bs) (hc' : n' ≤ c') (hn : n ≤ 70368744177664) (hm : m ≤ 70368744177664) (hn' : n' ≤ 140737488355328) (hnear : tsz n m + n' ≤ 1048576) :
    Calls Tryz.prog 4 #[tenV A n c B m d, .slice A' n' c'] w fun e w' => e = .returned (.bool true) ∧ Below w.heap.size w w' := by
  obtain ⟨W, hW⟩ : ∃ W, W = w.alloc (.cells #[.slice A n c, .slice B m d] 25) := ⟨_, rfl⟩
  have HX0 : Hid (BoxT W w.heap.size (.slice A n c) (.slice B m d)) := hide (by rw [hW]; exact BoxT.new w _ _)
  have HB0 : Hid (Below w.heap.size w W) := hide (by rw [hW]; exact (Below.refl w.heap.size w).alloc (Nat.le_refl _) _)
  have hW' := hW.symm
  clear hW
  have HA := hide (hA.below HB0.out)
  have HB := hide (hB.below HB0.out)
  have HS := hide (hS.below HB0.out)
  have HWB := hide wb
  have HL : Hid (l.length = m) := hide (by have := hB.len; simpa using this)
  have HSL : Hid (s.length = n) := hide (by have := hA.len; simpa using this)
  have HBL : Hid (bs.length = n') := hide (by have := hS.len; simpa using this)
  clear hA hB hS wb
  have hsW := HB0.out.size
  have a0 := HX0.out.c0
  have a1 := HX0.out.c1
  have ht0 := tsz_nn5 n m
  have ht1 := tsz_hi5 hn hm
  have HBY : Hid (∀ v : World, Calls Tryz.prog 5 #[.slice (some ⟨v.heap.size, 0, none⟩) 2 2] (v.alloc (.cells #[.int .i64 (tsz n m : Int), .int .i64 (n' : Int)] 3)) fun e w' => e = .returned (.bool false) ∧ (v.alloc (.cells #[.int .i64 (tsz n m : Int), .int .i64 (n' : Int)] 3)) = w') := hide (fun v =>
    beyond_no (some ⟨v.heap.size, 0, none⟩) 2 2 [(tsz n m : Int), (n' : Int)] _ (lies_lit v .i64 [(tsz n m : Int), (n' : Int)] 3) (by intro z hz; simp at hz; omega) (by simp; omega) (by omega))
  obtain ⟨hn2, hm2⟩ := tsz_lo5 (n := n) (m := m) (by omega)
  clear ht0 ht1
  go_enter Tryz.func4, Tryz.ntmps4
  go_wp2_with fail
  refine Calls.mono (tsize_any _ _ _ _ _ _ _ (by omega) (by omega)) ?_
  rintro e w2 ⟨rfl, hb2⟩
  clear a0 a1
  go_wp2_with fail
  refine Calls.mono (HBY.out _) ?_
  rintro e w3 ⟨rfl, hw3⟩
  have hbW : Below W.heap.size W w3 := by rw [← hw3]; exact below_al5 hb2
  clear hw3 hb2
  obtain ⟨E, hE⟩ : ∃ E : Int, E = if tenOk s m = true then 0 else 1 := ⟨_, rfl⟩
  obtain ⟨G, hG⟩ : ∃ G : Int, G = if getOk bs = true then 0 else 4 := ⟨_, rfl⟩
  have HE := hide hE
  have HG := hide hG
  clear hE hG
  have a0 := (HX0.out.kept hbW).c0
  have a1 := (HX0.out.kept hbW).c1
  go_wp2_with fail
  refine Calls.mono (twinT_any A B n c m d s l _ (HA.out.below hbW) (HB.out.below hbW) (by omega) (by omega)) ?_
  rintro e w4 ⟨g1, g2, rfl, o1, o2, hg12, hb⟩
  obtain ⟨Wt, hWt⟩ : ∃ Wt, Wt = w4.alloc (.cells #[.slice (some ⟨g1, 0, none⟩) n (n + 1), .slice (some ⟨g2, 0, none⟩) m (m + 1)] 25) := ⟨_, rfl⟩
  have HXT : Hid (BoxT Wt w4.heap.size (.slice (some ⟨g1, 0, none⟩) n (n + 1)) (.slice (some ⟨g2, 0, none⟩) m (m + 1))) := hide (by rw [hWt]; exact BoxT.new w4 _ _)
  have hw34 := hbW.size
  have HO1 : Hid (Wt.ownsRow W.heap.size 3 1 (.slice (some ⟨g1, 0, none⟩) (n + 1) (n + 1)) (n + 1) (s.map (Value.int .i64) ++ [.int .i64 77])) := hide (by rw [hWt]; exact own_base (o1.alloc _) hw34)
  have HO2 : Hid (Wt.ownsRow W.heap.size 21 1 (.slice (some ⟨g2, 0, none⟩) (m + 1) (m + 1)) (m + 1) (l.map (Value.int .i32) ++ [.int .i32 77])) := hide (by rw [hWt]; exact own_base (o2.alloc _) hw34)
  replace hbW : Below W.heap.size W Wt := by rw [hWt]; exact below_al5 (below_nx5 hbW hb)
  have hbT : Below Wt.heap.size Wt Wt := Below.refl _ Wt
  have hWt' := hWt.symm
  clear hWt o1 o2 hb a0 a1 hw34
  have HP1 := hide (own_part HO1.out (n := n) (by simp [HSL.out]) (by omega))
  have HP2 := hide (own_part HO2.out (n := m) (by simp [HL.out]) (by omega))
  go_wp2_with fail
  refine Calls.mono (twin_Bytes A' n' c' bs _ (HS.out.below hbW) (by omega)) ?_
  rintro e w5 ⟨rfl, o1, hb⟩
  have hw45 := hbW.size
  have HOC := hide (own_base o1 hw45)
  have HPC := hide (own_part HOC.out (n := n') (by simp [HBL.out]) (by omega))
  replace hbW := below_nx5 hbW hb
  replace hbT := below_nx5 hbT hb
  have hbC : Below w5.heap.size w5 w5 := Below.refl _ w5
  clear o1 hb hw45
  have t0 := (HXT.out.kept hbT).c0
  have t1 := (HXT.out.kept hbT).c1
  go_wp2_with fail
  refine Calls.mono (tput_own (some ⟨g1, 0, none⟩) (some ⟨g2, 0, none⟩) n (n + 1) m (m + 1) s l _ (lies_of_own (own_below HP1.out hbT)) (lies_of_own (own_below HP2.out hbT)) (by omega)) ?_
  rw [← HE.out]
  rintro e w6 ⟨P1, k1, e1, rfl, o1, hkX, hb⟩
  have hwz := hbW.size
  have HFX := hide (aft_of o1)
  have HOX := hide (own_base o1 hwz)
  replace hbW := below_nx5 hbW hb
  replace hbT := below_nx5 hbT hb
  replace hbC := below_nx5 hbC hb
  have hbX : Below w6.heap.size w6 w6 := Below.refl _ w6
  clear o1 hb t0 t1 hwz
  have HS56 := hide hbC.size
  have t0 := (HXT.out.kept hbT).c0
  have t1 := (HXT.out.kept hbT).c1
  go_wp2_with fail
  refine Calls.mono (tput_own (some ⟨g1, 0, none⟩) (some ⟨g2, 0, none⟩) n (n + 1) m (m + 1) s l _ (lies_of_own (own_below HP1.out hbT)) (lies_of_own (own_below HP2.out hbT)) (by omega)) ?_
  rw [← HE.out]
  rintro e w7 ⟨P2, k2, e2, rfl, o1, hkY, hb⟩
  have hwz := hbW.size
  have HFY := hide (aft_of o1)
  have HOY := hide (own_base o1 hwz)
  replace hbW := below_nx5 hbW hb
  replace hbT := below_nx5 hbT hb
  replace hbC := below_nx5 hbC hb
  replace hbX := below_nx5 hbX hb
  have hbY : Below w7.heap.size w7 w7 := Below.refl _ w7
  clear o1 hb t0 t1 hwz
  have a0 := (HX0.out.kept hbW).c0
  have a1 := (HX0.out.kept hbW).c1
  go_wp2_with fail
  refine Calls.mono (rtput_any A B n c m d s l _ (HA.out.below hbW) (HB.out.below hbW) (by omega)) ?_
  rw [← HE.out]
  rintro e w8 ⟨P3, k3, e3, rfl, h1, hk3, hb⟩
  have HR := hide h1
  replace hbW := below_nx5 hbW hb
  replace hbT := below_nx5 hbT hb
  replace hbC := below_nx5 hbC hb
  replace hbX := below_nx5 hbX hb
  replace hbY := below_nx5 hbY hb
  have hbR : Below w8.heap.size w8 w8 := Below.refl _ w8
  clear h1 hb a0 a1
  have HST8 := hide hbT.size
  go_wp2_with fail
  refine Calls.mono (tget_own _ n' (n' + 1) bs _ (lies_of_own (own_below HPC.out hbC)) HWB.out (by omega) (by omega)) ?_
  rw [← HG.out]
  rintro e w9 ⟨A4, q4, c4, A5, k5, d5, rfl, o1, o2, hqP, hkP, hb⟩
  obtain ⟨Wp, hWx⟩ : ∃ Wp, Wp = w9.alloc (.cells #[.slice A4 q4 c4, .slice A5 k5 d5] 25) := ⟨_, rfl⟩
  have HXP : Hid (BoxT Wp w9.heap.size (.slice A4 q4 c4) (.slice A5 k5 d5)) := hide (by rw [hWx]; exact BoxT.new w9 _ _)
  have hwz := hbW.size
  have HFP1 := hide (aft_of o1)
  have HFP2 := hide (aft_of o2)
  have HOP1 : Hid (Wp.ownsRow W.heap.size 3 1 (.slice A4 q4 c4) q4 ((gotS bs).map (Value.int .i64))) := hide (by rw [hWx]; exact own_base (o1.alloc _) hwz)
  have HOP2 : Hid (Wp.ownsRow W.heap.size 21 1 (.slice A5 k5 d5) k5 ((gotL bs).map (Value.int .i32))) := hide (by rw [hWx]; exact own_base (o2.alloc _) hwz)
  have hlP1 : (gotS bs).length = q4 := by have := (lies_of_own o1).len; simpa using this
  have hlP2 : (gotL bs).length = k5 := by have := (lies_of_own o2).len; simpa using this
  replace hbW : Below W.heap.size W Wp := by rw [hWx]; exact below_al5 (below_nx5 hbW hb)
  replace hbT : Below Wt.heap.size Wt Wp := by rw [hWx]; exact below_al5 (below_nx5 hbT hb)
  replace hbC : Below w5.heap.size w5 Wp := by rw [hWx]; exact below_al5 (below_nx5 hbC hb)
  replace hbX : Below w6.heap.size w6 Wp := by rw [hWx]; exact below_al5 (below_nx5 hbX hb)
  replace hbY : Below w7.heap.size w7 Wp := by rw [hWx]; exact below_al5 (below_nx5 hbY hb)
  replace hbR : Below w8.heap.size w8 Wp := by rw [hWx]; exact below_al5 (below_nx5 hbR hb)
  have hbP : Below Wp.heap.size Wp Wp := Below.refl _ Wp
  have hWxP := hWx.symm
  clear hWx o1 o2 hb hwz
  have HSTP := hide hbT.size
  go_wp2_with fail
  refine Calls.mono (tget_own _ n' (n' + 1) bs _ (lies_of_own (own_below HPC.out hbC)) HWB.out (by omega) (by omega)) ?_
  rw [← HG.out]
  rintro e wq ⟨A6, q6, c6, A7, k7, d7, rfl, o1, o2, hqQ, hkQ, hb⟩
  obtain ⟨Wq, hWx⟩ : ∃ Wq, Wq = wq.alloc (.cells #[.slice A6 q6 c6, .slice A7 k7 d7] 25) := ⟨_, rfl⟩
  have HXQ : Hid (BoxT Wq wq.heap.size (.slice A6 q6 c6) (.slice A7 k7 d7)) := hide (by rw [hWx]; exact BoxT.new wq _ _)
  have hwz := hbW.size
  have HFQ1 := hide (aft_of o1)
  have HFQ2 := hide (aft_of o2)
  have HOQ1 : Hid (Wq.ownsRow W.heap.size 3 1 (.slice A6 q6 c6) q6 ((gotS bs).map (Value.int .i64))) := hide (by rw [hWx]; exact own_base (o1.alloc _) hwz)
  have HOQ2 : Hid (Wq.ownsRow W.heap.size 21 1 (.slice A7 k7 d7) k7 ((gotL bs).map (Value.int .i32))) := hide (by rw [hWx]; exact own_base (o2.alloc _) hwz)
  have hlQ1 : (gotS bs).length = q6 := by have := (lies_of_own o1).len; simpa using this
  have hlQ2 : (gotL bs).length = k7 := by have := (lies_of_own o2).len; simpa using this
  replace hbW : Below W.heap.size W Wq := by rw [hWx]; exact below_al5 (below_nx5 hbW hb)
  replace hbT : Below Wt.heap.size Wt Wq := by rw [hWx]; exact below_al5 (below_nx5 hbT hb)
  replace hbC : Below w5.heap.size w5 Wq := by rw [hWx]; exact below_al5 (below_nx5 hbC hb)
  replace hbX : Below w6.heap.size w6 Wq := by rw [hWx]; exact below_al5 (below_nx5 hbX hb)
  replace hbY : Below w7.heap.size w7 Wq := by rw [hWx]; exact below_al5 (below_nx5 hbY hb)
  replace hbR : Below w8.heap.size w8 Wq := by rw [hWx]; exact below_al5 (below_nx5 hbR hb)
  replace hbP : Below Wp.heap.size Wp Wq := by rw [hWx]; exact below_al5 (below_nx5 hbP hb)
  have hbQ : Below Wq.heap.size Wq Wq := Below.refl _ Wq
  have hWxQ := hWx.symm
  clear hWx o1 o2 hb hwz
  obtain rfl : q6 = q4 := by omega
  obtain rfl : k7 = k5 := by omega
  go_wp2_with fail
  refine Calls.mono (rtget_any A' n' c' bs _ (HS.out.below hbW) HWB.out (by omega) hc') ?_
  rintro e wr ⟨A8, q8, c8, A9, k9, d9, rfl, h1, h2, hb⟩
  rw [← HG.out]
  obtain rfl : q8 = q6 := by have := h1.len; simp at this; omega
  obtain rfl : k9 = k7 := by have := h2.len; simp at this; omega
  obtain ⟨Wr, hWx⟩ : ∃ Wr, Wr = wr.alloc (.cells #[.slice A8 q8 c8, .slice A9 k9 d9] 25) := ⟨_, rfl⟩
  have HXR : Hid (BoxT Wr wr.heap.size (.slice A8 q8 c8) (.slice A9 k9 d9)) := hide (by rw [hWx]; exact BoxT.new wr _ _)
  have HR1 : Hid (Lies Wr A8 q8 ((gotS bs).map (Value.int .i64))) := hide (by rw [hWx]; exact h1.alloc _)
  have HR2 : Hid (Lies Wr A9 k9 ((gotL bs).map (Value.int .i32))) := hide (by rw [hWx]; exact h2.alloc _)
  replace hbW : Below W.heap.size W Wr := by rw [hWx]; exact below_al5 (below_nx5 hbW hb)
  replace hbT : Below Wt.heap.size Wt Wr := by rw [hWx]; exact below_al5 (below_nx5 hbT hb)
  replace hbC : Below w5.heap.size w5 Wr := by rw [hWx]; exact below_al5 (below_nx5 hbC hb)
  replace hbX : Below w6.heap.size w6 Wr := by rw [hWx]; exact below_al5 (below_nx5 hbX hb)
  replace hbY : Below w7.heap.size w7 Wr := by rw [hWx]; exact below_al5 (below_nx5 hbY hb)
  replace hbR : Below w8.heap.size w8 Wr := by rw [hWx]; exact below_al5 (below_nx5 hbR hb)
  replace hbP : Below Wp.heap.size Wp Wr := by rw [hWx]; exact below_al5 (below_nx5 hbP hb)
  replace hbQ : Below Wq.heap.size Wq Wr := by rw [hWx]; exact below_al5 (below_nx5 hbQ hb)
  have hbS : Below Wr.heap.size Wr Wr := Below.refl _ Wr
  have hWxS := hWx.symm
  clear hWx h1 h2 hb hlP1 hlP2 hlQ1 hlQ2
  go_wp2_with fail
  refine Calls.mono (sameG_Bytes P1 P3 k1 e1 k3 e3 (putB s l m) (putB s l m) _ (lies_of_own (own_below HOX.out hbX)) (HR.out.below hbR) (by omega)) ?_
  rw [show decide (putB s l m = putB s l m) = true by simp]
  rintro e wv1 ⟨rfl, j, hj⟩
  have hb : Below Wr.heap.size Wr wv1 := by rw [hj]; exact below_drewN (Below.refl _ _) j
  replace hbW := below_nx5 hbW hb
  replace hbT := below_nx5 hbT hb
  replace hbC := below_nx5 hbC hb
  replace hbX := below_nx5 hbX hb
  replace hbY := below_nx5 hbY hb
  replace hbR := below_nx5 hbR hb
  replace hbP := below_nx5 hbP hb
  replace hbQ := below_nx5 hbQ hb
  replace hbS := below_nx5 hbS hb
  clear hb hj
  go_wp2_with fail
  refine Calls.mono (sameG_Bytes P2 P3 k2 e2 k3 e3 (putB s l m) (putB s l m) _ (lies_of_own (own_below HOY.out hbY)) (HR.out.below hbR) (by omega)) ?_
  rw [show decide (putB s l m = putB s l m) = true by simp]
  rintro e wv2 ⟨rfl, j, hj⟩
  have hb : Below wv1.heap.size wv1 wv2 := by rw [hj]; exact below_drewN (Below.refl _ _) j
  replace hbW := below_nx5 hbW hb
  replace hbT := below_nx5 hbT hb
  replace hbC := below_nx5 hbC hb
  replace hbX := below_nx5 hbX hb
  replace hbY := below_nx5 hbY hb
  replace hbR := below_nx5 hbR hb
  replace hbP := below_nx5 hbP hb
  replace hbQ := below_nx5 hbQ hb
  replace hbS := below_nx5 hbS hb
  clear hb hj
  have p0 := (HXP.out.kept hbP).c0
  have p1 := (HXP.out.kept hbP).c1
  have r0 := (HXR.out.kept hbS).c0
  have r1 := (HXR.out.kept hbS).c1
  go_wp2_with fail
  refine Calls.mono (sameT_yes A4 A5 A8 A9 q8 c4 k9 d5 c8 d9 (gotS bs) (gotL bs) _ (lies_of_own (own_below HOP1.out hbP)) (lies_of_own (own_below HOP2.out hbP)) (HR1.out.below hbS) (HR2.out.below hbS) (by omega) (by omega)) ?_
  rintro e wv3 ⟨rfl, hb⟩
  replace hbW := below_nx5 hbW hb
  replace hbT := below_nx5 hbT hb
  replace hbC := below_nx5 hbC hb
  replace hbX := below_nx5 hbX hb
  replace hbY := below_nx5 hbY hb
  replace hbR := below_nx5 hbR hb
  replace hbP := below_nx5 hbP hb
  replace hbQ := below_nx5 hbQ hb
  replace hbS := below_nx5 hbS hb
  clear hb
  clear p0 p1 r0 r1
  have p0 := (HXQ.out.kept hbQ).c0
  have p1 := (HXQ.out.kept hbQ).c1
  have r0 := (HXR.out.kept hbS).c0
  have r1 := (HXR.out.kept hbS).c1
  go_wp2_with fail
  refine Calls.mono (sameT_yes A6 A7 A8 A9 q8 c6 k9 d7 c8 d9 (gotS bs) (gotL bs) _ (lies_of_own (own_below HOQ1.out hbQ)) (lies_of_own (own_below HOQ2.out hbQ)) (HR1.out.below hbS) (HR2.out.below hbS) (by omega) (by omega)) ?_
  rintro e wv4 ⟨rfl, hb⟩
  replace hbW := below_nx5 hbW hb
  replace hbT := below_nx5 hbT hb
  replace hbC := below_nx5 hbC hb
  replace hbX := below_nx5 hbX hb
  replace hbY := below_nx5 hbY hb
  replace hbR := below_nx5 hbR hb
  replace hbP := below_nx5 hbP hb
  replace hbQ := below_nx5 hbQ hb
  replace hbS := below_nx5 hbS hb
  clear hb
  clear p0 p1 r0 r1
  have a0 := (HX0.out.kept hbW).c0
  have a1 := (HX0.out.kept hbW).c1
  have t0 := (HXT.out.kept hbT).c0
  have t1 := (HXT.out.kept hbT).c1
  go_wp2_with fail
  refine Calls.mono (leftT_yes g1 g2 A B n m c d s l _ (lies_of_own (own_below HO1.out hbT)) (lies_of_own (own_below HO2.out hbT)) (HA.out.below hbW) (HB.out.below hbW) (by omega) (by omega)) ?_
  rintro e wv5 ⟨rfl, hb⟩
  replace hbW := below_nx5 hbW hb
  replace hbT := below_nx5 hbT hb
  replace hbC := below_nx5 hbC hb
  replace hbX := below_nx5 hbX hb
  replace hbY := below_nx5 hbY hb
  replace hbR := below_nx5 hbR hb
  replace hbP := below_nx5 hbP hb
  replace hbQ := below_nx5 hbQ hb
  replace hbS := below_nx5 hbS hb
  clear hb
  clear a0 a1 t0 t1
  go_wp2_with fail
  refine Calls.mono (left_Bytes _ n' (n' + 1) c' A' bs _ (lies_of_own (own_below HOC.out hbC)) (HS.out.below hbW) (Nat.le_refl _) (by omega)) ?_
  rintro e wk ⟨rfl, j, hj⟩
  have hb : Below wv5.heap.size wv5 wk := by rw [hj]; exact below_drewN (Below.refl _ _) j
  replace hbW := below_nx5 hbW hb
  replace hbT := below_nx5 hbT hb
  replace hbC := below_nx5 hbC hb
  replace hbX := below_nx5 hbX hb
  replace hbY := below_nx5 hbY hb
  replace hbR := below_nx5 hbR hb
  replace hbP := below_nx5 hbP hb
  replace hbQ := below_nx5 hbQ hb
  replace hbS := below_nx5 hbS hb
  clear hb hj
  have b1 := hide ((bef_of HP1.out))
  have b2 := hide ((bef_of HP2.out))
  have bc := hide (bef_of HPC.out)
  have bx := hide (bef_of HOX.out)
  have bp1 := hide (bef_of HOP1.out)
  have bp2 := hide (bef_of HOP2.out)
  have HBOOK := hide (book_new5 wk hbW.size)
  have HP1k := hide (own_below HP1.out (below_al5 (o := (.cells #[Value.int .i64 0, Value.slice none 0 0, Value.slice none 0 0, Value.slice none 0 0, Value.slice none 0 0, Value.slice none 0 0, Value.slice none 0 0, Value.slice none 0 0, Value.slice none 0 0, Value.slice none 0 0, Value.slice none 0 0, Value.slice none 0 0, Value.slice none 0 0, Value.slice none 0 0, Value.slice none 0 0, Value.slice none 0 0] 50)) hbT))
  have HP2k := hide (own_below HP2.out (below_al5 (o := (.cells #[Value.int .i64 0, Value.slice none 0 0, Value.slice none 0 0, Value.slice none 0 0, Value.slice none 0 0, Value.slice none 0 0, Value.slice none 0 0, Value.slice none 0 0, Value.slice none 0 0, Value.slice none 0 0, Value.slice none 0 0, Value.slice none 0 0, Value.slice none 0 0, Value.slice none 0 0, Value.slice none 0 0, Value.slice none 0 0] 50)) hbT))
  have HPCk := hide (own_below HPC.out (below_al5 (o := (.cells #[Value.int .i64 0, Value.slice none 0 0, Value.slice none 0 0, Value.slice none 0 0, Value.slice none 0 0, Value.slice none 0 0, Value.slice none 0 0, Value.slice none 0 0, Value.slice none 0 0, Value.slice none 0 0, Value.slice none 0 0, Value.slice none 0 0, Value.slice none 0 0, Value.slice none 0 0, Value.slice none 0 0, Value.slice none 0 0] 50)) hbC))
  have HOXk := hide (own_below HOX.out (below_al5 (o := (.cells #[Value.int .i64 0, Value.slice none 0 0, Value.slice none 0 0, Value.slice none 0 0, Value.slice none 0 0, Value.slice none 0 0, Value.slice none 0 0, Value.slice none 0 0, Value.slice none 0 0, Value.slice none 0 0, Value.slice none 0 0, Value.slice none 0 0, Value.slice none 0 0, Value.slice none 0 0, Value.slice none 0 0, Value.slice none 0 0] 50)) hbX))
  have HOYk := hide (own_below HOY.out (below_al5 (o := (.cells #[Value.int .i64 0, Value.slice none 0 0, Value.slice none 0 0, Value.slice none 0 0, Value.slice none 0 0, Value.slice none 0 0, Value.slice none 0 0, Value.slice none 0 0, Value.slice none 0 0, Value.slice none 0 0, Value.slice none 0 0, Value.slice none 0 0, Value.slice none 0 0, Value.slice none 0 0, Value.slice none 0 0, Value.slice none 0 0] 50)) hbY))
  have HOP1k := hide (own_below HOP1.out (below_al5 (o := (.cells #[Value.int .i64 0, Value.slice none 0 0, Value.slice none 0 0, Value.slice none 0 0, Value.slice none 0 0, Value.slice none 0 0, Value.slice none 0 0, Value.slice none 0 0, Value.slice none 0 0, Value.slice none 0 0, Value.slice none 0 0, Value.slice none 0 0, Value.slice none 0 0, Value.slice none 0 0, Value.slice none 0 0, Value.slice none 0 0] 50)) hbP))
  have HOP2k := hide (own_below HOP2.out (below_al5 (o := (.cells #[Value.int .i64 0, Value.slice none 0 0, Value.slice none 0 0, Value.slice none 0 0, Value.slice none 0 0, Value.slice none 0 0, Value.slice none 0 0, Value.slice none 0 0, Value.slice none 0 0, Value.slice none 0 0, Value.slice none 0 0, Value.slice none 0 0, Value.slice none 0 0, Value.slice none 0 0, Value.slice none 0 0, Value.slice none 0 0] 50)) hbP))
  have HOQ1k := hide (own_below HOQ1.out (below_al5 (o := (.cells #[Value.int .i64 0, Value.slice none 0 0, Value.slice none 0 0, Value.slice none 0 0, Value.slice none 0 0, Value.slice none 0 0, Value.slice none 0 0, Value.slice none 0 0, Value.slice none 0 0, Value.slice none 0 0, Value.slice none 0 0, Value.slice none 0 0, Value.slice none 0 0, Value.slice none 0 0, Value.slice none 0 0, Value.slice none 0 0] 50)) hbQ))
  have HOQ2k := hide (own_below HOQ2.out (below_al5 (o := (.cells #[Value.int .i64 0, Value.slice none 0 0, Value.slice none 0 0, Value.slice none 0 0, Value.slice none 0 0, Value.slice none 0 0, Value.slice none 0 0, Value.slice none 0 0, Value.slice none 0 0, Value.slice none 0 0, Value.slice none 0 0, Value.slice none 0 0, Value.slice none 0 0, Value.slice none 0 0, Value.slice none 0 0, Value.slice none 0 0] 50)) hbQ))
  have hbWk := below_al5 (o := (.cells #[Value.int .i64 0, Value.slice none 0 0, Value.slice none 0 0, Value.slice none 0 0, Value.slice none 0 0, Value.slice none 0 0, Value.slice none 0 0, Value.slice none 0 0, Value.slice none 0 0, Value.slice none 0 0, Value.slice none 0 0, Value.slice none 0 0, Value.slice none 0 0, Value.slice none 0 0, Value.slice none 0 0, Value.slice none 0 0] 50)) hbW
  have HT0 := hide (HXT.out.kept (below_al5 (o := (.cells #[Value.int .i64 0, Value.slice none 0 0, Value.slice none 0 0, Value.slice none 0 0, Value.slice none 0 0, Value.slice none 0 0, Value.slice none 0 0, Value.slice none 0 0, Value.slice none 0 0, Value.slice none 0 0, Value.slice none 0 0, Value.slice none 0 0, Value.slice none 0 0, Value.slice none 0 0, Value.slice none 0 0, Value.slice none 0 0] 50)) hbT))
  have HP0 := hide (HXP.out.kept (below_al5 (o := (.cells #[Value.int .i64 0, Value.slice none 0 0, Value.slice none 0 0, Value.slice none 0 0, Value.slice none 0 0, Value.slice none 0 0, Value.slice none 0 0, Value.slice none 0 0, Value.slice none 0 0, Value.slice none 0 0, Value.slice none 0 0, Value.slice none 0 0, Value.slice none 0 0, Value.slice none 0 0, Value.slice none 0 0, Value.slice none 0 0] 50)) hbP))
  have HQ0 := hide (HXQ.out.kept (below_al5 (o := (.cells #[Value.int .i64 0, Value.slice none 0 0, Value.slice none 0 0, Value.slice none 0 0, Value.slice none 0 0, Value.slice none 0 0, Value.slice none 0 0, Value.slice none 0 0, Value.slice none 0 0, Value.slice none 0 0, Value.slice none 0 0, Value.slice none 0 0, Value.slice none 0 0, Value.slice none 0 0, Value.slice none 0 0, Value.slice none 0 0] 50)) hbQ))
  have bc1 := hide (bc.out.le (Nat.le_refl _))
  have bc2 := hide (bc.out.le HS56.out)
  have bx2 := hide (bx.out.le (Nat.le_refl _))
  have b1p := hide (b1.out.le HST8.out)
  have b2p := hide (b2.out.le HST8.out)
  have b1q := hide (b1.out.le HSTP.out)
  have b2q := hide (b2.out.le HSTP.out)
  have bp1q := hide (bp1.out.le (Nat.le_refl _))
  have bp2q := hide (bp2.out.le (Nat.le_refl _))
  have HW0 := hide hbWk
  clear hbWk hbW hbT hbC hbX hbY hbR hbP hbQ hbS
  have t0 := HT0.out.c0
  have t1 := HT0.out.c1
  go_wp2_with fail
  refine Calls.mono (book_tensor _ wk.heap.size W.heap.size 0 none 0 [] none 0 [] none 0 [] (some ⟨g1, 0, none⟩) (some ⟨g2, 0, none⟩) n (n + 1) m (m + 1) _ _ HBOOK.out HP1k.out HP2k.out (by omega) (by omega) (by omega) (fun i t ht => by simp at ht) (fun i t ht => by simp at ht)) ?_
  rintro e v1 ⟨rfl, ⟨Hi1, ci1, Hn1, cn1, hk⟩, hT, hb⟩
  have HK1 := hide hk
  have HWW1 := hide (HW0.out.trans hb)
  have HPCk' := hide (hT.own HPCk.out (by decide))
  have HOXk' := hide (hT.own HOXk.out (by decide))
  have HOYk' := hide (hT.own HOYk.out (by decide))
  have HOP1k' := hide (hT.own HOP1k.out (by decide))
  have HOP2k' := hide (hT.own HOP2k.out (by decide))
  have HOQ1k' := hide (hT.own HOQ1k.out (by decide))
  have HOQ2k' := hide (hT.own HOQ2k.out (by decide))
  have HP0' := hide (hT.blk HP0.out (by decide))
  have HQ0' := hide (hT.blk HQ0.out (by decide))
  clear hk hT hb HBOOK HW0 HP1k HP2k HPCk HOXk HOYk HOP1k HOP2k HOQ1k HOQ2k HT0 HP0 HQ0 t0 t1
  go_wp2_with fail
  refine Calls.mono (book_bytes _ wk.heap.size W.heap.size 2 none 0 [] Hi1 ci1 _ Hn1 cn1 _ _ n' (n' + 1) _ HK1.out HPCk'.out (by omega) (by omega) (fun i t ht => by simp at ht)) ?_
  rintro e v2 ⟨rfl, ⟨Hb2, cb2, hk⟩, hT, hb⟩
  have HK2 := hide hk
  have HWW2 := hide (HWW1.out.trans hb)
  have HOXk'' := hide (hT.own HOXk'.out (by decide))
  have HOYk'' := hide (hT.own HOYk'.out (by decide))
  have HOP1k'' := hide (hT.own HOP1k'.out (by decide))
  have HOP2k'' := hide (hT.own HOP2k'.out (by decide))
  have HOQ1k'' := hide (hT.own HOQ1k'.out (by decide))
  have HOQ2k'' := hide (hT.own HOQ2k'.out (by decide))
  have HP0'' := hide (hT.blk HP0'.out (by decide))
  have HQ0'' := hide (hT.blk HQ0'.out (by decide))
  clear hk hT hb HK1 HWW1 HPCk' HOXk' HOYk' HOP1k' HOP2k' HOQ1k' HOQ2k' HP0' HQ0'
  go_wp2_with fail
  refine Calls.mono (book_bytes _ wk.heap.size W.heap.size 3 Hb2 cb2 _ Hi1 ci1 _ Hn1 cn1 _ P1 k1 e1 _ HK2.out HOXk''.out (by omega) (by omega) (fun i t ht => by have hm := List.mem_of_getElem? ht; simp at hm; subst hm; exact apart_ba bc1.out HFX.out)) ?_
  rintro e v3 ⟨rfl, ⟨Hb3, cb3, hk⟩, hT, hb⟩
  have HK3 := hide hk
  have HWW3 := hide (HWW2.out.trans hb)
  have HOYk''' := hide (hT.own HOYk''.out (by decide))
  have HOP1k''' := hide (hT.own HOP1k''.out (by decide))
  have HOP2k''' := hide (hT.own HOP2k''.out (by decide))
  have HOQ1k''' := hide (hT.own HOQ1k''.out (by decide))
  have HOQ2k''' := hide (hT.own HOQ2k''.out (by decide))
  have HP0''' := hide (hT.blk HP0''.out (by decide))
  have HQ0''' := hide (hT.blk HQ0''.out (by decide))
  clear hk hT hb HK2 HWW2 HOXk'' HOYk'' HOP1k'' HOP2k'' HOQ1k'' HOQ2k'' HP0'' HQ0''
  go_wp2_with fail
  refine Calls.mono (book_bytes _ wk.heap.size W.heap.size 4 Hb3 cb3 _ Hi1 ci1 _ Hn1 cn1 _ P2 k2 e2 _ HK3.out HOYk'''.out (by omega) (by omega) (fun i t ht => by
    have hm := List.mem_of_getElem? ht
    simp at hm
    rcases hm with hm | hm
    · subst hm; exact apart_ba bc2.out HFY.out
    · subst hm; exact apart_ba bx2.out HFY.out)) ?_
  rintro e v4 ⟨rfl, ⟨Hb4, cb4, hk⟩, hT, hb⟩
  have HK4 := hide hk
  have HWW4 := hide (HWW3.out.trans hb)
  have HOP1k'''' := hide (hT.own HOP1k'''.out (by decide))
  have HOP2k'''' := hide (hT.own HOP2k'''.out (by decide))
  have HOQ1k'''' := hide (hT.own HOQ1k'''.out (by decide))
  have HOQ2k'''' := hide (hT.own HOQ2k'''.out (by decide))
  have HP0'''' := hide (hT.blk HP0'''.out (by decide))
  have HQ0'''' := hide (hT.blk HQ0'''.out (by decide))
  clear hk hT hb HK3 HWW3 HOYk''' HOP1k''' HOP2k''' HOQ1k''' HOQ2k''' HP0''' HQ0'''
  have t0 := BoxT.c0 HP0''''.out
  have t1 := BoxT.c1 HP0''''.out
  go_wp2_with fail
  refine Calls.mono (book_tensor _ wk.heap.size W.heap.size 5 Hb4 cb4 _ Hi1 ci1 _ Hn1 cn1 _ A4 A5 q8 c4 k9 d5 _ _ HK4.out HOP1k''''.out HOP2k''''.out (by omega) (by omega) (by omega) (fun i t ht => by have hm := List.mem_of_getElem? ht; simp at hm; subst hm; exact apart_ba b1p.out HFP1.out) (fun i t ht => by have hm := List.mem_of_getElem? ht; simp at hm; subst hm; exact apart_ba b2p.out HFP2.out)) ?_
  rintro e v5 ⟨rfl, ⟨Hi5, ci5, Hn5, cn5, hk⟩, hT, hb⟩
  have HK5 := hide hk
  have HWW5 := hide (HWW4.out.trans hb)
  have HOQ1k''''' := hide (hT.own HOQ1k''''.out (by decide))
  have HOQ2k''''' := hide (hT.own HOQ2k''''.out (by decide))
  have HQ0''''' := hide (hT.blk HQ0''''.out (by decide))
  clear hk hT hb HK4 HWW4 HOP1k'''' HOP2k'''' HOQ1k'''' HOQ2k'''' HP0'''' HQ0'''' t0 t1
  have t0 := BoxT.c0 HQ0'''''.out
  have t1 := BoxT.c1 HQ0'''''.out
  go_wp2_with fail
  refine Calls.mono (book_tensor _ wk.heap.size W.heap.size 7 Hb4 cb4 _ Hi5 ci5 _ Hn5 cn5 _ A6 A7 q8 c6 k9 d7 _ _ HK5.out HOQ1k'''''.out HOQ2k'''''.out (by omega) (by omega) (by omega) (fun i t ht => by
    have hm := List.mem_of_getElem? ht
    simp at hm
    rcases hm with hm | hm
    · subst hm; exact apart_ba b1q.out HFQ1.out
    · subst hm; exact apart_ba bp1q.out HFQ1.out) (fun i t ht => by
    have hm := List.mem_of_getElem? ht
    simp at hm
    rcases hm with hm | hm
    · subst hm; exact apart_ba b2q.out HFQ2.out
    · subst hm; exact apart_ba bp2q.out HFQ2.out)) ?_
  rintro e v6 ⟨rfl, ⟨Hi6, ci6, Hn6, cn6, hk⟩, hT, hb⟩
  have HK6 := hide hk
  have HWW6 := hide (HWW5.out.trans hb)
  clear hk hT hb HK5 HWW5 HOQ1k''''' HOQ2k''''' HQ0''''' t0 t1
  go_wp2_with fail
  refine Calls.mono (apart_any _ _ _ _ _ _ _ _ _ _ _ _ _ HK6.out) ?_
  rintro e wz ⟨rfl, hb⟩
  have HBz := hide (HB0.out.trans ((HWW6.out.trans hb).mono hsW))
  clear hb
  go_wp2
  go_ret
  exact ⟨rfl, HBz.out⟩

theorem tput5_any (A B A' : Option Addr) (n c m d n' c' : Nat) (s l bs : List Int) (w : World) (hA : Lies w A n (s.map (Value.int .i64))) (hB : Lies w B m (l.map (Value.int .i32))) (hS : Lies w A' n' (bs.map (Value.int .u8)))
    (wb : Bytes bs) (hc' : n' ≤ c') (hn : n ≤ 70368744177664) (hm : m ≤ 70368744177664) (hn' : n' ≤ 140737488355328) :
    Calls Tryz.prog 4 #[tenV A n c B m d, .slice A' n' c'] w fun e w' => e = .returned (.bool true) ∧ Below w.heap.size w w' := by
  by_cases h : tsz n m + n' ≤ 1048576
  · exact tput_near A B A' n c m d n' c' s l bs w hA hB hS wb hc' hn hm hn' h
  · exact tput_far A B A' n c m d n' c' s l bs w hA hB hS wb hc' hn hm hn' (by omega)
end Go.Proofs.YtaoobdnbjagpnaaGreatDoor
