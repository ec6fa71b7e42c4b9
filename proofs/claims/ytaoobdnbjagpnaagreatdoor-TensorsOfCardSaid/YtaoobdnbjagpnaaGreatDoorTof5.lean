/- TensorsOf: for every two tensors and every list of places the walk of its Go text ends in true. -/
import Derived.Test.YtaoobdnbjagpnaaGreatDoorRef05
import Derived.Test.YtaoobdnbjagpnaaGreatDoorBookT
import Derived.Test.YtaoobdnbjagpnaaGreatDoorBeyond
import Derived.Test.YtaoobdnbjagpnaaGreatDoorTLaw
namespace Go.Proofs.YtaoobdnbjagpnaaGreatDoor
open Go.RowKit
set_option linter.unusedVariables false
set_option linter.unusedSimpArgs false
set_option maxRecDepth 100000

theorem book_new (w : World) {base : Nat} (hb : base ≤ w.heap.size) : BkAt (w.alloc (.cells #[Value.int .i64 0, Value.slice none 0 0, Value.slice none 0 0, Value.slice none 0 0, Value.slice none 0 0, Value.slice none 0 0, Value.slice none 0 0, Value.slice none 0 0, Value.slice none 0 0, Value.slice none 0 0, Value.slice none 0 0, Value.slice none 0 0, Value.slice none 0 0, Value.slice none 0 0, Value.slice none 0 0, Value.slice none 0 0] 50)) w.heap.size base 0 none 0 [] none 0 [] none 0 [] :=
  ⟨heap_alloc_new w _, World.ownsRow_nil _ _ _ _, ⟨fun i t ht => by simp at ht, fun i j t u _ ht => by simp at ht⟩, Nat.le_refl _, fun i t ht => by simp at ht,
    World.ownsRow_nil _ _ _ _, ⟨fun i t ht => by simp at ht, fun i j t u _ ht => by simp at ht⟩, Nat.le_refl _, fun i t ht => by simp at ht,
    World.ownsRow_nil _ _ _ _, ⟨fun i t ht => by simp at ht, fun i j t u _ ht => by simp at ht⟩, Nat.le_refl _, fun i t ht => by simp at ht, by simp; omega, hb, by omega⟩
theorem below_al {W v : World} {o : Obj} (h : Below W.heap.size W v) : Below W.heap.size W (v.alloc o) := h.alloc h.size o
theorem below_nx {W v w' : World} (h : Below W.heap.size W v) (k : Below v.heap.size v w') : Below W.heap.size W w' := h.trans (k.mono h.size)
theorem apart_one {a b n c m d : Nat} {x : It} (hx : x.l = .slice (some ⟨a, 0, none⟩) n c) (h : a ≠ b) : (x.l.ownBlock = none ∨ x.l.ownBlock ≠ (Value.slice (some ⟨b, 0, none⟩) m d).ownBlock) ∧ ((Value.slice (some ⟨b, 0, none⟩) m d).ownBlock = none ∨ (Value.slice (some ⟨b, 0, none⟩) m d).ownBlock ≠ x.l.ownBlock) := by
  rw [hx]
  simp [Value.ownBlock]
  omega
theorem apart_nil {x : It} : (x.l.ownBlock = none ∨ x.l.ownBlock ≠ (Value.slice none 0 0).ownBlock) ∧ ((Value.slice none 0 0).ownBlock = none ∨ (Value.slice none 0 0).ownBlock ≠ x.l.ownBlock) := by
  refine ⟨?_, .inl rfl⟩
  by_cases h : x.l.ownBlock = none
  · exact .inl h
  · exact .inr h
theorem tsz_nn (n m : Nat) : 0 ≤ (tsz n m : Int) := by omega
theorem tsz_hi {n m N : Nat} (hn : n ≤ N) (hm : m ≤ N) : (tsz n m : Int) ≤ 1 + 2 * N := by unfold tsz; split <;> omega
theorem tsz_lo {n m : Nat} (h : tsz n m ≤ 1048576) : n ≤ 1048576 ∧ m ≤ 1048576 := by unfold tsz at h; split at h <;> omega

set_option maxHeartbeats 8000000 in
theorem tof_far (A B A' B' Y : Option Addr) (n c m d n' c' m' d' ny cy : Nat) (s l s' l' ys : List Int) (w : World) (hA : Lies w A n (s.map (Value.int .i64))) (hB : Lies w B m (l.map (Value.int .i32))) (hA' : Lies w A' n' (s'.map (Value.int .i64))) (hB' : Lies w B' m' (l'.map (Value.int .i32))) (hY : Lies w Y ny (ys.map (Value.int .i64)))
    (hn : n ≤ 70368744177664) (hm : m ≤ 70368744177664) (hn' : n' ≤ 70368744177664) (hm' : m' ≤ 70368744177664) (hy : ny ≤ 70368744177664) (hfar : 1048576 < tsz n m + tsz n' m' + ny) :
    Calls Tryz.prog 3 #[tenV A n c B m d, tenV A' n' c' B' m' d', .slice Y ny cy] w fun e w' => e = .returned (.bool true) ∧ Below w.heap.size w w' := by
  obtain ⟨W, hW⟩ : ∃ W, W = (w.alloc (.cells #[.slice A n c, .slice B m d] 25)).alloc (.cells #[.slice A' n' c', .slice B' m' d'] 25) := ⟨_, rfl⟩
  have HX0 : Hid (BoxT W w.heap.size (.slice A n c) (.slice B m d)) := hide (by rw [hW]; exact (BoxT.new w _ _).alloc _)
  have HX1 : Hid (BoxT W (w.heap.size + 1) (.slice A' n' c') (.slice B' m' d')) := hide (by
    rw [hW]
    have h := (BoxT.new (w.alloc (.cells #[.slice A n c, .slice B m d] 25)) (.slice A' n' c') (.slice B' m' d'))
    rwa [World.size_alloc] at h)
  have HB0 : Hid (Below w.heap.size w W) := hide (by rw [hW]; exact ((Below.refl w.heap.size w).alloc (Nat.le_refl _) _).alloc (by simp) _)
  have hW' := hW.symm
  clear hW
  have HA := hide (hA.below HB0.out)
  have HB := hide (hB.below HB0.out)
  have HA' := hide (hA'.below HB0.out)
  have HB' := hide (hB'.below HB0.out)
  have HY := hide (hY.below HB0.out)
  have HL : Hid (l.length = m) := hide (by have := hB.len; simpa using this)
  have HSL : Hid (s.length = n) := hide (by have := hA.len; simpa using this)
  have HL' : Hid (l'.length = m') := hide (by have := hB'.len; simpa using this)
  have HSL' : Hid (s'.length = n') := hide (by have := hA'.len; simpa using this)
  clear hA hB hA' hB' hY
  have hsW := HB0.out.size
  have a0 := HX0.out.c0
  have a1 := HX0.out.c1
  have b0 := HX1.out.c0
  have b1 := HX1.out.c1
  have HK : Hid (∀ w', Below W.heap.size W w' → w'.cell? ⟨w.heap.size, 0, none⟩ = some (.slice A n c) ∧ w'.cell? ⟨w.heap.size, 1, none⟩ = some (.slice B m d) ∧ w'.cell? ⟨w.heap.size + 1, 0, none⟩ = some (.slice A' n' c') ∧ w'.cell? ⟨w.heap.size + 1, 1, none⟩ = some (.slice B' m' d')) := hide (fun w' hb =>
    ⟨(HX0.out.kept hb).c0, (HX0.out.kept hb).c1, (HX1.out.kept hb).c0, (HX1.out.kept hb).c1⟩)
  have hbr : Below W.heap.size W W := Below.refl _ W
  have hbC : Below W.heap.size W (W.drewN 1) := below_drewN (Below.refl _ W) 1
  have ht0 := tsz_nn n m
  have ht0' := tsz_nn n' m'
  have ht1 := tsz_hi hn hm
  have ht1' := tsz_hi hn' hm'
  have HBY : Hid (∀ v : World, Calls Tryz.prog 5 #[.slice (some ⟨v.heap.size, 0, none⟩) 3 3] (v.alloc (.cells #[.int .i64 (tsz n m : Int), .int .i64 (tsz n' m' : Int), .int .i64 (ny : Int)] 3)) fun e w' => e = .returned (.bool true) ∧ (v.alloc (.cells #[.int .i64 (tsz n m : Int), .int .i64 (tsz n' m' : Int), .int .i64 (ny : Int)] 3)) = w') := hide (fun v =>
    beyond_yes (some ⟨v.heap.size, 0, none⟩) 3 3 [(tsz n m : Int), (tsz n' m' : Int), (ny : Int)] _ (lies_lit v .i64 [(tsz n m : Int), (tsz n' m' : Int), (ny : Int)] 3) (by intro z hz; simp at hz; omega) (by simp; omega) (by omega))
  clear ht0 ht0' ht1 ht1'
  go_enter Tryz.func3, Tryz.ntmps3
  go_wp2
  go_region_held3 (fun w' => w'.cell? ⟨w.heap.size, 0, none⟩ = some (.slice A n c) ∧ w'.cell? ⟨w.heap.size, 1, none⟩ = some (.slice B m d) ∧ w'.cell? ⟨w.heap.size + 1, 0, none⟩ = some (.slice A' n' c') ∧ w'.cell? ⟨w.heap.size + 1, 1, none⟩ = some (.slice B' m' d'))
    (first | (exact HK.out _ hbC) | (exact HK.out _ (below_al hbC)) | (exact HK.out _ hbr) | go_keep)
    (first
      | (go_at_call 6; refine Calls.mono (tsize_any _ _ _ _ _ _ _ (by omega) (by omega)) ?_; rintro e w2 ⟨rfl, hb2⟩; replace hbC := below_nx hbC hb2)
      | (go_at_call 5; refine Calls.mono (HBY.out _) ?_; rintro e w3 ⟨rfl, hw3⟩; replace hbC : Below W.heap.size W w3 := (by rw [← hw3]; exact below_al hbC)))
  have HB3 := hide (HB0.out.trans (hbC.mono hsW))
  go_wp2
  go_ret
  exact ⟨rfl, HB3.out⟩

set_option maxHeartbeats 8000000 in
theorem tof_ok (A B A' B' Y : Option Addr) (n c m d n' c' m' d' ny cy : Nat) (s l s' l' ys : List Int) (w : World) (hA : Lies w A n (s.map (Value.int .i64))) (hB : Lies w B m (l.map (Value.int .i32))) (hA' : Lies w A' n' (s'.map (Value.int .i64))) (hB' : Lies w B' m' (l'.map (Value.int .i32))) (hY : Lies w Y ny (ys.map (Value.int .i64)))
    (hn : n ≤ 70368744177664) (hm : m ≤ 70368744177664) (hn' : n' ≤ 70368744177664) (hm' : m' ≤ 70368744177664) (hy : ny ≤ 70368744177664) (hnear : tsz n m + tsz n' m' + ny ≤ 1048576) (q : Nat) (hq : sizeI s = (q : Int)) (hp : 0 < q) (hnil : A = none → c = 0) :
    Calls Tryz.prog 3 #[tenV A n c B m d, tenV A' n' c' B' m' d', .slice Y ny cy] w fun e w' => e = .returned (.bool true) ∧ Below w.heap.size w w' := by
  obtain ⟨W, hW⟩ : ∃ W, W = (w.alloc (.cells #[.slice A n c, .slice B m d] 25)).alloc (.cells #[.slice A' n' c', .slice B' m' d'] 25) := ⟨_, rfl⟩
  have HX0 : Hid (BoxT W w.heap.size (.slice A n c) (.slice B m d)) := hide (by rw [hW]; exact (BoxT.new w _ _).alloc _)
  have HX1 : Hid (BoxT W (w.heap.size + 1) (.slice A' n' c') (.slice B' m' d')) := hide (by
    rw [hW]
    have h := (BoxT.new (w.alloc (.cells #[.slice A n c, .slice B m d] 25)) (.slice A' n' c') (.slice B' m' d'))
    rwa [World.size_alloc] at h)
  have HB0 : Hid (Below w.heap.size w W) := hide (by rw [hW]; exact ((Below.refl w.heap.size w).alloc (Nat.le_refl _) _).alloc (by simp) _)
  have hW' := hW.symm
  clear hW
  have HA := hide (hA.below HB0.out)
  have HB := hide (hB.below HB0.out)
  have HA' := hide (hA'.below HB0.out)
  have HB' := hide (hB'.below HB0.out)
  have HY := hide (hY.below HB0.out)
  have HL : Hid (l.length = m) := hide (by have := hB.len; simpa using this)
  have HSL : Hid (s.length = n) := hide (by have := hA.len; simpa using this)
  have HL' : Hid (l'.length = m') := hide (by have := hB'.len; simpa using this)
  have HSL' : Hid (s'.length = n') := hide (by have := hA'.len; simpa using this)
  clear hA hB hA' hB' hY
  have hsW := HB0.out.size
  have a0 := HX0.out.c0
  have a1 := HX0.out.c1
  have b0 := HX1.out.c0
  have b1 := HX1.out.c1
  have HK : Hid (∀ w', Below W.heap.size W w' → w'.cell? ⟨w.heap.size, 0, none⟩ = some (.slice A n c) ∧ w'.cell? ⟨w.heap.size, 1, none⟩ = some (.slice B m d) ∧ w'.cell? ⟨w.heap.size + 1, 0, none⟩ = some (.slice A' n' c') ∧ w'.cell? ⟨w.heap.size + 1, 1, none⟩ = some (.slice B' m' d')) := hide (fun w' hb =>
    ⟨(HX0.out.kept hb).c0, (HX0.out.kept hb).c1, (HX1.out.kept hb).c0, (HX1.out.kept hb).c1⟩)
  have hbr : Below W.heap.size W W := Below.refl _ W
  have hbC : Below W.heap.size W (W.drewN 1) := below_drewN (Below.refl _ W) 1
  have ht0 := tsz_nn n m
  have ht0' := tsz_nn n' m'
  have ht1 := tsz_hi hn hm
  have ht1' := tsz_hi hn' hm'
  have HBY : Hid (∀ v : World, Calls Tryz.prog 5 #[.slice (some ⟨v.heap.size, 0, none⟩) 3 3] (v.alloc (.cells #[.int .i64 (tsz n m : Int), .int .i64 (tsz n' m' : Int), .int .i64 (ny : Int)] 3)) fun e w' => e = .returned (.bool false) ∧ (v.alloc (.cells #[.int .i64 (tsz n m : Int), .int .i64 (tsz n' m' : Int), .int .i64 (ny : Int)] 3)) = w') := hide (fun v =>
    beyond_no (some ⟨v.heap.size, 0, none⟩) 3 3 [(tsz n m : Int), (tsz n' m' : Int), (ny : Int)] _ (lies_lit v .i64 [(tsz n m : Int), (tsz n' m' : Int), (ny : Int)] 3) (by intro z hz; simp at hz; omega) (by simp; omega) (by omega))
  obtain ⟨hn2, hm2⟩ := tsz_lo (n := n) (m := m) (by omega)
  obtain ⟨hn2', hm2'⟩ := tsz_lo (n := n') (m := m') (by omega)
  clear ht0 ht0' ht1 ht1'
  go_enter Tryz.func3, Tryz.ntmps3
  go_wp2
  go_region_held3 (fun w' => w'.cell? ⟨w.heap.size, 0, none⟩ = some (.slice A n c) ∧ w'.cell? ⟨w.heap.size, 1, none⟩ = some (.slice B m d) ∧ w'.cell? ⟨w.heap.size + 1, 0, none⟩ = some (.slice A' n' c') ∧ w'.cell? ⟨w.heap.size + 1, 1, none⟩ = some (.slice B' m' d'))
    (first | (exact HK.out _ hbC) | (exact HK.out _ (below_al hbC)) | (exact HK.out _ hbr) | go_keep)
    (first
      | (go_at_call 6; refine Calls.mono (tsize_any _ _ _ _ _ _ _ (by omega) (by omega)) ?_; rintro e w2 ⟨rfl, hb2⟩; replace hbC := below_nx hbC hb2)
      | (go_at_call 5; refine Calls.mono (HBY.out _) ?_; rintro e w3 ⟨rfl, hw3⟩; replace hbC : Below W.heap.size W w3 := (by rw [← hw3]; exact below_al hbC)))
  have hbW := hbC
  clear hbC a0 a1 b0 b1 hbr
  obtain ⟨V, hV⟩ : ∃ V, V = atV s l ys m := ⟨_, rfl⟩
  obtain ⟨E, hE⟩ : ∃ E, E = atE s ys m := ⟨_, rfl⟩
  obtain ⟨OK, hOK⟩ : ∃ OK, OK = tenOk s m := ⟨_, rfl⟩
  obtain ⟨SM, hSM⟩ : ∃ SM, SM = decide (s = s' ∧ l = l') := ⟨_, rfl⟩
  have HV := hide hV
  have HE := hide hE
  have HOK := hide hOK
  have HSM := hide hSM
  clear hV hE hOK hSM
  have HQ := hide hq
  have HNIL := hide hnil
  clear hq hnil
  have hq4 : q ≤ 4096 := by have := sizeI_le s; have := HQ.out; omega
  obtain ⟨a0, a1, b0, b1⟩ := HK.out _ hbW
  go_wp2_with fail
  refine Calls.mono (twinT_any A B n c m d s l _ (HA.out.below hbW) (HB.out.below hbW) (by omega) (by omega)) ?_
  rintro e w4 ⟨g1, g2, rfl, o1, o2, hg12, hb⟩
  have lt1 := o1.lt g1 rfl
  have lt2 := o2.lt g2 rfl
  have hw34 := hbW.size
  obtain ⟨Wt, hWt⟩ : ∃ Wt, Wt = w4.alloc (.cells #[.slice (some ⟨g1, 0, none⟩) n (n + 1), .slice (some ⟨g2, 0, none⟩) m (m + 1)] 25) := ⟨_, rfl⟩
  have HXT : Hid (BoxT Wt w4.heap.size (.slice (some ⟨g1, 0, none⟩) n (n + 1)) (.slice (some ⟨g2, 0, none⟩) m (m + 1))) := hide (by rw [hWt]; exact BoxT.new w4 _ _)
  have hst : Wt.heap.size = w4.heap.size + 1 := by rw [hWt]; simp
  have HO1 := hide (own_base (o1.alloc (.cells #[.slice (some ⟨g1, 0, none⟩) n (n + 1), .slice (some ⟨g2, 0, none⟩) m (m + 1)] 25)) hw34)
  have HO2 := hide (own_base (o2.alloc (.cells #[.slice (some ⟨g1, 0, none⟩) n (n + 1), .slice (some ⟨g2, 0, none⟩) m (m + 1)] 25)) hw34)
  rw [← hWt] at HO1 HO2
  replace hbW : Below W.heap.size W Wt := by rw [hWt]; exact below_al (below_nx hbW hb)
  have hbT : Below Wt.heap.size Wt Wt := Below.refl _ Wt
  have hWt' := hWt.symm
  clear hWt o1 o2 hb a0 a1 b0 b1
  obtain ⟨a0, a1, b0, b1⟩ := HK.out _ hbW
  go_wp2_with fail
  refine Calls.mono (twinT_any A' B' n' c' m' d' s' l' _ (HA'.out.below hbW) (HB'.out.below hbW) (by omega) (by omega)) ?_
  rintro e w5 ⟨g3, g4, rfl, o1, o2, hg34, hb⟩
  have lt3 := o1.lt g3 rfl
  have lt4 := o2.lt g4 rfl
  have hw45 := hbW.size
  obtain ⟨Wu, hWu⟩ : ∃ Wu, Wu = w5.alloc (.cells #[.slice (some ⟨g3, 0, none⟩) n' (n' + 1), .slice (some ⟨g4, 0, none⟩) m' (m' + 1)] 25) := ⟨_, rfl⟩
  have HXU : Hid (BoxT Wu w5.heap.size (.slice (some ⟨g3, 0, none⟩) n' (n' + 1)) (.slice (some ⟨g4, 0, none⟩) m' (m' + 1))) := hide (by rw [hWu]; exact BoxT.new w5 _ _)
  have hsu : Wu.heap.size = w5.heap.size + 1 := by rw [hWu]; simp
  have HO3 := hide (own_base (o1.alloc (.cells #[.slice (some ⟨g3, 0, none⟩) n' (n' + 1), .slice (some ⟨g4, 0, none⟩) m' (m' + 1)] 25)) hw45)
  have HO4 := hide (own_base (o2.alloc (.cells #[.slice (some ⟨g3, 0, none⟩) n' (n' + 1), .slice (some ⟨g4, 0, none⟩) m' (m' + 1)] 25)) hw45)
  rw [← hWu] at HO3 HO4
  replace hbW : Below W.heap.size W Wu := by rw [hWu]; exact below_al (below_nx hbW hb)
  replace hbT : Below Wt.heap.size Wt Wu := by rw [hWu]; exact below_al (below_nx hbT hb)
  have hbU : Below Wu.heap.size Wu Wu := Below.refl _ Wu
  have hWu' := hWu.symm
  clear hWu o1 o2 hb a0 a1 b0 b1
  have HLT1 : Hid (∀ v, Below Wt.heap.size Wt v → Lies v (some ⟨g1, 0, none⟩) n (s.map (Value.int .i64))) := hide (fun v hv => lies_of_own (own_part (own_below HO1.out hv) (by simp [HSL.out]) (by omega)))
  have HLT2 : Hid (∀ v, Below Wt.heap.size Wt v → Lies v (some ⟨g2, 0, none⟩) m (l.map (Value.int .i32))) := hide (fun v hv => lies_of_own (own_part (own_below HO2.out hv) (by simp [HL.out]) (by omega)))
  have HLU1 : Hid (∀ v, Below Wu.heap.size Wu v → Lies v (some ⟨g3, 0, none⟩) n' (s'.map (Value.int .i64))) := hide (fun v hv => lies_of_own (own_part (own_below HO3.out hv) (by simp [HSL'.out]) (by omega)))
  have HLU2 : Hid (∀ v, Below Wu.heap.size Wu v → Lies v (some ⟨g4, 0, none⟩) m' (l'.map (Value.int .i32))) := hide (fun v hv => lies_of_own (own_part (own_below HO4.out hv) (by simp [HL'.out]) (by omega)))
  have t0 := (HXT.out.kept hbT).c0
  have t1 := (HXT.out.kept hbT).c1
  go_wp2_with fail
  refine Calls.mono (tat_any (some ⟨g1, 0, none⟩) (some ⟨g2, 0, none⟩) Y n (n + 1) m (m + 1) ny cy s l ys _ (HLT1.out _ hbT) (HLT2.out _ hbT) (HY.out.below hbW) (by omega) (by omega)) ?_
  rw [← HV.out, ← HE.out]
  rintro e w6 ⟨rfl, hb⟩
  replace hbW := below_nx hbW hb
  replace hbT := below_nx hbT hb
  replace hbU := below_nx hbU hb
  clear hb t0 t1
  obtain ⟨a0, a1, b0, b1⟩ := HK.out _ hbW
  go_wp2_with fail
  refine Calls.mono (rtat_any A B Y n c m d ny cy s l ys _ (HA.out.below hbW) (HB.out.below hbW) (HY.out.below hbW) (by omega) (by omega)) ?_
  rw [← HV.out, ← HE.out]
  rintro e w7 ⟨rfl, hb⟩
  replace hbW := below_nx hbW hb
  replace hbT := below_nx hbT hb
  replace hbU := below_nx hbU hb
  clear hb a0 a1 b0 b1
  have t0 := (HXT.out.kept hbT).c0
  have t1 := (HXT.out.kept hbT).c1
  go_wp2_with fail
  refine Calls.mono (new_ok (some ⟨g1, 0, none⟩) n (n + 1) q s _ (HLT1.out _ hbT) HQ.out hp) ?_
  rintro e w8 ⟨g5, c5, g6, rfl, o1, o2, hg56, hb⟩
  have lt5 := o1.lt g5 rfl
  have lt6 := o2.lt g6 rfl
  have hw78 := hbW.size
  have hu78 := hbU.size
  obtain ⟨Wx, hWx⟩ : ∃ Wx, Wx = w8.alloc (.cells #[.slice (some ⟨g5, 0, none⟩) n c5, .slice (some ⟨g6, 0, none⟩) q q] 25) := ⟨_, rfl⟩
  have HXX : Hid (BoxT Wx w8.heap.size (.slice (some ⟨g5, 0, none⟩) n c5) (.slice (some ⟨g6, 0, none⟩) q q)) := hide (by rw [hWx]; exact BoxT.new w8 _ _)
  have HO5 := hide (own_base (o1.alloc (.cells #[.slice (some ⟨g5, 0, none⟩) n c5, .slice (some ⟨g6, 0, none⟩) q q] 25)) hw78)
  have HO6 := hide (own_base (o2.alloc (.cells #[.slice (some ⟨g5, 0, none⟩) n c5, .slice (some ⟨g6, 0, none⟩) q q] 25)) hw78)
  rw [← hWx] at HO5 HO6
  replace hbW : Below W.heap.size W Wx := by rw [hWx]; exact below_al (below_nx hbW hb)
  replace hbT : Below Wt.heap.size Wt Wx := by rw [hWx]; exact below_al (below_nx hbT hb)
  replace hbU : Below Wu.heap.size Wu Wx := by rw [hWx]; exact below_al (below_nx hbU hb)
  have hbX : Below Wx.heap.size Wx Wx := Below.refl _ Wx
  have hWx' := hWx.symm
  clear hWx o1 o2 hb t0 t1
  obtain ⟨a0, a1, b0, b1⟩ := HK.out _ hbW
  go_wp2_with fail
  refine Calls.mono (rtnew_ok A n c q s _ (HA.out.below hbW) HNIL.out HQ.out hp) ?_
  rintro e w9 ⟨A7, c7, g8, rfl, y1, y2, hb⟩
  obtain ⟨Wy, hWy⟩ : ∃ Wy, Wy = w9.alloc (.cells #[.slice A7 n c7, .slice (some ⟨g8, 0, none⟩) q q] 25) := ⟨_, rfl⟩
  have HXY : Hid (BoxT Wy w9.heap.size (.slice A7 n c7) (.slice (some ⟨g8, 0, none⟩) q q)) := hide (by rw [hWy]; exact BoxT.new w9 _ _)
  have HY1 := hide (y1.alloc (.cells #[.slice A7 n c7, .slice (some ⟨g8, 0, none⟩) q q] 25))
  have HY2 := hide (y2.alloc (.cells #[.slice A7 n c7, .slice (some ⟨g8, 0, none⟩) q q] 25))
  rw [← hWy] at HY1 HY2
  replace hbW : Below W.heap.size W Wy := by rw [hWy]; exact below_al (below_nx hbW hb)
  replace hbT : Below Wt.heap.size Wt Wy := by rw [hWy]; exact below_al (below_nx hbT hb)
  replace hbU : Below Wu.heap.size Wu Wy := by rw [hWy]; exact below_al (below_nx hbU hb)
  replace hbX : Below Wx.heap.size Wx Wy := by rw [hWy]; exact below_al (below_nx hbX hb)
  have hbY : Below Wy.heap.size Wy Wy := Below.refl _ Wy
  clear hb a0 a1 b0 b1 y1 y2
  obtain ⟨Wk, hWk⟩ : ∃ Wk, Wk = Wy.alloc (.cells #[Value.int .i64 0, Value.slice none 0 0, Value.slice none 0 0, Value.slice none 0 0, Value.slice none 0 0, Value.slice none 0 0, Value.slice none 0 0, Value.slice none 0 0, Value.slice none 0 0, Value.slice none 0 0, Value.slice none 0 0, Value.slice none 0 0, Value.slice none 0 0, Value.slice none 0 0, Value.slice none 0 0, Value.slice none 0 0] 50) := ⟨_, rfl⟩
  have hBB : W.heap.size ≤ Wy.heap.size := hbW.size
  have hsy : Wy.heap.size = w9.heap.size + 1 := by rw [hWy]; simp
  have HKB : Hid (BkAt Wk (w9.heap.size + 1) W.heap.size 0 none 0 [] none 0 [] none 0 []) := hide (by rw [hWk, ← hsy]; exact book_new Wy hBB)
  clear hsy
  replace hbW : Below W.heap.size W Wk := by rw [hWk]; exact below_al hbW
  replace hbT : Below Wt.heap.size Wt Wk := by rw [hWk]; exact below_al hbT
  replace hbU : Below Wu.heap.size Wu Wk := by rw [hWk]; exact below_al hbU
  replace hbX : Below Wx.heap.size Wx Wk := by rw [hWk]; exact below_al hbX
  replace hbY : Below Wy.heap.size Wy Wk := by rw [hWk]; exact below_al hbY
  have HC1 : Hid (∀ v, Below Wk.heap.size Wk v → Calls Tryz.prog 12 #[tenV (some ⟨g1, 0, none⟩) n (n + 1) (some ⟨g2, 0, none⟩) m (m + 1)] v fun e w' => e = .returned (.bool OK) ∧ Below Wk.heap.size Wk w') := hide (fun v hv => (tcheck_any (some ⟨g1, 0, none⟩) (some ⟨g2, 0, none⟩) n (n + 1) m (m + 1) s v (HLT1.out v (below_nx hbT hv)) (by omega)).mono (by rintro e w' ⟨rfl, hb⟩; exact ⟨by rw [HOK.out], below_nx hv hb⟩))
  have HC2 : Hid (∀ v, Below Wk.heap.size Wk v → Calls Tryz.prog 13 #[tenV A n c B m d] v fun e w' => e = .returned (.bool OK) ∧ Below Wk.heap.size Wk w') := hide (fun v hv => (rtcheck_any A B n c m d s v (HA.out.below (below_nx hbW hv)) (by omega)).mono (by rintro e w' ⟨rfl, hb⟩; exact ⟨by rw [HOK.out], below_nx hv hb⟩))
  have HC3 : Hid (∀ v, Below Wk.heap.size Wk v → Calls Tryz.prog 14 #[tenV (some ⟨g1, 0, none⟩) n (n + 1) (some ⟨g2, 0, none⟩) m (m + 1), tenV (some ⟨g3, 0, none⟩) n' (n' + 1) (some ⟨g4, 0, none⟩) m' (m' + 1)] v fun e w' => e = .returned (.bool SM) ∧ Below Wk.heap.size Wk w') := hide (fun v hv => (tsame_any (some ⟨g1, 0, none⟩) (some ⟨g2, 0, none⟩) (some ⟨g3, 0, none⟩) (some ⟨g4, 0, none⟩) n (n + 1) m (m + 1) n' (n' + 1) m' (m' + 1) s l s' l' v (HLT1.out v (below_nx hbT hv)) (HLT2.out v (below_nx hbT hv)) (HLU1.out v (below_nx hbU hv)) (HLU2.out v (below_nx hbU hv)) (by omega) (by omega)).mono (by rintro e w' ⟨rfl, hb⟩; exact ⟨by rw [HSM.out], below_nx hv hb⟩))
  have HC4 : Hid (∀ v, Below Wk.heap.size Wk v → Calls Tryz.prog 15 #[tenV A n c B m d, tenV A' n' c' B' m' d'] v fun e w' => e = .returned (.bool SM) ∧ Below Wk.heap.size Wk w') := hide (fun v hv => (rtsame_any A B A' B' n c m d n' c' m' d' s l s' l' v (HA.out.below (below_nx hbW hv)) (HB.out.below (below_nx hbW hv)) (HA'.out.below (below_nx hbW hv)) (HB'.out.below (below_nx hbW hv)) (by omega) (by omega)).mono (by rintro e w' ⟨rfl, hb⟩; exact ⟨by rw [HSM.out], below_nx hv hb⟩))
  have HC5 : Hid (∀ v, Below Wk.heap.size Wk v → Calls Tryz.prog 16 #[tenV (some ⟨g5, 0, none⟩) n c5 (some ⟨g6, 0, none⟩) q q, tenV A7 n c7 (some ⟨g8, 0, none⟩) q q] v fun e w' => e = .returned (.bool true) ∧ Below Wk.heap.size Wk w') := hide (fun v hv => (sameT_yes (some ⟨g5, 0, none⟩) (some ⟨g6, 0, none⟩) A7 (some ⟨g8, 0, none⟩) n c5 q q c7 q s (List.replicate q (0 : Int)) v (lies_of_own (own_below HO5.out (below_nx hbX hv))) (by rw [List.map_replicate]; exact lies_of_own (own_below HO6.out (below_nx hbX hv))) (HY1.out.below (below_nx hbY hv)) (HY2.out.below (below_nx hbY hv)) (by omega) (by omega)).mono (by rintro e w' ⟨rfl, hb⟩; exact ⟨rfl, below_nx hv hb⟩))
  have HC6 : Hid (∀ v, Below Wk.heap.size Wk v → Calls Tryz.prog 17 #[tenV (some ⟨g1, 0, none⟩) n (n + 1) (some ⟨g2, 0, none⟩) m (m + 1), tenV A n c B m d] v fun e w' => e = .returned (.bool true) ∧ Below Wk.heap.size Wk w') := hide (fun v hv => (leftT_yes g1 g2 A B n m c d s l v (lies_of_own (own_below HO1.out (below_nx hbT hv))) (lies_of_own (own_below HO2.out (below_nx hbT hv))) (HA.out.below (below_nx hbW hv)) (HB.out.below (below_nx hbW hv)) (by omega) (by omega)).mono (by rintro e w' ⟨rfl, hb⟩; exact ⟨rfl, below_nx hv hb⟩))
  have HC7 : Hid (∀ v, Below Wk.heap.size Wk v → Calls Tryz.prog 17 #[tenV (some ⟨g3, 0, none⟩) n' (n' + 1) (some ⟨g4, 0, none⟩) m' (m' + 1), tenV A' n' c' B' m' d'] v fun e w' => e = .returned (.bool true) ∧ Below Wk.heap.size Wk w') := hide (fun v hv => (leftT_yes g3 g4 A' B' n' m' c' d' s' l' v (lies_of_own (own_below HO3.out (below_nx hbU hv))) (lies_of_own (own_below HO4.out (below_nx hbU hv))) (HA'.out.below (below_nx hbW hv)) (HB'.out.below (below_nx hbW hv)) (by omega) (by omega)).mono (by rintro e w' ⟨rfl, hb⟩; exact ⟨rfl, below_nx hv hb⟩))
  have HKF : Hid (∀ w', Below Wk.heap.size Wk w' → w'.cell? ⟨w.heap.size, 0, none⟩ = some (.slice A n c) ∧ w'.cell? ⟨w.heap.size, 1, none⟩ = some (.slice B m d) ∧ w'.cell? ⟨w.heap.size + 1, 0, none⟩ = some (.slice A' n' c') ∧ w'.cell? ⟨w.heap.size + 1, 1, none⟩ = some (.slice B' m' d') ∧ w'.cell? ⟨w4.heap.size, 0, none⟩ = some (.slice (some ⟨g1, 0, none⟩) n (n + 1)) ∧ w'.cell? ⟨w4.heap.size, 1, none⟩ = some (.slice (some ⟨g2, 0, none⟩) m (m + 1)) ∧ w'.cell? ⟨w5.heap.size, 0, none⟩ = some (.slice (some ⟨g3, 0, none⟩) n' (n' + 1)) ∧ w'.cell? ⟨w5.heap.size, 1, none⟩ = some (.slice (some ⟨g4, 0, none⟩) m' (m' + 1)) ∧ w'.cell? ⟨w8.heap.size, 0, none⟩ = some (.slice (some ⟨g5, 0, none⟩) n c5) ∧ w'.cell? ⟨w8.heap.size, 1, none⟩ = some (.slice (some ⟨g6, 0, none⟩) q q) ∧ w'.cell? ⟨w9.heap.size, 0, none⟩ = some (.slice A7 n c7) ∧ w'.cell? ⟨w9.heap.size, 1, none⟩ = some (.slice (some ⟨g8, 0, none⟩) q q)) := hide (fun w' hb => ⟨(HX0.out.kept (below_nx hbW hb)).c0, (HX0.out.kept (below_nx hbW hb)).c1, (HX1.out.kept (below_nx hbW hb)).c0, (HX1.out.kept (below_nx hbW hb)).c1, (HXT.out.kept (below_nx hbT hb)).c0, (HXT.out.kept (below_nx hbT hb)).c1, (HXU.out.kept (below_nx hbU hb)).c0, (HXU.out.kept (below_nx hbU hb)).c1, (HXX.out.kept (below_nx hbX hb)).c0, (HXX.out.kept (below_nx hbX hb)).c1, (HXY.out.kept (below_nx hbY hb)).c0, (HXY.out.kept (below_nx hbY hb)).c1⟩)
  have hk0 : Below Wk.heap.size Wk Wk := Below.refl _ Wk
  have hbC : Below Wk.heap.size Wk (Wk.drewN 1) := below_drewN (Below.refl _ Wk) 1
  have HBW := hide hbW
  have HBT := hide hbT
  have HBU := hide hbU
  have HBX := hide hbX
  clear hbW hbT hbU hbX hbY
  go_wp2
  rw [← hWy, ← hWk]
  clear hWk hWy
  go_region_held3 (fun w' => w'.cell? ⟨w.heap.size, 0, none⟩ = some (.slice A n c) ∧ w'.cell? ⟨w.heap.size, 1, none⟩ = some (.slice B m d) ∧ w'.cell? ⟨w.heap.size + 1, 0, none⟩ = some (.slice A' n' c') ∧ w'.cell? ⟨w.heap.size + 1, 1, none⟩ = some (.slice B' m' d') ∧ w'.cell? ⟨w4.heap.size, 0, none⟩ = some (.slice (some ⟨g1, 0, none⟩) n (n + 1)) ∧ w'.cell? ⟨w4.heap.size, 1, none⟩ = some (.slice (some ⟨g2, 0, none⟩) m (m + 1)) ∧ w'.cell? ⟨w5.heap.size, 0, none⟩ = some (.slice (some ⟨g3, 0, none⟩) n' (n' + 1)) ∧ w'.cell? ⟨w5.heap.size, 1, none⟩ = some (.slice (some ⟨g4, 0, none⟩) m' (m' + 1)) ∧ w'.cell? ⟨w8.heap.size, 0, none⟩ = some (.slice (some ⟨g5, 0, none⟩) n c5) ∧ w'.cell? ⟨w8.heap.size, 1, none⟩ = some (.slice (some ⟨g6, 0, none⟩) q q) ∧ w'.cell? ⟨w9.heap.size, 0, none⟩ = some (.slice A7 n c7) ∧ w'.cell? ⟨w9.heap.size, 1, none⟩ = some (.slice (some ⟨g8, 0, none⟩) q q))
    (first | (exact HKF.out _ hbC) | (exact HKF.out _ hk0) | go_keep)
    (first
      | (go_at_call 12; refine Calls.mono (HC1.out _ hbC) ?_; rintro e wS ⟨rfl, hbS⟩; replace hbC := hbS)
      | (go_at_call 13; refine Calls.mono (HC2.out _ hbC) ?_; rintro e wS ⟨rfl, hbS⟩; replace hbC := hbS)
      | (go_at_call 14; refine Calls.mono (HC3.out _ hbC) ?_; rintro e wS ⟨rfl, hbS⟩; replace hbC := hbS)
      | (go_at_call 15; refine Calls.mono (HC4.out _ hbC) ?_; rintro e wS ⟨rfl, hbS⟩; replace hbC := hbS)
      | (go_at_call 16; refine Calls.mono (HC5.out _ hbC) ?_; rintro e wS ⟨rfl, hbS⟩; replace hbC := hbS)
      | (go_at_call 17; first | (with_reducible refine Calls.mono (HC6.out _ hbC) ?_; rintro e wS ⟨rfl, hbS⟩; replace hbC := hbS) | (with_reducible refine Calls.mono (HC7.out _ hbC) ?_; rintro e wS ⟨rfl, hbS⟩; replace hbC := hbS)))
  have HK0 := hide (HKB.out.below hbS)
  have HR1 := hide (own_below HO1.out (below_nx HBT.out hbS))
  have HR2 := hide (own_below HO2.out (below_nx HBT.out hbS))
  have HR3 := hide (own_below HO3.out (below_nx HBU.out hbS))
  have HR4 := hide (own_below HO4.out (below_nx HBU.out hbS))
  have HP1 := hide (own_part HR1.out (n := n) (by simp [HSL.out]) (by omega))
  have HP2 := hide (own_part HR2.out (n := m) (by simp [HL.out]) (by omega))
  have HP3 := hide (own_part HR3.out (n := n') (by simp [HSL'.out]) (by omega))
  have HP4 := hide (own_part HR4.out (n := m') (by simp [HL'.out]) (by omega))
  have HP5 := hide (own_below HO5.out (below_nx HBX.out hbS))
  have HP6 := hide (own_below HO6.out (below_nx HBX.out hbS))
  have HBU0 := hide (HXU.out.kept (below_nx HBU.out hbS))
  have HBX0 := hide (HXX.out.kept (below_nx HBX.out hbS))
  have hWS : Below W.heap.size W wS := below_nx HBW.out hbS
  obtain ⟨_, _, _, _, t0, t1, _⟩ := HKF.out _ hbS
  have hwg := HBW.out.size
  have HWS := hide hWS
  clear hk0 HC1 HC2 HC3 HC4 HC5 HC6 HC7 HKF HKB HR1 HR2 HR3 HR4 hbS hbC hWS
  go_wp2_with fail
  refine Calls.mono (book_tensor _ (w9.heap.size + 1) W.heap.size 0 none 0 [] none 0 [] none 0 [] (some ⟨g1, 0, none⟩) (some ⟨g2, 0, none⟩) n (n + 1) m (m + 1) _ _ HK0.out HP1.out HP2.out (by omega) (by omega) (by omega) (fun i t ht => by simp at ht) (fun i t ht => by simp at ht)) ?_
  rintro e wa ⟨rfl, ⟨H1, c1, H2, c2, hk⟩, hT, hb⟩
  have HK1 := hide hk
  have HWA := hide (HWS.out.trans hb)
  have HBU1 := hide (hT.blk HBU0.out (by decide))
  have HBX1 := hide (hT.blk HBX0.out (by decide))
  have HQ3 := hide (hT.own HP3.out (by decide))
  have HQ4 := hide (hT.own HP4.out (by decide))
  have HQ5 := hide (hT.own HP5.out (by decide))
  have HQ6 := hide (hT.own HP6.out (by decide))
  clear hk hb hT t0 t1 HK0 HBU0 HBX0
  have u0 := BoxT.c0 HBU1.out
  have u1 := BoxT.c1 HBU1.out
  go_wp2_with fail
  refine Calls.mono (book_tensor _ (w9.heap.size + 1) W.heap.size 2 none 0 [] H1 c1 _ H2 c2 _ (some ⟨g3, 0, none⟩) (some ⟨g4, 0, none⟩) n' (n' + 1) m' (m' + 1) _ _ HK1.out HQ3.out HQ4.out (by omega) (by omega) (by omega)
    (fun i t ht => by have hm := List.mem_of_getElem? ht; simp at hm; subst hm; exact apart_one rfl (by omega)) (fun i t ht => by have hm := List.mem_of_getElem? ht; simp at hm; subst hm; exact apart_one rfl (by omega))) ?_
  rintro e wb ⟨rfl, ⟨H3, c3, H4, c4, hk⟩, hT, hb⟩
  have HK2 := hide hk
  have HWB := hide (HWA.out.trans hb)
  have HBX2 := hide (hT.blk HBX1.out (by decide))
  have HR5 := hide (hT.own HQ5.out (by decide))
  have HR6 := hide (hT.own HQ6.out (by decide))
  clear hk hb hT u0 u1 HK1 HBX1 HBU1
  have x0 := BoxT.c0 HBX2.out
  have x1 := BoxT.c1 HBX2.out
  go_wp2_with fail
  refine Calls.mono (book_tensor _ (w9.heap.size + 1) W.heap.size 4 none 0 [] H3 c3 _ H4 c4 _ (some ⟨g5, 0, none⟩) (some ⟨g6, 0, none⟩) n c5 q q _ _ HK2.out HR5.out HR6.out (by omega) (by omega) (by omega)
    (fun i t ht => by have hm := List.mem_of_getElem? ht; simp at hm; rcases hm with hm | hm <;> subst hm <;> exact apart_one rfl (by omega)) (fun i t ht => by have hm := List.mem_of_getElem? ht; simp at hm; rcases hm with hm | hm <;> subst hm <;> exact apart_one rfl (by omega))) ?_
  rintro e wc ⟨rfl, ⟨H5, c5', H6, c6', hk⟩, hT, hb⟩
  have HK3 := hide hk
  have HWC := hide (HWB.out.trans hb)
  clear hk hb hT x0 x1 HK2
  go_wp2_with fail
  refine Calls.mono (apart_any _ _ _ _ _ _ _ _ _ _ _ _ _ HK3.out) ?_
  rintro e wz ⟨rfl, hb⟩
  have HBz := hide (HB0.out.trans ((HWC.out.trans hb).mono hsW))
  clear hb
  go_wp2
  go_ret
  exact ⟨rfl, HBz.out⟩

set_option maxHeartbeats 8000000 in
theorem tof_err (A B A' B' Y : Option Addr) (n c m d n' c' m' d' ny cy : Nat) (s l s' l' ys : List Int) (w : World) (hA : Lies w A n (s.map (Value.int .i64))) (hB : Lies w B m (l.map (Value.int .i32))) (hA' : Lies w A' n' (s'.map (Value.int .i64))) (hB' : Lies w B' m' (l'.map (Value.int .i32))) (hY : Lies w Y ny (ys.map (Value.int .i64)))
    (hn : n ≤ 70368744177664) (hm : m ≤ 70368744177664) (hn' : n' ≤ 70368744177664) (hm' : m' ≤ 70368744177664) (hy : ny ≤ 70368744177664) (hnear : tsz n m + tsz n' m' + ny ≤ 1048576) (hs : ¬ 0 < sizeI s) :
    Calls Tryz.prog 3 #[tenV A n c B m d, tenV A' n' c' B' m' d', .slice Y ny cy] w fun e w' => e = .returned (.bool true) ∧ Below w.heap.size w w' := by
  obtain ⟨W, hW⟩ : ∃ W, W = (w.alloc (.cells #[.slice A n c, .slice B m d] 25)).alloc (.cells #[.slice A' n' c', .slice B' m' d'] 25) := ⟨_, rfl⟩
  have HX0 : Hid (BoxT W w.heap.size (.slice A n c) (.slice B m d)) := hide (by rw [hW]; exact (BoxT.new w _ _).alloc _)
  have HX1 : Hid (BoxT W (w.heap.size + 1) (.slice A' n' c') (.slice B' m' d')) := hide (by
    rw [hW]
    have h := (BoxT.new (w.alloc (.cells #[.slice A n c, .slice B m d] 25)) (.slice A' n' c') (.slice B' m' d'))
    rwa [World.size_alloc] at h)
  have HB0 : Hid (Below w.heap.size w W) := hide (by rw [hW]; exact ((Below.refl w.heap.size w).alloc (Nat.le_refl _) _).alloc (by simp) _)
  have hW' := hW.symm
  clear hW
  have HA := hide (hA.below HB0.out)
  have HB := hide (hB.below HB0.out)
  have HA' := hide (hA'.below HB0.out)
  have HB' := hide (hB'.below HB0.out)
  have HY := hide (hY.below HB0.out)
  have HL : Hid (l.length = m) := hide (by have := hB.len; simpa using this)
  have HSL : Hid (s.length = n) := hide (by have := hA.len; simpa using this)
  have HL' : Hid (l'.length = m') := hide (by have := hB'.len; simpa using this)
  have HSL' : Hid (s'.length = n') := hide (by have := hA'.len; simpa using this)
  clear hA hB hA' hB' hY
  have hsW := HB0.out.size
  have a0 := HX0.out.c0
  have a1 := HX0.out.c1
  have b0 := HX1.out.c0
  have b1 := HX1.out.c1
  have HK : Hid (∀ w', Below W.heap.size W w' → w'.cell? ⟨w.heap.size, 0, none⟩ = some (.slice A n c) ∧ w'.cell? ⟨w.heap.size, 1, none⟩ = some (.slice B m d) ∧ w'.cell? ⟨w.heap.size + 1, 0, none⟩ = some (.slice A' n' c') ∧ w'.cell? ⟨w.heap.size + 1, 1, none⟩ = some (.slice B' m' d')) := hide (fun w' hb =>
    ⟨(HX0.out.kept hb).c0, (HX0.out.kept hb).c1, (HX1.out.kept hb).c0, (HX1.out.kept hb).c1⟩)
  have hbr : Below W.heap.size W W := Below.refl _ W
  have hbC : Below W.heap.size W (W.drewN 1) := below_drewN (Below.refl _ W) 1
  have ht0 := tsz_nn n m
  have ht0' := tsz_nn n' m'
  have ht1 := tsz_hi hn hm
  have ht1' := tsz_hi hn' hm'
  have HBY : Hid (∀ v : World, Calls Tryz.prog 5 #[.slice (some ⟨v.heap.size, 0, none⟩) 3 3] (v.alloc (.cells #[.int .i64 (tsz n m : Int), .int .i64 (tsz n' m' : Int), .int .i64 (ny : Int)] 3)) fun e w' => e = .returned (.bool false) ∧ (v.alloc (.cells #[.int .i64 (tsz n m : Int), .int .i64 (tsz n' m' : Int), .int .i64 (ny : Int)] 3)) = w') := hide (fun v =>
    beyond_no (some ⟨v.heap.size, 0, none⟩) 3 3 [(tsz n m : Int), (tsz n' m' : Int), (ny : Int)] _ (lies_lit v .i64 [(tsz n m : Int), (tsz n' m' : Int), (ny : Int)] 3) (by intro z hz; simp at hz; omega) (by simp; omega) (by omega))
  obtain ⟨hn2, hm2⟩ := tsz_lo (n := n) (m := m) (by omega)
  obtain ⟨hn2', hm2'⟩ := tsz_lo (n := n') (m := m') (by omega)
  clear ht0 ht0' ht1 ht1'
  go_enter Tryz.func3, Tryz.ntmps3
  go_wp2
  go_region_held3 (fun w' => w'.cell? ⟨w.heap.size, 0, none⟩ = some (.slice A n c) ∧ w'.cell? ⟨w.heap.size, 1, none⟩ = some (.slice B m d) ∧ w'.cell? ⟨w.heap.size + 1, 0, none⟩ = some (.slice A' n' c') ∧ w'.cell? ⟨w.heap.size + 1, 1, none⟩ = some (.slice B' m' d'))
    (first | (exact HK.out _ hbC) | (exact HK.out _ (below_al hbC)) | (exact HK.out _ hbr) | go_keep)
    (first
      | (go_at_call 6; refine Calls.mono (tsize_any _ _ _ _ _ _ _ (by omega) (by omega)) ?_; rintro e w2 ⟨rfl, hb2⟩; replace hbC := below_nx hbC hb2)
      | (go_at_call 5; refine Calls.mono (HBY.out _) ?_; rintro e w3 ⟨rfl, hw3⟩; replace hbC : Below W.heap.size W w3 := (by rw [← hw3]; exact below_al hbC)))
  have hbW := hbC
  clear hbC a0 a1 b0 b1 hbr
  obtain ⟨V, hV⟩ : ∃ V, V = atV s l ys m := ⟨_, rfl⟩
  obtain ⟨E, hE⟩ : ∃ E, E = atE s ys m := ⟨_, rfl⟩
  obtain ⟨OK, hOK⟩ : ∃ OK, OK = tenOk s m := ⟨_, rfl⟩
  obtain ⟨SM, hSM⟩ : ∃ SM, SM = decide (s = s' ∧ l = l') := ⟨_, rfl⟩
  have HV := hide hV
  have HE := hide hE
  have HOK := hide hOK
  have HSM := hide hSM
  clear hV hE hOK hSM
  have HNS := hide hs
  clear hs
  obtain ⟨a0, a1, b0, b1⟩ := HK.out _ hbW
  go_wp2_with fail
  refine Calls.mono (twinT_any A B n c m d s l _ (HA.out.below hbW) (HB.out.below hbW) (by omega) (by omega)) ?_
  rintro e w4 ⟨g1, g2, rfl, o1, o2, hg12, hb⟩
  have lt1 := o1.lt g1 rfl
  have lt2 := o2.lt g2 rfl
  have hw34 := hbW.size
  obtain ⟨Wt, hWt⟩ : ∃ Wt, Wt = w4.alloc (.cells #[.slice (some ⟨g1, 0, none⟩) n (n + 1), .slice (some ⟨g2, 0, none⟩) m (m + 1)] 25) := ⟨_, rfl⟩
  have HXT : Hid (BoxT Wt w4.heap.size (.slice (some ⟨g1, 0, none⟩) n (n + 1)) (.slice (some ⟨g2, 0, none⟩) m (m + 1))) := hide (by rw [hWt]; exact BoxT.new w4 _ _)
  have hst : Wt.heap.size = w4.heap.size + 1 := by rw [hWt]; simp
  have HO1 := hide (own_base (o1.alloc (.cells #[.slice (some ⟨g1, 0, none⟩) n (n + 1), .slice (some ⟨g2, 0, none⟩) m (m + 1)] 25)) hw34)
  have HO2 := hide (own_base (o2.alloc (.cells #[.slice (some ⟨g1, 0, none⟩) n (n + 1), .slice (some ⟨g2, 0, none⟩) m (m + 1)] 25)) hw34)
  rw [← hWt] at HO1 HO2
  replace hbW : Below W.heap.size W Wt := by rw [hWt]; exact below_al (below_nx hbW hb)
  have hbT : Below Wt.heap.size Wt Wt := Below.refl _ Wt
  have hWt' := hWt.symm
  clear hWt o1 o2 hb a0 a1 b0 b1
  obtain ⟨a0, a1, b0, b1⟩ := HK.out _ hbW
  go_wp2_with fail
  refine Calls.mono (twinT_any A' B' n' c' m' d' s' l' _ (HA'.out.below hbW) (HB'.out.below hbW) (by omega) (by omega)) ?_
  rintro e w5 ⟨g3, g4, rfl, o1, o2, hg34, hb⟩
  have lt3 := o1.lt g3 rfl
  have lt4 := o2.lt g4 rfl
  have hw45 := hbW.size
  obtain ⟨Wu, hWu⟩ : ∃ Wu, Wu = w5.alloc (.cells #[.slice (some ⟨g3, 0, none⟩) n' (n' + 1), .slice (some ⟨g4, 0, none⟩) m' (m' + 1)] 25) := ⟨_, rfl⟩
  have HXU : Hid (BoxT Wu w5.heap.size (.slice (some ⟨g3, 0, none⟩) n' (n' + 1)) (.slice (some ⟨g4, 0, none⟩) m' (m' + 1))) := hide (by rw [hWu]; exact BoxT.new w5 _ _)
  have hsu : Wu.heap.size = w5.heap.size + 1 := by rw [hWu]; simp
  have HO3 := hide (own_base (o1.alloc (.cells #[.slice (some ⟨g3, 0, none⟩) n' (n' + 1), .slice (some ⟨g4, 0, none⟩) m' (m' + 1)] 25)) hw45)
  have HO4 := hide (own_base (o2.alloc (.cells #[.slice (some ⟨g3, 0, none⟩) n' (n' + 1), .slice (some ⟨g4, 0, none⟩) m' (m' + 1)] 25)) hw45)
  rw [← hWu] at HO3 HO4
  replace hbW : Below W.heap.size W Wu := by rw [hWu]; exact below_al (below_nx hbW hb)
  replace hbT : Below Wt.heap.size Wt Wu := by rw [hWu]; exact below_al (below_nx hbT hb)
  have hbU : Below Wu.heap.size Wu Wu := Below.refl _ Wu
  have hWu' := hWu.symm
  clear hWu o1 o2 hb a0 a1 b0 b1
  have HLT1 : Hid (∀ v, Below Wt.heap.size Wt v → Lies v (some ⟨g1, 0, none⟩) n (s.map (Value.int .i64))) := hide (fun v hv => lies_of_own (own_part (own_below HO1.out hv) (by simp [HSL.out]) (by omega)))
  have HLT2 : Hid (∀ v, Below Wt.heap.size Wt v → Lies v (some ⟨g2, 0, none⟩) m (l.map (Value.int .i32))) := hide (fun v hv => lies_of_own (own_part (own_below HO2.out hv) (by simp [HL.out]) (by omega)))
  have HLU1 : Hid (∀ v, Below Wu.heap.size Wu v → Lies v (some ⟨g3, 0, none⟩) n' (s'.map (Value.int .i64))) := hide (fun v hv => lies_of_own (own_part (own_below HO3.out hv) (by simp [HSL'.out]) (by omega)))
  have HLU2 : Hid (∀ v, Below Wu.heap.size Wu v → Lies v (some ⟨g4, 0, none⟩) m' (l'.map (Value.int .i32))) := hide (fun v hv => lies_of_own (own_part (own_below HO4.out hv) (by simp [HL'.out]) (by omega)))
  have t0 := (HXT.out.kept hbT).c0
  have t1 := (HXT.out.kept hbT).c1
  go_wp2_with fail
  refine Calls.mono (tat_any (some ⟨g1, 0, none⟩) (some ⟨g2, 0, none⟩) Y n (n + 1) m (m + 1) ny cy s l ys _ (HLT1.out _ hbT) (HLT2.out _ hbT) (HY.out.below hbW) (by omega) (by omega)) ?_
  rw [← HV.out, ← HE.out]
  rintro e w6 ⟨rfl, hb⟩
  replace hbW := below_nx hbW hb
  replace hbT := below_nx hbT hb
  replace hbU := below_nx hbU hb
  clear hb t0 t1
  obtain ⟨a0, a1, b0, b1⟩ := HK.out _ hbW
  go_wp2_with fail
  refine Calls.mono (rtat_any A B Y n c m d ny cy s l ys _ (HA.out.below hbW) (HB.out.below hbW) (HY.out.below hbW) (by omega) (by omega)) ?_
  rw [← HV.out, ← HE.out]
  rintro e w7 ⟨rfl, hb⟩
  replace hbW := below_nx hbW hb
  replace hbT := below_nx hbT hb
  replace hbU := below_nx hbU hb
  clear hb a0 a1 b0 b1
  have t0 := (HXT.out.kept hbT).c0
  have t1 := (HXT.out.kept hbT).c1
  go_wp2_with fail
  refine Calls.mono (new_err (some ⟨g1, 0, none⟩) n (n + 1) s _ (HLT1.out _ hbT) (by omega) (by have := HNS.out; omega)) ?_
  rintro e w8 ⟨rfl, hb⟩
  obtain ⟨Wx, hWx⟩ : ∃ Wx, Wx = w8.alloc (.cells #[.slice none 0 0, .slice none 0 0] 25) := ⟨_, rfl⟩
  have HXX : Hid (BoxT Wx w8.heap.size (.slice none 0 0) (.slice none 0 0)) := hide (by rw [hWx]; exact BoxT.new w8 _ _)
  replace hbW : Below W.heap.size W Wx := by rw [hWx]; exact below_al (below_nx hbW hb)
  replace hbT : Below Wt.heap.size Wt Wx := by rw [hWx]; exact below_al (below_nx hbT hb)
  replace hbU : Below Wu.heap.size Wu Wx := by rw [hWx]; exact below_al (below_nx hbU hb)
  have hbX : Below Wx.heap.size Wx Wx := Below.refl _ Wx
  clear hb t0 t1
  rw [hWx] at hbW
  obtain ⟨a0, a1, b0, b1⟩ := HK.out _ hbW
  go_wp2_with fail
  rw [← hWx]
  rw [← hWx] at hbW
  refine Calls.mono (rtnew_err A n c s _ (HA.out.below hbW) (by omega) (by have := HNS.out; omega)) ?_
  rintro e w9 ⟨rfl, hb⟩
  obtain ⟨Wy, hWy⟩ : ∃ Wy, Wy = w9.alloc (.cells #[.slice none 0 0, .slice none 0 0] 25) := ⟨_, rfl⟩
  have HXY : Hid (BoxT Wy w9.heap.size (.slice none 0 0) (.slice none 0 0)) := hide (by rw [hWy]; exact BoxT.new w9 _ _)
  replace hbW : Below W.heap.size W Wy := by rw [hWy]; exact below_al (below_nx hbW hb)
  replace hbT : Below Wt.heap.size Wt Wy := by rw [hWy]; exact below_al (below_nx hbT hb)
  replace hbU : Below Wu.heap.size Wu Wy := by rw [hWy]; exact below_al (below_nx hbU hb)
  replace hbX : Below Wx.heap.size Wx Wy := by rw [hWy]; exact below_al (below_nx hbX hb)
  have hbY : Below Wy.heap.size Wy Wy := Below.refl _ Wy
  clear hb a0 a1 b0 b1
  obtain ⟨Wk, hWk⟩ : ∃ Wk, Wk = Wy.alloc (.cells #[Value.int .i64 0, Value.slice none 0 0, Value.slice none 0 0, Value.slice none 0 0, Value.slice none 0 0, Value.slice none 0 0, Value.slice none 0 0, Value.slice none 0 0, Value.slice none 0 0, Value.slice none 0 0, Value.slice none 0 0, Value.slice none 0 0, Value.slice none 0 0, Value.slice none 0 0, Value.slice none 0 0, Value.slice none 0 0] 50) := ⟨_, rfl⟩
  have hBB : W.heap.size ≤ Wy.heap.size := hbW.size
  have hsy : Wy.heap.size = w9.heap.size + 1 := by rw [hWy]; simp
  have HKB : Hid (BkAt Wk (w9.heap.size + 1) W.heap.size 0 none 0 [] none 0 [] none 0 []) := hide (by rw [hWk, ← hsy]; exact book_new Wy hBB)
  clear hsy
  replace hbW : Below W.heap.size W Wk := by rw [hWk]; exact below_al hbW
  replace hbT : Below Wt.heap.size Wt Wk := by rw [hWk]; exact below_al hbT
  replace hbU : Below Wu.heap.size Wu Wk := by rw [hWk]; exact below_al hbU
  replace hbX : Below Wx.heap.size Wx Wk := by rw [hWk]; exact below_al hbX
  replace hbY : Below Wy.heap.size Wy Wk := by rw [hWk]; exact below_al hbY
  have HC1 : Hid (∀ v, Below Wk.heap.size Wk v → Calls Tryz.prog 12 #[tenV (some ⟨g1, 0, none⟩) n (n + 1) (some ⟨g2, 0, none⟩) m (m + 1)] v fun e w' => e = .returned (.bool OK) ∧ Below Wk.heap.size Wk w') := hide (fun v hv => (tcheck_any (some ⟨g1, 0, none⟩) (some ⟨g2, 0, none⟩) n (n + 1) m (m + 1) s v (HLT1.out v (below_nx hbT hv)) (by omega)).mono (by rintro e w' ⟨rfl, hb⟩; exact ⟨by rw [HOK.out], below_nx hv hb⟩))
  have HC2 : Hid (∀ v, Below Wk.heap.size Wk v → Calls Tryz.prog 13 #[tenV A n c B m d] v fun e w' => e = .returned (.bool OK) ∧ Below Wk.heap.size Wk w') := hide (fun v hv => (rtcheck_any A B n c m d s v (HA.out.below (below_nx hbW hv)) (by omega)).mono (by rintro e w' ⟨rfl, hb⟩; exact ⟨by rw [HOK.out], below_nx hv hb⟩))
  have HC3 : Hid (∀ v, Below Wk.heap.size Wk v → Calls Tryz.prog 14 #[tenV (some ⟨g1, 0, none⟩) n (n + 1) (some ⟨g2, 0, none⟩) m (m + 1), tenV (some ⟨g3, 0, none⟩) n' (n' + 1) (some ⟨g4, 0, none⟩) m' (m' + 1)] v fun e w' => e = .returned (.bool SM) ∧ Below Wk.heap.size Wk w') := hide (fun v hv => (tsame_any (some ⟨g1, 0, none⟩) (some ⟨g2, 0, none⟩) (some ⟨g3, 0, none⟩) (some ⟨g4, 0, none⟩) n (n + 1) m (m + 1) n' (n' + 1) m' (m' + 1) s l s' l' v (HLT1.out v (below_nx hbT hv)) (HLT2.out v (below_nx hbT hv)) (HLU1.out v (below_nx hbU hv)) (HLU2.out v (below_nx hbU hv)) (by omega) (by omega)).mono (by rintro e w' ⟨rfl, hb⟩; exact ⟨by rw [HSM.out], below_nx hv hb⟩))
  have HC4 : Hid (∀ v, Below Wk.heap.size Wk v → Calls Tryz.prog 15 #[tenV A n c B m d, tenV A' n' c' B' m' d'] v fun e w' => e = .returned (.bool SM) ∧ Below Wk.heap.size Wk w') := hide (fun v hv => (rtsame_any A B A' B' n c m d n' c' m' d' s l s' l' v (HA.out.below (below_nx hbW hv)) (HB.out.below (below_nx hbW hv)) (HA'.out.below (below_nx hbW hv)) (HB'.out.below (below_nx hbW hv)) (by omega) (by omega)).mono (by rintro e w' ⟨rfl, hb⟩; exact ⟨by rw [HSM.out], below_nx hv hb⟩))
  have HC5 : Hid (∀ v, Below Wk.heap.size Wk v → Calls Tryz.prog 16 #[tenV none 0 0 none 0 0, tenV none 0 0 none 0 0] v fun e w' => e = .returned (.bool true) ∧ Below Wk.heap.size Wk w') := hide (fun v hv => (sameT_yes none none none none 0 0 0 0 0 0 [] [] v lies_empty lies_empty lies_empty lies_empty (by omega) (by omega)).mono (by rintro e w' ⟨rfl, hb⟩; exact ⟨rfl, below_nx hv hb⟩))
  have HC6 : Hid (∀ v, Below Wk.heap.size Wk v → Calls Tryz.prog 17 #[tenV (some ⟨g1, 0, none⟩) n (n + 1) (some ⟨g2, 0, none⟩) m (m + 1), tenV A n c B m d] v fun e w' => e = .returned (.bool true) ∧ Below Wk.heap.size Wk w') := hide (fun v hv => (leftT_yes g1 g2 A B n m c d s l v (lies_of_own (own_below HO1.out (below_nx hbT hv))) (lies_of_own (own_below HO2.out (below_nx hbT hv))) (HA.out.below (below_nx hbW hv)) (HB.out.below (below_nx hbW hv)) (by omega) (by omega)).mono (by rintro e w' ⟨rfl, hb⟩; exact ⟨rfl, below_nx hv hb⟩))
  have HC7 : Hid (∀ v, Below Wk.heap.size Wk v → Calls Tryz.prog 17 #[tenV (some ⟨g3, 0, none⟩) n' (n' + 1) (some ⟨g4, 0, none⟩) m' (m' + 1), tenV A' n' c' B' m' d'] v fun e w' => e = .returned (.bool true) ∧ Below Wk.heap.size Wk w') := hide (fun v hv => (leftT_yes g3 g4 A' B' n' m' c' d' s' l' v (lies_of_own (own_below HO3.out (below_nx hbU hv))) (lies_of_own (own_below HO4.out (below_nx hbU hv))) (HA'.out.below (below_nx hbW hv)) (HB'.out.below (below_nx hbW hv)) (by omega) (by omega)).mono (by rintro e w' ⟨rfl, hb⟩; exact ⟨rfl, below_nx hv hb⟩))
  have HKF : Hid (∀ w', Below Wk.heap.size Wk w' → w'.cell? ⟨w.heap.size, 0, none⟩ = some (.slice A n c) ∧ w'.cell? ⟨w.heap.size, 1, none⟩ = some (.slice B m d) ∧ w'.cell? ⟨w.heap.size + 1, 0, none⟩ = some (.slice A' n' c') ∧ w'.cell? ⟨w.heap.size + 1, 1, none⟩ = some (.slice B' m' d') ∧ w'.cell? ⟨w4.heap.size, 0, none⟩ = some (.slice (some ⟨g1, 0, none⟩) n (n + 1)) ∧ w'.cell? ⟨w4.heap.size, 1, none⟩ = some (.slice (some ⟨g2, 0, none⟩) m (m + 1)) ∧ w'.cell? ⟨w5.heap.size, 0, none⟩ = some (.slice (some ⟨g3, 0, none⟩) n' (n' + 1)) ∧ w'.cell? ⟨w5.heap.size, 1, none⟩ = some (.slice (some ⟨g4, 0, none⟩) m' (m' + 1)) ∧ w'.cell? ⟨w8.heap.size, 0, none⟩ = some (.slice none 0 0) ∧ w'.cell? ⟨w8.heap.size, 1, none⟩ = some (.slice none 0 0) ∧ w'.cell? ⟨w9.heap.size, 0, none⟩ = some (.slice none 0 0) ∧ w'.cell? ⟨w9.heap.size, 1, none⟩ = some (.slice none 0 0)) := hide (fun w' hb => ⟨(HX0.out.kept (below_nx hbW hb)).c0, (HX0.out.kept (below_nx hbW hb)).c1, (HX1.out.kept (below_nx hbW hb)).c0, (HX1.out.kept (below_nx hbW hb)).c1, (HXT.out.kept (below_nx hbT hb)).c0, (HXT.out.kept (below_nx hbT hb)).c1, (HXU.out.kept (below_nx hbU hb)).c0, (HXU.out.kept (below_nx hbU hb)).c1, (HXX.out.kept (below_nx hbX hb)).c0, (HXX.out.kept (below_nx hbX hb)).c1, (HXY.out.kept (below_nx hbY hb)).c0, (HXY.out.kept (below_nx hbY hb)).c1⟩)
  have hk0 : Below Wk.heap.size Wk Wk := Below.refl _ Wk
  have hbC : Below Wk.heap.size Wk (Wk.drewN 1) := below_drewN (Below.refl _ Wk) 1
  have HBW := hide hbW
  have HBT := hide hbT
  have HBU := hide hbU
  have HBX := hide hbX
  clear hbW hbT hbU hbX hbY
  go_wp2
  rw [← hWy, ← hWk]
  clear hWk hWy hWx
  go_region_held3 (fun w' => w'.cell? ⟨w.heap.size, 0, none⟩ = some (.slice A n c) ∧ w'.cell? ⟨w.heap.size, 1, none⟩ = some (.slice B m d) ∧ w'.cell? ⟨w.heap.size + 1, 0, none⟩ = some (.slice A' n' c') ∧ w'.cell? ⟨w.heap.size + 1, 1, none⟩ = some (.slice B' m' d') ∧ w'.cell? ⟨w4.heap.size, 0, none⟩ = some (.slice (some ⟨g1, 0, none⟩) n (n + 1)) ∧ w'.cell? ⟨w4.heap.size, 1, none⟩ = some (.slice (some ⟨g2, 0, none⟩) m (m + 1)) ∧ w'.cell? ⟨w5.heap.size, 0, none⟩ = some (.slice (some ⟨g3, 0, none⟩) n' (n' + 1)) ∧ w'.cell? ⟨w5.heap.size, 1, none⟩ = some (.slice (some ⟨g4, 0, none⟩) m' (m' + 1)) ∧ w'.cell? ⟨w8.heap.size, 0, none⟩ = some (.slice none 0 0) ∧ w'.cell? ⟨w8.heap.size, 1, none⟩ = some (.slice none 0 0) ∧ w'.cell? ⟨w9.heap.size, 0, none⟩ = some (.slice none 0 0) ∧ w'.cell? ⟨w9.heap.size, 1, none⟩ = some (.slice none 0 0))
    (first | (exact HKF.out _ hbC) | (exact HKF.out _ hk0) | go_keep)
    (first
      | (go_at_call 12; refine Calls.mono (HC1.out _ hbC) ?_; rintro e wS ⟨rfl, hbS⟩; replace hbC := hbS)
      | (go_at_call 13; refine Calls.mono (HC2.out _ hbC) ?_; rintro e wS ⟨rfl, hbS⟩; replace hbC := hbS)
      | (go_at_call 14; refine Calls.mono (HC3.out _ hbC) ?_; rintro e wS ⟨rfl, hbS⟩; replace hbC := hbS)
      | (go_at_call 15; refine Calls.mono (HC4.out _ hbC) ?_; rintro e wS ⟨rfl, hbS⟩; replace hbC := hbS)
      | (go_at_call 16; refine Calls.mono (HC5.out _ hbC) ?_; rintro e wS ⟨rfl, hbS⟩; replace hbC := hbS)
      | (go_at_call 17; first | (with_reducible refine Calls.mono (HC6.out _ hbC) ?_; rintro e wS ⟨rfl, hbS⟩; replace hbC := hbS) | (with_reducible refine Calls.mono (HC7.out _ hbC) ?_; rintro e wS ⟨rfl, hbS⟩; replace hbC := hbS)))
  have HK0 := hide (HKB.out.below hbS)
  have HR1 := hide (own_below HO1.out (below_nx HBT.out hbS))
  have HR2 := hide (own_below HO2.out (below_nx HBT.out hbS))
  have HR3 := hide (own_below HO3.out (below_nx HBU.out hbS))
  have HR4 := hide (own_below HO4.out (below_nx HBU.out hbS))
  have HP1 := hide (own_part HR1.out (n := n) (by simp [HSL.out]) (by omega))
  have HP2 := hide (own_part HR2.out (n := m) (by simp [HL.out]) (by omega))
  have HP3 := hide (own_part HR3.out (n := n') (by simp [HSL'.out]) (by omega))
  have HP4 := hide (own_part HR4.out (n := m') (by simp [HL'.out]) (by omega))
  have HBU0 := hide (HXU.out.kept (below_nx HBU.out hbS))
  have HBX0 := hide (HXX.out.kept (below_nx HBX.out hbS))
  have hWS : Below W.heap.size W wS := below_nx HBW.out hbS
  obtain ⟨_, _, _, _, t0, t1, _⟩ := HKF.out _ hbS
  have hwg := HBW.out.size
  have HWS := hide hWS
  clear hk0 HC1 HC2 HC3 HC4 HC5 HC6 HC7 HKF HKB HR1 HR2 HR3 HR4 hbS hbC hWS
  go_wp2_with fail
  refine Calls.mono (book_tensor _ (w9.heap.size + 1) W.heap.size 0 none 0 [] none 0 [] none 0 [] (some ⟨g1, 0, none⟩) (some ⟨g2, 0, none⟩) n (n + 1) m (m + 1) _ _ HK0.out HP1.out HP2.out (by omega) (by omega) (by omega) (fun i t ht => by simp at ht) (fun i t ht => by simp at ht)) ?_
  rintro e wa ⟨rfl, ⟨H1, c1, H2, c2, hk⟩, hT, hb⟩
  have HK1 := hide hk
  have HWA := hide (HWS.out.trans hb)
  have HBU1 := hide (hT.blk HBU0.out (by decide))
  have HBX1 := hide (hT.blk HBX0.out (by decide))
  have HQ3 := hide (hT.own HP3.out (by decide))
  have HQ4 := hide (hT.own HP4.out (by decide))
  clear hk hb hT t0 t1 HK0 HBU0 HBX0
  have u0 := BoxT.c0 HBU1.out
  have u1 := BoxT.c1 HBU1.out
  go_wp2_with fail
  refine Calls.mono (book_tensor _ (w9.heap.size + 1) W.heap.size 2 none 0 [] H1 c1 _ H2 c2 _ (some ⟨g3, 0, none⟩) (some ⟨g4, 0, none⟩) n' (n' + 1) m' (m' + 1) _ _ HK1.out HQ3.out HQ4.out (by omega) (by omega) (by omega)
    (fun i t ht => by have hm := List.mem_of_getElem? ht; simp at hm; subst hm; exact apart_one rfl (by omega)) (fun i t ht => by have hm := List.mem_of_getElem? ht; simp at hm; subst hm; exact apart_one rfl (by omega))) ?_
  rintro e wb ⟨rfl, ⟨H3, c3, H4, c4, hk⟩, hT, hb⟩
  have HK2 := hide hk
  have HWB := hide (HWA.out.trans hb)
  have HBX2 := hide (hT.blk HBX1.out (by decide))
  clear hk hb hT u0 u1 HK1 HBX1 HBU1
  have x0 := BoxT.c0 HBX2.out
  have x1 := BoxT.c1 HBX2.out
  go_wp2_with fail
  refine Calls.mono (book_tensor _ (w9.heap.size + 1) W.heap.size 4 none 0 [] H3 c3 _ H4 c4 _ none none 0 0 0 0 [] [] HK2.out (World.ownsRow_nil _ _ _ _) (World.ownsRow_nil _ _ _ _) (by omega) (by omega) (by omega) (fun i t ht => apart_nil) (fun i t ht => apart_nil)) ?_
  rintro e wc ⟨rfl, ⟨H5, c5', H6, c6', hk⟩, hT, hb⟩
  have HK3 := hide hk
  have HWC := hide (HWB.out.trans hb)
  clear hk hb hT x0 x1 HK2
  go_wp2_with fail
  refine Calls.mono (apart_any _ _ _ _ _ _ _ _ _ _ _ _ _ HK3.out) ?_
  rintro e wz ⟨rfl, hb⟩
  have HBz := hide (HB0.out.trans ((HWC.out.trans hb).mono hsW))
  clear hb
  go_wp2
  go_ret
  exact ⟨rfl, HBz.out⟩

theorem tof_any (A B A' B' Y : Option Addr) (n c m d n' c' m' d' ny cy : Nat) (s l s' l' ys : List Int) (w : World) (hA : Lies w A n (s.map (Value.int .i64))) (hB : Lies w B m (l.map (Value.int .i32))) (hA' : Lies w A' n' (s'.map (Value.int .i64))) (hB' : Lies w B' m' (l'.map (Value.int .i32))) (hY : Lies w Y ny (ys.map (Value.int .i64)))
    (hn : n ≤ 70368744177664) (hm : m ≤ 70368744177664) (hn' : n' ≤ 70368744177664) (hm' : m' ≤ 70368744177664) (hy : ny ≤ 70368744177664) (hnil : A = none → c = 0) :
    Calls Tryz.prog 3 #[tenV A n c B m d, tenV A' n' c' B' m' d', .slice Y ny cy] w fun e w' => e = .returned (.bool true) ∧ Below w.heap.size w w' := by
  by_cases h : tsz n m + tsz n' m' + ny ≤ 1048576
  · by_cases hs : 0 < sizeI s
    · obtain ⟨q, hq⟩ : ∃ q : Nat, sizeI s = (q : Int) := ⟨(sizeI s).toNat, by omega⟩
      exact tof_ok A B A' B' Y n c m d n' c' m' d' ny cy s l s' l' ys w hA hB hA' hB' hY hn hm hn' hm' hy h q hq (by omega) hnil
    · exact tof_err A B A' B' Y n c m d n' c' m' d' ny cy s l s' l' ys w hA hB hA' hB' hY hn hm hn' hm' hy h hs
  · exact tof_far A B A' B' Y n c m d n' c' m' d' ny cy s l s' l' ys w hA hB hA' hB' hY hn hm hn' hm' hy (by omega)
end Go.Proofs.YtaoobdnbjagpnaaGreatDoor
