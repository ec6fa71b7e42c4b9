/- WindowsOf: the walk of its Go text ends in true. -/
import Derived.Test.YtgkilankaknfcaaGreatDoorRef08dM
import Derived.Test.YtgkilankaknfcaaGreatDoorWK
import Derived.Test.YtgkilankaknfcaaGreatDoorWB
namespace Go.Proofs.YtgkilankaknfcaaGreatDoor
open Go.RowKit
set_option linter.unusedVariables false
set_option linter.unusedSimpArgs false
set_option maxRecDepth 100000

theorem book_new6 (w : World) {base : Nat} (hb : base ≤ w.heap.size) : BkAt (w.alloc (.cells #[Value.int .i64 0, Value.slice none 0 0, Value.slice none 0 0, Value.slice none 0 0, Value.slice none 0 0, Value.slice none 0 0, Value.slice none 0 0, Value.slice none 0 0, Value.slice none 0 0, Value.slice none 0 0, Value.slice none 0 0, Value.slice none 0 0, Value.slice none 0 0, Value.slice none 0 0, Value.slice none 0 0, Value.slice none 0 0] 53)) w.heap.size base 0 none 0 [] none 0 [] none 0 [] :=
  ⟨heap_alloc_new w _, World.ownsRow_nil _ _ _ _, ⟨fun i t ht => by simp at ht, fun i j t u _ ht => by simp at ht⟩, Nat.le_refl _, fun i t ht => by simp at ht,
    World.ownsRow_nil _ _ _ _, ⟨fun i t ht => by simp at ht, fun i j t u _ ht => by simp at ht⟩, Nat.le_refl _, fun i t ht => by simp at ht,
    World.ownsRow_nil _ _ _ _, ⟨fun i t ht => by simp at ht, fun i j t u _ ht => by simp at ht⟩, Nat.le_refl _, fun i t ht => by simp at ht, by simp; omega, hb, by omega⟩

theorem tsx_nn7 (n m : Nat) : 0 ≤ (tsz n m : Int) := by omega

theorem tsx_hi7 {n m N : Nat} (hn : n ≤ N) (hm : m ≤ N) : (tsz n m : Int) ≤ 1 + 2 * N := by unfold tsz; split <;> omega

theorem tsx_lo7 {n m : Nat} (h : tsz n m ≤ 1048576) : n ≤ 1048576 ∧ m ≤ 1048576 := by unfold tsz at h; split at h <;> omega

/-- Its block is made ahead of N; behind N. -/
def Bef (v : Value) (N : Nat) : Prop := ∀ g, v.ownBlock = some g → g < N

def Aft (v : Value) (N : Nat) : Prop := ∀ g, v.ownBlock = some g → N ≤ g

theorem Bef.le {v : Value} {N M : Nat} (h : Bef v N) (hN : N ≤ M) : Bef v M := fun g hg => Nat.lt_of_lt_of_le (h g hg) hN

theorem bef_of {w : World} {base : Nat} {e : TypeId} {v : Value} {n : Nat} {xs : List Value} (h : w.ownsRow base e 1 v n xs) : Bef v w.heap.size := fun g hg => (h.lt g hg).2

theorem aft_of {w : World} {base : Nat} {e : TypeId} {v : Value} {n : Nat} {xs : List Value} (h : w.ownsRow base e 1 v n xs) : Aft v base := fun g hg => (h.lt g hg).1

theorem apart_ba {x : It} {v : Value} {N : Nat} (h1 : Bef x.l N) (h2 : Aft v N) : (x.l.ownBlock = none ∨ x.l.ownBlock ≠ v.ownBlock) ∧ (v.ownBlock = none ∨ v.ownBlock ≠ x.l.ownBlock) := by
  cases hx : x.l.ownBlock with
  | none => exact ⟨.inl rfl, by cases hv : v.ownBlock with
      | none => exact .inl rfl
      | some g => exact .inr (by simp)⟩
  | some a => cases hv : v.ownBlock with
    | none => exact ⟨.inr (by simp), .inl rfl⟩
    | some b =>
      have := h1 a hx
      have := h2 b hv
      exact ⟨.inr (by simp; omega), .inr (by simp; omega)⟩

theorem apart_ab {x : It} {v : Value} {N : Nat} (h1 : Aft x.l N) (h2 : Bef v N) : (x.l.ownBlock = none ∨ x.l.ownBlock ≠ v.ownBlock) ∧ (v.ownBlock = none ∨ v.ownBlock ≠ x.l.ownBlock) := by
  cases hx : x.l.ownBlock with
  | none => exact ⟨.inl rfl, by cases hv : v.ownBlock with
      | none => exact .inl rfl
      | some g => exact .inr (by simp)⟩
  | some a => cases hv : v.ownBlock with
    | none => exact ⟨.inr (by simp), .inl rfl⟩
    | some b =>
      have := h1 a hx
      have := h2 b hv
      exact ⟨.inr (by simp; omega), .inr (by simp; omega)⟩

/-- A tensor in a box, seen by what is there. -/
def TenB (w : World) (p : Nat) (A B : Option Addr) (n c m d : Nat) (s l : List Int) : Prop := BoxT w p (.slice A n c) (.slice B m d) ∧ Lies w A n (s.map (Value.int .i64)) ∧ Lies w B m (l.map (Value.int .i32))

theorem TenB.kept {w : World} {p : Nat} {A B : Option Addr} {n c m d : Nat} {s l : List Int} (h : TenB w p A B n c m d s l) {w' : World} (hb : Below w.heap.size w w') : TenB w' p A B n c m d s l := ⟨h.1.kept hb, h.2.1.below hb, h.2.2.below hb⟩

theorem book_ints (w : World) (B base N : Nat) (HByte : Option Addr) (cByte : Nat) (iByte : List It) (HInt : Option Addr) (cInt : Nat) (iInt : List It) (HNumber : Option Addr) (cNumber : Nat) (iNumber : List It)
    (A : Option Addr) (n c : Nat) (xs : List Value) (h : BkAt w B base N HByte cByte iByte HInt cInt iInt HNumber cNumber iNumber)
    (ho : w.ownsRow base 3 1 (.slice A n c) n xs) (hn : n ≤ 1073741824) (hN : N + 1 ≤ 1048000) (ha : ApartOf iInt (.slice A n c)) :
    Calls Tryz.prog 15 #[.pointer (some ⟨B, 0, none⟩), .slice A n c] w fun e w' => e = .returned (.tuple #[]) ∧
      (∃ H1 c1, BkAt w' B base (N + 1) HByte cByte iByte H1 c1 (iInt ++ [⟨A, n, c, none, 0, 0, N + 1⟩]) HNumber cNumber iNumber) ∧
      KeepT [53, 85] w w' ∧ Below base w w' := by
  have hf := h.few
  have hi := h.manyInt
  refine Calls.mono (add_Int B base N cInt n c HInt A _ iInt w h.blk rfl rfl h.rowInt h.baseW h.baseB (by omega) (by omega)) ?_
  rintro e w1 ⟨rfl, H1, c1, hk⟩
  exact ⟨rfl, ⟨H1, c1, h.addInt hk ho hn (by omega) ha⟩, hk.keep, hk.below⟩

set_option maxHeartbeats 8000000 in
theorem wofc8_any (A B A' B' : Option Addr) (n c m d n' c' m' d' : Nat) (s l s' l' : List Int) (st pd wd : Int) (w : World) (hA : Lies w A n (s.map (Value.int .i64))) (hB : Lies w B m (l.map (Value.int .i32))) (hA' : Lies w A' n' (s'.map (Value.int .i64))) (hB' : Lies w B' m' (l'.map (Value.int .i32)))
    (hn : n ≤ 70368744177664) (hm : m ≤ 70368744177664) (hn' : n' ≤ 70368744177664) (hm' : m' ≤ 70368744177664) :
    Calls Tryz.prog 3 #[slideV A n c B m d A' n' c' B' m' d' st pd wd] w fun r w' => r = .returned (.bool true) ∧ Below w.heap.size w w' := by
  obtain ⟨W0, hW0⟩ : ∃ W0, W0 = w.alloc (.cells #[.slice A n c, .slice B m d, .slice A' n' c', .slice B' m' d', .int .i64 st, .int .i64 pd, .int .i64 wd] 27) := ⟨_, rfl⟩
  have HBW : Hid (Below w.heap.size w W0) := hide (by rw [hW0]; exact below_al6 (Below.refl _ _))
  have HT_z : Hid (SlideAt W0 w.heap.size A n c B m d A' n' c' B' m' d' st pd wd s l s' l') := hide (by rw [hW0]; exact SlideAt.new w c d c' d' st pd wd hA hB hA' hB')
  have HL : Hid (l.length = m) := hide (by have := hB.len; simpa using this)
  have HSL : Hid (s.length = n) := hide (by have := hA.len; simpa using this)
  have HL' : Hid (l'.length = m') := hide (by have := hB'.len; simpa using this)
  have HSL' : Hid (s'.length = n') := hide (by have := hA'.len; simpa using this)
  have hW0' := hW0.symm
  clear hW0 hA hB hA' hB'
  have hsW := HBW.out.size
  have HWS : Hid (W0.heap.size ≤ W0.heap.size) := hide (Nat.le_refl _)
  go_enter Tryz.func3, Tryz.ntmps3
  by_cases hf : far8 n m n' m' = true
  · have cz0 := HT_z.out.c0
    have cz1 := HT_z.out.c1
    have cz2 := HT_z.out.c2
    have cz3 := HT_z.out.c3
    have cz4 := HT_z.out.c4
    have cz5 := HT_z.out.c5
    have cz6 := HT_z.out.c6
    go_wp2_with fail
    refine Calls.mono (great8_any A B A' B' n c m d n' c' m' d' st pd wd _ hn hm hn' hm') ?_
    rw [hf]
    rintro r u0 ⟨rfl, hb⟩
    have HBE := hide (HBW.out.trans (hb.mono HBW.out.size))
    clear hb
    go_wp2
    go_ret
    exact ⟨rfl, HBE.out⟩
  obtain ⟨hf0, b1, b2, b3, b4⟩ := far8_no hf
  have cz0 := HT_z.out.c0
  have cz1 := HT_z.out.c1
  have cz2 := HT_z.out.c2
  have cz3 := HT_z.out.c3
  have cz4 := HT_z.out.c4
  have cz5 := HT_z.out.c5
  have cz6 := HT_z.out.c6
  go_wp2_with fail
  refine Calls.mono (great8_any A B A' B' n c m d n' c' m' d' st pd wd _ hn hm hn' hm') ?_
  rw [hf0]
  rintro r u1 ⟨rfl, hb⟩
  replace HT_z := hide (HT_z.out.kept hb)
  replace HBW := hide (HBW.out.trans (hb.mono HBW.out.size))
  have HZ0 := hide hb.size
  clear cz0 cz1 cz2 cz3 cz4 cz5 cz6 hb hf hf0
  replace HWS : Hid (W0.heap.size ≤ u1.heap.size) := hide (by have h1 := HWS.out; have h2 := HZ0.out; omega)
  obtain ⟨E, hE⟩ : ∃ E, E = of8E s m s' m' st pd := ⟨_, rfl⟩
  have HE := hide hE
  obtain ⟨E2, hE2⟩ : ∃ E, E = shp8E s s' st pd := ⟨_, rfl⟩
  have HE2 := hide hE2
  clear hE hE2
  have cz0 := HT_z.out.c0
  have cz1 := HT_z.out.c1
  have cz2 := HT_z.out.c2
  have cz3 := HT_z.out.c3
  have cz4 := HT_z.out.c4
  have cz5 := HT_z.out.c5
  have cz6 := HT_z.out.c6
  go_wp2_with fail
  refine Calls.mono (twinT_any A B n c m d s l _ HT_z.out.S HT_z.out.L (by omega) (by omega)) ?_
  rintro r u2 ⟨g1t, g2t, rfl, ho1, ho2, hnet, hb0⟩
  obtain ⟨V3, hV3⟩ : ∃ W, W = u2.alloc (.cells #[.slice (some ⟨g1t, 0, none⟩) n (n + 1), .slice (some ⟨g2t, 0, none⟩) m (m + 1)] 25) := ⟨_, rfl⟩
  have hb : Below u1.heap.size u1 V3 := by rw [hV3]; exact below_al6 hb0
  have hsvV3 : V3.heap.size = u2.heap.size + 1 := by rw [hV3]; simp
  have HSVV3 := hide hsvV3
  clear hsvV3
  have hw0 := HBW.out.size
  have hq1 := own_part ho1 (n := n) (by simp [HSL.out]) (by omega)
  have hq2 := own_part ho2 (n := m) (by simp [HL.out]) (by omega)
  have HT_t : Hid (TenB V3 u2.heap.size (some ⟨g1t, 0, none⟩) (some ⟨g2t, 0, none⟩) n (n + 1) m (m + 1) s l) := hide (by rw [hV3]; exact ⟨BoxT.new _ _ _, (lies_of_own hq1).alloc _, (lies_of_own hq2).alloc _⟩)
  have HOS_t : Hid (V3.ownsRow W0.heap.size 3 1 (.slice (some ⟨g1t, 0, none⟩) (n + 1) (n + 1)) (n + 1) (s.map (Value.int .i64) ++ [.int .i64 77])) := hide (by rw [hV3]; exact own_base (ho1.alloc _) HWS.out)
  have HON_t : Hid (V3.ownsRow W0.heap.size 21 1 (.slice (some ⟨g2t, 0, none⟩) (m + 1) (m + 1)) (m + 1) (l.map (Value.int .i32) ++ [.int .i32 77])) := hide (by rw [hV3]; exact own_base (ho2.alloc _) HWS.out)
  have HBS_t : Hid (Bef (.slice (some ⟨g1t, 0, none⟩) n (n + 1)) u2.heap.size) := hide (bef_of hq1)
  have HBN_t : Hid (Bef (.slice (some ⟨g2t, 0, none⟩) m (m + 1)) u2.heap.size) := hide (bef_of hq2)
  have HAS_t : Hid (Aft (.slice (some ⟨g1t, 0, none⟩) n (n + 1)) u1.heap.size) := hide (aft_of hq1)
  have HAN_t : Hid (Aft (.slice (some ⟨g2t, 0, none⟩) m (m + 1)) u1.heap.size) := hide (aft_of hq2)
  replace HT_z := hide (HT_z.out.kept hb)
  replace HBW := hide (HBW.out.trans (hb.mono HBW.out.size))
  have HZ2 := hide hb.size
  have hV3' := hV3.symm
  clear cz0 cz1 cz2 cz3 cz4 cz5 cz6 hV3 hb hb0 ho1 ho2 hq1 hq2 hw0
  replace HWS : Hid (W0.heap.size ≤ V3.heap.size) := hide (by have h1 := HWS.out; have h2 := HZ2.out; omega)
  have cz0 := HT_z.out.c0
  have cz1 := HT_z.out.c1
  have cz2 := HT_z.out.c2
  have cz3 := HT_z.out.c3
  have cz4 := HT_z.out.c4
  have cz5 := HT_z.out.c5
  have cz6 := HT_z.out.c6
  go_wp2_with fail
  refine Calls.mono (twinT_any A' B' n' c' m' d' s' l' _ HT_z.out.S' HT_z.out.L' (by omega) (by omega)) ?_
  rintro r u4 ⟨g1w, g2w, rfl, ho1, ho2, hnew, hb0⟩
  obtain ⟨V5, hV5⟩ : ∃ W, W = u4.alloc (.cells #[.slice (some ⟨g1w, 0, none⟩) n' (n' + 1), .slice (some ⟨g2w, 0, none⟩) m' (m' + 1)] 25) := ⟨_, rfl⟩
  have hb : Below V3.heap.size V3 V5 := by rw [hV5]; exact below_al6 hb0
  have hsvV5 : V5.heap.size = u4.heap.size + 1 := by rw [hV5]; simp
  have HSVV5 := hide hsvV5
  clear hsvV5
  have hw0 := HBW.out.size
  have hq1 := own_part ho1 (n := n') (by simp [HSL'.out]) (by omega)
  have hq2 := own_part ho2 (n := m') (by simp [HL'.out]) (by omega)
  have HT_w : Hid (TenB V5 u4.heap.size (some ⟨g1w, 0, none⟩) (some ⟨g2w, 0, none⟩) n' (n' + 1) m' (m' + 1) s' l') := hide (by rw [hV5]; exact ⟨BoxT.new _ _ _, (lies_of_own hq1).alloc _, (lies_of_own hq2).alloc _⟩)
  have HOS_w : Hid (V5.ownsRow W0.heap.size 3 1 (.slice (some ⟨g1w, 0, none⟩) (n' + 1) (n' + 1)) (n' + 1) (s'.map (Value.int .i64) ++ [.int .i64 77])) := hide (by rw [hV5]; exact own_base (ho1.alloc _) HWS.out)
  have HON_w : Hid (V5.ownsRow W0.heap.size 21 1 (.slice (some ⟨g2w, 0, none⟩) (m' + 1) (m' + 1)) (m' + 1) (l'.map (Value.int .i32) ++ [.int .i32 77])) := hide (by rw [hV5]; exact own_base (ho2.alloc _) HWS.out)
  have HBS_w : Hid (Bef (.slice (some ⟨g1w, 0, none⟩) n' (n' + 1)) u4.heap.size) := hide (bef_of hq1)
  have HBN_w : Hid (Bef (.slice (some ⟨g2w, 0, none⟩) m' (m' + 1)) u4.heap.size) := hide (bef_of hq2)
  have HAS_w : Hid (Aft (.slice (some ⟨g1w, 0, none⟩) n' (n' + 1)) V3.heap.size) := hide (aft_of hq1)
  have HAN_w : Hid (Aft (.slice (some ⟨g2w, 0, none⟩) m' (m' + 1)) V3.heap.size) := hide (aft_of hq2)
  replace HT_z := hide (HT_z.out.kept hb)
  replace HT_t := hide (HT_t.out.kept hb)
  replace HOS_t := hide (own_below HOS_t.out hb)
  replace HON_t := hide (own_below HON_t.out hb)
  replace HBW := hide (HBW.out.trans (hb.mono HBW.out.size))
  have HZ4 := hide hb.size
  have hV5' := hV5.symm
  clear cz0 cz1 cz2 cz3 cz4 cz5 cz6 hV5 hb hb0 ho1 ho2 hq1 hq2 hw0
  replace HWS : Hid (W0.heap.size ≤ V5.heap.size) := hide (by have h1 := HWS.out; have h2 := HZ4.out; omega)
  have cxt0 := HT_t.out.1.c0
  have cxt1 := HT_t.out.1.c1
  have cxw0 := HT_w.out.1.c0
  have cxw1 := HT_w.out.1.c1
  have cz0 := HT_z.out.c0
  have cz1 := HT_z.out.c1
  have cz2 := HT_z.out.c2
  have cz3 := HT_z.out.c3
  have cz4 := HT_z.out.c4
  have cz5 := HT_z.out.c5
  have cz6 := HT_z.out.c6
  go_wp2_with fail
  refine Calls.mono (wof_own (some ⟨g1t, 0, none⟩) (some ⟨g2t, 0, none⟩) (some ⟨g1w, 0, none⟩) (some ⟨g2w, 0, none⟩) n (n + 1) m (m + 1) n' (n' + 1) m' (m' + 1) s l s' l' st pd _ HT_t.out.2.1 HT_t.out.2.2 HT_w.out.2.1 HT_w.out.2.2 (by omega) (by omega) (by omega)) ?_
  rw [← HE.out]
  rintro r u6 ⟨A1x, k1x, c1x, A2x, k2x, c2x, rfl, ho1, ho2, hk1x, hk2x, hb0⟩
  obtain ⟨V7, hV7⟩ : ∃ W, W = u6.alloc (.cells #[.slice A1x k1x c1x, .slice A2x k2x c2x] 25) := ⟨_, rfl⟩
  have hb : Below V5.heap.size V5 V7 := by rw [hV7]; exact below_al6 hb0
  have hsvV7 : V7.heap.size = u6.heap.size + 1 := by rw [hV7]; simp
  have HSVV7 := hide hsvV7
  clear hsvV7
  have HT_x : Hid (TenB V7 u6.heap.size A1x A2x k1x c1x k2x c2x (of8S s m s' m' st pd) (of8L s m s' m' l l' st pd)) := hide (by rw [hV7]; exact ⟨BoxT.new _ _ _, (lies_of_own ho1).alloc _, (lies_of_own ho2).alloc _⟩)
  have hl1x : (of8S s m s' m' st pd).length = k1x := by have := ho1.1; simpa using this
  have hl2x : (of8L s m s' m' l l' st pd).length = k2x := by have := ho2.1; simpa using this
  have HOS_x : Hid (V7.ownsRow W0.heap.size 3 1 (.slice A1x k1x c1x) k1x ((of8S s m s' m' st pd).map (Value.int .i64))) := hide (by rw [hV7]; exact own_base (ho1.alloc _) HWS.out)
  have HON_x : Hid (V7.ownsRow W0.heap.size 21 1 (.slice A2x k2x c2x) k2x ((of8L s m s' m' l l' st pd).map (Value.int .i32))) := hide (by rw [hV7]; exact own_base (ho2.alloc _) HWS.out)
  have HBS_x := hide (bef_of ho1)
  have HBN_x := hide (bef_of ho2)
  have HAS_x := hide (aft_of ho1)
  have HAN_x := hide (aft_of ho2)
  replace HT_z := hide (HT_z.out.kept hb)
  replace HT_t := hide (HT_t.out.kept hb)
  replace HT_w := hide (HT_w.out.kept hb)
  replace HOS_t := hide (own_below HOS_t.out hb)
  replace HON_t := hide (own_below HON_t.out hb)
  replace HOS_w := hide (own_below HOS_w.out hb)
  replace HON_w := hide (own_below HON_w.out hb)
  replace HBW := hide (HBW.out.trans (hb.mono HBW.out.size))
  have HZ6 := hide hb.size
  have hV7' := hV7.symm
  clear cxt0 cxt1 cxw0 cxw1 cz0 cz1 cz2 cz3 cz4 cz5 cz6 hV7 hb hb0 ho1 ho2
  replace HWS : Hid (W0.heap.size ≤ V7.heap.size) := hide (by have h1 := HWS.out; have h2 := HZ6.out; omega)
  have cz0 := HT_z.out.c0
  have cz1 := HT_z.out.c1
  have cz2 := HT_z.out.c2
  have cz3 := HT_z.out.c3
  have cz4 := HT_z.out.c4
  have cz5 := HT_z.out.c5
  have cz6 := HT_z.out.c6
  go_wp2_with fail
  refine Calls.mono (rof8_any A B A' B' n c m d n' c' m' d' s l s' l' st pd _ HT_z.out.S HT_z.out.L HT_z.out.S' HT_z.out.L' (by omega) (by omega)) ?_
  rw [← HE.out]
  rintro r u8 ⟨A1y, k1y, c1y, A2y, k2y, c2y, rfl, h1, h2, hb0⟩
  obtain rfl : k1y = k1x := by have := h1.len; simp only [List.length_map] at this; omega
  obtain rfl : k2y = k2x := by have := h2.len; simp only [List.length_map] at this; omega
  obtain ⟨V9, hV9⟩ : ∃ W, W = u8.alloc (.cells #[.slice A1y k1y c1y, .slice A2y k2y c2y] 25) := ⟨_, rfl⟩
  have hb : Below V7.heap.size V7 V9 := by rw [hV9]; exact below_al6 hb0
  have hsvV9 : V9.heap.size = u8.heap.size + 1 := by rw [hV9]; simp
  have HSVV9 := hide hsvV9
  clear hsvV9
  have HT_y : Hid (TenB V9 u8.heap.size A1y A2y k1y c1y k2y c2y (of8S s m s' m' st pd) (of8L s m s' m' l l' st pd)) := hide (by rw [hV9]; exact ⟨BoxT.new _ _ _, h1.alloc _, h2.alloc _⟩)
  replace HT_z := hide (HT_z.out.kept hb)
  replace HT_t := hide (HT_t.out.kept hb)
  replace HT_w := hide (HT_w.out.kept hb)
  replace HT_x := hide (HT_x.out.kept hb)
  replace HOS_t := hide (own_below HOS_t.out hb)
  replace HON_t := hide (own_below HON_t.out hb)
  replace HOS_w := hide (own_below HOS_w.out hb)
  replace HON_w := hide (own_below HON_w.out hb)
  replace HOS_x := hide (own_below HOS_x.out hb)
  replace HON_x := hide (own_below HON_x.out hb)
  replace HBW := hide (HBW.out.trans (hb.mono HBW.out.size))
  have HZ8 := hide hb.size
  have hV9' := hV9.symm
  clear cz0 cz1 cz2 cz3 cz4 cz5 cz6 hV9 hb hb0 h1 h2
  replace HWS : Hid (W0.heap.size ≤ V9.heap.size) := hide (by have h1 := HWS.out; have h2 := HZ8.out; omega)
  have cxt0 := HT_t.out.1.c0
  have cxt1 := HT_t.out.1.c1
  have cxw0 := HT_w.out.1.c0
  have cxw1 := HT_w.out.1.c1
  have cz0 := HT_z.out.c0
  have cz1 := HT_z.out.c1
  have cz2 := HT_z.out.c2
  have cz3 := HT_z.out.c3
  have cz4 := HT_z.out.c4
  have cz5 := HT_z.out.c5
  have cz6 := HT_z.out.c6
  go_wp2_with fail
  refine Calls.mono (wshape_any (some ⟨g1t, 0, none⟩) (some ⟨g1w, 0, none⟩) n (n + 1) n' (n' + 1) s s' st pd _ HT_t.out.2.1 HT_w.out.2.1 (by omega) (by omega)) ?_
  rw [← HE2.out]
  rintro r u10 ⟨As, ks, cs, rfl, ho1, hks, hb⟩
  have hls : (shp8S s s' st pd).length = ks := by have := ho1.1; simpa using this
  have HL_s : Hid (Lies u10 As ks ((shp8S s s' st pd).map (Value.int .i64))) := hide (lies_of_own ho1)
  have HOI_s : Hid (u10.ownsRow W0.heap.size 3 1 (.slice As ks cs) ks ((shp8S s s' st pd).map (Value.int .i64))) := hide (own_base ho1 HWS.out)
  have HBI_s := hide (bef_of ho1)
  have HAI_s := hide (aft_of ho1)
  replace HT_z := hide (HT_z.out.kept hb)
  replace HT_t := hide (HT_t.out.kept hb)
  replace HT_w := hide (HT_w.out.kept hb)
  replace HT_x := hide (HT_x.out.kept hb)
  replace HT_y := hide (HT_y.out.kept hb)
  replace HOS_t := hide (own_below HOS_t.out hb)
  replace HON_t := hide (own_below HON_t.out hb)
  replace HOS_w := hide (own_below HOS_w.out hb)
  replace HON_w := hide (own_below HON_w.out hb)
  replace HOS_x := hide (own_below HOS_x.out hb)
  replace HON_x := hide (own_below HON_x.out hb)
  replace HBW := hide (HBW.out.trans (hb.mono HBW.out.size))
  have HZ9 := hide hb.size
  clear cxt0 cxt1 cxw0 cxw1 cz0 cz1 cz2 cz3 cz4 cz5 cz6 hb ho1
  replace HWS : Hid (W0.heap.size ≤ u10.heap.size) := hide (by have h1 := HWS.out; have h2 := HZ9.out; omega)
  have cz0 := HT_z.out.c0
  have cz1 := HT_z.out.c1
  have cz2 := HT_z.out.c2
  have cz3 := HT_z.out.c3
  have cz4 := HT_z.out.c4
  have cz5 := HT_z.out.c5
  have cz6 := HT_z.out.c6
  go_wp2_with fail
  refine Calls.mono (rshape8_any A A' n c n' c' s s' st pd _ HT_z.out.S HT_z.out.S' (by omega) (by omega)) ?_
  rw [← HE2.out]
  rintro r u11 ⟨Ao, ko, co, rfl, ho1, _, hb⟩
  obtain rfl : ko = ks := by have := ho1.1; simp only [List.length_map] at this; omega
  have HL_o : Hid (Lies u11 Ao ko ((shp8S s s' st pd).map (Value.int .i64))) := hide (lies_of_own ho1)
  replace HT_z := hide (HT_z.out.kept hb)
  replace HT_t := hide (HT_t.out.kept hb)
  replace HT_w := hide (HT_w.out.kept hb)
  replace HT_x := hide (HT_x.out.kept hb)
  replace HT_y := hide (HT_y.out.kept hb)
  replace HOS_t := hide (own_below HOS_t.out hb)
  replace HON_t := hide (own_below HON_t.out hb)
  replace HOS_w := hide (own_below HOS_w.out hb)
  replace HON_w := hide (own_below HON_w.out hb)
  replace HOS_x := hide (own_below HOS_x.out hb)
  replace HON_x := hide (own_below HON_x.out hb)
  replace HL_s := hide (HL_s.out.below hb)
  replace HOI_s := hide (own_below HOI_s.out hb)
  replace HBW := hide (HBW.out.trans (hb.mono HBW.out.size))
  have HZ10 := hide hb.size
  clear cz0 cz1 cz2 cz3 cz4 cz5 cz6 hb ho1
  replace HWS : Hid (W0.heap.size ≤ u11.heap.size) := hide (by have h1 := HWS.out; have h2 := HZ10.out; omega)
  have cxx0 := HT_x.out.1.c0
  have cxx1 := HT_x.out.1.c1
  have cxy0 := HT_y.out.1.c0
  have cxy1 := HT_y.out.1.c1
  go_wp2_with fail
  refine Calls.mono (sameT_yes A1x A2x A1y A2y k1y c1x k2y c2x c1y c2y (of8S s m s' m' st pd) (of8L s m s' m' l l' st pd) _ HT_x.out.2.1 HT_x.out.2.2 HT_y.out.2.1 HT_y.out.2.2 (by omega) (by omega)) ?_
  rintro r u12 ⟨rfl, hb⟩
  replace HT_z := hide (HT_z.out.kept hb)
  replace HT_t := hide (HT_t.out.kept hb)
  replace HT_w := hide (HT_w.out.kept hb)
  replace HT_x := hide (HT_x.out.kept hb)
  replace HT_y := hide (HT_y.out.kept hb)
  replace HOS_t := hide (own_below HOS_t.out hb)
  replace HON_t := hide (own_below HON_t.out hb)
  replace HOS_w := hide (own_below HOS_w.out hb)
  replace HON_w := hide (own_below HON_w.out hb)
  replace HOS_x := hide (own_below HOS_x.out hb)
  replace HON_x := hide (own_below HON_x.out hb)
  replace HL_s := hide (HL_s.out.below hb)
  replace HOI_s := hide (own_below HOI_s.out hb)
  replace HL_o := hide (HL_o.out.below hb)
  replace HBW := hide (HBW.out.trans (hb.mono HBW.out.size))
  have HZ11 := hide hb.size
  clear cxx0 cxx1 cxy0 cxy1 hb
  go_wp2_with fail
  refine Calls.mono (sameG_Ints As Ao ko cs ko co (shp8S s s' st pd) (shp8S s s' st pd) _ HL_s.out HL_o.out (by omega)) ?_
  rw [show decide (shp8S s s' st pd = shp8S s s' st pd) = true from decide_eq_true rfl]
  rintro r u13 ⟨rfl, jz, hjz⟩
  have hb : Below u12.heap.size u12 u13 := by rw [hjz]; exact below_drewN (Below.refl _ _) jz
  replace HT_z := hide (HT_z.out.kept hb)
  replace HT_t := hide (HT_t.out.kept hb)
  replace HT_w := hide (HT_w.out.kept hb)
  replace HT_x := hide (HT_x.out.kept hb)
  replace HT_y := hide (HT_y.out.kept hb)
  replace HOS_t := hide (own_below HOS_t.out hb)
  replace HON_t := hide (own_below HON_t.out hb)
  replace HOS_w := hide (own_below HOS_w.out hb)
  replace HON_w := hide (own_below HON_w.out hb)
  replace HOS_x := hide (own_below HOS_x.out hb)
  replace HON_x := hide (own_below HON_x.out hb)
  replace HL_s := hide (HL_s.out.below hb)
  replace HOI_s := hide (own_below HOI_s.out hb)
  replace HL_o := hide (HL_o.out.below hb)
  replace HBW := hide (HBW.out.trans (hb.mono HBW.out.size))
  have HZ12 := hide hb.size
  clear hb hjz
  have cxt0 := HT_t.out.1.c0
  have cxt1 := HT_t.out.1.c1
  have cz0 := HT_z.out.c0
  have cz1 := HT_z.out.c1
  have cz2 := HT_z.out.c2
  have cz3 := HT_z.out.c3
  have cz4 := HT_z.out.c4
  have cz5 := HT_z.out.c5
  have cz6 := HT_z.out.c6
  go_wp2_with fail
  refine Calls.mono (leftT_yes g1t g2t A B n m c d s l _ (lies_of_own HOS_t.out) (lies_of_own HON_t.out) HT_z.out.S HT_z.out.L (by omega) (by omega)) ?_
  rintro r u14 ⟨rfl, hb⟩
  replace HT_z := hide (HT_z.out.kept hb)
  replace HT_t := hide (HT_t.out.kept hb)
  replace HT_w := hide (HT_w.out.kept hb)
  replace HT_x := hide (HT_x.out.kept hb)
  replace HT_y := hide (HT_y.out.kept hb)
  replace HOS_t := hide (own_below HOS_t.out hb)
  replace HON_t := hide (own_below HON_t.out hb)
  replace HOS_w := hide (own_below HOS_w.out hb)
  replace HON_w := hide (own_below HON_w.out hb)
  replace HOS_x := hide (own_below HOS_x.out hb)
  replace HON_x := hide (own_below HON_x.out hb)
  replace HL_s := hide (HL_s.out.below hb)
  replace HOI_s := hide (own_below HOI_s.out hb)
  replace HL_o := hide (HL_o.out.below hb)
  replace HBW := hide (HBW.out.trans (hb.mono HBW.out.size))
  have HZ13 := hide hb.size
  clear cxt0 cxt1 cz0 cz1 cz2 cz3 cz4 cz5 cz6 hb
  have cxw0 := HT_w.out.1.c0
  have cxw1 := HT_w.out.1.c1
  have cz0 := HT_z.out.c0
  have cz1 := HT_z.out.c1
  have cz2 := HT_z.out.c2
  have cz3 := HT_z.out.c3
  have cz4 := HT_z.out.c4
  have cz5 := HT_z.out.c5
  have cz6 := HT_z.out.c6
  go_wp2_with fail
  refine Calls.mono (leftT_yes g1w g2w A' B' n' m' c' d' s' l' _ (lies_of_own HOS_w.out) (lies_of_own HON_w.out) HT_z.out.S' HT_z.out.L' (by omega) (by omega)) ?_
  rintro r u15 ⟨rfl, hb⟩
  replace HT_z := hide (HT_z.out.kept hb)
  replace HT_t := hide (HT_t.out.kept hb)
  replace HT_w := hide (HT_w.out.kept hb)
  replace HT_x := hide (HT_x.out.kept hb)
  replace HT_y := hide (HT_y.out.kept hb)
  replace HOS_t := hide (own_below HOS_t.out hb)
  replace HON_t := hide (own_below HON_t.out hb)
  replace HOS_w := hide (own_below HOS_w.out hb)
  replace HON_w := hide (own_below HON_w.out hb)
  replace HOS_x := hide (own_below HOS_x.out hb)
  replace HON_x := hide (own_below HON_x.out hb)
  replace HL_s := hide (HL_s.out.below hb)
  replace HOI_s := hide (own_below HOI_s.out hb)
  replace HL_o := hide (HL_o.out.below hb)
  replace HBW := hide (HBW.out.trans (hb.mono HBW.out.size))
  have HZ14 := hide hb.size
  clear cxw0 cxw1 cz0 cz1 cz2 cz3 cz4 cz5 cz6 hb
  have hbk : Below u15.heap.size u15 (u15.alloc (.cells #[Value.int .i64 0, Value.slice none 0 0, Value.slice none 0 0, Value.slice none 0 0, Value.slice none 0 0, Value.slice none 0 0, Value.slice none 0 0, Value.slice none 0 0, Value.slice none 0 0, Value.slice none 0 0, Value.slice none 0 0, Value.slice none 0 0, Value.slice none 0 0, Value.slice none 0 0, Value.slice none 0 0, Value.slice none 0 0] 53)) := below_al6 (Below.refl _ _)
  have HWF : Hid (W0.heap.size ≤ u15.heap.size) := hide (by have h0 := HWS.out; have h1 := HZ6.out; have h2 := HSVV9.out; have h3 := HZ8.out; have h4 := HZ9.out; have h5 := HZ10.out; have h6 := HZ11.out; have h7 := HZ12.out; have h8 := HZ13.out; have h9 := HZ14.out; omega)
  have HBOOK := hide (book_new6 u15 HWF.out)
  have HRS_t := hide (own_below (own_part HOS_t.out (n := n) (by simp [HSL.out]) (by omega)) hbk)
  have HRN_t := hide (own_below (own_part HON_t.out (n := m) (by simp [HL.out]) (by omega)) hbk)
  have HXB_t := hide (HT_t.out.1.kept hbk)
  have HRS_w := hide (own_below (own_part HOS_w.out (n := n') (by simp [HSL'.out]) (by omega)) hbk)
  have HRN_w := hide (own_below (own_part HON_w.out (n := m') (by simp [HL'.out]) (by omega)) hbk)
  have HXB_w := hide (HT_w.out.1.kept hbk)
  have HRS_x := hide (own_below HOS_x.out hbk)
  have HRN_x := hide (own_below HON_x.out hbk)
  have HXB_x := hide (HT_x.out.1.kept hbk)
  have HRI_s := hide (own_below HOI_s.out hbk)
  have HWW := hide (HBW.out.trans (hbk.mono (by have := HBW.out.size; omega)))
  clear hbk HT_z HT_t HT_w HT_x HT_y HOS_t HON_t HOS_w HON_w HOS_x HON_x HL_s HL_o HOI_s
  have hz0 := HZ0.out
  have hz1 := HSVV3.out
  have hz2 := HZ2.out
  have hz3 := HSVV5.out
  have hz4 := HZ4.out
  have hz5 := HSVV7.out
  have hz6 := HZ6.out
  have hz7 := HSVV9.out
  have hz8 := HZ8.out
  have hz9 := HZ9.out
  have hz10 := HZ10.out
  have hz11 := HZ11.out
  have hz12 := HZ12.out
  have hz13 := HZ13.out
  have hz14 := HZ14.out
  clear HZ0 HSVV3 HZ2 HSVV5 HZ4 HSVV7 HZ6 HSVV9 HZ8 HZ9 HZ10 HZ11 HZ12 HZ13 HZ14
  have t0 := BoxT.c0 HXB_t.out
  have t1 := BoxT.c1 HXB_t.out
  go_wp2_with fail
  refine Calls.mono (book_tensor _ u15.heap.size W0.heap.size 0 none 0 [] none 0 [] none 0 [] (some ⟨g1t, 0, none⟩) (some ⟨g2t, 0, none⟩) n (n + 1) m (m + 1) _ _ HBOOK.out HRS_t.out HRN_t.out (by omega) (by omega) (by omega) (fun i t ht => by simp at ht) (fun i t ht => by simp at ht)) ?_
  rintro r b0 ⟨rfl, ⟨Hi0, ci0, Hn0, cn0, hk⟩, hT, hb⟩
  have HK0 := hide hk
  replace HWW := hide (HWW.out.trans (hb.mono hsW))
  replace HRS_w := hide (hT.own HRS_w.out (by decide))
  replace HRN_w := hide (hT.own HRN_w.out (by decide))
  replace HXB_w := hide (hT.blk HXB_w.out (by decide))
  replace HRS_x := hide (hT.own HRS_x.out (by decide))
  replace HRN_x := hide (hT.own HRN_x.out (by decide))
  replace HXB_x := hide (hT.blk HXB_x.out (by decide))
  replace HRI_s := hide (hT.own HRI_s.out (by decide))
  clear hk hT hb HBOOK t0 t1 HRS_t HRN_t HXB_t
  have t0 := BoxT.c0 HXB_w.out
  have t1 := BoxT.c1 HXB_w.out
  go_wp2_with fail
  refine Calls.mono (book_tensor _ u15.heap.size W0.heap.size 2 none 0 [] Hi0 ci0 _ Hn0 cn0 _ (some ⟨g1w, 0, none⟩) (some ⟨g2w, 0, none⟩) n' (n' + 1) m' (m' + 1) _ _ HK0.out HRS_w.out HRN_w.out (by omega) (by omega) (by omega) (fun i t ht => by have hm := List.mem_of_getElem? ht; simp at hm; subst hm; exact apart_ba (HBS_t.out.le (by omega)) HAS_w.out) (fun i t ht => by have hm := List.mem_of_getElem? ht; simp at hm; subst hm; exact apart_ba (HBN_t.out.le (by omega)) HAN_w.out)) ?_
  rintro r b1 ⟨rfl, ⟨Hi1, ci1, Hn1, cn1, hk⟩, hT, hb⟩
  have HK1 := hide hk
  replace HWW := hide (HWW.out.trans (hb.mono hsW))
  replace HRS_x := hide (hT.own HRS_x.out (by decide))
  replace HRN_x := hide (hT.own HRN_x.out (by decide))
  replace HXB_x := hide (hT.blk HXB_x.out (by decide))
  replace HRI_s := hide (hT.own HRI_s.out (by decide))
  clear hk hT hb HK0 t0 t1 HRS_w HRN_w HXB_w
  have t0 := BoxT.c0 HXB_x.out
  have t1 := BoxT.c1 HXB_x.out
  go_wp2_with fail
  refine Calls.mono (book_tensor _ u15.heap.size W0.heap.size 4 none 0 [] Hi1 ci1 _ Hn1 cn1 _ A1x A2x k1y c1x k2y c2x _ _ HK1.out HRS_x.out HRN_x.out (by omega) (by omega) (by omega) (fun i t ht => by
        have hm := List.mem_of_getElem? ht
        simp at hm
        rcases hm with hm | hm
        · subst hm; exact apart_ba (HBS_t.out.le (by omega)) HAS_x.out
        · subst hm; exact apart_ba (HBS_w.out.le (by omega)) HAS_x.out) (fun i t ht => by
        have hm := List.mem_of_getElem? ht
        simp at hm
        rcases hm with hm | hm
        · subst hm; exact apart_ba (HBN_t.out.le (by omega)) HAN_x.out
        · subst hm; exact apart_ba (HBN_w.out.le (by omega)) HAN_x.out)) ?_
  rintro r b2 ⟨rfl, ⟨Hi2, ci2, Hn2, cn2, hk⟩, hT, hb⟩
  have HK2 := hide hk
  replace HWW := hide (HWW.out.trans (hb.mono hsW))
  replace HRI_s := hide (hT.own HRI_s.out (by decide))
  clear hk hT hb HK1 t0 t1 HRS_x HRN_x HXB_x
  go_wp2_with fail
  refine Calls.mono (book_ints _ u15.heap.size W0.heap.size 6 none 0 [] Hi2 ci2 _ Hn2 cn2 _ As ko cs _ HK2.out HRI_s.out (by omega) (by omega) (fun i t ht => by
        have hm := List.mem_of_getElem? ht
        simp at hm
        rcases hm with hm | hm | hm
        · subst hm; exact apart_ba (HBS_t.out.le (by omega)) HAI_s.out
        · subst hm; exact apart_ba (HBS_w.out.le (by omega)) HAI_s.out
        · subst hm; exact apart_ba (HBS_x.out.le (by omega)) HAI_s.out)) ?_
  rintro r b3 ⟨rfl, ⟨Hi3, ci3, hk⟩, hT, hb⟩
  have HK3 := hide hk
  replace HWW := hide (HWW.out.trans (hb.mono hsW))
  clear hk hT hb HK2 HRI_s
  go_wp2_with fail
  refine Calls.mono (apart_any _ _ _ _ _ _ _ _ _ _ _ _ _ HK3.out) ?_
  rintro r bz ⟨rfl, hb⟩
  have HBz := hide (HWW.out.trans (hb.mono hsW))
  clear hb
  go_wp2
  go_ret
  exact ⟨rfl, HBz.out⟩

end Go.Proofs.YtgkilankaknfcaaGreatDoor
