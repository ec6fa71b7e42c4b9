/- MovesOne: the walk of its Go text ends in true. -/
import Derived.Test.YtomhbhhfbbdilaaGreatDoorRef09dM
import Derived.Test.YtomhbhhfbbdilaaGreatDoorWK
import Derived.Test.YtomhbhhfbbdilaaGreatDoorWB
namespace Go.Proofs.YtomhbhhfbbdilaaGreatDoor
open Go.RowKit
set_option linter.unusedVariables false
set_option linter.unusedSimpArgs false
set_option maxRecDepth 100000

theorem book_new6 (w : World) {base : Nat} (hb : base ≤ w.heap.size) : BkAt (w.alloc (.cells #[Value.int .i64 0, Value.slice none 0 0, Value.slice none 0 0, Value.slice none 0 0, Value.slice none 0 0, Value.slice none 0 0, Value.slice none 0 0, Value.slice none 0 0, Value.slice none 0 0, Value.slice none 0 0, Value.slice none 0 0, Value.slice none 0 0, Value.slice none 0 0, Value.slice none 0 0, Value.slice none 0 0, Value.slice none 0 0] 53)) w.heap.size base 0 none 0 [] none 0 [] none 0 [] :=
  ⟨heap_alloc_new w _, World.ownsRow_nil _ _ _ _, ⟨fun i t ht => by simp at ht, fun i j t u _ ht => by simp at ht⟩, Nat.le_refl _, fun i t ht => by simp at ht,
    World.ownsRow_nil _ _ _ _, ⟨fun i t ht => by simp at ht, fun i j t u _ ht => by simp at ht⟩, Nat.le_refl _, fun i t ht => by simp at ht,
    World.ownsRow_nil _ _ _ _, ⟨fun i t ht => by simp at ht, fun i j t u _ ht => by simp at ht⟩, Nat.le_refl _, fun i t ht => by simp at ht, by simp; omega, hb, by omega⟩

theorem tsx_nn7 (n m : Nat) : 0 ≤ (tsz n m : Int) := by omega

theorem tsx_hi7 {n m N : Nat} (hn : n ≤ N) (hm : m ≤ N) : (tsz n m : Int) ≤ 1 + 2 * N := by unfold tsz; split <;> omega

theorem tsx_lo7 {n m : Nat} (h : tsz n m ≤ 1048576) : n ≤ 1048576 ∧ m ≤ 1048576 := by unfold tsz at h; split at h <;> omega

/-- Its block is made ahead of N; behind N. -/
def Bef (v : Value) (N : Nat) : Prop := ∀ g, v.ownBlock = some g → g < N

def Aft (v : Value) (N : Nat) : Prop := ∀ g, v.ownBlock = some g → N ≤ g

theorem Bef.le {v : Value} {N M : Nat} (h : Bef v N) (hN : N ≤ M) : Bef v M := fun g hg => Nat.lt_of_lt_of_le (h g hg) hN

theorem bef_of {w : World} {base : Nat} {e : TypeId} {v : Value} {n : Nat} {xs : List Value} (h : w.ownsRow base e 1 v n xs) : Bef v w.heap.size := fun g hg => (h.lt g hg).2

theorem aft_of {w : World} {base : Nat} {e : TypeId} {v : Value} {n : Nat} {xs : List Value} (h : w.ownsRow base e 1 v n xs) : Aft v base := fun g hg => (h.lt g hg).1

theorem apart_ba {x : It} {v : Value} {N : Nat} (h1 : Bef x.l N) (h2 : Aft v N) : (x.l.ownBlock = none ∨ x.l.ownBlock ≠ v.ownBlock) ∧ (v.ownBlock = none ∨ v.ownBlock ≠ x.l.ownBlock) := by
  cases hx : x.l.ownBlock with
  | none => exact ⟨.inl rfl, by cases hv : v.ownBlock with
      | none => exact .inl rfl
      | some g => exact .inr (by simp)⟩
  | some a => cases hv : v.ownBlock with
    | none => exact ⟨.inr (by simp), .inl rfl⟩
    | some b =>
      have := h1 a hx
      have := h2 b hv
      exact ⟨.inr (by simp; omega), .inr (by simp; omega)⟩

theorem apart_ab {x : It} {v : Value} {N : Nat} (h1 : Aft x.l N) (h2 : Bef v N) : (x.l.ownBlock = none ∨ x.l.ownBlock ≠ v.ownBlock) ∧ (v.ownBlock = none ∨ v.ownBlock ≠ x.l.ownBlock) := by
  cases hx : x.l.ownBlock with
  | none => exact ⟨.inl rfl, by cases hv : v.ownBlock with
      | none => exact .inl rfl
      | some g => exact .inr (by simp)⟩
  | some a => cases hv : v.ownBlock with
    | none => exact ⟨.inr (by simp), .inl rfl⟩
    | some b =>
      have := h1 a hx
      have := h2 b hv
      exact ⟨.inr (by simp; omega), .inr (by simp; omega)⟩

theorem twinI_ex (A : Option Addr) (n c : Nat) (zs : List Int) (w : World) (h : Lies w A n (zs.map (Value.int .i64))) (hn : n ≤ 1073741824) :
    Calls Tryz.prog 26 #[.slice A n c] w fun e w' => ∃ g, e = .returned (.slice (some ⟨g, 0, none⟩) n (n + 1)) ∧
      w'.ownsRow w.heap.size 3 1 (.slice (some ⟨g, 0, none⟩) (n + 1) (n + 1)) (n + 1) (zs.map (Value.int .i64) ++ [.int .i64 77]) ∧ Below w.heap.size w w' :=
  (twin_Ints A n c zs w h hn).mono fun e w' h => ⟨_, h.1, h.2.1, h.2.2⟩

/-- A tensor in a box, seen by what is there. -/
def TenB (w : World) (p : Nat) (A B : Option Addr) (n c m d : Nat) (s l : List Int) : Prop := BoxT w p (.slice A n c) (.slice B m d) ∧ Lies w A n (s.map (Value.int .i64)) ∧ Lies w B m (l.map (Value.int .i32))

theorem TenB.kept {w : World} {p : Nat} {A B : Option Addr} {n c m d : Nat} {s l : List Int} (h : TenB w p A B n c m d s l) {w' : World} (hb : Below w.heap.size w w') : TenB w' p A B n c m d s l := ⟨h.1.kept hb, h.2.1.below hb, h.2.2.below hb⟩

theorem book_ints (w : World) (B base N : Nat) (HByte : Option Addr) (cByte : Nat) (iByte : List It) (HInt : Option Addr) (cInt : Nat) (iInt : List It) (HNumber : Option Addr) (cNumber : Nat) (iNumber : List It)
    (A : Option Addr) (n c : Nat) (xs : List Value) (h : BkAt w B base N HByte cByte iByte HInt cInt iInt HNumber cNumber iNumber)
    (ho : w.ownsRow base 3 1 (.slice A n c) n xs) (hn : n ≤ 1073741824) (hN : N + 1 ≤ 1048000) (ha : ApartOf iInt (.slice A n c)) :
    Calls Tryz.prog 21 #[.pointer (some ⟨B, 0, none⟩), .slice A n c] w fun e w' => e = .returned (.tuple #[]) ∧
      (∃ H1 c1, BkAt w' B base (N + 1) HByte cByte iByte H1 c1 (iInt ++ [⟨A, n, c, none, 0, 0, N + 1⟩]) HNumber cNumber iNumber) ∧
      KeepT [53, 147] w w' ∧ Below base w w' := by
  have hf := h.few
  have hi := h.manyInt
  refine Calls.mono (add_Int B base N cInt n c HInt A _ iInt w h.blk rfl rfl h.rowInt h.baseW h.baseB (by omega) (by omega)) ?_
  rintro e w1 ⟨rfl, H1, c1, hk⟩
  exact ⟨rfl, ⟨H1, c1, h.addInt hk ho hn (by omega) ha⟩, hk.keep, hk.below⟩

set_option maxHeartbeats 8000000 in
theorem onec9_any (A B A' : Option Addr) (n c m d q e0 : Nat) (s l s' : List Int) (al : Int) (w : World) (hA : Lies w A n (s.map (Value.int .i64))) (hB : Lies w B m (l.map (Value.int .i32))) (hA' : Lies w A' q (s'.map (Value.int .i64)))
    (hn : n ≤ 70368744177664) (hm : m ≤ 70368744177664) (hq : q ≤ 70368744177664) :
    Calls Tryz.prog 4 #[tenV A n c B m d, .slice A' q e0, .int .i64 al] w fun r w' => r = .returned (.bool true) ∧ Below w.heap.size w w' := by
  obtain ⟨W0, hW0⟩ : ∃ W0, W0 = w.alloc (.cells #[.slice A n c, .slice B m d] 60) := ⟨_, rfl⟩
  have HBW : Hid (Below w.heap.size w W0) := hide (by rw [hW0]; exact below_al6 (Below.refl _ _))
  have HT_z : Hid (TenB W0 w.heap.size A B n c m d s l) := hide (by rw [hW0]; exact ⟨BoxT.new w _ _, hA.alloc _, hB.alloc _⟩)
  have HL_sa : Hid (Lies W0 A' q (s'.map (Value.int .i64))) := hide (hA'.below HBW.out)
  have HL : Hid (l.length = m) := hide (by have := hB.len; simpa using this)
  have HSL : Hid (s.length = n) := hide (by have := hA.len; simpa using this)
  have HQL : Hid (s'.length = q) := hide (by have := hA'.len; simpa using this)
  have hW0' := hW0.symm
  clear hW0 hA hB hA'
  have hsW := HBW.out.size
  have HWS : Hid (W0.heap.size ≤ W0.heap.size) := hide (Nat.le_refl _)
  have ht0 : 0 ≤ (tsz n m : Int) := tsx_nn7 n m
  have ht1 := tsx_hi7 hn hm
  go_enter Tryz.func4, Tryz.ntmps4
  have cz0 := HT_z.out.1.c0
  have cz1 := HT_z.out.1.c1
  go_wp2_with fail
  refine Calls.mono (tsize_any A B n c m d _ (by omega) (by omega)) ?_
  rintro r u1 ⟨rfl, hb⟩
  replace HT_z := hide (HT_z.out.kept hb)
  replace HL_sa := hide (HL_sa.out.below hb)
  replace HBW := hide (HBW.out.trans (hb.mono HBW.out.size))
  have HZ0 := hide hb.size
  clear cz0 cz1 hb
  replace HWS : Hid (W0.heap.size ≤ u1.heap.size) := hide (by have h1 := HWS.out; have h2 := HZ0.out; omega)
  by_cases hfar : 1048576 < tsz n m + q
  · go_wp2_with fail
    refine Calls.mono (beyond_yes (some ⟨u1.heap.size, 0, none⟩) 2 2 [(tsz n m : Int), (q : Int)] _ (lies_lit u1 .i64 [(tsz n m : Int), (q : Int)] 3) (by intro z hz; simp at hz; rcases hz with rfl | rfl <;> omega) (by simp; omega) (by omega)) ?_
    rintro r uf ⟨rfl, hw3⟩
    have hb : Below u1.heap.size u1 uf := by rw [← hw3]; exact below_al6 (Below.refl _ _)
    clear hw3
    have HBE := hide (HBW.out.trans (hb.mono HBW.out.size))
    clear hb
    go_wp2
    go_ret
    exact ⟨rfl, HBE.out⟩
  go_wp2_with fail
  refine Calls.mono (beyond_no (some ⟨u1.heap.size, 0, none⟩) 2 2 [(tsz n m : Int), (q : Int)] _ (lies_lit u1 .i64 [(tsz n m : Int), (q : Int)] 3) (by intro z hz; simp at hz; rcases hz with rfl | rfl <;> omega) (by simp; omega) (by omega)) ?_
  rintro r ub ⟨rfl, hw3⟩
  have hb : Below u1.heap.size u1 ub := by rw [← hw3]; exact below_al6 (Below.refl _ _)
  clear hw3
  replace HT_z := hide (HT_z.out.kept hb)
  replace HL_sa := hide (HL_sa.out.below hb)
  replace HBW := hide (HBW.out.trans (hb.mono HBW.out.size))
  have HZ1 := hide hb.size
  clear hb
  replace HWS : Hid (W0.heap.size ≤ ub.heap.size) := hide (by have h1 := HWS.out; have h2 := HZ1.out; omega)
  have b1 : n ≤ 1048576 ∧ m ≤ 1048576 := tsx_lo7 (by omega)
  have b2 : q ≤ 1048576 := by omega
  clear hfar ht0 ht1
  obtain ⟨Ex, hE⟩ : ∃ E, E = msE s m s' := ⟨_, rfl⟩
  have HEx := hide hE
  clear hE
  obtain ⟨Ey, hE⟩ : ∃ E, E = tuE s m s' := ⟨_, rfl⟩
  have HEy := hide hE
  clear hE
  obtain ⟨Ev, hE⟩ : ∃ E, E = smE s m al := ⟨_, rfl⟩
  have HEv := hide hE
  clear hE
  have cz0 := HT_z.out.1.c0
  have cz1 := HT_z.out.1.c1
  go_wp2_with fail
  refine Calls.mono (twinT_any A B n c m d s l _ HT_z.out.2.1 HT_z.out.2.2 (by omega) (by omega)) ?_
  rintro r u2 ⟨g1t, g2t, rfl, ho1, ho2, hnet, hb0⟩
  obtain ⟨V3, hV3⟩ : ∃ W, W = u2.alloc (.cells #[.slice (some ⟨g1t, 0, none⟩) n (n + 1), .slice (some ⟨g2t, 0, none⟩) m (m + 1)] 60) := ⟨_, rfl⟩
  have hb : Below ub.heap.size ub V3 := by rw [hV3]; exact below_al6 hb0
  have hsvV3 : V3.heap.size = u2.heap.size + 1 := by rw [hV3]; simp
  have HSVV3 := hide hsvV3
  clear hsvV3
  have hw0 := HBW.out.size
  have hq1 := own_part ho1 (n := n) (by simp [HSL.out]) (by omega)
  have hq2 := own_part ho2 (n := m) (by simp [HL.out]) (by omega)
  have HT_t : Hid (TenB V3 u2.heap.size (some ⟨g1t, 0, none⟩) (some ⟨g2t, 0, none⟩) n (n + 1) m (m + 1) s l) := hide (by rw [hV3]; exact ⟨BoxT.new _ _ _, (lies_of_own hq1).alloc _, (lies_of_own hq2).alloc _⟩)
  have HOS_t : Hid (V3.ownsRow W0.heap.size 3 1 (.slice (some ⟨g1t, 0, none⟩) (n + 1) (n + 1)) (n + 1) (s.map (Value.int .i64) ++ [.int .i64 77])) := hide (by rw [hV3]; exact own_base (ho1.alloc _) HWS.out)
  have HON_t : Hid (V3.ownsRow W0.heap.size 21 1 (.slice (some ⟨g2t, 0, none⟩) (m + 1) (m + 1)) (m + 1) (l.map (Value.int .i32) ++ [.int .i32 77])) := hide (by rw [hV3]; exact own_base (ho2.alloc _) HWS.out)
  have HBS_t : Hid (Bef (.slice (some ⟨g1t, 0, none⟩) n (n + 1)) u2.heap.size) := hide (bef_of hq1)
  have HBN_t : Hid (Bef (.slice (some ⟨g2t, 0, none⟩) m (m + 1)) u2.heap.size) := hide (bef_of hq2)
  have HAS_t : Hid (Aft (.slice (some ⟨g1t, 0, none⟩) n (n + 1)) ub.heap.size) := hide (aft_of hq1)
  have HAN_t : Hid (Aft (.slice (some ⟨g2t, 0, none⟩) m (m + 1)) ub.heap.size) := hide (aft_of hq2)
  replace HT_z := hide (HT_z.out.kept hb)
  replace HL_sa := hide (HL_sa.out.below hb)
  replace HBW := hide (HBW.out.trans (hb.mono HBW.out.size))
  have HZ3 := hide hb.size
  have hV3' := hV3.symm
  clear cz0 cz1 hV3 hb hb0 ho1 ho2 hq1 hq2 hw0
  replace HWS : Hid (W0.heap.size ≤ V3.heap.size) := hide (by have h1 := HWS.out; have h2 := HZ3.out; omega)
  go_wp2_with fail
  refine Calls.mono (twinI_ex A' q e0 s' _ HL_sa.out (by omega)) ?_
  rintro r u4 ⟨giu, rfl, ho1, hb⟩
  have hw0 := HBW.out.size
  have hq1 := own_part ho1 (n := q) (by simp [HQL.out]) (by omega)
  have HL_u : Hid (Lies u4 (some ⟨giu, 0, none⟩) q (s'.map (Value.int .i64))) := hide (lies_of_own hq1)
  have HOI_u : Hid (u4.ownsRow W0.heap.size 3 1 (.slice (some ⟨giu, 0, none⟩) (q + 1) (q + 1)) (q + 1) (s'.map (Value.int .i64) ++ [.int .i64 77])) := hide (own_base ho1 HWS.out)
  have HBI_u : Hid (Bef (.slice (some ⟨giu, 0, none⟩) q (q + 1)) u4.heap.size) := hide (bef_of hq1)
  have HAI_u : Hid (Aft (.slice (some ⟨giu, 0, none⟩) q (q + 1)) V3.heap.size) := hide (aft_of hq1)
  replace HT_z := hide (HT_z.out.kept hb)
  replace HT_t := hide (HT_t.out.kept hb)
  replace HOS_t := hide (own_below HOS_t.out hb)
  replace HON_t := hide (own_below HON_t.out hb)
  replace HL_sa := hide (HL_sa.out.below hb)
  replace HBW := hide (HBW.out.trans (hb.mono HBW.out.size))
  have HZ4 := hide hb.size
  clear hb ho1 hq1 hw0
  replace HWS : Hid (W0.heap.size ≤ u4.heap.size) := hide (by have h1 := HWS.out; have h2 := HZ4.out; omega)
  have cxt0 := HT_t.out.1.c0
  have cxt1 := HT_t.out.1.c1
  go_wp2_with fail
  refine Calls.mono (mshape_own (some ⟨g1t, 0, none⟩) (some ⟨g2t, 0, none⟩) (some ⟨giu, 0, none⟩) n (n + 1) m (m + 1) q (q + 1) s l s' _ HT_t.out.2.1 HT_t.out.2.2 HL_u.out (by omega) (by omega)) ?_
  rw [← HEx.out]
  rintro r u5 ⟨A1x, k1x, c1x, A2x, k2x, c2x, rfl, ho1, ho2, hk1x, hk2x, hb0⟩
  obtain ⟨V6, hV6⟩ : ∃ W, W = u5.alloc (.cells #[.slice A1x k1x c1x, .slice A2x k2x c2x] 60) := ⟨_, rfl⟩
  have hb : Below u4.heap.size u4 V6 := by rw [hV6]; exact below_al6 hb0
  have hsvV6 : V6.heap.size = u5.heap.size + 1 := by rw [hV6]; simp
  have HSVV6 := hide hsvV6
  clear hsvV6
  have HT_x : Hid (TenB V6 u5.heap.size A1x A2x k1x c1x k2x c2x (msS s m s') (msL s m s' l)) := hide (by rw [hV6]; exact ⟨BoxT.new _ _ _, (lies_of_own ho1).alloc _, (lies_of_own ho2).alloc _⟩)
  have hl1x : (msS s m s').length = k1x := by have := ho1.1; simpa using this
  have hl2x : (msL s m s' l).length = k2x := by have := ho2.1; simpa using this
  have HOS_x : Hid (V6.ownsRow W0.heap.size 3 1 (.slice A1x k1x c1x) k1x ((msS s m s').map (Value.int .i64))) := hide (by rw [hV6]; exact own_base (ho1.alloc _) HWS.out)
  have HON_x : Hid (V6.ownsRow W0.heap.size 21 1 (.slice A2x k2x c2x) k2x ((msL s m s' l).map (Value.int .i32))) := hide (by rw [hV6]; exact own_base (ho2.alloc _) HWS.out)
  have HBS_x := hide (bef_of ho1)
  have HBN_x := hide (bef_of ho2)
  have HAS_x := hide (aft_of ho1)
  have HAN_x := hide (aft_of ho2)
  replace HT_z := hide (HT_z.out.kept hb)
  replace HT_t := hide (HT_t.out.kept hb)
  replace HOS_t := hide (own_below HOS_t.out hb)
  replace HON_t := hide (own_below HON_t.out hb)
  replace HL_sa := hide (HL_sa.out.below hb)
  replace HL_u := hide (HL_u.out.below hb)
  replace HOI_u := hide (own_below HOI_u.out hb)
  replace HBW := hide (HBW.out.trans (hb.mono HBW.out.size))
  have HZ6 := hide hb.size
  have hV6' := hV6.symm
  clear cxt0 cxt1 hV6 hb hb0 ho1 ho2
  replace HWS : Hid (W0.heap.size ≤ V6.heap.size) := hide (by have h1 := HWS.out; have h2 := HZ6.out; omega)
  have cxt0 := HT_t.out.1.c0
  have cxt1 := HT_t.out.1.c1
  go_wp2_with fail
  refine Calls.mono (mturn_own (some ⟨g1t, 0, none⟩) (some ⟨g2t, 0, none⟩) (some ⟨giu, 0, none⟩) n (n + 1) m (m + 1) q (q + 1) s l s' _ HT_t.out.2.1 HT_t.out.2.2 HL_u.out (by omega) (by omega)) ?_
  rw [← HEy.out]
  rintro r u7 ⟨A1y, k1y, c1y, A2y, k2y, c2y, rfl, ho1, ho2, hk1y, hk2y, hb0⟩
  obtain ⟨V8, hV8⟩ : ∃ W, W = u7.alloc (.cells #[.slice A1y k1y c1y, .slice A2y k2y c2y] 60) := ⟨_, rfl⟩
  have hb : Below V6.heap.size V6 V8 := by rw [hV8]; exact below_al6 hb0
  have hsvV8 : V8.heap.size = u7.heap.size + 1 := by rw [hV8]; simp
  have HSVV8 := hide hsvV8
  clear hsvV8
  have HT_y : Hid (TenB V8 u7.heap.size A1y A2y k1y c1y k2y c2y (tuS s m s') (tuL s m l s')) := hide (by rw [hV8]; exact ⟨BoxT.new _ _ _, (lies_of_own ho1).alloc _, (lies_of_own ho2).alloc _⟩)
  have hl1y : (tuS s m s').length = k1y := by have := ho1.1; simpa using this
  have hl2y : (tuL s m l s').length = k2y := by have := ho2.1; simpa using this
  have HOS_y : Hid (V8.ownsRow W0.heap.size 3 1 (.slice A1y k1y c1y) k1y ((tuS s m s').map (Value.int .i64))) := hide (by rw [hV8]; exact own_base (ho1.alloc _) HWS.out)
  have HON_y : Hid (V8.ownsRow W0.heap.size 21 1 (.slice A2y k2y c2y) k2y ((tuL s m l s').map (Value.int .i32))) := hide (by rw [hV8]; exact own_base (ho2.alloc _) HWS.out)
  have HBS_y := hide (bef_of ho1)
  have HBN_y := hide (bef_of ho2)
  have HAS_y := hide (aft_of ho1)
  have HAN_y := hide (aft_of ho2)
  replace HT_z := hide (HT_z.out.kept hb)
  replace HT_t := hide (HT_t.out.kept hb)
  replace HT_x := hide (HT_x.out.kept hb)
  replace HOS_t := hide (own_below HOS_t.out hb)
  replace HON_t := hide (own_below HON_t.out hb)
  replace HOS_x := hide (own_below HOS_x.out hb)
  replace HON_x := hide (own_below HON_x.out hb)
  replace HL_sa := hide (HL_sa.out.below hb)
  replace HL_u := hide (HL_u.out.below hb)
  replace HOI_u := hide (own_below HOI_u.out hb)
  replace HBW := hide (HBW.out.trans (hb.mono HBW.out.size))
  have HZ8 := hide hb.size
  have hV8' := hV8.symm
  clear cxt0 cxt1 hV8 hb hb0 ho1 ho2
  replace HWS : Hid (W0.heap.size ≤ V8.heap.size) := hide (by have h1 := HWS.out; have h2 := HZ8.out; omega)
  have cxt0 := HT_t.out.1.c0
  have cxt1 := HT_t.out.1.c1
  go_wp2_with fail
  refine Calls.mono (msum_own (some ⟨g1t, 0, none⟩) (some ⟨g2t, 0, none⟩) n (n + 1) m (m + 1) s l al _ HT_t.out.2.1 HT_t.out.2.2 (by omega) (by omega)) ?_
  rw [← HEv.out]
  rintro r u9 ⟨A1v, k1v, c1v, A2v, k2v, c2v, rfl, ho1, ho2, hk1v, hk2v, hb0⟩
  obtain ⟨V10, hV10⟩ : ∃ W, W = u9.alloc (.cells #[.slice A1v k1v c1v, .slice A2v k2v c2v] 60) := ⟨_, rfl⟩
  have hb : Below V8.heap.size V8 V10 := by rw [hV10]; exact below_al6 hb0
  have hsvV10 : V10.heap.size = u9.heap.size + 1 := by rw [hV10]; simp
  have HSVV10 := hide hsvV10
  clear hsvV10
  have HT_v : Hid (TenB V10 u9.heap.size A1v A2v k1v c1v k2v c2v (smS s m al) (smL s m l al)) := hide (by rw [hV10]; exact ⟨BoxT.new _ _ _, (lies_of_own ho1).alloc _, (lies_of_own ho2).alloc _⟩)
  have hl1v : (smS s m al).length = k1v := by have := ho1.1; simpa using this
  have hl2v : (smL s m l al).length = k2v := by have := ho2.1; simpa using this
  have HOS_v : Hid (V10.ownsRow W0.heap.size 3 1 (.slice A1v k1v c1v) k1v ((smS s m al).map (Value.int .i64))) := hide (by rw [hV10]; exact own_base (ho1.alloc _) HWS.out)
  have HON_v : Hid (V10.ownsRow W0.heap.size 21 1 (.slice A2v k2v c2v) k2v ((smL s m l al).map (Value.int .i32))) := hide (by rw [hV10]; exact own_base (ho2.alloc _) HWS.out)
  have HBS_v := hide (bef_of ho1)
  have HBN_v := hide (bef_of ho2)
  have HAS_v := hide (aft_of ho1)
  have HAN_v := hide (aft_of ho2)
  replace HT_z := hide (HT_z.out.kept hb)
  replace HT_t := hide (HT_t.out.kept hb)
  replace HT_x := hide (HT_x.out.kept hb)
  replace HT_y := hide (HT_y.out.kept hb)
  replace HOS_t := hide (own_below HOS_t.out hb)
  replace HON_t := hide (own_below HON_t.out hb)
  replace HOS_x := hide (own_below HOS_x.out hb)
  replace HON_x := hide (own_below HON_x.out hb)
  replace HOS_y := hide (own_below HOS_y.out hb)
  replace HON_y := hide (own_below HON_y.out hb)
  replace HL_sa := hide (HL_sa.out.below hb)
  replace HL_u := hide (HL_u.out.below hb)
  replace HOI_u := hide (own_below HOI_u.out hb)
  replace HBW := hide (HBW.out.trans (hb.mono HBW.out.size))
  have HZ10 := hide hb.size
  have hV10' := hV10.symm
  clear cxt0 cxt1 hV10 hb hb0 ho1 ho2
  replace HWS : Hid (W0.heap.size ≤ V10.heap.size) := hide (by have h1 := HWS.out; have h2 := HZ10.out; omega)
  have cz0 := HT_z.out.1.c0
  have cz1 := HT_z.out.1.c1
  go_wp2_with fail
  refine Calls.mono (rmshape9_any A B A' n c m d q e0 s l s' _ HT_z.out.2.1 HT_z.out.2.2 HL_sa.out (by omega) (by omega)) ?_
  rw [← HEx.out]
  rintro r u11 ⟨A1rx, k1rx, c1rx, A2rx, k2rx, c2rx, rfl, h1, h2, hb0⟩
  obtain rfl : k1rx = k1x := by have := h1.len; simp only [List.length_map] at this; omega
  obtain rfl : k2rx = k2x := by have := h2.len; simp only [List.length_map] at this; omega
  obtain ⟨V12, hV12⟩ : ∃ W, W = u11.alloc (.cells #[.slice A1rx k1rx c1rx, .slice A2rx k2rx c2rx] 60) := ⟨_, rfl⟩
  have hb : Below V10.heap.size V10 V12 := by rw [hV12]; exact below_al6 hb0
  have hsvV12 : V12.heap.size = u11.heap.size + 1 := by rw [hV12]; simp
  have HSVV12 := hide hsvV12
  clear hsvV12
  have HT_rx : Hid (TenB V12 u11.heap.size A1rx A2rx k1rx c1rx k2rx c2rx (msS s m s') (msL s m s' l)) := hide (by rw [hV12]; exact ⟨BoxT.new _ _ _, h1.alloc _, h2.alloc _⟩)
  replace HT_z := hide (HT_z.out.kept hb)
  replace HT_t := hide (HT_t.out.kept hb)
  replace HT_x := hide (HT_x.out.kept hb)
  replace HT_y := hide (HT_y.out.kept hb)
  replace HT_v := hide (HT_v.out.kept hb)
  replace HOS_t := hide (own_below HOS_t.out hb)
  replace HON_t := hide (own_below HON_t.out hb)
  replace HOS_x := hide (own_below HOS_x.out hb)
  replace HON_x := hide (own_below HON_x.out hb)
  replace HOS_y := hide (own_below HOS_y.out hb)
  replace HON_y := hide (own_below HON_y.out hb)
  replace HOS_v := hide (own_below HOS_v.out hb)
  replace HON_v := hide (own_below HON_v.out hb)
  replace HL_sa := hide (HL_sa.out.below hb)
  replace HL_u := hide (HL_u.out.below hb)
  replace HOI_u := hide (own_below HOI_u.out hb)
  replace HBW := hide (HBW.out.trans (hb.mono HBW.out.size))
  have HZ12 := hide hb.size
  have hV12' := hV12.symm
  clear cz0 cz1 hV12 hb hb0 h1 h2
  replace HWS : Hid (W0.heap.size ≤ V12.heap.size) := hide (by have h1 := HWS.out; have h2 := HZ12.out; omega)
  have cz0 := HT_z.out.1.c0
  have cz1 := HT_z.out.1.c1
  go_wp2_with fail
  refine Calls.mono (rmturn9_any A B A' n c m d q e0 s l s' _ HT_z.out.2.1 HT_z.out.2.2 HL_sa.out (by omega) (by omega)) ?_
  rw [← HEy.out]
  rintro r u13 ⟨A1ry, k1ry, c1ry, A2ry, k2ry, c2ry, rfl, h1, h2, hb0⟩
  obtain rfl : k1ry = k1y := by have := h1.len; simp only [List.length_map] at this; omega
  obtain rfl : k2ry = k2y := by have := h2.len; simp only [List.length_map] at this; omega
  obtain ⟨V14, hV14⟩ : ∃ W, W = u13.alloc (.cells #[.slice A1ry k1ry c1ry, .slice A2ry k2ry c2ry] 60) := ⟨_, rfl⟩
  have hb : Below V12.heap.size V12 V14 := by rw [hV14]; exact below_al6 hb0
  have hsvV14 : V14.heap.size = u13.heap.size + 1 := by rw [hV14]; simp
  have HSVV14 := hide hsvV14
  clear hsvV14
  have HT_ry : Hid (TenB V14 u13.heap.size A1ry A2ry k1ry c1ry k2ry c2ry (tuS s m s') (tuL s m l s')) := hide (by rw [hV14]; exact ⟨BoxT.new _ _ _, h1.alloc _, h2.alloc _⟩)
  replace HT_z := hide (HT_z.out.kept hb)
  replace HT_t := hide (HT_t.out.kept hb)
  replace HT_x := hide (HT_x.out.kept hb)
  replace HT_y := hide (HT_y.out.kept hb)
  replace HT_v := hide (HT_v.out.kept hb)
  replace HT_rx := hide (HT_rx.out.kept hb)
  replace HOS_t := hide (own_below HOS_t.out hb)
  replace HON_t := hide (own_below HON_t.out hb)
  replace HOS_x := hide (own_below HOS_x.out hb)
  replace HON_x := hide (own_below HON_x.out hb)
  replace HOS_y := hide (own_below HOS_y.out hb)
  replace HON_y := hide (own_below HON_y.out hb)
  replace HOS_v := hide (own_below HOS_v.out hb)
  replace HON_v := hide (own_below HON_v.out hb)
  replace HL_sa := hide (HL_sa.out.below hb)
  replace HL_u := hide (HL_u.out.below hb)
  replace HOI_u := hide (own_below HOI_u.out hb)
  replace HBW := hide (HBW.out.trans (hb.mono HBW.out.size))
  have HZ14 := hide hb.size
  have hV14' := hV14.symm
  clear cz0 cz1 hV14 hb hb0 h1 h2
  replace HWS : Hid (W0.heap.size ≤ V14.heap.size) := hide (by have h1 := HWS.out; have h2 := HZ14.out; omega)
  have cz0 := HT_z.out.1.c0
  have cz1 := HT_z.out.1.c1
  go_wp2_with fail
  refine Calls.mono (rmsum9_any A B n c m d s l al _ HT_z.out.2.1 HT_z.out.2.2 (by omega)) ?_
  rw [← HEv.out]
  rintro r u15 ⟨A1rv, k1rv, c1rv, A2rv, k2rv, c2rv, rfl, h1, h2, hb0⟩
  obtain rfl : k1rv = k1v := by have := h1.len; simp only [List.length_map] at this; omega
  obtain rfl : k2rv = k2v := by have := h2.len; simp only [List.length_map] at this; omega
  obtain ⟨V16, hV16⟩ : ∃ W, W = u15.alloc (.cells #[.slice A1rv k1rv c1rv, .slice A2rv k2rv c2rv] 60) := ⟨_, rfl⟩
  have hb : Below V14.heap.size V14 V16 := by rw [hV16]; exact below_al6 hb0
  have hsvV16 : V16.heap.size = u15.heap.size + 1 := by rw [hV16]; simp
  have HSVV16 := hide hsvV16
  clear hsvV16
  have HT_rv : Hid (TenB V16 u15.heap.size A1rv A2rv k1rv c1rv k2rv c2rv (smS s m al) (smL s m l al)) := hide (by rw [hV16]; exact ⟨BoxT.new _ _ _, h1.alloc _, h2.alloc _⟩)
  replace HT_z := hide (HT_z.out.kept hb)
  replace HT_t := hide (HT_t.out.kept hb)
  replace HT_x := hide (HT_x.out.kept hb)
  replace HT_y := hide (HT_y.out.kept hb)
  replace HT_v := hide (HT_v.out.kept hb)
  replace HT_rx := hide (HT_rx.out.kept hb)
  replace HT_ry := hide (HT_ry.out.kept hb)
  replace HOS_t := hide (own_below HOS_t.out hb)
  replace HON_t := hide (own_below HON_t.out hb)
  replace HOS_x := hide (own_below HOS_x.out hb)
  replace HON_x := hide (own_below HON_x.out hb)
  replace HOS_y := hide (own_below HOS_y.out hb)
  replace HON_y := hide (own_below HON_y.out hb)
  replace HOS_v := hide (own_below HOS_v.out hb)
  replace HON_v := hide (own_below HON_v.out hb)
  replace HL_sa := hide (HL_sa.out.below hb)
  replace HL_u := hide (HL_u.out.below hb)
  replace HOI_u := hide (own_below HOI_u.out hb)
  replace HBW := hide (HBW.out.trans (hb.mono HBW.out.size))
  have HZ16 := hide hb.size
  have hV16' := hV16.symm
  clear cz0 cz1 hV16 hb hb0 h1 h2
  replace HWS : Hid (W0.heap.size ≤ V16.heap.size) := hide (by have h1 := HWS.out; have h2 := HZ16.out; omega)
  have cxx0 := HT_x.out.1.c0
  have cxx1 := HT_x.out.1.c1
  have cxrx0 := HT_rx.out.1.c0
  have cxrx1 := HT_rx.out.1.c1
  go_wp2_with fail
  refine Calls.mono (sameT_yes A1x A2x A1rx A2rx k1rx c1x k2rx c2x c1rx c2rx (msS s m s') (msL s m s' l) _ HT_x.out.2.1 HT_x.out.2.2 HT_rx.out.2.1 HT_rx.out.2.2 (by omega) (by omega)) ?_
  rintro r u17 ⟨rfl, hb⟩
  replace HT_z := hide (HT_z.out.kept hb)
  replace HT_t := hide (HT_t.out.kept hb)
  replace HT_x := hide (HT_x.out.kept hb)
  replace HT_y := hide (HT_y.out.kept hb)
  replace HT_v := hide (HT_v.out.kept hb)
  replace HT_rx := hide (HT_rx.out.kept hb)
  replace HT_ry := hide (HT_ry.out.kept hb)
  replace HT_rv := hide (HT_rv.out.kept hb)
  replace HOS_t := hide (own_below HOS_t.out hb)
  replace HON_t := hide (own_below HON_t.out hb)
  replace HOS_x := hide (own_below HOS_x.out hb)
  replace HON_x := hide (own_below HON_x.out hb)
  replace HOS_y := hide (own_below HOS_y.out hb)
  replace HON_y := hide (own_below HON_y.out hb)
  replace HOS_v := hide (own_below HOS_v.out hb)
  replace HON_v := hide (own_below HON_v.out hb)
  replace HL_sa := hide (HL_sa.out.below hb)
  replace HL_u := hide (HL_u.out.below hb)
  replace HOI_u := hide (own_below HOI_u.out hb)
  replace HBW := hide (HBW.out.trans (hb.mono HBW.out.size))
  have HZ17 := hide hb.size
  clear cxx0 cxx1 cxrx0 cxrx1 hb
  have cxy0 := HT_y.out.1.c0
  have cxy1 := HT_y.out.1.c1
  have cxry0 := HT_ry.out.1.c0
  have cxry1 := HT_ry.out.1.c1
  go_wp2_with fail
  refine Calls.mono (sameT_yes A1y A2y A1ry A2ry k1ry c1y k2ry c2y c1ry c2ry (tuS s m s') (tuL s m l s') _ HT_y.out.2.1 HT_y.out.2.2 HT_ry.out.2.1 HT_ry.out.2.2 (by omega) (by omega)) ?_
  rintro r u18 ⟨rfl, hb⟩
  replace HT_z := hide (HT_z.out.kept hb)
  replace HT_t := hide (HT_t.out.kept hb)
  replace HT_x := hide (HT_x.out.kept hb)
  replace HT_y := hide (HT_y.out.kept hb)
  replace HT_v := hide (HT_v.out.kept hb)
  replace HT_rx := hide (HT_rx.out.kept hb)
  replace HT_ry := hide (HT_ry.out.kept hb)
  replace HT_rv := hide (HT_rv.out.kept hb)
  replace HOS_t := hide (own_below HOS_t.out hb)
  replace HON_t := hide (own_below HON_t.out hb)
  replace HOS_x := hide (own_below HOS_x.out hb)
  replace HON_x := hide (own_below HON_x.out hb)
  replace HOS_y := hide (own_below HOS_y.out hb)
  replace HON_y := hide (own_below HON_y.out hb)
  replace HOS_v := hide (own_below HOS_v.out hb)
  replace HON_v := hide (own_below HON_v.out hb)
  replace HL_sa := hide (HL_sa.out.below hb)
  replace HL_u := hide (HL_u.out.below hb)
  replace HOI_u := hide (own_below HOI_u.out hb)
  replace HBW := hide (HBW.out.trans (hb.mono HBW.out.size))
  have HZ18 := hide hb.size
  clear cxy0 cxy1 cxry0 cxry1 hb
  have cxv0 := HT_v.out.1.c0
  have cxv1 := HT_v.out.1.c1
  have cxrv0 := HT_rv.out.1.c0
  have cxrv1 := HT_rv.out.1.c1
  go_wp2_with fail
  refine Calls.mono (sameT_yes A1v A2v A1rv A2rv k1rv c1v k2rv c2v c1rv c2rv (smS s m al) (smL s m l al) _ HT_v.out.2.1 HT_v.out.2.2 HT_rv.out.2.1 HT_rv.out.2.2 (by omega) (by omega)) ?_
  rintro r u19 ⟨rfl, hb⟩
  replace HT_z := hide (HT_z.out.kept hb)
  replace HT_t := hide (HT_t.out.kept hb)
  replace HT_x := hide (HT_x.out.kept hb)
  replace HT_y := hide (HT_y.out.kept hb)
  replace HT_v := hide (HT_v.out.kept hb)
  replace HT_rx := hide (HT_rx.out.kept hb)
  replace HT_ry := hide (HT_ry.out.kept hb)
  replace HT_rv := hide (HT_rv.out.kept hb)
  replace HOS_t := hide (own_below HOS_t.out hb)
  replace HON_t := hide (own_below HON_t.out hb)
  replace HOS_x := hide (own_below HOS_x.out hb)
  replace HON_x := hide (own_below HON_x.out hb)
  replace HOS_y := hide (own_below HOS_y.out hb)
  replace HON_y := hide (own_below HON_y.out hb)
  replace HOS_v := hide (own_below HOS_v.out hb)
  replace HON_v := hide (own_below HON_v.out hb)
  replace HL_sa := hide (HL_sa.out.below hb)
  replace HL_u := hide (HL_u.out.below hb)
  replace HOI_u := hide (own_below HOI_u.out hb)
  replace HBW := hide (HBW.out.trans (hb.mono HBW.out.size))
  have HZ19 := hide hb.size
  clear cxv0 cxv1 cxrv0 cxrv1 hb
  have cxt0 := HT_t.out.1.c0
  have cxt1 := HT_t.out.1.c1
  have cz0 := HT_z.out.1.c0
  have cz1 := HT_z.out.1.c1
  go_wp2_with fail
  refine Calls.mono (leftT_yes g1t g2t A B n m c d s l _ (lies_of_own HOS_t.out) (lies_of_own HON_t.out) HT_z.out.2.1 HT_z.out.2.2 (by omega) (by omega)) ?_
  rintro r u20 ⟨rfl, hb⟩
  replace HT_z := hide (HT_z.out.kept hb)
  replace HT_t := hide (HT_t.out.kept hb)
  replace HT_x := hide (HT_x.out.kept hb)
  replace HT_y := hide (HT_y.out.kept hb)
  replace HT_v := hide (HT_v.out.kept hb)
  replace HT_rx := hide (HT_rx.out.kept hb)
  replace HT_ry := hide (HT_ry.out.kept hb)
  replace HT_rv := hide (HT_rv.out.kept hb)
  replace HOS_t := hide (own_below HOS_t.out hb)
  replace HON_t := hide (own_below HON_t.out hb)
  replace HOS_x := hide (own_below HOS_x.out hb)
  replace HON_x := hide (own_below HON_x.out hb)
  replace HOS_y := hide (own_below HOS_y.out hb)
  replace HON_y := hide (own_below HON_y.out hb)
  replace HOS_v := hide (own_below HOS_v.out hb)
  replace HON_v := hide (own_below HON_v.out hb)
  replace HL_sa := hide (HL_sa.out.below hb)
  replace HL_u := hide (HL_u.out.below hb)
  replace HOI_u := hide (own_below HOI_u.out hb)
  replace HBW := hide (HBW.out.trans (hb.mono HBW.out.size))
  have HZ20 := hide hb.size
  clear cxt0 cxt1 cz0 cz1 hb
  go_wp2_with fail
  refine Calls.mono (left_Ints giu q (q + 1) e0 A' s' _ (lies_of_own HOI_u.out) HL_sa.out (Nat.le_refl _) (by omega)) ?_
  rintro r u21 ⟨rfl, jz, hjz⟩
  have hb : Below u20.heap.size u20 u21 := by rw [hjz]; exact below_drewN (Below.refl _ _) jz
  replace HT_z := hide (HT_z.out.kept hb)
  replace HT_t := hide (HT_t.out.kept hb)
  replace HT_x := hide (HT_x.out.kept hb)
  replace HT_y := hide (HT_y.out.kept hb)
  replace HT_v := hide (HT_v.out.kept hb)
  replace HT_rx := hide (HT_rx.out.kept hb)
  replace HT_ry := hide (HT_ry.out.kept hb)
  replace HT_rv := hide (HT_rv.out.kept hb)
  replace HOS_t := hide (own_below HOS_t.out hb)
  replace HON_t := hide (own_below HON_t.out hb)
  replace HOS_x := hide (own_below HOS_x.out hb)
  replace HON_x := hide (own_below HON_x.out hb)
  replace HOS_y := hide (own_below HOS_y.out hb)
  replace HON_y := hide (own_below HON_y.out hb)
  replace HOS_v := hide (own_below HOS_v.out hb)
  replace HON_v := hide (own_below HON_v.out hb)
  replace HL_sa := hide (HL_sa.out.below hb)
  replace HL_u := hide (HL_u.out.below hb)
  replace HOI_u := hide (own_below HOI_u.out hb)
  replace HBW := hide (HBW.out.trans (hb.mono HBW.out.size))
  have HZ21 := hide hb.size
  clear hb hjz
  have hbk : Below u21.heap.size u21 (u21.alloc (.cells #[Value.int .i64 0, Value.slice none 0 0, Value.slice none 0 0, Value.slice none 0 0, Value.slice none 0 0, Value.slice none 0 0, Value.slice none 0 0, Value.slice none 0 0, Value.slice none 0 0, Value.slice none 0 0, Value.slice none 0 0, Value.slice none 0 0, Value.slice none 0 0, Value.slice none 0 0, Value.slice none 0 0, Value.slice none 0 0] 53)) := below_al6 (Below.refl _ _)
  have HWF : Hid (W0.heap.size ≤ u21.heap.size) := hide (by have h0 := HWS.out; have h1 := HZ8.out; have h2 := HSVV10.out; have h3 := HZ10.out; have h4 := HSVV12.out; have h5 := HZ12.out; have h6 := HSVV14.out; have h7 := HZ14.out; have h8 := HSVV16.out; have h9 := HZ16.out; have h10 := HZ17.out; have h11 := HZ18.out; have h12 := HZ19.out; have h13 := HZ20.out; have h14 := HZ21.out; omega)
  have HBOOK := hide (book_new6 u21 HWF.out)
  have HRS_t := hide (own_below (own_part HOS_t.out (n := n) (by simp [HSL.out]) (by omega)) hbk)
  have HRN_t := hide (own_below (own_part HON_t.out (n := m) (by simp [HL.out]) (by omega)) hbk)
  have HXB_t := hide (HT_t.out.1.kept hbk)
  have HRI_u := hide (own_below (own_part HOI_u.out (n := q) (by simp [HQL.out]) (by omega)) hbk)
  have HRS_x := hide (own_below HOS_x.out hbk)
  have HRN_x := hide (own_below HON_x.out hbk)
  have HXB_x := hide (HT_x.out.1.kept hbk)
  have HRS_y := hide (own_below HOS_y.out hbk)
  have HRN_y := hide (own_below HON_y.out hbk)
  have HXB_y := hide (HT_y.out.1.kept hbk)
  have HRS_v := hide (own_below HOS_v.out hbk)
  have HRN_v := hide (own_below HON_v.out hbk)
  have HXB_v := hide (HT_v.out.1.kept hbk)
  have HWW := hide (HBW.out.trans (hbk.mono (by have := HBW.out.size; omega)))
  clear hbk HT_z HT_t HT_x HT_y HT_v HT_rx HT_ry HT_rv HOS_t HON_t HOS_x HON_x HOS_y HON_y HOS_v HON_v HL_sa HL_u HOI_u
  have hz0 := HZ0.out
  have hz1 := HZ1.out
  have hz2 := HSVV3.out
  have hz3 := HZ3.out
  have hz4 := HZ4.out
  have hz5 := HSVV6.out
  have hz6 := HZ6.out
  have hz7 := HSVV8.out
  have hz8 := HZ8.out
  have hz9 := HSVV10.out
  have hz10 := HZ10.out
  have hz11 := HSVV12.out
  have hz12 := HZ12.out
  have hz13 := HSVV14.out
  have hz14 := HZ14.out
  have hz15 := HSVV16.out
  have hz16 := HZ16.out
  have hz17 := HZ17.out
  have hz18 := HZ18.out
  have hz19 := HZ19.out
  have hz20 := HZ20.out
  have hz21 := HZ21.out
  clear HZ0 HZ1 HSVV3 HZ3 HZ4 HSVV6 HZ6 HSVV8 HZ8 HSVV10 HZ10 HSVV12 HZ12 HSVV14 HZ14 HSVV16 HZ16 HZ17 HZ18 HZ19 HZ20 HZ21
  have t0 := BoxT.c0 HXB_t.out
  have t1 := BoxT.c1 HXB_t.out
  go_wp2_with fail
  refine Calls.mono (book_tensor _ u21.heap.size W0.heap.size 0 none 0 [] none 0 [] none 0 [] (some ⟨g1t, 0, none⟩) (some ⟨g2t, 0, none⟩) n (n + 1) m (m + 1) _ _ HBOOK.out HRS_t.out HRN_t.out (by omega) (by omega) (by omega) (fun i t ht => by simp at ht) (fun i t ht => by simp at ht)) ?_
  rintro r b0 ⟨rfl, ⟨Hi0, ci0, Hn0, cn0, hk⟩, hT, hb⟩
  have HK0 := hide hk
  replace HWW := hide (HWW.out.trans (hb.mono hsW))
  replace HRI_u := hide (hT.own HRI_u.out (by decide))
  replace HRS_x := hide (hT.own HRS_x.out (by decide))
  replace HRN_x := hide (hT.own HRN_x.out (by decide))
  replace HXB_x := hide (hT.blk HXB_x.out (by decide))
  replace HRS_y := hide (hT.own HRS_y.out (by decide))
  replace HRN_y := hide (hT.own HRN_y.out (by decide))
  replace HXB_y := hide (hT.blk HXB_y.out (by decide))
  replace HRS_v := hide (hT.own HRS_v.out (by decide))
  replace HRN_v := hide (hT.own HRN_v.out (by decide))
  replace HXB_v := hide (hT.blk HXB_v.out (by decide))
  clear hk hT hb HBOOK t0 t1 HRS_t HRN_t HXB_t
  go_wp2_with fail
  refine Calls.mono (book_ints _ u21.heap.size W0.heap.size 2 none 0 [] Hi0 ci0 _ Hn0 cn0 _ (some ⟨giu, 0, none⟩) q (q + 1) _ HK0.out HRI_u.out (by omega) (by omega) (fun i t ht => by have hm := List.mem_of_getElem? ht; simp at hm; subst hm; exact apart_ba (HBS_t.out.le (by omega)) HAI_u.out)) ?_
  rintro r b1 ⟨rfl, ⟨Hi1, ci1, hk⟩, hT, hb⟩
  have HK1 := hide hk
  replace HWW := hide (HWW.out.trans (hb.mono hsW))
  replace HRS_x := hide (hT.own HRS_x.out (by decide))
  replace HRN_x := hide (hT.own HRN_x.out (by decide))
  replace HXB_x := hide (hT.blk HXB_x.out (by decide))
  replace HRS_y := hide (hT.own HRS_y.out (by decide))
  replace HRN_y := hide (hT.own HRN_y.out (by decide))
  replace HXB_y := hide (hT.blk HXB_y.out (by decide))
  replace HRS_v := hide (hT.own HRS_v.out (by decide))
  replace HRN_v := hide (hT.own HRN_v.out (by decide))
  replace HXB_v := hide (hT.blk HXB_v.out (by decide))
  clear hk hT hb HK0 HRI_u
  have t0 := BoxT.c0 HXB_x.out
  have t1 := BoxT.c1 HXB_x.out
  go_wp2_with fail
  refine Calls.mono (book_tensor _ u21.heap.size W0.heap.size 3 none 0 [] Hi1 ci1 _ Hn0 cn0 _ A1x A2x k1rx c1x k2rx c2x _ _ HK1.out HRS_x.out HRN_x.out (by omega) (by omega) (by omega) (fun i t ht => by
        have hm := List.mem_of_getElem? ht
        simp at hm
        rcases hm with hm | hm
        · subst hm; exact apart_ba (HBS_t.out.le (by omega)) HAS_x.out
        · subst hm; exact apart_ba (HBI_u.out.le (by omega)) HAS_x.out) (fun i t ht => by have hm := List.mem_of_getElem? ht; simp at hm; subst hm; exact apart_ba (HBN_t.out.le (by omega)) HAN_x.out)) ?_
  rintro r b2 ⟨rfl, ⟨Hi2, ci2, Hn2, cn2, hk⟩, hT, hb⟩
  have HK2 := hide hk
  replace HWW := hide (HWW.out.trans (hb.mono hsW))
  replace HRS_y := hide (hT.own HRS_y.out (by decide))
  replace HRN_y := hide (hT.own HRN_y.out (by decide))
  replace HXB_y := hide (hT.blk HXB_y.out (by decide))
  replace HRS_v := hide (hT.own HRS_v.out (by decide))
  replace HRN_v := hide (hT.own HRN_v.out (by decide))
  replace HXB_v := hide (hT.blk HXB_v.out (by decide))
  clear hk hT hb HK1 t0 t1 HRS_x HRN_x HXB_x
  have t0 := BoxT.c0 HXB_y.out
  have t1 := BoxT.c1 HXB_y.out
  go_wp2_with fail
  refine Calls.mono (book_tensor _ u21.heap.size W0.heap.size 5 none 0 [] Hi2 ci2 _ Hn2 cn2 _ A1y A2y k1ry c1y k2ry c2y _ _ HK2.out HRS_y.out HRN_y.out (by omega) (by omega) (by omega) (fun i t ht => by
        have hm := List.mem_of_getElem? ht
        simp at hm
        rcases hm with hm | hm | hm
        · subst hm; exact apart_ba (HBS_t.out.le (by omega)) HAS_y.out
        · subst hm; exact apart_ba (HBI_u.out.le (by omega)) HAS_y.out
        · subst hm; exact apart_ba (HBS_x.out.le (by omega)) HAS_y.out) (fun i t ht => by
        have hm := List.mem_of_getElem? ht
        simp at hm
        rcases hm with hm | hm
        · subst hm; exact apart_ba (HBN_t.out.le (by omega)) HAN_y.out
        · subst hm; exact apart_ba (HBN_x.out.le (by omega)) HAN_y.out)) ?_
  rintro r b3 ⟨rfl, ⟨Hi3, ci3, Hn3, cn3, hk⟩, hT, hb⟩
  have HK3 := hide hk
  replace HWW := hide (HWW.out.trans (hb.mono hsW))
  replace HRS_v := hide (hT.own HRS_v.out (by decide))
  replace HRN_v := hide (hT.own HRN_v.out (by decide))
  replace HXB_v := hide (hT.blk HXB_v.out (by decide))
  clear hk hT hb HK2 t0 t1 HRS_y HRN_y HXB_y
  have t0 := BoxT.c0 HXB_v.out
  have t1 := BoxT.c1 HXB_v.out
  go_wp2_with fail
  refine Calls.mono (book_tensor _ u21.heap.size W0.heap.size 7 none 0 [] Hi3 ci3 _ Hn3 cn3 _ A1v A2v k1rv c1v k2rv c2v _ _ HK3.out HRS_v.out HRN_v.out (by omega) (by omega) (by omega) (fun i t ht => by
        have hm := List.mem_of_getElem? ht
        simp at hm
        rcases hm with hm | hm | hm | hm
        · subst hm; exact apart_ba (HBS_t.out.le (by omega)) HAS_v.out
        · subst hm; exact apart_ba (HBI_u.out.le (by omega)) HAS_v.out
        · subst hm; exact apart_ba (HBS_x.out.le (by omega)) HAS_v.out
        · subst hm; exact apart_ba (HBS_y.out.le (by omega)) HAS_v.out) (fun i t ht => by
        have hm := List.mem_of_getElem? ht
        simp at hm
        rcases hm with hm | hm | hm
        · subst hm; exact apart_ba (HBN_t.out.le (by omega)) HAN_v.out
        · subst hm; exact apart_ba (HBN_x.out.le (by omega)) HAN_v.out
        · subst hm; exact apart_ba (HBN_y.out.le (by omega)) HAN_v.out)) ?_
  rintro r b4 ⟨rfl, ⟨Hi4, ci4, Hn4, cn4, hk⟩, hT, hb⟩
  have HK4 := hide hk
  replace HWW := hide (HWW.out.trans (hb.mono hsW))
  clear hk hT hb HK3 t0 t1 HRS_v HRN_v HXB_v
  go_wp2_with fail
  refine Calls.mono (apart_any _ _ _ _ _ _ _ _ _ _ _ _ _ HK4.out) ?_
  rintro r bz ⟨rfl, hb⟩
  have HBz := hide (HWW.out.trans (hb.mono hsW))
  clear hb
  go_wp2
  go_ret
  exact ⟨rfl, HBz.out⟩

end Go.Proofs.YtomhbhhfbbdilaaGreatDoor
