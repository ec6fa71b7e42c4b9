/- SumsAlike holds for every two texts, and whatever turns in them: the walk of its Go text. -/
import Derived.Test.YtpbdkmimdfkijaaThree
import Derived.IntWalk
namespace Go.Proofs.Ytpbdkmimdfkijaa
open Go.RowKit

theorem run_min2 {P : Program} {w : World} (ts : Array TypeId) (t : TypeId) (k : IntKind) (x y : Int) : (Builtin.min_ ts t #[.int k x, .int k y]).run P w = .ok (.int k (if y < x then y else x)) w := by
  simp [Builtin.min_, Builtin.min2]
theorem min2_eq (x y : Nat) : (if (y : Int) < x then (y : Int) else x) = ((min x y : Nat) : Int) := by split <;> omega
/-- What turns, byte by byte. -/
def turns (bs : List Int) (m n : Nat) : List Int := (List.range n).map fun k => bs.getD (k % m) 0
theorem turns_len (bs : List Int) (m n : Nat) : (turns bs m n).length = n := by simp [turns]
theorem turns_getD (bs : List Int) (m n k : Nat) (h : k < n) : (turns bs m n).getD k 0 = bs.getD (k % m) 0 := by simp [turns, List.getD, h]
theorem turns_byteL {bs : List Int} (h : ByteL bs) (m n : Nat) : ByteL (turns bs m n) := fun z hz => by
  obtain ⟨k, _, rfl⟩ := List.mem_map.1 hz
  exact bytes_getD h _
theorem box2_cells (w : World) (u v : Value) (t : TypeId) : (w.alloc (.cells #[u, v] t)).cell? ⟨w.heap.size, 0, none⟩ = some u ∧ (w.alloc (.cells #[u, v] t)).cell? ⟨w.heap.size, 1, none⟩ = some v := by
  have h := cells_new w [u, v] t
  have h0 := h 0 u rfl
  have h1 := h 1 v rfl
  rw [Addr.add_lit] at h0 h1
  exact ⟨h0, h1⟩
/-- Two lists of the call's own in rows of their own. -/
def ApartV (u v : Value) : Prop := u.ownBlock = none ∨ u.ownBlock ≠ v.ownBlock
theorem ApartV.symm {u v : Value} (h : ApartV u v) : ApartV v u := by
  rcases h with h | h
  · by_cases e : v.ownBlock = none
    · exact .inl e
    · exact .inr (fun e2 => e (by rw [e2, h]))
  · exact .inr (fun e => h e.symm)
theorem ApartV.moved {w w' : World} {base : Nat} {e : TypeId} {u v v' : Value} {n : Nat} {xs : List Value} (h : ApartV u v) (ho : w.ownsRow base e 1 u n xs) (hm : Moved w w' v v') : ApartV u v' := by
  rcases hm with ⟨he, _⟩ | ⟨_, hn⟩
  · rcases h with h | h
    · exact .inl h
    · exact .inr (by rw [he]; exact h)
  · cases hu : u.ownBlock with
    | none => exact .inl hu
    | some g =>
      refine .inr (fun e2 => ?_)
      have h1 := (ho.lt g hu).2
      have h2 := hn g (by rw [← e2, hu])
      omega
theorem own_moved {w w' : World} {base : Nat} {e : TypeId} {u v v' : Value} {n : Nat} {xs : List Value} (ho : w.ownsRow base e 1 u n xs) (h : ApartV u v) (hm : Moved w w' v v') : w'.ownsRow base e 1 u n xs := by
  rcases hm with ⟨_, hg⟩ | ⟨hg, _⟩
  · exact ho.kept hg h
  · exact ho.kept hg (by cases u.ownBlock <;> simp)

set_option maxRecDepth 100000 in
set_option maxHeartbeats 1000000 in
theorem alike_none (A0 A1 B : Option Addr) (n0 n1 c0 c1 m d : Nat) (w : World) (h0 : n0 ≤ 140737488355328) (hm : m ≤ 140737488355328) (h : 50000 < min n0 n1 ∨ m = 0) :
    Calls Try.prog 8 #[.agg #[.slice A0 n0 c0, .slice A1 n1 c1], .slice B m d] w fun e w' => e = .returned (.bool true) ∧ Below w.heap.size w w' := by
  have hmin : ∀ (w : World) ts t, (Builtin.min_ ts t #[.int .i64 (n0 : Int), .int .i64 (n1 : Int)]).run Try.prog w = .ok (.int .i64 ((min n0 n1 : Nat) : Int)) w := fun w ts t => by rw [run_min2, min2_eq]
  have hle : min n0 n1 ≤ 140737488355328 := by omega
  generalize min n0 n1 = n at hmin h hle
  by_cases hn : 50000 < n
  · go_enter Try.func8, Try.ntmps8
    go_wp2_with fail
    refine Calls.mono (alive2_any _) ?_
    rintro e w1 ⟨rfl, hb1⟩
    have HB1 := hide (((Below.refl w.heap.size w).alloc (Nat.le_refl _) _).trans (hb1.mono (by simp)))
    have hs1 := HB1.out.size
    clear hb1
    go_wp2_with fail
    refine Calls.mono (alive2_any w1) ?_
    rintro e w2 ⟨rfl, hb2⟩
    have HB2 := hide (HB1.out.trans (hb2.mono hs1))
    clear hb2
    go_wp2
    go_ret
    exact ⟨rfl, HB2.out⟩
  · obtain rfl : m = 0 := by omega
    clear h
    go_enter Try.func8, Try.ntmps8
    go_wp2_with fail
    refine Calls.mono (alive2_any _) ?_
    rintro e w1 ⟨rfl, hb1⟩
    have HB1 := hide (((Below.refl w.heap.size w).alloc (Nat.le_refl _) _).trans (hb1.mono (by simp)))
    have hs1 := HB1.out.size
    clear hb1
    go_wp2_with fail
    refine Calls.mono (alive2_any w1) ?_
    rintro e w2 ⟨rfl, hb2⟩
    have HB2 := hide (HB1.out.trans (hb2.mono hs1))
    clear hb2
    go_wp2
    go_ret
    exact ⟨rfl, HB2.out⟩

set_option maxRecDepth 100000 in
set_option maxHeartbeats 4000000 in
theorem alike_walk (A0 A1 B : Option Addr) (n0 n1 c0 c1 m d : Nat) (xs ys bs : List Int) (w : World) (hx : Lies w A0 n0 (xs.map (Value.int .u8))) (hy : Lies w A1 n1 (ys.map (Value.int .u8))) (hbs : Lies w B m (bs.map (Value.int .u8)))
    (bx : ByteL xs) (by' : ByteL ys) (bb : ByteL bs) (k0 : n0 ≤ c0) (k1 : n1 ≤ c1) (h : min n0 n1 ≤ 50000) (hm : 0 < m) (hml : m ≤ 140737488355328) :
    Calls Try.prog 8 #[.agg #[.slice A0 n0 c0, .slice A1 n1 c1], .slice B m d] w fun e w' => e = .returned (.bool true) ∧ Below w.heap.size w w' := by
  obtain ⟨i0, hi, hz0, hz1, hz2⟩ := info_parts Try.infoB
  have HI := hide hi
  have HZ0 := hide hz0
  have HZ1 := hide hz1
  have HZ2 := hide hz2
  have hmin : ∀ (w : World) ts t, (Builtin.min_ ts t #[.int .i64 (n0 : Int), .int .i64 (n1 : Int)]).run Try.prog w = .ok (.int .i64 ((min n0 n1 : Nat) : Int)) w := fun w ts t => by rw [run_min2, min2_eq]
  have m0 : min n0 n1 ≤ n0 := by omega
  have m1 : min n0 n1 ≤ n1 := by omega
  generalize min n0 n1 = n at hmin h m0 m1
  have HX := hide (hx.take m0)
  have HY := hide (hy.take m1)
  have HD := hide hbs
  rw [← List.map_take] at HX HY
  have lx : (xs.take n).length = n := by have := HX.out.len; simpa using this
  have ly : (ys.take n).length = n := by have := HY.out.len; simpa using this
  have BX := hide (byteL_take bx n)
  have BY := hide (byteL_take by' n)
  have BB := hide bb
  generalize xs.take n = xs' at HX lx BX
  generalize ys.take n = ys' at HY ly BY
  have ldx : xs'.length = (turns bs m n).length := by rw [turns_len, lx]
  have ldy : ys'.length = (turns bs m n).length := by rw [turns_len, ly]
  have HL0 : Hid ((xorL xs' (turns bs m n)).length = n) := hide (by rw [xorL_len _ _ ldx, lx])
  have HL1 : Hid ((xorL ys' (turns bs m n)).length = n) := hide (by rw [xorL_len _ _ ldy, ly])
  have HT0 : Hid (ByteL (xorL xs' (turns bs m n))) := hide (xorL_byteL BX.out (turns_byteL bb m n))
  have HT1 : Hid (ByteL (xorL ys' (turns bs m n))) := hide (xorL_byteL BY.out (turns_byteL bb m n))
  have HG0 : Hid (∀ k, k < n → (xorL xs' (turns bs m n)).getD k 0 = (((xs'.getD k 0).toNat ^^^ (bs.getD (k % m) 0).toNat : Nat) : Int)) := hide (fun k hk => by rw [xorL_getD _ _ ldx, turns_getD _ _ _ _ hk])
  have HG1 : Hid (∀ k, k < n → (xorL ys' (turns bs m n)).getD k 0 = (((ys'.getD k 0).toNat ^^^ (bs.getD (k % m) 0).toNat : Nat) : Int)) := hide (fun k hk => by rw [xorL_getD _ _ ldy, turns_getD _ _ _ _ hk])
  have HS0 := hide (alike_one xs' (turns bs m n) ldx)
  have HS1 := hide (alike_one ys' (turns bs m n) ldy)
  obtain ⟨T0, hT0⟩ : ∃ T, T = xorL xs' (turns bs m n) := ⟨_, rfl⟩
  obtain ⟨T1, hT1⟩ : ∃ T, T = xorL ys' (turns bs m n) := ⟨_, rfl⟩
  rw [← hT0] at HL0 HT0 HG0 HS0
  rw [← hT1] at HL1 HT1 HG1 HS1
  generalize reg 0 (turns bs m n) = R at HS0 HS1
  have hm0 : ((m : Int) == 0) = false := by simp; omega
  have hmne : ¬ ((m : Int) = 0) := by omega
  clear hi hz0 hz1 hz2 hx hy hbs bx by' bb lx ly ldx ldy hT0 hT1
  go_enter Try.func8, Try.ntmps8
  go_wp2_with fail
  refine Calls.mono (alive2_any _) ?_
  rintro e w1 ⟨rfl, hb1⟩
  have hbx := box2_cells w (.slice A0 n0 c0) (.slice A1 n1 c1) 36
  have X0 := hide (cell_keep hb1 hbx.1)
  have X1 := hide (cell_keep hb1 hbx.2)
  have L0 := hide ((HX.out.alloc _).below hb1)
  have L1 := hide ((HY.out.alloc _).below hb1)
  have LB := hide ((HD.out.alloc _).below hb1)
  have HB1 := hide (((Below.refl w.heap.size w).alloc (Nat.le_refl _) _).trans (hb1.mono (by simp)))
  have hs1 := HB1.out.size
  have hw1 : w.heap.size < w1.heap.size := by have := hb1.size; simp at this; omega
  clear hb1 hbx HX HY HD
  go_wp2
  clear hmin
  go_loopw [6, 7, 8] (fun va vb i wr => ∃ (k : Nat) (A : Option Addr) (c : Nat) (A' : Option Addr) (c' : Nat), k ≤ n ∧ i = .int .i64 k ∧ va = .slice A k c ∧ vb = .slice A' k c' ∧ Hid (wr.ownsRow w1.heap.size 5 1 (.slice A k c) k (preV .u8 T0 k)) ∧ Hid (wr.ownsRow w1.heap.size 5 1 (.slice A' k c') k (preV .u8 T1 k)) ∧ Hid (ApartV (.slice A k c) (.slice A' k c')) ∧ Hid (Below w1.heap.size w1 wr))
    (fun _ _ i _ => n - (intOf i).toNat)
  case atStart => exact ⟨0, none, 0, none, 0, Nat.zero_le _, rfl, rfl, rfl, hide (World.ownsRow_nil _ _ _ _), hide (World.ownsRow_nil _ _ _ _), hide (.inl rfl), hide (Below.refl _ _)⟩
  case round =>
    obtain ⟨k, A, c, A', c', hk, rfl, rfl, rfl, HR, HR', HAP, HB⟩ := hrel
    have hsr := HB.out.size
    have x0 := (HB.out.cell hw1).trans X0.out
    have x1 := (HB.out.cell hw1).trans X1.out
    by_cases hlt : k < n
    · obtain ⟨b0, o0, rfl, bl0, q0⟩ := byte_at L0.out (by omega)
      obtain ⟨b1, o1, rfl, bl1, q1⟩ := byte_at L1.out (by omega)
      obtain ⟨b2, o2, rfl, bl2, q2⟩ := byte_at LB.out hm
      obtain ⟨q, hq⟩ : ∃ q, q = k % m := ⟨_, rfl⟩
      have hql : q < m := by rw [hq]; exact Nat.mod_lt _ hm
      have hrm2 : ((k : Int)) % (m : Int) = (q : Int) := by rw [hq]; rfl
      have hrm : ((k : Int)).tmod (m : Int) = (q : Int) := by rw [Int.tmod_eq_emod_of_nonneg (by omega), hrm2]
      have y0 := (HB.out.cell (p := ⟨b0, o0 + k, none⟩) bl0).trans (q0 k hlt)
      have y1 := (HB.out.cell (p := ⟨b1, o1 + k, none⟩) bl1).trans (q1 k hlt)
      have y2 := (HB.out.cell (p := ⟨b2, o2 + q, none⟩) bl2).trans (q2 q hql)
      have z0b := bytes_getD (bs := xs') BX.out k
      have z1b := bytes_getD (bs := ys') BY.out k
      have z2b := bytes_getD (bs := bs) BB.out q
      have hg0 := HG0.out k hlt
      have hg1 := HG1.out k hlt
      rw [← hq] at hg0 hg1
      obtain ⟨z0, ez0⟩ : ∃ z, z = xs'.getD k 0 := ⟨_, rfl⟩
      obtain ⟨z1, ez1⟩ : ∃ z, z = ys'.getD k 0 := ⟨_, rfl⟩
      obtain ⟨z2, ez2⟩ : ∃ z, z = bs.getD q 0 := ⟨_, rfl⟩
      rw [← ez0] at y0 z0b hg0
      rw [← ez1] at y1 z1b hg1
      rw [← ez2] at y2 z2b hg0 hg1
      have r0 := xor8_nat z0b z2b
      have r1 := xor8_nat z1b z2b
      rw [← hg0] at r0
      rw [← hg1] at r1
      obtain ⟨t0, et0⟩ : ∃ t : Int, t = T0.getD k 0 := ⟨_, rfl⟩
      obtain ⟨t1, et1⟩ : ∃ t : Int, t = T1.getD k 0 := ⟨_, rfl⟩
      rw [← et0] at r0
      rw [← et1] at r1
      have ET0 := hide et0
      have ET1 := hide et1
      have hmz : ¬ m = 0 := by omega
      have hdiv : ∀ w : World, (Op.intDiv .rem .i64 (k : Int) (m : Int)).run Try.prog w = .ok (.int .i64 (q : Int)) w := fun w => by simp [Op.intDiv, hmz, hrm]
      have hwq : IntKind.i64.wrap (q : Int) = (q : Int) := IntWalk.i64_in _ (by omega)
      have g0 : (0 : Int) ≤ (k : Int) := by omega
      have g1 : (k : Int) < (n0 : Int) := by omega
      have g2 : (k : Int) < (n1 : Int) := by omega
      have g3 : (0 : Int) ≤ (q : Int) := by omega
      have g4 : (q : Int) < (m : Int) := by omega
      clear q0 q1 q2 ez0 ez1 ez2 et0 et1 hg0 hg1 hq
      go_wp2_with fail
      go_region_held3 (fun w' => w'.cell? ⟨w.heap.size, 0, none⟩ = some (.slice (some ⟨b0, o0, none⟩) n0 c0) ∧ w'.cell? ⟨b0, o0 + k, none⟩ = some (.int .u8 z0) ∧ w'.cell? ⟨b2, o2 + q, none⟩ = some (.int .u8 z2))
        (first | (exact ⟨(hb5.cell hw1).trans x0, (hb5.cell (p := ⟨b0, o0 + k, none⟩) bl0).trans y0, (hb5.cell (p := ⟨b2, o2 + q, none⟩) bl2).trans y2⟩) | (exact ⟨x0, y0, y2⟩) | go_keep)
        (first | (refine step_append_one rfl (.tmp 33) (.tmp 47) 22 rfl 5 i0 (.int .u8 0) 1 Try.underlying22 HI.out HZ0.out HZ1.out HZ2.out rfl w1.heap.size A k c (preV .u8 T0 k) rfl ((World.ownsRow.drew HR.out).alloc _) (Nat.le_trans hsr (by simp)) ⟨wr.heap.size, 0, none⟩ (.int .u8 t0) rfl (cells_new wr.drew [.int .u8 t0] 5 0 _ rfl) rfl (by omega) (by unfold maxLen; omega) ?_; intro g5 c5 w5 ho5 hm5; have hb5 : Below w1.heap.size wr w5 := below_moved (((Below.refl w1.heap.size wr).drew).alloc hsr _) (Nat.le_trans hsr (by simp)) ((World.ownsRow.drew HR.out).alloc _) hm5))
      have HR5 : Hid (w5.ownsRow w1.heap.size 5 1 (.slice (some ⟨g5, 0, none⟩) (k + 1) c5) (k + 1) (preV .u8 T0 (k + 1))) := hide (by
        rw [preV_snoc _ _ _ (by rw [HL0.out]; exact hlt), ← ET0.out]
        exact ho5)
      have HR5' : Hid (w5.ownsRow w1.heap.size 5 1 (.slice A' k c') k (preV .u8 T1 k)) := hide (own_moved ((World.ownsRow.drew HR'.out).alloc _) HAP.out.symm hm5)
      have HAP5 : Hid (ApartV (.slice A' k c') (.slice (some ⟨g5, 0, none⟩) (k + 1) c5)) := hide (ApartV.moved HAP.out.symm ((World.ownsRow.drew HR'.out).alloc (.cells #[.int .u8 t0] 5)) hm5)
      have u1 := (hb5.cell hw1).trans x1
      have v1 := (hb5.cell (p := ⟨b1, o1 + k, none⟩) bl1).trans y1
      have v2 := (hb5.cell (p := ⟨b2, o2 + q, none⟩) bl2).trans y2
      have HB5 := hide (HB.out.trans hb5)
      have hs5 := HB5.out.size
      clear ho5 hm5 hb5 HR HR' HAP HB x0 x1 y0 y1 y2 r0
      go_wp2_with fail
      go_region_held3 (fun w' => w'.cell? ⟨w.heap.size, 1, none⟩ = some (.slice (some ⟨b1, o1, none⟩) n1 c1) ∧ w'.cell? ⟨b1, o1 + k, none⟩ = some (.int .u8 z1) ∧ w'.cell? ⟨b2, o2 + q, none⟩ = some (.int .u8 z2))
        (first | (exact ⟨(hb6.cell hw1).trans u1, (hb6.cell (p := ⟨b1, o1 + k, none⟩) bl1).trans v1, (hb6.cell (p := ⟨b2, o2 + q, none⟩) bl2).trans v2⟩) | (exact ⟨u1, v1, v2⟩) | go_keep)
        (first | (refine step_append_one rfl (.tmp 49) (.tmp 63) 22 rfl 5 i0 (.int .u8 0) 1 Try.underlying22 HI.out HZ0.out HZ1.out HZ2.out rfl w1.heap.size A' k c' (preV .u8 T1 k) rfl ((World.ownsRow.drew HR5'.out).alloc _) (Nat.le_trans hs5 (by simp)) ⟨w5.heap.size, 0, none⟩ (.int .u8 t1) rfl (cells_new w5.drew [.int .u8 t1] 5 0 _ rfl) rfl (by omega) (by unfold maxLen; omega) ?_; intro g6 c6 w6 ho6 hm6; have hb6 : Below w1.heap.size w5 w6 := below_moved (((Below.refl w1.heap.size w5).drew).alloc hs5 _) (Nat.le_trans hs5 (by simp)) ((World.ownsRow.drew HR5'.out).alloc _) hm6))
      have HR6' : Hid (w6.ownsRow w1.heap.size 5 1 (.slice (some ⟨g6, 0, none⟩) (k + 1) c6) (k + 1) (preV .u8 T1 (k + 1))) := hide (by
        rw [preV_snoc _ _ _ (by rw [HL1.out]; exact hlt), ← ET1.out]
        exact ho6)
      have HR6 : Hid (w6.ownsRow w1.heap.size 5 1 (.slice (some ⟨g5, 0, none⟩) (k + 1) c5) (k + 1) (preV .u8 T0 (k + 1))) := hide (own_moved ((World.ownsRow.drew HR5.out).alloc _) HAP5.out.symm hm6)
      have HAP6 : Hid (ApartV (.slice (some ⟨g5, 0, none⟩) (k + 1) c5) (.slice (some ⟨g6, 0, none⟩) (k + 1) c6)) := hide (ApartV.moved HAP5.out.symm ((World.ownsRow.drew HR5.out).alloc (.cells #[.int .u8 t1] 5)) hm6)
      have HB6 := hide (HB5.out.trans hb6)
      clear ho6 hm6 hb6 HR5 HR5' HAP5 HB5 u1 v1 v2 r1 hrm hrm2 hwq hdiv hmz
      go_wp2
      go_roundw
      case rel => exact ⟨k + 1, _, _, _, _, by omega, by go_num, rfl, rfl, HR6, HR6', HAP6, HB6⟩
      case measure => simp [intOf]; omega
    · obtain rfl : k = n := by omega
      have LT0 : Hid (Lies wr A k (T0.map (Value.int .u8))) := hide (by
        have := lies_of_own HR.out
        rwa [preV_all _ _ HL0.out] at this)
      have LT1 : Hid (Lies wr A' k (T1.map (Value.int .u8))) := hide (by
        have := lies_of_own HR'.out
        rwa [preV_all _ _ HL1.out] at this)
      have l0 := hide (L0.out.below HB.out)
      have l1 := hide (L1.out.below HB.out)
      have v1 := u32_xor_nat (sumOf T0) (sumOf xs') (sumOf_lt HT0.out) (sumOf_lt BX.out)
      have v2 := u32_xor_nat (sumOf T1) (sumOf ys') (sumOf_lt HT1.out) (sumOf_lt BY.out)
      rw [HS0.out] at v1
      rw [HS1.out] at v2
      obtain ⟨s0, e0⟩ : ∃ s : Int, s = ((sumOf T0 : Nat) : Int) := ⟨_, rfl⟩
      obtain ⟨s1, e1⟩ : ∃ s : Int, s = ((sumOf xs' : Nat) : Int) := ⟨_, rfl⟩
      obtain ⟨s2, e2⟩ : ∃ s : Int, s = ((sumOf T1 : Nat) : Int) := ⟨_, rfl⟩
      obtain ⟨s3, e3⟩ : ∃ s : Int, s = ((sumOf ys' : Nat) : Int) := ⟨_, rfl⟩
      obtain ⟨s4, e4⟩ : ∃ s : Int, s = ((R : Nat) : Int) := ⟨_, rfl⟩
      rw [← e0, ← e1, ← e4] at v1
      rw [← e2, ← e3, ← e4] at v2
      have E0 := hide e0
      have E1 := hide e1
      have E2 := hide e2
      have E3 := hide e3
      have f0 : (0 : Int) ≤ (k : Int) := by omega
      have f1 : (k : Int) ≤ (c0 : Int) := by omega
      have f2 : (k : Int) ≤ (c1 : Int) := by omega
      clear e0 e1 e2 e3 e4
      go_wp2_with fail
      go_region_held3 (fun w' => w'.cell? ⟨w.heap.size, 0, none⟩ = some (.slice A0 n0 c0) ∧ w'.cell? ⟨w.heap.size, 1, none⟩ = some (.slice A1 n1 c1))
        (first | (exact ⟨cell_keep hb8 (cell_keep hb7 (cell_keep hb6 (cell_keep hb5 x0))), cell_keep hb8 (cell_keep hb7 (cell_keep hb6 (cell_keep hb5 x1)))⟩) | (exact ⟨cell_keep hb7 (cell_keep hb6 (cell_keep hb5 x0)), cell_keep hb7 (cell_keep hb6 (cell_keep hb5 x1))⟩) | (exact ⟨cell_keep hb6 (cell_keep hb5 x0), cell_keep hb6 (cell_keep hb5 x1)⟩) | (exact ⟨cell_keep hb5 x0, cell_keep hb5 x1⟩) | (exact ⟨x0, x1⟩) | go_keep)
        (first | (go_at_call 10; refine Calls.mono (of_any A k c T0 _ (LT0.out.drewN 1) HT0.out (Nat.le_trans h (by decide))) ?_; rw [← E0.out]; rintro e w5 ⟨rfl, hb5⟩) | (go_at_call 10; refine Calls.mono (of_any A0 k c0 xs' _ ((l0.out.drewN 1).below hb5) BX.out (Nat.le_trans h (by decide))) ?_; rw [← E1.out]; rintro e w6 ⟨rfl, hb6⟩) | (go_at_call 10; refine Calls.mono (of_any A' k c' T1 _ (((LT1.out.drewN 1).below hb5).below hb6) HT1.out (Nat.le_trans h (by decide))) ?_; rw [← E2.out]; rintro e w7 ⟨rfl, hb7⟩) | (go_at_call 10; refine Calls.mono (of_any A1 k c1 ys' _ ((((l1.out.drewN 1).below hb5).below hb6).below hb7) BY.out (Nat.le_trans h (by decide))) ?_; rw [← E3.out]; rintro e w8 ⟨rfl, hb8⟩))
      have HBF := hide (bchain (bchain (bchain (bchain (bchain HB1.out HB.out).drew hb5) hb6) hb7) hb8)
      go_wp2
      go_ret
      exact ⟨rfl, HBF.out⟩
theorem alike_law (A0 A1 B : Option Addr) (n0 n1 c0 c1 m d : Nat) (xs ys bs : List Int) (w : World) (hx : Lies w A0 n0 (xs.map (Value.int .u8))) (hy : Lies w A1 n1 (ys.map (Value.int .u8))) (hbs : Lies w B m (bs.map (Value.int .u8)))
    (bx : ByteL xs) (by' : ByteL ys) (bb : ByteL bs) (k0 : n0 ≤ c0) (k1 : n1 ≤ c1) (h0 : n0 ≤ 140737488355328) (hm : m ≤ 140737488355328) :
    Calls Try.prog 8 #[.agg #[.slice A0 n0 c0, .slice A1 n1 c1], .slice B m d] w fun e w' => e = .returned (.bool true) ∧ Below w.heap.size w w' := by
  by_cases h : min n0 n1 ≤ 50000
  · by_cases hz : m = 0
    · exact alike_none A0 A1 B n0 n1 c0 c1 m d w h0 hm (.inr hz)
    · exact alike_walk A0 A1 B n0 n1 c0 c1 m d xs ys bs w hx hy hbs bx by' bb k0 k1 h (by omega) hm
  · exact alike_none A0 A1 B n0 n1 c0 c1 m d w h0 hm (.inl (by omega))
end Go.Proofs.Ytpbdkmimdfkijaa
