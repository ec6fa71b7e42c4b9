/- SumsThree holds for every three texts: the walk of its Go text. -/
import Derived.Test.YtpbdkmimdfkijaaEnd
import Derived.Test.YtpbdkmimdfkijaaTwinB
import Derived.Deep.RegionHeld3
namespace Go.Proofs.Ytpbdkmimdfkijaa
open Go.RowKit

theorem run_min3 {P : Program} {w : World} (ts : Array TypeId) (t : TypeId) (k : IntKind) (x y z : Int) : (Builtin.min_ ts t #[.int k x, .int k y, .int k z]).run P w = .ok (.int k (if z < (if y < x then y else x) then z else (if y < x then y else x))) w := by
  simp [Builtin.min_, Builtin.min2]
theorem min3_eq (x y z : Nat) : (if (z : Int) < (if (y : Int) < x then (y : Int) else x) then (z : Int) else (if (y : Int) < x then (y : Int) else x)) = ((min x (min y z) : Nat) : Int) := by
  split <;> split <;> omega
theorem box3_cells (w : World) (u v x : Value) (t : TypeId) : (w.alloc (.cells #[u, v, x] t)).cell? ⟨w.heap.size, 0, none⟩ = some u ∧ (w.alloc (.cells #[u, v, x] t)).cell? ⟨w.heap.size, 1, none⟩ = some v ∧ (w.alloc (.cells #[u, v, x] t)).cell? ⟨w.heap.size, 2, none⟩ = some x := by
  have h := cells_new w [u, v, x] t
  have h0 := h 0 u rfl
  have h1 := h 1 v rfl
  have h2 := h 2 x rfl
  rw [Addr.add_lit] at h0 h1 h2
  exact ⟨h0, h1, h2⟩
theorem bchain {a b c : World} (h : Below a.heap.size a b) (k : Below b.heap.size b c) : Below a.heap.size a c := h.trans (k.mono h.size)
theorem cell_keep {w w' : World} {p : Addr} {v : Value} (hb : Below w.heap.size w w') (h : w.cell? p = some v) : w'.cell? p = some v := (hb.cell (World.block_lt_of_cell? w p h)).trans h
theorem take_getD (xs : List Int) (n k : Nat) (h : k < n) : (xs.take n).getD k 0 = xs.getD k 0 := by simp [List.getD, h]
theorem byteL_take {xs : List Int} (h : ByteL xs) (n : Nat) : ByteL (xs.take n) := fun z hz => h z (List.mem_of_mem_take hz)
theorem xor8_nat {a b : Int} (ha : 0 ≤ a ∧ a < 256) (hb : 0 ≤ b ∧ b < 256) : bits .xor .u8 a b = ((a.toNat ^^^ b.toNat : Nat) : Int) := u8_xor a b ha.1 ha.2 hb.1 hb.2
theorem xor8_lt {a b : Nat} (ha : a < 256) (hb : b < 256) : a ^^^ b < 256 := Nat.xor_lt_two_pow (n := 8) ha hb
theorem xorL_byteL {xs ys : List Int} (hx : ByteL xs) (hy : ByteL ys) : ByteL (xorL xs ys) := by
  induction xs generalizing ys with
  | nil => cases ys <;> (intro z hz; simp [xorL] at hz)
  | cons x xs ih =>
    cases ys with
    | nil => intro z hz; simp [xorL] at hz
    | cons y ys =>
      intro z hz
      simp only [xorL, List.mem_cons] at hz
      rcases hz with rfl | hz
      · have h1 := hx x (by simp)
        have h2 := hy y (by simp)
        have := xor8_lt (a := x.toNat) (b := y.toNat) (by omega) (by omega)
        omega
      · exact ih (fun u hu => hx u (by simp [hu])) (fun u hu => hy u (by simp [hu])) z hz

set_option maxRecDepth 100000 in
set_option maxHeartbeats 1000000 in
theorem three_long (A0 A1 A2 : Option Addr) (n0 n1 n2 c0 c1 c2 : Nat) (w : World) (h : 50000 < min n0 (min n1 n2)) (h0 : n0 ≤ 140737488355328) :
    Calls Try.prog 6 #[.agg #[.slice A0 n0 c0, .slice A1 n1 c1, .slice A2 n2 c2]] w fun e w' => e = .returned (.bool true) ∧ Below w.heap.size w w' := by
  have hmin : ∀ (w : World) ts t, (Builtin.min_ ts t #[.int .i64 (n0 : Int), .int .i64 (n1 : Int), .int .i64 (n2 : Int)]).run Try.prog w = .ok (.int .i64 ((min n0 (min n1 n2) : Nat) : Int)) w := fun w ts t => by rw [run_min3, min3_eq]
  have hle : min n0 (min n1 n2) ≤ 140737488355328 := by omega
  generalize min n0 (min n1 n2) = n at hmin h hle
  go_enter Try.func6, Try.ntmps6
  go_wp2_with fail
  refine Calls.mono (alive2_any _) ?_
  rintro e w1 ⟨rfl, hb1⟩
  have HB1 := hide (((Below.refl w.heap.size w).alloc (Nat.le_refl _) _).trans (hb1.mono (by simp)))
  have hs1 := HB1.out.size
  clear hb1
  go_wp2_with fail
  refine Calls.mono (alive2_any w1) ?_
  rintro e w2 ⟨rfl, hb2⟩
  have HB2 := hide (HB1.out.trans (hb2.mono hs1))
  clear hb2
  go_wp2
  go_ret
  exact ⟨rfl, HB2.out⟩

set_option maxRecDepth 100000 in
set_option maxHeartbeats 4000000 in
theorem three_walk (A0 A1 A2 : Option Addr) (n0 n1 n2 c0 c1 c2 : Nat) (xs ys zs : List Int) (w : World) (hx : Lies w A0 n0 (xs.map (Value.int .u8))) (hy : Lies w A1 n1 (ys.map (Value.int .u8))) (hz : Lies w A2 n2 (zs.map (Value.int .u8)))
    (bx : ByteL xs) (by' : ByteL ys) (bz : ByteL zs) (k0 : n0 ≤ c0) (k1 : n1 ≤ c1) (k2 : n2 ≤ c2) (h : min n0 (min n1 n2) ≤ 50000) :
    Calls Try.prog 6 #[.agg #[.slice A0 n0 c0, .slice A1 n1 c1, .slice A2 n2 c2]] w fun e w' => e = .returned (.bool true) ∧ Below w.heap.size w w' := by
  obtain ⟨i0, hi, hz0, hz1, hz2⟩ := info_parts Try.infoB
  have HI := hide hi
  have HZ0 := hide hz0
  have HZ1 := hide hz1
  have HZ2 := hide hz2
  have hmin : ∀ (w : World) ts t, (Builtin.min_ ts t #[.int .i64 (n0 : Int), .int .i64 (n1 : Int), .int .i64 (n2 : Int)]).run Try.prog w = .ok (.int .i64 ((min n0 (min n1 n2) : Nat) : Int)) w := fun w ts t => by rw [run_min3, min3_eq]
  have m0 : min n0 (min n1 n2) ≤ n0 := by omega
  have m1 : min n0 (min n1 n2) ≤ n1 := by omega
  have m2 : min n0 (min n1 n2) ≤ n2 := by omega
  generalize min n0 (min n1 n2) = n at hmin h m0 m1 m2
  have HX := hide (hx.take m0)
  have HY := hide (hy.take m1)
  have HZ := hide (hz.take m2)
  rw [← List.map_take] at HX HY HZ
  have lx : (xs.take n).length = n := by have := HX.out.len; simpa using this
  have ly : (ys.take n).length = n := by have := HY.out.len; simpa using this
  have lz : (zs.take n).length = n := by have := HZ.out.len; simpa using this
  have BX := hide (byteL_take bx n)
  have BY := hide (byteL_take by' n)
  have BZ := hide (byteL_take bz n)
  generalize xs.take n = xs' at HX lx BX
  generalize ys.take n = ys' at HY ly BY
  generalize zs.take n = zs' at HZ lz BZ
  have HTL : Hid ((xorL (xorL xs' ys') zs').length = n) := hide (by rw [xorL_len _ _ (by rw [xorL_len _ _ (by rw [lx, ly])]; rw [lx, lz]), xorL_len _ _ (by rw [lx, ly]), lx])
  have HTB : Hid (ByteL (xorL (xorL xs' ys') zs')) := hide (xorL_byteL (xorL_byteL BX.out BY.out) BZ.out)
  have HTG : Hid (∀ k, (xorL (xorL xs' ys') zs').getD k 0 = (((((xs'.getD k 0).toNat ^^^ (ys'.getD k 0).toNat : Nat) : Int).toNat ^^^ (zs'.getD k 0).toNat : Nat) : Int)) := hide (fun k => by rw [xorL_getD _ _ (by rw [xorL_len _ _ (by rw [lx, ly])]; rw [lx, lz]), xorL_getD _ _ (by rw [lx, ly])])
  have HSUM := hide (three_eq xs' ys' zs' (by rw [lx, ly]) (by rw [lx, lz]))
  obtain ⟨T, hT⟩ : ∃ T, T = xorL (xorL xs' ys') zs' := ⟨_, rfl⟩
  rw [← hT] at HTL HTB HTG HSUM
  clear hi hz0 hz1 hz2 hx hy hz bx by' bz lx ly lz hT
  go_enter Try.func6, Try.ntmps6
  go_wp2_with fail
  refine Calls.mono (alive2_any _) ?_
  rintro e w1 ⟨rfl, hb1⟩
  have hbx := box3_cells w (.slice A0 n0 c0) (.slice A1 n1 c1) (.slice A2 n2 c2) 34
  have X0 := hide (cell_keep hb1 hbx.1)
  have X1 := hide (cell_keep hb1 hbx.2.1)
  have X2 := hide (cell_keep hb1 hbx.2.2)
  have L0 := hide ((HX.out.alloc _).below hb1)
  have L1 := hide ((HY.out.alloc _).below hb1)
  have L2 := hide ((HZ.out.alloc _).below hb1)
  have HB1 := hide (((Below.refl w.heap.size w).alloc (Nat.le_refl _) _).trans (hb1.mono (by simp)))
  have hs1 := HB1.out.size
  have hw1 : w.heap.size < w1.heap.size := by have := hb1.size; simp at this; omega
  clear hb1 hbx HX HY HZ
  go_wp2
  clear hmin
  go_loopw [4, 5] (fun v i wr => ∃ (k : Nat) (A : Option Addr) (c : Nat), k ≤ n ∧ i = .int .i64 k ∧ v = .slice A k c ∧ Hid (wr.ownsRow w1.heap.size 5 1 (.slice A k c) k (preV .u8 T k)) ∧ Hid (Below w1.heap.size w1 wr))
    (fun _ i _ => n - (intOf i).toNat)
  case atStart => exact ⟨0, none, 0, Nat.zero_le _, rfl, rfl, hide (World.ownsRow_nil _ _ _ _), hide (Below.refl _ _)⟩
  case round =>
    obtain ⟨k, A, c, hk, rfl, rfl, HR, HB⟩ := hrel
    have hsr := HB.out.size
    have x0 := (HB.out.cell hw1).trans X0.out
    have x1 := (HB.out.cell hw1).trans X1.out
    have x2 := (HB.out.cell hw1).trans X2.out
    by_cases hlt : k < n
    · obtain ⟨b0, o0, rfl, bl0, q0⟩ := byte_at L0.out (by omega)
      obtain ⟨b1, o1, rfl, bl1, q1⟩ := byte_at L1.out (by omega)
      obtain ⟨b2, o2, rfl, bl2, q2⟩ := byte_at L2.out (by omega)
      have y0 := (HB.out.cell (p := ⟨b0, o0 + k, none⟩) bl0).trans (q0 k hlt)
      have y1 := (HB.out.cell (p := ⟨b1, o1 + k, none⟩) bl1).trans (q1 k hlt)
      have y2 := (HB.out.cell (p := ⟨b2, o2 + k, none⟩) bl2).trans (q2 k hlt)
      have z0b := bytes_getD (bs := xs') BX.out k
      have z1b := bytes_getD (bs := ys') BY.out k
      have z2b := bytes_getD (bs := zs') BZ.out k
      have htg := HTG.out k
      obtain ⟨z0, ez0⟩ : ∃ z, z = xs'.getD k 0 := ⟨_, rfl⟩
      obtain ⟨z1, ez1⟩ : ∃ z, z = ys'.getD k 0 := ⟨_, rfl⟩
      obtain ⟨z2, ez2⟩ : ∃ z, z = zs'.getD k 0 := ⟨_, rfl⟩
      rw [← ez0] at y0 z0b htg
      rw [← ez1] at y1 z1b htg
      rw [← ez2] at y2 z2b htg
      have r1 := xor8_nat z0b z1b
      have r1l : z0.toNat ^^^ z1.toNat < 256 := xor8_lt (by omega) (by omega)
      obtain ⟨t1, et1⟩ : ∃ t : Int, t = ((z0.toNat ^^^ z1.toNat : Nat) : Int) := ⟨_, rfl⟩
      rw [← et1] at r1 htg
      have r2 := xor8_nat (a := t1) (b := z2) (by omega) z2b
      rw [← htg] at r2
      obtain ⟨t2, et2⟩ : ∃ t : Int, t = T.getD k 0 := ⟨_, rfl⟩
      rw [← et2] at r2
      have ET := hide et2
      have g0 : (0 : Int) ≤ (k : Int) := by omega
      have g1 : (k : Int) < (n0 : Int) := by omega
      have g2 : (k : Int) < (n1 : Int) := by omega
      have g3 : (k : Int) < (n2 : Int) := by omega
      clear q0 q1 q2 ez0 ez1 ez2 et1 et2 htg r1l
      go_wp2_with fail
      go_region_held3 (fun w' => w'.cell? ⟨w.heap.size, 0, none⟩ = some (.slice (some ⟨b0, o0, none⟩) n0 c0) ∧ w'.cell? ⟨w.heap.size, 1, none⟩ = some (.slice (some ⟨b1, o1, none⟩) n1 c1) ∧ w'.cell? ⟨w.heap.size, 2, none⟩ = some (.slice (some ⟨b2, o2, none⟩) n2 c2) ∧ w'.cell? ⟨b0, o0 + k, none⟩ = some (.int .u8 z0) ∧ w'.cell? ⟨b1, o1 + k, none⟩ = some (.int .u8 z1) ∧ w'.cell? ⟨b2, o2 + k, none⟩ = some (.int .u8 z2))
        (first | (exact ⟨(hb5.cell hw1).trans x0, (hb5.cell hw1).trans x1, (hb5.cell hw1).trans x2, (hb5.cell (p := ⟨b0, o0 + k, none⟩) bl0).trans y0, (hb5.cell (p := ⟨b1, o1 + k, none⟩) bl1).trans y1, (hb5.cell (p := ⟨b2, o2 + k, none⟩) bl2).trans y2⟩) | (exact ⟨x0, x1, x2, y0, y1, y2⟩) | go_keep)
        (first | (refine step_append_held rfl (.tmp 28) (.tmp 46) 22 rfl 5 i0 (.int .u8 0) 1 1 Try.underlying22 HI.out HZ0.out HZ1.out HZ2.out rfl (by decide) w1.heap.size (.slice A k c) k (preV .u8 T k) rfl ((World.ownsRow.drew HR.out).alloc _) (Nat.le_trans hsr (by simp)) ⟨wr.heap.size, 0, none⟩ [.int .u8 t2] rfl rfl (cells_new wr.drew [.int .u8 t2] 5) (by simp [Value.oneCell']) (by omega) (by unfold maxLen; omega) ?_; intro g5 c5 w5 ho5 hg5; have hb5 : Below w1.heap.size wr w5 := below_own (((Below.refl w1.heap.size wr).drew).alloc hsr _) (Nat.le_trans hsr (by simp)) ((World.ownsRow.drew HR.out).alloc _) hg5 (Nat.le_refl _)))
      have HR5 : Hid (w5.ownsRow w1.heap.size 5 1 (.slice (some ⟨g5, 0, none⟩) (k + 1) c5) (k + 1) (preV .u8 T (k + 1))) := hide (by
        rw [preV_snoc _ _ _ (by rw [HTL.out]; exact hlt), ← ET.out]
        exact ho5)
      have HB5 := hide (HB.out.trans hb5)
      clear ho5 hg5 hb5 HR HB x0 x1 x2 y0 y1 y2 r1 r2
      go_wp2
      go_roundw
      case rel => exact ⟨k + 1, _, _, by omega, by go_num, rfl, HR5, HB5⟩
      case measure => simp [intOf]; omega
    · obtain rfl : k = n := by omega
      have LT : Hid (Lies wr A k (T.map (Value.int .u8))) := hide (by
        have := lies_of_own HR.out
        rwa [preV_all _ _ HTL.out] at this)
      have l0 := hide (L0.out.below HB.out)
      have l1 := hide (L1.out.below HB.out)
      have l2 := hide (L2.out.below HB.out)
      have p0 := sumOf_lt BX.out
      have p1 := sumOf_lt BY.out
      have p2 := sumOf_lt BZ.out
      have v1 := u32_xor_nat (sumOf xs') (sumOf ys') p0 p1
      have v2 := u32_xor_nat (sumOf xs' ^^^ sumOf ys') (sumOf zs') (xor_lt p0 p1) p2
      rw [← HSUM.out] at v2
      obtain ⟨s0, e0⟩ : ∃ s : Int, s = ((sumOf xs' : Nat) : Int) := ⟨_, rfl⟩
      obtain ⟨s1, e1⟩ : ∃ s : Int, s = ((sumOf ys' : Nat) : Int) := ⟨_, rfl⟩
      obtain ⟨s2, e2⟩ : ∃ s : Int, s = ((sumOf zs' : Nat) : Int) := ⟨_, rfl⟩
      obtain ⟨s3, e3⟩ : ∃ s : Int, s = ((sumOf T : Nat) : Int) := ⟨_, rfl⟩
      obtain ⟨s4, e4⟩ : ∃ s : Int, s = ((sumOf xs' ^^^ sumOf ys' : Nat) : Int) := ⟨_, rfl⟩
      rw [← e0, ← e1, ← e4] at v1
      rw [← e4, ← e2, ← e3] at v2
      have E0 := hide e0
      have E1 := hide e1
      have E2 := hide e2
      have E3 := hide e3
      have f0 : (0 : Int) ≤ (k : Int) := by omega
      have f1 : (k : Int) ≤ (c0 : Int) := by omega
      have f2 : (k : Int) ≤ (c1 : Int) := by omega
      have f3 : (k : Int) ≤ (c2 : Int) := by omega
      clear p0 p1 p2 e0 e1 e2 e3 e4
      go_wp2_with fail
      go_region_held3 (fun w' => w'.cell? ⟨w.heap.size, 0, none⟩ = some (.slice A0 n0 c0) ∧ w'.cell? ⟨w.heap.size, 1, none⟩ = some (.slice A1 n1 c1) ∧ w'.cell? ⟨w.heap.size, 2, none⟩ = some (.slice A2 n2 c2))
        (first | (exact ⟨cell_keep hb8 (cell_keep hb7 (cell_keep hb6 (cell_keep hb5 x0))), cell_keep hb8 (cell_keep hb7 (cell_keep hb6 (cell_keep hb5 x1))), cell_keep hb8 (cell_keep hb7 (cell_keep hb6 (cell_keep hb5 x2)))⟩) | (exact ⟨cell_keep hb7 (cell_keep hb6 (cell_keep hb5 x0)), cell_keep hb7 (cell_keep hb6 (cell_keep hb5 x1)), cell_keep hb7 (cell_keep hb6 (cell_keep hb5 x2))⟩) | (exact ⟨cell_keep hb6 (cell_keep hb5 x0), cell_keep hb6 (cell_keep hb5 x1), cell_keep hb6 (cell_keep hb5 x2)⟩) | (exact ⟨cell_keep hb5 x0, cell_keep hb5 x1, cell_keep hb5 x2⟩) | (exact ⟨x0, x1, x2⟩) | go_keep)
        (first | (go_at_call 10; refine Calls.mono (of_any A k c T _ (LT.out.drewN 1) HTB.out (Nat.le_trans h (by decide))) ?_; rw [← E3.out]; rintro e w5 ⟨rfl, hb5⟩) | (go_at_call 10; refine Calls.mono (of_any A0 k c0 xs' _ ((l0.out.drewN 1).below hb5) BX.out (Nat.le_trans h (by decide))) ?_; rw [← E0.out]; rintro e w6 ⟨rfl, hb6⟩) | (go_at_call 10; refine Calls.mono (of_any A1 k c1 ys' _ (((l1.out.drewN 1).below hb5).below hb6) BY.out (Nat.le_trans h (by decide))) ?_; rw [← E1.out]; rintro e w7 ⟨rfl, hb7⟩) | (go_at_call 10; refine Calls.mono (of_any A2 k c2 zs' _ ((((l2.out.drewN 1).below hb5).below hb6).below hb7) BZ.out (Nat.le_trans h (by decide))) ?_; rw [← E2.out]; rintro e w8 ⟨rfl, hb8⟩))
      have HBF := hide (bchain (bchain (bchain (bchain (bchain HB1.out HB.out).drew hb5) hb6) hb7) hb8)
      go_wp2
      go_ret
      exact ⟨rfl, HBF.out⟩
theorem three_law (A0 A1 A2 : Option Addr) (n0 n1 n2 c0 c1 c2 : Nat) (xs ys zs : List Int) (w : World) (hx : Lies w A0 n0 (xs.map (Value.int .u8))) (hy : Lies w A1 n1 (ys.map (Value.int .u8))) (hz : Lies w A2 n2 (zs.map (Value.int .u8)))
    (bx : ByteL xs) (by' : ByteL ys) (bz : ByteL zs) (k0 : n0 ≤ c0) (k1 : n1 ≤ c1) (k2 : n2 ≤ c2) (h0 : n0 ≤ 140737488355328) :
    Calls Try.prog 6 #[.agg #[.slice A0 n0 c0, .slice A1 n1 c1, .slice A2 n2 c2]] w fun e w' => e = .returned (.bool true) ∧ Below w.heap.size w w' := by
  by_cases h : min n0 (min n1 n2) ≤ 50000
  · exact three_walk A0 A1 A2 n0 n1 n2 c0 c1 c2 xs ys zs w hx hy hz bx by' bz k0 k1 k2 h
  · exact three_long A0 A1 A2 n0 n1 n2 c0 c1 c2 w (by omega) h0
end Go.Proofs.Ytpbdkmimdfkijaa
