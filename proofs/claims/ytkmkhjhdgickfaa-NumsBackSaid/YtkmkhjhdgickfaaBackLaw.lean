/- NumsBack holds for every number, list and bytes around: the walk of its Go text. -/
import Derived.Test.YtkmkhjhdgickfaaAlive
import Derived.Test.YtkmkhjhdgickfaaBack
import Derived.Test.YtkmkhjhdgickfaaFrame
import Derived.Test.YtkmkhjhdgickfaaBeyond
import Derived.Test.YtkmkhjhdgickfaaAppend
import Derived.Deep.RegionHeld3
namespace Go.Proofs.Ytkmkhjhdgickfaa
open Go.RowKit

set_option maxRecDepth 100000 in
set_option maxHeartbeats 1000000 in
theorem back_long (x : Int) (L A0 A1 : Option Addr) (m d k0 c0 k1 c1 : Nat) (w : World) (h : 4096 < m) :
    Calls Try.prog 3 #[.int .u32 x, .slice L m d, .agg #[.slice A0 k0 c0, .slice A1 k1 c1]] w fun e w' => e = .returned (.bool true) ∧ Below w.heap.size w w' := by
  go_enter Try.func3, Try.ntmps3
  go_wp2_with fail
  refine Calls.mono (alive_any _) ?_
  rintro e w1 ⟨rfl, hb1⟩
  have HB1 := hide (below_lit (Below.refl w.heap.size w) (Nat.le_refl _) hb1)
  have hs1 := HB1.out.size
  clear hb1
  go_wp2_with fail
  refine Calls.mono (alive_any w1) ?_
  rintro e w2 ⟨rfl, hb2⟩
  have HB2 := hide (HB1.out.trans (hb2.mono hs1))
  clear hb2
  go_wp2
  go_ret
  exact ⟨rfl, HB2.out⟩

theorem cell_keep {w w' : World} {p : Addr} {v : Value} (hb : Below w.heap.size w w') (h : w.cell? p = some v) : w'.cell? p = some v := (hb.cell (World.block_lt_of_cell? w p h)).trans h
theorem box_cells (w : World) (u v : Value) (t : TypeId) : (w.alloc (.cells #[u, v] t)).cell? ⟨w.heap.size, 0, none⟩ = some u ∧ (w.alloc (.cells #[u, v] t)).cell? ⟨w.heap.size, 1, none⟩ = some v := by
  have h := cells_new w [u, v] t
  have h0 := h 0 u rfl
  have h1 := h 1 v rfl
  rw [Addr.add_lit] at h0 h1
  exact ⟨h0, h1⟩

set_option maxRecDepth 100000 in
set_option maxHeartbeats 1000000 in
theorem back_beyond (x : Int) (L A0 A1 : Option Addr) (m d k0 c0 k1 c1 : Nat) (w : World) (h0 : k0 ≤ 140737488355328) (h1 : k1 ≤ 140737488355328) (hm : m ≤ 4096) (h : 1048576 < k0 + k1) :
    Calls Try.prog 3 #[.int .u32 x, .slice L m d, .agg #[.slice A0 k0 c0, .slice A1 k1 c1]] w fun e w' => e = .returned (.bool true) ∧ Below w.heap.size w w' := by
  go_enter Try.func3, Try.ntmps3
  go_wp2_with fail
  refine Calls.mono (alive_any _) ?_
  rintro e w1 ⟨rfl, hb1⟩
  have HB1 := hide (below_lit (Below.refl w.heap.size w) (Nat.le_refl _) hb1)
  have hs1 := HB1.out.size
  have x1 := cell_keep hb1 (box_cells w _ _ _).1
  have y1 := cell_keep hb1 (box_cells w _ _ _).2
  clear hb1
  go_wp2_with fail
  refine Calls.mono (still_below (beyond_yes _ 2 2 [(k0 : Int), (k1 : Int)] _ (lies_lit w1 .i64 [(k0 : Int), (k1 : Int)] 3) (by simp; omega) (by simp; omega) (by omega))) ?_
  rintro e w2 ⟨rfl, hb2⟩
  have HB2 := hide (below_lit HB1.out hs1 hb2)
  have hs2 := HB2.out.size
  clear hb2 x1 y1 HB1
  go_wp2_with fail
  refine Calls.mono (alive_any w2) ?_
  rintro e w3 ⟨rfl, hb3⟩
  have HB3 := hide (HB2.out.trans (hb3.mono hs2))
  clear hb3
  go_wp2
  go_ret
  exact ⟨rfl, HB3.out⟩

set_option maxRecDepth 100000 in
set_option maxHeartbeats 2000000 in
theorem back_main (x : Int) (L A0 A1 : Option Addr) (m d k0 c0 k1 c1 : Nat) (zs b0 b1 : List Int) (w : World) (hx : 0 ≤ x ∧ x < 4294967296)
    (hl : Lies w L m (zs.map (Value.int .i32))) (ha : Lies w A0 k0 (b0.map (Value.int .u8))) (hb : Lies w A1 k1 (b1.map (Value.int .u8))) (wz : Words zs) (w1' : Bytes b1) (hm : m ≤ 4096) (hk : k0 + k1 ≤ 1048576) :
    Calls Try.prog 3 #[.int .u32 x, .slice L m d, .agg #[.slice A0 k0 c0, .slice A1 k1 c1]] w fun e w' => e = .returned (.bool true) ∧ Below w.heap.size w w' := by
  have HL0 := hide hl
  have HA0 := hide ha
  have HC0 := hide hb
  have HZL : Hid (zs.length = m) := hide (by have := hl.len; simpa using this)
  clear hl ha hb
  go_enter Try.func3, Try.ntmps3
  go_wp2_with fail
  refine Calls.mono (alive_any _) ?_
  rintro e w1 ⟨rfl, hb1⟩
  have HB1 := hide (below_lit (Below.refl w.heap.size w) (Nat.le_refl _) hb1)
  have hs1 := HB1.out.size
  have x1 := cell_keep hb1 (box_cells w _ _ _).1
  have y1 := cell_keep hb1 (box_cells w _ _ _).2
  have HL1 := hide ((HL0.out.alloc _).below hb1)
  have HA1 := hide ((HA0.out.alloc _).below hb1)
  have HC1 := hide ((HC0.out.alloc _).below hb1)
  clear hb1 HL0 HA0 HC0
  go_wp2_with fail
  refine Calls.mono (still_below (beyond_no _ 2 2 [(k0 : Int), (k1 : Int)] _ (lies_lit w1 .i64 [(k0 : Int), (k1 : Int)] 3) (by simp) (by simp; omega) (by omega))) ?_
  rintro e w2 ⟨rfl, hb2⟩
  have HB2 := hide (below_lit HB1.out hs1 hb2)
  have hs2 := HB2.out.size
  have bl := (Below.refl w1.heap.size w1).alloc (Nat.le_refl _) (.cells #[.int .i64 (k0 : Int), .int .i64 (k1 : Int)] 3)
  have x2 := cell_keep hb2 (cell_keep bl x1)
  have y2 := cell_keep hb2 (cell_keep bl y1)
  have HL2 := hide ((HL1.out.alloc _).below hb2)
  have HA2 := hide ((HA1.out.alloc _).below hb2)
  have HC2 := hide ((HC1.out.alloc _).below hb2)
  clear hb2 x1 y1 HB1 bl HL1 HA1 HC1
  go_wp2_with fail
  refine Calls.mono (put4 A0 k0 c0 x _ w2 HA2.out (ints_oneCell _ _) (by omega)) ?_
  rintro e w3 ⟨rfl, ho3, hb3⟩
  have HP3 := hide (Lies.own ho3)
  have HB3 := hide (HB2.out.trans (hb3.mono hs2))
  have hs3 := HB3.out.size
  have x3 := cell_keep hb3 x2
  have y3 := cell_keep hb3 y2
  have HL3 := hide (HL2.out.below hb3)
  have HA3 := hide (HA2.out.below hb3)
  have HC3 := hide (HC2.out.below hb3)
  clear ho3 hb3 x2 y2 HB2 HL2 HA2 HC2
  go_wp2_with fail
  have hcall := putList A0 L k0 c0 m d _ zs w3 HA3.out (ints_oneCell _ _) HL3.out (by omega) (by omega)
  obtain ⟨T, hT⟩ : ∃ T, T = 4 * (1 + m) := ⟨_, rfl⟩
  rw [← hT] at hcall
  have hT4 : 4 ≤ T := by omega
  have hT5 : T ≤ 16388 := by omega
  have hT0 : ¬ T = 0 := by omega
  have HT := hide hT
  clear hT
  refine Calls.mono hcall ?_
  rintro e w4 ⟨rfl, ho4, hb4⟩
  clear hcall
  have HQ4 := hide (Lies.own ho4)
  have HP4 := hide (HP3.out.below hb4)
  have HB4 := hide (HB3.out.trans (hb4.mono hs3))
  have hs4 := HB4.out.size
  have x4 := cell_keep hb4 x3
  have y4 := cell_keep hb4 y3
  have HL4 := hide (HL3.out.below hb4)
  have HA4 := hide (HA3.out.below hb4)
  have HC4 := hide (HC3.out.below hb4)
  clear ho4 hb4 x3 y3 HB3 HL3 HA3 HC3 HP3
  have HP : Hid (Lies w4 (some ⟨w2.heap.size, 0, none⟩) k0 (b0.map (Value.int .u8))) := hide (by
    have h := HP4.out.take (k := k0) (by omega)
    rwa [List.take_left' HA4.out.len] at h)
  have HQ : Hid (Lies w4 (some ⟨w3.heap.size, 0, none⟩) k0 (b0.map (Value.int .u8))) := hide (by
    have h := HQ4.out.take (k := k0) (by omega)
    rwa [List.take_left' HA4.out.len] at h)
  go_wp2_with fail
  have s1 : IntKind.i64.wrap ((k0 : Int) + 4) = (k0 : Int) + 4 := IntWalk.i64_in _ (by omega)
  have s2 : IntKind.i64.wrap (4 * (m : Int)) = 4 * (m : Int) := IntWalk.i64_in _ (by omega)
  have s3 : IntKind.i64.wrap ((k0 : Int) + 4 + 4 * (m : Int)) = (k0 : Int) + 4 + 4 * (m : Int) := IntWalk.i64_in _ (by omega)
  have t2 : ((k0 : Int) + (T : Int) != (k0 : Int) + 4 + 4 * (m : Int)) = false := by have := HT.out; simp; omega
  have p1 : (0 : Int) ≤ (k0 : Int) := by omega
  have p2 : (k0 : Int) ≤ (k0 : Int) + 4 := by omega
  have p3 : (k0 : Int) ≤ (k0 : Int) + (T : Int) := by omega
  go_quiet ((go_at_call 11; exact Calls.quiet_of (same_u8 _ _ _ _ _ b0 _ (by first | exact HP.out.drewN _ | exact HQ.out.drewN _) (HA4.out.drewN _) (by omega))))
  clear s1 s2 s3 t2 p2 p3 HP HQ HA4
  go_wp2_with fail
  obtain ⟨w5, hw5⟩ : ∃ w5, w5 = w4.drewN nq := ⟨_, rfl⟩
  rw [← hw5]
  have x5 : w5.cell? ⟨w.heap.size, 0, none⟩ = some (.slice A0 k0 c0) := by rw [hw5]; exact x4
  have y5 : w5.cell? ⟨w.heap.size, 1, none⟩ = some (.slice A1 k1 c1) := by rw [hw5]; exact y4
  have HP5 : Hid (Lies w5 (some ⟨w2.heap.size, 0, none⟩) (k0 + 4) (b0.map (Value.int .u8) ++ encV [x])) := by rw [hw5]; exact HP4.out.drewN nq
  have HQ5 : Hid (Lies w5 (some ⟨w3.heap.size, 0, none⟩) (k0 + T) (b0.map (Value.int .u8) ++ encV ((m : Int) :: zs))) := by rw [hw5]; exact HQ4.out.drewN nq
  have HL5 : Hid (Lies w5 L m (zs.map (Value.int .i32))) := by rw [hw5]; exact HL4.out.drewN nq
  have HC5 : Hid (Lies w5 A1 k1 (b1.map (Value.int .u8))) := by rw [hw5]; exact HC4.out.drewN nq
  have HB5 : Hid (Below w.heap.size w w5) := by rw [hw5]; exact below_drewN HB4.out nq
  have hs5 := HB5.out.size
  clear hw5 x4 y4 HP4 HQ4 HL4 HC4 HB4 hs4
  have q1 : ¬ (k0 + 4 = k0) := by omega
  have q2 : (k0 : Int) ≤ (k0 : Int) + 4 := by omega
  have HD5 : Hid (Lies w5 (some ⟨w2.heap.size, k0, none⟩) 4 (encV [x])) := hide (by
    have h := HP5.out.drop (k := k0) (cap := k0 + 4) (by omega) (Nat.le_refl _)
    rw [if_neg (by omega), List.drop_left' (by have := HC5.out.len; have := HP5.out.len; rw [List.length_append, encV_len] at this; simp at this; simp; omega), Nat.add_sub_cancel_left] at h
    simpa [Addr.add_lit] using h)
  obtain ⟨i0, hi, hz0, hz1, hz2⟩ := info_parts Try.infoB
  have HI := hide hi
  have HZ0 := hide hz0
  have HZ1 := hide hz1
  have HZ2 := hide hz2
  clear hi hz0 hz1 hz2
  have HB4x := hide (bytes_append (four_bytes x) w1')
  have HHX := hide (head4_four x b1 hx.1 hx.2)
  have lt5 := World.block_lt_of_cell? w5 _ y5
  go_region_held3 (fun w' => w'.cell? ⟨w.heap.size, 1, none⟩ = some (.slice A1 k1 c1))
    (first | go_keep | (exact (hb6.cell lt5).trans y5) | (exact (hb7.cell (Nat.lt_of_lt_of_le lt5 hb6.size)).trans ((hb6.cell lt5).trans y5)))
    (first
      | (go_at_call 12; refine Calls.mono (quiet_below (get4_long _ _ _ (four x ++ b1) _ (by omega) HP6.out HB4x.out)) ?_; rw [HHX.out]; rintro e w7 ⟨rfl, hb7⟩)
      | (refine step_append_full rfl (.tmp 81) (.tmp 83) 24 rfl 5 i0 (.int .u8 0) 1 Try.underlying24 HI.out HZ0.out HZ1.out HZ2.out rfl w2.heap.size k0 4 (encV [x]) rfl (HD5.out.drewN 1) A1 k1 c1 (b1.map (Value.int .u8)) rfl (HC5.out.drewN 1) (by omega) (by unfold maxLen; omega) ?_; intro A6 c6 w6 hc6 hl6 hb6; have HP6 : Hid (Lies w6 A6 (4 + k1) ((four x ++ b1).map (Value.int .u8))) := hide (by rw [List.map_append]; simpa [encV, enc] using hl6)))
  have hb67 : Below w5.heap.size w5 w7 := ((below_drewN (Below.refl w5.heap.size w5) 1).trans hb6).trans (hb7.mono hb6.size)
  have y7 := cell_keep hb67 y5
  have HQ7 := hide (HQ5.out.below hb67)
  have HL7 := hide (HL5.out.below hb67)
  have HC7 := hide (HC5.out.below hb67)
  have HB7 := hide (HB5.out.trans (hb67.mono hs5))
  have hs7 := HB7.out.size
  clear hb67 x5 y5 HP5 HQ5 HL5 HC5 HB5 hs5 HD5 hc6 hl6 hb6 HP6 hb7 HB4x HHX lt5 q1 q2
  go_wp2_with fail
  have HD7 : Hid (Lies w7 (some ⟨w3.heap.size, k0, none⟩) T (encV ((m : Int) :: zs))) := hide (by
    have h := HQ7.out.drop (k := k0) (cap := k0 + T) (by omega) (Nat.le_refl _)
    have hl := HQ7.out.len
    rw [List.length_append, encV_len, List.length_cons, HZL.out] at hl
    have hT := HT.out
    rw [if_neg (by omega), List.drop_left' (by omega), Nat.add_sub_cancel_left] at h
    simpa [Addr.add_lit] using h)
  have HB4x := hide (bytes_append (four_bytes (m : Int)) (bytes_append (enc_bytes zs) w1'))
  have HHX := hide (head4_four (m : Int) (enc zs ++ b1) (by omega) (by omega))
  have lt7 := World.block_lt_of_cell? w7 _ y7
  have q1 : ¬ (k0 + T = k0) := by omega
  have q2 : (k0 : Int) ≤ (k0 : Int) + (T : Int) := by omega
  go_region_held3 (fun w' => w'.cell? ⟨w.heap.size, 1, none⟩ = some (.slice A1 k1 c1))
    (first | go_keep | (exact (hb8.cell lt7).trans y7) | (exact (hb9.cell (Nat.lt_of_lt_of_le lt7 hb8.size)).trans ((hb8.cell lt7).trans y7)))
    (first
      | (go_at_call 13; refine Calls.mono (getList_ok _ (T + k1) _ m (four (m : Int) ++ (enc zs ++ b1)) _ hc8 HP8.out HB4x.out HHX.out hm (by have := HT.out; omega) (by omega)) ?_; rintro e w9 ⟨rfl, ho9, hb9⟩)
      | (refine step_append_full rfl (.tmp 91) (.tmp 93) 24 rfl 5 i0 (.int .u8 0) 1 Try.underlying24 HI.out HZ0.out HZ1.out HZ2.out rfl w3.heap.size k0 T (encV ((m : Int) :: zs)) rfl (HD7.out.drewN 1) A1 k1 c1 (b1.map (Value.int .u8)) rfl (HC7.out.drewN 1) (by omega) (by unfold maxLen; omega) ?_; intro A8 c8 w8 hc8 hl8 hb8; have HP8 : Hid (Lies w8 A8 (T + k1) ((four (m : Int) ++ (enc zs ++ b1)).map (Value.int .u8))) := hide (by rw [← List.append_assoc, List.map_append]; exact hl8)))
  have hb89 : Below w7.heap.size w7 w9 := ((below_drewN (Below.refl w7.heap.size w7) 1).trans hb8).trans (hb9.mono hb8.size)
  have HR9 : Hid (Lies w9 (some ⟨w8.heap.size, 0, none⟩) m (zs.map (Value.int .i32))) := hide (by
    have h := Lies.own ho9
    have hd := dec_enc zs b1 wz
    rw [HZL.out] at hd
    rwa [drop_four, hd] at h)
  have HL9 := hide (HL7.out.below hb89)
  have HB9 := hide (HB7.out.trans (hb89.mono hs7))
  have hs9 := HB9.out.size
  clear hb89 y7 HQ7 HL7 HC7 HB7 hs7 HD7 hc8 hl8 hb8 HP8 hb9 ho9 HB4x HHX lt7 q1 q2
  have t3 : (4 * (1 + (m : Int)) == (k0 : Int) + (T : Int) - (k0 : Int)) = true := by have := HT.out; simp; omega
  have t4 : (4 * (1 + (m : Int)) == (T : Int)) = true := by have := HT.out; simp; omega
  go_wp2_with fail
  refine Calls.mono (quiet_below (same_i32 _ _ m _ _ zs w9 HR9.out HL9.out (by omega))) ?_
  rintro e w10 ⟨rfl, hb10⟩
  have HB10 := hide (HB9.out.trans (hb10.mono hs9))
  clear hb10 HR9 HL9 HB9
  go_wp2
  go_ret
  exact ⟨rfl, HB10.out⟩

theorem back_any (x : Int) (L A0 A1 : Option Addr) (m d k0 c0 k1 c1 : Nat) (zs b0 b1 : List Int) (w : World) (hx : (Lit.int .u32 x).wf = true)
    (hl : Lies w L m (zs.map (Value.int .i32))) (ha : Lies w A0 k0 (b0.map (Value.int .u8))) (hb : Lies w A1 k1 (b1.map (Value.int .u8)))
    (fz : ∀ z ∈ zs, (Lit.int .i32 z).wf = true) (f1 : ∀ z ∈ b1, (Lit.int .u8 z).wf = true) (h0 : k0 ≤ 140737488355328) (h1 : k1 ≤ 140737488355328) :
    Calls Try.prog 3 #[.int .u32 x, .slice L m d, .agg #[.slice A0 k0 c0, .slice A1 k1 c1]] w fun e w' => e = .returned (.bool true) ∧ Below w.heap.size w w' := by
  by_cases hm : 4096 < m
  · exact back_long x L A0 A1 m d k0 c0 k1 c1 w hm
  · by_cases hk : 1048576 < k0 + k1
    · exact back_beyond x L A0 A1 m d k0 c0 k1 c1 w h0 h1 (by omega) hk
    · exact back_main x L A0 A1 m d k0 c0 k1 c1 zs b0 b1 w (fits_u32 hx) hl ha hb (fun z hz => fits_i32 (fz z hz)) (fun z hz => fits_u8 (f1 z hz)) (by omega) (by omega)
end Go.Proofs.Ytkmkhjhdgickfaa
