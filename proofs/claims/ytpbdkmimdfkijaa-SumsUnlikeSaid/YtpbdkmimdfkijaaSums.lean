/- Contracts of On and Of, the program's and the document's: the checksum of the bytes; nothing that was there is changed. -/
import Derived.Test.YtpbdkmimdfkijaaTable
namespace Go.Proofs.Ytpbdkmimdfkijaa
open Go.RowKit

theorem xor_byte {x : Nat} {z : Int} (h : x < 4294967296) (h0 : 0 ≤ z) (h1 : z < 256) : bits .xor .u32 (x : Int) z = ((x ^^^ z.toNat : Nat) : Int) := by
  have := u32_xor_nat x z.toNat h (by omega)
  rwa [Int.toNat_of_nonneg h0] at this
theorem xor_word {x t : Nat} (h : x < 4294967296) (ht : t < 4294967296) : bits .xor .u32 ((x : Int) / 16) (t : Int) = ((x / 16 ^^^ t : Nat) : Int) := by
  have := u32_xor_nat (x / 16) t (by omega) ht
  simpa using this
theorem xor_max {x : Nat} (h : x < 4294967296) : bits .xor .u32 IntKind.u32.max (x : Int) = ((inv x : Nat) : Int) := by
  have := u32_xor_nat 4294967295 x (by omega) h
  rw [Nat.xor_comm] at this
  exact this
theorem table_cells (w1 : World) (t : TypeId) (j : Nat) (h : j < 16) : (w1.alloc (.cells tabF t)).cell? ⟨w1.heap.size, j, none⟩ = some (.int .u32 ((steps 4 j : Nat) : Int)) := by
  rw [cell_of_row _ _ j tabF t (0, 0) (heap_alloc_new w1 _), tab_word j h]

set_option maxRecDepth 100000 in
set_option maxHeartbeats 2000000 in
theorem on_any (s : Nat) (A : Option Addr) (n c : Nat) (zs : List Int) (w : World) (hs : s < 4294967296) (h : Lies w A n (zs.map (Value.int .u8))) (hz : ByteL zs) (hn : n ≤ 281474976710656) :
    Calls Try.prog 12 #[.int .u32 (s : Int), .slice A n c] w fun e w' => e = .returned (.int .u32 ((sumOn s zs : Nat) : Int)) ∧ Below w.heap.size w w' := by
  have HL := hide h
  have HZ := hide hz
  have HLEN : Hid (zs.length = n) := hide (by have := h.len; simpa using this)
  have hmax := xor_max hs
  have hinv := inv_lt hs
  clear h hz
  go_enter Try.func12, Try.ntmps12
  go_wp2_with fail
  refine Calls.mono (table_any _) ?_
  rintro e w1 ⟨rfl, hb1⟩
  have HB1 := hide hb1
  clear hb1
  unfold tabF
  go_wp2
  clear hmax
  refine (show Code.wp Try.prog _ _ _ (w1.alloc (.cells tabF 39)) from ?_)
  have HTC := hide (table_cells w1 39)
  have HL2 := hide ((HL.out.below HB1.out).alloc (.cells tabF 39))
  have HB2 := hide (HB1.out.alloc HB1.out.size (.cells tabF 39))
  generalize w1.alloc (.cells tabF 39) = w2 at HTC HL2 HB2 ⊢
  clear HL HB1
  go_loop [6, 14] (fun v i => ∃ k : Nat, k ≤ n ∧ i = .int .i64 k ∧ v = .int .u32 ((reg (inv s) (zs.take k) : Nat) : Int)) (fun _ i => n - (intOf i).toNat)
  case atStart => exact ⟨0, Nat.zero_le _, rfl, rfl⟩
  case round =>
    obtain ⟨k, hk, rfl, rfl⟩ := hrel
    have hx0lt : reg (inv s) (zs.take k) < 4294967296 := reg_lt hinv (fun z hz => HZ.out z (List.mem_of_mem_take hz))
    obtain ⟨x0, hx0⟩ : ∃ x, x = reg (inv s) (zs.take k) := ⟨_, rfl⟩
    rw [← hx0] at hx0lt ⊢
    have HX0 := hide hx0
    clear hx0
    by_cases hlt : k < n
    · obtain ⟨b, o, rfl, _, hx⟩ := byte_at HL2.out (by omega)
      obtain ⟨z, hz⟩ : ∃ z, z = zs.getD k 0 := ⟨_, rfl⟩
      have hc : w2.cell? ⟨b, o + k, none⟩ = some (.int .u8 z) := by rw [hz]; exact hx k hlt
      have hzb := bytes_getD (bs := zs) HZ.out k
      rw [← hz] at hzb
      obtain ⟨hz0, hz1⟩ := hzb
      have HZZ := hide hz
      clear hx hz
      have h1 := xor_byte hx0lt hz0 hz1
      have l1 : x0 ^^^ z.toNat < 4294967296 := xor_lt hx0lt (by omega)
      obtain ⟨x1, e1⟩ : ∃ x, x = x0 ^^^ z.toNat := ⟨_, rfl⟩
      rw [← e1] at h1 l1
      have h2 := and_fifteen l1
      have h3 := HTC.out (x1 % 16) (by omega)
      have l3 := steps_lt 4 (r := x1 % 16) (by omega)
      have h4 := xor_word l1 l3
      have l4 : x1 / 16 ^^^ steps 4 (x1 % 16) < 4294967296 := xor_lt (by omega) l3
      have e8 := steps_eight x1
      have hy1 : (x1 % 16) < 16 := by omega
      obtain ⟨y1, ey1⟩ : ∃ y, y = x1 % 16 := ⟨_, rfl⟩
      rw [← ey1] at h2 h3 h4 l3 l4 e8 hy1
      obtain ⟨t1, et1⟩ : ∃ t, t = steps 4 y1 := ⟨_, rfl⟩
      rw [← et1] at h3 h4 l3 l4 e8
      obtain ⟨x2, e2⟩ : ∃ x, x = x1 / 16 ^^^ t1 := ⟨_, rfl⟩
      rw [← e2] at h4 l4 e8
      have h5 := and_fifteen l4
      have h6 := HTC.out (x2 % 16) (by omega)
      have l6 := steps_lt 4 (r := x2 % 16) (by omega)
      have h7 := xor_word l4 l6
      have hy2 : (x2 % 16) < 16 := by omega
      obtain ⟨y2, ey2⟩ : ∃ y, y = x2 % 16 := ⟨_, rfl⟩
      rw [← ey2] at h5 h6 h7 l6 e8 hy2
      obtain ⟨t2, et2⟩ : ∃ t, t = steps 4 y2 := ⟨_, rfl⟩
      rw [← et2] at h6 h7 l6 e8
      obtain ⟨x3, e3⟩ : ∃ x, x = x2 / 16 ^^^ t2 := ⟨_, rfl⟩
      rw [← e3] at h7 e8
      have HEND : Hid (reg (inv s) (zs.take (k + 1)) = x3) := hide (by rw [reg_snoc _ _ _ (by rw [HLEN.out]; exact hlt), ← HX0.out, ← HZZ.out, e8, e1]; rfl)
      have hy1' : (y1 : Int) < 16 := by omega
      have hy2' : (y2 : Int) < 16 := by omega
      have hy10 : 0 ≤ (y1 : Int) := by omega
      have hy20 : 0 ≤ (y2 : Int) := by omega
      clear e1 e2 e3 ey1 ey2 et1 et2 e8 HZZ HX0
      go_wp2
      go_round
      case rel => exact ⟨k + 1, by omega, by go_num, by rw [HEND.out]⟩
      case measure => simp [intOf]; omega
    · obtain rfl : k = n := by omega
      have hm := xor_max hx0lt
      go_wp2
      go_ret
      refine ⟨?_, HB2.out⟩
      have hall : zs.take k = zs := List.take_of_length_le (by rw [HLEN.out]; exact Nat.le_refl _)
      have hx := HX0.out
      rw [hall] at hx
      unfold sumOn
      rw [← hx]
      rfl

set_option maxRecDepth 100000 in
set_option maxHeartbeats 2000000 in
theorem ref_on (s : Nat) (A : Option Addr) (n c : Nat) (zs : List Int) (w : World) (hs : s < 4294967296) (h : Lies w A n (zs.map (Value.int .u8))) (hz : ByteL zs) (hn : n ≤ 281474976710656) :
    Calls Try.prog 13 #[.int .u32 (s : Int), .slice A n c] w fun e w' => e = .returned (.int .u32 ((sumOn s zs : Nat) : Int)) ∧ w = w' := by
  have HL2 := hide h
  have HZ := hide hz
  have HLEN : Hid (zs.length = n) := hide (by have := h.len; simpa using this)
  have hmax := xor_max hs
  have hinv := inv_lt hs
  clear h hz
  go_enter Try.func13, Try.ntmps13
  go_wp2
  clear hmax
  go_loop [5, 6] (fun v i => ∃ k : Nat, k ≤ n ∧ i = .int .i64 k ∧ v = .int .u32 ((reg (inv s) (zs.take k) : Nat) : Int)) (fun _ i => n - (intOf i).toNat)
  case atStart => exact ⟨0, Nat.zero_le _, rfl, rfl⟩
  case round =>
    obtain ⟨k, hk, rfl, rfl⟩ := hrel
    have hx0lt : reg (inv s) (zs.take k) < 4294967296 := reg_lt hinv (fun z hz => HZ.out z (List.mem_of_mem_take hz))
    obtain ⟨x0, hx0⟩ : ∃ x, x = reg (inv s) (zs.take k) := ⟨_, rfl⟩
    rw [← hx0] at hx0lt ⊢
    have HX0 := hide hx0
    clear hx0
    by_cases hlt : k < n
    · obtain ⟨b, o, rfl, _, hx⟩ := byte_at HL2.out (by omega)
      obtain ⟨z, hz⟩ : ∃ z, z = zs.getD k 0 := ⟨_, rfl⟩
      have hc : w.cell? ⟨b, o + k, none⟩ = some (.int .u8 z) := by rw [hz]; exact hx k hlt
      have hzb := bytes_getD (bs := zs) HZ.out k
      rw [← hz] at hzb
      obtain ⟨hz0, hz1⟩ := hzb
      have HZZ := hide hz
      clear hx hz
      have h1 := xor_byte hx0lt hz0 hz1
      have l1 : x0 ^^^ z.toNat < 4294967296 := xor_lt hx0lt (by omega)
      obtain ⟨x1, e1⟩ : ∃ x, x = x0 ^^^ z.toNat := ⟨_, rfl⟩
      rw [← e1] at h1 l1
      have HEND : Hid (reg (inv s) (zs.take (k + 1)) = steps 8 x1) := hide (by rw [reg_snoc _ _ _ (by rw [HLEN.out]; exact hlt), ← HX0.out, ← HZZ.out, e1]; rfl)
      clear e1 HZZ HX0
      go_wp2
      clear h1
      go_loop [5, 7] (fun v i => ∃ j : Nat, j ≤ 8 ∧ i = .int .i64 j ∧ v = .int .u32 ((steps j x1 : Nat) : Int)) (fun _ i => 8 - (intOf i).toNat)
      case atStart => exact ⟨0, Nat.zero_le _, rfl, rfl⟩
      case round =>
        obtain ⟨j, hj, rfl, rfl⟩ := hrel
        have hlt4 := steps_lt j l1
        obtain ⟨x, hx⟩ : ∃ x, x = steps j x1 := ⟨_, rfl⟩
        have hsn := steps_succ j x1
        rw [← hx] at hlt4 hsn ⊢
        have HSN := hide hsn
        have HX := hide hx
        clear hx hsn
        by_cases hjl : j < 8
        · rcases Nat.mod_two_eq_zero_or_one x with hm | hm
          · have hand : bits .and .u32 (x : Int) 1 = 0 := by rw [and_one hlt4, hm]; rfl
            have HE := hide (step_even hm)
            clear hm
            go_wp2
            go_round
            case rel => exact ⟨j + 1, by omega, by go_num, by rw [HSN.out, HE.out]; simp⟩
            case measure => simp [intOf]; omega
          · have hand : bits .and .u32 (x : Int) 1 = 1 := by rw [and_one hlt4, hm]; rfl
            have HE := hide (step_odd hm)
            have HXO := hide (xor_half hlt4)
            clear hm
            go_wp2
            go_round
            case rel => exact ⟨j + 1, by omega, by go_num, by rw [HSN.out, HE.out, HXO.out]⟩
            case measure => simp [intOf]; omega
        · obtain rfl : j = 8 := by omega
          go_wp2
          go_round
          case rel => exact ⟨k + 1, by omega, by go_num, by rw [HEND.out, HX.out]⟩
          case measure => simp [intOf]; omega
    · obtain rfl : k = n := by omega
      have hm := xor_max hx0lt
      go_wp2
      go_ret
      refine ⟨?_, rfl⟩
      have hall : zs.take k = zs := List.take_of_length_le (by rw [HLEN.out]; exact Nat.le_refl _)
      have hx := HX0.out
      rw [hall] at hx
      unfold sumOn
      rw [← hx]
      rfl

theorem of_any (A : Option Addr) (n c : Nat) (zs : List Int) (w : World) (h : Lies w A n (zs.map (Value.int .u8))) (hz : ByteL zs) (hn : n ≤ 281474976710656) :
    Calls Try.prog 10 #[.slice A n c] w fun e w' => e = .returned (.int .u32 ((sumOf zs : Nat) : Int)) ∧ Below w.heap.size w w' := by
  have HC : Hid _ := on_any 0 A n c zs w (by omega) h hz hn
  clear h hz
  go_enter Try.func10, Try.ntmps10
  go_wp2_with fail
  refine Calls.mono HC.out ?_
  rintro e w' ⟨rfl, hb⟩
  have HB := hide hb
  clear hb
  go_wp2
  go_ret
  exact ⟨rfl, HB.out⟩
theorem ref_of (A : Option Addr) (n c : Nat) (zs : List Int) (w : World) (h : Lies w A n (zs.map (Value.int .u8))) (hz : ByteL zs) (hn : n ≤ 281474976710656) :
    Calls Try.prog 11 #[.slice A n c] w fun e w' => e = .returned (.int .u32 ((sumOf zs : Nat) : Int)) ∧ w = w' := by
  have HC : Hid _ := ref_on 0 A n c zs w (by omega) h hz hn
  clear h hz
  go_enter Try.func11, Try.ntmps11
  go_wp2_with fail
  refine Calls.mono HC.out ?_
  rintro e w' ⟨rfl, rfl⟩
  go_wp2
  go_ret
  exact ⟨rfl, rfl⟩
end Go.Proofs.Ytpbdkmimdfkijaa
