/- Contracts of GetFour and copyWithRoom. -/
import Derived.Test.YtaoobdnbjagpnaaGreatDoorRead
import Derived.Test.YtaoobdnbjagpnaaGreatDoorCells
import Derived.Laws.CopyOwn
namespace Go.Proofs.YtaoobdnbjagpnaaGreatDoor
open Go.RowKit

theorem get4_short (A : Option Addr) (n c : Nat) (w : World) (hn : n < 4) :
    Calls Tryz.prog 97 #[.slice A n c] w fun e w' => e = .returned (.tuple #[.int .u32 0, .int .i64 5]) ∧ w = w' := by
  go_enter Tryz.func97, Tryz.ntmps97
  go_wp2
  go_ret2
  exact ⟨rfl, rfl⟩

/-- The number that the first four bytes are. -/
def head4 (bs : List Int) : Int := word (bs.getD 0 0) (bs.getD 1 0) (bs.getD 2 0) (bs.getD 3 0)

theorem get4_long (A : Option Addr) (n c : Nat) (bs : List Int) (w : World) (hn : 4 ≤ n) (h : Lies w A n (bs.map (Value.int .u8))) (hb : Bytes bs) :
    Calls Tryz.prog 97 #[.slice A n c] w fun e w' => e = .returned (.tuple #[.int .u32 (head4 bs), .int .i64 0]) ∧ ∃ k, w' = w.drewN k := by
  obtain ⟨b, o, rfl, _, hx⟩ := byte_at h (by omega)
  have HC : Hid _ := read_u32 b o n c (bs.getD 0 0) (bs.getD 1 0) (bs.getD 2 0) (bs.getD 3 0) w hn (hx 0 (by omega)) (hx 1 (by omega)) (hx 2 (by omega)) (hx 3 (by omega)) (bytes_getD hb 0) (bytes_getD hb 1) (bytes_getD hb 2) (bytes_getD hb 3)
  clear hx h
  go_enter Tryz.func97, Tryz.ntmps97
  go_wp2_with fail
  refine Calls.mono HC.out ?_
  rintro e w' ⟨rfl, k, rfl⟩
  go_wp2
  go_ret2
  exact ⟨rfl, _, rfl⟩

/-- A row of zero bytes. -/
def zeroRow (m : Nat) : List Value := List.replicate m (.int .u8 0)
theorem zeroRow_len (m : Nat) : (zeroRow m).length = m := by simp [zeroRow]
theorem make_bytes (n k : Nat) (h : n + 4 * k ≤ 281474976710656) (w : World) :
    (Instr.makeSlice 56 (.int .i64 (n : Int)) (.int .i64 ((n : Int) + 4 * (k : Int)))).run Tryz.prog w = .ok (.slice (some ⟨w.heap.size, 0, none⟩) n (n + 4 * k)) (w.alloc (.cells (zeroRow (n + 4 * k)).toArray 5)) := by
  obtain ⟨i0, hi, hz0, hz1, hz2⟩ := info_parts Tryz.infoB
  have hr := run_make (P := Tryz.prog) w 56 5 i0 (.int .u8 0) Tryz.underlying56 hi hz0 .i64 .i64 (n : Int) ((n : Int) + 4 * (k : Int)) (by omega) (by omega) (by rw [hz2]; omega) (by omega)
  have e1 : ((n : Int) + 4 * (k : Int)).toNat = n + 4 * k := by omega
  rw [hr, e1, hz1]
  have e2 : (madeCells (Value.int .u8 0).cells ((n + 4 * k) * 1)) = (zeroRow (n + 4 * k)).toArray := by
    apply Array.toList_inj.1
    show (madeCells #[Value.int .u8 0] _).toList = _
    rw [toList_madeCells_one, Nat.mul_one]; rfl
  rw [e2]
  rfl

theorem splice_zero (Z xs : List Value) (h : xs.length ≤ Z.length) : (splice Z 0 xs).length = Z.length ∧ (splice Z 0 xs).take xs.length = xs :=
  ⟨length_splice Z 0 xs (by omega), by simp [splice]⟩

set_option maxHeartbeats 400000 in
theorem copy_room (A : Option Addr) (n c k : Nat) (xs : List Value) (w : World) (h : Lies w A n xs) (h1 : ∀ u ∈ xs, u.oneCell' = true) (hn : n + 4 * k ≤ 281474976710656) :
    Calls Tryz.prog 138 #[.slice A n c, .int .i64 (k : Int)] w fun e w' =>
      e = .returned (.slice (some ⟨w.heap.size, 0, none⟩) n (n + 4 * k)) ∧ w'.ownsRow w.heap.size 5 1 (.slice (some ⟨w.heap.size, 0, none⟩) n (n + 4 * k)) n xs ∧ Below w.heap.size w w' ∧ w.heap.size < w'.heap.size := by
  have hl := h.len
  have hmk := make_bytes n k hn
  have H1 := hide (heap_alloc_new w (.cells (zeroRow (n + 4 * k)).toArray 5))
  have H2 : Hid (xs.length = Nat.min n n) := show _ = _ by rw [hl]; exact (Nat.min_self n).symm
  have H3 : Hid (0 < xs.length → some (⟨w.heap.size, 0, none⟩ : Addr) = some ⟨w.heap.size, 0, none⟩ ∧ ∃ ad, A = some ad ∧ ∀ j v, xs[j]? = some v → (w.alloc (.cells (zeroRow (n + 4 * k)).toArray 5)).cell? (ad.add j) = some v) := fun hp => by
    obtain ⟨b, o, e, hb, hx⟩ := (h.alloc (.cells (zeroRow (n + 4 * k)).toArray 5)).cells (by omega)
    refine ⟨rfl, ⟨b, o, none⟩, e, fun j v hj => ?_⟩
    have hjn : j < n := by have := (List.getElem?_eq_some_iff.1 hj).1; omega
    rw [Addr.add_lit, hx j hjn, hj]
  have H4 : Hid (0 + xs.length ≤ (zeroRow (n + 4 * k)).length) := show _ ≤ _ by rw [zeroRow_len]; omega
  have H5 := hide ((Below.refl w.heap.size w).alloc (Nat.le_refl _) (.cells (zeroRow (n + 4 * k)).toArray 5))
  have HL := hide hl
  clear hl h
  go_enter Tryz.func138, Tryz.ntmps138
  go_wp2_with (with_reducible refine wpList_copy_splice rfl (.tmp 14) (.tmp 15) 56 56 rfl 5 Tryz.underlying56 Tryz.sizeB _ _ _ _ _ _ rfl rfl w.heap.size 0 (zeroRow (n + 4 * k)) 5 H1.out xs H2.out H3.out H4.out h1 w.heap.size w H5.out (Nat.le_refl _) ?_)
  intro w2 HG2 hB2
  go_wp2
  go_ret
  have hs := splice_zero (zeroRow (n + 4 * k)) xs (by have := H4.out; omega)
  refine ⟨rfl, own_of_block (Nat.le_refl _) HG2.out (by rw [hs.1, zeroRow_len]) (by omega) (by unfold maxLen; omega) (by have ht := hs.2; rw [HL.out] at ht; exact ht), hB2, lt_of_heap HG2.out⟩
end Go.Proofs.YtaoobdnbjagpnaaGreatDoor
