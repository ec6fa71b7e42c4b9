/- Contracts of the statements' own helpers of layer 2: alive (the document's own examples come out as it says) and four (a number's bytes, the lowest first). -/
import Derived.Test.YtpbdkmimdfkijaaSums
import Derived.Lib.SmallJoins
namespace Go.Proofs.Ytpbdkmimdfkijaa
open Go.RowKit

theorem lies_mark (w : World) (zs : List Int) (t : TypeId) (fr : Nat × Nat) : Lies (w.alloc (.cells (zs.map (Value.int .u8)).toArray t fr)) (some ⟨w.heap.size, 0, none⟩) zs.length (zs.map (Value.int .u8)) := by
  refine ⟨by simp, fun _ => ⟨w.heap.size, 0, rfl, by simp, fun j _ => ?_⟩⟩
  rw [Nat.zero_add, World.cell?_alloc_mark]
  simp
theorem lies_lit2 (w : World) (zs : List Int) (t : TypeId) : Lies (w.alloc (.cells (zs.map (Value.int .u8)).toArray t)) (some ⟨w.heap.size, 0, none⟩) zs.length (zs.map (Value.int .u8)) := lies_mark w zs t (0, 0)

set_option maxRecDepth 100000 in
set_option maxHeartbeats 1000000 in
theorem alive2_any (w : World) : Calls Try.prog 15 #[] w fun e w' => e = .returned (.bool true) ∧ Below w.heap.size w w' := by
  go_enter Try.func15, Try.ntmps15
  go_wp2_with fail
  refine Calls.mono (of_any none 0 0 [] _ Lies.nothing (by unfold ByteL; simp) (by omega)) ?_
  rw [show ((sumOf [] : Nat) : Int) = 0 from by decide]
  rintro e w1 ⟨rfl, hb1⟩
  have HB1 := hide hb1
  clear hb1
  go_wp2_with fail
  refine Calls.mono (on_any 7 none 0 0 [] _ (by omega) Lies.nothing (by unfold ByteL; simp) (by omega)) ?_
  rw [show ((sumOn 7 [] : Nat) : Int) = 7 from by decide]
  rintro e w2 ⟨rfl, hb2⟩
  have HB2 := hide (HB1.out.trans (hb2.mono HB1.out.size))
  clear hb2 HB1
  have hcv := Go.Joins.run_convert_bytes_const_at (P := Try.prog) w2 22 5 #[.int .u8 49, .int .u8 50, .int .u8 51, .int .u8 52, .int .u8 53, .int .u8 54, .int .u8 55, .int .u8 56, .int .u8 57] 9 9 w2.heap.size rfl Try.underlying22 Try.underlying5
  go_wp2_with fail
  clear hcv
  refine Calls.mono (of_any (some ⟨w2.heap.size, 0, none⟩) 9 9 [49, 50, 51, 52, 53, 54, 55, 56, 57] _ (lies_mark w2 [49, 50, 51, 52, 53, 54, 55, 56, 57] 5 _) (by unfold ByteL; decide) (by omega)) ?_
  rw [show ((sumOf [49, 50, 51, 52, 53, 54, 55, 56, 57] : Nat) : Int) = 3421780262 from by decide +kernel]
  rintro e w3 ⟨rfl, hb3⟩
  have HB3 := hide ((HB2.out.alloc HB2.out.size _).trans (hb3.mono (Nat.le_trans HB2.out.size (by simp))))
  clear hb3 HB2
  go_wp2
  go_ret
  exact ⟨rfl, HB3.out⟩

def fourV (n : Int) : List Value := (four n).map (Value.int .u8)
set_option maxHeartbeats 400000 in
theorem four2_any (n : Int) (h : 0 ≤ n ∧ n < 4294967296) (w : World) : Calls Try.prog 16 #[.int .u32 n] w fun e w' =>
    e = .returned (.slice (some ⟨w.heap.size, 0, none⟩) 4 4) ∧ w' = w.alloc (.cells (fourV n).toArray 5) := by
  obtain ⟨h0, h1⟩ := h
  have HE : Hid (fourV n = [.int .u8 (n % 256), .int .u8 (n / 256 % 256), .int .u8 (n / 65536 % 256), .int .u8 (n / 16777216)]) := hide (by
    unfold fourV four
    rw [show n / 16777216 % 256 = n / 16777216 by omega]
    rfl)
  go_enter Try.func16, Try.ntmps16
  go_wp2
  go_ret
  exact ⟨rfl, by rw [HE.out]⟩
theorem four_lies (n : Int) (w : World) (t : TypeId) : Lies (w.alloc (.cells (fourV n).toArray t)) (some ⟨w.heap.size, 0, none⟩) 4 (fourV n) := by
  have := lies_lit2 w (four n) t
  exact this
end Go.Proofs.Ytpbdkmimdfkijaa
