/- Contract of the statements' own helper alive of layer 3: the document's own examples come out as it says. -/
import Derived.Test.YtphfakjodddilaaDiskDoes
import Derived.Lib.SmallJoins
namespace Go.Proofs.Ytphfakjodddilaa
open Go.RowKit
set_option linter.unusedSimpArgs false
set_option linter.unusedVariables false

def z2 : List Sec := [zeroSec, zeroSec]
def pa : List Wr := [⟨0, padB [97], false⟩]
def pb : List Wr := [⟨0, padB [97], true⟩, ⟨0, padB [98], false⟩]
def zb : List Sec := [⟨zeros64, true⟩, zeroSec]
theorem lies_one (w : World) (z : Int) (fr : Nat × Nat) : Lies (w.alloc (.cells #[.int .u8 z] 5 fr)) (some ⟨w.heap.size, 0, none⟩) 1 ([z].map (Value.int .u8)) := by
  refine ⟨rfl, fun _ => ⟨w.heap.size, 0, rfl, by simp, fun j hj => ?_⟩⟩
  obtain rfl : j = 0 := by omega
  rw [Nat.zero_add, World.cell?_alloc_mark]
  simp
theorem make65 (w : World) : (Instr.makeSlice 22 (.int .i64 65) (.int .i64 65)).run Try.prog w = .ok (.slice (some ⟨w.heap.size, 0, none⟩) 65 65) (w.alloc (.cells (madeCells #[.int .u8 0] 65) 5)) := by
  obtain ⟨i0, hi, hz0, hz1, hz2⟩ := info_parts Try.infoB
  have hr := run_make (P := Try.prog) w 22 5 i0 (.int .u8 0) Try.underlying22 hi hz0 .i64 .i64 65 65 (by omega) (by omega) (by rw [hz2]; omega) (by omega)
  rw [hr, hz1]
  rfl
theorem lies65 (w : World) : Lies (w.alloc (.cells (madeCells #[.int .u8 0] 65) 5)) (some ⟨w.heap.size, 0, none⟩) 65 ((List.replicate 65 (0 : Int)).map (Value.int .u8)) := by
  have e : madeCells #[.int .u8 0] 65 = ((List.replicate 65 (0 : Int)).map (Value.int .u8)).toArray := by
    apply Array.toList_inj.1
    rw [toList_madeCells_one]
    simp
  rw [e]
  refine ⟨by simp, fun _ => ⟨w.heap.size, 0, rfl, by simp, fun j hj => ?_⟩⟩
  rw [cell_of_row _ _ _ _ _ _ (heap_alloc_new w _)]
  simp
set_option maxRecDepth 100000 in
set_option maxHeartbeats 4000000 in
theorem alive3_any (w : World) : Calls Try.prog 20 #[] w fun e w' => e = .returned (.bool true) ∧ Below w.heap.size w w' := by
  have HN := hide (k_new (B := w.heap.size) (l := []) 2 w Ks.nil (Nat.le_refl _) (by omega) (by omega))
  have hmk := make65
  go_enter Try.func20, Try.ntmps20
  go_wp2_with fail
  refine Calls.mono HN.out ?_
  rintro e w0 ⟨g, rfl, hk, hb⟩
  have HK0 : Hid (Ks w.heap.size w0 [⟨g, z2, []⟩]) := hide hk
  have HB0 := hide hb
  have hs0 := hb.size
  clear hk hb HN
  have hcv := Go.Joins.run_convert_bytes_const_at (P := Try.prog) w0 22 5 #[.int .u8 97] 1 1 w0.heap.size rfl Try.underlying22 Try.underlying5
  go_wp2_with fail
  clear hcv
  refine Calls.mono (k_write (a := []) (b := []) (k := ⟨g, z2, []⟩) 0 (some ⟨w0.heap.size, 0, none⟩) 1 1 [97] _ (HK0.out.alloc _) (lies_one w0 97 _) (by decide) (Nat.le_of_ble_eq_true rfl)) ?_
  rintro e w1 ⟨rfl, hk, hb⟩
  have HK1 : Hid (Ks w.heap.size w1 [⟨g, z2, pa⟩]) := hide hk
  have HB1 : Hid (Below w.heap.size w w1) := hide ((HB0.out.alloc hs0 _).trans hb)
  have hs1 := HB1.out.size
  rw [show errI (wrOk z2.length 0 1) = 0 from rfl]
  clear hk hb HK0 HB0 hs0
  go_wp2_with fail
  refine Calls.mono (k_waits (a := []) (b := []) (k := ⟨g, z2, pa⟩) _ HK1.out) ?_
  rintro e w9 ⟨rfl, rfl⟩
  have hcv := Go.Joins.run_convert_bytes_const_at (P := Try.prog) w1 22 5 #[.int .u8 97] 1 1 w1.heap.size rfl Try.underlying22 Try.underlying5
  go_wp2_with fail
  clear hcv
  refine Calls.mono (k_write (a := []) (b := []) (k := ⟨g, z2, pa⟩) 2 (some ⟨w1.heap.size, 0, none⟩) 1 1 [97] _ (HK1.out.alloc _) (lies_one w1 97 _) (by decide) (Nat.le_of_ble_eq_true rfl)) ?_
  rintro e w2 ⟨rfl, hk, hb⟩
  have HK2 : Hid (Ks w.heap.size w2 [⟨g, z2, pa⟩]) := hide hk
  have HB2 : Hid (Below w.heap.size w w2) := hide ((HB1.out.alloc hs1 _).trans hb)
  have hs2 := HB2.out.size
  rw [show errI (wrOk z2.length 2 1) = 1 from rfl]
  clear hk hb HK1 HB1 hs1
  go_wp2_with fail
  refine Calls.mono (k_write (a := []) (b := []) (k := ⟨g, z2, pa⟩) 0 (some ⟨w2.heap.size, 0, none⟩) 65 65 (List.replicate 65 (0 : Int)) _ (HK2.out.alloc _) (lies65 w2) (by decide) (Nat.le_of_ble_eq_true rfl)) ?_
  rintro e w3 ⟨rfl, hk, hb⟩
  have HK3 : Hid (Ks w.heap.size w3 [⟨g, z2, pa⟩]) := hide hk
  have HB3 : Hid (Below w.heap.size w w3) := hide ((HB2.out.alloc hs2 _).trans hb)
  have hs3 := HB3.out.size
  rw [show errI (wrOk z2.length 0 65) = 1 from rfl]
  clear hk hb HK2 HB2 hs2
  go_wp2_with fail
  refine Calls.mono (first_any (a := []) (b := []) (k := ⟨g, z2, pa⟩) 0 _ HK3.out (Nat.le_of_ble_eq_true rfl)) ?_
  rintro e w4 ⟨rfl, hb⟩
  have HK4 : Hid (Ks w.heap.size w4 [⟨g, z2, pa⟩]) := hide (HK3.out.below hb)
  have HB4 : Hid (Below w.heap.size w w4) := hide (HB3.out.trans (hb.mono hs3))
  have hs4 := HB4.out.size
  rw [show firstI (secAt (⟨g, z2, pa⟩ : Dk).seen 0) = 97 from (show firstI (secAt (seenOf z2 pa) 0) = 97 from by decide +kernel)]
  clear hb HK3 HB3 hs3
  go_wp2_with fail
  refine Calls.mono (left_any (a := []) (b := []) (k := ⟨g, z2, pa⟩) 0 (-1) _ HK4.out (by omega) (Nat.le_of_ble_eq_true rfl)) ?_
  rintro e w5 ⟨g1, rfl, hk, hb⟩
  have HK5 : Hid (Ks w.heap.size w5 [⟨g1, (leftOf 0 (-1) z2 pa), []⟩, ⟨g, z2, pa⟩]) := hide hk
  have HB5 : Hid (Below w.heap.size w w5) := hide (HB4.out.trans (hb.mono hs4))
  have hs5 := HB5.out.size
  clear hk hb HK4 HB4 hs4
  go_wp2_with fail
  refine Calls.mono (first_any (a := []) (b := [⟨g, z2, pa⟩]) (k := ⟨g1, (leftOf 0 (-1) z2 pa), []⟩) 0 _ HK5.out (Nat.le_of_ble_eq_true rfl)) ?_
  rintro e w6 ⟨rfl, hb⟩
  have HK6 : Hid (Ks w.heap.size w6 [⟨g, z2, pa⟩]) := hide ((HK5.out.below hb).drop)
  have HB6 : Hid (Below w.heap.size w w6) := hide (HB5.out.trans (hb.mono hs5))
  have hs6 := HB6.out.size
  rw [show firstI (secAt (⟨g1, (leftOf 0 (-1) z2 pa), []⟩ : Dk).seen 0) = 0 from (show firstI (secAt (seenOf (leftOf 0 (-1) z2 pa) []) 0) = 0 from by decide +kernel)]
  clear hb HK5 HB5 hs5
  go_wp2_with fail
  refine Calls.mono (left_any (a := []) (b := []) (k := ⟨g, z2, pa⟩) 1 (-1) _ HK6.out (by omega) (Nat.le_of_ble_eq_true rfl)) ?_
  rintro e w7 ⟨g2, rfl, hk, hb⟩
  have HK7 : Hid (Ks w.heap.size w7 [⟨g2, (leftOf 1 (-1) z2 pa), []⟩, ⟨g, z2, pa⟩]) := hide hk
  have HB7 : Hid (Below w.heap.size w w7) := hide (HB6.out.trans (hb.mono hs6))
  have hs7 := HB7.out.size
  clear hk hb HK6 HB6 hs6
  go_wp2_with fail
  refine Calls.mono (first_any (a := []) (b := [⟨g, z2, pa⟩]) (k := ⟨g2, (leftOf 1 (-1) z2 pa), []⟩) 0 _ HK7.out (Nat.le_of_ble_eq_true rfl)) ?_
  rintro e w8 ⟨rfl, hb⟩
  have HK8 : Hid (Ks w.heap.size w8 [⟨g, z2, pa⟩]) := hide ((HK7.out.below hb).drop)
  have HB8 : Hid (Below w.heap.size w w8) := hide (HB7.out.trans (hb.mono hs7))
  have hs8 := HB8.out.size
  rw [show firstI (secAt (⟨g2, (leftOf 1 (-1) z2 pa), []⟩ : Dk).seen 0) = 97 from (show firstI (secAt (seenOf (leftOf 1 (-1) z2 pa) []) 0) = 97 from by decide +kernel)]
  clear hb HK7 HB7 hs7
  go_wp2_with fail
  refine Calls.mono (k_bad (a := []) (b := []) (k := ⟨g, z2, pa⟩) 0 _ HK8.out (Nat.le_of_ble_eq_true rfl)) ?_
  rintro e w9 ⟨rfl, hk, hb⟩
  have HK9 : Hid (Ks w.heap.size w9 [⟨g, zb, [⟨0, padB [97], true⟩]⟩]) := hide hk
  have HB9 : Hid (Below w.heap.size w w9) := hide (HB8.out.trans hb)
  have hs9 := HB9.out.size
  rw [show errI (badOk z2.length 0) = 0 from rfl]
  clear hk hb HK8 HB8 hs8
  go_wp2_with fail
  refine Calls.mono (k_read (a := []) (b := []) (k := ⟨g, zb, [⟨0, padB [97], true⟩]⟩) 0 _ HK9.out (Nat.le_of_ble_eq_true rfl) ⟨padB [97], true⟩ rfl) ?_
  rintro e w10 ⟨rfl, rfl⟩
  have HK10 := hide (HK9.out.alloc (.cells (secV ⟨padB [97], true⟩).toArray 64))
  have HB10 := hide (HB9.out.alloc hs9 (.cells (secV ⟨padB [97], true⟩).toArray 64))
  unfold rdV rdE
  generalize w9.alloc (.cells (secV ⟨padB [97], true⟩).toArray 64) = w10 at HK10 HB10 ⊢
  have hs10 := HB10.out.size
  clear HK9 HB9 hs9
  go_wp2_with fail
  refine Calls.mono (new_bad 0 _ (by omega)) ?_
  rintro e w99 ⟨rfl, rfl⟩
  go_wp2_with fail
  refine Calls.mono (new_bad 16385 _ (by omega)) ?_
  rintro e w99 ⟨rfl, rfl⟩
  have hcv := Go.Joins.run_convert_bytes_const_at (P := Try.prog) w10 22 5 #[.int .u8 98] 1 1 w10.heap.size rfl Try.underlying22 Try.underlying5
  go_wp2_with fail
  clear hcv
  refine Calls.mono (k_write (a := []) (b := []) (k := ⟨g, zb, [⟨0, padB [97], true⟩]⟩) 0 (some ⟨w10.heap.size, 0, none⟩) 1 1 [98] _ (HK10.out.alloc _) (lies_one w10 98 _) (by decide) (Nat.le_of_ble_eq_true rfl)) ?_
  rintro e w11 ⟨rfl, hk, hb⟩
  have HK11 : Hid (Ks w.heap.size w11 [⟨g, zb, pb⟩]) := hide hk
  have HB11 : Hid (Below w.heap.size w w11) := hide ((HB10.out.alloc hs10 _).trans hb)
  have hs11 := HB11.out.size
  rw [show errI (wrOk zb.length 0 1) = 0 from rfl]
  clear hk hb HK10 HB10 hs10
  go_wp2_with fail
  refine Calls.mono (first_any (a := []) (b := []) (k := ⟨g, zb, pb⟩) 0 _ HK11.out (Nat.le_of_ble_eq_true rfl)) ?_
  rintro e w12 ⟨rfl, hb⟩
  have HK12 : Hid (Ks w.heap.size w12 [⟨g, zb, pb⟩]) := hide (HK11.out.below hb)
  have HB12 : Hid (Below w.heap.size w w12) := hide (HB11.out.trans (hb.mono hs11))
  have hs12 := HB12.out.size
  rw [show firstI (secAt (⟨g, zb, pb⟩ : Dk).seen 0) = 98 from (show firstI (secAt (seenOf zb pb) 0) = 98 from by decide +kernel)]
  clear hb HK11 HB11 hs11
  go_wp2_with fail
  refine Calls.mono (left_any (a := []) (b := []) (k := ⟨g, zb, pb⟩) 1 (-1) _ HK12.out (by omega) (Nat.le_of_ble_eq_true rfl)) ?_
  rintro e w13 ⟨g3, rfl, hk, hb⟩
  have HK13 : Hid (Ks w.heap.size w13 [⟨g3, (leftOf 1 (-1) zb pb), []⟩, ⟨g, zb, pb⟩]) := hide hk
  have HB13 : Hid (Below w.heap.size w w13) := hide (HB12.out.trans (hb.mono hs12))
  have hs13 := HB13.out.size
  clear hk hb HK12 HB12 hs12
  go_wp2_with fail
  refine Calls.mono (first_any (a := []) (b := [⟨g, zb, pb⟩]) (k := ⟨g3, (leftOf 1 (-1) zb pb), []⟩) 0 _ HK13.out (Nat.le_of_ble_eq_true rfl)) ?_
  rintro e w14 ⟨rfl, hb⟩
  have HK14 : Hid (Ks w.heap.size w14 [⟨g, zb, pb⟩]) := hide ((HK13.out.below hb).drop)
  have HB14 : Hid (Below w.heap.size w w14) := hide (HB13.out.trans (hb.mono hs13))
  have hs14 := HB14.out.size
  rw [show firstI (secAt (⟨g3, (leftOf 1 (-1) zb pb), []⟩ : Dk).seen 0) = 256 from (show firstI (secAt (seenOf (leftOf 1 (-1) zb pb) []) 0) = 256 from by decide +kernel)]
  clear hb HK13 HB13 hs13
  go_wp2_with fail
  refine Calls.mono (left_any (a := []) (b := []) (k := ⟨g, zb, pb⟩) 2 (-1) _ HK14.out (by omega) (Nat.le_of_ble_eq_true rfl)) ?_
  rintro e w15 ⟨g4, rfl, hk, hb⟩
  have HK15 : Hid (Ks w.heap.size w15 [⟨g4, (leftOf 2 (-1) zb pb), []⟩, ⟨g, zb, pb⟩]) := hide hk
  have HB15 : Hid (Below w.heap.size w w15) := hide (HB14.out.trans (hb.mono hs14))
  have hs15 := HB15.out.size
  clear hk hb HK14 HB14 hs14
  go_wp2_with fail
  refine Calls.mono (first_any (a := []) (b := [⟨g, zb, pb⟩]) (k := ⟨g4, (leftOf 2 (-1) zb pb), []⟩) 0 _ HK15.out (Nat.le_of_ble_eq_true rfl)) ?_
  rintro e w16 ⟨rfl, hb⟩
  have HK16 : Hid (Ks w.heap.size w16 [⟨g, zb, pb⟩]) := hide ((HK15.out.below hb).drop)
  have HB16 : Hid (Below w.heap.size w w16) := hide (HB15.out.trans (hb.mono hs15))
  have hs16 := HB16.out.size
  rw [show firstI (secAt (⟨g4, (leftOf 2 (-1) zb pb), []⟩ : Dk).seen 0) = 98 from (show firstI (secAt (seenOf (leftOf 2 (-1) zb pb) []) 0) = 98 from by decide +kernel)]
  clear hb HK15 HB15 hs15
  go_wp2
  go_ret
  exact ⟨rfl, HB16.out⟩
end Go.Proofs.Ytphfakjodddilaa
