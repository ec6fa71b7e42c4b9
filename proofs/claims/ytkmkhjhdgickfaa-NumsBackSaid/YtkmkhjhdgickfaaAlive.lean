/- The contract of alive: the document's own examples come out as the document says; nothing that was there is changed. -/
import Derived.Test.YtkmkhjhdgickfaaSame
import Derived.Laws.BytesArg
namespace Go.Proofs.Ytkmkhjhdgickfaa
open Go.RowKit

theorem quiet_below {f : FuncId} {args : Array Value} {w : World} {E : Ending} (h : Calls Try.prog f args w fun e w' => e = E ∧ ∃ k, w' = w.drewN k) :
    Calls Try.prog f args w fun e w' => e = E ∧ Below w.heap.size w w' :=
  h.mono fun _ _ ⟨he, k, hk⟩ => ⟨he, by subst hk; exact below_drewN (Below.refl _ _) k⟩
theorem still_below {f : FuncId} {args : Array Value} {w : World} {E : Ending} (h : Calls Try.prog f args w fun e w' => e = E ∧ w = w') :
    Calls Try.prog f args w fun e w' => e = E ∧ Below w.heap.size w w' :=
  h.mono fun _ _ ⟨he, hk⟩ => ⟨he, by subst hk; exact Below.refl _ _⟩
/-- A literal of bytes, laid in a new block. -/
theorem lies_lit (w : World) (k : IntKind) (zs : List Int) (t : TypeId) : Lies (w.alloc (.cells (zs.map (Value.int k)).toArray t)) (some ⟨w.heap.size, 0, none⟩) zs.length (zs.map (Value.int k)) := by
  have h := lies_new w (zs.map (Value.int k)) t
  rwa [List.length_map] at h
theorem below_lit {B : Nat} {a w w' : World} {o : Obj} (h : Below B a w) (hB : B ≤ w.heap.size) (hb : Below (w.alloc o).heap.size (w.alloc o) w') : Below B a w' :=
  (h.alloc hB o).trans (hb.mono (by simp; omega))

theorem string_of (w : World) (g n c : Nat) (bs : List Int) (h : Lies w (some ⟨g, 0, none⟩) n (bs.map (Value.int .u8))) :
    (convert 24 9 (.slice (some ⟨g, 0, none⟩) n c)).run Try.prog w = .ok (.string (strOfNums bs)) w := by
  have hl : bs.length = n := by have := h.len; simpa using this
  refine run_convert_bytes_arg (P := Try.prog) w 24 5 Try.underlying24 Try.underlying5 g 0 n c bs hl (fun i hi => ?_) 9 Try.underlying9
  obtain ⟨b, o, e, _, hx⟩ := byte_at h (by omega)
  injection e with e
  injection e with e1 e2
  subst e1
  subst e2
  exact hx i hi

set_option maxRecDepth 100000 in
set_option maxHeartbeats 1000000 in
theorem alive_any (w : World) : Calls Try.prog 7 #[] w fun e w' => e = .returned (.bool true) ∧ Below w.heap.size w w' := by
  go_enter Try.func7, Try.ntmps7
  go_wp2_with fail
  refine Calls.mono (quiet_below (get4_long _ 5 5 [2, 1, 0, 0, 7] _ (by omega) (lies_lit w .u8 [2, 1, 0, 0, 7] 5) (by unfold Bytes; decide))) ?_
  rw [show head4 [2, 1, 0, 0, 7] = 258 from by decide]
  rintro e w1 ⟨rfl, hb1⟩
  have HB1 := hide (below_lit (Below.refl w.heap.size w) (Nat.le_refl _) hb1)
  have hs1 := HB1.out.size
  clear hb1
  go_wp2_with fail
  refine Calls.mono (still_below (get4_short _ 3 3 _ (by omega))) ?_
  rintro e w2 ⟨rfl, hb2⟩
  have HB2 := hide (below_lit HB1.out hs1 hb2)
  have hs2 := HB2.out.size
  clear hb2 HB1 hs1
  go_wp2_with fail
  refine Calls.mono (getList_ok _ 9 9 1 [1, 0, 0, 0, 255, 255, 255, 255, 9] _ (by omega) (lies_lit w2 .u8 [1, 0, 0, 0, 255, 255, 255, 255, 9] 5) (by unfold Bytes; decide) (by decide) (by omega) (by omega) (by omega)) ?_
  rw [show (dec ([1, 0, 0, 0, 255, 255, 255, 255, 9].drop 4) 1) = [-1] from by decide]
  rintro e w3 ⟨rfl, ho3, hb3⟩
  have HO3 : Hid (Lies w3 (some ⟨w2.heap.size + 1, 0, none⟩) 1 [.int .i32 (-1)]) := hide (by simpa using Lies.own ho3)
  have HB3 := hide (below_lit HB2.out hs2 hb3)
  have hs3 := HB3.out.size
  clear ho3 hb3 HB2 hs2
  go_wp2_with fail
  refine Calls.mono (quiet_below (getList_short _ 5 5 1 [1, 0, 0, 0, 5] _ (by omega) (lies_lit w3 .u8 [1, 0, 0, 0, 5] 5) (by unfold Bytes; decide) (by decide) (by omega) (by omega))) ?_
  rintro e w4 ⟨rfl, hb4⟩
  have HO4 := hide ((HO3.out.alloc _).below hb4)
  have HB4 := hide (below_lit HB3.out hs3 hb4)
  have hs4 := HB4.out.size
  clear hb4 HB3 hs3 HO3
  go_wp2_with fail
  refine Calls.mono (quiet_below (getList_limit _ 4 4 4097 [1, 16, 0, 0] _ (by omega) (lies_lit w4 .u8 [1, 16, 0, 0] 5) (by unfold Bytes; decide) (by decide) (by omega))) ?_
  rintro e w5 ⟨rfl, hb5⟩
  have HO5 := hide ((HO4.out.alloc _).below hb5)
  have HB5 := hide (below_lit HB4.out hs4 hb5)
  have hs5 := HB5.out.size
  clear hb5 HB4 hs4 HO4
  go_wp2_with fail
  refine Calls.mono (put4 _ 1 1 258 _ _ (lies_lit w5 .u8 [9] 5) (ints_oneCell _ _) (by omega)) ?_
  rintro e w6 ⟨rfl, ho6, hb6⟩
  have HO6 := hide ((HO5.out.alloc _).below hb6)
  have HB6 := hide (below_lit HB5.out hs5 hb6)
  have hs6 := HB6.out.size
  have hl6 : Lies w6 (some ⟨w5.heap.size + 1, 0, none⟩) 5 ([9, 2, 1, 0, 0].map (Value.int .u8)) := by simpa [encV, enc, four] using Lies.own ho6
  have hcv := string_of w6 (w5.heap.size + 1) 5 5 [9, 2, 1, 0, 0] hl6
  have hst : (strOfNums [9, 2, 1, 0, 0]).toList = [9, 2, 1, 0, 0] := by decide +kernel
  clear hb6 HB5 hs5 HO5 ho6 hl6
  go_wp2_with fail
  clear hcv hst
  refine Calls.mono (putList none _ 0 0 1 1 [] [-1] _ Lies.nothing (by simp) (lies_lit w6 .i32 [-1] 21) (by omega) (by omega)) ?_
  rintro e w7 ⟨rfl, ho7, hb7⟩
  have HO7 := hide ((HO6.out.alloc _).below hb7)
  have HB7 := hide (below_lit HB6.out hs6 hb7)
  have hs7 := HB7.out.size
  have hl7 : Lies w7 (some ⟨w6.heap.size + 1, 0, none⟩) 8 ([1, 0, 0, 0, 255, 255, 255, 255].map (Value.int .u8)) := by simpa [encV, enc, four] using Lies.own ho7
  have hcv := string_of w7 (w6.heap.size + 1) 8 8 [1, 0, 0, 0, 255, 255, 255, 255] hl7
  have hst : (strOfNums [1, 0, 0, 0, 255, 255, 255, 255]).toList = [1, 0, 0, 0, 255, 255, 255, 255] := by decide +kernel
  clear hb7 HB6 hs6 HO6 ho7 hl7
  go_wp2_with fail
  clear hcv hst
  refine Calls.mono (quiet_below (same_i32 _ _ 1 1 1 [-1] _ (HO7.out.alloc _) (lies_lit w7 .i32 [-1] 21) (by omega))) ?_
  rintro e w8 ⟨rfl, hb8⟩
  have HB8 := hide (below_lit HB7.out hs7 hb8)
  clear hb8 HB7 hs7 HO7
  go_wp2
  go_ret
  exact ⟨rfl, HB8.out⟩
end Go.Proofs.Ytkmkhjhdgickfaa
