/- NumsJoin holds for every two lists: the walk of its Go text. -/
import Derived.Test.YtkmkhjhdgickfaaAlive
import Derived.Test.YtkmkhjhdgickfaaBack
import Derived.Test.YtkmkhjhdgickfaaFrame
namespace Go.Proofs.Ytkmkhjhdgickfaa
open Go.RowKit

set_option maxRecDepth 100000 in
set_option maxHeartbeats 1000000 in
theorem join_long (A B : Option Addr) (m c n d : Nat) (w : World) (h : 4096 < m ∨ 4096 < n) :
    Calls Try.prog 6 #[.slice A m c, .slice B n d] w fun e w' => e = .returned (.bool true) ∧ Below w.heap.size w w' := by
  by_cases hm : 4096 < m
  · clear h
    go_enter Try.func6, Try.ntmps6
    go_wp2_with fail
    refine Calls.mono (alive_any w) ?_
    rintro e w1 ⟨rfl, hb1⟩
    have HB1 := hide hb1
    have hs1 := hb1.size
    clear hb1
    go_wp2_with fail
    refine Calls.mono (alive_any w1) ?_
    rintro e w2 ⟨rfl, hb2⟩
    have HB2 := hide (HB1.out.trans (hb2.mono hs1))
    clear hb2
    go_wp2
    go_ret
    exact ⟨rfl, HB2.out⟩
  · have hn : 4096 < n := by omega
    clear h
    go_enter Try.func6, Try.ntmps6
    go_wp2_with fail
    refine Calls.mono (alive_any w) ?_
    rintro e w1 ⟨rfl, hb1⟩
    have HB1 := hide hb1
    have hs1 := hb1.size
    clear hb1
    go_wp2_with fail
    refine Calls.mono (alive_any w1) ?_
    rintro e w2 ⟨rfl, hb2⟩
    have HB2 := hide (HB1.out.trans (hb2.mono hs1))
    clear hb2
    go_wp2
    go_ret
    exact ⟨rfl, HB2.out⟩

set_option maxRecDepth 100000 in
set_option maxHeartbeats 1000000 in
theorem join_short (A B : Option Addr) (m c n d : Nat) (x y : List Int) (w : World) (hx : Lies w A m (x.map (Value.int .i32))) (hy : Lies w B n (y.map (Value.int .i32))) (wx : Words x) (wy : Words y) (hm : m ≤ 4096) (hn : n ≤ 4096) :
    Calls Try.prog 6 #[.slice A m c, .slice B n d] w fun e w' => e = .returned (.bool true) ∧ Below w.heap.size w w' := by
  have HX := hide hx
  have HY := hide hy
  have HXL : Hid (x.length = m) := hide (by have := hx.len; simpa using this)
  have HYL : Hid (y.length = n) := hide (by have := hy.len; simpa using this)
  clear hx hy
  go_enter Try.func6, Try.ntmps6
  go_wp2_with fail
  refine Calls.mono (alive_any w) ?_
  rintro e w1 ⟨rfl, hb1⟩
  have HB1 := hide hb1
  have hs1 := hb1.size
  have HX1 := hide (HX.out.below hb1)
  have HY1 := hide (HY.out.below hb1)
  clear hb1 HX HY
  go_wp2_with fail
  refine Calls.mono (putList none A 0 0 m c [] x w1 Lies.nothing (by simp) HX1.out (by omega) (by omega)) ?_
  rintro e w2 ⟨rfl, ho2, hb2⟩
  have HO2 : Hid (Lies w2 (some ⟨w1.heap.size, 0, none⟩) (0 + 4 * (1 + m)) ((enc ((m : Int) :: x)).map (Value.int .u8))) := hide (Lies.own ho2)
  have HB2 := hide (HB1.out.trans (hb2.mono hs1))
  have hs2 := HB2.out.size
  have HX2 := hide (HX1.out.below hb2)
  have HY2 := hide (HY1.out.below hb2)
  clear hb2 ho2 HX1 HY1 HB1
  go_wp2_with fail
  rw [show (4 * (1 + m)) = 0 + 4 * (1 + m) from by omega]
  refine Calls.mono (putList _ B (0 + 4 * (1 + m)) (0 + 4 * (1 + m)) n d _ y w2 HO2.out (ints_oneCell _ _) HY2.out (by omega) (by omega)) ?_
  rintro e w3 ⟨rfl, ho3, hb3⟩
  have HO3 : Hid (Lies w3 (some ⟨w2.heap.size, 0, none⟩) (0 + 4 * (1 + m) + 4 * (1 + n)) ((four (m : Int) ++ (enc x ++ (four (n : Int) ++ enc y))).map (Value.int .u8))) := hide (by
    have h := Lies.own ho3
    rwa [encV_bytes, ← List.map_append, enc_cons, enc_cons, List.append_assoc] at h)
  have HB3 := hide (HB2.out.trans (hb3.mono hs2))
  have hs3 := HB3.out.size
  have HX3 := hide (HX2.out.below hb3)
  have HY3 := hide (HY2.out.below hb3)
  clear hb3 ho3 HX2 HY2 HB2 HO2
  have HO3' : Hid (Lies w3 (some ⟨w2.heap.size, 0, none⟩) (4 * (1 + m) + 4 * (1 + n)) ((four (m : Int) ++ (enc x ++ (four (n : Int) ++ enc y))).map (Value.int .u8))) := hide (by have h := HO3.out; rwa [Nat.zero_add] at h)
  clear HO3
  have HBB := hide (bytes_append (four_bytes (n : Int)) (enc_bytes y))
  have HBY := hide (bytes_append (four_bytes (m : Int)) (bytes_append (enc_bytes x) HBB.out))
  have HHE := hide (head4_four (m : Int) (enc x ++ (four (n : Int) ++ enc y)) (by omega) (by omega))
  have HHN := hide (head4_four (n : Int) (enc y) (by omega) (by omega))
  go_wp2_with fail
  have hcall := quiet_below (get4_long _ (4 * (1 + m) + 4 * (1 + n)) (4 * (1 + m) + 4 * (1 + n)) _ w3 (by omega) HO3'.out HBY.out)
  rw [HHE.out] at hcall
  refine Calls.mono hcall ?_
  rintro e w4 ⟨rfl, hb4⟩
  have HB4 := hide (HB3.out.trans (hb4.mono hs3))
  have hs4 := HB4.out.size
  have HX4 := hide (HX3.out.below hb4)
  have HY4 := hide (HY3.out.below hb4)
  have HO4 := hide (HO3'.out.below hb4)
  clear hb4 hcall HX3 HY3 HB3 HO3'
  go_wp2_with fail
  refine Calls.mono (getList_ok _ (4 * (1 + m) + 4 * (1 + n)) (4 * (1 + m) + 4 * (1 + n)) m _ w4 (Nat.le_refl _) HO4.out HBY.out HHE.out hm (by omega) (by omega)) ?_
  rintro e w5 ⟨rfl, ho5, hb5⟩
  have HR5 : Hid (Lies w5 (some ⟨w4.heap.size, 0, none⟩) m (x.map (Value.int .i32))) := hide (by
    have h := Lies.own ho5
    have hd := dec_enc x (four (n : Int) ++ enc y) wx
    rw [HXL.out] at hd
    rwa [drop_four, hd] at h)
  have HB5 := hide (HB4.out.trans (hb5.mono hs4))
  have hs5 := HB5.out.size
  have HX5 := hide (HX4.out.below hb5)
  have HY5 := hide (HY4.out.below hb5)
  have HO5 := hide (HO4.out.below hb5)
  clear hb5 ho5 HX4 HY4 HB4 HO4
  go_wp2_with fail
  refine Calls.mono (quiet_below (same_i32 _ _ m _ _ x w5 HR5.out HX5.out (by omega))) ?_
  rintro e w6 ⟨rfl, hb6⟩
  have HB6 := hide (HB5.out.trans (hb6.mono hs5))
  have hs6 := HB6.out.size
  have HY6 := hide (HY5.out.below hb6)
  have HO6 := hide (HO5.out.below hb6)
  clear hb6 HX5 HY5 HB5 HO5 HR5
  have HD6 : Hid (Lies w6 (some ⟨w2.heap.size, 4 * (1 + m), none⟩) (4 * (1 + n)) ((four (n : Int) ++ enc y).map (Value.int .u8))) := hide (by
    have h := HO6.out.drop (k := 4 * (1 + m)) (cap := 4 * (1 + m) + 4 * (1 + n)) (by omega) (Nat.le_refl _)
    have hlen : (four (m : Int) ++ enc x).length = 4 * (1 + m) := by rw [List.length_append, four_len, enc_len, HXL.out]; omega
    rw [if_neg (by omega), Nat.add_sub_cancel_left, ← List.map_drop, ← List.append_assoc, List.drop_left' hlen] at h
    simpa [Addr.add_lit] using h)
  go_wp2_with fail
  refine Calls.mono (getList_ok _ (4 * (1 + n)) (4 * (1 + n)) n _ w6 (Nat.le_refl _) HD6.out HBB.out HHN.out hn (Nat.le_refl _) (by omega)) ?_
  rintro e w7 ⟨rfl, ho7, hb7⟩
  have HR7 : Hid (Lies w7 (some ⟨w6.heap.size, 0, none⟩) n (y.map (Value.int .i32))) := hide (by
    have h := Lies.own ho7
    have hd := dec_enc y [] wy
    rw [HYL.out, List.append_nil] at hd
    rwa [drop_four, hd] at h)
  have HB7 := hide (HB6.out.trans (hb7.mono hs6))
  have hs7 := HB7.out.size
  have HY7 := hide (HY6.out.below hb7)
  clear hb7 ho7 HY6 HB6 HO6 HD6
  go_wp2_with fail
  refine Calls.mono (quiet_below (same_i32 _ _ n _ _ y w7 HR7.out HY7.out (by omega))) ?_
  rintro e w8 ⟨rfl, hb8⟩
  have HB8 := hide (HB7.out.trans (hb8.mono hs7))
  clear hb8 HY7 HB7 HR7
  go_wp2
  go_ret
  exact ⟨rfl, HB8.out⟩

theorem join_any (A B : Option Addr) (m c n d : Nat) (x y : List Int) (w : World) (hx : Lies w A m (x.map (Value.int .i32))) (hy : Lies w B n (y.map (Value.int .i32)))
    (wx : ∀ z ∈ x, (Lit.int .i32 z).wf = true) (wy : ∀ z ∈ y, (Lit.int .i32 z).wf = true) :
    Calls Try.prog 6 #[.slice A m c, .slice B n d] w fun e w' => e = .returned (.bool true) ∧ Below w.heap.size w w' := by
  by_cases h : 4096 < m ∨ 4096 < n
  · exact join_long A B m c n d w h
  · exact join_short A B m c n d x y w hx hy (fun z hz => fits_i32 (wx z hz)) (fun z hz => fits_i32 (wy z hz)) (by omega) (by omega)
end Go.Proofs.Ytkmkhjhdgickfaa
