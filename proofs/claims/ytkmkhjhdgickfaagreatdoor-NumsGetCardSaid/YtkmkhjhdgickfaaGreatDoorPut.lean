/- Contracts of PutFour and PutList: the bytes that came in, copied, and the words behind them, in memory of the call's own. -/
import Derived.Test.YtkmkhjhdgickfaaGreatDoorAdd
namespace Go.Proofs.YtkmkhjhdgickfaaGreatDoor
open Go.RowKit

theorem lies_new (w : World) (cs : List Value) (t : TypeId) : Lies (w.alloc (.cells cs.toArray t)) (some ⟨w.heap.size, 0, none⟩) cs.length cs :=
  ⟨rfl, fun _ => ⟨w.heap.size, 0, rfl, by simp, fun j hj => by
    have h := cells_new w cs t j cs[j] (List.getElem?_eq_getElem hj)
    rw [Addr.add_lit] at h
    rw [h, List.getElem?_eq_getElem hj]⟩⟩

set_option maxHeartbeats 400000 in
theorem put4 (A : Option Addr) (n c : Nat) (x : Int) (xs : List Value) (w : World) (h : Lies w A n xs) (h1 : ∀ u ∈ xs, u.oneCell' = true) (hn : n + 4 ≤ 281474976710656) :
    Calls Tryz.prog 8 #[.slice A n c, .int .u32 x] w fun e w' =>
      e = .returned (.slice (some ⟨w.heap.size, 0, none⟩) (n + 4) (n + 4)) ∧ w'.ownsRow w.heap.size 5 1 (.slice (some ⟨w.heap.size, 0, none⟩) (n + 4) (n + 4)) (n + 4) (xs ++ encV [x]) ∧ Below w.heap.size w w' := by
  have HC : Hid (Calls Tryz.prog 24 #[.slice A n c, .int .i64 1] w _) := copy_room A n c 1 xs w h h1 (by omega)
  clear h
  go_enter Tryz.func8, Tryz.ntmps8
  go_wp2_with fail
  refine Calls.mono HC.out ?_
  rintro e w1 ⟨rfl, ho, hb, hs⟩
  have HO := hide ho
  have HB := hide hb
  clear ho hb HC
  go_wp2_with fail
  have hcall := add_u32 w.heap.size n (n + 4 * 1) 1 1 w.heap.size (some ⟨w1.heap.size, 0, none⟩) xs [x] (w1.alloc (.cells #[.int .u32 x] 23)) (HO.out.alloc _) (lies_new w1 [.int .u32 x] 23)
    (by intro _ b o e; injection e with e; injection e with e; omega) (by omega) (by omega)
  refine Calls.mono hcall ?_
  rintro e w2 ⟨rfl, ho2, hg2⟩
  have HO2 := hide ho2
  have HB2 := hide ((HB.out.alloc (by omega) (.cells #[.int .u32 x] 23)).trans (below_grown hg2 (by simp; omega) (Nat.le_refl _)))
  clear ho2 hg2 hcall
  go_wp2
  go_ret
  exact ⟨rfl, HO2.out, HB2.out⟩

theorem encV_cons (x : Int) (zs : List Int) : encV (x :: zs) = encV [x] ++ encV zs := by simp [encV, enc]

set_option maxHeartbeats 400000 in
theorem putList (A L : Option Addr) (n c m d : Nat) (xs : List Value) (zs : List Int) (w : World) (h : Lies w A n xs) (h1 : ∀ u ∈ xs, u.oneCell' = true) (hl : Lies w L m (zs.map (Value.int .i32)))
    (hn : n + 4 * (1 + m) ≤ 281474976710656) (hm : m < 4294967296) :
    Calls Tryz.prog 9 #[.slice A n c, .slice L m d] w fun e w' =>
      e = .returned (.slice (some ⟨w.heap.size, 0, none⟩) (n + 4 * (1 + m)) (n + 4 * (1 + m))) ∧
      w'.ownsRow w.heap.size 5 1 (.slice (some ⟨w.heap.size, 0, none⟩) (n + 4 * (1 + m)) (n + 4 * (1 + m))) (n + 4 * (1 + m)) (xs ++ encV ((m : Int) :: zs)) ∧ Below w.heap.size w w' := by
  have HC := hide (copy_room A n c (1 + m) xs w h h1 (by omega))
  have HL := hide hl
  have HA : Hid (∀ b o, L = some ⟨b, o, none⟩ → 0 < m → b < w.heap.size) := fun b o e hm => by
    obtain ⟨b', o', e', hb, _⟩ := hl.cells hm
    rw [e'] at e
    injection e with e
    injection e with e
    omega
  clear h hl
  go_enter Tryz.func9, Tryz.ntmps9
  go_wp2_with fail
  rw [show (1 : Int) + (m : Int) = ((1 + m : Nat) : Int) from by omega]
  refine Calls.mono HC.out ?_
  rintro e w1 ⟨rfl, ho, hb, hs⟩
  have HO := hide ho
  have HB := hide hb
  clear ho hb HC
  go_wp2_with fail
  have hcall := add_u32 w.heap.size n (n + 4 * (1 + m)) 1 1 w.heap.size (some ⟨w1.heap.size, 0, none⟩) xs [(m : Int)] (w1.alloc (.cells #[.int .u32 (m : Int)] 23)) (HO.out.alloc _) (lies_new w1 [.int .u32 (m : Int)] 23)
    (by intro _ b o e; injection e with e; injection e with e; omega) (by omega) (by omega)
  refine Calls.mono hcall ?_
  rintro e w2 ⟨rfl, ho2, hg2⟩
  have HO2 := hide ho2
  have HB2 := hide ((HB.out.alloc (by omega) (.cells #[.int .u32 (m : Int)] 23)).trans (below_grown hg2 (by simp; omega) (Nat.le_refl _)))
  clear ho2 hg2 hcall HB HO
  go_wp2_with fail
  have hcall := add_i32 w.heap.size (n + 4) (n + 4 * (1 + m)) m d w.heap.size L (xs ++ encV [(m : Int)]) zs w2 HO2.out (HL.out.below HB2.out)
    (by intro h0 b o e; have := HA.out b o e h0; omega) (by omega) (by omega)
  refine Calls.mono hcall ?_
  rintro e w3 ⟨rfl, ho3, hg3⟩
  have HO3 := hide ho3
  have HB3 := hide (HB2.out.trans (below_grown hg3 (by have := HB2.out.size; omega) (Nat.le_refl _)))
  clear ho3 hg3 hcall
  go_wp2
  go_ret
  have e : n + 4 + 4 * m = n + 4 * (1 + m) := by omega
  have h3 := HO3.out
  rw [e, List.append_assoc, ← encV_cons] at h3
  exact ⟨congrArg (fun k => Ending.returned (.slice (some ⟨w.heap.size, 0, none⟩) k (n + 4 * (1 + m)))) e, h3, HB3.out⟩
end Go.Proofs.YtkmkhjhdgickfaaGreatDoor
