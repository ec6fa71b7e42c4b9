/- Contracts of PutFour and PutList: the bytes that came in, copied, and the words behind them, in memory of the call's own. -/
import Derived.Test.YtaoobdnbjagpnaaGreatDoorAdd
namespace Go.Proofs.YtaoobdnbjagpnaaGreatDoor
open Go.RowKit

theorem lies_new (w : World) (cs : List Value) (t : TypeId) : Lies (w.alloc (.cells cs.toArray t)) (some ⟨w.heap.size, 0, none⟩) cs.length cs :=
  ⟨rfl, fun _ => ⟨w.heap.size, 0, rfl, by simp, fun j hj => by
    have h := cells_new w cs t j cs[j] (List.getElem?_eq_getElem hj)
    rw [Addr.add_lit] at h
    rw [h, List.getElem?_eq_getElem hj]⟩⟩

set_option maxHeartbeats 400000 in
theorem put4 (A : Option Addr) (n c : Nat) (x : Int) (xs : List Value) (w : World) (h : Lies w A n xs) (h1 : ∀ u ∈ xs, u.oneCell' = true) (hn : n + 4 ≤ 281474976710656) :
    Calls Tryz.prog 95 #[.slice A n c, .int .u32 x] w fun e w' =>
      e = .returned (.slice (some ⟨w.heap.size, 0, none⟩) (n + 4) (n + 4)) ∧ w'.ownsRow w.heap.size 5 1 (.slice (some ⟨w.heap.size, 0, none⟩) (n + 4) (n + 4)) (n + 4) (xs ++ encV [x]) ∧ Below w.heap.size w w' := by
  have HC : Hid (Calls Tryz.prog 138 #[.slice A n c, .int .i64 1] w _) := copy_room A n c 1 xs w h h1 (by omega)
  clear h
  go_enter Tryz.func95, Tryz.ntmps95
  go_wp2_with fail
  refine Calls.mono HC.out ?_
  rintro e w1 ⟨rfl, ho, hb, hs⟩
  have HO := hide ho
  have HB := hide hb
  clear ho hb HC
  go_wp2_with fail
  have hcall := add_u32 w.heap.size n (n + 4 * 1) 1 1 w.heap.size (some ⟨w1.heap.size, 0, none⟩) xs [x] (w1.alloc (.cells #[.int .u32 x] 81)) (HO.out.alloc _) (lies_new w1 [.int .u32 x] 81)
    (by intro _ b o e; injection e with e; injection e with e; omega) (by omega) (by omega)
  refine Calls.mono hcall ?_
  rintro e w2 ⟨rfl, ho2, hg2⟩
  have HO2 := hide ho2
  have HB2 := hide ((HB.out.alloc (by omega) (.cells #[.int .u32 x] 81)).trans (below_grown hg2 (by simp; omega) (Nat.le_refl _)))
  clear ho2 hg2 hcall
  go_wp2
  go_ret
  exact ⟨rfl, HO2.out, HB2.out⟩

theorem encV_cons (x : Int) (zs : List Int) : encV (x :: zs) = encV [x] ++ encV zs := by simp [encV, enc]

end Go.Proofs.YtaoobdnbjagpnaaGreatDoor
