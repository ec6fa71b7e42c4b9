/- Contracts of GetList: what is wrong with the bytes, or the list that they begin with, in memory of the call's own. -/
import Derived.Test.YtkmkhjhdgickfaaGreatDoorList
namespace Go.Proofs.YtkmkhjhdgickfaaGreatDoor
open Go.RowKit

theorem getList_none (A : Option Addr) (n c : Nat) (w : World) (hn : n < 4) :
    Calls Tryz.prog 20 #[.slice A n c] w fun e w' => e = .returned (.tuple #[.slice none 0 0, .int .i64 0, .int .i64 5]) ∧ w = w' := by
  go_enter Tryz.func20, Tryz.ntmps20
  go_wp2_with fail
  refine Calls.mono (get4_short A n c w hn) ?_
  rintro e w' ⟨rfl, rfl⟩
  go_wp2
  go_ret3
  exact ⟨rfl, rfl⟩

theorem getList_limit (A : Option Addr) (n c q : Nat) (bs : List Int) (w : World) (hn : 4 ≤ n) (h : Lies w A n (bs.map (Value.int .u8))) (hb : Bytes bs) (hq : head4 bs = (q : Int)) (hl : 4096 < q) :
    Calls Tryz.prog 20 #[.slice A n c] w fun e w' => e = .returned (.tuple #[.slice none 0 0, .int .i64 0, .int .i64 3]) ∧ ∃ k, w' = w.drewN k := by
  have hc := get4_long A n c bs w hn h hb
  rw [hq] at hc
  have HC := hide hc
  clear hc h hb hq
  go_enter Tryz.func20, Tryz.ntmps20
  go_wp2_with fail
  refine Calls.mono HC.out ?_
  rintro e w' ⟨rfl, k, rfl⟩
  go_wp2
  go_ret3
  exact ⟨rfl, _, rfl⟩

theorem getList_short (A : Option Addr) (n c q : Nat) (bs : List Int) (w : World) (hn : 4 ≤ n) (h : Lies w A n (bs.map (Value.int .u8))) (hb : Bytes bs) (hq : head4 bs = (q : Int)) (hl : q ≤ 4096) (hs : n < 4 * (1 + q)) :
    Calls Tryz.prog 20 #[.slice A n c] w fun e w' => e = .returned (.tuple #[.slice none 0 0, .int .i64 0, .int .i64 5]) ∧ ∃ k, w' = w.drewN k := by
  have hc := get4_long A n c bs w hn h hb
  rw [hq] at hc
  have HC := hide hc
  clear hc h hb hq
  go_enter Tryz.func20, Tryz.ntmps20
  go_wp2_with fail
  refine Calls.mono HC.out ?_
  rintro e w' ⟨rfl, k, rfl⟩
  go_wp2
  go_ret3
  exact ⟨rfl, _, rfl⟩

theorem dec_take (bs : List Int) (q : Nat) : dec (bs.take (4 * q)) q = dec bs q := by
  unfold dec
  refine List.map_congr_left fun j hj => ?_
  have hj' : j < q := by simpa using hj
  simp only [wd, List.getD, List.getElem?_take]
  rw [if_pos (by omega), if_pos (by omega), if_pos (by omega), if_pos (by omega)]

set_option maxHeartbeats 400000 in
theorem getList_ok (A : Option Addr) (n c q : Nat) (bs : List Int) (w : World) (hnc : n ≤ c) (h : Lies w A n (bs.map (Value.int .u8))) (hb : Bytes bs) (hq : head4 bs = (q : Int)) (hl : q ≤ 4096) (hs : 4 * (1 + q) ≤ n) (hm : n ≤ 281474976710656) :
    Calls Tryz.prog 20 #[.slice A n c] w fun e w' =>
      e = .returned (.tuple #[.slice (some ⟨w.heap.size, 0, none⟩) q q, .int .i64 (4 * (1 + (q : Int))), .int .i64 0]) ∧
      w'.ownsRow w.heap.size 21 1 (.slice (some ⟨w.heap.size, 0, none⟩) q q) q ((dec (bs.drop 4) q).map (Value.int .i32)) ∧ Below w.heap.size w w' := by
  have hc := get4_long A n c bs w (by omega) h hb
  rw [hq] at hc
  have HC := hide hc
  have HL := hide h
  have HB := hide hb
  obtain ⟨b, o, rfl, _, hx⟩ := h.cells (by omega)
  clear hx
  clear hc h hb hq
  by_cases hc4 : c = 4
  · subst hc4
    obtain rfl : q = 0 := by omega
    obtain rfl : n = 4 := by omega
    go_enter Tryz.func20, Tryz.ntmps20
    go_wp2_with fail
    refine Calls.mono HC.out ?_
    rintro e w' ⟨rfl, k, rfl⟩
    go_wp2_with fail
    refine Calls.mono (readList (some ⟨b, o, none⟩) 0 0 0 [] (w.drewN k) Lies.nothing (by intro x hx; simp at hx) (by omega) (by omega) (by omega)) ?_
    rintro e w2 ⟨rfl, ho, hb⟩
    have HO := hide ho
    have HB2 := hide ((below_drewN (Below.refl w.heap.size w) k).trans hb)
    clear ho hb
    go_wp2
    go_ret3
    exact ⟨rfl, HO.out, HB2.out⟩
  · have HL2 := hide (((HL.out.drop (k := 4) (cap := c) (by omega) hnc).take (k := 4 * q) (by omega)))
    go_enter Tryz.func20, Tryz.ntmps20
    go_wp2_with fail
    refine Calls.mono HC.out ?_
    rintro e w' ⟨rfl, k, rfl⟩
    go_wp2_with fail
    have hl2 : Lies (w.drewN k) (some ⟨b, o + 4, none⟩) (4 * (1 + q) - 4) (((bs.drop 4).take (4 * q)).map (Value.int .u8)) := by
      have h2 := HL2.out
      rw [if_neg hc4, ← List.map_drop, ← List.map_take] at h2
      rw [show 4 * (1 + q) - 4 = 4 * q from by omega]
      exact h2.drewN k
    refine Calls.mono (readList (some ⟨b, o + 4, none⟩) (4 * (1 + q) - 4) (c - 4) q _ (w.drewN k) hl2 (by intro x hx; exact HB.out x (List.mem_of_mem_drop (List.mem_of_mem_take hx))) (by omega) (by omega) (by omega)) ?_
    rintro e w2 ⟨rfl, ho, hb⟩
    rw [dec_take] at ho
    have HO := hide ho
    have HB2 := hide ((below_drewN (Below.refl w.heap.size w) k).trans hb)
    clear ho hb hl2
    go_wp2
    go_ret3
    exact ⟨rfl, HO.out, HB2.out⟩
end Go.Proofs.YtkmkhjhdgickfaaGreatDoor
