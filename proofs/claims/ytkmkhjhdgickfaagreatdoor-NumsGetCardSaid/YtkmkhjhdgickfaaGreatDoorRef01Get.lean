/- Contracts of the document's own GetList. -/
import Derived.Test.YtkmkhjhdgickfaaGreatDoorRef01
namespace Go.Proofs.YtkmkhjhdgickfaaGreatDoor
open Go.RowKit

theorem ref_getList_none (A : Option Addr) (n c : Nat) (w : World) (hn : n < 4) :
    Calls Tryz.prog 21 #[.slice A n c] w fun e w' => e = .returned (.tuple #[.slice none 0 0, .int .i64 0, .int .i64 5]) ∧ w = w' := by
  go_enter Tryz.func21, Tryz.ntmps21
  go_wp2_with fail
  refine Calls.mono (ref_get4_short A n c w hn) ?_
  rintro e w' ⟨rfl, rfl⟩
  go_wp2
  go_ret3
  exact ⟨rfl, rfl⟩

theorem ref_getList_limit (A : Option Addr) (n c q : Nat) (bs : List Int) (w : World) (hn : 4 ≤ n) (h : Lies w A n (bs.map (Value.int .u8))) (hb : Bytes bs) (hq : head4 bs = (q : Int)) (hl : 4096 < q) :
    Calls Tryz.prog 21 #[.slice A n c] w fun e w' => e = .returned (.tuple #[.slice none 0 0, .int .i64 0, .int .i64 3]) ∧ w = w' := by
  have hc := ref_get4_long A n c bs w hn h hb
  rw [hq] at hc
  have HC := hide hc
  clear hc h hb hq
  go_enter Tryz.func21, Tryz.ntmps21
  go_wp2_with fail
  refine Calls.mono HC.out ?_
  rintro e w' ⟨rfl, rfl⟩
  go_wp2
  go_ret3
  exact ⟨rfl, rfl⟩

theorem ref_getList_short (A : Option Addr) (n c q : Nat) (bs : List Int) (w : World) (hn : 4 ≤ n) (h : Lies w A n (bs.map (Value.int .u8))) (hb : Bytes bs) (hq : head4 bs = (q : Int)) (hl : q ≤ 4096) (hs : n < 4 * (1 + q)) :
    Calls Tryz.prog 21 #[.slice A n c] w fun e w' => e = .returned (.tuple #[.slice none 0 0, .int .i64 0, .int .i64 5]) ∧ w = w' := by
  have hc := ref_get4_long A n c bs w hn h hb
  rw [hq] at hc
  have HC := hide hc
  clear hc h hb hq
  go_enter Tryz.func21, Tryz.ntmps21
  go_wp2_with fail
  refine Calls.mono HC.out ?_
  rintro e w' ⟨rfl, rfl⟩
  go_wp2
  go_ret3
  exact ⟨rfl, rfl⟩

theorem Tryz.infoN : (Tryz.prog.info? 21).map (fun i => (i.zero, i.size, i.bytes)) = some (some (.int .i32 0), 1, 4) := by kernel_rfl
theorem wd_head (bs : List Int) (k : Nat) : wd (bs.drop 4) k = signed (head4 (bs.drop (4 + 4 * k))) := by
  unfold wd head4
  simp only [List.getD, List.getElem?_drop]
  rw [show 4 + 4 * k + 0 = 4 + 4 * k from rfl, show 4 + (4 * k + 1) = 4 + 4 * k + 1 from rfl, show 4 + (4 * k + 2) = 4 + 4 * k + 2 from rfl, show 4 + (4 * k + 3) = 4 + 4 * k + 3 from rfl]
theorem dec_at (bs : List Int) (q k : Nat) (h : k < q) : (dec bs q).getD k 0 = wd bs k := by simp [dec, List.getD, h]
def Gives3 (w : World) (q : Nat) (xs : List Value) (E : Ending) (w' : World) : Prop := ∃ A' c', E = .returned (.tuple #[.slice A' q c', .int .i64 (4 + 4 * (q : Int)), .int .i64 0]) ∧ w'.ownsRow w.heap.size 21 1 (.slice A' q c') q xs ∧ Below w.heap.size w w'

set_option maxRecDepth 100000 in
set_option maxHeartbeats 1000000 in
theorem ref_getList_ok (A : Option Addr) (n c q : Nat) (bs : List Int) (w : World) (hnc : n ≤ c) (h : Lies w A n (bs.map (Value.int .u8))) (hb : Bytes bs) (hq : head4 bs = (q : Int)) (hl : q ≤ 4096) (hs : 4 * (1 + q) ≤ n) (hm : n ≤ 281474976710656) :
    Calls Tryz.prog 21 #[.slice A n c] w (Gives3 w q ((dec (bs.drop 4) q).map (Value.int .i32))) := by
  have hc := ref_get4_long A n c bs w (by omega) h hb
  rw [hq] at hc
  have HC := hide hc
  have HL := hide h
  have HB := hide hb
  obtain ⟨b, o, rfl, _, hx⟩ := h.cells (by omega)
  obtain ⟨i0, hi, hz0, hz1, hz2⟩ := info_parts Tryz.infoN
  have HI := hide hi
  have HZ0 := hide hz0
  have HZ1 := hide hz1
  have HZ2 := hide hz2
  clear hi hz0 hz1 hz2 hx hc h hb hq
  go_enter Tryz.func21, Tryz.ntmps21
  go_wp2_with fail
  refine Calls.mono HC.out ?_
  rintro e w' ⟨rfl, rfl⟩
  clear HC
  have hd1 : decide ((4096 : Int) < (q : Int)) = false := by simp; omega
  have hd2 : decide ((n : Int) < 4 + 4 * (q : Int)) = false := by simp; omega
  go_wp2
  go_loopw [7, 8] (fun v i wr => ∃ (k : Nat) (A2 : Option Addr) (c2 : Nat), k ≤ q ∧ i = .int .i64 k ∧ v = .slice A2 k c2 ∧ Hid (wr.ownsRow w.heap.size 21 1 (.slice A2 k c2) k (preV .i32 (dec (bs.drop 4) q) k)) ∧ Hid (Below w.heap.size w wr))
    (fun _ i _ => q - (intOf i).toNat)
  case atStart => exact ⟨0, none, 0, by omega, rfl, rfl, hide (World.ownsRow_nil _ _ _ _), hide (Below.refl _ _)⟩
  case round =>
    obtain ⟨k, A2, c2, hk, rfl, rfl, HR, HBl⟩ := hrel
    have hsr := HBl.out.size
    by_cases hlt : k < q
    · have HLd : Hid (Lies wr (some ⟨b, o + (4 + 4 * k), none⟩) (n - (4 + 4 * k)) ((bs.drop (4 + 4 * k)).map (Value.int .u8))) := hide (by
        have h2 := (HL.out.below HBl.out).drop (k := 4 + 4 * k) (cap := c) (by omega) hnc
        rw [if_neg (by omega), ← List.map_drop] at h2
        simpa [Addr.add_lit] using h2)
      have HCk := hide (ref_get4_long _ (n - (4 + 4 * k)) (c - (4 + 4 * k)) _ wr (by omega) HLd.out (fun x hx => HB.out x (List.mem_of_mem_drop hx)))
      have hcc : ¬ c = 4 + 4 * k := by omega
      have HW := hide ((dec_at (bs.drop 4) q k hlt).trans (wd_head bs k))
      go_wp2_with fail
      refine Calls.mono HCk.out ?_
      rintro e w' ⟨rfl, rfl⟩
      clear HCk HLd
      obtain ⟨y, hy⟩ : ∃ y, y = head4 (bs.drop (4 + 4 * k)) := ⟨_, rfl⟩
      rw [← hy] at HW ⊢
      clear hy
      have HX : Hid ((wr.alloc (.cells #[.int .i32 (wrap32 y)] 21)).cell? ⟨wr.heap.size, 0, none⟩ = some (.int .i32 (wrap32 y))) := hide (by have h := cells_new wr [.int .i32 (wrap32 y)] 21 0 _ rfl; rwa [Addr.add_lit] at h)
      go_wp2_with (at_builtin; with_reducible refine wpList_append_one rfl (.tmp 43) (.tmp 46) 24 rfl 21 i0 (.int .i32 0) 4 Tryz.underlying24 HI.out HZ0.out HZ1.out HZ2.out rfl w.heap.size A2 k c2 (preV .i32 (dec (bs.drop 4) q) k) rfl (HR.out.alloc _) (Nat.le_trans hsr (by simp)) ⟨wr.heap.size, 0, none⟩ (.int .i32 (wrap32 y)) rfl HX.out rfl (by omega) (by unfold maxLen; omega) ?_)
      intro A3 c3 w3 ho3 hm3
      have HR3 : Hid (w3.ownsRow w.heap.size 21 1 (.slice A3 (k + 1) c3) (k + 1) (preV .i32 (dec (bs.drop 4) q) (k + 1))) := hide (by
        rw [preV_snoc _ _ _ (by rw [dec_len]; exact hlt), HW.out, signed, IntWalk.i32_left]
        exact ho3)
      have HB3 := hide (below_moved (HBl.out.alloc (by omega) (.cells #[.int .i32 (wrap32 y)] 21)) (by simp; omega) (HR.out.alloc _) hm3)
      clear ho3 hm3 HR HBl HX
      go_wp2
      go_roundw
      case rel => exact ⟨k + 1, A3, c3, by omega, by go_num, rfl, HR3, HB3⟩
      case measure => simp [intOf]; omega
    · obtain rfl : k = q := by omega
      go_wp2
      go_ret3
      refine ⟨A2, c2, rfl, ?_, HBl.out⟩
      have h := HR.out
      rw [preV_all _ _ (dec_len _ _)] at h
      exact h
end Go.Proofs.YtkmkhjhdgickfaaGreatDoor
