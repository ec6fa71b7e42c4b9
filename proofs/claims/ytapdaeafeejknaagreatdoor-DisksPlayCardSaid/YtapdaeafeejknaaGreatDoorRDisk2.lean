/- Contracts of the document's disk: Len, Waits, Read, Bad. -/
import Derived.Test.YtapdaeafeejknaaGreatDoorRDisk
import Derived.Lib.ConvBytes
namespace Go.Proofs.YtapdaeafeejknaaGreatDoor
open Go.RowKit
set_option maxRecDepth 20000
set_option linter.unusedVariables false
set_option linter.unusedSimpArgs false

theorem rlen_any {B : Nat} {L : RLoc} {dur : List Sec} {pend : List Wr} (w : World) (h : RAt B w L dur pend) :
    Calls Tryz.prog 19 #[L.ptr] w fun e w' => e = .returned (.int .i64 (dur.length : Int)) ∧ w = w' := by
  obtain ⟨h0, h1, h2⟩ := h.cell
  have hl := seen_len dur pend
  go_enter Tryz.func19, Tryz.ntmps19
  unfold RLoc.ptr
  go_wp2
  go_ret
  exact ⟨rfl, rfl⟩
theorem rwaits_any {B : Nat} {L : RLoc} {dur : List Sec} {pend : List Wr} (w : World) (h : RAt B w L dur pend) :
    Calls Tryz.prog 21 #[L.ptr] w fun e w' => e = .returned (.int .i64 (pend.length : Int)) ∧ w = w' := by
  obtain ⟨h0, h1, h2⟩ := h.cell
  rcases h.p_form with ⟨hp, rfl⟩ | ⟨g, c, hp, _⟩
  all_goals
    rw [hp] at h2
    clear h hp
    go_enter Tryz.func21, Tryz.ntmps21
    unfold RLoc.ptr
    go_wp2
    go_ret
    exact ⟨rfl, rfl⟩

theorem strOf_at (b : List Int) (hb : ∀ x ∈ b, 0 ≤ x ∧ x < 256) (j : Nat) (hj : j < b.length) : (((strOfNums b).data.toList.getD j 0).toNat : Int) = b.getD j 0 := by
  have hx := hb _ (List.getElem_mem hj)
  simp only [strOfNums_data, List.getD, List.getElem?_map, List.getElem?_eq_getElem hj, Option.map_some, Option.getD_some]
  have : b[j].toNat < 256 := by omega
  simp [UInt8.toNat_ofNat', Nat.mod_eq_of_lt this]
  omega
theorem bytes_below (w : World) (e : TypeId) (s : ByteArray) : Below w.heap.size w (Go.Lib.bytesWorld w e s) :=
  ⟨rfl, rfl, rfl, by rw [Go.Lib.bytesWorld_size]; omega, fun i hi => Go.Lib.bytesWorld_at_old w e s i hi⟩
theorem rread_arg {B : Nat} {L : RLoc} {dur : List Sec} {pend : List Wr} (n : Int) (w : World) (h : RAt B w L dur pend) (hn : n < 0 ∨ (dur.length : Int) ≤ n) :
    Calls Tryz.prog 24 #[L.ptr, .int .i64 n] w fun e w' => e = .returned (.tuple #[.slice none 0 0, .int .i64 1]) ∧ w = w' := by
  obtain ⟨h0, h1, h2⟩ := h.cell
  clear h h0 h2
  by_cases hneg : n < 0
  · clear hn
    go_enter Tryz.func24, Tryz.ntmps24
    unfold RLoc.ptr
    go_wp2
    go_ret2
    exact ⟨rfl, rfl⟩
  · have hge : (dur.length : Int) ≤ n := by omega
    clear hn
    go_enter Tryz.func24, Tryz.ntmps24
    unfold RLoc.ptr
    go_wp2
    go_ret2
    exact ⟨rfl, rfl⟩
theorem rread_bad {B : Nat} {L : RLoc} {dur : List Sec} {pend : List Wr} (n : Nat) (w : World) (h : RAt B w L dur pend) (hn : n < dur.length) (hbad : (secAt (seenOf dur pend) n).bad = true) :
    Calls Tryz.prog 24 #[L.ptr, .int .i64 (n : Int)] w fun e w' => e = .returned (.tuple #[.slice none 0 0, .int .i64 12]) ∧ w = w' := by
  obtain ⟨h0, h1, h2⟩ := h.cell
  have hF := h.seen.cellF (n := n) (by rw [seen_len]; exact hn)
  rw [hbad] at hF
  have f0 : (0 : Int) ≤ (n : Int) := by omega
  have f1 : (n : Int) < (dur.length : Int) := by omega
  clear h h0 h2 hbad
  go_enter Tryz.func24, Tryz.ntmps24
  unfold RLoc.ptr
  go_wp2
  go_ret2
  exact ⟨rfl, rfl⟩
theorem rread_ok {B : Nat} {L : RLoc} {dur : List Sec} {pend : List Wr} (n : Nat) (w : World) (h : RAt B w L dur pend) (hn : n < dur.length) (hbad : (secAt (seenOf dur pend) n).bad = false) :
    Calls Tryz.prog 24 #[L.ptr, .int .i64 (n : Int)] w fun e w' => ∃ A c, e = .returned (.tuple #[.slice A 64 c, .int .i64 0]) ∧ Lies w' A 64 ((secAt (seenOf dur pend) n).b.map (Value.int .u8)) ∧ Below w.heap.size w w' := by
  obtain ⟨h0, h1, h2⟩ := h.cell
  have hF := h.seen.cellF (n := n) (by rw [seen_len]; exact hn)
  have hBc := h.seen.cellB (n := n) (by rw [seen_len]; exact hn)
  have hok := secAt_ok (seen_ok h.okS (fun x hx => (h.okW x hx).1)) (n := n) (by rw [seen_len]; exact hn)
  obtain ⟨b, hb⟩ : ∃ b, b = (secAt (seenOf dur pend) n).b := ⟨_, rfl⟩
  rw [hbad] at hF
  rw [← hb] at hBc hok ⊢
  have f0 : (0 : Int) ≤ (n : Int) := by omega
  have f1 : (n : Int) < (dur.length : Int) := by omega
  have HOK := hide hok
  have hcv := Go.Lib.run_convert_string_bytes (P := Tryz.prog) w 9 48 5 (strOfNums b) Tryz.underlying9 Tryz.underlying48 Tryz.underlying5
  clear h h0 h2 hbad hb hok
  unfold strV at hBc
  go_enter Tryz.func24, Tryz.ntmps24
  unfold RLoc.ptr
  go_wp2
  go_ret2
  have hsz : (strOfNums b).size = 64 := by rw [strOfNums_size, HOK.out.1]
  refine ⟨some ⟨w.heap.size, 0, none⟩, _, by rw [← hsz]; rfl, ⟨by simp [HOK.out.1], fun _ => ⟨w.heap.size, 0, rfl, by rw [Go.Lib.bytesWorld_size]; omega, fun j hj => ?_⟩⟩, bytes_below w _ _⟩
  rw [Nat.zero_add, Go.Lib.bytesWorld_cell _ _ _ _ (by rw [hsz]; exact hj), strOf_at b HOK.out.2 j (by rw [HOK.out.1]; exact hj)]
  simp [List.getD, show j < b.length by rw [HOK.out.1]; exact hj]

theorem rbad_arg {B : Nat} {L : RLoc} {dur : List Sec} {pend : List Wr} (n : Int) (w : World) (h : RAt B w L dur pend) (hn : n < 0 ∨ (dur.length : Int) ≤ n) :
    Calls Tryz.prog 17 #[L.ptr, .int .i64 n] w fun e w' => e = .returned (.int .i64 1) ∧ w = w' := by
  obtain ⟨h0, h1, h2⟩ := h.cell
  clear h h0 h2
  by_cases hneg : n < 0
  · clear hn
    go_enter Tryz.func17, Tryz.ntmps17
    unfold RLoc.ptr
    go_wp2
    go_ret
    exact ⟨rfl, rfl⟩
  · have hge : (dur.length : Int) ≤ n := by omega
    clear hn
    go_enter Tryz.func17, Tryz.ntmps17
    unfold RLoc.ptr
    go_wp2
    go_ret
    exact ⟨rfl, rfl⟩
end Go.Proofs.YtapdaeafeejknaaGreatDoor
