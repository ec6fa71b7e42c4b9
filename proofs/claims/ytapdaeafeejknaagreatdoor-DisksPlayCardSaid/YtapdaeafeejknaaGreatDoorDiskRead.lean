/- Contracts of exists, checkSector, Len, Waits and Read of package disks, on a disk that is there. -/
import Derived.Test.YtapdaeafeejknaaGreatDoorDisk
namespace Go.Proofs.YtapdaeafeejknaaGreatDoor
open Go.RowKit
set_option maxRecDepth 20000

theorem Tryz.infoSec : (Tryz.prog.info? 87).map (·.size) = some 65 := by kernel_rfl
theorem Tryz.infoWr : (Tryz.prog.info? 83).map (·.size) = some 67 := by kernel_rfl
theorem Tryz.infoCo : (Tryz.prog.info? 81).map (·.size) = some 64 := by kernel_rfl
def zSec : Array Value := (List.replicate 64 (Value.int .u8 0) ++ [Value.bool false]).toArray
theorem Tryz.zeroSec : (Tryz.prog.info? 87).map (fun i => (i.zero, i.size, i.bytes)) = some (some (.agg zSec), 65, 65) := by kernel_rfl

set_option maxHeartbeats 400000 in
theorem exists_any {B : Nat} {L : Loc} {dur : List Sec} {pend : List Wr} (w : World) (h : DiskAt B w L dur pend) : Calls Tryz.prog 32 #[L.ptr] w fun e w' => e = .returned (.bool true) ∧ w = w' := by
  have h1 := h.cell.2.1
  have hp := h.pos
  have hm := h.max
  unfold Loc.ptr
  clear h
  go_enter Tryz.func32, Tryz.ntmps32
  go_wp2
  go_ret
  exact ⟨by simp, rfl⟩
set_option maxHeartbeats 400000 in
theorem check_any {B : Nat} {L : Loc} {dur : List Sec} {pend : List Wr} (n : Int) (w : World) (h : DiskAt B w L dur pend) : Calls Tryz.prog 30 #[L.ptr, .int .i64 n] w fun e w' => e = .returned (.int .i64 (if n < 0 ∨ (dur.length : Int) ≤ n then 1 else 0)) ∧ w = w' := by
  have HD := hide h
  have h1 := h.cell.2.1
  clear h
  have hp := HD.out.max
  by_cases hc : n < 0 ∨ (dur.length : Int) ≤ n
  · rw [if_pos hc]
    rcases hc with hc | hc
    all_goals
      go_enter Tryz.func30, Tryz.ntmps30
      go_wp2_with fail
      refine Calls.mono (exists_any _ HD.out) ?_
      rintro e w1 ⟨rfl, rfl⟩
      unfold Loc.ptr
      go_wp2
      go_ret
      exact ⟨rfl, rfl⟩
  · rw [if_neg hc]
    have a1 : 0 ≤ n := by omega
    have a2 : n < (dur.length : Int) := by omega
    clear hc
    go_enter Tryz.func30, Tryz.ntmps30
    go_wp2_with fail
    refine Calls.mono (exists_any _ HD.out) ?_
    rintro e w1 ⟨rfl, rfl⟩
    unfold Loc.ptr
    go_wp2
    go_ret
    exact ⟨rfl, rfl⟩
set_option maxHeartbeats 400000 in
theorem len_any {B : Nat} {L : Loc} {dur : List Sec} {pend : List Wr} (w : World) (h : DiskAt B w L dur pend) : Calls Tryz.prog 18 #[L.ptr] w fun e w' => e = .returned (.int .i64 dur.length) ∧ w = w' := by
  have HD := hide h
  have h1 := h.cell.2.1
  clear h
  go_enter Tryz.func18, Tryz.ntmps18
  go_wp2_with fail
  refine Calls.mono (exists_any _ HD.out) ?_
  rintro e w1 ⟨rfl, rfl⟩
  unfold Loc.ptr
  go_wp2
  go_ret
  exact ⟨rfl, rfl⟩
theorem waits_form {B : Nat} {w : World} {e : TypeId} {s : Nat} {v : Value} {n : Nat} {xs : List Value} (h : w.ownsRow B e s v n xs) : ∃ A c, v = .slice A n c := by
  rcases h.2 with ⟨rfl, rfl⟩ | ⟨g, c, _, rfl, _⟩
  · exact ⟨_, _, rfl⟩
  · exact ⟨_, _, rfl⟩
set_option maxHeartbeats 400000 in
theorem waits_any {B : Nat} {L : Loc} {dur : List Sec} {pend : List Wr} (w : World) (h : DiskAt B w L dur pend) : Calls Tryz.prog 20 #[L.ptr] w fun e w' => e = .returned (.int .i64 pend.length) ∧ w = w' := by
  have HD := hide h
  have h1 := h.cell.2.2
  obtain ⟨A, c, hp⟩ := waits_form h.waits
  rw [hp] at h1
  clear h hp
  go_enter Tryz.func20, Tryz.ntmps20
  go_wp2_with fail
  refine Calls.mono (exists_any _ HD.out) ?_
  rintro e w1 ⟨rfl, rfl⟩
  unfold Loc.ptr
  go_wp2
  go_ret
  exact ⟨rfl, rfl⟩
set_option maxHeartbeats 400000 in
theorem read_arg {B : Nat} {L : Loc} {dur : List Sec} {pend : List Wr} (n : Int) (w : World) (h : DiskAt B w L dur pend) (hn : n < 0 ∨ (dur.length : Int) ≤ n) : Calls Tryz.prog 23 #[L.ptr, .int .i64 n] w fun e w' => e = .returned (.tuple #[.slice none 0 0, .int .i64 1]) ∧ w = w' := by
  have HD := hide h
  have HC := hide (check_any n w h)
  clear h
  rw [if_pos hn] at HC
  clear hn
  go_enter Tryz.func23, Tryz.ntmps23
  go_wp2_with fail
  refine Calls.mono HC.out ?_
  rintro e w1 ⟨rfl, rfl⟩
  go_wp2
  go_ret2
  exact ⟨rfl, rfl⟩
def rdV (bad : Bool) (g : Nat) : Value := if bad then .slice none 0 0 else .slice (some ⟨g, 0, none⟩) 64 64
def rdE (bad : Bool) : Value := .int .i64 (if bad then 12 else 0)
set_option maxHeartbeats 800000 in
theorem read_ok {B : Nat} {L : Loc} {dur : List Sec} {pend : List Wr} (n : Nat) (w : World) (h : DiskAt B w L dur pend) (hn : n < dur.length) (s : Sec) (hs : s = secAt (seenOf dur pend) n) :
    Calls Tryz.prog 23 #[L.ptr, .int .i64 (n : Int)] w fun e w' => e = .returned (.tuple #[rdV s.bad w.heap.size, rdE s.bad]) ∧ w' = w.alloc (.cells (secV s).toArray 87) := by
  have HD := hide h
  have HC := hide (check_any (n : Int) w h)
  rw [if_neg (by omega)] at HC
  have h1 := h.cell.1
  have hc := h.seenAt hn
  rw [← hs] at hc
  have hok := seen_ok h.okS (fun x hx => (h.okW x hx).1)
  have hsl : (secV s).length = 65 := by rw [hs]; exact secV_len (secAt_ok hok (by rw [seen_len]; exact hn))
  have hmx := h.max
  have HCE := hide hc
  have HSL := hide hsl
  clear h hc hok hs
  obtain ⟨i, hi, hz0, hz1, hz2⟩ := info_parts Tryz.zeroSec
  have HI := hide hi
  have HZ0 := hide hz0
  have HZS : Hid (zSec.size = i.size) := hide (by rw [hz1]; rfl)
  have HIS : Hid (i.size = (secV s).length) := hide (by rw [hz1, hsl])
  clear hi hz0 hz1 hz2 hsl
  have hb : (w.alloc (.cells (secV s).toArray 87)).cell? ⟨w.heap.size, 64, none⟩ = some (.bool s.bad) := by
    have : s.b.length = 64 := by have := HSL.out; simp [secV] at this; omega
    simp [secV, this]
  obtain ⟨bad, hbad⟩ : ∃ bad, bad = s.bad := ⟨_, rfl⟩
  rw [← hbad] at hb ⊢
  clear hbad
  cases bad
  all_goals
    go_enter Tryz.func23, Tryz.ntmps23
    go_wp2_with fail
    refine Calls.mono HC.out ?_
    rintro e w1 ⟨rfl, rfl⟩
    unfold Loc.ptr
    go_wp2_with (first | (refine wpList_load_mid rfl 87 _ rfl _ _ (secV s) _ rfl HCE.out Tryz.underlying87 rfl (by rw [HSL.out]; exact Tryz.infoSec) ?_) | (refine wpList_alloc_store rfl rfl 87 rfl _ _ rfl zSec i HI.out HZ0.out HZS.out (secV s) rfl rfl HIS.out (secV_one s) ?_))
    go_ret2
    exact ⟨rfl, rfl⟩
end Go.Proofs.YtapdaeafeejknaaGreatDoor
