/- The visit of a list from its last element on: for each closure, what the closure does to the world at each place is done for all places. -/
import Derived.Test.YtlalfjlcgabnnaaGreatDoorCells
namespace Go.Proofs.YtlalfjlcgabnnaaGreatDoor
open Go.RowKit

def voidV : Value := .tuple #[]

set_option maxRecDepth 100000 in
set_option maxHeartbeats 1000000 in
theorem visit_size (I : Nat → World → Prop) (A : Option Addr) (n c : Nat) (xs : List Int) (p0 : Addr) (w : World) (hn : n ≤ 281474976710656)
    (hstep : ∀ (k : Nat) (wr : World), k < n → I (k + 1) wr → Calls Tryz.prog 114 #[.int .i64 (k : Int), .int .i64 (xs.getD k 0), .pointer (some p0)] wr fun e w' => e = .returned voidV ∧ I k w')
    (hkeep : ∀ k wr, I k wr → Lies wr A n (xs.map (Value.int .i64))) (h0 : I n w) :
    Calls Tryz.prog 113 #[.func (.func 114) #[] #[.pointer (some p0)], .slice A n c] w fun e w' => e = .returned voidV ∧ I 0 w' := by
  have HS := hide hstep
  have HK := hide hkeep
  have H0 : Hid (I n w) := hide h0
  clear hstep hkeep h0
  go_enter Tryz.func113, Tryz.ntmps113
  go_wp2
  go_loopw [4] (fun i wr => ∃ k : Nat, k ≤ n ∧ i = .int .i64 ((k : Int) - 1) ∧ Hid (I k wr)) (fun i _ => (intOf i + 1).toNat)
  case atStart => exact ⟨n, Nat.le_refl _, rfl, H0⟩
  case round =>
    obtain ⟨k, hk, rfl, HI⟩ := hrel
    cases k with
    | zero =>
      go_wp2
      go_end0
      exact ⟨rfl, HI.out⟩
    | succ m =>
      obtain ⟨b, o, rfl, _, hx⟩ := byte_at (HK.out _ _ HI.out) (by omega)
      have hc := hx m (by omega)
      clear hx
      have hm1 : (((m + 1 : Nat) : Int) - 1) = (m : Int) := by omega
      rw [hm1]
      clear hm1
      obtain ⟨z, hz⟩ : ∃ z, z = xs.getD m 0 := ⟨_, rfl⟩
      rw [← hz] at hc
      have h3 : (m : Int) < (n : Int) := by omega
      have HZ := hide hz
      clear hz
      go_wp2_with fail
      refine Calls.mono (by rw [HZ.out]; exact HS.out m wr (by omega) HI.out) ?_
      rintro e w2 ⟨rfl, hi2⟩
      have HI2 := hide hi2
      clear hi2 HI
      go_wp2
      go_roundw
      case rel => exact ⟨m, by omega, by go_num, HI2⟩
      case measure => simp [intOf]

end Go.Proofs.YtlalfjlcgabnnaaGreatDoor
