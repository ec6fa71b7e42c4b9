/- Contracts of Beyond: whether the sum of some lengths is above 1048576. -/
import Derived.Test.YtlalfjlcgabnnaaGreatDoorCells
namespace Go.Proofs.YtlalfjlcgabnnaaGreatDoor
open Go.RowKit

def sumTo (zs : List Int) (k : Nat) : Int := (zs.take k).sum

theorem sumTo_snoc (zs : List Int) (k : Nat) (h : k < zs.length) : sumTo zs (k + 1) = sumTo zs k + zs.getD k 0 := by
  have e : zs.getD k 0 = zs[k] := by simp [List.getD, h]
  rw [e, sumTo, List.take_succ_eq_append_getElem h, List.sum_append]
  simp [sumTo]

theorem sumTo_all (zs : List Int) : sumTo zs zs.length = zs.sum := by rw [sumTo, List.take_length]

theorem sum_nonneg : ∀ (l : List Int), (∀ z ∈ l, 0 ≤ z) → 0 ≤ l.sum
  | [], _ => by simp
  | z :: l, h => by
    have h1 := h z (by simp)
    have h2 := sum_nonneg l (fun x hx => h x (by simp [hx]))
    simp only [List.sum_cons]
    omega

theorem sumTo_le (zs : List Int) (k : Nat) (h : ∀ z ∈ zs, 0 ≤ z) : 0 ≤ sumTo zs k ∧ sumTo zs k ≤ zs.sum := by
  constructor
  · exact sum_nonneg _ (fun z hz => h z (List.mem_of_mem_take hz))
  · have h1 := sum_nonneg (zs.drop k) (fun z hz => h z (List.mem_of_mem_drop hz))
    have h2 : zs.sum = (zs.take k).sum + (zs.drop k).sum := by rw [← List.sum_append, List.take_append_drop]
    unfold sumTo
    omega

set_option maxHeartbeats 400000 in
theorem beyond_no (A : Option Addr) (n c : Nat) (zs : List Int) (w : World) (h : Lies w A n (zs.map (Value.int .i64))) (h0 : ∀ z ∈ zs, 0 ≤ z) (hs : zs.sum ≤ 1048576) (hm : n ≤ 281474976710656) :
    Calls Tryz.prog 4 #[.slice A n c] w fun e w' => e = .returned (.bool false) ∧ w = w' := by
  have HL := hide h
  have HN := hide h0
  have hlen : zs.length = n := by have := h.len; simpa using this
  have HLEN := hide hlen
  clear h h0 hlen
  go_enter Tryz.func4, Tryz.ntmps4
  go_wp2
  go_loop [3, 4] (fun s i => ∃ k : Nat, k ≤ n ∧ i = .int .i64 k ∧ s = .int .i64 (sumTo zs k)) (fun _ i => n - (intOf i).toNat)
  case atStart => exact ⟨0, Nat.zero_le _, rfl, rfl⟩
  case round =>
    obtain ⟨k, hk, rfl, rfl⟩ := hrel
    by_cases hlt : k < n
    · obtain ⟨b, o, rfl, _, hx⟩ := byte_at HL.out (by omega)
      obtain ⟨z, hz⟩ : ∃ z, z = zs.getD k 0 := ⟨_, rfl⟩
      have hc : w.cell? ⟨b, o + k, none⟩ = some (.int .i64 z) := by rw [hz]; exact hx k hlt
      have hsn := sumTo_snoc zs k (by rw [HLEN.out]; exact hlt)
      have hl1 := sumTo_le zs k HN.out
      have hl2 := sumTo_le zs (k + 1) HN.out
      rw [← hz] at hsn
      obtain ⟨s, hS⟩ : ∃ s, s = sumTo zs k := ⟨_, rfl⟩
      rw [← hS] at hsn hl1 ⊢
      have b1 : 0 ≤ s := hl1.1
      have b2 : s ≤ 1048576 := by omega
      have b3 : 0 ≤ s + z := by omega
      have b4 : s + z ≤ 1048576 := by omega
      have HSN := hide hsn
      clear hx hz hsn hl1 hl2 hS
      go_wp2
      go_round
      case rel => exact ⟨k + 1, by omega, by go_num, by rw [HSN.out]⟩
      case measure => simp [intOf]; omega
    · go_wp2
      go_ret
      exact ⟨rfl, rfl⟩

set_option maxHeartbeats 400000 in
theorem beyond_yes (A : Option Addr) (n c : Nat) (zs : List Int) (w : World) (h : Lies w A n (zs.map (Value.int .i64))) (h0 : ∀ z ∈ zs, 0 ≤ z ∧ z ≤ 281474976710656) (hs : 1048576 < zs.sum) (hm : n ≤ 281474976710656) :
    Calls Tryz.prog 4 #[.slice A n c] w fun e w' => e = .returned (.bool true) ∧ w = w' := by
  have HL := hide h
  have HN := hide h0
  have hlen : zs.length = n := by have := h.len; simpa using this
  have HLEN := hide hlen
  clear h h0 hlen
  go_enter Tryz.func4, Tryz.ntmps4
  go_wp2
  go_loop [3, 4] (fun s i => ∃ k : Nat, k ≤ n ∧ i = .int .i64 k ∧ s = .int .i64 (sumTo zs k) ∧ sumTo zs k ≤ 1048576) (fun _ i => n - (intOf i).toNat)
  case atStart => exact ⟨0, Nat.zero_le _, rfl, rfl, by simp [sumTo]⟩
  case round =>
    obtain ⟨k, hk, rfl, rfl, hle⟩ := hrel
    by_cases hlt : k < n
    · obtain ⟨b, o, rfl, _, hx⟩ := byte_at HL.out (by omega)
      obtain ⟨z, hz⟩ : ∃ z, z = zs.getD k 0 := ⟨_, rfl⟩
      have hc : w.cell? ⟨b, o + k, none⟩ = some (.int .i64 z) := by rw [hz]; exact hx k hlt
      have hsn := sumTo_snoc zs k (by rw [HLEN.out]; exact hlt)
      have hl1 := sumTo_le zs k (fun z hz => (HN.out z hz).1)
      have hzb : 0 ≤ z ∧ z ≤ 281474976710656 := by
        rw [hz]
        have := HN.out (zs[k]'(by rw [HLEN.out]; exact hlt)) (List.getElem_mem _)
        simpa [List.getD, show k < zs.length by rw [HLEN.out]; exact hlt] using this
      rw [← hz] at hsn
      obtain ⟨s, hS⟩ : ∃ s, s = sumTo zs k := ⟨_, rfl⟩
      rw [← hS] at hsn hl1 hle ⊢
      have b1 : 0 ≤ s := hl1.1
      have b3 : 0 ≤ z := hzb.1
      have b4 : z ≤ 281474976710656 := hzb.2
      have HSN := hide hsn
      clear hx hz hsn hl1 hzb hS
      by_cases hgo : s + z ≤ 1048576
      · go_wp2
        go_round
        case rel => exact ⟨k + 1, by omega, by go_num, by rw [HSN.out], by rw [HSN.out]; exact hgo⟩
        case measure => simp [intOf]; omega
      · go_wp2
        go_ret
        exact ⟨rfl, rfl⟩
    · exfalso
      have h1 := sumTo_all zs
      rw [HLEN.out, show n = k from by omega] at h1
      omega

end Go.Proofs.YtlalfjlcgabnnaaGreatDoor
