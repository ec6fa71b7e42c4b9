/- Contracts of Size and Check of package shapes, over the size in plain words; nothing that was there is changed. -/
import Derived.Test.YtlalfjlcgabnnaaGreatDoorShape
namespace Go.Proofs.YtlalfjlcgabnnaaGreatDoor
open Go.RowKit
set_option linter.unusedVariables false
set_option linter.unusedSimpArgs false

/-- The product of what the dimensions count for. -/
def prodZ : List Int → Int
  | [] => 1
  | d :: l => dz d * prodZ l

theorem prodZ_nonneg : ∀ l, 0 ≤ prodZ l
  | [] => by simp [prodZ]
  | d :: l => Int.mul_nonneg (dz_nonneg d) (prodZ_nonneg l)

theorem prodZ_le : ∀ l, prodZ l ≤ ((64 ^ l.length : Nat) : Int)
  | [] => by simp [prodZ]
  | d :: l => by
    have h1 := prodZ_le l
    have h2 := dz_le d
    have h3 := dz_nonneg d
    have h4 := prodZ_nonneg l
    have h5 : dz d * prodZ l ≤ 64 * ((64 ^ l.length : Nat) : Int) := Int.mul_le_mul h2 h1 h4 (by omega)
    simp only [prodZ, List.length_cons, Nat.pow_succ]
    omega

theorem prodZ_append (a b : List Int) : prodZ (a ++ b) = prodZ a * prodZ b := by
  induction a with
  | nil => simp [prodZ]
  | cons d l ih => simp [prodZ, ih, Int.mul_assoc]

theorem pow64_le {m : Nat} (h : m ≤ 4) : 64 ^ m ≤ 16777216 := by
  have := Nat.pow_le_pow_right (n := 64) (by omega) h
  simpa using this

theorem prodZ_small {l : List Int} (h : l.length ≤ 4) : prodZ l ≤ 16777216 := by
  have h1 := prodZ_le l
  have h2 := pow64_le h
  omega

theorem drop_at {xs : List Int} {k : Nat} (h : k < xs.length) : xs.drop k = xs.getD k 0 :: xs.drop (k + 1) := by
  rw [List.drop_eq_getElem_cons h]
  simp [List.getD, h]

theorem prodZ_drop {xs : List Int} {k : Nat} (h : k < xs.length) : prodZ (xs.drop (k + 1)) * dz (xs.getD k 0) = prodZ (xs.drop k) := by
  rw [drop_at h, prodZ, Int.mul_comm]

/-- How many numbers a tensor of this shape has, or 0. -/
def sizeI (xs : List Int) : Int := if xs.length < 1 ∨ 4 < xs.length then 0 else if 4096 < prodZ xs then 0 else prodZ xs

theorem sizeI_nonneg (xs : List Int) : 0 ≤ sizeI xs := by
  unfold sizeI
  have := prodZ_nonneg xs
  split
  · omega
  · split <;> omega

theorem sizeI_le (xs : List Int) : sizeI xs ≤ 4096 := by
  unfold sizeI
  split
  · omega
  · split <;> omega

theorem sizeI_pos {xs : List Int} (h : 0 < sizeI xs) : 1 ≤ xs.length ∧ xs.length ≤ 4 ∧ sizeI xs = prodZ xs := by
  unfold sizeI at h ⊢
  split at h
  · omega
  · split at h
    · omega
    · rename_i h1 h2
      rw [if_neg h1, if_neg h2]
      omega

theorem prodZ_pos_all : ∀ {xs : List Int}, 0 < prodZ xs → ∀ d ∈ xs, 1 ≤ d ∧ d ≤ 64 ∧ dz d = d
  | [], _, d, hd => by cases hd
  | x :: l, h, d, hd => by
    have h4 := prodZ_nonneg l
    have hx := dz_nonneg x
    have h0 : dz x ≠ 0 := by intro e; simp [prodZ, e] at h
    have hl0 : prodZ l ≠ 0 := by intro e; simp [prodZ, e] at h
    have hxx : 1 ≤ x ∧ x ≤ 64 ∧ dz x = x := by
      unfold dz at h0 ⊢
      split at h0
      · omega
      · rename_i h1
        rw [if_neg h1]
        omega
    rcases List.mem_cons.1 hd with rfl | hd
    · exact hxx
    · exact prodZ_pos_all (by omega) d hd

set_option maxRecDepth 100000 in
set_option maxHeartbeats 1000000 in
theorem size_any (A : Option Addr) (n c : Nat) (xs : List Int) (w : World) (hA : Lies w A n (xs.map (Value.int .i64))) (hn : n ≤ 281474976710656) :
    Calls Tryz.prog 78 #[.slice A n c] w fun e w' => e = .returned (.int .i64 (sizeI xs)) ∧ Below w.heap.size w w' := by
  have hlen : xs.length = n := by have := hA.len; simpa using this
  have HA := hide hA
  have HLEN := hide hlen
  clear hA
  by_cases h1 : n < 1
  · have HS : Hid (sizeI xs = 0) := hide (by rw [sizeI, if_pos (by omega)])
    clear hlen
    go_enter Tryz.func78, Tryz.ntmps78
    go_wp2
    go_ret
    exact ⟨by rw [HS.out]; rfl, Below.refl _ _⟩
  · by_cases h4 : 4 < n
    · have HS : Hid (sizeI xs = 0) := hide (by rw [sizeI, if_pos (by omega)])
      clear hlen
      go_enter Tryz.func78, Tryz.ntmps78
      go_wp2
      go_ret
      exact ⟨by rw [HS.out]; rfl, Below.refl _ _⟩
    · have HV := hide (visit_size (fun k wr => Box1 wr w.heap.size 3 (.int .i64 (prodZ (xs.drop k))) ∧ Below w.heap.size w wr) A n c xs ⟨w.heap.size, 0, none⟩ (w.alloc (.cells #[.int .i64 1] 3)) hn
        (fun k wr hk hI => by
          refine Calls.mono (size_step w.heap.size (prodZ (xs.drop (k + 1))) (xs.getD k 0) k wr hI.1 (prodZ_nonneg _) ?_) ?_
          · have := prodZ_small (l := xs.drop (k + 1)) (by rw [List.length_drop]; omega)
            omega
          · rintro e w' ⟨rfl, q, rfl⟩
            refine ⟨rfl, ?_, below_drewN (hI.2.setCell (Nat.le_refl _) _) q⟩
            have e := prodZ_drop (xs := xs) (k := k) (by omega)
            have hs := hI.1.set (.int .i64 (prodZ (xs.drop (k + 1)) * dz (xs.getD k 0)))
            rw [e] at hs ⊢
            exact hs)
        (fun k wr hI => HA.out.below hI.2)
        ⟨by rw [List.drop_eq_nil_of_le (by omega)]; exact Box1.new _ _ _, (Below.refl _ _).alloc (Nat.le_refl _) _⟩)
      have hp := prodZ_small (l := xs) (by omega)
      have hp0 := prodZ_nonneg xs
      have HS := hide (show sizeI xs = if 4096 < prodZ xs then 0 else prodZ xs by rw [sizeI, if_neg (by omega)])
      clear hlen
      go_enter Tryz.func78, Tryz.ntmps78
      go_wp2_with fail
      refine Calls.mono HV.out ?_
      rintro e w2 ⟨rfl, hb, hbel⟩
      rw [List.drop_zero] at hb
      have hc := hb.cell
      have HB := hide hbel
      clear hb hbel
      obtain ⟨y, hy⟩ : ∃ y, y = prodZ xs := ⟨_, rfl⟩
      rw [← hy] at hp hp0 hc
      have HY := hide hy
      clear hy
      by_cases hbig : 4096 < y
      · go_wp2
        go_ret
        exact ⟨by rw [HS.out, ← HY.out, if_pos hbig]; rfl, HB.out⟩
      · go_wp2
        go_ret
        exact ⟨by rw [HS.out, ← HY.out, if_neg (by omega)]; rfl, HB.out⟩

set_option maxRecDepth 100000 in
theorem check_any (A : Option Addr) (n c : Nat) (xs : List Int) (w : World) (hA : Lies w A n (xs.map (Value.int .i64))) (hn : n ≤ 281474976710656) :
    Calls Tryz.prog 27 #[.slice A n c] w fun e w' => e = .returned (.bool (decide (0 < sizeI xs))) ∧ Below w.heap.size w w' := by
  have HA := hide hA
  clear hA
  go_enter Tryz.func27, Tryz.ntmps27
  go_wp2_with fail
  refine Calls.mono (size_any A n c xs w HA.out hn) ?_
  rintro e w2 ⟨rfl, hb⟩
  have HB := hide hb
  clear hb
  obtain ⟨y, hy⟩ : ∃ y, y = sizeI xs := ⟨_, rfl⟩
  rw [← hy]
  have HY := hide hy
  clear hy
  go_wp2
  go_ret
  exact ⟨by rw [← HY.out]; rfl, HB.out⟩

end Go.Proofs.YtlalfjlcgabnnaaGreatDoor
