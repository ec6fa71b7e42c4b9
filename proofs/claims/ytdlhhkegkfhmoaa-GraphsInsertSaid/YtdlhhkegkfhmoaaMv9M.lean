/- Contracts of Index, Contains, hasOrder and turned. -/
import Derived.Test.YtdlhhkegkfhmoaaMv8M
namespace Go.Proofs.Ytdlhhkegkfhmoaa
open Go.RowKit
set_option linter.unusedVariables false
set_option linter.unusedSimpArgs false
set_option maxRecDepth 100000

theorem mem_at9 {s : List Int} {v : Int} : v ∈ s ↔ ∃ k, k < s.length ∧ s.getD k 0 = v := by
  constructor
  · intro h
    obtain ⟨k, hk, e⟩ := List.mem_iff_getElem.1 h
    exact ⟨k, hk, by rw [List.getD_eq_getElem?_getD, List.getElem?_eq_getElem hk]; exact e⟩
  · rintro ⟨k, hk, e⟩
    rw [List.getD_eq_getElem?_getD, List.getElem?_eq_getElem hk] at e
    exact List.mem_iff_getElem.2 ⟨k, hk, e⟩

set_option maxHeartbeats 1000000 in
theorem index_ints (A : Option Addr) (n c : Nat) (s : List Int) (v : Int) (w : World) (hA : Lies w A n (s.map (Value.int .i64))) (hn : n ≤ 281474976710656) :
    Calls Try.prog 58 #[.slice A n c, .int .i64 v] w fun e w' => ∃ r : Int, e = .returned (.int .i64 r) ∧ (0 ≤ r ↔ v ∈ s) ∧ Below w.heap.size w w' := by
  have hlen : s.length = n := by have := hA.len; simpa using this
  have HLEN := hide hlen
  have HA := hide hA
  clear hA hlen
  go_enter Try.func58, Try.ntmps58
  go_wp2
  go_loopw [8] (fun i wr => ∃ k : Nat, k ≤ n ∧ i = .int .i64 (k : Int) ∧ Hid (∀ j, j < k → ¬ s.getD j 0 = v) ∧ Hid (Below w.heap.size w wr)) (fun i _ => n - (intOf i).toNat)
  case atStart => exact ⟨0, Nat.zero_le _, rfl, hide (fun j hj => absurd hj (Nat.not_lt_zero _)), hide (Below.refl _ _)⟩
  case round =>
    obtain ⟨k, hk, rfl, HN, HB⟩ := hrel
    by_cases hlt : k < n
    · obtain ⟨b, o, e0, _, hx⟩ := byte_at (HA.out.below HB.out) (by omega)
      subst e0
      have hc := hx k hlt
      obtain ⟨x, hxx⟩ : ∃ z, z = s.getD k 0 := ⟨_, rfl⟩
      rw [← hxx] at hc
      have HX := hide hxx
      have h0 : (0 : Int) ≤ (k : Int) := by omega
      have h1 : (k : Int) < (n : Int) := by omega
      clear hx hxx
      by_cases hv : v = x
      · have e1 : (v == x) = true := by simpa using hv
        have HV := hide hv
        clear hv
        go_wp2
        go_ret
        exact ⟨(k : Int), rfl, ⟨fun _ => mem_at9.2 ⟨k, by rw [HLEN.out]; exact hlt, by rw [← HX.out, HV.out]⟩, fun _ => h0⟩, HB.out⟩
      · have e1 : (v == x) = false := by simpa using hv
        have HN2 : Hid (∀ j, j < k + 1 → ¬ s.getD j 0 = v) := hide (fun j hj => by
          by_cases e : j = k
          · subst e; rw [← HX.out]; exact fun h => hv h.symm
          · exact HN.out j (by omega))
        go_wp2
        go_roundw
        case rel => exact ⟨k + 1, by omega, by go_num, HN2, HB⟩
        case measure => simp [intOf]; omega
    · obtain rfl : n = k := by omega
      have h5 : ¬ ((n : Int) < (n : Int)) := by omega
      go_wp2
      go_ret
      refine ⟨-1, rfl, ⟨fun h => absurd h (by decide), fun h => ?_⟩, HB.out⟩
      obtain ⟨j, hj, e⟩ := mem_at9.1 h
      exact absurd e (HN.out j (by rw [← HLEN.out]; exact hj))

set_option maxHeartbeats 1000000 in
theorem contains_ints (A : Option Addr) (n c : Nat) (s : List Int) (v : Int) (w : World) (hA : Lies w A n (s.map (Value.int .i64))) (hn : n ≤ 281474976710656) :
    Calls Try.prog 54 #[.slice A n c, .int .i64 v] w fun e w' => e = .returned (.bool (decide (v ∈ s))) ∧ Below w.heap.size w w' := by
  go_enter Try.func54, Try.ntmps54
  go_wp2_with fail
  refine Calls.mono (index_ints A n c s v w hA hn) ?_
  rintro e w1 ⟨r, rfl, hr, hb⟩
  have HB := hide hb
  clear hb hA
  by_cases h0 : 0 ≤ r
  · have HD : Hid (decide (v ∈ s) = true) := hide (decide_eq_true (hr.1 h0))
    clear hr
    go_wp2
    go_ret
    exact ⟨by rw [HD.out]; rfl, HB.out⟩
  · have HD : Hid (decide (v ∈ s) = false) := hide (decide_eq_false (fun h => h0 (hr.2 h)))
    have HD2 : Hid (decide (0 ≤ r) = false) := hide (decide_eq_false h0)
    clear hr
    go_wp2
    go_ret
    refine ⟨?_, HB.out⟩
    rw [HD.out]
    show Ending.returned (.bool (decide (0 ≤ r))) = _
    rw [HD2.out]

/-- Has a list each of the first n numbers just once? -/
def ordOk (u : List Int) (n : Nat) : Bool := decide (u.length = n) && (List.range n).all (fun d => decide ((d : Int) ∈ u))

theorem ordOk_iff {u : List Int} {n : Nat} : ordOk u n = true ↔ u.length = n ∧ ∀ d, d < n → (d : Int) ∈ u := by
  simp [ordOk, List.all_eq_true]

/-- A list of numbers, each taken from another list at the place that a third one names. -/
def pickL (s u : List Int) : List Int := u.map (fun z => s.getD z.toNat 0)

theorem pickL_len (s u : List Int) : (pickL s u).length = u.length := by simp [pickL]

theorem pickL_at {s u : List Int} {k : Nat} (h : k < u.length) : (pickL s u).getD k 0 = s.getD (u.getD k 0).toNat 0 := by
  simp [pickL, List.getD, h]

theorem ord_in {u : List Int} {n : Nat} (h : ordOk u n = true) (hn : n ≤ 4) : ∀ k, k < n → 0 ≤ u.getD k 0 ∧ u.getD k 0 < (n : Int) := by
  obtain ⟨hl, hm⟩ := ordOk_iff.1 h
  match n, u, hl with
  | 0, _, _ => intro k hk; omega
  | 1, [a], _ =>
    have h0 := hm 0 (by omega)
    simp at h0
    intro k hk
    obtain rfl : k = 0 := by omega
    simp; omega
  | 2, [a, b], _ =>
    have h0 := hm 0 (by omega)
    have h1 := hm 1 (by omega)
    simp at h0 h1
    intro k hk
    match k, hk with
    | 0, _ => simp; omega
    | 1, _ => simp; omega
  | 3, [a, b, c], _ =>
    have h0 := hm 0 (by omega)
    have h1 := hm 1 (by omega)
    have h2 := hm 2 (by omega)
    simp at h0 h1 h2
    intro k hk
    match k, hk with
    | 0, _ => simp; omega
    | 1, _ => simp; omega
    | 2, _ => simp; omega
  | 4, [a, b, c, d], _ =>
    have h0 := hm 0 (by omega)
    have h1 := hm 1 (by omega)
    have h2 := hm 2 (by omega)
    have h3 := hm 3 (by omega)
    simp at h0 h1 h2 h3
    intro k hk
    match k, hk with
    | 0, _ => simp; omega
    | 1, _ => simp; omega
    | 2, _ => simp; omega
    | 3, _ => simp; omega
  | n + 5, _, _ => omega

end Go.Proofs.Ytdlhhkegkfhmoaa
