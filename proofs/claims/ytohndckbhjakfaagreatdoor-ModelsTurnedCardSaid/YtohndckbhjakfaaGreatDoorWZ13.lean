/- Merged: Mv8, Mv9. -/
import Derived.Test.YtohndckbhjakfaaGreatDoorWZ12
namespace Go.Proofs.YtohndckbhjakfaaGreatDoor

section
open Go.RowKit
set_option linter.unusedVariables false
set_option linter.unusedSimpArgs false
set_option maxRecDepth 100000

def mix9 (zs l : List Int) (k : Nat) : List Int := zs.take k ++ l.drop k

theorem mix9_zero (zs l : List Int) : mix9 zs l 0 = l := by simp [mix9]

theorem mix9_all {zs l : List Int} (h : zs.length = l.length) : mix9 zs l l.length = zs := by
  rw [mix9, List.drop_length, List.append_nil, List.take_of_length_le (by omega)]

theorem mix9_len {zs l : List Int} {k : Nat} (h : zs.length = l.length) (hk : k ≤ l.length) : (mix9 zs l k).length = l.length := by
  simp [mix9]
  omega

theorem mix9_set {zs l : List Int} {k : Nat} (h : zs.length = l.length) (hk : k < l.length) : (mix9 zs l k).set k (zs.getD k 0) = mix9 zs l (k + 1) := by
  apply List.ext_getElem?
  intro j
  have hl : (zs.take k).length = k := by simp; omega
  by_cases e : j = k
  · subst e
    rw [List.getElem?_set_self (by rw [mix9_len h (by omega)]; exact hk), mix9, List.getElem?_append_left (by simp; omega), List.getElem?_take_of_lt (by omega)]
    simp [List.getD, show j < zs.length by omega]
  · rw [List.getElem?_set_ne (by omega)]
    unfold mix9
    by_cases h1 : j < k
    · rw [List.getElem?_append_left (by simp; omega), List.getElem?_append_left (by simp; omega), List.getElem?_take_of_lt h1, List.getElem?_take_of_lt (by omega)]
    · rw [List.getElem?_append_right (by simp; omega), List.getElem?_append_right (by simp; omega), List.getElem?_drop, List.getElem?_drop]
      congr 1
      simp
      omega

/-- What moves.Sum answers. -/
def smE (s : List Int) (m : Nat) (d : Int) : Int := if tenOk s m = true ∧ 0 ≤ d ∧ d < (s.length : Int) then 0 else 1

/-- The first q numbers along the direction, at the k-th place of the others. -/
def sumN9 (l : List Int) (K st k : Nat) : Nat → Int
  | 0 => 0
  | q + 1 => add32 (sumN9 l K st k q) (l.getD ((k / st * K + q) * st + k % st) 0)

def sumL9 (l : List Int) (K st R : Nat) : List Int := (List.range R).map fun k => sumN9 l K st k K

theorem sumL9_len (l : List Int) (K st R : Nat) : (sumL9 l K st R).length = R := by simp [sumL9]

theorem sumL9_at {l : List Int} {K st R k : Nat} (h : k < R) : (sumL9 l K st R).getD k 0 = sumN9 l K st k K := by
  simp [sumL9, List.getD, h]

def smS (s : List Int) (m : Nat) (d : Int) : List Int := if smE s m d = 0 then woL s d.toNat else []

def smL (s : List Int) (m : Nat) (l : List Int) (d : Int) : List Int :=
  if smE s m d = 0 then sumL9 l (s.getD d.toNat 0).toNat (prodZ (s.drop (d.toNat + 1))).toNat ((prodZ (s.take d.toNat)).toNat * (prodZ (s.drop (d.toNat + 1))).toNat) else []

theorem wo_facts {s : List Int} {m a : Nat} (h : tenOk s m = true) (ha : a < s.length) : ∃ P KK st : Nat, s.getD a 0 = (KK : Int) ∧ prodZ (s.drop (a + 1)) = (st : Int) ∧ prodZ (s.take a) = (P : Int) ∧ m = P * KK * st ∧ 1 ≤ P ∧ 1 ≤ KK ∧ 1 ≤ st ∧ sizeI (woL s a) = ((P * st : Nat) : Int) ∧ m ≤ 4096 := by
  obtain ⟨q1, q2⟩ := tenOk_iff.1 h
  obtain ⟨l1, l4, hz⟩ := sizeI_pos q1
  have hm4 := sizeI_le s
  have hd := (size_dims q1).at (k := a) ha
  have e1 : prodZ s = prodZ (s.take a) * prodZ (s.drop a) := by rw [← prodZ_append, List.take_append_drop]
  have e2 := prodZ_drop (xs := s) (k := a) ha
  rw [hd.2.2] at e2
  have n1 := prodZ_nonneg (s.take a)
  have n2 := prodZ_nonneg (s.drop (a + 1))
  obtain ⟨P, hP⟩ := Int.eq_ofNat_of_zero_le n1
  obtain ⟨st, hst⟩ := Int.eq_ofNat_of_zero_le n2
  obtain ⟨KK, hKK⟩ := Int.eq_ofNat_of_zero_le (show 0 ≤ s.getD a 0 by omega)
  have em : m = P * KK * st := by
    have e3 : (m : Int) = (P : Int) * ((st : Int) * (KK : Int)) := by rw [← q2, hz, e1, ← e2, hP, hst, hKK]
    rw [← Int.natCast_mul, ← Int.natCast_mul] at e3
    have e4 := Int.ofNat_inj.1 e3
    rw [e4, Nat.mul_comm st KK, Nat.mul_assoc]
  have hm1 : 1 ≤ m := by omega
  have p1 : 1 ≤ P := by
    rcases Nat.eq_zero_or_pos P with e | e
    · rw [e, Nat.zero_mul, Nat.zero_mul] at em; omega
    · exact e
  have s1 : 1 ≤ st := by
    rcases Nat.eq_zero_or_pos st with e | e
    · rw [e, Nat.mul_zero] at em; omega
    · exact e
  have k1 : 1 ≤ KK := by have := hd.1; omega
  have hle : P * st ≤ m := by
    rw [em]
    exact Nat.mul_le_mul_right _ (Nat.le_mul_of_pos_right _ (by omega))
  refine ⟨P, KK, st, hKK, hst, hP, em, p1, k1, s1, ?_, by omega⟩
  by_cases h1 : s.length = 1
  · rw [woL_one h1]
    obtain rfl : a = 0 := by omega
    have t0 : (P : Int) = 1 := by simpa [prodZ] using hP.symm
    have t1 : (st : Int) = 1 := by
      rw [List.drop_eq_nil_of_le (by omega)] at hst
      simpa [prodZ] using hst.symm
    obtain rfl : P = 1 := by omega
    obtain rfl : st = 1 := by omega
    decide
  · rw [woL_more h1]
    have hl : (s.take a ++ s.drop (a + 1)).length = s.length - 1 := by rw [List.length_append, List.length_take, List.length_drop]; omega
    have hpz : prodZ (s.take a ++ s.drop (a + 1)) = ((P * st : Nat) : Int) := by rw [prodZ_append, hP, hst]; rfl
    unfold sizeI
    rw [if_neg (by omega), hpz, if_neg (by omega)]

end

section
open Go.RowKit
set_option linter.unusedVariables false
set_option linter.unusedSimpArgs false
set_option maxRecDepth 100000

theorem mem_at9 {s : List Int} {v : Int} : v ∈ s ↔ ∃ k, k < s.length ∧ s.getD k 0 = v := by
  constructor
  · intro h
    obtain ⟨k, hk, e⟩ := List.mem_iff_getElem.1 h
    exact ⟨k, hk, by rw [List.getD_eq_getElem?_getD, List.getElem?_eq_getElem hk]; exact e⟩
  · rintro ⟨k, hk, e⟩
    rw [List.getD_eq_getElem?_getD, List.getElem?_eq_getElem hk] at e
    exact List.mem_iff_getElem.2 ⟨k, hk, e⟩

set_option maxHeartbeats 1000000 in
theorem index_ints (A : Option Addr) (n c : Nat) (s : List Int) (v : Int) (w : World) (hA : Lies w A n (s.map (Value.int .i64))) (hn : n ≤ 281474976710656) :
    Calls Tryz.prog 135 #[.slice A n c, .int .i64 v] w fun e w' => ∃ r : Int, e = .returned (.int .i64 r) ∧ (0 ≤ r ↔ v ∈ s) ∧ Below w.heap.size w w' := by
  have hlen : s.length = n := by have := hA.len; simpa using this
  have HLEN := hide hlen
  have HA := hide hA
  clear hA hlen
  go_enter Tryz.func135, Tryz.ntmps135
  go_wp2
  go_loopw [8] (fun i wr => ∃ k : Nat, k ≤ n ∧ i = .int .i64 (k : Int) ∧ Hid (∀ j, j < k → ¬ s.getD j 0 = v) ∧ Hid (Below w.heap.size w wr)) (fun i _ => n - (intOf i).toNat)
  case atStart => exact ⟨0, Nat.zero_le _, rfl, hide (fun j hj => absurd hj (Nat.not_lt_zero _)), hide (Below.refl _ _)⟩
  case round =>
    obtain ⟨k, hk, rfl, HN, HB⟩ := hrel
    by_cases hlt : k < n
    · obtain ⟨b, o, e0, _, hx⟩ := byte_at (HA.out.below HB.out) (by omega)
      subst e0
      have hc := hx k hlt
      obtain ⟨x, hxx⟩ : ∃ z, z = s.getD k 0 := ⟨_, rfl⟩
      rw [← hxx] at hc
      have HX := hide hxx
      have h0 : (0 : Int) ≤ (k : Int) := by omega
      have h1 : (k : Int) < (n : Int) := by omega
      clear hx hxx
      by_cases hv : v = x
      · have e1 : (v == x) = true := by simpa using hv
        have HV := hide hv
        clear hv
        go_wp2
        go_ret
        exact ⟨(k : Int), rfl, ⟨fun _ => mem_at9.2 ⟨k, by rw [HLEN.out]; exact hlt, by rw [← HX.out, HV.out]⟩, fun _ => h0⟩, HB.out⟩
      · have e1 : (v == x) = false := by simpa using hv
        have HN2 : Hid (∀ j, j < k + 1 → ¬ s.getD j 0 = v) := hide (fun j hj => by
          by_cases e : j = k
          · subst e; rw [← HX.out]; exact fun h => hv h.symm
          · exact HN.out j (by omega))
        go_wp2
        go_roundw
        case rel => exact ⟨k + 1, by omega, by go_num, HN2, HB⟩
        case measure => simp [intOf]; omega
    · obtain rfl : n = k := by omega
      have h5 : ¬ ((n : Int) < (n : Int)) := by omega
      go_wp2
      go_ret
      refine ⟨-1, rfl, ⟨fun h => absurd h (by decide), fun h => ?_⟩, HB.out⟩
      obtain ⟨j, hj, e⟩ := mem_at9.1 h
      exact absurd e (HN.out j (by rw [← HLEN.out]; exact hj))

set_option maxHeartbeats 1000000 in
theorem contains_ints (A : Option Addr) (n c : Nat) (s : List Int) (v : Int) (w : World) (hA : Lies w A n (s.map (Value.int .i64))) (hn : n ≤ 281474976710656) :
    Calls Tryz.prog 122 #[.slice A n c, .int .i64 v] w fun e w' => e = .returned (.bool (decide (v ∈ s))) ∧ Below w.heap.size w w' := by
  go_enter Tryz.func122, Tryz.ntmps122
  go_wp2_with fail
  refine Calls.mono (index_ints A n c s v w hA hn) ?_
  rintro e w1 ⟨r, rfl, hr, hb⟩
  have HB := hide hb
  clear hb hA
  by_cases h0 : 0 ≤ r
  · have HD : Hid (decide (v ∈ s) = true) := hide (decide_eq_true (hr.1 h0))
    clear hr
    go_wp2
    go_ret
    exact ⟨by rw [HD.out]; rfl, HB.out⟩
  · have HD : Hid (decide (v ∈ s) = false) := hide (decide_eq_false (fun h => h0 (hr.2 h)))
    have HD2 : Hid (decide (0 ≤ r) = false) := hide (decide_eq_false h0)
    clear hr
    go_wp2
    go_ret
    refine ⟨?_, HB.out⟩
    rw [HD.out]
    show Ending.returned (.bool (decide (0 ≤ r))) = _
    rw [HD2.out]

/-- Has a list each of the first n numbers just once? -/
def ordOk (u : List Int) (n : Nat) : Bool := decide (u.length = n) && (List.range n).all (fun d => decide ((d : Int) ∈ u))

theorem ordOk_iff {u : List Int} {n : Nat} : ordOk u n = true ↔ u.length = n ∧ ∀ d, d < n → (d : Int) ∈ u := by
  simp [ordOk, List.all_eq_true]

/-- A list of numbers, each taken from another list at the place that a third one names. -/
def pickL (s u : List Int) : List Int := u.map (fun z => s.getD z.toNat 0)

theorem pickL_len (s u : List Int) : (pickL s u).length = u.length := by simp [pickL]

theorem pickL_at {s u : List Int} {k : Nat} (h : k < u.length) : (pickL s u).getD k 0 = s.getD (u.getD k 0).toNat 0 := by
  simp [pickL, List.getD, h]

theorem ord_in {u : List Int} {n : Nat} (h : ordOk u n = true) (hn : n ≤ 4) : ∀ k, k < n → 0 ≤ u.getD k 0 ∧ u.getD k 0 < (n : Int) := by
  obtain ⟨hl, hm⟩ := ordOk_iff.1 h
  match n, u, hl with
  | 0, _, _ => intro k hk; omega
  | 1, [a], _ =>
    have h0 := hm 0 (by omega)
    simp at h0
    intro k hk
    obtain rfl : k = 0 := by omega
    simp; omega
  | 2, [a, b], _ =>
    have h0 := hm 0 (by omega)
    have h1 := hm 1 (by omega)
    simp at h0 h1
    intro k hk
    match k, hk with
    | 0, _ => simp; omega
    | 1, _ => simp; omega
  | 3, [a, b, c], _ =>
    have h0 := hm 0 (by omega)
    have h1 := hm 1 (by omega)
    have h2 := hm 2 (by omega)
    simp at h0 h1 h2
    intro k hk
    match k, hk with
    | 0, _ => simp; omega
    | 1, _ => simp; omega
    | 2, _ => simp; omega
  | 4, [a, b, c, d], _ =>
    have h0 := hm 0 (by omega)
    have h1 := hm 1 (by omega)
    have h2 := hm 2 (by omega)
    have h3 := hm 3 (by omega)
    simp at h0 h1 h2 h3
    intro k hk
    match k, hk with
    | 0, _ => simp; omega
    | 1, _ => simp; omega
    | 2, _ => simp; omega
    | 3, _ => simp; omega
  | n + 5, _, _ => omega

end

end Go.Proofs.YtohndckbhjakfaaGreatDoor

