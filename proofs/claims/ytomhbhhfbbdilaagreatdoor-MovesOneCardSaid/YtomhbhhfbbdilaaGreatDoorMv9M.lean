/- Contracts of Index, Contains, hasOrder and turned. -/
import Derived.Test.YtomhbhhfbbdilaaGreatDoorMv8M
namespace Go.Proofs.YtomhbhhfbbdilaaGreatDoor
open Go.RowKit
set_option linter.unusedVariables false
set_option linter.unusedSimpArgs false
set_option maxRecDepth 100000

theorem mem_at9 {s : List Int} {v : Int} : v ∈ s ↔ ∃ k, k < s.length ∧ s.getD k 0 = v := by
  constructor
  · intro h
    obtain ⟨k, hk, e⟩ := List.mem_iff_getElem.1 h
    exact ⟨k, hk, by rw [List.getD_eq_getElem?_getD, List.getElem?_eq_getElem hk]; exact e⟩
  · rintro ⟨k, hk, e⟩
    rw [List.getD_eq_getElem?_getD, List.getElem?_eq_getElem hk] at e
    exact List.mem_iff_getElem.2 ⟨k, hk, e⟩

set_option maxHeartbeats 1000000 in
theorem index_ints (A : Option Addr) (n c : Nat) (s : List Int) (v : Int) (w : World) (hA : Lies w A n (s.map (Value.int .i64))) (hn : n ≤ 281474976710656) :
    Calls Tryz.prog 211 #[.slice A n c, .int .i64 v] w fun e w' => ∃ r : Int, e = .returned (.int .i64 r) ∧ (0 ≤ r ↔ v ∈ s) ∧ Below w.heap.size w w' := by
  have hlen : s.length = n := by have := hA.len; simpa using this
  have HLEN := hide hlen
  have HA := hide hA
  clear hA hlen
  go_enter Tryz.func211, Tryz.ntmps211
  go_wp2
  go_loopw [8] (fun i wr => ∃ k : Nat, k ≤ n ∧ i = .int .i64 (k : Int) ∧ Hid (∀ j, j < k → ¬ s.getD j 0 = v) ∧ Hid (Below w.heap.size w wr)) (fun i _ => n - (intOf i).toNat)
  case atStart => exact ⟨0, Nat.zero_le _, rfl, hide (fun j hj => absurd hj (Nat.not_lt_zero _)), hide (Below.refl _ _)⟩
  case round =>
    obtain ⟨k, hk, rfl, HN, HB⟩ := hrel
    by_cases hlt : k < n
    · obtain ⟨b, o, e0, _, hx⟩ := byte_at (HA.out.below HB.out) (by omega)
      subst e0
      have hc := hx k hlt
      obtain ⟨x, hxx⟩ : ∃ z, z = s.getD k 0 := ⟨_, rfl⟩
      rw [← hxx] at hc
      have HX := hide hxx
      have h0 : (0 : Int) ≤ (k : Int) := by omega
      have h1 : (k : Int) < (n : Int) := by omega
      clear hx hxx
      by_cases hv : v = x
      · have e1 : (v == x) = true := by simpa using hv
        have HV := hide hv
        clear hv
        go_wp2
        go_ret
        exact ⟨(k : Int), rfl, ⟨fun _ => mem_at9.2 ⟨k, by rw [HLEN.out]; exact hlt, by rw [← HX.out, HV.out]⟩, fun _ => h0⟩, HB.out⟩
      · have e1 : (v == x) = false := by simpa using hv
        have HN2 : Hid (∀ j, j < k + 1 → ¬ s.getD j 0 = v) := hide (fun j hj => by
          by_cases e : j = k
          · subst e; rw [← HX.out]; exact fun h => hv h.symm
          · exact HN.out j (by omega))
        go_wp2
        go_roundw
        case rel => exact ⟨k + 1, by omega, by go_num, HN2, HB⟩
        case measure => simp [intOf]; omega
    · obtain rfl : n = k := by omega
      have h5 : ¬ ((n : Int) < (n : Int)) := by omega
      go_wp2
      go_ret
      refine ⟨-1, rfl, ⟨fun h => absurd h (by decide), fun h => ?_⟩, HB.out⟩
      obtain ⟨j, hj, e⟩ := mem_at9.1 h
      exact absurd e (HN.out j (by rw [← HLEN.out]; exact hj))

set_option maxHeartbeats 1000000 in
theorem contains_ints (A : Option Addr) (n c : Nat) (s : List Int) (v : Int) (w : World) (hA : Lies w A n (s.map (Value.int .i64))) (hn : n ≤ 281474976710656) :
    Calls Tryz.prog 190 #[.slice A n c, .int .i64 v] w fun e w' => e = .returned (.bool (decide (v ∈ s))) ∧ Below w.heap.size w w' := by
  go_enter Tryz.func190, Tryz.ntmps190
  go_wp2_with fail
  refine Calls.mono (index_ints A n c s v w hA hn) ?_
  rintro e w1 ⟨r, rfl, hr, hb⟩
  have HB := hide hb
  clear hb hA
  by_cases h0 : 0 ≤ r
  · have HD : Hid (decide (v ∈ s) = true) := hide (decide_eq_true (hr.1 h0))
    clear hr
    go_wp2
    go_ret
    exact ⟨by rw [HD.out]; rfl, HB.out⟩
  · have HD : Hid (decide (v ∈ s) = false) := hide (decide_eq_false (fun h => h0 (hr.2 h)))
    have HD2 : Hid (decide (0 ≤ r) = false) := hide (decide_eq_false h0)
    clear hr
    go_wp2
    go_ret
    refine ⟨?_, HB.out⟩
    rw [HD.out]
    show Ending.returned (.bool (decide (0 ≤ r))) = _
    rw [HD2.out]

/-- Has a list each of the first n numbers just once? -/
def ordOk (u : List Int) (n : Nat) : Bool := decide (u.length = n) && (List.range n).all (fun d => decide ((d : Int) ∈ u))

theorem ordOk_iff {u : List Int} {n : Nat} : ordOk u n = true ↔ u.length = n ∧ ∀ d, d < n → (d : Int) ∈ u := by
  simp [ordOk, List.all_eq_true]

set_option maxHeartbeats 2000000 in
theorem hasOrder_any (A B : Option Addr) (n c k e : Nat) (u : List Int) (w : World) (hB : Lies w B k (u.map (Value.int .i64))) (hn : n ≤ 281474976710656) (hk : k ≤ 281474976710656) :
    Calls Tryz.prog 110 #[.agg #[.slice A n c], .slice B k e] w fun e' w' => e' = .returned (.bool (ordOk u n)) ∧ Below w.heap.size w w' := by
  have hlen : u.length = k := by have := hB.len; simpa using this
  obtain ⟨W0, hW0⟩ : ∃ W0, W0 = w.alloc (.cells #[.slice A n c] 109) := ⟨_, rfl⟩
  have HB0 : Hid (Below w.heap.size w W0) := hide (by rw [hW0]; exact below_al6 (Below.refl _ _))
  have HR : Hid (W0.heap[w.heap.size]? = some (.cells #[.slice A n c] 109 (0, 0))) := hide (by rw [hW0]; exact heap_alloc_new w _)
  have c0 : W0.cell? ⟨w.heap.size, 0, none⟩ = some (.slice A n c) := cell_of_row _ _ 0 _ _ (0, 0) HR.out
  have HB := hide (hB.below HB0.out)
  have HLEN := hide hlen
  have hW0' := hW0.symm
  clear hW0 hB hlen
  go_enter Tryz.func110, Tryz.ntmps110
  by_cases hkn : k = n
  rotate_left
  · have HF : Hid (ordOk u n = false) := hide (by
      cases h : ordOk u n
      · rfl
      · exact absurd ((ordOk_iff.1 h).1) (by rw [HLEN.out]; exact hkn))
    rw [HF.out]
    have e1 : ((k : Int) == (n : Int)) = false := by simpa using (by omega : ¬ (k : Int) = (n : Int))
    have e2 : ¬ (k : Int) = (n : Int) := by omega
    go_wp2
    go_ret
    exact ⟨rfl, HB0.out⟩
  · subst hkn
    go_wp2
    clear c0
    go_loopw [15] (fun i wr => ∃ q : Nat, q ≤ k ∧ i = .int .i64 (q : Int) ∧ Hid (∀ d, d < q → (d : Int) ∈ u) ∧ Hid (Below W0.heap.size W0 wr)) (fun i _ => k - (intOf i).toNat)
    case atStart => exact ⟨0, Nat.zero_le _, rfl, hide (fun d hd => absurd hd (Nat.not_lt_zero _)), hide (Below.refl _ _)⟩
    case round =>
      obtain ⟨q, hq, rfl, HN, HE⟩ := hrel
      by_cases hlt : q < k
      · have h1 : (q : Int) < (k : Int) := by omega
        go_wp2_with fail
        refine Calls.mono (contains_ints B k e u (q : Int) _ (HB.out.below HE.out) hk) ?_
        rintro e' w1 ⟨rfl, hb⟩
        have HE2 := hide (below_nx6 HE.out hb)
        clear hb
        by_cases hm : (q : Int) ∈ u
        · rw [show decide ((q : Int) ∈ u) = true from decide_eq_true hm]
          have HN2 : Hid (∀ d, d < q + 1 → (d : Int) ∈ u) := hide (fun d hd => by
            by_cases e : d = q
            · subst e; exact hm
            · exact HN.out d (by omega))
          clear hm
          go_wp2
          go_roundw
          case rel => exact ⟨q + 1, by omega, by go_num, HN2, HE2⟩
          case measure => simp [intOf]; omega
        · rw [show decide ((q : Int) ∈ u) = false from decide_eq_false hm]
          have HF : Hid (ordOk u k = false) := hide (by
            cases h : ordOk u k
            · rfl
            · exact absurd ((ordOk_iff.1 h).2 q hlt) hm)
          have HBE := hide (HB0.out.trans (HE2.out.mono HB0.out.size))
          clear hm
          go_wp2
          go_ret
          exact ⟨by rw [HF.out]; rfl, HBE.out⟩
      · obtain rfl : k = q := by omega
        have h5 : ¬ ((k : Int) < (k : Int)) := by omega
        have HT : Hid (ordOk u k = true) := hide (ordOk_iff.2 ⟨HLEN.out, HN.out⟩)
        have HBE := hide (HB0.out.trans (HE.out.mono HB0.out.size))
        go_wp2
        go_ret
        exact ⟨by rw [HT.out]; rfl, HBE.out⟩

/-- A list of numbers, each taken from another list at the place that a third one names. -/
def pickL (s u : List Int) : List Int := u.map (fun z => s.getD z.toNat 0)

theorem pickL_len (s u : List Int) : (pickL s u).length = u.length := by simp [pickL]

theorem pickL_at {s u : List Int} {k : Nat} (h : k < u.length) : (pickL s u).getD k 0 = s.getD (u.getD k 0).toNat 0 := by
  simp [pickL, List.getD, h]

theorem ord_in {u : List Int} {n : Nat} (h : ordOk u n = true) (hn : n ≤ 4) : ∀ k, k < n → 0 ≤ u.getD k 0 ∧ u.getD k 0 < (n : Int) := by
  obtain ⟨hl, hm⟩ := ordOk_iff.1 h
  match n, u, hl with
  | 0, _, _ => intro k hk; omega
  | 1, [a], _ =>
    have h0 := hm 0 (by omega)
    simp at h0
    intro k hk
    obtain rfl : k = 0 := by omega
    simp; omega
  | 2, [a, b], _ =>
    have h0 := hm 0 (by omega)
    have h1 := hm 1 (by omega)
    simp at h0 h1
    intro k hk
    match k, hk with
    | 0, _ => simp; omega
    | 1, _ => simp; omega
  | 3, [a, b, c], _ =>
    have h0 := hm 0 (by omega)
    have h1 := hm 1 (by omega)
    have h2 := hm 2 (by omega)
    simp at h0 h1 h2
    intro k hk
    match k, hk with
    | 0, _ => simp; omega
    | 1, _ => simp; omega
    | 2, _ => simp; omega
  | 4, [a, b, c, d], _ =>
    have h0 := hm 0 (by omega)
    have h1 := hm 1 (by omega)
    have h2 := hm 2 (by omega)
    have h3 := hm 3 (by omega)
    simp at h0 h1 h2 h3
    intro k hk
    match k, hk with
    | 0, _ => simp; omega
    | 1, _ => simp; omega
    | 2, _ => simp; omega
    | 3, _ => simp; omega
  | n + 5, _, _ => omega

set_option maxHeartbeats 2000000 in
theorem turned_ok (A B : Option Addr) (n c k e : Nat) (s u : List Int) (w : World) (hA : Lies w A n (s.map (Value.int .i64))) (hB : Lies w B k (u.map (Value.int .i64))) (hk : 1 ≤ k ∧ k ≤ 4) (hu : ∀ j, j < k → 0 ≤ u.getD j 0 ∧ u.getD j 0 < (n : Int)) :
    Calls Tryz.prog 112 #[.agg #[.slice A n c], .slice B k e] w fun e' w' => ∃ g, e' = .returned (.slice (some ⟨g, 0, none⟩) k k) ∧ w'.ownsRow w.heap.size 3 1 (.slice (some ⟨g, 0, none⟩) k k) k ((pickL s u).map (Value.int .i64)) ∧ Below w.heap.size w w' := by
  have hl1 : s.length = n := by have := hA.len; simpa using this
  have hl2 : u.length = k := by have := hB.len; simpa using this
  have hmk := fun v => make_ints9 v k (by omega)
  have hn0 : 0 < n := by have := hu 0 (by omega); omega
  obtain ⟨W1, hW1⟩ : ∃ W1, W1 = w.alloc (.cells #[.slice A n c] 109) := ⟨_, rfl⟩
  obtain ⟨W2, hW2⟩ : ∃ W2, W2 = W1.alloc (.cells ((List.replicate k (0 : Int)).map (Value.int .i64)).toArray 3) := ⟨_, rfl⟩
  have hs1 : W1.heap.size = w.heap.size + 1 := by rw [hW1]; simp
  have HB0 : Hid (Below w.heap.size w W2) := hide (by rw [hW2, hW1]; exact ((Below.refl w.heap.size w).alloc (Nat.le_refl _) _).alloc (by simp only [World.size_alloc]; omega) _)
  have HR : Hid (W2.heap[w.heap.size]? = some (.cells #[.slice A n c] 109 (0, 0))) := hide (by rw [hW2, hW1]; exact (Below.heap_alloc _ _ _ (by simp only [World.size_alloc]; omega)).trans (heap_alloc_new w _))
  have HO : Hid (W2.ownsRow (w.heap.size + 1) 3 1 (.slice (some ⟨w.heap.size + 1, 0, none⟩) k k) k ((mix9 (pickL s u) (List.replicate k 0) 0).map (Value.int .i64))) := hide (by
    rw [mix9_zero, hW2, ← hs1]
    exact own_of_block (Nat.le_refl _) (heap_alloc_new W1 _) (by simp) (Nat.le_refl _) (by unfold maxLen; omega) (by simp))
  have HL : Hid (s.length = n ∧ u.length = k) := hide ⟨hl1, hl2⟩
  have HA := hide hA
  have HB := hide hB
  have HU := hide hu
  obtain ⟨Z, hZ⟩ : ∃ z, z = pickL s u := ⟨_, rfl⟩
  obtain ⟨Z0, hZ0⟩ : ∃ z : List Int, z = List.replicate k 0 := ⟨_, rfl⟩
  rw [← hZ, ← hZ0] at HO
  have HZL : Hid (Z.length = Z0.length ∧ Z0.length = k) := hide ⟨by rw [hZ, hZ0, pickL_len, List.length_replicate, hl2], by rw [hZ0, List.length_replicate]⟩
  have HZK : Hid (∀ j, j < k → Z.getD j 0 = s.getD (u.getD j 0).toNat 0) := hide (fun j hj => by rw [hZ]; exact pickL_at (by rw [hl2]; exact hj))
  have HZ := hide hZ
  obtain ⟨bA, oA, rfl, _, _⟩ := byte_at hA (by omega)
  obtain ⟨bB, oB, rfl, _, _⟩ := byte_at hB (by omega)
  have HC : Hid (∀ v, Below w.heap.size w v → v.heap[w.heap.size]? = some (.cells #[.slice (some ⟨bA, oA, none⟩) n c] 109 (0, 0)) → ∀ j, j < k → v.cell? ⟨w.heap.size, 0, none⟩ = some (.slice (some ⟨bA, oA, none⟩) n c) ∧ v.cell? ⟨bB, oB + j, none⟩ = some (.int .i64 (u.getD j 0)) ∧ v.cell? ⟨bA, oA + (u.getD j 0).toNat, none⟩ = some (.int .i64 (s.getD (u.getD j 0).toNat 0))) := hide (fun v hv hr j hj => by
    obtain ⟨_, _, e1, _, x1⟩ := byte_at (HA.out.below hv) (by omega)
    cases e1
    obtain ⟨_, _, e2, _, x2⟩ := byte_at (HB.out.below hv) (by omega)
    cases e2
    have := HU.out j hj
    exact ⟨cell_of_row _ _ 0 _ _ (0, 0) hr, x2 j hj, x1 _ (by omega)⟩)
  have earr : ((List.replicate k (0 : Int)).map (Value.int .i64)).toArray = Array.replicate k (.int .i64 0) := by simp
  rw [earr] at hW2
  have hW1' := hW1.symm
  have hW2' := hW2.symm
  clear hA hB hu hl1 hl2 hW1 hW2 hZ hZ0 earr
  go_enter Tryz.func112, Tryz.ntmps112
  go_wp2
  go_loopw [13] (fun i wr => ∃ j : Nat, j ≤ k ∧ i = .int .i64 (j : Int) ∧ Hid (wr.heap[w.heap.size]? = some (.cells #[.slice (some ⟨bA, oA, none⟩) n c] 109 (0, 0))) ∧ Hid (wr.ownsRow (w.heap.size + 1) 3 1 (.slice (some ⟨w.heap.size + 1, 0, none⟩) k k) k ((mix9 Z Z0 j).map (Value.int .i64))) ∧ Hid (Below w.heap.size w wr)) (fun i _ => k - (intOf i).toNat)
  case atStart => exact ⟨0, Nat.zero_le _, rfl, HR, HO, HB0⟩
  case round =>
    clear HR HO HB0
    obtain ⟨j, hj, rfl, HR, HO, HBB⟩ := hrel
    by_cases hlt : j < k
    · obtain ⟨q1, q2, q3⟩ := HC.out _ HBB.out HR.out j hlt
      have hr := HU.out j hlt
      obtain ⟨ui, hui⟩ : ∃ z : Int, z = u.getD j 0 := ⟨_, rfl⟩
      rw [← hui] at q2 q3 hr
      obtain ⟨un, hun⟩ := Int.eq_ofNat_of_zero_le hr.1
      subst hun
      rw [Int.toNat_natCast] at q3
      obtain ⟨x, hx⟩ : ∃ z, z = s.getD un 0 := ⟨_, rfl⟩
      rw [← hx] at q3
      have HV : Hid (Z.getD j 0 = x) := hide (by rw [HZK.out j hlt, ← hui, Int.toNat_natCast, hx])
      have h0 : (0 : Int) ≤ (j : Int) := by omega
      have h1 : (j : Int) < (k : Int) := by omega
      have h2 : (0 : Int) ≤ (un : Int) := hr.1
      have h3 : (un : Int) < (n : Int) := hr.2
      obtain ⟨hg1, hf1⟩ := own_cells9 HO.out hlt
      obtain ⟨z0, hz0⟩ : ∃ z, z = (mix9 Z Z0 j).getD j 0 := ⟨_, rfl⟩
      rw [← hz0] at hg1
      have HR2 : Hid ((wr.setCell ⟨w.heap.size + 1, j, none⟩ (.int .i64 x)).heap[w.heap.size]? = some (.cells #[.slice (some ⟨bA, oA, none⟩) n c] 109 (0, 0))) := hide ((Below.heap_setCell _ _ _ _ (by dsimp only; omega)).trans HR.out)
      have HO2 : Hid ((wr.setCell ⟨w.heap.size + 1, j, none⟩ (.int .i64 x)).ownsRow (w.heap.size + 1) 3 1 (.slice (some ⟨w.heap.size + 1, 0, none⟩) k k) k ((mix9 Z Z0 (j + 1)).map (Value.int .i64))) := hide (by
        have h := own_set9 (v := .int .i64 x) HO.out hlt
        rw [← List.map_set, ← HV.out, mix9_set HZL.out.1 (by rw [HZL.out.2]; exact hlt), HV.out] at h
        exact h)
      have HB2 : Hid (Below w.heap.size w (wr.setCell ⟨w.heap.size + 1, j, none⟩ (.int .i64 x))) := hide (HBB.out.setCell (by dsimp only; omega) _)
      clear hr hui hx hz0
      go_wp2
      go_roundw
      case rel => exact ⟨j + 1, by omega, by go_num, HR2, HO2, HB2⟩
      case measure => simp [intOf]; omega
    · obtain rfl : k = j := by omega
      have h5 : ¬ ((k : Int) < (k : Int)) := by omega
      have hmx : mix9 Z Z0 k = Z := by rw [← HZL.out.2]; exact mix9_all HZL.out.1
      have HO2 := HO.out
      rw [hmx, HZ.out] at HO2
      have HO3 := hide HO2
      clear HO2 hmx
      go_wp2
      go_ret
      exact ⟨w.heap.size + 1, rfl, own_base HO3.out (by omega), HBB.out⟩

end Go.Proofs.YtomhbhhfbbdilaaGreatDoor
