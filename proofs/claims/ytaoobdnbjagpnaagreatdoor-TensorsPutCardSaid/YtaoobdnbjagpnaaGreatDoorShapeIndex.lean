/- Contracts of isInside, Index and At of package shapes; nothing that was there is changed. -/
import Derived.Test.YtaoobdnbjagpnaaGreatDoorShapeAt
namespace Go.Proofs.YtaoobdnbjagpnaaGreatDoor
open Go.RowKit
set_option linter.unusedVariables false
set_option linter.unusedSimpArgs false

theorem Tryz.infoI : (Tryz.prog.info? 3).map (fun i => (i.zero, i.size, i.bytes)) = some (some (.int .i64 0), 1, 8) := by kernel_rfl

/-- Is each place within its dimension? -/
def allIn : List Int → List Int → Bool
  | x :: xs, y :: ys => allIn xs ys && decide (0 ≤ y) && decide (y < x)
  | _, _ => true
/-- The index, counted from the last dimension on. -/
def valI : List Int → List Int → Int
  | _ :: xs, y :: ys => valI xs ys + prodZ xs * y
  | _, _ => 0
/-- The places of an index. -/
def digs : List Int → Int → List Int
  | [], _ => []
  | x :: xs, i => i / prodZ xs % x :: digs xs i
def okAt (xs ys : List Int) : Bool := decide (0 < sizeI xs) && (decide (ys.length = xs.length) && allIn xs ys)

theorem allIn_drop {xs ys : List Int} {k : Nat} (h1 : k < xs.length) (h2 : k < ys.length) : allIn (xs.drop k) (ys.drop k) = (allIn (xs.drop (k + 1)) (ys.drop (k + 1)) && decide (0 ≤ ys.getD k 0) && decide (ys.getD k 0 < xs.getD k 0)) := by
  rw [drop_at h1, drop_at h2, allIn]
theorem valI_drop {xs ys : List Int} {k : Nat} (h1 : k < xs.length) (h2 : k < ys.length) : valI (xs.drop k) (ys.drop k) = valI (xs.drop (k + 1)) (ys.drop (k + 1)) + prodZ (xs.drop (k + 1)) * ys.getD k 0 := by
  rw [drop_at h1, drop_at h2, valI]
theorem allIn_at : ∀ {xs ys : List Int} (k : Nat), allIn xs ys = true → k < xs.length → k < ys.length → 0 ≤ ys.getD k 0 ∧ ys.getD k 0 < xs.getD k 0
  | [], _, _, _, h, _ => by simp at h
  | _ :: _, [], _, _, _, h => by simp at h
  | x :: xs, y :: ys, 0, h, _, _ => by simp [allIn] at h; simpa using ⟨h.1.2, h.2⟩
  | x :: xs, y :: ys, k + 1, h, h1, h2 => by
    simp [allIn] at h
    have := allIn_at (xs := xs) (ys := ys) k h.1.1 (by simpa using h1) (by simpa using h2)
    simpa using this
theorem allIn_drop_of : ∀ {xs ys : List Int} (k : Nat), allIn xs ys = true → allIn (xs.drop k) (ys.drop k) = true
  | [], _, k, _ => by simp [allIn]
  | x :: xs, [], k, _ => by
    rw [List.drop_nil]
    cases (x :: xs).drop k <;> rfl
  | x :: xs, y :: ys, 0, h => h
  | x :: xs, y :: ys, k + 1, h => by
    simp [allIn] at h
    simpa using allIn_drop_of k h.1.1
/-- A list all of whose dimensions may be. -/
def AllDim (xs : List Int) : Prop := ∀ d ∈ xs, 1 ≤ d ∧ d ≤ 64 ∧ dz d = d
theorem AllDim.tail {x : Int} {xs : List Int} (h : AllDim (x :: xs)) : AllDim xs := fun d hd => h d (List.mem_cons_of_mem _ hd)
theorem AllDim.drop {xs : List Int} (h : AllDim xs) (k : Nat) : AllDim (xs.drop k) := fun d hd => h d (List.mem_of_mem_drop hd)
theorem AllDim.at {xs : List Int} (h : AllDim xs) {k : Nat} (hk : k < xs.length) : 1 ≤ xs.getD k 0 ∧ xs.getD k 0 ≤ 64 ∧ dz (xs.getD k 0) = xs.getD k 0 := by
  have : xs.getD k 0 = xs[k] := by simp [List.getD, hk]
  rw [this]
  exact h _ (List.getElem_mem hk)
theorem AllDim.pos : ∀ {xs : List Int}, AllDim xs → 1 ≤ prodZ xs
  | [], _ => by simp [prodZ]
  | x :: xs, h => by
    have h1 := AllDim.pos h.tail
    obtain ⟨h2, _, h3⟩ := h x (List.mem_cons_self ..)
    rw [prodZ, h3]
    have := Int.mul_le_mul h2 h1 (by omega) (by omega)
    omega
theorem size_dims {xs : List Int} (h : 0 < sizeI xs) : AllDim xs := by
  obtain ⟨_, _, h3⟩ := sizeI_pos h
  exact fun d hd => prodZ_pos_all (by omega) d hd
theorem valI_bound : ∀ {xs ys : List Int}, AllDim xs → allIn xs ys = true → 0 ≤ valI xs ys ∧ valI xs ys < prodZ xs
  | [], _, h, _ => by simp [valI, prodZ]
  | x :: xs, [], h, _ => by
    have := h.pos
    simp only [valI]
    omega
  | x :: xs, y :: ys, h, hin => by
    simp [allIn] at hin
    obtain ⟨⟨h1, h2⟩, h3⟩ := hin
    obtain ⟨i1, i2⟩ := valI_bound h.tail h1
    have h4 := h.tail.pos
    obtain ⟨_, _, h5⟩ := h x (List.mem_cons_self ..)
    rw [valI, prodZ, h5]
    have h6 : 0 ≤ prodZ xs * y := Int.mul_nonneg (by omega) h2
    have h7 : prodZ xs * (y + 1) ≤ prodZ xs * x := Int.mul_le_mul_of_nonneg_left (by omega) (by omega)
    rw [Int.mul_add, Int.mul_one] at h7
    rw [Int.mul_comm x]
    omega
theorem digs_len : ∀ (xs : List Int) (i : Int), (digs xs i).length = xs.length
  | [], _ => rfl
  | x :: xs, i => by simp [digs, digs_len xs i]

set_option maxRecDepth 100000 in
set_option maxHeartbeats 1000000 in
theorem inside_any (A B : Option Addr) (n c m cB : Nat) (xs ys : List Int) (w : World) (hA : Lies w A n (xs.map (Value.int .i64))) (hB : Lies w B m (ys.map (Value.int .i64))) (hn : n ≤ 281474976710656) (hm : m ≤ 281474976710656) :
    Calls Tryz.prog 100 #[.slice A n c, .slice B m cB] w fun e w' => e = .returned (.bool (decide (ys.length = xs.length) && allIn xs ys)) ∧ Below w.heap.size w w' := by
  have hl1 : xs.length = n := by have := hA.len; simpa using this
  have hl2 : ys.length = m := by have := hB.len; simpa using this
  have HA := hide hA
  have HB := hide hB
  have HB0 := hide ((Below.refl w.heap.size w).alloc (Nat.le_refl _) (.cells #[.slice B m cB] 22))
  clear hA hB
  by_cases hmn : m = n
  · subst hmn
    have HR : Hid ((decide (ys.length = xs.length) && allIn xs ys) = allIn xs ys) := hide (by rw [hl1, hl2]; simp)
    have HV := hide (visit_inside (fun k wr => Box1 wr (w.heap.size + 1) 4 (.bool (allIn (xs.drop k) (ys.drop k))) ∧ Box1 wr w.heap.size 22 (.slice B m cB) ∧ Below w.heap.size w wr) A m c xs ⟨w.heap.size + 1, 0, none⟩ ⟨w.heap.size, 0, none⟩ ((w.alloc (.cells #[.slice B m cB] 22)).alloc (.cells #[.bool true] 4)) hn
      (fun k wr hk hI => by
        refine Calls.mono (inside_step (w.heap.size + 1) w.heap.size _ ys B m cB k (xs.getD k 0) wr hI.1 hI.2.1 (HB.out.below hI.2.2) hk hm) ?_
        rintro e w' ⟨rfl, q, rfl⟩
        refine ⟨rfl, ?_, ?_, below_drewN (hI.2.2.setCell (Nat.le_succ _) _) q⟩
        · have e := allIn_drop (xs := xs) (ys := ys) (k := k) (by omega) (by omega)
          have hs := hI.1.set (.bool (allIn (xs.drop (k + 1)) (ys.drop (k + 1)) && decide (0 ≤ ys.getD k 0) && decide (ys.getD k 0 < xs.getD k 0)))
          rw [← e] at hs ⊢
          exact hs
        · exact hI.2.1.other (by simp) _)
      (fun k wr hI => HA.out.below hI.2.2)
      ⟨by
        have e : allIn (xs.drop m) (ys.drop m) = true := by rw [List.drop_eq_nil_of_le (by omega)]; rfl
        rw [e]
        have := Box1.new (w.alloc (.cells #[.slice B m cB] 22)) (.bool true) 4
        simpa using this, (Box1.new _ _ _).alloc _, HB0.out.alloc (by simp) _⟩)
    clear hl1 hl2
    go_enter Tryz.func100, Tryz.ntmps100
    go_wp2_with fail
    refine Calls.mono HV.out ?_
    rintro e w2 ⟨rfl, hb, _, hbel⟩
    rw [List.drop_zero, List.drop_zero] at hb
    have hc := hb.cell
    have HBL := hide hbel
    clear hb hbel
    obtain ⟨v, hv⟩ : ∃ v, v = allIn xs ys := ⟨_, rfl⟩
    rw [← hv] at hc
    have HY := hide hv
    clear hv
    go_wp2
    go_ret
    exact ⟨by rw [HR.out, ← HY.out]; rfl, HBL.out⟩
  · have HR : Hid ((decide (ys.length = xs.length) && allIn xs ys) = false) := hide (by rw [hl1, hl2]; simp [hmn])
    have hne : ¬ (m : Int) = (n : Int) := by omega
    clear hl1 hl2
    go_enter Tryz.func100, Tryz.ntmps100
    go_wp2
    go_ret
    exact ⟨by rw [HR.out]; rfl, HB0.out⟩
end Go.Proofs.YtaoobdnbjagpnaaGreatDoor
