/- Contracts of isInside, Index and At of package shapes; nothing that was there is changed. -/
import Derived.Test.YtlalfjlcgabnnaaGreatDoorShapeAt
namespace Go.Proofs.YtlalfjlcgabnnaaGreatDoor
open Go.RowKit
set_option linter.unusedVariables false
set_option linter.unusedSimpArgs false

theorem Tryz.infoI : (Tryz.prog.info? 3).map (fun i => (i.zero, i.size, i.bytes)) = some (some (.int .i64 0), 1, 8) := by kernel_rfl

/-- Is each place within its dimension? -/
def allIn : List Int → List Int → Bool
  | x :: xs, y :: ys => allIn xs ys && decide (0 ≤ y) && decide (y < x)
  | _, _ => true

/-- The index, counted from the last dimension on. -/
def valI : List Int → List Int → Int
  | _ :: xs, y :: ys => valI xs ys + prodZ xs * y
  | _, _ => 0

/-- The places of an index. -/
def digs : List Int → Int → List Int
  | [], _ => []
  | x :: xs, i => i / prodZ xs % x :: digs xs i

def okAt (xs ys : List Int) : Bool := decide (0 < sizeI xs) && (decide (ys.length = xs.length) && allIn xs ys)

theorem allIn_drop {xs ys : List Int} {k : Nat} (h1 : k < xs.length) (h2 : k < ys.length) : allIn (xs.drop k) (ys.drop k) = (allIn (xs.drop (k + 1)) (ys.drop (k + 1)) && decide (0 ≤ ys.getD k 0) && decide (ys.getD k 0 < xs.getD k 0)) := by
  rw [drop_at h1, drop_at h2, allIn]

theorem valI_drop {xs ys : List Int} {k : Nat} (h1 : k < xs.length) (h2 : k < ys.length) : valI (xs.drop k) (ys.drop k) = valI (xs.drop (k + 1)) (ys.drop (k + 1)) + prodZ (xs.drop (k + 1)) * ys.getD k 0 := by
  rw [drop_at h1, drop_at h2, valI]

theorem allIn_at : ∀ {xs ys : List Int} (k : Nat), allIn xs ys = true → k < xs.length → k < ys.length → 0 ≤ ys.getD k 0 ∧ ys.getD k 0 < xs.getD k 0
  | [], _, _, _, h, _ => by simp at h
  | _ :: _, [], _, _, _, h => by simp at h
  | x :: xs, y :: ys, 0, h, _, _ => by simp [allIn] at h; simpa using ⟨h.1.2, h.2⟩
  | x :: xs, y :: ys, k + 1, h, h1, h2 => by
    simp [allIn] at h
    have := allIn_at (xs := xs) (ys := ys) k h.1.1 (by simpa using h1) (by simpa using h2)
    simpa using this

theorem allIn_drop_of : ∀ {xs ys : List Int} (k : Nat), allIn xs ys = true → allIn (xs.drop k) (ys.drop k) = true
  | [], _, k, _ => by simp [allIn]
  | x :: xs, [], k, _ => by
    rw [List.drop_nil]
    cases (x :: xs).drop k <;> rfl
  | x :: xs, y :: ys, 0, h => h
  | x :: xs, y :: ys, k + 1, h => by
    simp [allIn] at h
    simpa using allIn_drop_of k h.1.1

/-- A list all of whose dimensions may be. -/
def AllDim (xs : List Int) : Prop := ∀ d ∈ xs, 1 ≤ d ∧ d ≤ 64 ∧ dz d = d

theorem AllDim.tail {x : Int} {xs : List Int} (h : AllDim (x :: xs)) : AllDim xs := fun d hd => h d (List.mem_cons_of_mem _ hd)

theorem AllDim.drop {xs : List Int} (h : AllDim xs) (k : Nat) : AllDim (xs.drop k) := fun d hd => h d (List.mem_of_mem_drop hd)

theorem AllDim.at {xs : List Int} (h : AllDim xs) {k : Nat} (hk : k < xs.length) : 1 ≤ xs.getD k 0 ∧ xs.getD k 0 ≤ 64 ∧ dz (xs.getD k 0) = xs.getD k 0 := by
  have : xs.getD k 0 = xs[k] := by simp [List.getD, hk]
  rw [this]
  exact h _ (List.getElem_mem hk)

theorem AllDim.pos : ∀ {xs : List Int}, AllDim xs → 1 ≤ prodZ xs
  | [], _ => by simp [prodZ]
  | x :: xs, h => by
    have h1 := AllDim.pos h.tail
    obtain ⟨h2, _, h3⟩ := h x (List.mem_cons_self ..)
    rw [prodZ, h3]
    have := Int.mul_le_mul h2 h1 (by omega) (by omega)
    omega

theorem size_dims {xs : List Int} (h : 0 < sizeI xs) : AllDim xs := by
  obtain ⟨_, _, h3⟩ := sizeI_pos h
  exact fun d hd => prodZ_pos_all (by omega) d hd

theorem valI_bound : ∀ {xs ys : List Int}, AllDim xs → allIn xs ys = true → 0 ≤ valI xs ys ∧ valI xs ys < prodZ xs
  | [], _, h, _ => by simp [valI, prodZ]
  | x :: xs, [], h, _ => by
    have := h.pos
    simp only [valI]
    omega
  | x :: xs, y :: ys, h, hin => by
    simp [allIn] at hin
    obtain ⟨⟨h1, h2⟩, h3⟩ := hin
    obtain ⟨i1, i2⟩ := valI_bound h.tail h1
    have h4 := h.tail.pos
    obtain ⟨_, _, h5⟩ := h x (List.mem_cons_self ..)
    rw [valI, prodZ, h5]
    have h6 : 0 ≤ prodZ xs * y := Int.mul_nonneg (by omega) h2
    have h7 : prodZ xs * (y + 1) ≤ prodZ xs * x := Int.mul_le_mul_of_nonneg_left (by omega) (by omega)
    rw [Int.mul_add, Int.mul_one] at h7
    rw [Int.mul_comm x]
    omega

theorem digs_len : ∀ (xs : List Int) (i : Int), (digs xs i).length = xs.length
  | [], _ => rfl
  | x :: xs, i => by simp [digs, digs_len xs i]

end Go.Proofs.YtlalfjlcgabnnaaGreatDoor
