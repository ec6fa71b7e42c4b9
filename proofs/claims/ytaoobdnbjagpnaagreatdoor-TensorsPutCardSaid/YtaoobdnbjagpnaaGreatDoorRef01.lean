/- Contracts of the document's own answers for numbers and lists as bytes (package drydockref01). -/
import Derived.Test.YtaoobdnbjagpnaaGreatDoorTwin5
import Derived.Test.YtaoobdnbjagpnaaGreatDoorOwn
import Derived.Test.YtaoobdnbjagpnaaGreatDoorBack
namespace Go.Proofs.YtaoobdnbjagpnaaGreatDoor
open Go.RowKit

/-- A slice of the call's own comes back, with these cells. -/
def Gives (w : World) (base : Nat) (e : TypeId) (n : Nat) (xs : List Value) (E : Ending) (w' : World) : Prop := ∃ A' c', E = .returned (.slice A' n c') ∧ w'.ownsRow base e 1 (.slice A' n c') n xs ∧ Below base w w'
/-- What is left of a number behind k bytes. -/
def rest4 (x : Int) (k : Nat) : Int := x / 256 ^ k
theorem rest4_succ (x : Int) (k : Nat) : rest4 x (k + 1) = rest4 x k / 256 := by
  unfold rest4
  rw [Int.pow_succ, Int.ediv_ediv_of_nonneg (Int.pow_nonneg (by decide))]
theorem rest4_bounds (x : Int) (h0 : 0 ≤ x) (h1 : x < 4294967296) (k : Nat) : 0 ≤ rest4 x k ∧ rest4 x k < 4294967296 := by
  unfold rest4
  have hp : (0 : Int) < 256 ^ k := Int.pow_pos (by decide)
  refine ⟨Int.ediv_nonneg h0 (Int.le_of_lt hp), ?_⟩
  exact Int.lt_of_le_of_lt (Int.ediv_le_self _ h0) h1
theorem four_at (x : Int) (k : Nat) (h : k < 4) : (four x).getD k 0 = rest4 x k % 256 := by
  match k, h with
  | 0, _ => simp [four, rest4]
  | 1, _ => simp [four, rest4]
  | 2, _ => simp [four, rest4]
  | 3, _ => simp [four, rest4]

theorem four_mod (z : Int) : four (z % 4294967296) = four z := by
  simp only [four, List.cons.injEq, and_true]
  omega
theorem encV_mod (z : Int) : encV [z % 4294967296] = encV [z] := by simp [encV, enc, four_mod]
theorem own_nil {w : World} {base : Nat} {e : TypeId} {A : Option Addr} {n c : Nat} {xs : List Value} (h : w.ownsRow base e 1 (.slice A n c) n xs) : A = none → c = 0 := by
  intro hA
  subst hA
  rcases h.2 with ⟨e0, _⟩ | ⟨g, cap, cur, e0, _⟩
  · injection e0
  · injection e0 with e0
    cases e0
/-- The bytes of the first k words behind a count. -/
def encTo (x : Int) (zs : List Int) (k : Nat) : List Value := encV (x :: zs.take k)
theorem encTo_none (x : Int) (zs : List Int) : encTo x zs 0 = encV [x] := by simp [encTo]
theorem encTo_snoc (x : Int) (zs : List Int) (k : Nat) (h : k < zs.length) : encTo x zs (k + 1) = encTo x zs k ++ encV [zs.getD k 0] := by
  rw [encTo, encTo, encV_cons, encV_cons x (zs.take k), encV_snoc zs k h, List.append_assoc]
  simp [encV, enc]
theorem encTo_all (x : Int) (zs : List Int) {k : Nat} (h : zs.length = k) : encTo x zs k = encV (x :: zs) := by rw [encTo, List.take_of_length_le (by omega)]
theorem encTo_one (x : Int) (zs : List Int) (k : Nat) : ∀ u ∈ encTo x zs k, u.oneCell' = true := ints_oneCell _ _

theorem ref_get4_short (A : Option Addr) (n c : Nat) (w : World) (hn : n < 4) :
    Calls Tryz.prog 98 #[.slice A n c] w fun e w' => e = .returned (.tuple #[.int .u32 0, .int .i64 5]) ∧ w = w' := by
  go_enter Tryz.func98, Tryz.ntmps98
  go_wp2
  go_ret2
  exact ⟨rfl, rfl⟩

/-- What has been read of four bytes, the last first, when the first k are still to come. -/
def backTo (bs : List Int) : Nat → Int
  | 4 => 0
  | 3 => bs.getD 3 0
  | 2 => bs.getD 3 0 * 256 + bs.getD 2 0
  | 1 => (bs.getD 3 0 * 256 + bs.getD 2 0) * 256 + bs.getD 1 0
  | _ => ((bs.getD 3 0 * 256 + bs.getD 2 0) * 256 + bs.getD 1 0) * 256 + bs.getD 0 0
theorem backTo_zero (bs : List Int) : backTo bs 0 = head4 bs := by unfold head4 word; simp only [backTo]; omega
theorem backTo_step (bs : List Int) (hb : Bytes bs) (k : Nat) (h : k < 4) : backTo bs k = backTo bs (k + 1) * 256 + bs.getD k 0 ∧ 0 ≤ backTo bs (k + 1) ∧ backTo bs (k + 1) < 16777216 ∧ 0 ≤ bs.getD k 0 ∧ bs.getD k 0 < 256 := by
  have b0 := bytes_getD hb 0
  have b1 := bytes_getD hb 1
  have b2 := bytes_getD hb 2
  have b3 := bytes_getD hb 3
  have e4 : backTo bs 4 = 0 := rfl
  have e3 : backTo bs 3 = bs.getD 3 0 := rfl
  have e2 : backTo bs 2 = bs.getD 3 0 * 256 + bs.getD 2 0 := rfl
  have e1 : backTo bs 1 = (bs.getD 3 0 * 256 + bs.getD 2 0) * 256 + bs.getD 1 0 := rfl
  have e0 : backTo bs 0 = ((bs.getD 3 0 * 256 + bs.getD 2 0) * 256 + bs.getD 1 0) * 256 + bs.getD 0 0 := rfl
  match k, h with
  | 0, _ => rw [Nat.zero_add, e0, e1]; omega
  | 1, _ => rw [show 1 + 1 = 2 from rfl, e1, e2]; omega
  | 2, _ => rw [show 2 + 1 = 3 from rfl, e2, e3]; omega
  | 3, _ => rw [show 3 + 1 = 4 from rfl, e3, e4]; omega

set_option maxHeartbeats 1000000 in
theorem ref_get4_long (A : Option Addr) (n c : Nat) (bs : List Int) (w : World) (hn : 4 ≤ n) (h : Lies w A n (bs.map (Value.int .u8))) (hb : Bytes bs) :
    Calls Tryz.prog 98 #[.slice A n c] w fun e w' => e = .returned (.tuple #[.int .u32 (head4 bs), .int .i64 0]) ∧ w = w' := by
  obtain ⟨b, o, rfl, _, hx⟩ := byte_at h (by omega)
  have HX := hide hx
  have HBy := hide hb
  clear hx h hb
  go_enter Tryz.func98, Tryz.ntmps98
  go_wp2
  go_loop [4, 5] (fun v i => ∃ k : Nat, k ≤ 4 ∧ i = .int .i64 ((k : Int) - 1) ∧ v = .int .u32 (backTo bs k)) (fun _ i => (intOf i + 1).toNat)
  case atStart => exact ⟨4, by omega, by go_num, rfl⟩
  case round =>
    obtain ⟨k, hk, rfl, rfl⟩ := hrel
    rcases k with _ | j
    · go_wp2
      go_ret2
      exact ⟨by rw [← backTo_zero]; rfl, rfl⟩
    · have e : ((j + 1 : Nat) : Int) - 1 = (j : Int) := by omega
      rw [e]
      clear e
      have hc := HX.out j (by omega)
      obtain ⟨hs, b1, b2, b3, b4⟩ := backTo_step bs HBy.out j (by omega)
      obtain ⟨q, hq⟩ : ∃ q, q = backTo bs (j + 1) := ⟨_, rfl⟩
      obtain ⟨z, hz⟩ : ∃ z, z = bs.getD j 0 := ⟨_, rfl⟩
      rw [← hq] at hs b1 b2 ⊢
      rw [← hz] at hs b3 b4 hc
      have HS := hide hs
      have i1 : (j : Int) < (n : Int) := by omega
      have i2 : (0 : Int) ≤ (j : Int) := by omega
      clear hs hq hz
      go_wp2
      go_round
      case rel => exact ⟨j, by omega, by go_num, by rw [HS.out]⟩
      case measure => simp [intOf]
end Go.Proofs.YtaoobdnbjagpnaaGreatDoor
