/- Plain facts on the bytes of tensors, and on xor. No walk. -/
import Derived.Test.YtaoobdnbjagpnaaGreatDoorTLaw
import Derived.Test.YtaoobdnbjagpnaaGreatDoorBack
namespace Go.Proofs.YtaoobdnbjagpnaaGreatDoor
open Go.RowKit

theorem xor_same (z b : Int) (hz : -2147483648 ≤ z ∧ z < 2147483648) (hb : -2147483648 ≤ b ∧ b < 2147483648) : bits .xor .i32 z b = z ↔ b = 0 := by
  have hx : (BitVec.ofInt 32 z).toNat = (z % 4294967296).toNat := by simp [BitVec.toNat_ofInt]
  have hy : (BitVec.ofInt 32 b).toNat = (b % 4294967296).toNat := by simp [BitVec.toNat_ofInt]
  have hd : bits .xor .i32 z b = IntKind.i32.wrap ((BitVec.ofInt 32 z ^^^ BitVec.ofInt 32 b).toNat : Int) := rfl
  have hlt := (BitVec.ofInt 32 z ^^^ BitVec.ofInt 32 b).isLt
  constructor
  · intro h
    rw [hd, IntKind.wrap_i32] at h
    have hr : BitVec.ofInt 32 z ^^^ BitVec.ofInt 32 b = BitVec.ofInt 32 z := by
      apply BitVec.eq_of_toNat_eq
      rw [hx]
      omega
    have hy0 : BitVec.ofInt 32 b = 0#32 := by
      have h2 : BitVec.ofInt 32 z ^^^ (BitVec.ofInt 32 z ^^^ BitVec.ofInt 32 b) = BitVec.ofInt 32 z ^^^ BitVec.ofInt 32 z := by rw [hr]
      rw [← BitVec.xor_assoc, BitVec.xor_self, BitVec.zero_xor] at h2
      exact h2
    rw [hy0] at hy
    simp at hy
    omega
  · intro h
    subst h
    rw [hd, show BitVec.ofInt 32 0 = 0#32 by decide, BitVec.xor_zero, hx, IntKind.wrap_i32]
    omega

theorem tenB_len (s l : List Int) : (tenB s l).length = s.length + 1 + 4 * l.length := by simp [tenB, enc_len]; omega
theorem tenB_dims (s l : List Int) : dimsOf (tenB s l) = s.length := by simp [dimsOf, tenB]
theorem tenB_shp (s l : List Int) : shpOf (tenB s l) s.length = s := by simp [shpOf, tenB]
theorem tenB_rest (s l : List Int) : (tenB s l).drop (1 + s.length) = enc l := by
  rw [Nat.add_comm, tenB, List.cons_append, List.drop_succ_cons, List.drop_left]
theorem tenB_head (s l : List Int) : (tenB s l).getD 0 0 = (s.length : Int) := by simp [tenB]
theorem dec_encE (l : List Int) (h : Words l) : dec (enc l) l.length = l := by have := dec_enc l [] h; rwa [List.append_nil] at this
theorem tenB_inj {s l s' l' : List Int} (h1 : Words l) (h2 : Words l') (h : tenB s l = tenB s' l') : s = s' ∧ l = l' := by
  have hd : s.length = s'.length := by have := congrArg dimsOf h; rwa [tenB_dims, tenB_dims] at this
  have hs : s = s' := by
    have h3 := tenB_shp s l
    rw [h, hd, tenB_shp] at h3
    exact h3.symm
  refine ⟨hs, ?_⟩
  have hr := tenB_rest s l
  rw [h, hd, tenB_rest] at hr
  have hl : l.length = l'.length := by have := congrArg List.length hr; rw [enc_len, enc_len] at this; omega
  rw [← dec_encE l h1, ← dec_encE l' h2, hr, hl]
theorem tenB_iff {s l s' l' : List Int} (h1 : Words l) (h2 : Words l') : decide (tenB s l = tenB s' l') = decide (s = s' ∧ l = l') := by
  by_cases h : s = s' ∧ l = l'
  · rw [decide_eq_true h, h.1, h.2]; simp
  · rw [decide_eq_false h, decide_eq_false (fun e => h (tenB_inj h1 h2 e))]
theorem tenB_bytes {s l : List Int} (hs : AllDim s) (hn : s.length ≤ 4) : Bytes (tenB s l) := by
  intro x hx
  rcases List.mem_append.1 (by simpa [tenB] using hx : x ∈ ((s.length : Int) :: s) ++ enc l) with h | h
  · rcases List.mem_cons.1 h with rfl | h
    · omega
    · have := hs x h; omega
  · exact enc_bytes l x h
/-- What Put answers. -/
def putB (s l : List Int) (m : Nat) : List Int := if tenOk s m = true then tenB s l else []
theorem tput_any (A B : Option Addr) (n c m d : Nat) (s l : List Int) (w : World) (hA : Lies w A n (s.map (Value.int .i64))) (hB : Lies w B m (l.map (Value.int .i32))) (hn : n ≤ 281474976710656) :
    Calls Tryz.prog 21 #[tenV A n c B m d] w fun e w' => ∃ P k cc, e = .returned (.tuple #[.slice P k cc, .int .i64 (if tenOk s m = true then 0 else 1)]) ∧ Lies w' P k ((putB s l m).map (Value.int .u8)) ∧ k ≤ cc ∧ k ≤ 32768 ∧ Below w.heap.size w w' := by
  have hl : s.length = n := by have := hA.len; simpa using this
  by_cases h : tenOk s m = true
  · refine (tput_ok A B n c m d s l w hA hB h).mono ?_
    rintro e w' ⟨g, c', rfl, ho, hb⟩
    obtain ⟨q1, q2⟩ := tenOk_iff.1 h
    have h4 := (sizeI_pos q1).2.1
    have h5 := sizeI_le s
    obtain ⟨ys, _, _, hle⟩ := own_full ho
    exact ⟨_, _, _, by rw [if_pos h], by rw [putB, if_pos h]; exact lies_of_own ho, hle, by omega, hb⟩
  · refine (tput_err A B n c m d s w hA hn (by simpa using h)).mono ?_
    rintro e w' ⟨rfl, hb⟩
    exact ⟨none, 0, 0, by rw [if_neg h], by rw [putB, if_neg h]; exact lies_empty, Nat.le_refl _, by omega, hb⟩
end Go.Proofs.YtaoobdnbjagpnaaGreatDoor
