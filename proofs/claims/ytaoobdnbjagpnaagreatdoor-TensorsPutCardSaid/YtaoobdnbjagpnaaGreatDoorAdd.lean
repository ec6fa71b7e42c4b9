/- Contracts of addWords (at uint32 and at int32): the words of a list put behind a row that has room for them. -/
import Derived.Test.YtaoobdnbjagpnaaGreatDoorCopy
namespace Go.Proofs.YtaoobdnbjagpnaaGreatDoor
open Go.RowKit

/-- The bytes of a list of words. -/
def enc (zs : List Int) : List Int := zs.flatMap four
def encV (zs : List Int) : List Value := (enc zs).map (Value.int .u8)
theorem enc_len (zs : List Int) : (enc zs).length = 4 * zs.length := by
  induction zs with
  | nil => rfl
  | cons z r ih => simp only [enc, List.flatMap_cons, List.length_append, four_len, List.length_cons] at ih ⊢; omega
theorem encV_len (zs : List Int) : (encV zs).length = 4 * zs.length := by rw [encV, List.length_map, enc_len]
theorem encV_snoc (zs : List Int) (k : Nat) (h : k < zs.length) : encV (zs.take (k + 1)) = encV (zs.take k) ++ (four (zs.getD k 0)).map (Value.int .u8) := by
  have e : zs.getD k 0 = zs[k] := by simp [List.getD, h]
  rw [e, List.take_succ_eq_append_getElem h, encV, enc, List.flatMap_append, List.map_append]
  simp [encV, enc]

set_option maxHeartbeats 1000000 in
theorem add_u32 (g n cap m c base : Nat) (A : Option Addr) (xs : List Value) (zs : List Int) (w : World)
    (hown : w.ownsRow base 5 1 (.slice (some ⟨g, 0, none⟩) n cap) n xs) (hl : Lies w A m (zs.map (Value.int .u32))) (hne : 0 < m → ∀ b o, A = some ⟨b, o, none⟩ → b ≠ g)
    (hfit : n + 4 * m ≤ cap) (hcap : cap ≤ 281474976710656) :
    Calls Tryz.prog 137 #[.slice (some ⟨g, 0, none⟩) n cap, .slice A m c] w fun e w' =>
      e = .returned (.slice (some ⟨g, 0, none⟩) (n + 4 * m) cap) ∧ w'.ownsRow base 5 1 (.slice (some ⟨g, 0, none⟩) (n + 4 * m) cap) (n + 4 * m) (xs ++ encV zs) ∧ w.grownBy w' (some g) := by
  obtain ⟨i0, hi, hz0, hz1, hz2⟩ := info_parts Tryz.infoB
  have HZ1 := hide hz1
  have HI := hide hi
  clear hz0 hz1 hz2 hi
  have HO := hide hown
  have HN := hide hne
  have hzl : zs.length = m := by have := hl.len; simpa using this
  have HZL := hide hzl
  clear hown hne hzl
  go_enter Tryz.func137, Tryz.ntmps137
  go_wp2
  go_loopw [0, 9] (fun v i wr => ∃ k : Nat, k ≤ m ∧ i = .int .i64 k ∧ v = .slice (some ⟨g, 0, none⟩) (n + 4 * k) cap ∧ Hid (wr.ownsRow base 5 1 (.slice (some ⟨g, 0, none⟩) (n + 4 * k) cap) (n + 4 * k) (xs ++ encV (zs.take k))) ∧ Hid (w.grownBy wr (some g)))
    (fun _ i _ => m - (intOf i).toNat)
  case atStart => exact ⟨0, Nat.zero_le _, rfl, rfl, hide (by simpa [encV, enc] using HO.out), hide (World.grownBy.refl _ _)⟩
  case round =>
    obtain ⟨k, hk, rfl, rfl, HR, HG⟩ := hrel
    by_cases hlt : k < m
    · obtain ⟨b, o, rfl, hbl, hx⟩ := byte_at (hl.grown HG.out (by intro b o e h; exact HN.out (by omega) b o e (by injection h))) (by omega)
      obtain ⟨z, hz⟩ : ∃ z, z = zs.getD k 0 := ⟨_, rfl⟩
      have hc : wr.cell? ⟨b, o + k, none⟩ = some (.int .u32 z) := by rw [hz]; exact hx k hlt
      have HZ := hide hz
      clear hx hl hz
      have HNEW := hide (cells_new wr [.int .u8 (z % 256), .int .u8 (z / 256 % 256), .int .u8 (z / 65536 % 256), .int .u8 (z / 16777216 % 256)] 5)
      go_wp2_with (at_builtin; refine wpList_append_fits _ rfl (.tmp 13) (.tmp 25) 56 rfl base 5 i0 1 Tryz.underlying56 HI.out HZ1.out g (n + 4 * k) cap (xs ++ encV (zs.take k)) rfl (HR.out.alloc _) ⟨wr.heap.size, 0, none⟩ 4 4 [.int .u8 (z % 256), .int .u8 (z / 256 % 256), .int .u8 (z / 65536 % 256), .int .u8 (z / 16777216 % 256)] rfl rfl HNEW.out (by simp [Value.oneCell']) (by omega) ?_)
      intro w1 hown1 hg1
      have HR1 : Hid (w1.ownsRow base 5 1 (.slice (some ⟨g, 0, none⟩) (n + 4 * (k + 1)) cap) (n + 4 * (k + 1)) (xs ++ encV (zs.take (k + 1)))) := by
        rw [encV_snoc zs k (by rw [HZL.out]; exact hlt), ← HZ.out]
        exact hown1
      have HG1 := hide (grown_trans (grown_trans HG.out (World.grownBy_alloc wr _ _)) hg1)
      clear hown1 hg1
      go_wp2
      go_roundw
      case rel => exact ⟨k + 1, by omega, by go_num, rfl, HR1, HG1⟩
      case measure => simp [intOf]; omega
    · obtain rfl : k = m := by omega
      go_wp2
      go_ret
      have hr := HR.out
      rw [List.take_of_length_le (by rw [HZL.out]; exact Nat.le_refl _)] at hr
      exact ⟨rfl, hr, HG.out⟩

end Go.Proofs.YtaoobdnbjagpnaaGreatDoor
