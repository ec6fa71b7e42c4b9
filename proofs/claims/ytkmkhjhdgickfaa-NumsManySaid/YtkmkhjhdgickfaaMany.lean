/- NumsMany holds for every byte and every number: the walk of its Go text. -/
import Derived.Test.YtkmkhjhdgickfaaAlive
import Derived.Test.YtkmkhjhdgickfaaBack
namespace Go.Proofs.Ytkmkhjhdgickfaa
open Go.RowKit

/-- n noughts, the last one of them another number. -/
def lasts (n : Nat) (last : Int) : List Int := (List.replicate n 0).set (n - 1) last
theorem lasts_len (n : Nat) (last : Int) : (lasts n last).length = n := by simp [lasts]
theorem lasts_words (n : Nat) (last : Int) (h : -2147483648 ≤ last ∧ last < 2147483648) : Words (lasts n last) := by
  intro x hx
  rcases List.mem_or_eq_of_mem_set hx with h1 | h1
  · have := List.eq_of_mem_replicate h1; omega
  · subst h1; exact h
theorem lasts_part (n : Nat) (last : Int) : (part [] n 0).set (n - 1) (.int .i32 last) = (lasts n last).map (Value.int .i32) := by
  rw [part_none, lasts, List.map_set, List.map_replicate]

set_option maxRecDepth 100000 in
set_option maxHeartbeats 1000000 in
theorem many_walk (near last : Int) (hn : 0 ≤ near ∧ near < 256) (hl : -2147483648 ≤ last ∧ last < 2147483648) (w : World) :
    Calls Try.prog 4 #[.int .u8 near, .int .i32 last] w fun e w' => e = .returned (.bool true) ∧ Below w.heap.size w w' := by
  obtain ⟨r, hr⟩ : ∃ r : Nat, near % 14 = (r : Int) := ⟨(near % 14).toNat, by omega⟩
  have hr2 : r ≤ 13 := by omega
  have hn1 := hn.1
  have hn2 := hn.2
  have HL := hide (lasts_words (4090 + r) last hl)
  clear hn hl
  have hmk := make_ints [] ((4090 : Int) + (r : Int)) (4090 + r) (by omega) (by omega)
  have hat : (part [] (4090 + r) 0)[4089 + r]? = some (.int .i32 0) := by rw [part_at _ _ _ _ (by omega), if_neg (by omega)]
  have HSET : Hid ((part [] (4090 + r) 0).set (4089 + r) (.int .i32 last) = (lasts (4090 + r) last).map (Value.int .i32)) := hide (by have h := lasts_part (4090 + r) last; rwa [show 4090 + r - 1 = 4089 + r from by omega] at h)
  go_enter Try.func4, Try.ntmps4
  go_wp2_with fail
  clear hmk hat hr hn1 hn2
  rw [HSET.out]
  have hlen := lasts_len (4090 + r) last
  have hlist := lies_lit w .i32 (lasts (4090 + r) last) 21
  rw [hlen] at hlist
  have HLEN := hide hlen
  have HLI := hide hlist
  clear hlen hlist HSET
  have HB0 := hide ((Below.refl w.heap.size w).alloc (Nat.le_refl _) (.cells ((lasts (4090 + r) last).map (Value.int .i32)).toArray 21))
  obtain ⟨w0, hw0⟩ : ∃ w0, w0 = w.alloc (.cells ((lasts (4090 + r) last).map (Value.int .i32)).toArray 21) := ⟨_, rfl⟩
  rw [← hw0] at HLI HB0 ⊢
  clear hw0
  have hs0 := HB0.out.size
  refine Calls.mono (putList none _ 0 0 (4090 + r) (4090 + r) [] (lasts (4090 + r) last) w0 Lies.nothing (by simp) HLI.out (by omega) (by omega)) ?_
  rintro e w1 ⟨rfl, ho1, hb1⟩
  have HO1 : Hid (Lies w1 (some ⟨w0.heap.size, 0, none⟩) (0 + 4 * (1 + (4090 + r))) ((four ((4090 + r : Nat) : Int) ++ enc (lasts (4090 + r) last)).map (Value.int .u8))) := hide (Lies.own ho1)
  have HLI1 := hide (HLI.out.below hb1)
  have HB1 := hide (HB0.out.trans (hb1.mono hs0))
  have hs1 := HB1.out.size
  clear ho1 hb1 HLI HB0 hs0
  have HBY := hide (bytes_append (four_bytes ((4090 + r : Nat) : Int)) (enc_bytes (lasts (4090 + r) last)))
  have HHE := hide (head4_four ((4090 + r : Nat) : Int) (enc (lasts (4090 + r) last)) (by omega) (by omega))
  have HTA := hide ((HO1.out.take (k := 4) (by omega)))
  have HHT : Hid (head4 (four ((4090 + r : Nat) : Int)) = ((4090 + r : Nat) : Int)) := hide (by have h := head4_four ((4090 + r : Nat) : Int) [] (by omega) (by omega); rwa [List.append_nil] at h)
  have HTA2 : Hid (Lies w1 (some ⟨w0.heap.size, 0, none⟩) 4 ((four ((4090 + r : Nat) : Int)).map (Value.int .u8))) := hide (by have h := HTA.out; rwa [← List.map_take, List.take_left' (four_len _)] at h)
  clear HTA
  have HO1' : Hid (Lies w1 (some ⟨w0.heap.size, 0, none⟩) (4 * (1 + (4090 + r))) ((four ((4090 + r : Nat) : Int) ++ enc (lasts (4090 + r) last)).map (Value.int .u8))) := hide (by have h := HO1.out; rwa [Nat.zero_add] at h)
  clear HO1
  by_cases h6 : 6 < r
  · go_wp2_with fail
    refine Calls.mono (quiet_below (getList_limit _ (4 * (1 + (4090 + r))) _ (4090 + r) _ w1 (by omega) HO1'.out HBY.out HHE.out (by omega))) ?_
    rintro e w2 ⟨rfl, hb2⟩
    have HB2 := hide (HB1.out.trans (hb2.mono hs1))
    have HT2 := hide (HTA2.out.below hb2)
    have hs2 := HB2.out.size
    clear hb2 HB1 hs1 HTA2 HO1' HLI1
    go_wp2_with fail
    refine Calls.mono (quiet_below (getList_limit _ 4 _ (4090 + r) _ w2 (by omega) HT2.out (four_bytes _) HHT.out (by omega))) ?_
    rintro e w3 ⟨rfl, hb3⟩
    have HB3 := hide (HB2.out.trans (hb3.mono hs2))
    have hs3 := HB3.out.size
    clear hb3 HB2 hs2 HT2
    go_wp2_with fail
    refine Calls.mono (alive_any w3) ?_
    rintro e w4 ⟨rfl, hb4⟩
    have HB4 := hide (HB3.out.trans (hb4.mono hs3))
    clear hb4 HB3 hs3
    go_wp2
    go_ret
    exact ⟨rfl, HB4.out⟩
  · go_wp2_with fail
    refine Calls.mono (getList_ok _ (4 * (1 + (4090 + r))) _ (4090 + r) _ w1 (Nat.le_refl _) HO1'.out HBY.out HHE.out (by omega) (by omega) (by omega)) ?_
    rintro e w2 ⟨rfl, ho2, hb2⟩
    have HO2 : Hid (Lies w2 (some ⟨w1.heap.size, 0, none⟩) (4090 + r) ((lasts (4090 + r) last).map (Value.int .i32))) := hide (by
      have h := Lies.own ho2
      have hd := dec_enc (lasts (4090 + r) last) [] HL.out
      rw [List.append_nil, HLEN.out] at hd
      rwa [drop_four, hd] at h)
    have HB2 := hide (HB1.out.trans (hb2.mono hs1))
    have HT2 := hide (HTA2.out.below hb2)
    have HLI2 := hide (HLI1.out.below hb2)
    have hs2 := HB2.out.size
    clear hb2 HB1 hs1 HTA2 HO1' HLI1 ho2
    go_wp2_with fail
    refine Calls.mono (quiet_below (getList_short _ 4 _ (4090 + r) _ w2 (by omega) HT2.out (four_bytes _) HHT.out (by omega) (by omega))) ?_
    rintro e w3 ⟨rfl, hb3⟩
    have HB3 := hide (HB2.out.trans (hb3.mono hs2))
    have HO3 := hide (HO2.out.below hb3)
    have HLI3 := hide (HLI2.out.below hb3)
    have hs3 := HB3.out.size
    clear hb3 HB2 hs2 HT2 HO2 HLI2
    go_wp2_with fail
    refine Calls.mono (alive_any w3) ?_
    rintro e w4 ⟨rfl, hb4⟩
    have HB4 := hide (HB3.out.trans (hb4.mono hs3))
    have HO4 := hide (HO3.out.below hb4)
    have HLI4 := hide (HLI3.out.below hb4)
    have hs4 := HB4.out.size
    clear hb4 HB3 hs3 HO3 HLI3
    go_wp2_with fail
    refine Calls.mono (quiet_below (same_i32 _ _ (4090 + r) _ _ (lasts (4090 + r) last) w4 HO4.out HLI4.out (by omega))) ?_
    rintro e w5 ⟨rfl, hb5⟩
    have HB5 := hide (HB4.out.trans (hb5.mono hs4))
    clear hb5 HB4 hs4 HO4 HLI4
    go_wp2
    go_ret
    exact ⟨rfl, HB5.out⟩
end Go.Proofs.Ytkmkhjhdgickfaa
