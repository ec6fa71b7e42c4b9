/- SumsOf holds for every bytes and every sum: the walk of its Go text. -/
import Derived.Test.YtpbdkmimdfkijaaSums
import Derived.Test.YtpbdkmimdfkijaaTwinB
namespace Go.Proofs.Ytpbdkmimdfkijaa
open Go.RowKit

theorem still_below {f : FuncId} {args : Array Value} {w : World} {E : Ending} (h : Calls Try.prog f args w fun e w' => e = E ∧ w = w') :
    Calls Try.prog f args w fun e w' => e = E ∧ Below w.heap.size w w' :=
  h.mono fun _ _ ⟨he, hk⟩ => ⟨he, by subst hk; exact Below.refl _ _⟩

set_option maxRecDepth 100000 in
set_option maxHeartbeats 1000000 in
theorem sumsOf_walk (A : Option Addr) (n c s : Nat) (zs : List Int) (w : World) (hs : s < 4294967296) (h : Lies w A n (zs.map (Value.int .u8))) (hz : ByteL zs) :
    Calls Try.prog 3 #[.slice A n c, .int .u32 (s : Int)] w fun e w' => e = .returned (.bool true) ∧ Below w.heap.size w w' := by
  have HL := hide h
  have HZ := hide hz
  clear h hz
  by_cases hn : n ≤ 50000
  · go_enter Try.func3, Try.ntmps3
    go_wp2_with fail
    refine Calls.mono (twin_Bytes A n c zs w HL.out (by omega)) ?_
    rintro e w1 ⟨rfl, ho1, hb1⟩
    have HT1 := hide (Lies.own ho1)
    have HP1 : Hid (Lies w1 (some ⟨w.heap.size, 0, none⟩) n (zs.map (Value.int .u8))) := hide (Lies.own (own_part ho1 (by have := HL.out.len; simpa using this) (by omega)))
    have HB1 := hide hb1
    have hs1 := hb1.size
    clear ho1 hb1
    go_wp2_with fail
    refine Calls.mono (of_any _ n (n + 1) zs w1 HP1.out HZ.out (by omega)) ?_
    rintro e w2 ⟨rfl, hb2⟩
    have HT2 := hide (HT1.out.below hb2)
    have HP2 := hide (HP1.out.below hb2)
    have HB2 := hide (HB1.out.trans (hb2.mono hs1))
    have hs2 := HB2.out.size
    clear hb2 HT1 HP1 HB1 hs1
    go_wp2_with fail
    refine Calls.mono (ref_of A n c zs w2 (HL.out.below HB2.out) HZ.out (by omega)) ?_
    rintro e w2' ⟨rfl, rfl⟩
    go_wp2_with fail
    refine Calls.mono (on_any s _ n (n + 1) zs w2 hs HP2.out HZ.out (by omega)) ?_
    rintro e w3 ⟨rfl, hb3⟩
    have HT3 := hide (HT2.out.below hb3)
    have HB3 := hide (HB2.out.trans (hb3.mono hs2))
    clear hb3 HT2 HP2 HB2 hs2
    go_wp2_with fail
    refine Calls.mono (ref_on s A n c zs w3 hs (HL.out.below HB3.out) HZ.out (by omega)) ?_
    rintro e w3' ⟨rfl, rfl⟩
    go_wp2_with fail
    refine Calls.mono (left_Bytes _ n (n + 1) c A zs w3 HT3.out (HL.out.below HB3.out) (by omega) (by omega)) ?_
    rintro e w4 ⟨rfl, k, rfl⟩
    go_wp2
    go_ret
    exact ⟨rfl, below_drewN HB3.out k⟩
  · go_enter Try.func3, Try.ntmps3
    go_wp2
    go_ret
    exact ⟨rfl, Below.refl _ _⟩
theorem sumsOf_law (A : Option Addr) (n c : Nat) (s : Int) (zs : List Int) (w : World) (hs : 0 ≤ s ∧ s < 4294967296) (h : Lies w A n (zs.map (Value.int .u8))) (hz : ByteL zs) :
    Calls Try.prog 3 #[.slice A n c, .int .u32 s] w fun e w' => e = .returned (.bool true) ∧ Below w.heap.size w w' := by
  obtain ⟨k, rfl⟩ := Int.eq_ofNat_of_zero_le hs.1
  exact sumsOf_walk A n c k zs w (by omega) h hz
end Go.Proofs.Ytpbdkmimdfkijaa
