/- Contracts of the helpers of the statements on graphs: how much a graph has in it, whether two lists of lists are the same. -/
import Derived.Test.YtdlhhkegkfhmoaaGr2M
import Derived.Test.YtdlhhkegkfhmoaaWA
namespace Go.Proofs.Ytdlhhkegkfhmoaa
open Go.RowKit
set_option linter.unusedVariables false
set_option linter.unusedSimpArgs false
set_option maxRecDepth 100000

theorem ints_size (A : Option Addr) (n c : Nat) (w : World) : Calls Try.prog 48 #[.slice A n c] w fun e w' => e = .returned (.int .i64 (n : Int)) ∧ w = w' := by
  go_enter Try.func48, Try.ntmps48
  go_wp2
  go_ret
  exact ⟨rfl, rfl⟩

set_option maxHeartbeats 1000000 in
theorem node_size (x : Nd) (w : World) (h1 : x.ni ≤ 70368744177664) (h2 : x.ns ≤ 70368744177664) : Calls Try.prog 29 #[x.v] w fun e w' => ∃ r : Int, e = .returned (.int .i64 r) ∧ 0 ≤ r ∧ r ≤ 281474976710656 ∧ (r ≤ 1048576 → r = 1 + (x.ni : Int) + (x.ns : Int)) ∧ Below w.heap.size w w' := by
  unfold Nd.v
  obtain ⟨W0, hW0⟩ : ∃ W0, W0 = w.alloc (.cells #[.int .u8 x.kd, .slice x.I x.ni x.ci, .slice x.S x.ns x.cs, .int .i64 x.N, .int .i64 x.P] 35) := ⟨_, rfl⟩
  have HB0 : Hid (Below w.heap.size w W0) := hide (by rw [hW0]; exact below_al6 (Below.refl _ _))
  have HX : Hid (BoxN W0 w.heap.size x) := hide (by rw [hW0]; exact BoxN.new w x)
  have hW0' := hW0.symm
  clear hW0
  obtain ⟨c0, c1, c2, c3, c4⟩ := HX.out.cs
  go_enter Try.func29, Try.ntmps29
  go_wp2_with fail
  refine Calls.mono (ints_size _ _ _ _) ?_
  rintro e w1 ⟨rfl, rfl⟩
  by_cases hm : 1 + (x.ni : Int) ≤ 1048576
  · go_wp2_with fail
    refine Calls.mono (ints_size _ _ _ _) ?_
    rintro e w1 ⟨rfl, rfl⟩
    go_wp2
    go_ret
    exact ⟨_, rfl, by omega, by omega, fun _ => rfl, HB0.out⟩
  · go_wp2
    go_ret
    exact ⟨_, rfl, by omega, by omega, fun h => absurd h (by omega), HB0.out⟩

/-- How much nodes have in them. -/
def szN : List Nd → Nat
  | [] => 0
  | x :: r => x.ni + x.ns + 2 + szN r

theorem szN_len : ∀ ns : List Nd, 2 * ns.length ≤ szN ns
  | [] => Nat.le_refl _
  | x :: r => by have := szN_len r; rw [szN, List.length_cons]; omega

theorem szN_mem : ∀ (ns : List Nd) (x : Nd), x ∈ ns → x.ni + x.ns + 2 ≤ szN ns
  | [], x, h => by cases h
  | y :: r, x, h => by
    rw [szN]
    rcases List.mem_cons.1 h with rfl | h
    · omega
    · have := szN_mem r x h; omega

theorem szN_snoc : ∀ (ns : List Nd) (x : Nd), szN (ns ++ [x]) = szN ns + (x.ni + x.ns + 2)
  | [], x => by simp [szN]
  | y :: r, x => by rw [List.cons_append, szN, szN, szN_snoc r x]; omega

theorem szN_append : ∀ (ms ns : List Nd), szN (ms ++ ns) = szN ms + szN ns
  | [], ns => by rw [List.nil_append, szN]; omega
  | y :: r, ns => by rw [List.cons_append, szN, szN, szN_append r ns]; omega

set_option maxHeartbeats 2000000 in
theorem nodes_size (A : Option Addr) (n c : Nat) (ns : List Nd) (w : World) (h : NsIn w A n ns) (hn : n ≤ 70368744177664) :
    Calls Try.prog 20 #[.slice A n c] w fun e w' => ∃ r : Int, e = .returned (.int .i64 r) ∧ 0 ≤ r ∧ r ≤ 1125899906842624 ∧ (r ≤ 1048576 → r = (szN ns : Int)) ∧ Below w.heap.size w w' := by
  have HN := hide h
  clear h
  go_enter Try.func20, Try.ntmps20
  go_wp2
  go_loopw [3, 4] (fun s i wr => ∃ (k : Nat) (a : Int), k ≤ n ∧ i = .int .i64 k ∧ s = .int .i64 a ∧ 0 ≤ a ∧ a ≤ 422212465065984 ∧ Hid (a ≤ 1048576 → a = (n : Int) - (k : Int) + (szN (ns.take k) : Int)) ∧ Hid (Below w.heap.size w wr)) (fun _ i _ => n - (intOf i).toNat)
  case atStart => exact ⟨0, (n : Int), Nat.zero_le _, rfl, rfl, by omega, by omega, hide (fun _ => by rw [List.take_zero, szN]; omega), hide (Below.refl _ _)⟩
  case round =>
    obtain ⟨k, a, hk, rfl, rfl, ha0, ha1, HA, HB⟩ := hrel
    by_cases hlt : k < n
    · have f1 : (k : Int) < (n : Int) := by omega
      by_cases hm : a ≤ 1048576
      · obtain ⟨b, o, x, rfl, hxk, h0, h1, h2, h3, h4, hxo⟩ := (HN.out.below HB.out).at hlt
        have HT : Hid (szN (ns.take (k + 1)) = szN (ns.take k) + (x.ni + x.ns + 2)) := hide (by rw [take_oneN hxk, szN_snoc])
        have f0 : (0 : Int) ≤ (k : Int) := by omega
        have HC := hide (fun v => node_size x v hxo.2.2.2.2.1 hxo.2.2.2.2.2.1)
        unfold Nd.v at HC
        clear hxk hxo
        go_wp2_with fail
        refine Calls.mono (HC.out _) ?_
        rintro e w1 ⟨r, rfl, hr0, hr1, hr2, hb⟩
        have HB1 := hide (below_nx6 HB.out hb)
        clear hb h0 h1 h2 h3 h4
        obtain ⟨a2, ha2⟩ : ∃ z : Int, z = a + r := ⟨_, rfl⟩
        have m1 : IntKind.i64.wrap (a + r) = a2 := by rw [IntKind.wrap_i64]; omega
        have HA2 : Hid (a2 ≤ 1048576 → a2 = (n : Int) - ((k + 1 : Nat) : Int) + (szN (ns.take (k + 1)) : Int)) := hide (fun h => by
          have h1 := HA.out hm
          have h2 := hr2 (by omega)
          rw [HT.out]
          omega)
        have hq : 0 ≤ a2 ∧ a2 ≤ 422212465065984 := by omega
        have HQ := hide hq
        clear hq ha2 hr0 hr1 hr2
        go_wp2
        go_roundw
        case rel => exact ⟨k + 1, a2, by omega, by go_num, rfl, HQ.out.1, HQ.out.2, HA2, HB1⟩
        case measure => simp [intOf] <;> omega
      · have hf : a ≤ 1125899906842624 ∧ (a ≤ 1048576 → a = (szN ns : Int)) := ⟨by omega, fun h => absurd h hm⟩
        have HF := hide hf
        clear hf
        go_wp2
        go_ret
        exact ⟨a, rfl, ha0, HF.out.1, HF.out.2, HB.out⟩
    · obtain rfl : k = n := by omega
      have hall : ns.take k = ns := List.take_of_length_le (by rw [HN.out.1]; exact Nat.le_refl _)
      have hf : a ≤ 1125899906842624 ∧ (a ≤ 1048576 → a = (szN ns : Int)) := ⟨by omega, fun h => by have h1 := HA.out h; rw [hall] at h1; omega⟩
      have HF := hide hf
      have f1 : ¬ ((k : Int) < (k : Int)) := by omega
      clear hf hall
      go_wp2
      go_ret
      exact ⟨a, rfl, ha0, HF.out.1, HF.out.2, HB.out⟩

set_option maxHeartbeats 1000000 in
theorem graph_size (A : Option Addr) (n c : Nat) (ns : List Nd) (w : World) (h : NsIn w A n ns) (hn : n ≤ 70368744177664) :
    Calls Try.prog 9 #[.agg #[.slice A n c]] w fun e w' => ∃ r : Int, e = .returned (.int .i64 r) ∧ 0 ≤ r ∧ (r ≤ 20000 → szN ns ≤ 20000) ∧ Below w.heap.size w w' := by
  obtain ⟨W0, hW0⟩ : ∃ W0, W0 = w.alloc (.cells #[.slice A n c] 24) := ⟨_, rfl⟩
  have HB0 : Hid (Below w.heap.size w W0) := hide (by rw [hW0]; exact below_al6 (Below.refl _ _))
  have c0 : W0.cell? ⟨w.heap.size, 0, none⟩ = some (.slice A n c) := by rw [hW0]; exact cell_of_row _ _ 0 _ _ (0, 0) (heap_alloc_new w _)
  have HC := hide (nodes_size A n c ns W0 (h.below HB0.out) hn)
  have hW0' := hW0.symm
  clear hW0 h
  go_enter Try.func9, Try.ntmps9
  go_wp2_with fail
  refine Calls.mono HC.out ?_
  rintro e w1 ⟨r, rfl, hr0, hr1, hr2, hb⟩
  have HB := hide (HB0.out.trans (hb.mono HB0.out.size))
  obtain ⟨a, ha⟩ : ∃ a : Int, a = 1 + r := ⟨_, rfl⟩
  have m1 : IntKind.i64.wrap (1 + r) = a := by rw [IntKind.wrap_i64]; omega
  have hf : 0 ≤ a ∧ (a ≤ 20000 → szN ns ≤ 20000) := ⟨by omega, fun h => by have := hr2 (by omega); omega⟩
  have HF := hide hf
  clear hb c0 hf hr0 hr1 hr2 ha HC
  go_wp2
  go_ret
  exact ⟨a, rfl, HF.out.1, HF.out.2, HB.out⟩

end Go.Proofs.Ytdlhhkegkfhmoaa
