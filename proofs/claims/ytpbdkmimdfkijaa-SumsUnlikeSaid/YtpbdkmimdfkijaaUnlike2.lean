/- SumsUnlike holds for every bytes, wherever they turn, by whatever: the walk of its Go text. -/
import Derived.Test.YtpbdkmimdfkijaaEnd
import Derived.Test.YtpbdkmimdfkijaaTwinB
import Derived.Deep.RegionLaw
namespace Go.Proofs.Ytpbdkmimdfkijaa
open Go.RowKit

/-- The copy, of which j bytes from k on have turned. -/
def turned (xs : List Int) (k : Nat) (b : Int) : Nat → List Int
  | 0 => xs
  | j + 1 => (turned xs k b j).set (k + j) ((((turned xs k b j).getD (k + j) 0).toNat ^^^ ((four b).getD j 0).toNat : Nat) : Int)
theorem turned_len (xs : List Int) (k : Nat) (b : Int) (j : Nat) : (turned xs k b j).length = xs.length := by
  induction j with
  | zero => rfl
  | succ j ih => rw [turned, List.length_set, ih]
theorem set_getD (l : List Int) (p j : Nat) (v : Int) (hp : p < l.length) : (l.set p v).getD j 0 = if p = j then v else l.getD j 0 := by
  simp only [List.getD, List.getElem?_set]
  by_cases e : p = j
  · subst e; simp [hp]
  · simp [e]
theorem turned_getD (xs : List Int) (k : Nat) (b : Int) (j : Nat) (hk : k + j ≤ xs.length) (i : Nat) :
    (turned xs k b j).getD i 0 = if k ≤ i ∧ i < k + j then (((xs.getD i 0).toNat ^^^ ((four b).getD (i - k) 0).toNat : Nat) : Int) else xs.getD i 0 := by
  induction j generalizing i with
  | zero => rw [turned, if_neg (by omega)]
  | succ j ih =>
    have h0 := ih (by omega) (k + j)
    rw [if_neg (by omega)] at h0
    rw [turned, set_getD _ _ _ _ (by rw [turned_len]; omega), h0]
    by_cases e : k + j = i
    · subst e
      rw [if_pos rfl, if_pos (by omega), show k + j - k = j by omega]
    · rw [if_neg e, ih (by omega) i]
      by_cases h : k ≤ i ∧ i < k + j
      · rw [if_pos h, if_pos (by omega)]
      · rw [if_neg h, if_neg (by omega)]
theorem turnL_getD (k m : Nat) (b : Int) (i : Nat) : (turnL k b m).getD i 0 = if k ≤ i ∧ i < k + 4 then (four b).getD (i - k) 0 else 0 := by
  unfold turnL
  simp only [List.getD]
  by_cases h1 : i < k
  · rw [List.getElem?_append_left (by simpa using h1), if_neg (by omega)]
    simp [h1]
  · rw [List.getElem?_append_right (by simp; omega), List.length_replicate]
    by_cases h2 : i < k + 4
    · rw [if_pos (by omega), List.getElem?_append_left (by rw [four_len]; omega)]
    · rw [if_neg (by omega), List.getElem?_append_right (by rw [four_len]; omega), four_len, List.getElem?_replicate]
      split <;> rfl
theorem ext_getD (xs ys : List Int) (h : xs.length = ys.length) (hg : ∀ i, xs.getD i 0 = ys.getD i 0) : xs = ys := by
  apply List.ext_getElem h
  intro i h1 h2
  have := hg i
  simpa [List.getD, h1, h2] using this
theorem turned_all (xs : List Int) (k m : Nat) (b : Int) (hl : xs.length = k + 4 + m) (hx : ByteL xs) : turned xs k b 4 = xorL xs (turnL k b m) := by
  have hll : xs.length = (turnL k b m).length := by simp [turnL, four_len]; omega
  apply ext_getD
  · rw [turned_len, xorL_len _ _ hll]
  · intro i
    rw [turned_getD xs k b 4 (by omega), xorL_getD _ _ hll, turnL_getD]
    have hb := bytes_getD (bs := xs) hx i
    by_cases h : k ≤ i ∧ i < k + 4
    · rw [if_pos h, if_pos h]
    · rw [if_neg h, if_neg h, show (0 : Int).toNat = 0 from rfl, Nat.xor_zero, Int.toNat_of_nonneg hb.1]
theorem turned_byteL (xs : List Int) (k : Nat) (b : Int) (j : Nat) (hx : ByteL xs) : ByteL (turned xs k b j) := by
  induction j with
  | zero => exact hx
  | succ j ih =>
    intro z hz
    rw [turned] at hz
    rcases List.mem_or_eq_of_mem_set hz with hz | rfl
    · exact ih z hz
    · have h1 := bytes_getD (bs := turned xs k b j) ih (k + j)
      have h2 := bytes_getD (bs := four b) (four_bytes b) j
      have : ((turned xs k b j).getD (k + j) 0).toNat ^^^ ((four b).getD j 0).toNat < 2 ^ 8 := Nat.xor_lt_two_pow (by omega) (by omega)
      omega
def turnedV (xs : List Int) (k : Nat) (b : Int) (j : Nat) : List Value := (turned xs k b j).map (Value.int .u8)
theorem fourV_at (b : Int) (j : Nat) (h : j < 4) : (fourV b)[j]? = some (.int .u8 ((four b).getD j 0)) := by
  have : j < (four b).length := h
  simp [fourV, List.getD, this]
theorem stored_turned {w : World} {base : Nat} {e : TypeId} {g n c j k : Nat} {xs : List Int} {b x y : Int} (ho : w.ownsRow base e 1 (.slice (some ⟨g, 0, none⟩) n c) n (turnedV xs k b j))
    (hx : x = (turned xs k b j).getD (k + j) 0) (hy : y = (four b).getD j 0) :
    (w.setCell ⟨g, k + j, none⟩ (.int .u8 ((x.toNat ^^^ y.toNat : Nat) : Int))).ownsRow base e 1 (.slice (some ⟨g, 0, none⟩) n c) n (turnedV xs k b (j + 1)) := by
  have h := (ho.stored (k + j) (.int .u8 ((x.toNat ^^^ y.toNat : Nat) : Int))).1
  have he : (turnedV xs k b j).set (k + j) (.int .u8 ((x.toNat ^^^ y.toNat : Nat) : Int)) = turnedV xs k b (j + 1) := by
    unfold turnedV
    rw [turned, List.map_set, ← hx, ← hy]
  rw [he] at h
  exact h
theorem grown_set (w : World) (a : Addr) (v : Value) : w.grownBy (w.setCell a v) (some a.block) :=
  ⟨rfl, rfl, rfl, by simp [World.setCell], fun i _ hne => Below.heap_setCell w a v i (by intro e; exact hne (by rw [e]))⟩

set_option maxRecDepth 100000 in
set_option maxHeartbeats 1000000 in
theorem unlike_short (A : Option Addr) (n c : Nat) (a b : Int) (w : World) (hn : n ≤ 140737488355328) (h : n < 4 ∨ 100000 < n) :
    Calls Try.prog 5 #[.slice A n c, .int .u16 a, .int .u32 b] w fun e w' => e = .returned (.bool true) ∧ Below w.heap.size w w' := by
  rcases h with h | h
  all_goals
    go_enter Try.func5, Try.ntmps5
    go_wp2_with fail
    refine Calls.mono (alive2_any _) ?_
    rintro e w1 ⟨rfl, hb1⟩
    have HB1 := hide hb1
    have hs1 := hb1.size
    clear hb1
    go_wp2_with fail
    refine Calls.mono (alive2_any w1) ?_
    rintro e w2 ⟨rfl, hb2⟩
    have HB2 := hide (HB1.out.trans (hb2.mono hs1))
    clear hb2
    go_wp2
    go_ret
    exact ⟨rfl, HB2.out⟩

set_option maxRecDepth 100000 in
set_option maxHeartbeats 4000000 in
theorem unlike_walk (A : Option Addr) (n c a b : Nat) (xs : List Int) (w : World) (ha : a < 65536) (hb : b < 4294967296) (hA : Lies w A n (xs.map (Value.int .u8))) (hnA : A = none → c = 0) (hx : ByteL xs) (h4 : 4 ≤ n) (hn : n ≤ 100000) :
    Calls Try.prog 5 #[.slice A n c, .int .u16 (a : Int), .int .u32 (b : Int)] w fun e w' => e = .returned (.bool true) ∧ Below w.heap.size w w' := by
  obtain ⟨i0, hi, hz0, hz1, hz2⟩ := info_parts Try.infoB
  have HI := hide hi
  have HZ0 := hide hz0
  have HZ1 := hide hz1
  have HZ2 := hide hz2
  have HA := hide hA
  have HNA := hide hnA
  have HX := hide hx
  have hlen : xs.length = n := by have := hA.len; simpa using this
  obtain ⟨k, hk⟩ : ∃ k, k = a % (n - 3) := ⟨_, rfl⟩
  have hkl : k < n - 3 := by rw [hk]; exact Nat.mod_lt _ (by omega)
  have hm2 : ((a : Int)) % ((n : Int) - 3) = (k : Int) := by rw [hk, show ((n : Int) - 3) = ((n - 3 : Nat) : Int) by omega]; rfl
  have hm1 : ((a : Int)).tmod ((n : Int) - 3) = (k : Int) := by rw [Int.tmod_eq_emod_of_nonneg (by omega), hm2]
  have hnz : ¬ ((n : Int) - 3 = 0) := by omega
  have hall := turned_all xs k (n - k - 4) (b : Int) (by omega) hx
  have hi1 := turn_iff xs k (n - k - 4) b (by omega) hb
  rw [← hall] at hi1
  have hi2 := tail_iff xs b hx hb
  obtain ⟨P1, hP1⟩ : ∃ P : Int, P = ((sumOf xs : Nat) : Int) := ⟨_, rfl⟩
  obtain ⟨P2, hP2⟩ : ∃ P : Int, P = ((sumOf (turned xs k (b : Int) 4) : Nat) : Int) := ⟨_, rfl⟩
  obtain ⟨P3, hP3⟩ : ∃ P : Int, P = ((sumOf (xs ++ four (b : Int)) : Nat) : Int) := ⟨_, rfl⟩
  obtain ⟨P4, hP4⟩ : ∃ P : Int, P = ((sumOf (xs ++ [0, 0, 0, 0]) : Nat) : Int) := ⟨_, rfl⟩
  have q1 : (P1 == P2) = ((b : Int) == 0) := beq_of_iff (by rw [hP1, hP2]; exact ⟨fun hh => by have := hi1.1 (by omega); omega, fun hh => by have := hi1.2 (by omega); omega⟩)
  have q2 : (P3 == P4) = ((b : Int) == 0) := beq_of_iff (by rw [hP3, hP4]; exact ⟨fun hh => by have := hi2.1 (by omega); omega, fun hh => by have := hi2.2 (by omega); omega⟩)
  have HP1 := hide hP1
  have HP2 := hide hP2
  have HP3 := hide hP3
  have HP4 := hide hP4
  have Q1 := hide q1
  have Q2 := hide q2
  have HLEN := hide hlen
  have HKL : Hid (k + 4 ≤ n) := hide (by omega)
  have HTB := hide (turned_byteL xs k (b : Int) 4 hx)
  have HTL : Hid (ByteL (xs ++ four (b : Int))) := hide (byteL_append hx (four_byteL _))
  have HNL : Hid (ByteL (xs ++ [0, 0, 0, 0])) := hide (byteL_append hx (by unfold ByteL; decide))
  clear hi hz0 hz1 hz2 hA hnA hx hlen hk hkl hall hi1 hi2 hP1 hP2 hP3 hP4 q1 q2
  go_enter Try.func5, Try.ntmps5
  go_wp2_with fail
  refine Calls.mono (alive2_any _) ?_
  rintro e w1 ⟨rfl, hb1⟩
  have HB1 := hide hb1
  have hs1 := hb1.size
  clear hb1
  go_wp2_with (at_builtin; refine wpList_append_src rfl _ _ 22 rfl 5 i0 (.int .u8 0) 1 Try.underlying22 HI.out HZ0.out HZ1.out HZ2.out rfl w.heap.size (.slice none 0 0) 0 [] rfl (World.ownsRow_nil _ _ _ _) hs1 A n c (xs.map (Value.int .u8)) rfl (HA.out.below HB1.out) HNA.out (ints_one _ _) (by omega) (by unfold maxLen; omega) ?_)
  intro A2 c2 w2 ho2 hg2
  obtain ⟨g, rfl⟩ : ∃ g, A2 = some ⟨g, 0, none⟩ := by
    rcases ho2.2 with ⟨e0, h0⟩ | ⟨g, cap, cur, e0, _⟩
    · omega
    · injection e0 with e0; exact ⟨g, e0⟩
  have HO2 : Hid (w2.ownsRow w.heap.size 5 1 (.slice (some ⟨g, 0, none⟩) n c2) n (turnedV xs k (b : Int) 0)) := hide ho2
  have HB2 := hide (below_own HB1.out hs1 (World.ownsRow_nil _ w.heap.size 5 1) hg2 (Nat.le_refl _))
  have hs2 := HB2.out.size
  clear ho2 hg2 HB1 hs1
  go_wp2
  clear hm1 hm2 hnz
  go_loopw [9] (fun i wr => ∃ j : Nat, j ≤ 4 ∧ i = .int .i64 j ∧ Hid (wr.ownsRow w.heap.size 5 1 (.slice (some ⟨g, 0, none⟩) n c2) n (turnedV xs k (b : Int) j)) ∧ Hid (Below w.heap.size w wr)) (fun i _ => 4 - (intOf i).toNat)
  case atStart => exact ⟨0, by omega, rfl, HO2, HB2⟩
  case round =>
    obtain ⟨j, hj, rfl, HO, HB⟩ := hrel
    have hsr := HB.out.size
    by_cases hlt : j < 4
    · have hkn := HKL.out
      obtain ⟨hgb, hgl⟩ := HO.out.lt g rfl
      obtain ⟨x, ex⟩ : ∃ x, x = (turned xs k (b : Int) j).getD (k + j) 0 := ⟨_, rfl⟩
      obtain ⟨y, ey⟩ : ∃ y, y = (four (b : Int)).getD j 0 := ⟨_, rfl⟩
      have hx0 := bytes_getD (bs := turned xs k (b : Int) j) (turned_byteL xs k (b : Int) j HX.out) (k + j)
      have hy0 := bytes_getD (bs := four (b : Int)) (four_bytes _) j
      rw [← ex] at hx0
      rw [← ey] at hy0
      have hc : wr.cell? ⟨g, k + j, none⟩ = some (.int .u8 x) := by
        have h1 := HO.out.cellAt (k + j) (by omega)
        have h2 : (turnedV xs k (b : Int) j)[k + j]? = some (.int .u8 x) := by
          have hl : k + j < (turned xs k (b : Int) j).length := by rw [turned_len, HLEN.out]; omega
          rw [ex]
          simp [turnedV, List.getD, hl]
        rw [h1, h2]
      have hf : wr.frozen? ⟨g, k + j, none⟩ = false := by
        rcases HO.out.2 with ⟨e0, h0⟩ | ⟨g', cap, cur, e0, _, hh, _⟩
        · omega
        · injection e0 with e0
          injection e0 with e0
          injection e0 with e0
          subst e0
          simp [World.frozen?, hh]
      have hfy := fourV_at (b : Int) j hlt
      rw [← ey] at hfy
      have hr := u8_xor x y hx0.1 hx0.2 hy0.1 hy0.2
      have HST : Hid (∀ w' : World, w'.ownsRow w.heap.size 5 1 (.slice (some ⟨g, 0, none⟩) n c2) n (turnedV xs k (b : Int) j) → (w'.setCell ⟨g, k + j, none⟩ (.int .u8 ((x.toNat ^^^ y.toNat : Nat) : Int))).ownsRow w.heap.size 5 1 (.slice (some ⟨g, 0, none⟩) n c2) n (turnedV xs k (b : Int) (j + 1))) := hide (fun w' ho => stored_turned ho ex ey)
      obtain ⟨t, et⟩ : ∃ t : Int, t = ((x.toNat ^^^ y.toNat : Nat) : Int) := ⟨_, rfl⟩
      rw [← et] at hr HST
      have e1 : IntKind.i64.wrap ((k : Int) + (j : Int)) = (k : Int) + (j : Int) := IntWalk.i64_in _ (by omega)
      have e2 : (0 : Int) ≤ (k : Int) + (j : Int) := by omega
      have e3 : ((k : Int) + (j : Int)).toNat = k + j := by omega
      have e4 : (k : Int) + (j : Int) < (n : Int) := by omega
      have e5 : (0 : Int) ≤ (j : Int) := by omega
      have e6 : (j : Int) < 4 := by omega
      have hB4 : (0 : Int) ≤ (b : Int) ∧ (b : Int) < 4294967296 := by omega
      have HB4 := hide hB4
      clear ex ey et hB4
      go_wp2_with fail
      go_region_law (first | (go_simp; go_at_call 16; refine Calls.mono (four2_any (b : Int) HB4.out _) ?_; rintro e w4 ⟨rfl, rfl⟩))
      all_goals
        have HOn : Hid (((wr.setCell ⟨g, k + j, none⟩ (.int .u8 t)).alloc (.cells (fourV (b : Int)).toArray 5)).drew.ownsRow w.heap.size 5 1 (.slice (some ⟨g, 0, none⟩) n c2) n (turnedV xs k (b : Int) (j + 1))) := hide (((HST.out wr HO.out).alloc _).drew)
        have HBn : Hid (Below w.heap.size w ((wr.setCell ⟨g, k + j, none⟩ (.int .u8 t)).alloc (.cells (fourV (b : Int)).toArray 5)).drew) := hide (((HB.out.grown (grown_set wr ⟨g, k + j, none⟩ (.int .u8 t)) hsr (fun b' hb' => by injection hb' with hb'; subst hb'; exact hgb)).alloc (by simp [World.setCell]; omega) _).drew)
        clear e1 e2 e3 e4 hc hf hfy hr HO HB HST
        go_wp2
        go_roundw
        case rel => exact ⟨j + 1, by omega, by go_num, HOn, HBn⟩
        case measure => simp [intOf]; omega
    · obtain rfl : j = 4 := by omega
      have HL3 : Hid (Lies wr (some ⟨g, 0, none⟩) n ((turned xs k (b : Int) 4).map (Value.int .u8))) := hide (lies_of_own HO.out)
      have HA3 := hide (HA.out.below HB.out)
      have HB3 := hide (Below.refl wr.heap.size wr)
      have hs3 : wr.heap.size ≤ wr.heap.size := Nat.le_refl _
      clear HO HO2 HB2 hs2
      go_wp2_with (at_builtin; refine wpList_append_src rfl _ _ 22 rfl 5 i0 (.int .u8 0) 1 Try.underlying22 HI.out HZ0.out HZ1.out HZ2.out rfl wr.heap.size (.slice none 0 0) 0 [] rfl (World.ownsRow_nil _ _ _ _) hs3 A n c (xs.map (Value.int .u8)) rfl HA3.out HNA.out (ints_one _ _) (by omega) (by unfold maxLen; omega) ?_)
      intro A4 c4 w4 ho4 hg4
      have HO4 : Hid (w4.ownsRow wr.heap.size 5 1 (.slice A4 n c4) n (xs.map (Value.int .u8))) := hide ho4
      have HB4 := hide (below_own HB3.out hs3 (World.ownsRow_nil _ wr.heap.size 5 1) hg4 (Nat.le_refl _))
      have hs4 := HB4.out.size
      clear ho4 hg4 HB3 hs3
      go_wp2_with fail
      refine Calls.mono (four2_any (b : Int) (by omega) w4) ?_
      rintro e w5 ⟨rfl, rfl⟩
      have HF5 := hide (four_lies (b : Int) w4 5)
      have HB5 := hide (HB4.out.alloc hs4 (.cells (fourV (b : Int)).toArray 5))
      have HO5 := hide (HO4.out.alloc (.cells (fourV (b : Int)).toArray 5))
      generalize w4.alloc (.cells (fourV (b : Int)).toArray 5) = w5 at HF5 HB5 HO5 ⊢
      have hs5 := HB5.out.size
      clear HB4 HO4 hs4
      go_wp2_with (at_builtin; refine wpList_append_src rfl _ _ 22 rfl 5 i0 (.int .u8 0) 1 Try.underlying22 HI.out HZ0.out HZ1.out HZ2.out rfl wr.heap.size (.slice A4 n c4) n (xs.map (Value.int .u8)) rfl HO5.out hs5 (some ⟨w4.heap.size, 0, none⟩) 4 4 (fourV (b : Int)) rfl HF5.out (by simp) (ints_one _ _) (by omega) (by unfold maxLen; omega) ?_)
      intro A6 c6 w6 ho6 hg6
      have HT6 : Hid (Lies w6 A6 (n + 4) ((xs ++ four (b : Int)).map (Value.int .u8))) := hide (lies_join (lies_of_own ho6))
      have HB6 := hide (below_own HB5.out hs5 HO5.out hg6 (Nat.le_refl _))
      have hs6 := HB6.out.size
      clear ho6 hg6 HB5 HO5 HF5 hs5
      go_wp2_with (at_builtin; refine wpList_append_src rfl _ _ 22 rfl 5 i0 (.int .u8 0) 1 Try.underlying22 HI.out HZ0.out HZ1.out HZ2.out rfl w6.heap.size (.slice none 0 0) 0 [] rfl (World.ownsRow_nil _ _ _ _) (Nat.le_refl _) A n c (xs.map (Value.int .u8)) rfl (HA3.out.below HB6.out) HNA.out (ints_one _ _) (by omega) (by unfold maxLen; omega) ?_)
      intro A7 c7 w7 ho7 hg7
      have HO7 : Hid (w7.ownsRow w6.heap.size 5 1 (.slice A7 n c7) n (xs.map (Value.int .u8))) := hide ho7
      have HC7 := hide (below_own (Below.refl w6.heap.size w6) (Nat.le_refl _) (World.ownsRow_nil _ w6.heap.size 5 1) hg7 (Nat.le_refl _))
      have hc7 := HC7.out.size
      clear ho7 hg7
      have HF8 := hide (lies_lit2 w7 [0, 0, 0, 0] 5)
      have HO8 := hide (HO7.out.alloc (.cells #[.int .u8 0, .int .u8 0, .int .u8 0, .int .u8 0] 5))
      have HC8 := hide (HC7.out.alloc hc7 (.cells #[.int .u8 0, .int .u8 0, .int .u8 0, .int .u8 0] 5))
      have hc8 := HC8.out.size
      go_wp2_with (at_builtin; refine wpList_append_src rfl _ _ 22 rfl 5 i0 (.int .u8 0) 1 Try.underlying22 HI.out HZ0.out HZ1.out HZ2.out rfl w6.heap.size (.slice A7 n c7) n (xs.map (Value.int .u8)) rfl HO8.out hc8 (some ⟨w7.heap.size, 0, none⟩) 4 4 (([0, 0, 0, 0] : List Int).map (Value.int .u8)) rfl HF8.out (by simp) (ints_one _ _) (by omega) (by unfold maxLen; omega) ?_)
      intro A9 c9 w9 ho9 hg9
      have HN9 : Hid (Lies w9 A9 (n + 4) ((xs ++ [0, 0, 0, 0]).map (Value.int .u8))) := hide (lies_join (lies_of_own ho9))
      have HC9 := hide (below_own HC8.out hc8 HO8.out hg9 (Nat.le_refl _))
      have HT9 := hide (HT6.out.below HC9.out)
      have HB9 := hide (HB6.out.trans (HC9.out.mono hs6))
      have HL9 := hide (HL3.out.below HB9.out)
      have HA9 := hide (HA3.out.below HB9.out)
      have HF9 := hide (HB.out.trans (HB9.out.mono hsr))
      clear ho9 hg9 HC8 HC7 hc7 hc8 HO8 HO7 HF8 HT6 HB6 hs6 HC9 HB9 HA3 HL3
      have hs9 := HF9.out.size
      go_wp2_with fail
      refine Calls.mono (of_any A n c xs w9 HA9.out HX.out (by omega)) ?_
      rw [← HP1.out]
      rintro e w10 ⟨rfl, hb10⟩
      have HL10 := hide (HL9.out.below hb10)
      have HT10 := hide (HT9.out.below hb10)
      have HN10 := hide (HN9.out.below hb10)
      have HF10 := hide (HF9.out.trans (hb10.mono hs9))
      have hs10 := HF10.out.size
      clear hb10 HL9 HT9 HN9 HF9 HA9
      go_wp2_with fail
      refine Calls.mono (of_any (some ⟨g, 0, none⟩) n c2 (turned xs k (b : Int) 4) w10 HL10.out HTB.out (by omega)) ?_
      rw [← HP2.out]
      rintro e w11 ⟨rfl, hb11⟩
      have HT11 := hide (HT10.out.below hb11)
      have HN11 := hide (HN10.out.below hb11)
      have HF11 := hide (HF10.out.trans (hb11.mono hs10))
      have hs11 := HF11.out.size
      clear hb11 HL10 HT10 HN10 HF10
      have q1 := Q1.out
      go_wp2_with fail
      refine Calls.mono (of_any A6 (n + 4) c6 (xs ++ four (b : Int)) w11 HT11.out HTL.out (by omega)) ?_
      rw [← HP3.out]
      rintro e w12 ⟨rfl, hb12⟩
      have HN12 := hide (HN11.out.below hb12)
      have HF12 := hide (HF11.out.trans (hb12.mono hs11))
      have hs12 := HF12.out.size
      clear hb12 HT11 HN11 HF11
      go_wp2_with fail
      refine Calls.mono (of_any A9 (n + 4) c9 (xs ++ [0, 0, 0, 0]) w12 HN12.out HNL.out (by omega)) ?_
      rw [← HP4.out]
      rintro e w13 ⟨rfl, hb13⟩
      have HF13 := hide (HF12.out.trans (hb13.mono hs12))
      clear hb13 HN12 HF12
      have q2 := Q2.out
      go_wp2
      go_ret
      exact ⟨by simp, HF13.out⟩
theorem unlike_law (A : Option Addr) (n c : Nat) (a b : Int) (xs : List Int) (w : World) (ha : 0 ≤ a ∧ a < 65536) (hb : 0 ≤ b ∧ b < 4294967296) (hA : Lies w A n (xs.map (Value.int .u8))) (hnA : A = none → c = 0) (hx : ByteL xs) (hn : n ≤ 140737488355328) :
    Calls Try.prog 5 #[.slice A n c, .int .u16 a, .int .u32 b] w fun e w' => e = .returned (.bool true) ∧ Below w.heap.size w w' := by
  obtain ⟨k, rfl⟩ := Int.eq_ofNat_of_zero_le hb.1
  obtain ⟨i, rfl⟩ := Int.eq_ofNat_of_zero_le ha.1
  by_cases h : n < 4 ∨ 100000 < n
  · exact unlike_short A n c _ _ w hn h
  · exact unlike_walk A n c i k xs w (by omega) (by omega) hA hnA hx (by omega) (by omega)
end Go.Proofs.Ytpbdkmimdfkijaa
