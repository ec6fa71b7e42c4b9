/- DisksTorn holds for every bytes, and every ones written over them: the walk of its Go text. -/
import Derived.Test.YtphfakjodddilaaDiskDoes2
import Derived.Test.YtphfakjodddilaaWrite3
import Derived.Test.YtphfakjodddilaaBad3
namespace Go.Proofs.Ytphfakjodddilaa
open Go.RowKit
set_option linter.unusedSimpArgs false
set_option linter.unusedVariables false

def tA (aa : List Int) : List Sec := [zeroSec, ⟨padB aa, false⟩, zeroSec]
theorem below_drew {B : Nat} {a w : World} (h : Below B a w) : Below B a w.drew := below_drewN h 1
theorem own_nil {w : World} {B : Nat} {e : TypeId} {A : Option Addr} {n c : Nat} {xs : List Value} (h : w.ownsRow B e 1 (.slice A n c) n xs) : A = none → c = 0 := by
  rintro rfl
  rcases h.2 with ⟨e0, _⟩ | ⟨g, cap, cur, e0, _⟩ <;> injection e0 with e0 _ e2
  · cases e0
theorem own_cap {w : World} {B : Nat} {e : TypeId} {A : Option Addr} {n c : Nat} {xs : List Value} (h : w.ownsRow B e 1 (.slice A n c) n xs) : n ≤ c := by
  rcases h.2 with ⟨e0, h0⟩ | ⟨g, cap, cur, e0, _, _, h1, _⟩ <;> injection e0 with _ _ e2
  · omega
  · omega
theorem own_some {w : World} {B : Nat} {e : TypeId} {A : Option Addr} {n c : Nat} {xs : List Value} (h : w.ownsRow B e 1 (.slice A n c) n xs) (hn : 0 < n) : ∃ g, A = some ⟨g, 0, none⟩ := by
  rcases h.2 with ⟨e0, h0⟩ | ⟨g, cap, cur, e0, _⟩ <;> injection e0 with e0 _ e2
  · omega
  · exact ⟨g, e0⟩
section
variable {P : Program} {w : World}
theorem step_append_src {ops : Array Oper} {op : Oper} {a : Act} {K : Act → World → Prop} {Q : Exit → Act → World → Prop} {E : Prop} (hw : Region.wanted op (yielded ops a.tmps) = true) (s x : Operand) (t : TypeId)
    (hop : op.op = .call { callee := .builtin .append, args := #[s, x], argTypes := #[t, t] })
    (e : TypeId) (i : TypeInfo) (z : Value) (bytes : Nat) (ht : P.underlying t = some (.slice e)) (hi : P.info? e = some i) (hz : i.zero = some z) (hsize : i.size = 1) (hby : i.bytes = bytes) (hzs : z.cells.size = 1)
    (base : Nat) (v : Value) (n : Nat) (xs : List Value) (hs : a.eval s = v) (ho : w.ownsRow base e 1 v n xs) (hbase : base ≤ w.heap.size)
    (A : Option Addr) (m c : Nat) (news : List Value) (hx : a.eval x = .slice A m c) (hn : Lies w A m news) (hnil : A = none → c = 0) (h1 : ∀ u ∈ news, u.oneCell' = true) (hb : (n + m) * bytes ≤ 140737488355328) (h63 : n + m ≤ maxLen)
    (h : ∀ A' c' w', Hid (w'.ownsRow base e 1 (.slice A' (n + m) c') (n + m) (xs ++ news)) → Hid (w.grownBy w' v.ownBlock) → K (a.put op.dst (.slice A' (n + m) c')) w') : if Region.wanted op (yielded ops a.tmps) = true then Oper.wp P op a w K Q else E := by
  rw [if_pos hw]
  obtain ⟨A', c', w', hrun, h2, h3⟩ := run_append_src (P := P) (w := w) t op.type e i z bytes ht hi hz hsize hby hzs base v n xs ho hbase A m c news hn hnil h1 hb h63
  unfold Oper.wp
  simp [execOp, hop, resolve, invoke, builtin, hs, hx, hrun, Result.andThen]
  exact h A' c' w' (hide h2) (hide h3)
end
theorem torn_left (aa bs : List Int) (kp : Nat) (hk : kp = 0 ∨ kp = 1) : secAt (leftOf kp 0 (tA aa) [⟨1, padB bs, false⟩]) 1 = ⟨(padB bs).take 32 ++ (padB aa).drop 32, false⟩ := by
  unfold leftOf
  show secAt (stepF kp 0 0 (tA aa) ⟨1, padB bs, false⟩) 1 = _
  rw [step_torn (i := 0) (torn := 0) (by rfl)]
  rfl
theorem torn_none (aa bs : List Int) (kp : Nat) (hk : kp = 0 ∨ kp = 1) : secAt (leftOf kp (-1) (tA aa) [⟨1, padB bs, false⟩]) 1 = ⟨if kp = 1 then padB bs else padB aa, false⟩ := by
  unfold leftOf
  show secAt (stepF kp (-1) 0 (tA aa) ⟨1, padB bs, false⟩) 1 = _
  rcases hk with rfl | rfl
  · rw [step_lost (by omega) (by decide)]; rfl
  · rw [step_kept (by omega) (by decide)]; rfl
set_option maxRecDepth 100000 in
set_option maxHeartbeats 8000000 in
theorem torn_law (A Ab : Option Addr) (na ca m cb : Nat) (aa bs : List Int) (w : World) (ha0 : Lies w A na (aa.map (Value.int .u8))) (hb0 : Lies w Ab m (bs.map (Value.int .u8))) (hnA : A = none → ca = 0) (hnB : Ab = none → cb = 0) (hay : ∀ z ∈ aa, 0 ≤ z ∧ z < 256) (hby : ∀ z ∈ bs, 0 ≤ z ∧ z < 256) :
    Calls Try.prog 6 #[.slice A na ca, .slice Ab m cb] w fun e w' => e = .returned (.bool true) ∧ Below w.heap.size w w' := by
  have HA := hide ha0
  have HL := hide hb0
  have HAY := hide hay
  have HBY := hide hby
  have HNA := hide hnA
  have HNB := hide hnB
  have HAL : Hid (aa.length = na) := hide (by have := ha0.len; simpa using this)
  have HBL : Hid (bs.length = m) := hide (by have := hb0.len; simpa using this)
  have HB0 : Hid (Below w.heap.size w w) := hide (Below.refl _ _)
  clear ha0 hb0 hay hby hnA hnB
  by_cases hna : 64 < na
  · have hm1 : (64 : Int) < (na : Int) := by omega
    go_enter Try.func6, Try.ntmps6
    go_wp2_with fail
    refine Calls.mono (alive3_any _) ?_
    rintro e w1 ⟨rfl, hb⟩
    have HB1 : Hid (Below w.heap.size w w1) := hide (HB0.out.trans (hb.mono HB0.out.size))
    clear hb
    go_wp2_with fail
    refine Calls.mono (alive3_any _) ?_
    rintro e w98 ⟨rfl, hb⟩
    have HB98 : Hid (Below w.heap.size w w98) := hide (HB1.out.trans (hb.mono HB1.out.size))
    clear hb
    go_wp2
    go_ret
    exact ⟨rfl, HB98.out⟩
  by_cases hm : 64 < m
  · have hm0 : (na : Int) ≤ 64 := by omega
    have hm1 : (64 : Int) < (m : Int) := by omega
    go_enter Try.func6, Try.ntmps6
    go_wp2_with fail
    refine Calls.mono (alive3_any _) ?_
    rintro e w1 ⟨rfl, hb⟩
    have HB1 : Hid (Below w.heap.size w w1) := hide (HB0.out.trans (hb.mono HB0.out.size))
    clear hb
    go_wp2_with fail
    refine Calls.mono (alive3_any _) ?_
    rintro e w98 ⟨rfl, hb⟩
    have HB98 : Hid (Below w.heap.size w w98) := hide (HB1.out.trans (hb.mono HB1.out.size))
    clear hb
    go_wp2
    go_ret
    exact ⟨rfl, HB98.out⟩
  have hm0 : (na : Int) ≤ 64 := by omega
  have hm1 : (m : Int) ≤ 64 := by omega
  go_enter Try.func6, Try.ntmps6
  go_wp2_with fail
  refine Calls.mono (alive3_any _) ?_
  rintro e w1 ⟨rfl, hb⟩
  have HB1 : Hid (Below w.heap.size w w1) := hide (HB0.out.trans (hb.mono HB0.out.size))
  clear hb
  have hs1 := HB1.out.size
  go_wp2_with fail
  refine Calls.mono (k_new (B := w.heap.size) (l := []) 3 _ Ks.nil hs1 (by omega) (by omega)) ?_
  rintro e w2 ⟨g, rfl, hkk, hb⟩
  have HK2 : Hid (Ks w.heap.size w2 [⟨g, [zeroSec, zeroSec, zeroSec], []⟩]) := hide hkk
  have HB2 : Hid (Below w.heap.size w w2) := hide (HB1.out.trans (hb.mono hs1))
  clear hkk hb
  go_wp2_with fail
  refine Calls.mono (k_write (a := []) (b := []) (k := ⟨g, [zeroSec, zeroSec, zeroSec], []⟩) 1 A na ca aa _ HK2.out (HA.out.below HB2.out) HAY.out (Nat.zero_le _)) ?_
  rintro e w3 ⟨rfl, hkk, hb⟩
  have HK3 : Hid (Ks w.heap.size w3 [⟨g, [zeroSec, zeroSec, zeroSec], [⟨1, padB aa, false⟩]⟩]) := hide (by
    have e : wrP 3 1 aa [] = [⟨1, padB aa, false⟩] := by
      have e1 : wrOk 3 1 aa.length = true := decide_eq_true (by rw [HAL.out]; omega)
      unfold wrP; rw [e1]; rfl
    have h2 : Ks w.heap.size w3 [⟨g, [zeroSec, zeroSec, zeroSec], wrP 3 1 aa []⟩] := hkk
    rwa [e] at h2)
  have HB3 : Hid (Below w.heap.size w w3) := hide (HB2.out.trans hb)
  clear hkk hb
  go_wp2_with fail
  refine Calls.mono (k_sync (a := []) (b := []) (k := ⟨g, [zeroSec, zeroSec, zeroSec], [⟨1, padB aa, false⟩]⟩) _ HK3.out (Nat.le_of_ble_eq_true rfl)) ?_
  rintro e w4 ⟨rfl, hkk, hb⟩
  have HK4 : Hid (Ks w.heap.size w4 [⟨g, tA aa, []⟩]) := hide hkk
  have HB4 : Hid (Below w.heap.size w w4) := hide (HB3.out.trans hb)
  clear hkk hb
  go_wp2_with fail
  refine Calls.mono (k_write (a := []) (b := []) (k := ⟨g, tA aa, []⟩) 1 Ab m cb bs _ HK4.out (HL.out.below HB4.out) HBY.out (Nat.zero_le _)) ?_
  rintro e w5 ⟨rfl, hkk, hb⟩
  have HK5 : Hid (Ks w.heap.size w5 [⟨g, tA aa, [⟨1, padB bs, false⟩]⟩]) := hide (by
    have e : wrP 3 1 bs [] = [⟨1, padB bs, false⟩] := by
      have e1 : wrOk 3 1 bs.length = true := decide_eq_true (by rw [HBL.out]; omega)
      unfold wrP; rw [e1]; rfl
    have h2 : Ks w.heap.size w5 [⟨g, tA aa, wrP 3 1 bs []⟩] := hkk
    rwa [e] at h2)
  have HB5 : Hid (Below w.heap.size w w5) := hide (HB4.out.trans hb)
  have hs5 := HB5.out.size
  clear hkk hb HK2 HK3 HK4 HB1 HB2 HB3 HB4
  obtain ⟨i0, hi, hz0, hz1, hz2⟩ := info_parts Try.infoB
  have HI := hide hi
  have HZ0 := hide hz0
  have HZ1 := hide hz1
  have HZ2 := hide hz2
  obtain ⟨ka, hka⟩ : ∃ kz, 64 - na = kz := ⟨_, rfl⟩
  obtain ⟨kb, hkb⟩ : ∃ kz, 64 - m = kz := ⟨_, rfl⟩
  have HKA := hide hka
  have HKB := hide hkb
  have hkai : (64 : Int) - (na : Int) = (ka : Int) := by omega
  have hkbi : (64 : Int) - (m : Int) = (kb : Int) := by omega
  have HPA : Hid (OkB (padB aa)) := hide (okB_pad (by rw [HAL.out]; omega) HAY.out)
  have HPB : Hid (OkB (padB bs)) := hide (okB_pad (by rw [HBL.out]; omega) HBY.out)
  have HAi := hide hkai
  have HBi := hide hkbi
  clear hi hz0 hz1 hz2 hka hkb hkai hkbi
  go_wp2_with (at_builtin; refine wpList_append_src rfl _ _ 22 rfl 5 i0 (.int .u8 0) 1 Try.underlying22 HI.out HZ0.out HZ1.out HZ2.out rfl w5.heap.size (.slice none 0 0) 0 [] rfl (World.ownsRow_nil _ _ _ _) (Nat.le_refl _) A na ca (aa.map (Value.int .u8)) rfl (HA.out.below HB5.out) HNA.out (ones3 _ _) (by omega) (by unfold maxLen; omega) ?_)
  intro A6 c6 w6 ho hg
  have HO6 : Hid (w6.ownsRow w5.heap.size 5 1 (.slice A6 na c6) na (aa.map (Value.int .u8))) := hide (by simpa using ho)
  have HN6 : Hid (Below w5.heap.size w5 w6) := hide ((Below.refl _ _).grown hg (Nat.le_refl _) (by simp [Value.ownBlock]))
  have hn6 := HN6.out.size
  clear ho hg
  have hki := HAi.out
  go_wp2_with (at_builtin; refine wpList_append_zeros rfl _ _ 22 3 rfl 5 i0 (.int .u8 0) .i64 .i64 1 Try.underlying22 Try.underlying3 HI.out HZ0.out HZ1.out HZ2.out rfl rfl w5.heap.size (.slice A6 na c6) na (aa.map (Value.int .u8)) rfl HO6.out hn6 ka rfl (by have := HKA.out; omega) (by have := HKA.out; unfold maxLen; omega) ?_)
  intro elA elc w7 ho hg
  have hmk : na + ka = 64 := by have := HKA.out; omega
  rw [hmk, pad_row aa na ka HAL.out HKA.out] at ho
  obtain ⟨elg, hel⟩ := own_some ho (by omega)
  subst hel
  have Hel : Hid (Lies w7 (some ⟨elg, 0, none⟩) 64 ((padB aa).map (Value.int .u8))) := hide (lies_of_own ho)
  have HelC : Hid (64 ≤ elc) := hide (own_cap ho)
  have HM7 : Hid (Below w5.heap.size w5 w7) := hide (below_row HN6.out hn6 HO6.out hg)
  have HB7 : Hid (Below w.heap.size w w7) := hide (HB5.out.trans (HM7.out.mono hs5))
  have HK7 := hide (HK5.out.below HM7.out)
  have hs7 := HB7.out.size
  rw [hmk]
  clear ho hg hki HN6 HO6
  go_wp2_with (at_builtin; refine wpList_append_src rfl _ _ 22 rfl 5 i0 (.int .u8 0) 1 Try.underlying22 HI.out HZ0.out HZ1.out HZ2.out rfl w7.heap.size (.slice none 0 0) 0 [] rfl (World.ownsRow_nil _ _ _ _) (Nat.le_refl _) Ab m cb (bs.map (Value.int .u8)) rfl (HL.out.below HB7.out) HNB.out (ones3 _ _) (by omega) (by unfold maxLen; omega) ?_)
  intro A8 c8 w8 ho hg
  have HO8 : Hid (w8.ownsRow w7.heap.size 5 1 (.slice A8 m c8) m (bs.map (Value.int .u8))) := hide (by simpa using ho)
  have HN8 : Hid (Below w7.heap.size w7 w8) := hide ((Below.refl _ _).grown hg (Nat.le_refl _) (by simp [Value.ownBlock]))
  have hn8 := HN8.out.size
  clear ho hg
  have hki := HBi.out
  go_wp2_with (at_builtin; refine wpList_append_zeros rfl _ _ 22 3 rfl 5 i0 (.int .u8 0) .i64 .i64 1 Try.underlying22 Try.underlying3 HI.out HZ0.out HZ1.out HZ2.out rfl rfl w7.heap.size (.slice A8 m c8) m (bs.map (Value.int .u8)) rfl HO8.out hn8 kb rfl (by have := HKB.out; omega) (by have := HKB.out; unfold maxLen; omega) ?_)
  intro nwA nwc w9 ho hg
  have hmk : m + kb = 64 := by have := HKB.out; omega
  rw [hmk, pad_row bs m kb HBL.out HKB.out] at ho
  obtain ⟨nwg, hnw⟩ := own_some ho (by omega)
  subst hnw
  have Hnw : Hid (Lies w9 (some ⟨nwg, 0, none⟩) 64 ((padB bs).map (Value.int .u8))) := hide (lies_of_own ho)
  have HnwC : Hid (64 ≤ nwc) := hide (own_cap ho)
  have HM9 : Hid (Below w7.heap.size w7 w9) := hide (below_row HN8.out hn8 HO8.out hg)
  have HB9 : Hid (Below w.heap.size w w9) := hide (HB7.out.trans (HM9.out.mono hs7))
  have HK9 := hide (HK7.out.below HM9.out)
  have hs9 := HB9.out.size
  replace Hel := hide (Hel.out.below HM9.out)
  rw [hmk]
  clear ho hg hki HN8 HO8
  go_wp2
  go_loopw [10] (fun i wr => ∃ j : Nat, j ≤ 2 ∧ i = .int .u64 j ∧ Hid (Ks w.heap.size wr [⟨g, tA aa, [⟨1, padB bs, false⟩]⟩]) ∧ Hid (Lies wr (some ⟨elg, 0, none⟩) 64 ((padB aa).map (Value.int .u8))) ∧ Hid (Lies wr (some ⟨nwg, 0, none⟩) 64 ((padB bs).map (Value.int .u8))) ∧ Hid (Below w.heap.size w wr)) (fun i _ => 2 - (intOf i).toNat)
  case atStart => exact ⟨0, by omega, rfl, HK9, Hel, Hnw, HB9⟩
  case round =>
    obtain ⟨j, hj, rfl, HK, HE, HW, HB⟩ := hrel
    by_cases hlt : j < 2
    · have j0 : (0 : Int) ≤ (j : Int) := by omega
      have j1 : (j : Int) < 2 := by omega
      have hj01 : j = 0 ∨ j = 1 := by omega
      have hsr := HB.out.size
      go_wp2_with fail
      refine Calls.mono (left_any (a := []) (b := []) (k := ⟨g, tA aa, [⟨1, padB bs, false⟩]⟩) j 0 _ HK.out (by omega) (Nat.le_of_ble_eq_true rfl)) ?_
      rintro e w10 ⟨g10, rfl, hkk, hb⟩
      have HK10 := hide hkk
      have HB10 : Hid (Below w.heap.size w w10) := hide (HB.out.trans (hb.mono hsr))
      have Hel10 := hide (HE.out.below hb)
      have Hnw10 := hide (HW.out.below hb)
      have hs10 := HB10.out.size
      have HOX : Hid (OkB ((padB bs).take 32 ++ (padB aa).drop 32)) := hide (half_ok HPB.out HPA.out)
      clear hkk hb
      go_wp2_with fail
      refine Calls.mono (kd_read 1 _ (Ks.kd (a := []) HK10.out) (by show 1 < (leftOf _ _ _ _).length; unfold leftOf; rw [left_len]; exact Nat.le_of_ble_eq_true rfl) ⟨(padB bs).take 32 ++ (padB aa).drop 32, false⟩ (torn_left aa bs j hj01).symm) ?_
      rintro e w11 ⟨rfl, rfl⟩
      have HX11 := hide (lies_read w10 ⟨(padB bs).take 32 ++ (padB aa).drop 32, false⟩ HOX.out)
      have HK11 := hide (HK10.out.alloc (.cells (secV ⟨(padB bs).take 32 ++ (padB aa).drop 32, false⟩).toArray 64)).drop
      have HB11 := hide (HB10.out.alloc hs10 (.cells (secV ⟨(padB bs).take 32 ++ (padB aa).drop 32, false⟩).toArray 64))
      have Hel11 := hide (Hel10.out.alloc (.cells (secV ⟨(padB bs).take 32 ++ (padB aa).drop 32, false⟩).toArray 64))
      have Hnw11 := hide (Hnw10.out.alloc (.cells (secV ⟨(padB bs).take 32 ++ (padB aa).drop 32, false⟩).toArray 64))
      rw [show rdE (⟨(padB bs).take 32 ++ (padB aa).drop 32, false⟩ : Sec).bad = .int .i64 0 from rfl, show rdV (⟨(padB bs).take 32 ++ (padB aa).drop 32, false⟩ : Sec).bad w10.heap.size = .slice (some ⟨w10.heap.size, 0, none⟩) 64 64 from rfl]
      generalize w10.alloc (.cells (secV ⟨(padB bs).take 32 ++ (padB aa).drop 32, false⟩).toArray 64) = w11 at HX11 HK11 HB11 Hel11 Hnw11 ⊢
      have hs11 := HB11.out.size
      go_wp2_with fail
      refine Calls.mono (left_any (a := []) (b := []) (k := ⟨g, tA aa, [⟨1, padB bs, false⟩]⟩) j (-1) _ HK11.out (by omega) (Nat.le_of_ble_eq_true rfl)) ?_
      rintro e w12 ⟨g12, rfl, hkk, hb⟩
      have HK12 := hide hkk
      have HB12 : Hid (Below w.heap.size w w12) := hide (HB11.out.trans (hb.mono hs11))
      have Hel12 := hide (Hel11.out.below hb)
      have Hnw12 := hide (Hnw11.out.below hb)
      have HX12 := hide (HX11.out.below hb)
      have hs12 := HB12.out.size
      clear hkk hb
      have e64 : (64 : Int) ≤ (elc : Int) := by have := HelC.out; omega
      have n64 : (64 : Int) ≤ (nwc : Int) := by have := HnwC.out; omega
      have ne32 : ¬ elc = 32 := by have := HelC.out; omega
      by_cases hj1 : j = 1
      · have hjv : j = 1 := by omega
        have e1 : ((j : Int) == 1) = true := by rw [hjv]; rfl
        have HRD := hide (kd_read 1 w12 (Ks.kd (a := []) HK12.out) (by show 1 < (leftOf _ _ _ _).length; unfold leftOf; rw [left_len]; exact Nat.le_of_ble_eq_true rfl) ⟨padB bs, false⟩ (by rw [hjv]; exact (torn_none aa bs 1 (.inr rfl)).symm))
        have HY13 := hide (lies_read w12 ⟨padB bs, false⟩ HPB.out)
        have HX13 := hide (HX12.out.alloc (.cells (secV ⟨padB bs, false⟩).toArray 64))
        have HK13 := hide (HK12.out.alloc (.cells (secV ⟨padB bs, false⟩).toArray 64)).drop
        have HB13 := hide (HB12.out.alloc hs12 (.cells (secV ⟨padB bs, false⟩).toArray 64))
        have Hel13 := hide (Hel12.out.alloc (.cells (secV ⟨padB bs, false⟩).toArray 64))
        have Hnw13 := hide (Hnw12.out.alloc (.cells (secV ⟨padB bs, false⟩).toArray 64))
        clear hjv
        go_wp2_with fail
        refine Calls.mono HRD.out ?_
        rintro e w99 ⟨rfl, rfl⟩
        rw [show rdE (⟨padB bs, false⟩ : Sec).bad = .int .i64 0 from rfl, show rdV (⟨padB bs, false⟩ : Sec).bad w12.heap.size = .slice (some ⟨w12.heap.size, 0, none⟩) 64 64 from rfl]
        clear HRD
        generalize w12.alloc (.cells (secV ⟨padB bs, false⟩).toArray 64) = w13 at HY13 HX13 HK13 HB13 Hel13 Hnw13 ⊢
        have hs13 := HB13.out.size
        go_wp2
        refine wp_region_U (fun _ _ => True) 25 (by kernel_rfl) ?_
        refine wpAnyU_take (i := 0) (oi := { dst := some 75, op := _, type := _, pos := _, after := _, guard := none }) (v := .int .i64 0) rfl (by kernel_rfl) (by kernel_rfl) (by kernel_rfl) (by kernel_rfl) (fun _ _ _ h => h) (yields_take rfl (fun w' _ => by go_simp)) trivial ?_
        simp only [Act.put, List.setIfInBounds_toArray, List.set_cons_zero, List.set_cons_succ]
        refine wpAnyU_take (i := 1) (oi := { dst := some 76, op := _, type := _, pos := _, after := _, guard := none }) (v := .bool false) rfl (by kernel_rfl) (by kernel_rfl) (by kernel_rfl) (by kernel_rfl) (fun _ _ _ h => h) (yields_take rfl (fun w' _ => by go_simp)) trivial ?_
        simp only [Act.put, List.setIfInBounds_toArray, List.set_cons_zero, List.set_cons_succ]
        refine wpAnyU_take (i := 2) (oi := { dst := some 77, op := _, type := _, pos := _, after := _, guard := none }) (v := .bool false) rfl (by kernel_rfl) (by kernel_rfl) (by kernel_rfl) (by kernel_rfl) (fun _ _ _ h => h) (yields_take rfl (fun w' _ => by go_simp)) trivial ?_
        simp only [Act.put, List.setIfInBounds_toArray, List.set_cons_zero, List.set_cons_succ]
        refine wpAnyU_take (i := 3) (oi := { dst := some 78, op := _, type := _, pos := _, after := _, guard := some (2, false) }) (v := .int .i64 0) rfl (by kernel_rfl) (by kernel_rfl) (by kernel_rfl) (by kernel_rfl) (fun _ _ _ h => h) (yields_take rfl (fun w' _ => by go_simp)) trivial ?_
        simp only [Act.put, List.setIfInBounds_toArray, List.set_cons_zero, List.set_cons_succ]
        refine wpAnyU_take (i := 4) (oi := { dst := some 79, op := _, type := _, pos := _, after := _, guard := some (2, false) }) (v := .bool false) rfl (by kernel_rfl) (by kernel_rfl) (by kernel_rfl) (by kernel_rfl) (fun _ _ _ h => h) (yields_take rfl (fun w' _ => by go_simp)) trivial ?_
        simp only [Act.put, List.setIfInBounds_toArray, List.set_cons_zero, List.set_cons_succ]
        refine wpAnyU_take (i := 5) (oi := { dst := some 80, op := _, type := _, pos := _, after := _, guard := none }) (v := .bool false) rfl (by kernel_rfl) (by kernel_rfl) (by kernel_rfl) (by kernel_rfl) (fun _ _ _ h => h) (yields_take rfl (fun w' _ => by go_simp)) trivial ?_
        simp only [Act.put, List.setIfInBounds_toArray, List.set_cons_zero, List.set_cons_succ]
        refine wpAnyU_take (i := 6) (oi := { dst := some 81, op := _, type := _, pos := _, after := _, guard := none }) (v := .bool false) rfl (by kernel_rfl) (by kernel_rfl) (by kernel_rfl) (by kernel_rfl) (fun _ _ _ h => h) (yields_take rfl (fun w' _ => by go_simp)) trivial ?_
        simp only [Act.put, List.setIfInBounds_toArray, List.set_cons_zero, List.set_cons_succ]
        refine wpAnyU_take (i := 7) (oi := { dst := some 82, op := _, type := _, pos := _, after := _, guard := some (6, false) }) (v := .slice (some ⟨w12.heap.size, 0, none⟩) 64 64) rfl (by kernel_rfl) (by kernel_rfl) (by kernel_rfl) (by kernel_rfl) (fun _ _ _ h => h) (yields_take rfl (fun w' _ => by go_simp)) trivial ?_
        simp only [Act.put, List.setIfInBounds_toArray, List.set_cons_zero, List.set_cons_succ]
        refine wpAnyU_take (i := 8) (oi := { dst := some 83, op := _, type := _, pos := _, after := _, guard := some (6, false) }) (v := .slice (some ⟨nwg, 0, none⟩) 64 nwc) rfl (by kernel_rfl) (by kernel_rfl) (by kernel_rfl) (by kernel_rfl) (fun _ _ _ h => h) (yields_take rfl (fun w' _ => by go_simp)) trivial ?_
        simp only [Act.put, List.setIfInBounds_toArray, List.set_cons_zero, List.set_cons_succ]
        refine wpAnyU_one (i := 9) (by kernel_rfl) rfl ?_
        intro K hK
        go_simp
        refine Calls.mono (same_u8 _ _ 64 64 _ (padB bs) _ (HY13.out.drewN 1) (Hnw13.out.drewN 1) (by omega)) ?_
        rintro e w14 ⟨rfl, d1, rfl⟩
        dsimp only
        refine hK.out _ _ trivial (fun _ => ?_)
        clear hK K
        refine wpAnyU_take (i := 10) (oi := { dst := some 85, op := _, type := _, pos := _, after := _, guard := some (6, false) }) (v := .bool false) rfl (by kernel_rfl) (by kernel_rfl) (by kernel_rfl) (by kernel_rfl) (fun _ _ _ h => h) (yields_take rfl (fun w' _ => by go_simp)) trivial ?_
        simp only [Act.put, List.setIfInBounds_toArray, List.set_cons_zero, List.set_cons_succ]
        refine wpAnyU_take (i := 11) (oi := { dst := some 86, op := _, type := _, pos := _, after := _, guard := none }) (v := .bool false) rfl (by kernel_rfl) (by kernel_rfl) (by kernel_rfl) (by kernel_rfl) (fun _ _ _ h => h) (yields_take rfl (fun w' _ => by go_simp)) trivial ?_
        simp only [Act.put, List.setIfInBounds_toArray, List.set_cons_zero, List.set_cons_succ]
        refine wpAnyU_take (i := 12) (oi := { dst := some 87, op := _, type := _, pos := _, after := _, guard := none }) (v := .bool false) rfl (by kernel_rfl) (by kernel_rfl) (by kernel_rfl) (by kernel_rfl) (fun _ _ _ h => h) (yields_take rfl (fun w' _ => by go_simp)) trivial ?_
        simp only [Act.put, List.setIfInBounds_toArray, List.set_cons_zero, List.set_cons_succ]
        refine wpAnyU_take (i := 13) (oi := { dst := some 88, op := _, type := _, pos := _, after := _, guard := some (12, false) }) (v := .slice (some ⟨w10.heap.size, 0, none⟩) 64 64) rfl (by kernel_rfl) (by kernel_rfl) (by kernel_rfl) (by kernel_rfl) (fun _ _ _ h => h) (yields_take rfl (fun w' _ => by go_simp)) trivial ?_
        simp only [Act.put, List.setIfInBounds_toArray, List.set_cons_zero, List.set_cons_succ]
        refine wpAnyU_take (i := 14) (oi := { dst := some 89, op := _, type := _, pos := _, after := _, guard := some (12, false) }) (v := .slice (some ⟨nwg, 0, none⟩) 64 nwc) rfl (by kernel_rfl) (by kernel_rfl) (by kernel_rfl) (by kernel_rfl) (fun _ _ _ h => h) (yields_take rfl (fun w' _ => by go_simp)) trivial ?_
        simp only [Act.put, List.setIfInBounds_toArray, List.set_cons_zero, List.set_cons_succ]
        refine wpAnyU_take (i := 15) (oi := { dst := some 90, op := _, type := _, pos := _, after := _, guard := some (12, false) }) (v := .int .i64 32) rfl (by kernel_rfl) (by kernel_rfl) (by kernel_rfl) (by kernel_rfl) (fun _ _ _ h => h) (yields_take rfl (fun w' _ => by go_simp)) trivial ?_
        simp only [Act.put, List.setIfInBounds_toArray, List.set_cons_zero, List.set_cons_succ]
        refine wpAnyU_take (i := 16) (oi := { dst := some 91, op := _, type := _, pos := _, after := _, guard := some (12, false) }) (v := .slice (some ⟨nwg, 0, none⟩) 32 nwc) rfl (by kernel_rfl) (by kernel_rfl) (by kernel_rfl) (by kernel_rfl) (fun _ _ _ h => h) (yields_take rfl (fun w' _ => by go_simp; intro h; exact absurd h (by have := HnwC.out; omega))) trivial ?_
        simp only [Act.put, List.setIfInBounds_toArray, List.set_cons_zero, List.set_cons_succ]
        refine wpAnyU_take (i := 18) (oi := { dst := some 93, op := _, type := _, pos := _, after := _, guard := some (12, false) }) (v := .slice (some ⟨elg, 0, none⟩) 64 elc) rfl (by kernel_rfl) (by kernel_rfl) (by kernel_rfl) (by kernel_rfl) (fun _ _ _ h => h) (yields_take rfl (fun w' _ => by go_simp)) trivial ?_
        simp only [Act.put, List.setIfInBounds_toArray, List.set_cons_zero, List.set_cons_succ]
        refine wpAnyU_take (i := 19) (oi := { dst := some 94, op := _, type := _, pos := _, after := _, guard := some (12, false) }) (v := .int .i64 32) rfl (by kernel_rfl) (by kernel_rfl) (by kernel_rfl) (by kernel_rfl) (fun _ _ _ h => h) (yields_take rfl (fun w' _ => by go_simp)) trivial ?_
        simp only [Act.put, List.setIfInBounds_toArray, List.set_cons_zero, List.set_cons_succ]
        refine wpAnyU_take (i := 20) (oi := { dst := some 95, op := _, type := _, pos := _, after := _, guard := some (12, false) }) (v := .slice (some ⟨elg, 32, none⟩) 32 (elc - 32)) rfl (by kernel_rfl) (by kernel_rfl) (by kernel_rfl) (by kernel_rfl) (fun _ _ _ h => h) (yields_take rfl (fun w' _ => by go_simp)) trivial ?_
        simp only [Act.put, List.setIfInBounds_toArray, List.set_cons_zero, List.set_cons_succ]
        obtain ⟨W14, hW14⟩ : ∃ W14, W14 = World.drewN w13.drew d1 := ⟨_, rfl⟩
        have HB14 : Hid (Below w13.heap.size w13 W14) := hide (by rw [hW14]; exact below_drewN (below_drew (Below.refl _ _)) d1)
        rw [← hW14]
        clear hW14
        have hs14 := HB14.out.size
        refine wpAnyU_one (i := 17) (by kernel_rfl) rfl ?_
        intro K hK
        refine step_append_src (w := W14) rfl (.const (.slice none 0 0)) (.tmp 91) 22 rfl 5 i0 (.int .u8 0) 1 Try.underlying22 HI.out HZ0.out HZ1.out HZ2.out rfl W14.heap.size (.slice none 0 0) 0 [] rfl (World.ownsRow_nil _ _ _ _) (Nat.le_refl _) (some ⟨nwg, 0, none⟩) 32 nwc (((padB bs).map (Value.int .u8)).take 32) (by simp [Act.eval]) ((Hnw13.out.below HB14.out).take (by omega)) (fun e => by cases e) (fun u hu => ones3 _ _ u (List.mem_of_mem_take hu)) (by omega) (by unfold maxLen; omega) ?_
        intro A15 c15 w15 HO15 HG15
        have HB15 : Hid (Below W14.heap.size W14 w15) := hide ((Below.refl _ _).grown HG15.out (Nat.le_refl _) (by simp [Value.ownBlock]))
        have hs15 := HB15.out.size
        have HO16 : Hid (w15.ownsRow W14.heap.size 5 1 (.slice A15 32 c15) 32 (((padB bs).map (Value.int .u8)).take 32)) := hide (by have := HO15.out; simpa using this)
        refine hK.out _ _ trivial (fun _ => ?_)
        clear hK K HO15 HG15
        simp only [Act.put, List.setIfInBounds_toArray, List.set_cons_zero, List.set_cons_succ]
        refine wpAnyU_one (i := 21) (by kernel_rfl) rfl ?_
        intro K hK
        have HELD : Hid (Lies w15 (some ⟨elg, 32, none⟩) 32 (((padB aa).map (Value.int .u8)).drop 32)) := hide (by
          have h := ((Hel13.out.below HB14.out).below HB15.out).drop (k := 32) (cap := elc) (by omega) HelC.out
          rw [if_neg (by have := HelC.out; omega)] at h
          exact h)
        refine step_append_src (w := w15) rfl (.tmp 92) (.tmp 95) 22 rfl 5 i0 (.int .u8 0) 1 Try.underlying22 HI.out HZ0.out HZ1.out HZ2.out rfl W14.heap.size (.slice A15 32 c15) 32 (((padB bs).map (Value.int .u8)).take 32) (by simp [Act.eval]) HO16.out hs15 (some ⟨elg, 32, none⟩) 32 (elc - 32) (((padB aa).map (Value.int .u8)).drop 32) (by simp [Act.eval]) HELD.out (fun e => by cases e) (fun u hu => ones3 _ _ u (List.mem_of_mem_drop hu)) (by omega) (by unfold maxLen; omega) ?_
        intro A17 c17 w17 HO17 HG17
        have HB17 : Hid (Below W14.heap.size W14 w17) := hide (below_row HB15.out hs15 HO16.out HG17.out)
        have HL17 : Hid (Lies w17 A17 64 (((padB bs).take 32 ++ (padB aa).drop 32).map (Value.int .u8))) := hide (by
          have h := lies_of_own HO17.out
          rw [← List.map_take, ← List.map_drop, ← List.map_append] at h
          exact h)
        have HX17 : Hid (Lies w17 (some ⟨w10.heap.size, 0, none⟩) 64 (((padB bs).take 32 ++ (padB aa).drop 32).map (Value.int .u8))) := hide ((HX13.out.below HB14.out).below HB17.out)
        refine hK.out _ _ trivial (fun _ => ?_)
        clear hK K HO17 HG17
        simp only [Act.put, List.setIfInBounds_toArray, List.set_cons_zero, List.set_cons_succ]
        refine wpAnyU_one (i := 22) (by kernel_rfl) rfl ?_
        intro K hK
        go_simp
        refine Calls.mono (same_u8 _ _ 64 64 c17 ((padB bs).take 32 ++ (padB aa).drop 32) _ HX17.out HL17.out (by omega)) ?_
        rintro e w18 ⟨rfl, d2, rfl⟩
        dsimp only
        refine hK.out _ _ trivial (fun _ => ?_)
        clear hK K
        refine wpAnyU_take (i := 23) (oi := { dst := some 98, op := _, type := _, pos := _, after := _, guard := some (12, false) }) (v := .bool false) rfl (by kernel_rfl) (by kernel_rfl) (by kernel_rfl) (by kernel_rfl) (fun _ _ _ h => h) (yields_take rfl (fun w' _ => by go_simp)) trivial ?_
        simp only [Act.put, List.setIfInBounds_toArray, List.set_cons_zero, List.set_cons_succ]
        refine wpAnyU_take (i := 24) (oi := { dst := some 99, op := _, type := _, pos := _, after := _, guard := none }) (v := .bool false) rfl (by kernel_rfl) (by kernel_rfl) (by kernel_rfl) (by kernel_rfl) (fun _ _ _ h => h) (yields_take rfl (fun w' _ => by go_simp)) trivial ?_
        simp only [Act.put, List.setIfInBounds_toArray, List.set_cons_zero, List.set_cons_succ]
        have HT17 : Hid (Below w13.heap.size w13 (w17.drewN d2)) := hide (below_drewN (HB14.out.trans (HB17.out.mono hs14)) d2)
        have HB18 : Hid (Below w.heap.size w (w17.drewN d2)) := hide (HB13.out.trans (HT17.out.mono hs13))
        have HK18 := hide (HK13.out.below HT17.out)
        have Hel18 := hide (Hel13.out.below HT17.out)
        have Hnw18 := hide (Hnw13.out.below HT17.out)
        refine wpAnyU_done (by kernel_rfl) ?_ _
        go_wp2
        go_roundw
        case rel => exact ⟨j + 1, by omega, by go_num, HK18, Hel18, Hnw18, HB18⟩
        case measure => simp [intOf]; omega
      · have hjv : j = 0 := by omega
        have e1 : ((j : Int) == 1) = false := by rw [hjv]; rfl
        have HRD := hide (kd_read 1 w12 (Ks.kd (a := []) HK12.out) (by show 1 < (leftOf _ _ _ _).length; unfold leftOf; rw [left_len]; exact Nat.le_of_ble_eq_true rfl) ⟨padB aa, false⟩ (by rw [hjv]; exact (torn_none aa bs 0 (.inl rfl)).symm))
        have HY13 := hide (lies_read w12 ⟨padB aa, false⟩ HPA.out)
        have HX13 := hide (HX12.out.alloc (.cells (secV ⟨padB aa, false⟩).toArray 64))
        have HK13 := hide (HK12.out.alloc (.cells (secV ⟨padB aa, false⟩).toArray 64)).drop
        have HB13 := hide (HB12.out.alloc hs12 (.cells (secV ⟨padB aa, false⟩).toArray 64))
        have Hel13 := hide (Hel12.out.alloc (.cells (secV ⟨padB aa, false⟩).toArray 64))
        have Hnw13 := hide (Hnw12.out.alloc (.cells (secV ⟨padB aa, false⟩).toArray 64))
        clear hjv
        go_wp2_with fail
        refine Calls.mono HRD.out ?_
        rintro e w99 ⟨rfl, rfl⟩
        rw [show rdE (⟨padB aa, false⟩ : Sec).bad = .int .i64 0 from rfl, show rdV (⟨padB aa, false⟩ : Sec).bad w12.heap.size = .slice (some ⟨w12.heap.size, 0, none⟩) 64 64 from rfl]
        clear HRD
        generalize w12.alloc (.cells (secV ⟨padB aa, false⟩).toArray 64) = w13 at HY13 HX13 HK13 HB13 Hel13 Hnw13 ⊢
        have hs13 := HB13.out.size
        go_wp2
        refine wp_region_U (fun _ _ => True) 25 (by kernel_rfl) ?_
        refine wpAnyU_take (i := 0) (oi := { dst := some 75, op := _, type := _, pos := _, after := _, guard := none }) (v := .int .i64 0) rfl (by kernel_rfl) (by kernel_rfl) (by kernel_rfl) (by kernel_rfl) (fun _ _ _ h => h) (yields_take rfl (fun w' _ => by go_simp)) trivial ?_
        simp only [Act.put, List.setIfInBounds_toArray, List.set_cons_zero, List.set_cons_succ]
        refine wpAnyU_take (i := 1) (oi := { dst := some 76, op := _, type := _, pos := _, after := _, guard := none }) (v := .bool false) rfl (by kernel_rfl) (by kernel_rfl) (by kernel_rfl) (by kernel_rfl) (fun _ _ _ h => h) (yields_take rfl (fun w' _ => by go_simp)) trivial ?_
        simp only [Act.put, List.setIfInBounds_toArray, List.set_cons_zero, List.set_cons_succ]
        refine wpAnyU_take (i := 2) (oi := { dst := some 77, op := _, type := _, pos := _, after := _, guard := none }) (v := .bool false) rfl (by kernel_rfl) (by kernel_rfl) (by kernel_rfl) (by kernel_rfl) (fun _ _ _ h => h) (yields_take rfl (fun w' _ => by go_simp)) trivial ?_
        simp only [Act.put, List.setIfInBounds_toArray, List.set_cons_zero, List.set_cons_succ]
        refine wpAnyU_take (i := 3) (oi := { dst := some 78, op := _, type := _, pos := _, after := _, guard := some (2, false) }) (v := .int .i64 0) rfl (by kernel_rfl) (by kernel_rfl) (by kernel_rfl) (by kernel_rfl) (fun _ _ _ h => h) (yields_take rfl (fun w' _ => by go_simp)) trivial ?_
        simp only [Act.put, List.setIfInBounds_toArray, List.set_cons_zero, List.set_cons_succ]
        refine wpAnyU_take (i := 4) (oi := { dst := some 79, op := _, type := _, pos := _, after := _, guard := some (2, false) }) (v := .bool false) rfl (by kernel_rfl) (by kernel_rfl) (by kernel_rfl) (by kernel_rfl) (fun _ _ _ h => h) (yields_take rfl (fun w' _ => by go_simp)) trivial ?_
        simp only [Act.put, List.setIfInBounds_toArray, List.set_cons_zero, List.set_cons_succ]
        refine wpAnyU_take (i := 5) (oi := { dst := some 80, op := _, type := _, pos := _, after := _, guard := none }) (v := .bool false) rfl (by kernel_rfl) (by kernel_rfl) (by kernel_rfl) (by kernel_rfl) (fun _ _ _ h => h) (yields_take rfl (fun w' _ => by go_simp)) trivial ?_
        simp only [Act.put, List.setIfInBounds_toArray, List.set_cons_zero, List.set_cons_succ]
        refine wpAnyU_take (i := 6) (oi := { dst := some 81, op := _, type := _, pos := _, after := _, guard := none }) (v := .bool false) rfl (by kernel_rfl) (by kernel_rfl) (by kernel_rfl) (by kernel_rfl) (fun _ _ _ h => h) (yields_take rfl (fun w' _ => by go_simp)) trivial ?_
        simp only [Act.put, List.setIfInBounds_toArray, List.set_cons_zero, List.set_cons_succ]
        refine wpAnyU_take (i := 7) (oi := { dst := some 82, op := _, type := _, pos := _, after := _, guard := some (6, false) }) (v := .slice (some ⟨w12.heap.size, 0, none⟩) 64 64) rfl (by kernel_rfl) (by kernel_rfl) (by kernel_rfl) (by kernel_rfl) (fun _ _ _ h => h) (yields_take rfl (fun w' _ => by go_simp)) trivial ?_
        simp only [Act.put, List.setIfInBounds_toArray, List.set_cons_zero, List.set_cons_succ]
        refine wpAnyU_take (i := 8) (oi := { dst := some 83, op := _, type := _, pos := _, after := _, guard := some (6, false) }) (v := .slice (some ⟨elg, 0, none⟩) 64 elc) rfl (by kernel_rfl) (by kernel_rfl) (by kernel_rfl) (by kernel_rfl) (fun _ _ _ h => h) (yields_take rfl (fun w' _ => by go_simp)) trivial ?_
        simp only [Act.put, List.setIfInBounds_toArray, List.set_cons_zero, List.set_cons_succ]
        refine wpAnyU_one (i := 9) (by kernel_rfl) rfl ?_
        intro K hK
        go_simp
        refine Calls.mono (same_u8 _ _ 64 64 _ (padB aa) _ (HY13.out.drewN 1) (Hel13.out.drewN 1) (by omega)) ?_
        rintro e w14 ⟨rfl, d1, rfl⟩
        dsimp only
        refine hK.out _ _ trivial (fun _ => ?_)
        clear hK K
        refine wpAnyU_take (i := 10) (oi := { dst := some 85, op := _, type := _, pos := _, after := _, guard := some (6, false) }) (v := .bool false) rfl (by kernel_rfl) (by kernel_rfl) (by kernel_rfl) (by kernel_rfl) (fun _ _ _ h => h) (yields_take rfl (fun w' _ => by go_simp)) trivial ?_
        simp only [Act.put, List.setIfInBounds_toArray, List.set_cons_zero, List.set_cons_succ]
        refine wpAnyU_take (i := 11) (oi := { dst := some 86, op := _, type := _, pos := _, after := _, guard := none }) (v := .bool false) rfl (by kernel_rfl) (by kernel_rfl) (by kernel_rfl) (by kernel_rfl) (fun _ _ _ h => h) (yields_take rfl (fun w' _ => by go_simp)) trivial ?_
        simp only [Act.put, List.setIfInBounds_toArray, List.set_cons_zero, List.set_cons_succ]
        refine wpAnyU_take (i := 12) (oi := { dst := some 87, op := _, type := _, pos := _, after := _, guard := none }) (v := .bool false) rfl (by kernel_rfl) (by kernel_rfl) (by kernel_rfl) (by kernel_rfl) (fun _ _ _ h => h) (yields_take rfl (fun w' _ => by go_simp)) trivial ?_
        simp only [Act.put, List.setIfInBounds_toArray, List.set_cons_zero, List.set_cons_succ]
        refine wpAnyU_take (i := 13) (oi := { dst := some 88, op := _, type := _, pos := _, after := _, guard := some (12, false) }) (v := .slice (some ⟨w10.heap.size, 0, none⟩) 64 64) rfl (by kernel_rfl) (by kernel_rfl) (by kernel_rfl) (by kernel_rfl) (fun _ _ _ h => h) (yields_take rfl (fun w' _ => by go_simp)) trivial ?_
        simp only [Act.put, List.setIfInBounds_toArray, List.set_cons_zero, List.set_cons_succ]
        refine wpAnyU_take (i := 14) (oi := { dst := some 89, op := _, type := _, pos := _, after := _, guard := some (12, false) }) (v := .slice (some ⟨nwg, 0, none⟩) 64 nwc) rfl (by kernel_rfl) (by kernel_rfl) (by kernel_rfl) (by kernel_rfl) (fun _ _ _ h => h) (yields_take rfl (fun w' _ => by go_simp)) trivial ?_
        simp only [Act.put, List.setIfInBounds_toArray, List.set_cons_zero, List.set_cons_succ]
        refine wpAnyU_take (i := 15) (oi := { dst := some 90, op := _, type := _, pos := _, after := _, guard := some (12, false) }) (v := .int .i64 32) rfl (by kernel_rfl) (by kernel_rfl) (by kernel_rfl) (by kernel_rfl) (fun _ _ _ h => h) (yields_take rfl (fun w' _ => by go_simp)) trivial ?_
        simp only [Act.put, List.setIfInBounds_toArray, List.set_cons_zero, List.set_cons_succ]
        refine wpAnyU_take (i := 16) (oi := { dst := some 91, op := _, type := _, pos := _, after := _, guard := some (12, false) }) (v := .slice (some ⟨nwg, 0, none⟩) 32 nwc) rfl (by kernel_rfl) (by kernel_rfl) (by kernel_rfl) (by kernel_rfl) (fun _ _ _ h => h) (yields_take rfl (fun w' _ => by go_simp; intro h; exact absurd h (by have := HnwC.out; omega))) trivial ?_
        simp only [Act.put, List.setIfInBounds_toArray, List.set_cons_zero, List.set_cons_succ]
        refine wpAnyU_take (i := 18) (oi := { dst := some 93, op := _, type := _, pos := _, after := _, guard := some (12, false) }) (v := .slice (some ⟨elg, 0, none⟩) 64 elc) rfl (by kernel_rfl) (by kernel_rfl) (by kernel_rfl) (by kernel_rfl) (fun _ _ _ h => h) (yields_take rfl (fun w' _ => by go_simp)) trivial ?_
        simp only [Act.put, List.setIfInBounds_toArray, List.set_cons_zero, List.set_cons_succ]
        refine wpAnyU_take (i := 19) (oi := { dst := some 94, op := _, type := _, pos := _, after := _, guard := some (12, false) }) (v := .int .i64 32) rfl (by kernel_rfl) (by kernel_rfl) (by kernel_rfl) (by kernel_rfl) (fun _ _ _ h => h) (yields_take rfl (fun w' _ => by go_simp)) trivial ?_
        simp only [Act.put, List.setIfInBounds_toArray, List.set_cons_zero, List.set_cons_succ]
        refine wpAnyU_take (i := 20) (oi := { dst := some 95, op := _, type := _, pos := _, after := _, guard := some (12, false) }) (v := .slice (some ⟨elg, 32, none⟩) 32 (elc - 32)) rfl (by kernel_rfl) (by kernel_rfl) (by kernel_rfl) (by kernel_rfl) (fun _ _ _ h => h) (yields_take rfl (fun w' _ => by go_simp)) trivial ?_
        simp only [Act.put, List.setIfInBounds_toArray, List.set_cons_zero, List.set_cons_succ]
        obtain ⟨W14, hW14⟩ : ∃ W14, W14 = World.drewN w13.drew d1 := ⟨_, rfl⟩
        have HB14 : Hid (Below w13.heap.size w13 W14) := hide (by rw [hW14]; exact below_drewN (below_drew (Below.refl _ _)) d1)
        rw [← hW14]
        clear hW14
        have hs14 := HB14.out.size
        refine wpAnyU_one (i := 17) (by kernel_rfl) rfl ?_
        intro K hK
        refine step_append_src (w := W14) rfl (.const (.slice none 0 0)) (.tmp 91) 22 rfl 5 i0 (.int .u8 0) 1 Try.underlying22 HI.out HZ0.out HZ1.out HZ2.out rfl W14.heap.size (.slice none 0 0) 0 [] rfl (World.ownsRow_nil _ _ _ _) (Nat.le_refl _) (some ⟨nwg, 0, none⟩) 32 nwc (((padB bs).map (Value.int .u8)).take 32) (by simp [Act.eval]) ((Hnw13.out.below HB14.out).take (by omega)) (fun e => by cases e) (fun u hu => ones3 _ _ u (List.mem_of_mem_take hu)) (by omega) (by unfold maxLen; omega) ?_
        intro A15 c15 w15 HO15 HG15
        have HB15 : Hid (Below W14.heap.size W14 w15) := hide ((Below.refl _ _).grown HG15.out (Nat.le_refl _) (by simp [Value.ownBlock]))
        have hs15 := HB15.out.size
        have HO16 : Hid (w15.ownsRow W14.heap.size 5 1 (.slice A15 32 c15) 32 (((padB bs).map (Value.int .u8)).take 32)) := hide (by have := HO15.out; simpa using this)
        refine hK.out _ _ trivial (fun _ => ?_)
        clear hK K HO15 HG15
        simp only [Act.put, List.setIfInBounds_toArray, List.set_cons_zero, List.set_cons_succ]
        refine wpAnyU_one (i := 21) (by kernel_rfl) rfl ?_
        intro K hK
        have HELD : Hid (Lies w15 (some ⟨elg, 32, none⟩) 32 (((padB aa).map (Value.int .u8)).drop 32)) := hide (by
          have h := ((Hel13.out.below HB14.out).below HB15.out).drop (k := 32) (cap := elc) (by omega) HelC.out
          rw [if_neg (by have := HelC.out; omega)] at h
          exact h)
        refine step_append_src (w := w15) rfl (.tmp 92) (.tmp 95) 22 rfl 5 i0 (.int .u8 0) 1 Try.underlying22 HI.out HZ0.out HZ1.out HZ2.out rfl W14.heap.size (.slice A15 32 c15) 32 (((padB bs).map (Value.int .u8)).take 32) (by simp [Act.eval]) HO16.out hs15 (some ⟨elg, 32, none⟩) 32 (elc - 32) (((padB aa).map (Value.int .u8)).drop 32) (by simp [Act.eval]) HELD.out (fun e => by cases e) (fun u hu => ones3 _ _ u (List.mem_of_mem_drop hu)) (by omega) (by unfold maxLen; omega) ?_
        intro A17 c17 w17 HO17 HG17
        have HB17 : Hid (Below W14.heap.size W14 w17) := hide (below_row HB15.out hs15 HO16.out HG17.out)
        have HL17 : Hid (Lies w17 A17 64 (((padB bs).take 32 ++ (padB aa).drop 32).map (Value.int .u8))) := hide (by
          have h := lies_of_own HO17.out
          rw [← List.map_take, ← List.map_drop, ← List.map_append] at h
          exact h)
        have HX17 : Hid (Lies w17 (some ⟨w10.heap.size, 0, none⟩) 64 (((padB bs).take 32 ++ (padB aa).drop 32).map (Value.int .u8))) := hide ((HX13.out.below HB14.out).below HB17.out)
        refine hK.out _ _ trivial (fun _ => ?_)
        clear hK K HO17 HG17
        simp only [Act.put, List.setIfInBounds_toArray, List.set_cons_zero, List.set_cons_succ]
        refine wpAnyU_one (i := 22) (by kernel_rfl) rfl ?_
        intro K hK
        go_simp
        refine Calls.mono (same_u8 _ _ 64 64 c17 ((padB bs).take 32 ++ (padB aa).drop 32) _ HX17.out HL17.out (by omega)) ?_
        rintro e w18 ⟨rfl, d2, rfl⟩
        dsimp only
        refine hK.out _ _ trivial (fun _ => ?_)
        clear hK K
        refine wpAnyU_take (i := 23) (oi := { dst := some 98, op := _, type := _, pos := _, after := _, guard := some (12, false) }) (v := .bool false) rfl (by kernel_rfl) (by kernel_rfl) (by kernel_rfl) (by kernel_rfl) (fun _ _ _ h => h) (yields_take rfl (fun w' _ => by go_simp)) trivial ?_
        simp only [Act.put, List.setIfInBounds_toArray, List.set_cons_zero, List.set_cons_succ]
        refine wpAnyU_take (i := 24) (oi := { dst := some 99, op := _, type := _, pos := _, after := _, guard := none }) (v := .bool false) rfl (by kernel_rfl) (by kernel_rfl) (by kernel_rfl) (by kernel_rfl) (fun _ _ _ h => h) (yields_take rfl (fun w' _ => by go_simp)) trivial ?_
        simp only [Act.put, List.setIfInBounds_toArray, List.set_cons_zero, List.set_cons_succ]
        have HT17 : Hid (Below w13.heap.size w13 (w17.drewN d2)) := hide (below_drewN (HB14.out.trans (HB17.out.mono hs14)) d2)
        have HB18 : Hid (Below w.heap.size w (w17.drewN d2)) := hide (HB13.out.trans (HT17.out.mono hs13))
        have HK18 := hide (HK13.out.below HT17.out)
        have Hel18 := hide (Hel13.out.below HT17.out)
        have Hnw18 := hide (Hnw13.out.below HT17.out)
        refine wpAnyU_done (by kernel_rfl) ?_ _
        go_wp2
        go_roundw
        case rel => exact ⟨j + 1, by omega, by go_num, HK18, Hel18, Hnw18, HB18⟩
        case measure => simp [intOf]; omega
    · obtain rfl : j = 2 := by omega
      go_wp2
      go_ret
      exact ⟨rfl, HB.out⟩
end Go.Proofs.Ytphfakjodddilaa
