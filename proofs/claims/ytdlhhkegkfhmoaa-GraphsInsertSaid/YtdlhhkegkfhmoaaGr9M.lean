/- Contract of hasEnds. -/
import Derived.Test.YtdlhhkegkfhmoaaGr8M
namespace Go.Proofs.Ytdlhhkegkfhmoaa
open Go.RowKit
set_option linter.unusedVariables false
set_option linter.unusedSimpArgs false
set_option maxRecDepth 100000

theorem NsIn.drop {w : World} {b o n k : Nat} {ns : List Nd} (h : NsIn w (some ⟨b, o, none⟩) n ns) (hk : k ≤ n) : NsIn w (some ⟨b, o + k * 5, none⟩) (n - k) (ns.drop k) :=
  ⟨by rw [List.length_drop, h.1], fun hn => by
    obtain ⟨b2, o2, e, hlt, hx⟩ := h.2 (by omega)
    cases e
    refine ⟨b, o + k * 5, rfl, hlt, fun j x hj => ?_⟩
    rw [List.getElem?_drop] at hj
    have := hx (k + j) x hj
    rw [show o + (k + j) * 5 = o + k * 5 + j * 5 by omega] at this
    exact this⟩

theorem NsIn.nil0 {w : World} (A : Option Addr) {ns : List Nd} (h : ns.length = 0) : NsIn w A 0 ns := ⟨h, fun hn => absurd hn (by omega)⟩

/-- May the last of a list of nodes be the output? -/
def lastOk (ns : List Nd) : Bool := match ns[ns.length - 1]? with
  | some x => !(x.kd == 1) && (x.kd != 2)
  | none => false

/-- At most 32 nodes, one input, a last one that may be the output. -/
def endsOk (ns : List Nd) : Bool := decide (ns.length ≤ 32) && decide (0 ≤ inIx ns) && !(decide (0 ≤ inIx (ns.drop ((inIx ns).toNat + 1)))) && lastOk ns

set_option maxHeartbeats 4000000 in
theorem hasEnds_any (A : Option Addr) (n c : Nat) (ns : List Nd) (w : World) (h : NsIn w A n ns) (hn : n ≤ 1073741824) (hc : n ≤ c) :
    Calls Try.prog 21 #[.slice A n c] w fun e w' => e = .returned (.bool (endsOk ns)) ∧ Below w.heap.size w w' := by
  have HL : Hid (ns.length = n) := hide h.1
  have HN := hide h
  have HIX := hide (indexFunc_any A n c ns w h (by omega))
  obtain ⟨E, hE⟩ : ∃ z, z = endsOk ns := ⟨_, rfl⟩
  rw [← hE]
  have HE : Hid (E = (decide (n ≤ 32) && decide (0 ≤ inIx ns) && !(decide (0 ≤ inIx (ns.drop ((inIx ns).toNat + 1)))) && lastOk ns)) := hide (by rw [hE, endsOk, HL.out])
  have HGE := hide (inIx_ge ns)
  obtain ⟨f, hf⟩ : ∃ z, z = inIx ns := ⟨_, rfl⟩
  rw [← hf] at HIX HGE HE
  clear h hE hf
  go_enter Try.func21, Try.ntmps21
  go_wp2_with fail
  refine Calls.mono HIX.out ?_
  rintro e w1 ⟨rfl, hb⟩
  have HB1 := hide hb
  clear hb
  by_cases h32 : 32 < n
  · have f1 : (32 : Int) < (n : Int) := by omega
    obtain rfl : E = false := by rw [HE.out, decide_eq_false (by omega)]; rfl
    clear h32
    go_wp2
    go_ret
    exact ⟨rfl, HB1.out⟩
  have f1 : ¬ ((32 : Int) < (n : Int)) := by omega
  by_cases hf0 : f < 0
  · obtain rfl : E = false := by rw [HE.out, decide_eq_false (show ¬ 0 ≤ f by omega)]; simp
    clear h32
    go_wp2
    go_ret
    exact ⟨rfl, HB1.out⟩
  obtain ⟨k, hk⟩ := Int.eq_ofNat_of_zero_le (show 0 ≤ f by omega)
  subst hk
  have hkn : k < n := by
    rcases HGE.out with h | h
    · omega
    · have := HL.out; omega
  obtain ⟨b, o, rfl, hbl, _⟩ := HN.out.2 (by omega)
  obtain ⟨a2, ha2⟩ : ∃ z, z = k + 1 := ⟨_, rfl⟩
  obtain ⟨r, hr⟩ : ∃ z, z = n - a2 := ⟨_, rfl⟩
  obtain ⟨rc, hrc⟩ : ∃ z, z = c - a2 := ⟨_, rfl⟩
  have m1 : IntKind.i64.wrap ((k : Int) + 1) = (a2 : Int) := by rw [IntKind.wrap_i64]; omega
  have k3 : (0 : Int) ≤ (a2 : Int) := by omega
  have k4 : (a2 : Int) ≤ (n : Int) := by omega
  have k5 : (n : Int) ≤ (c : Int) := by omega
  have k7 : a2 ≤ n := by omega
  have k8 : n ≤ c := hc
  have k9 : n - a2 = r := hr.symm
  have k10 : c - a2 = rc := hrc.symm
  have HR4 : Hid (r ≤ 32 ∧ a2 = k + 1 ∧ n - a2 = r ∧ a2 ≤ n ∧ n ≤ c ∧ 1 ≤ n ∧ n ≤ 32) := hide (by omega)
  obtain ⟨B, hB⟩ : ∃ z : Bool, z = decide (0 ≤ inIx (ns.drop a2)) := ⟨_, rfl⟩
  have HE2 : Hid (E = (!B && lastOk ns)) := hide (by rw [HE.out, hB, ha2, decide_eq_true (show n ≤ 32 by omega), decide_eq_true (show (0 : Int) ≤ (k : Int) by omega), Int.toNat_natCast]; simp)
  have HCF : Hid (∀ v, Below w.heap.size w v → ∀ A2, A2 = (if c = a2 then some ⟨b, o, none⟩ else some ⟨b, o + a2 * 5, none⟩) → Calls Try.prog 30 #[.slice A2 r rc, .func (.func 26) #[] #[]] v fun e w' => e = .returned (.bool B) ∧ Below v.heap.size v w') := hide (fun v hv A2 hA2 => by
    rw [hB]
    refine containsFunc_any A2 r rc (ns.drop a2) v ?_ (by omega)
    have h := (HN.out.below hv).drop (k := a2) k7
    rw [k9] at h
    rw [hA2]
    by_cases e : c = a2
    · rw [if_pos e]
      obtain rfl : r = 0 := by omega
      exact NsIn.nil0 _ h.1
    · rw [if_neg e]; exact h)
  clear hr hrc h32 hkn hB hf0 hc
  clear ha2
  by_cases e : c = a2
  · obtain rfl : c = a2 := e
    obtain rfl : rc = 0 := by omega
    have HCG := hide (HCF.out w1 HB1.out _ (if_pos rfl).symm)
    clear HCF
    go_wp2_with fail
    refine Calls.mono HCG.out ?_
    rintro e w2 ⟨rfl, hb⟩
    have HB2 := hide (below_nx6 HB1.out hb)
    clear hb HCG
    cases B with
    | true =>
      obtain rfl : E = false := by rw [HE2.out]; rfl
      go_wp2
      go_ret
      exact ⟨rfl, HB2.out⟩
    | false =>
      have hE3 : E = lastOk ns := by rw [HE2.out]; rfl
      obtain ⟨l, hl⟩ : ∃ z, z = n - 1 := ⟨_, rfl⟩
      have m2 : IntKind.i64.wrap ((n : Int) - 1) = (l : Int) := by rw [IntKind.wrap_i64]; have := HR4.out; omega
      have hln : l < n := by have := HR4.out; omega
      obtain ⟨b2, o2, x, eA, hxl, h0, h1, h2, h3, h4, hxo⟩ := (HN.out.below HB2.out).at hln
      cases eA
      have hE4 : E = (!(x.kd == 1) && (x.kd != 2)) := by rw [hE3, lastOk, HL.out, ← hl, hxl]
      have g0 : (0 : Int) ≤ (l : Int) := by omega
      have g1 : (l : Int) < (n : Int) := by omega
      obtain ⟨U, hU⟩ : ∃ U, U = w2.alloc (.cells #[.int .u8 x.kd, .slice x.I x.ni x.ci, .slice x.S x.ns x.cs, .int .i64 x.N, .int .i64 x.P] 35) := ⟨_, rfl⟩
      have HBU : Hid (Below w.heap.size w U) := hide (by rw [hU]; exact below_al6 HB2.out)
      have HXU : Hid (BoxN U w2.heap.size x) := hide (by rw [hU]; exact BoxN.new w2 x)
      have hU' := hU.symm
      have HIN := hide (isInput_any x U)
      unfold Nd.v at HIN
      obtain ⟨q0, q1, q2, q3, q4⟩ := HXU.out.cs
      have HE4 := hide hE4
      clear hU hE3 hE4 hl hxl hln hxo
      go_wp2_with fail
      refine Calls.mono HIN.out ?_
      rintro e w3 ⟨rfl, hb⟩
      have HB3 := hide (below_nx6 HBU.out hb)
      obtain ⟨p0, p1, p2, p3, p4⟩ := (HXU.out.kept hb).cs
      clear hb HIN q0 q1 q2 q3 q4 h0 h1 h2 h3 h4
      obtain ⟨B5, hB5⟩ : ∃ z, z = (x.kd == 1) := ⟨_, rfl⟩
      rw [← hB5] at HE4 ⊢
      clear hB5
      cases B5 with
      | true =>
        obtain rfl : E = false := by rw [HE4.out]; rfl
        go_wp2
        go_ret
        exact ⟨rfl, HB3.out⟩
      | false =>
        obtain rfl : E = (x.kd != 2) := by rw [HE4.out]; rfl
        go_wp2
        go_ret
        exact ⟨by first | rfl | simp, HB3.out⟩
  · have HCG := hide (HCF.out w1 HB1.out _ (if_neg e).symm)
    clear HCF
    go_wp2_with fail
    refine Calls.mono HCG.out ?_
    rintro e w2 ⟨rfl, hb⟩
    have HB2 := hide (below_nx6 HB1.out hb)
    clear hb HCG
    cases B with
    | true =>
      obtain rfl : E = false := by rw [HE2.out]; rfl
      go_wp2
      go_ret
      exact ⟨rfl, HB2.out⟩
    | false =>
      have hE3 : E = lastOk ns := by rw [HE2.out]; rfl
      obtain ⟨l, hl⟩ : ∃ z, z = n - 1 := ⟨_, rfl⟩
      have m2 : IntKind.i64.wrap ((n : Int) - 1) = (l : Int) := by rw [IntKind.wrap_i64]; have := HR4.out; omega
      have hln : l < n := by have := HR4.out; omega
      obtain ⟨b2, o2, x, eA, hxl, h0, h1, h2, h3, h4, hxo⟩ := (HN.out.below HB2.out).at hln
      cases eA
      have hE4 : E = (!(x.kd == 1) && (x.kd != 2)) := by rw [hE3, lastOk, HL.out, ← hl, hxl]
      have g0 : (0 : Int) ≤ (l : Int) := by omega
      have g1 : (l : Int) < (n : Int) := by omega
      obtain ⟨U, hU⟩ : ∃ U, U = w2.alloc (.cells #[.int .u8 x.kd, .slice x.I x.ni x.ci, .slice x.S x.ns x.cs, .int .i64 x.N, .int .i64 x.P] 35) := ⟨_, rfl⟩
      have HBU : Hid (Below w.heap.size w U) := hide (by rw [hU]; exact below_al6 HB2.out)
      have HXU : Hid (BoxN U w2.heap.size x) := hide (by rw [hU]; exact BoxN.new w2 x)
      have hU' := hU.symm
      have HIN := hide (isInput_any x U)
      unfold Nd.v at HIN
      obtain ⟨q0, q1, q2, q3, q4⟩ := HXU.out.cs
      have HE4 := hide hE4
      clear hU hE3 hE4 hl hxl hln hxo
      go_wp2_with fail
      refine Calls.mono HIN.out ?_
      rintro e w3 ⟨rfl, hb⟩
      have HB3 := hide (below_nx6 HBU.out hb)
      obtain ⟨p0, p1, p2, p3, p4⟩ := (HXU.out.kept hb).cs
      clear hb HIN q0 q1 q2 q3 q4 h0 h1 h2 h3 h4
      obtain ⟨B5, hB5⟩ : ∃ z, z = (x.kd == 1) := ⟨_, rfl⟩
      rw [← hB5] at HE4 ⊢
      clear hB5
      cases B5 with
      | true =>
        obtain rfl : E = false := by rw [HE4.out]; rfl
        go_wp2
        go_ret
        exact ⟨rfl, HB3.out⟩
      | false =>
        obtain rfl : E = (x.kd != 2) := by rw [HE4.out]; rfl
        go_wp2
        go_ret
        exact ⟨by first | rfl | simp, HB3.out⟩

end Go.Proofs.Ytdlhhkegkfhmoaa
