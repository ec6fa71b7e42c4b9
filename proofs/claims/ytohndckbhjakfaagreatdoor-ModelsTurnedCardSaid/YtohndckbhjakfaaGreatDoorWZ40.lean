/- Merged: Mo12, Sg11, Tx14. -/
import Derived.Test.YtohndckbhjakfaaGreatDoorWZ33
import Derived.Test.YtohndckbhjakfaaGreatDoorWZ32
import Derived.Test.YtohndckbhjakfaaGreatDoorWZ05
import Derived.Test.YtohndckbhjakfaaGreatDoorWZ28
import Derived.Test.YtohndckbhjakfaaGreatDoorWZ37
namespace Go.Proofs.YtohndckbhjakfaaGreatDoor

section
open Go.RowKit
set_option linter.unusedVariables false
set_option linter.unusedSimpArgs false
set_option maxRecDepth 100000

/-- How great weights count. -/
def szT : List Wt → Nat
  | [] => 0
  | t :: r => t.n + t.m + 2 + szT r

theorem szT_append : ∀ (a b : List Wt), szT (a ++ b) = szT a + szT b
  | [], b => by rw [List.nil_append, szT]; omega
  | t :: r, b => by rw [List.cons_append, szT, szT, szT_append r b]; omega

theorem szT_take {ts : List Wt} {k : Nat} {t : Wt} (h : ts[k]? = some t) : szT (ts.take (k + 1)) = szT (ts.take k) + (t.n + t.m + 2) := by
  obtain ⟨h1, h2⟩ := List.getElem?_eq_some_iff.1 h
  rw [List.take_succ_eq_append_getElem h1, h2, szT_append, szT, szT]

theorem szT_len : ∀ ts : List Wt, 2 * ts.length ≤ szT ts
  | [] => Nat.le_refl _
  | u :: r => by
    have := szT_len r
    rw [szT, List.length_cons]
    omega

theorem tsz_cases (n m : Nat) (hn : n ≤ 70368744177664) (hm : m ≤ 70368744177664) : 1 ≤ tsz n m ∧ tsz n m ≤ 140737488355329 ∧ (tsz n m ≤ 1048576 → tsz n m = 1 + n + m) := by
  unfold tsz
  split <;> refine ⟨by omega, by omega, fun h => by omega⟩

set_option maxHeartbeats 2000000 in
theorem tensors_size (A : Option Addr) (n c : Nat) (ts : List Wt) (w : World) (h : WsIn w A n ts) (hn : n ≤ 70368744177664) :
    Calls Tryz.prog 25 #[.slice A n c] w fun e w' => ∃ r : Int, e = .returned (.int .i64 r) ∧ 0 ≤ r ∧ r ≤ 1125899906842624 ∧ (r ≤ 1048576 → r = (szT ts : Int)) ∧ Below w.heap.size w w' := by
  have HN := hide h
  clear h
  go_enter Tryz.func25, Tryz.ntmps25
  go_wp2
  go_loopw [3, 4] (fun s i wr => ∃ (k : Nat) (a : Int), k ≤ n ∧ i = .int .i64 k ∧ s = .int .i64 a ∧ 0 ≤ a ∧ a ≤ 422212465065984 ∧ Hid (a ≤ 1048576 → a = (n : Int) - (k : Int) + (szT (ts.take k) : Int)) ∧ Hid (Below w.heap.size w wr)) (fun _ i _ => n - (intOf i).toNat)
  case atStart => exact ⟨0, (n : Int), Nat.zero_le _, rfl, rfl, by omega, by omega, hide (fun _ => by rw [List.take_zero, szT]; omega), hide (Below.refl _ _)⟩
  case round =>
    obtain ⟨k, a, hk, rfl, rfl, ha0, ha1, HA, HB⟩ := hrel
    by_cases hlt : k < n
    · have f1 : (k : Int) < (n : Int) := by omega
      by_cases hm : a ≤ 1048576
      · obtain ⟨b, o, t, rfl, htk, h0, h1, hto⟩ := (HN.out.below HB.out).at hlt
        have HT : Hid (szT (ts.take (k + 1)) = szT (ts.take k) + (t.n + t.m + 2)) := hide (szT_take htk)
        have f0 : (0 : Int) ≤ (k : Int) := by omega
        have HC := hide (fun v => tsize_any t.A t.B t.n t.c t.m t.d v (by have := hto.2.2.1.1; omega) (by have := hto.2.2.1.2; omega))
        obtain ⟨z0, z1, z2⟩ := tsz_cases t.n t.m hto.2.2.1.1 hto.2.2.1.2
        unfold tenV at HC
        obtain ⟨r, hr⟩ : ∃ r : Int, r = ((tsz t.n t.m : Nat) : Int) := ⟨_, rfl⟩
        rw [← hr] at HC
        clear htk hto
        go_wp2_with fail
        refine Calls.mono (HC.out _) ?_
        rintro e w1 ⟨rfl, hb⟩
        have HB1 := hide (below_nx6 HB.out hb)
        clear hb h0 h1
        obtain ⟨a2, ha2⟩ : ∃ z : Int, z = a + r := ⟨_, rfl⟩
        have m1 : IntKind.i64.wrap (a + r) = a2 := by rw [IntKind.wrap_i64]; omega
        have HA2 : Hid (a2 ≤ 1048576 → a2 = (n : Int) - ((k + 1 : Nat) : Int) + (szT (ts.take (k + 1)) : Int)) := hide (fun h => by
          have h1 := HA.out hm
          have h2 := z2 (by omega)
          rw [HT.out]
          omega)
        have hq : 0 ≤ a2 ∧ a2 ≤ 422212465065984 := by omega
        have HQ := hide hq
        clear hq ha2 hr z0 z1 z2
        go_wp2
        go_roundw
        case rel => exact ⟨k + 1, a2, by omega, by go_num, rfl, HQ.out.1, HQ.out.2, HA2, HB1⟩
        case measure => simp [intOf] <;> omega
      · have hf : a ≤ 1125899906842624 ∧ (a ≤ 1048576 → a = (szT ts : Int)) := ⟨by omega, fun h => absurd h hm⟩
        have HF := hide hf
        clear hf
        go_wp2
        go_ret
        exact ⟨a, rfl, ha0, HF.out.1, HF.out.2, HB.out⟩
    · obtain rfl : k = n := by omega
      have hall : ts.take k = ts := List.take_of_length_le (by rw [HN.out.1]; exact Nat.le_refl _)
      have hf : a ≤ 1125899906842624 ∧ (a ≤ 1048576 → a = (szT ts : Int)) := ⟨by omega, fun h => by have h1 := HA.out h; rw [hall] at h1; omega⟩
      have HF := hide hf
      have f1 : ¬ ((k : Int) < (k : Int)) := by omega
      clear hf hall
      go_wp2
      go_ret
      exact ⟨a, rfl, ha0, HF.out.1, HF.out.2, HB.out⟩

set_option maxHeartbeats 1000000 in
theorem graph_size11 (A : Option Addr) (n c : Nat) (ns : List Nd) (w : World) (h : NsIn w A n ns) (hn : n ≤ 70368744177664) :
    Calls Tryz.prog 24 #[.agg #[.slice A n c]] w fun e w' => ∃ r : Int, e = .returned (.int .i64 r) ∧ 0 ≤ r ∧ r ≤ 1125899906842625 ∧ (r ≤ 1048576 → r = (szN ns : Int) + 1) ∧ Below w.heap.size w w' := by
  obtain ⟨W0, hW0⟩ : ∃ W0, W0 = w.alloc (.cells #[.slice A n c] 24) := ⟨_, rfl⟩
  have HB0 : Hid (Below w.heap.size w W0) := hide (by rw [hW0]; exact below_al6 (Below.refl _ _))
  have c0 : W0.cell? ⟨w.heap.size, 0, none⟩ = some (.slice A n c) := by rw [hW0]; exact cell_of_row _ _ 0 _ _ (0, 0) (heap_alloc_new w _)
  have HC := hide (nodes_size A n c ns W0 (h.below HB0.out) hn)
  have hW0' := hW0.symm
  clear hW0 h
  go_enter Tryz.func24, Tryz.ntmps24
  go_wp2_with fail
  refine Calls.mono HC.out ?_
  rintro e w1 ⟨r, rfl, hr0, hr1, hr2, hb⟩
  have HB := hide (HB0.out.trans (hb.mono HB0.out.size))
  obtain ⟨a, ha⟩ : ∃ a : Int, a = 1 + r := ⟨_, rfl⟩
  have m1 : IntKind.i64.wrap (1 + r) = a := by rw [IntKind.wrap_i64]; omega
  have hf : 0 ≤ a ∧ a ≤ 1125899906842625 ∧ (a ≤ 1048576 → a = (szN ns : Int) + 1) := ⟨by omega, by omega, fun h => by have := hr2 (by omega); omega⟩
  have HF := hide hf
  clear hb c0 hf hr0 hr1 hr2 ha HC
  go_wp2
  go_ret
  exact ⟨a, rfl, HF.out.1, HF.out.2.1, HF.out.2.2, HB.out⟩

set_option maxHeartbeats 1000000 in
theorem model_size (A B : Option Addr) (n c m d : Nat) (ns : List Nd) (ts : List Wt) (w : World) (h : NsIn w A n ns) (hn : n ≤ 70368744177664) (hW : WsIn w B m ts) (hm : m ≤ 70368744177664) :
    Calls Tryz.prog 7 #[.agg #[.slice A n c, .slice B m d]] w fun e w' => ∃ r : Int, e = .returned (.int .i64 r) ∧ (r ≤ 60000 → szN ns + szT ts ≤ 60000) ∧ Below w.heap.size w w' := by
  obtain ⟨W0, hW0⟩ : ∃ W0, W0 = w.alloc (.cells #[.slice A n c, .slice B m d] 27) := ⟨_, rfl⟩
  have HB0 : Hid (Below w.heap.size w W0) := hide (by rw [hW0]; exact below_al6 (Below.refl _ _))
  have HX : Hid (BoxM W0 w.heap.size (.slice A n c) (.slice B m d)) := hide (by rw [hW0]; exact BoxM.new w _ _)
  have HC := hide (graph_size11 A n c ns W0 (h.below HB0.out) hn)
  have HWS := hide (hW.below HB0.out)
  obtain ⟨c0, c1⟩ := HX.out.cs
  have hW0' := hW0.symm
  clear hW0 h hW
  go_enter Tryz.func7, Tryz.ntmps7
  go_wp2_with fail
  refine Calls.mono HC.out ?_
  rintro e w1 ⟨r, rfl, hr0, hr1, hr2, hb⟩
  have HB1 := hide hb
  have HR2 := hide hr2
  obtain ⟨a, ha⟩ : ∃ a : Int, a = 1 + r := ⟨_, rfl⟩
  have m1 : IntKind.i64.wrap (1 + r) = a := by rw [IntKind.wrap_i64]; omega
  have ha0 : 0 ≤ a := by omega
  have ha1 : a ≤ 1125899906842626 := by omega
  have HAR := hide ha
  obtain ⟨d0, d1⟩ := (HX.out.kept hb).cs
  have HC2 := hide (tensors_size B m d ts w1 (HWS.out.below hb) hm)
  clear hb c0 c1 hr0 hr1 hr2 ha HC
  by_cases hle : a ≤ 1048576
  · go_wp2_with fail
    refine Calls.mono HC2.out ?_
    rintro e w2 ⟨q, rfl, hq0, hq1, hq2, hb2⟩
    have HB2 := hide (below_nx6 HB0.out (below_nx6 HB1.out hb2))
    obtain ⟨z, hz⟩ : ∃ z : Int, z = a + q := ⟨_, rfl⟩
    have m2 : IntKind.i64.wrap (a + q) = z := by rw [IntKind.wrap_i64]; omega
    have HF : Hid (z ≤ 60000 → szN ns + szT ts ≤ 60000) := hide (fun h => by
      have h1 := HAR.out
      have h2 := HR2.out (by omega)
      have h3 := hq2 (by omega)
      omega)
    clear hb2 hq0 hq1 hq2 hz d0 d1 HC2
    go_wp2
    go_ret
    exact ⟨z, rfl, HF.out, HB2.out⟩
  · have HF : Hid (a ≤ 60000 → szN ns + szT ts ≤ 60000) := hide (fun h => by omega)
    clear d0 d1
    go_wp2
    go_ret
    exact ⟨a, rfl, HF.out, below_nx6 HB0.out HB1.out⟩

end

section
open Go.RowKit
set_option linter.unusedVariables false
set_option linter.unusedSimpArgs false
set_option maxRecDepth 100000

end

section
open Go.RowKit
set_option linter.unusedVariables false
set_option linter.unusedSimpArgs false
set_option maxRecDepth 100000

theorem form_A : ∀ (k : Nat) (x : Tn), FormK k x → [65] ∈ partsB k → 1 ≤ x.xs.length := by
  intro k x h hm
  match k, h with
  | 1, h | 2, h | 12, h => exact absurd hm (by decide)
  | 3, h | 4, h | 7, h => have := h.1; omega
  | 5, h => have := h.1; omega
  | 6, h | 9, h | 13, h => have := h.1; omega
  | 8, h => have := h.1; omega
  | 10, h | 11, h => have := h.1; omega

theorem form_B : ∀ (k : Nat) (x : Tn), FormK k x → [66] ∈ partsB k → 2 ≤ x.xs.length := by
  intro k x h hm
  match k, h with
  | 1, h | 2, h | 12, h | 5, h | 6, h | 9, h | 13, h | 10, h | 11, h => exact absurd hm (by decide)
  | 3, h | 4, h | 7, h => have := h.1; omega
  | 8, h => have := h.1; omega

theorem stepW_len (x : Tn) (hx : x.xs.length < 256) (hs : x.sh.length < 256) (p : Wd) : (stepW x p).length ≤ 256 := by
  unfold stepW
  repeat' split
  all_goals (simp only [List.length_cons, List.length_nil, List.length_map]; omega)

theorem flatW_len (x : Tn) (hx : x.xs.length < 256) (hs : x.sh.length < 256) : ∀ ps : List Wd, (ps.flatMap (stepW x)).length ≤ 256 * ps.length
  | [] => by simp
  | p :: r => by
    have h1 := stepW_len x hx hs p
    have h2 := flatW_len x hx hs r
    rw [List.flatMap_cons, List.length_append, List.length_cons]
    omega

theorem small_ints {l : List Int} (h : Small l) : Ints l := fun z hz => by have := h z hz; omega

theorem appN_off (base : Nat) (A D : Option Addr) (n c m d : Nat) (ws : List Wd) (l : List Int) (w0 w : World) (ho : w.ownsRow base 9 1 (.slice A n c) n (ws.map strV)) (hl : Lies w D m (l.map (Value.int .i64))) (hl0 : Lies w0 D m (l.map (Value.int .i64))) (hi : Ints l) (hbase : base ≤ w.heap.size) (hv : LaidV w0) (hb0 : Below w0.heap.size w0 w) (h0 : w0.heap.size ≤ base) (hnm : n + m ≤ 2000000) (hmd : m ≤ d) :
    Calls Tryz.prog 71 #[.slice A n c, .slice D m d] w fun e w' => ∃ A' c', e = .returned (.slice A' (n + m) c') ∧ w'.ownsRow base 9 1 (.slice A' (n + m) c') (n + m) ((ws ++ l.map Lib.itoa).map strV) ∧ Below base w w' := by
  by_cases hm : m = 0
  · subst hm
    have hle : l = [] := by have := lies_len9 hl; exact List.length_eq_zero_iff.1 this
    subst hle
    go_enter Tryz.func71, Tryz.ntmps71
    have HO := hide ho
    clear ho hl hl0
    go_wp2
    go_loop [0, 9] (fun v i => v = .slice A n c ∧ i = .int .i64 0) (fun _ _ => 0)
    case atStart => exact ⟨rfl, rfl⟩
    case round =>
      obtain ⟨rfl, rfl⟩ := hrel
      go_wp2
      go_ret
      exact ⟨A, c, rfl, by simpa using HO.out, Below.refl _ _⟩
  · obtain ⟨b, o, e, hlt, _⟩ := hl0.cells (by omega)
    refine appN_any base A D n c m d ws l w0 w ho hl hi hbase hv hb0 h0 (fun b' o' e' hv' => ?_) hnm hmd
    rw [e] at e'
    injection e' with e'
    injection e' with e1 e2
    have := (ho.lt b' hv').1
    omega

set_option maxHeartbeats 16000000 in
theorem wordsOf_any (x : Nd) (w : World) (hv : LaidV w) (hok : x.Ok w) (hf : FormT x.tn) (hx2 : x.xs.length < 256) (hs2 : x.sh.length < 256) :
    Calls Tryz.prog 40 #[x.v] w fun e w' => ∃ A c, e = .returned (.slice A (wordsB x.tn).length c) ∧ w'.ownsRow w.heap.size 9 1 (.slice A (wordsB x.tn).length c) (wordsB x.tn).length ((wordsB x.tn).map strV) ∧ Below w.heap.size w w' := by
  obtain ⟨hx, hs, hN, hP, hK⟩ := hf
  have hkd := hK.lt
  obtain ⟨kd, hkdn⟩ : ∃ kd : Nat, x.kd = (kd : Int) := ⟨x.kd.toNat, by have := hok.2.2.2.2.2.2.1; omega⟩
  have hk2 : x.tn.kd = kd := by simp [Nd.tn, hkdn]
  rw [hk2] at hK hkd
  have hk14 : kd < 14 := hkd.2
  obtain ⟨q, hq⟩ : ∃ q, q = w.heap.size := ⟨_, rfl⟩
  obtain ⟨W1, hW1⟩ : ∃ W, W = w.alloc (.cells #[.int .u8 x.kd, .slice x.I x.ni x.ci, .slice x.S x.ns x.cs, .int .i64 x.N, .int .i64 x.P] 44) := ⟨_, rfl⟩
  have hB1 : Below w.heap.size w W1 := by rw [hW1]; exact (Below.refl _ _).alloc (Nat.le_refl _) _
  have hbx : BoxN W1 q x := by rw [hW1, hq]; exact BoxN.new w x
  have hv1 := hv.below hB1
  have hok1 := hok.below hB1
  have hrow := hv1.rows kd hk14
  have HF := hide (fields_any kd hk14 W1 hv1)
  have hni : x.xs.length = x.ni := lies_len9 hok1.1
  have hns : x.sh.length = x.ns := lies_len9 hok1.2.1
  have hW1' := hW1.symm
  have hq' := hq.symm
  have HA := hide (fun h => form_A kd x.tn hK h)
  have HB := hide (fun h => form_B kd x.tn hK h)
  have HOK := hide hok1
  have HV := hide hv1
  have HB1 := hide hB1
  have HBX := hide hbx
  have hcx := hbx.cs
  rw [hkdn] at hcx
  have HX := hide hx
  have HS := hide hs
  have HN := hide hN
  have HP := hide hP
  have HQ := hide hq
  have hs1 : W1.heap.size = q + 1 := by rw [hW1, hq]; simp
  have hb13 := hok1.2.2
  obtain ⟨hnc, hsc, _⟩ := hb13
  have HKD := hide hk2
  obtain ⟨rb, hrb⟩ : ∃ rb : ByteArray, rb = ⟨(rowB kd).toArray⟩ := ⟨_, rfl⟩
  have hrv : strV (rowB kd) = .string rb := by rw [hrb]; rfl
  rw [hrv] at hrow HF
  rw [hkdn] at hW1'
  unfold Nd.v
  rw [hkdn]
  clear hW1 hB1 hbx hv1 hok1 hv hok hx hs hN hP hq hK hk2 hrv hrb hkdn
  go_enter Tryz.func40, Tryz.ntmps40
  go_wp2_with (go_at_call 70; refine HF.out.mono ?_; rintro e w3 ⟨A, rfl, hA, hAlt, hLA, hb3⟩)
  obtain ⟨B, hBB⟩ : ∃ B, B = w3.heap.size := ⟨_, rfl⟩
  have hs3 := hb3.size
  have HB3 := hide hb3
  have HBE := hide hBB
  have HKp : Hid (∀ wr, Below B w3 wr → BoxN wr q x ∧ x.Ok wr ∧ LaidV wr ∧ Lies wr (some ⟨A, 0, none⟩) (partsB kd).length ((partsB kd).map strV)) := hide (fun wr hb => by
    have hbw : Below W1.heap.size W1 wr := hb3.trans (hb.mono (by omega))
    exact ⟨(hbw.block q (by omega)).trans HBX.out, HOK.out.below hbw, HV.out.below hbw, hLA.below (hb.mono (by omega))⟩)
  obtain ⟨L, hL⟩ : ∃ L, L = (partsB kd).length := ⟨_, rfl⟩
  have hL9 : L < 100 := by rw [hL]; exact parts_len kd hk14
  have HL := hide hL
  rw [← hL]
  obtain ⟨i0, hi0, hz0, hz1, hz2⟩ := info_parts infoS
  have HI := hide hi0
  have HZ0 := hide hz0
  have HZ1 := hide hz1
  have HZ2 := hide hz2
  have HRB : Hid (∀ k, ((((partsB kd).take k).flatMap (stepW x.tn)).length ≤ 256 * k)) := hide (fun k => Nat.le_trans (flatW_len x.tn hx2 hs2 _) (by rw [List.length_take]; exact Nat.mul_le_mul_left _ (Nat.min_le_left _ _)))
  have hBq : q < B := by omega
  have hAB : A < B := by omega
  clear hL hi0 hz0 hz1 hz2 hBB hA hAlt hLA hb3 hrow HF hcx hW1' hs1 hs3
  go_loopw [3, 12] (fun v i wr => ∃ (k : Nat) (A2 : Option Addr) (n c2 : Nat), k ≤ L ∧ i = .int .i64 k ∧ v = .slice A2 n c2 ∧ Hid (n = (((partsB kd).take k).flatMap (stepW x.tn)).length) ∧ Hid (wr.ownsRow B 9 1 (.slice A2 n c2) n ((((partsB kd).take k).flatMap (stepW x.tn)).map strV)) ∧ Hid (Below B w3 wr)) (fun _ i _ => L - (intOf i).toNat)
  case atStart => exact ⟨0, none, 0, 0, Nat.zero_le _, rfl, rfl, hide rfl, hide (World.ownsRow_nil _ _ _ _), hide (Below.refl _ _)⟩
  case round =>
    obtain ⟨k, A2, n, c2, hkL, rfl, rfl, HNN, HR, HB4⟩ := hrel
    obtain ⟨hbx, hokr, hvr, hlr⟩ := HKp.out wr HB4.out
    have hsz : B ≤ wr.heap.size := by have := HB4.out.size; rw [← HBE.out] at this; exact this
    have hn6 : n ≤ 25600 := by rw [HNN.out]; exact Nat.le_trans (HRB.out k) (by omega)
    by_cases hlt : k < L
    · obtain ⟨pt, hpt⟩ : ∃ pt, (partsB kd)[k]? = some pt := ⟨_, List.getElem?_eq_getElem (by rw [← HL.out]; exact hlt)⟩
      have htk : ((partsB kd).take (k + 1)).flatMap (stepW x.tn) = ((partsB kd).take k).flatMap (stepW x.tn) ++ stepW x.tn pt := by
        rw [List.take_add_one, hpt, List.flatMap_append]; simp
      have hcell : wr.cell? ⟨A, k, none⟩ = some (strV pt) := by
        obtain ⟨b, o, e, _, hcs⟩ := hlr.cells (by rw [← HL.out]; omega)
        injection e with e
        injection e with e1 e2
        subst e1 e2
        have := hcs k (by rw [← HL.out]; exact hlt)
        rw [Nat.zero_add, List.getElem?_map, hpt] at this
        exact this
      have hmem : pt ∈ partsB kd := List.mem_of_getElem? hpt
      have f0 : (0 : Int) ≤ (k : Int) := by omega
      have f1 : (k : Int) < (L : Int) := by omega
      have hcx := hbx.cs
      have HTK := hide htk
      have HVR := hide hvr
      have HOKR := hide hokr
      have HLR := hide hlr
      clear hpt htk hvr hokr hlr hbx
      unfold strV at hcell
      have hWB : W1.heap.size ≤ B := by rw [HBE.out]; exact HB3.out.size
      by_cases hA1 : pt = [65]
      · subst hA1
        have h0 := HA.out hmem
        have hli := HOKR.out.1
        obtain ⟨bi, oi, hI, hbi, hci⟩ := hli.cells (by rw [← hni]; exact Nat.lt_of_lt_of_le (by omega) h0)
        have hc0 := hci 0 (by rw [← hni]; exact h0)
        have hz0 : (x.xs.map (Value.int .i64))[0]? = some (.int .i64 (x.xs.getD 0 0)) := by
          rw [List.getElem?_map, List.getD_eq_getElem?_getD, List.getElem?_eq_getElem (show 0 < x.xs.length from h0)]; rfl
        rw [hz0] at hc0
        have hzb := getD_nn x.xs HX.out 0
        have hzc : x.xs.getD 0 0 < 1000000000 := by
          rw [List.getD_eq_getElem?_getD, List.getElem?_eq_getElem (show 0 < x.xs.length from h0)]
          exact (HX.out _ (List.getElem_mem _)).2
        have hni1 : ((0 : Int) < (x.ni : Int)) := by rw [← hni]; have : 0 < x.xs.length := h0; omega
        rw [Nat.add_zero] at hc0
        clear hz0 hci hli hbi
        have hst : stepW x.tn [65] = [x.xs.getD 0 0].map Lib.itoa := by simp [stepW, Nd.tn]
        have hz : -9223372036854775808 ≤ x.xs.getD 0 0 ∧ x.xs.getD 0 0 ≤ 9223372036854775807 := by have := hzb; omega
        have hbl : Below wr.heap.size wr (wr.alloc (.cells #[.int .i64 (x.xs.getD 0 0)] 3)) := (Below.refl _ _).alloc (Nat.le_refl _) _
        have HC := hide (appN_any B A2 (some ⟨wr.heap.size, 0, none⟩) n c2 1 1 (((partsB kd).take k).flatMap (stepW x.tn)) [x.xs.getD 0 0] W1 (wr.alloc (.cells #[.int .i64 (x.xs.getD 0 0)] 3)) (own_below HR.out hbl) ⟨rfl, fun _ => ⟨wr.heap.size, 0, rfl, by simp, fun j hj => by obtain rfl : j = 0 := (by omega); exact cell_new1 wr (.int .i64 (x.xs.getD 0 0)) _⟩⟩ (fun y hy => by rw [List.mem_singleton] at hy; subst hy; exact hz) (Nat.le_trans hsz hbl.size) HV.out ((HB3.out.trans (HB4.out.mono hWB)).trans (hbl.mono (Nat.le_trans hWB hsz))) hWB (fun b o e hv => by injection e with e; injection e with e1 e2; have := (HR.out.lt b hv).2; omega) (by omega) (Nat.le_refl _))
        have HBL := hide hbl
        clear hbl
        go_wp2_with (go_at_call 71; refine HC.out.mono ?_; rintro e w5 ⟨A3, c3, rfl, ho3, hb5⟩; have hb3 : Below B wr w5 := (HBL.out.mono hsz).trans hb5)
        rw [← hI]
        clear hI
        go_roundw
        case rel => exact ⟨k + 1, A3, n + 1, c3, by omega, by go_num, rfl, hide (by rw [HTK.out, hst, List.length_append, ← HNN.out]; rfl), hide (by rw [HTK.out, hst]; exact ho3), hide (HB4.out.trans hb3)⟩
        case measure => simp [intOf]; omega
      by_cases hB1 : pt = [66]
      · subst hB1
        have h1 := HB.out hmem
        have hli := HOKR.out.1
        obtain ⟨bi, oi, hI, hbi, hci⟩ := hli.cells (by rw [← hni]; exact Nat.lt_of_lt_of_le (by omega) h1)
        have hc0 := hci 1 (by rw [← hni]; exact h1)
        have hz0 : (x.xs.map (Value.int .i64))[1]? = some (.int .i64 (x.xs.getD 1 0)) := by
          rw [List.getElem?_map, List.getD_eq_getElem?_getD, List.getElem?_eq_getElem (show 1 < x.xs.length from h1)]; rfl
        rw [hz0] at hc0
        have hzb := getD_nn x.xs HX.out 1
        have hzc : x.xs.getD 1 0 < 1000000000 := by
          rw [List.getD_eq_getElem?_getD, List.getElem?_eq_getElem (show 1 < x.xs.length from h1)]
          exact (HX.out _ (List.getElem_mem _)).2
        have hni1 : ((1 : Int) < (x.ni : Int)) := by rw [← hni]; have : 1 < x.xs.length := h1; omega
        clear hz0 hci hli hbi
        have hst : stepW x.tn [66] = [x.xs.getD 1 0].map Lib.itoa := by simp [stepW, Nd.tn]
        have hz : -9223372036854775808 ≤ x.xs.getD 1 0 ∧ x.xs.getD 1 0 ≤ 9223372036854775807 := by have := hzb; omega
        have hbl : Below wr.heap.size wr (wr.alloc (.cells #[.int .i64 (x.xs.getD 1 0)] 3)) := (Below.refl _ _).alloc (Nat.le_refl _) _
        have HC := hide (appN_any B A2 (some ⟨wr.heap.size, 0, none⟩) n c2 1 1 (((partsB kd).take k).flatMap (stepW x.tn)) [x.xs.getD 1 0] W1 (wr.alloc (.cells #[.int .i64 (x.xs.getD 1 0)] 3)) (own_below HR.out hbl) ⟨rfl, fun _ => ⟨wr.heap.size, 0, rfl, by simp, fun j hj => by obtain rfl : j = 0 := (by omega); exact cell_new1 wr (.int .i64 (x.xs.getD 1 0)) _⟩⟩ (fun y hy => by rw [List.mem_singleton] at hy; subst hy; exact hz) (Nat.le_trans hsz hbl.size) HV.out ((HB3.out.trans (HB4.out.mono hWB)).trans (hbl.mono (Nat.le_trans hWB hsz))) hWB (fun b o e hv => by injection e with e; injection e with e1 e2; have := (HR.out.lt b hv).2; omega) (by omega) (Nat.le_refl _))
        have HBL := hide hbl
        clear hbl
        go_wp2_with (go_at_call 71; refine HC.out.mono ?_; rintro e w5 ⟨A3, c3, rfl, ho3, hb5⟩; have hb3 : Below B wr w5 := (HBL.out.mono hsz).trans hb5)
        rw [← hI]
        clear hI
        go_roundw
        case rel => exact ⟨k + 1, A3, n + 1, c3, by omega, by go_num, rfl, hide (by rw [HTK.out, hst, List.length_append, ← HNN.out]; rfl), hide (by rw [HTK.out, hst]; exact ho3), hide (HB4.out.trans hb3)⟩
        case measure => simp [intOf]; omega
      by_cases hAS : pt = [65, 46, 46]
      · subst hAS
        have hst : stepW x.tn [65, 46, 46] = x.xs.map Lib.itoa := by simp [stepW, Nd.tn]
        have hli := HOKR.out.1
        have hli1 := HOK.out.1
        have HC := hide (appN_off B A2 x.I n c2 x.ni x.ci (((partsB kd).take k).flatMap (stepW x.tn)) x.xs W1 wr HR.out hli hli1 (small_ints HX.out) hsz HV.out (HB3.out.trans (HB4.out.mono hWB)) hWB (by rw [← hni]; omega) hnc)
        clear hli hli1
        go_wp2_with (go_at_call 71; refine HC.out.mono ?_; rintro e w5 ⟨A3, c3, rfl, ho3, hb3⟩)
        go_roundw
        case rel => exact ⟨k + 1, A3, n + x.ni, c3, by omega, by go_num, rfl, hide (by rw [HTK.out, hst, List.length_append, ← HNN.out, List.length_map, hni]), hide (by rw [HTK.out, hst]; exact ho3), hide (HB4.out.trans hb3)⟩
        case measure => simp [intOf]; omega
      by_cases hSS : pt = [83]
      · subst hSS
        have hst : stepW x.tn [83] = x.sh.map Lib.itoa := by simp [stepW, Nd.tn]
        have hli := HOKR.out.2.1
        have hli1 := HOK.out.2.1
        have HC := hide (appN_off B A2 x.S n c2 x.ns x.cs (((partsB kd).take k).flatMap (stepW x.tn)) x.sh W1 wr HR.out hli hli1 (small_ints HS.out) hsz HV.out (HB3.out.trans (HB4.out.mono hWB)) hWB (by rw [← hns]; omega) hsc)
        clear hli hli1
        go_wp2_with (go_at_call 71; refine HC.out.mono ?_; rintro e w5 ⟨A3, c3, rfl, ho3, hb3⟩)
        go_roundw
        case rel => exact ⟨k + 1, A3, n + x.ns, c3, by omega, by go_num, rfl, hide (by rw [HTK.out, hst, List.length_append, ← HNN.out, List.length_map, hns]), hide (by rw [HTK.out, hst]; exact ho3), hide (HB4.out.trans hb3)⟩
        case measure => simp [intOf]; omega
      by_cases hNN2 : pt = [78]
      · subst hNN2
        have hst : stepW x.tn [78] = [x.N].map Lib.itoa := by simp [stepW, Nd.tn]
        have hz : -9223372036854775808 ≤ x.N ∧ x.N ≤ 9223372036854775807 := by have := HN.out; omega
        have hbl : Below wr.heap.size wr (wr.alloc (.cells #[.int .i64 (x.N)] 3)) := (Below.refl _ _).alloc (Nat.le_refl _) _
        have HC := hide (appN_any B A2 (some ⟨wr.heap.size, 0, none⟩) n c2 1 1 (((partsB kd).take k).flatMap (stepW x.tn)) [x.N] W1 (wr.alloc (.cells #[.int .i64 (x.N)] 3)) (own_below HR.out hbl) ⟨rfl, fun _ => ⟨wr.heap.size, 0, rfl, by simp, fun j hj => by obtain rfl : j = 0 := (by omega); exact cell_new1 wr (.int .i64 (x.N)) _⟩⟩ (fun y hy => by rw [List.mem_singleton] at hy; subst hy; exact hz) (Nat.le_trans hsz hbl.size) HV.out ((HB3.out.trans (HB4.out.mono hWB)).trans (hbl.mono (Nat.le_trans hWB hsz))) hWB (fun b o e hv => by injection e with e; injection e with e1 e2; have := (HR.out.lt b hv).2; omega) (by omega) (Nat.le_refl _))
        have HBL := hide hbl
        clear hbl
        go_wp2_with (go_at_call 71; refine HC.out.mono ?_; rintro e w5 ⟨A3, c3, rfl, ho3, hb5⟩; have hb3 : Below B wr w5 := (HBL.out.mono hsz).trans hb5)
        go_roundw
        case rel => exact ⟨k + 1, A3, n + 1, c3, by omega, by go_num, rfl, hide (by rw [HTK.out, hst, List.length_append, ← HNN.out]; rfl), hide (by rw [HTK.out, hst]; exact ho3), hide (HB4.out.trans hb3)⟩
        case measure => simp [intOf]; omega
      by_cases hPP : pt = [80]
      · subst hPP
        have hst : stepW x.tn [80] = [x.P].map Lib.itoa := by simp [stepW, Nd.tn]
        have hz : -9223372036854775808 ≤ x.P ∧ x.P ≤ 9223372036854775807 := by have := HP.out; omega
        have hbl : Below wr.heap.size wr (wr.alloc (.cells #[.int .i64 (x.P)] 3)) := (Below.refl _ _).alloc (Nat.le_refl _) _
        have HC := hide (appN_any B A2 (some ⟨wr.heap.size, 0, none⟩) n c2 1 1 (((partsB kd).take k).flatMap (stepW x.tn)) [x.P] W1 (wr.alloc (.cells #[.int .i64 (x.P)] 3)) (own_below HR.out hbl) ⟨rfl, fun _ => ⟨wr.heap.size, 0, rfl, by simp, fun j hj => by obtain rfl : j = 0 := (by omega); exact cell_new1 wr (.int .i64 (x.P)) _⟩⟩ (fun y hy => by rw [List.mem_singleton] at hy; subst hy; exact hz) (Nat.le_trans hsz hbl.size) HV.out ((HB3.out.trans (HB4.out.mono hWB)).trans (hbl.mono (Nat.le_trans hWB hsz))) hWB (fun b o e hv => by injection e with e; injection e with e1 e2; have := (HR.out.lt b hv).2; omega) (by omega) (Nat.le_refl _))
        have HBL := hide hbl
        clear hbl
        go_wp2_with (go_at_call 71; refine HC.out.mono ?_; rintro e w5 ⟨A3, c3, rfl, ho3, hb5⟩; have hb3 : Below B wr w5 := (HBL.out.mono hsz).trans hb5)
        go_roundw
        case rel => exact ⟨k + 1, A3, n + 1, c3, by omega, by go_num, rfl, hide (by rw [HTK.out, hst, List.length_append, ← HNN.out]; rfl), hide (by rw [HTK.out, hst]; exact ho3), hide (HB4.out.trans hb3)⟩
        case measure => simp [intOf]; omega
      have n1 : (pt == [65]) = false := by simpa using hA1
      have n2 : (pt == [66]) = false := by simpa using hB1
      have n3 : (pt == [65, 46, 46]) = false := by simpa using hAS
      have n4 : (pt == [83]) = false := by simpa using hSS
      have n5 : (pt == [78]) = false := by simpa using hNN2
      have n6 : (pt == [80]) = false := by simpa using hPP
      have hst : stepW x.tn pt = [pt] := by simp [stepW, hA1, hB1, hAS, hSS, hNN2, hPP]
      go_wp2_with (at_builtin; refine wpList_append_one rfl (.tmp 17) (.tmp 19) 93 rfl 9 i0 (.string ByteArray.empty) 16 Tryz.underlying93 HI.out HZ0.out HZ1.out HZ2.out rfl B A2 n c2 ((((partsB kd).take k).flatMap (stepW x.tn)).map strV) rfl (HR.out.alloc _) (Nat.le_trans hsz (by simp)) ⟨wr.heap.size, 0, none⟩ (.string ⟨pt.toArray⟩) rfl (cell_new1 wr (.string ⟨pt.toArray⟩) _) rfl (by omega) (by unfold maxLen; omega) ?_)
      intro A3 c3 w5 ho5 hm5
      have hb3 : Below B wr w5 := below_moved ((Below.refl B wr).alloc hsz (.cells #[.string ⟨pt.toArray⟩] 9)) (Nat.le_trans hsz (by simp)) (HR.out.alloc _) hm5
      have ho3 : w5.ownsRow B 9 1 (.slice A3 (n + 1) c3) (n + 1) ((((partsB kd).take k).flatMap (stepW x.tn) ++ [pt]).map strV) := by rw [List.map_append]; exact ho5
      clear ho5 hm5
      go_wp2
      go_roundw
      case rel => exact ⟨k + 1, A3, n + 1, c3, by omega, by go_num, rfl, hide (by rw [HTK.out, hst, List.length_append, ← HNN.out]; rfl), hide (by rw [HTK.out, hst]; exact ho3), hide (HB4.out.trans hb3)⟩
      case measure => simp [intOf]; omega
    · obtain rfl : k = L := by omega
      clear hbx hokr hvr hlr
      go_wp2
      go_ret
      have hall : (partsB kd).take k = partsB kd := List.take_of_length_le (by rw [← HL.out]; exact Nat.le_refl _)
      have h9 := HR.out
      have hn9 := HNN.out
      rw [hall] at h9 hn9
      have hwb : wordsB x.tn = (partsB kd).flatMap (stepW x.tn) := by rw [wordsB, HKD.out]
      rw [hwb, ← hn9]
      exact ⟨A2, c2, rfl, own_base h9 (by rw [HBE.out]; exact Nat.le_trans HB1.out.size HB3.out.size), HB1.out.trans ((HB3.out.mono HB1.out.size).trans (HB4.out.mono (by rw [HBE.out]; exact Nat.le_trans HB1.out.size HB3.out.size)))⟩

end

end Go.Proofs.YtohndckbhjakfaaGreatDoor

