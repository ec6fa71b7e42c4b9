/- Merged: Sums, Mo6, Mo9, Tx2. -/
import Derived.Test.YtohndckbhjakfaaGreatDoorWZ33
import Derived.Test.YtohndckbhjakfaaGreatDoorRows
import Derived.Test.YtohndckbhjakfaaGreatDoorWZ28
import Derived.Test.YtohndckbhjakfaaGreatDoorWZ00
import Derived.Test.YtohndckbhjakfaaGreatDoorWZ01
import Derived.Outline
import Derived.Laws.Rows
import Derived.WalkSmall
namespace Go.Proofs.YtohndckbhjakfaaGreatDoor

section
open Go.RowKit

theorem xor_byte {x : Nat} {z : Int} (h : x < 4294967296) (h0 : 0 ≤ z) (h1 : z < 256) : bits .xor .u32 (x : Int) z = ((x ^^^ z.toNat : Nat) : Int) := by
  have := u32_xor_nat x z.toNat h (by omega)
  rwa [Int.toNat_of_nonneg h0] at this

theorem xor_word {x t : Nat} (h : x < 4294967296) (ht : t < 4294967296) : bits .xor .u32 ((x : Int) / 16) (t : Int) = ((x / 16 ^^^ t : Nat) : Int) := by
  have := u32_xor_nat (x / 16) t (by omega) ht
  simpa using this

theorem xor_max {x : Nat} (h : x < 4294967296) : bits .xor .u32 IntKind.u32.max (x : Int) = ((inv x : Nat) : Int) := by
  have := u32_xor_nat 4294967295 x (by omega) h
  rw [Nat.xor_comm] at this
  exact this

theorem table_cells (w1 : World) (t : TypeId) (j : Nat) (h : j < 16) : (w1.alloc (.cells tabF t)).cell? ⟨w1.heap.size, j, none⟩ = some (.int .u32 ((steps 4 j : Nat) : Int)) := by
  rw [cell_of_row _ _ j tabF t (0, 0) (heap_alloc_new w1 _), tab_word j h]

set_option maxRecDepth 100000 in
set_option maxHeartbeats 2000000 in
theorem on_any (s : Nat) (A : Option Addr) (n c : Nat) (zs : List Int) (w : World) (hs : s < 4294967296) (h : Lies w A n (zs.map (Value.int .u8))) (hz : ByteL zs) (hn : n ≤ 281474976710656) :
    Calls Tryz.prog 55 #[.int .u32 (s : Int), .slice A n c] w fun e w' => e = .returned (.int .u32 ((sumOn s zs : Nat) : Int)) ∧ Below w.heap.size w w' := by
  have HL := hide h
  have HZ := hide hz
  have HLEN : Hid (zs.length = n) := hide (by have := h.len; simpa using this)
  have hmax := xor_max hs
  have hinv := inv_lt hs
  clear h hz
  go_enter Tryz.func55, Tryz.ntmps55
  go_wp2_with fail
  refine Calls.mono (table_any _) ?_
  rintro e w1 ⟨rfl, hb1⟩
  have HB1 := hide hb1
  clear hb1
  unfold tabF
  go_wp2
  clear hmax
  refine (show Code.wp Tryz.prog _ _ _ (w1.alloc (.cells tabF 151)) from ?_)
  have HTC := hide (table_cells w1 151)
  have HL2 := hide ((HL.out.below HB1.out).alloc (.cells tabF 151))
  have HB2 := hide (HB1.out.alloc HB1.out.size (.cells tabF 151))
  generalize w1.alloc (.cells tabF 151) = w2 at HTC HL2 HB2 ⊢
  clear HL HB1
  go_loop [6, 14] (fun v i => ∃ k : Nat, k ≤ n ∧ i = .int .i64 k ∧ v = .int .u32 ((reg (inv s) (zs.take k) : Nat) : Int)) (fun _ i => n - (intOf i).toNat)
  case atStart => exact ⟨0, Nat.zero_le _, rfl, rfl⟩
  case round =>
    obtain ⟨k, hk, rfl, rfl⟩ := hrel
    have hx0lt : reg (inv s) (zs.take k) < 4294967296 := reg_lt hinv (fun z hz => HZ.out z (List.mem_of_mem_take hz))
    obtain ⟨x0, hx0⟩ : ∃ x, x = reg (inv s) (zs.take k) := ⟨_, rfl⟩
    rw [← hx0] at hx0lt ⊢
    have HX0 := hide hx0
    clear hx0
    by_cases hlt : k < n
    · obtain ⟨b, o, rfl, _, hx⟩ := byte_at HL2.out (by omega)
      obtain ⟨z, hz⟩ : ∃ z, z = zs.getD k 0 := ⟨_, rfl⟩
      have hc : w2.cell? ⟨b, o + k, none⟩ = some (.int .u8 z) := by rw [hz]; exact hx k hlt
      have hzb := bytes_getD (bs := zs) HZ.out k
      rw [← hz] at hzb
      obtain ⟨hz0, hz1⟩ := hzb
      have HZZ := hide hz
      clear hx hz
      have h1 := xor_byte hx0lt hz0 hz1
      have l1 : x0 ^^^ z.toNat < 4294967296 := xor_lt hx0lt (by omega)
      obtain ⟨x1, e1⟩ : ∃ x, x = x0 ^^^ z.toNat := ⟨_, rfl⟩
      rw [← e1] at h1 l1
      have h2 := and_fifteen l1
      have h3 := HTC.out (x1 % 16) (by omega)
      have l3 := steps_lt 4 (r := x1 % 16) (by omega)
      have h4 := xor_word l1 l3
      have l4 : x1 / 16 ^^^ steps 4 (x1 % 16) < 4294967296 := xor_lt (by omega) l3
      have e8 := steps_eight x1
      have hy1 : (x1 % 16) < 16 := by omega
      obtain ⟨y1, ey1⟩ : ∃ y, y = x1 % 16 := ⟨_, rfl⟩
      rw [← ey1] at h2 h3 h4 l3 l4 e8 hy1
      obtain ⟨t1, et1⟩ : ∃ t, t = steps 4 y1 := ⟨_, rfl⟩
      rw [← et1] at h3 h4 l3 l4 e8
      obtain ⟨x2, e2⟩ : ∃ x, x = x1 / 16 ^^^ t1 := ⟨_, rfl⟩
      rw [← e2] at h4 l4 e8
      have h5 := and_fifteen l4
      have h6 := HTC.out (x2 % 16) (by omega)
      have l6 := steps_lt 4 (r := x2 % 16) (by omega)
      have h7 := xor_word l4 l6
      have hy2 : (x2 % 16) < 16 := by omega
      obtain ⟨y2, ey2⟩ : ∃ y, y = x2 % 16 := ⟨_, rfl⟩
      rw [← ey2] at h5 h6 h7 l6 e8 hy2
      obtain ⟨t2, et2⟩ : ∃ t, t = steps 4 y2 := ⟨_, rfl⟩
      rw [← et2] at h6 h7 l6 e8
      obtain ⟨x3, e3⟩ : ∃ x, x = x2 / 16 ^^^ t2 := ⟨_, rfl⟩
      rw [← e3] at h7 e8
      have HEND : Hid (reg (inv s) (zs.take (k + 1)) = x3) := hide (by rw [reg_snoc _ _ _ (by rw [HLEN.out]; exact hlt), ← HX0.out, ← HZZ.out, e8, e1]; rfl)
      have hy1' : (y1 : Int) < 16 := by omega
      have hy2' : (y2 : Int) < 16 := by omega
      have hy10 : 0 ≤ (y1 : Int) := by omega
      have hy20 : 0 ≤ (y2 : Int) := by omega
      clear e1 e2 e3 ey1 ey2 et1 et2 e8 HZZ HX0
      go_wp2
      go_round
      case rel => exact ⟨k + 1, by omega, by go_num, by rw [HEND.out]⟩
      case measure => simp [intOf]; omega
    · obtain rfl : k = n := by omega
      have hm := xor_max hx0lt
      go_wp2
      go_ret
      refine ⟨?_, HB2.out⟩
      have hall : zs.take k = zs := List.take_of_length_le (by rw [HLEN.out]; exact Nat.le_refl _)
      have hx := HX0.out
      rw [hall] at hx
      unfold sumOn
      rw [← hx]
      rfl

theorem of_any (A : Option Addr) (n c : Nat) (zs : List Int) (w : World) (h : Lies w A n (zs.map (Value.int .u8))) (hz : ByteL zs) (hn : n ≤ 281474976710656) :
    Calls Tryz.prog 30 #[.slice A n c] w fun e w' => e = .returned (.int .u32 ((sumOf zs : Nat) : Int)) ∧ Below w.heap.size w w' := by
  have HC : Hid _ := on_any 0 A n c zs w (by omega) h hz hn
  clear h hz
  go_enter Tryz.func30, Tryz.ntmps30
  go_wp2_with fail
  refine Calls.mono HC.out ?_
  rintro e w' ⟨rfl, hb⟩
  have HB := hide hb
  clear hb
  go_wp2
  go_ret
  exact ⟨rfl, HB.out⟩

end

section
open Go.RowKit
set_option linter.unusedVariables false
set_option linter.unusedSimpArgs false
set_option maxRecDepth 100000

set_option maxHeartbeats 4000000 in
theorem mput_no (A B : Option Addr) (n c m d : Nat) (ns : List Nd) (ts : List Wt) (w : World) (h : NsIn w A n ns) (hn : n ≤ 1073741824) (hc : n ≤ c) (hW : WsIn w B m ts) (hm : m ≤ 70368744177664) (hmd : mdB ns ts = false) :
    Calls Tryz.prog 8 #[.agg #[.slice A n c, .slice B m d]] w fun e w' => e = .returned (.tuple #[.slice none 0 0, .int .i64 1]) ∧ Below w.heap.size w w' := by
  obtain ⟨W0, hW0⟩ : ∃ W0, W0 = w.alloc (.cells #[.slice A n c, .slice B m d] 27) := ⟨_, rfl⟩
  have HB0 : Hid (Below w.heap.size w W0) := hide (by rw [hW0]; exact below_al6 (Below.refl _ _))
  have HX : Hid (BoxM W0 w.heap.size (.slice A n c) (.slice B m d)) := hide (by rw [hW0]; exact BoxM.new w _ _)
  have hi := isModel11_any A B n c m d ns ts W0 (h.below HB0.out) hn hc (hW.below HB0.out) hm
  rw [hmd] at hi
  have HI := hide hi
  obtain ⟨c0, c1⟩ := HX.out.cs
  have hW0' := hW0.symm
  clear hW0 h hW hi hmd
  go_enter Tryz.func8, Tryz.ntmps8
  go_wp2_with fail
  refine Calls.mono HI.out ?_
  rintro e w1 ⟨rfl, hb⟩
  have HB1 := hide (below_nx6 HB0.out hb)
  clear hb HI c0 c1
  go_wp2
  go_ret2
  exact ⟨rfl, HB1.out⟩

theorem wsI_take {ts : List Wt} {k : Nat} {t : Wt} (h : ts[k]? = some t) : wsI (ts.take (k + 1)) = wsI (ts.take k) ++ enc t.l := by
  obtain ⟨h1, h2⟩ := List.getElem?_eq_some_iff.1 h
  rw [List.take_succ_eq_append_getElem h1, h2, wsI_append]
  congr 1
  simp [wsI]

theorem tenOk_le {s : List Int} {m : Nat} (h : tenOk s m = true) : 1 ≤ m ∧ m ≤ 4096 := by
  simp only [tenOk, Bool.and_eq_true, decide_eq_true_eq] at h
  have := sizeI_le s
  omega

theorem own_cap11 {w : World} {b : Nat} {e : TypeId} {s n c : Nat} {A : Option Addr} {xs : List Value} (h : w.ownsRow b e s (.slice A n c) n xs) : n ≤ c := by
  rcases h.2 with ⟨h1, h2⟩ | ⟨g, cap, cur, h1, _, _, h2, _⟩
  · omega
  · cases h1
    exact h2

set_option maxHeartbeats 8000000 in
theorem mput_ok (A B : Option Addr) (n c m d : Nat) (ns : List Nd) (ts : List Wt) (w : World) (h : NsIn w A n ns) (hn : n ≤ 1073741824) (hc : n ≤ c) (hW : WsIn w B m ts) (hm : m ≤ 70368744177664) (hmd : mdB ns ts = true) :
    Calls Tryz.prog 8 #[.agg #[.slice A n c, .slice B m d]] w fun e w' => ∃ (A' : Option Addr) (k c' : Nat), e = .returned (.tuple #[.slice A' k c', .int .i64 0]) ∧ w'.ownsRow w.heap.size 5 1 (.slice A' k c') k ((mdP ns ts).map (Value.int .u8)) ∧ k ≤ 1000000 ∧ Below w.heap.size w w' := by
  obtain ⟨W0, hW0⟩ : ∃ W0, W0 = w.alloc (.cells #[.slice A n c, .slice B m d] 27) := ⟨_, rfl⟩
  have HB0 : Hid (Below w.heap.size w W0) := hide (by rw [hW0]; exact below_al6 (Below.refl _ _))
  have HX : Hid (BoxM W0 w.heap.size (.slice A n c) (.slice B m d)) := hide (by rw [hW0]; exact BoxM.new w _ _)
  have HN := hide (h.below HB0.out)
  have HWS := hide (hW.below HB0.out)
  have HL : Hid (ns.length = n) := hide h.1
  have HM : Hid (ts.length = m) := hide hW.1
  have hi := isModel11_any A B n c m d ns ts W0 HN.out hn hc HWS.out hm
  rw [hmd] at hi
  have HI := hide hi
  obtain ⟨hgb, hfit⟩ := mdB_parts.1 hmd
  have HGB := hide hgb
  have HFIT := hide hfit
  obtain ⟨f1, f2⟩ := gph_form hgb
  have HBT : Hid (∀ x ∈ ns, ByteT x.tn) := hide (fun x hx => (f2 x hx).2)
  have hn32 : n ≤ 32 := by rw [← HL.out]; exact f1
  have hm32 : m ≤ 32 := by have h1 := wsFit_len hfit; have h2 := wtF_len11 ns 0; rw [HM.out] at h1; rw [HL.out] at h2; omega
  obtain ⟨c0, c1⟩ := HX.out.cs
  have hW0' := hW0.symm
  clear hW0 h hW hi hmd hgb hfit f1 f2
  go_enter Tryz.func8, Tryz.ntmps8
  go_wp2_with fail
  refine Calls.mono HI.out ?_
  rintro e w1 ⟨rfl, hb⟩
  have HB1 := hide hb
  obtain ⟨c0', c1'⟩ := (HX.out.kept hb).cs
  have HPG := hide (putGraph11_any A n c ns w1 (HN.out.below hb) hn32 HBT.out)
  clear hb HI c0 c1
  go_wp2_with fail
  refine Calls.mono HPG.out ?_
  rintro e w2 ⟨A2, k2, c2, rfl, ho2, hb2⟩
  have HB2 := hide hb2
  obtain ⟨c0, c1⟩ := (HX.out.kept (below_nx6 HB1.out hb2)).cs
  have hk2 : 1 ≤ k2 ∧ k2 ≤ 20000 := by
    have h1 := ho2.1
    rw [List.length_map] at h1
    have h2 := gB_len HBT.out ns.length (Nat.le_refl _)
    rw [gB_all] at h2
    have h3 : (graphI (ns.map Nd.tn)).length = 1 + ((ns.map Nd.tn).flatMap nodeI).length := by rw [graphI, List.length_cons]; omega
    have := HL.out
    omega
  have HO2 := hide ho2
  have hk21 := hk2.1
  have hk22 := hk2.2
  have HWS1 := hide (HWS.out.below HB1.out)
  clear ho2 hb2 HPG c0' c1' hk2
  go_wp2
  clear c0 c1
  go_loopw [4, 16] (fun v i wr => ∃ (k q : Nat) (A3 : Option Addr) (c3 : Nat), k ≤ m ∧ 1 ≤ q ∧ q ≤ 20000 + 16384 * k ∧ i = .int .i64 k ∧ v = .slice A3 q c3 ∧ Hid (wr.ownsRow w1.heap.size 5 1 (.slice A3 q c3) q ((graphI (ns.map Nd.tn) ++ wsI (ts.take k)).map (Value.int .u8))) ∧ Hid (Below w1.heap.size w1 wr)) (fun _ i _ => m - (intOf i).toNat)
  case atStart => exact ⟨0, k2, A2, c2, Nat.zero_le _, hk21, by omega, rfl, rfl, hide (by simpa [wsI] using HO2.out), HB2⟩
  case round =>
    obtain ⟨k, q, A3, c3, hk, hq1, hq, rfl, rfl, HR, HB⟩ := hrel
    by_cases hlt : k < m
    · obtain ⟨bT, oT, t, eB, ht, t0, t1, hto⟩ := (HWS1.out.below HB.out).at hlt
      obtain ⟨_, _, t', eB', ht', _, _, hto1⟩ := HWS1.out.at hlt
      clear eB'
      rw [ht] at ht'
      cases ht'
      have HTO := hide hto1
      have hz : ∃ z, (wtF 0 ns)[k]? = some z := ⟨(wtF 0 ns)[k]'(by rw [wsFit_len HFIT.out, HM.out]; exact hlt), List.getElem?_eq_getElem _⟩
      obtain ⟨z, hz⟩ := hz
      have hte := tenOk_le (wsFit_at HFIT.out hz ht).1
      have HWT := hide (wsI_take ht)
      have htm1 := hte.1
      have htm2 := hte.2
      have f0 : (0 : Int) ≤ (k : Int) := by omega
      have f1 : (k : Int) < (m : Int) := by omega
      have hs0 := HB.out.size
      subst eB
      obtain ⟨W1, hW1⟩ : ∃ W1, W1 = wr.alloc (.cells #[.slice t.A t.n t.c, .slice t.B t.m t.d] 40) := ⟨_, rfl⟩
      have hb1 : Below wr.heap.size wr W1 := by rw [hW1]; exact below_al6 (Below.refl _ _)
      have HXT : Hid (BoxT W1 wr.heap.size (.slice t.A t.n t.c) (.slice t.B t.m t.d)) := hide (by rw [hW1]; exact BoxT.new wr _ _)
      have HR1 := hide (own_below HR.out hb1)
      have HB3 := hide (below_nx6 HB.out hb1)
      have hpn := putNumbers11_any w1.heap.size A3 t.B q c3 t.m t.d (graphI (ns.map Nd.tn) ++ wsI (ts.take k)) t.l w1 W1 HR1.out hq1 HTO.out.1.2 HTO.out.2.2.2 (by omega) HB3.out.size HB3.out (Nat.le_refl _) (by omega)
      have HPN := hide hpn
      have x0 := HXT.out.c0
      have x1 := HXT.out.c1
      have hW1' := hW1.symm
      clear hW1 hb1 hto1 ht hto hz hte hpn
      go_wp2_with fail
      refine Calls.mono HPN.out ?_
      rintro e w4 ⟨A4, c4, rfl, ho4, hb4⟩
      have HR4 : Hid (w4.ownsRow w1.heap.size 5 1 (.slice A4 (q + 4 * t.m) c4) (q + 4 * t.m) ((graphI (ns.map Nd.tn) ++ wsI (ts.take (k + 1))).map (Value.int .u8))) := hide (by
        rw [HWT.out, ← List.append_assoc]
        exact ho4)
      have HB4 : Hid (Below w1.heap.size w1 w4) := hide (HB3.out.trans hb4)
      clear ho4 hb4 HPN x0 x1 t0 t1 HR HR1 HB HB3
      go_wp2
      go_roundw
      case rel => exact ⟨k + 1, q + 4 * t.m, A4, c4, by omega, by omega, by omega, by go_num, rfl, HR4, HB4⟩
      case measure => simp [intOf] <;> omega
    · obtain rfl : k = m := by omega
      have f1 : ¬ ((k : Int) < (k : Int)) := by omega
      have hr := HR.out
      rw [List.take_of_length_le (by rw [HM.out]; exact Nat.le_refl _)] at hr
      have HRF : Hid (wr.ownsRow w1.heap.size 5 1 (.slice A3 q c3) q ((mdI ns ts).map (Value.int .u8))) := hide hr
      have hcap := own_cap11 hr
      have hls := lies_of_own hr
      have HLS : Hid (Lies wr A3 q ((mdI ns ts).map (Value.int .u8))) := hide hls
      have hby := mdI_bytes (ts := ts) HGB.out
      have hso := of_any A3 q c3 (mdI ns ts) wr hls hby (by omega)
      have HSO := hide hso
      have HBY := hide hby
      clear hr HR hls hso hby
      go_wp2_with fail
      refine Calls.mono HSO.out ?_
      rintro e w3 ⟨rfl, hb3⟩
      have HB3 := hide (below_nx6 HB.out hb3)
      have hs3 := HB3.out.size
      have hlp := HLS.out.below hb3
      have hpf := put4 A3 q c3 ((sumOf (mdI ns ts) : Nat) : Int) ((mdI ns ts).map (Value.int .u8)) w3 hlp (by intro u hu; obtain ⟨a, _, rfl⟩ := List.mem_map.1 hu; rfl) (by omega)
      have HPF := hide hpf
      clear hb3 HSO hlp hpf
      go_wp2_with fail
      refine Calls.mono HPF.out ?_
      rintro e w5 ⟨rfl, ho5, hb5⟩
      clear HPF
      go_wp2
      go_ret2
      have he : (mdI ns ts).map (Value.int .u8) ++ encV [((sumOf (mdI ns ts) : Nat) : Int)] = (mdP ns ts).map (Value.int .u8) := by simp [encV, enc, mdP]
      rw [he] at ho5
      have s0 := HB0.out.size
      have s1 := HB1.out.size
      have hfin := below_nx6 (below_nx6 (below_nx6 HB0.out HB1.out) HB3.out) hb5
      have hown := own_base ho5 (Nat.le_trans (Nat.le_trans s0 s1) hs3)
      exact ⟨_, _, _, rfl, hown, by omega, hfin⟩

end

section
open Go.RowKit
set_option linter.unusedVariables false
set_option linter.unusedSimpArgs false
set_option maxRecDepth 100000

theorem own_cellv {w : World} {base : Nat} {e : TypeId} {g n c k : Nat} {xs : List Value} {u : Value} (h : w.ownsRow base e 1 (.slice (some ⟨g, 0, none⟩) n c) n xs) (hk : k < n) (hu : xs[k]? = some u) :
    w.cell? ⟨g, k, none⟩ = some u ∧ w.frozen? ⟨g, k, none⟩ = false := by
  constructor
  · obtain ⟨b, o, e0, _, hx⟩ := (lies_of_own h).cells (by omega)
    cases e0
    have h1 := hx k hk
    rw [Nat.zero_add] at h1
    exact h1.trans hu
  · obtain ⟨cur, hh, _⟩ := own_heap h
    exact frozen_of_row w g k _ _ hh

set_option maxHeartbeats 16000000 in
theorem getWeights11_any (A B : Option Addr) (n c m d : Nat) (ns : List Nd) (zs : List Int) (w : World) (h : NsIn w A n ns) (hG : gphB ns = true) (hz : Lies w B m (zs.map (Value.int .u8))) (hby : Bytes zs) (hm : m = 4 * szW ns (wtF 0 ns)) (hmd : m ≤ d) (hd : d ≤ 9223372036854775807) :
    Calls Tryz.prog 36 #[.agg #[.slice A n c], .slice B m d] w fun e w' => ∃ (ts : List Wt) (A' : Option Addr) (c' : Nat), e = .returned (.slice A' ts.length c') ∧ WsG w.heap.size w' A' c' ts ∧ wsFit ns (wtF 0 ns) ts = true ∧ wsI ts = zs ∧ Below w.heap.size w w' := by
  obtain ⟨iT, hiT, hzT0, hzT1, hzT2⟩ := info_parts infoT11
  have HIT := hide hiT
  have HZ0 := hide hzT0
  have HZ1 := hide hzT1
  have HZ2 := hide hzT2
  clear hiT hzT0 hzT1 hzT2
  obtain ⟨W0, hW0⟩ : ∃ W0, W0 = w.alloc (.cells #[.slice A n c] 24) := ⟨_, rfl⟩
  have HB0 : Hid (Below w.heap.size w W0) := hide (by rw [hW0]; exact below_al6 (Below.refl _ _))
  have HX : Hid (W0.heap[w.heap.size]? = some (.cells #[.slice A n c] 24 (0, 0))) := hide (by rw [hW0]; exact heap_alloc_new w _)
  have hn32 : n ≤ 32 := by have := gphB_n11 hG; have := h.1; omega
  have HN := hide (h.below HB0.out)
  have HL : Hid (ns.length = n) := hide h.1
  have HG := hide hG
  have HZL : Hid (zs.length = m) := hide (lies_len9 hz)
  have HZ := hide (hz.below HB0.out)
  have HBY := hide hby
  have HM := hide hm
  have HC := hide (weights_any A n c ns W0 HN.out (by omega))
  have c0 : W0.cell? ⟨w.heap.size, 0, none⟩ = some (.slice A n c) := cell_of_row _ _ 0 _ _ (0, 0) HX.out
  have HKX : Hid (∀ v : World, Below W0.heap.size W0 v → v.cell? ⟨w.heap.size, 0, none⟩ = some (.slice A n c)) := hide (fun v hb => cell_of_row _ _ 0 _ _ (0, 0) ((hb.block _ (lt_of_heap HX.out)).trans HX.out))
  have hW0' := hW0.symm
  clear hW0 h hG HX hz hby hm
  go_enter Tryz.func36, Tryz.ntmps36
  go_wp2_with fail
  refine Calls.mono HC.out ?_
  rintro e w1 ⟨A1, k1, ca, rfl, ho1, hb⟩
  have HLW := hide (lies_of_own ho1)
  have HKW : Hid ((wtF 0 ns).length = k1) := hide (lies_len9 (lies_of_own ho1))
  have HB1 := hide hb
  clear ho1 hb HC c0
  have hk1 : k1 ≤ 32 := by have := wtF_len11 ns 0; rw [HKW.out, HL.out] at this; omega
  have hs1 := HB1.out.size
  go_wp2
  go_loopw [1, 5, 16] (fun v1 v5 i wr => ∃ (k L D : Nat) (ts : List Wt) (A2 B2 : Option Addr) (c2 : Nat), k ≤ k1 ∧ L ≤ D ∧ D ≤ 9223372036854775807 ∧ i = .int .i64 k ∧ v1 = .slice B2 L D ∧ v5 = .slice A2 k c2 ∧ Hid (ts.length = k) ∧ Hid (L + 4 * szW ns ((wtF 0 ns).take k) = m) ∧ Hid (Lies w1 B2 L ((zs.drop (4 * szW ns ((wtF 0 ns).take k))).map (Value.int .u8))) ∧ Hid (WsG w1.heap.size wr A2 c2 ts) ∧ Hid (wsFit ns ((wtF 0 ns).take k) ts = true ∧ wsI ts = zs.take (4 * szW ns ((wtF 0 ns).take k))) ∧ Hid (Below w1.heap.size w1 wr)) (fun _ _ i _ => k1 - (intOf i).toNat)
  case atStart => exact ⟨0, m, d, [], none, B, 0, Nat.zero_le _, hmd, hd, rfl, rfl, rfl, hide rfl, hide rfl, hide (HZ.out.below HB1.out), hide ⟨Nat.le_refl _, World.ownsRow_nil _ _ _ _, fun t ht => by simp at ht⟩, hide ⟨rfl, rfl⟩, hide (Below.refl _ _)⟩
  case round =>
    obtain ⟨k, L, D, ts, A2, B2, c2, hk, hLD, hD, rfl, rfl, rfl, HTL, HLM, HLI, HWG, HFT, HB⟩ := hrel
    obtain ⟨WR, hWR⟩ : ∃ W, W = wr := ⟨_, rfl⟩
    subst hWR
    by_cases hlt : k < k1
    · have HBR := hide (below_nx6 HB1.out HB.out)
      obtain ⟨z, hz⟩ : ∃ z, (wtF 0 ns)[k]? = some z := ⟨(wtF 0 ns)[k]'(by rw [HKW.out]; exact hlt), List.getElem?_eq_getElem _⟩
      obtain ⟨u, x, rfl, hxu, hsh, hps⟩ := wtF_two HG.out hz
      have hun : u < n := by rw [← HL.out]; exact (List.getElem?_eq_some_iff.1 hxu).1
      obtain ⟨bA, oA, x2, eA, hx2, _, _, h2, _, _, hxo⟩ := (HN.out.below HBR.out).at hun
      rw [hxu] at hx2
      cases hx2
      obtain ⟨bW, oW, eW, _, hxW⟩ := byte_at (HLW.out.below HB.out) (by omega)
      have hcw := hxW k hlt
      have hgd : (wtF 0 ns).getD k 0 = (u : Int) := by rw [List.getD, hz]; rfl
      rw [hgd] at hcw
      have hg := HKX.out _ HBR.out
      have i0 : (0 : Int) ≤ (k : Int) := by omega
      have i2 : (k : Int) < (k1 : Int) := by omega
      have u0 : (0 : Int) ≤ (u : Int) := by omega
      have u1 : (u : Int) < (n : Int) := by omega
      have hle2 := sizeI_le x.sh
      obtain ⟨q, hq⟩ : ∃ q : Nat, sizeI x.sh = (q : Int) := ⟨(sizeI x.sh).toNat, by omega⟩
      have hst := szW_take (ns := ns) hz
      rw [hsh, hq, Int.toNat_natCast] at hst
      have hq1 : 1 ≤ q := by omega
      have hq2 : q ≤ 4096 := by omega
      obtain ⟨a, ha⟩ : ∃ a, a = szW ns ((wtF 0 ns).take k) := ⟨_, rfl⟩
      have HAQ : Hid (a + q ≤ szW ns (wtF 0 ns)) := hide (by
        have h1 := szW_append ns ((wtF 0 ns).take (k + 1)) ((wtF 0 ns).drop (k + 1))
        rw [List.take_append_drop] at h1
        omega)
      rw [← ha] at hst HLM HLI HFT
      have HST := hide hst
      have HTK : Hid ((wtF 0 ns).take (k + 1) = (wtF 0 ns).take k ++ [(u : Int)]) := hide (by
        obtain ⟨e1, e2⟩ := List.getElem?_eq_some_iff.1 hz
        rw [List.take_succ_eq_append_getElem e1, e2])
      have HSH := hide hsh
      have HQ := hide hq
      have hLq : 4 * q ≤ L := by have h1 := HAQ.out; have h2 := HM.out; have h3 := HLM.out; omega
      have HCL := hide (new_ok x.S x.ns x.cs q x.sh WR hxo.2.1 hq (by omega))
      have HXO : Hid (x.ns ≤ 70368744177664) := hide (by have := hxo.2.2; omega)
      subst eA eW
      clear hz hxu hsh hxW hgd hxo hst hle2 hq hps ha
      go_wp2_with fail
      refine Calls.mono HCL.out ?_
      rintro e w3 ⟨g1, c1, g2, rfl, ho1, ho2, hne, hb3⟩
      have lt1 := ho1.lt g1 rfl
      have lt2 := ho2.lt g2 rfl
      have HO1 := hide ho1
      have HO2 := hide ho2
      have HB3 := hide hb3
      have HNE := hide hne
      have hs3 := hb3.size
      have HBT := hide (BoxT.new w3 (.slice (some ⟨g1, 0, none⟩) x.ns c1) (.slice (some ⟨g2, 0, none⟩) q q))
      have hct0 := HBT.out.c0
      have hct1 := HBT.out.c1
      clear ho1 ho2 hb3 hne HCL h2 hcw hg
      go_wp2
      obtain ⟨bZ, oZ, eB, hbZ, _⟩ := byte_at HLI.out (by omega)
      subst eB
      clear hbZ hct0 hct1
      obtain ⟨zr, hzr⟩ : ∃ zr, zr = zs.drop (4 * a) := ⟨_, rfl⟩
      have HBZ : Hid (Bytes zr) := hide (by rw [hzr]; exact fun y hy => HBY.out y (List.mem_of_mem_drop hy))
      rw [← hzr] at HLI
      have HZR := hide hzr
      have HZLn : Hid (zr.length = L) := hide (lies_len9 HLI.out)
      clear hzr
      go_loopw [33] (fun i wv => ∃ j : Nat, j ≤ q ∧ i = .int .i64 j ∧ Hid (BoxT wv w3.heap.size (.slice (some ⟨g1, 0, none⟩) x.ns c1) (.slice (some ⟨g2, 0, none⟩) q q)) ∧ Hid (wv.ownsRow WR.heap.size 3 1 (.slice (some ⟨g1, 0, none⟩) x.ns c1) x.ns (x.sh.map (Value.int .i64))) ∧ Hid (wv.ownsRow WR.heap.size 21 1 (.slice (some ⟨g2, 0, none⟩) q q) q (part zr q j)) ∧ Hid (Below WR.heap.size WR wv)) (fun i _ => q - (intOf i).toNat)
      case atStart => exact ⟨0, Nat.zero_le _, rfl, HBT, hide (HO1.out.alloc _), hide (by rw [part_none]; exact HO2.out.alloc _), hide (HB3.out.alloc hs3 _)⟩
      case round =>
        obtain ⟨j, hj, rfl, HT, HP1, HP2, HW⟩ := hrel
        by_cases hlt2 : j < q
        · have j0 : (0 : Int) ≤ (j : Int) := by omega
          have j1 : (j : Int) < (q : Int) := by omega
          have j4 : (4 : Int) * (j : Int) ≤ (L : Int) := by omega
          have jc : ¬ D = 4 * j := by omega
          have hls := lies_slice (HLI.out.below (below_nx6 HB.out HW.out)) (i := 4 * j) (j := L) (by omega) (Nat.le_refl _)
          have hwd : IntKind.i32.wrap (head4 ((zr.drop (4 * j)).take (L - 4 * j))) = wd zr j := head_wd _ _ _ (by omega)
          have hbb : Bytes ((zr.drop (4 * j)).take (L - 4 * j)) := fun y hy => HBZ.out y (List.mem_of_mem_drop (List.mem_of_mem_take hy))
          obtain ⟨bj, hbj⟩ : ∃ bj, bj = (zr.drop (4 * j)).take (L - 4 * j) := ⟨_, rfl⟩
          rw [← hbj] at hls hwd hbb
          have HGF := hide (get4_long (some ⟨bZ, oZ + 4 * j, none⟩) (L - 4 * j) (D - 4 * j) bj wr (by omega) hls hbb)
          have HWD := hide hwd
          clear hbj hls hwd hbb
          go_wp2_with fail
          refine Calls.mono HGF.out ?_
          rintro e w5 ⟨rfl, dr, hw5⟩
          have hb5 : Below wr.heap.size wr w5 := by rw [hw5]; exact below_drewN (Below.refl _ _) dr
          have HT5 := hide (HT.out.kept hb5)
          have HP15 := hide (own_below HP1.out hb5)
          have HP25 := hide (own_below HP2.out hb5)
          have HW5 := hide (HW.out.trans (hb5.mono HW.out.size))
          have ht0 := HT5.out.c0
          have ht1 := HT5.out.c1
          obtain ⟨hcx, hfx⟩ := own_cellv HP25.out hlt2 (part_at zr q j j hlt2)
          have hwr2 := (IntWalk.i32_left (head4 bj)).symm.trans HWD.out
          clear hw5 hb5 HGF HT HP1 HP2 HW
          go_wp2
          have hne2 : w3.heap.size ≠ g2 := by omega
          have hS1 : BoxT (w5.setCell ⟨g2, j, none⟩ (.int .i32 (wd zr j))) w3.heap.size (.slice (some ⟨g1, 0, none⟩) x.ns c1) (.slice (some ⟨g2, 0, none⟩) q q) := (Below.heap_setCell w5 _ _ _ hne2).trans HT5.out
          have hS2 := own_setCell' (a := ⟨g2, j, none⟩) HP15.out HNE.out (.int .i32 (wd zr j))
          have hS3 := own_set9 (v := .int .i32 (wd zr j)) HP25.out hlt2
          rw [part_set] at hS3
          have hS4 : Below WR.heap.size WR (w5.setCell ⟨g2, j, none⟩ (.int .i32 (wd zr j))) := HW5.out.setCell lt2.1 _
          go_roundw
          case rel => exact ⟨j + 1, by omega, by go_num, hide hS1, hide hS2, hide hS3, hide hS4⟩
          case measure => simp [intOf] <;> omega
        · obtain rfl : j = q := by omega
          have f1 : ¬ ((j : Int) < (j : Int)) := by omega
          have ht0 := HT.out.c0
          have ht1 := HT.out.c1
          have j0 : (0 : Int) ≤ (j : Int) := by omega
          have j4 : (4 : Int) * (j : Int) ≤ (L : Int) := by omega
          have hbal : Below wr.heap.size wr (wr.alloc (.cells #[.slice (some ⟨g1, 0, none⟩) x.ns c1, .slice (some ⟨g2, 0, none⟩) j j] 40)) := below_al6 (Below.refl _ _)
          have hG2 := (HWG.out.below HW.out).below hbal
          have hro := hG2.ro
          rw [HTL.out] at hro
          have HG2 := hide hG2
          have HRO := hide hro
          have hcs : ∀ (k' : Nat) (u' : Value), [Value.slice (some ⟨g1, 0, none⟩) x.ns c1, Value.slice (some ⟨g2, 0, none⟩) j j][k']? = some u' → ((wr.alloc (.cells #[.slice (some ⟨g1, 0, none⟩) x.ns c1, .slice (some ⟨g2, 0, none⟩) j j] 40))).cell? (Addr.add ⟨wr.heap.size, 0, none⟩ k') = some u' := fun k' u' hu => cells_new wr [Value.slice (some ⟨g1, 0, none⟩) x.ns c1, Value.slice (some ⟨g2, 0, none⟩) j j] 40 k' u' hu
          have HCS := hide hcs
          have hown2 := HP2.out
          rw [part_all] at hown2
          have hsW := HB.out.size
          have htw : OwnW wr w1.heap.size ⟨some ⟨g1, 0, none⟩, x.ns, c1, some ⟨g2, 0, none⟩, j, j, x.sh, dec zr j⟩ := ⟨own_base HP1.out hsW, own_base hown2 hsW, ⟨own_cap11 HP1.out, Nat.le_refl _⟩, ⟨HXO.out, (show j ≤ 70368744177664 by omega)⟩, dec_words zr j⟩
          have HTW := hide (htw.below hbal)
          have HFT2 : Hid (wsFit ns ((wtF 0 ns).take (k + 1)) (ts ++ [⟨some ⟨g1, 0, none⟩, x.ns, c1, some ⟨g2, 0, none⟩, j, j, x.sh, dec zr j⟩]) = true ∧ wsI (ts ++ [⟨some ⟨g1, 0, none⟩, x.ns, c1, some ⟨g2, 0, none⟩, j, j, x.sh, dec zr j⟩]) = zs.take (4 * szW ns ((wtF 0 ns).take (k + 1)))) := hide (by
            obtain ⟨f1, f2⟩ := HFT.out
            constructor
            · rw [HTK.out]
              have hq9 := HQ.out
              have hok : tenOk x.sh j = true := tenOk_iff.2 ⟨by omega, by omega⟩
              exact wsFit_snoc f1 hok HSH.out.symm
            · rw [HST.out, take_four (by have h1 := HZL.out; have h2 := HLM.out; omega) HBY.out, wsI_append, f2, HZR.out]
              simp [wsI])
          have HLM2 : Hid (L - 4 * j + 4 * szW ns ((wtF 0 ns).take (k + 1)) = m) := hide (by rw [HST.out]; have := HLM.out; omega)
          have hdr := HLI.out.drop (k := 4 * j) (cap := D) hLq hLD
          rw [← List.map_drop, HZR.out, List.drop_drop, show 4 * a + 4 * j = 4 * (a + j) by omega, ← HST.out] at hdr
          have HBW := hide (HB.out.trans (HW.out.mono hsW))
          clear hbal hG2 hro hcs hown2 htw HP1 HP2 HFT HLM HTK HSH HST HXO HLI
          by_cases hDj : D = 4 * j
          · rw [if_pos hDj] at hdr
            have hL0 : L - 4 * j = 0 := by omega
            go_wp2_with (at_builtin; refine wpList_append_srcN rfl (.tmp 57) (.tmp 59) 25 rfl 40 iT _ 2 48 Tryz.underlying25 HIT.out HZ0.out HZ1.out HZ2.out rfl (by decide) w1.heap.size (.slice A2 k c2) k (cellsW ts) rfl HRO.out HG2.out.big (some ⟨wr.heap.size, 0, none⟩) 1 1 [Value.slice (some ⟨g1, 0, none⟩) x.ns c1, Value.slice (some ⟨g2, 0, none⟩) j j] rfl rfl (fun _ => ⟨_, rfl, HCS.out⟩) (fun h => by cases h) (fun u hu => by simp only [List.mem_cons, List.not_mem_nil, or_false] at hu; rcases hu with rfl | rfl <;> rfl) (by omega) (by unfold maxLen; omega) ?_)
            intro A4 c4 w4 ho4 hg4 _
            have hp4 := HG2.out.push HTW.out (by rw [HTL.out]; exact ho4) (by rw [HTL.out]; exact hg4)
            have HP4 := hide hp4
            have hbg : Below w1.heap.size (wr.alloc (.cells #[.slice (some ⟨g1, 0, none⟩) x.ns c1, .slice (some ⟨g2, 0, none⟩) j j] 40)) w4 := (Below.refl w1.heap.size _).grown hg4 HG2.out.big (fun g e => (HRO.out.lt g e).1)
            have HB4 : Hid (Below w1.heap.size w1 w4) := hide ((HBW.out.alloc HBW.out.size _).trans hbg)
            have HLI4 := hide hdr
            clear ho4 hg4 hp4 hbg HG2 HRO HCS HTW
            go_wp2
            go_roundw
            case rel => exact ⟨k + 1, L - 4 * j, D - 4 * j, ts ++ [⟨some ⟨g1, 0, none⟩, x.ns, c1, some ⟨g2, 0, none⟩, j, j, x.sh, dec zr j⟩], A4, (some ⟨bZ, oZ, none⟩), c4, by omega, by omega, by omega, by go_num, (by rw [hDj, Nat.sub_self, hL0]), rfl, hide (by rw [List.length_append, HTL.out]; rfl), HLM2, HLI4, HP4, HFT2, HB4⟩
            case measure => simp [intOf] <;> omega
          · rw [if_neg hDj] at hdr
            simp only [Option.map_some, Addr.add] at hdr
            rw [if_neg (by omega)] at hdr
            go_wp2_with (at_builtin; refine wpList_append_srcN rfl (.tmp 57) (.tmp 59) 25 rfl 40 iT _ 2 48 Tryz.underlying25 HIT.out HZ0.out HZ1.out HZ2.out rfl (by decide) w1.heap.size (.slice A2 k c2) k (cellsW ts) rfl HRO.out HG2.out.big (some ⟨wr.heap.size, 0, none⟩) 1 1 [Value.slice (some ⟨g1, 0, none⟩) x.ns c1, Value.slice (some ⟨g2, 0, none⟩) j j] rfl rfl (fun _ => ⟨_, rfl, HCS.out⟩) (fun h => by cases h) (fun u hu => by simp only [List.mem_cons, List.not_mem_nil, or_false] at hu; rcases hu with rfl | rfl <;> rfl) (by omega) (by unfold maxLen; omega) ?_)
            intro A4 c4 w4 ho4 hg4 _
            have hp4 := HG2.out.push HTW.out (by rw [HTL.out]; exact ho4) (by rw [HTL.out]; exact hg4)
            have HP4 := hide hp4
            have hbg : Below w1.heap.size (wr.alloc (.cells #[.slice (some ⟨g1, 0, none⟩) x.ns c1, .slice (some ⟨g2, 0, none⟩) j j] 40)) w4 := (Below.refl w1.heap.size _).grown hg4 HG2.out.big (fun g e => (HRO.out.lt g e).1)
            have HB4 : Hid (Below w1.heap.size w1 w4) := hide ((HBW.out.alloc HBW.out.size _).trans hbg)
            have HLI4 := hide hdr
            clear ho4 hg4 hp4 hbg HG2 HRO HCS HTW
            go_wp2
            go_roundw
            case rel => exact ⟨k + 1, L - 4 * j, D - 4 * j, ts ++ [⟨some ⟨g1, 0, none⟩, x.ns, c1, some ⟨g2, 0, none⟩, j, j, x.sh, dec zr j⟩], A4, (some ⟨bZ, oZ + 4 * j, none⟩), c4, by omega, by omega, by omega, by go_num, rfl, rfl, hide (by rw [List.length_append, HTL.out]; rfl), HLM2, HLI4, HP4, HFT2, HB4⟩
            case measure => simp [intOf] <;> omega
    · obtain rfl : k = k1 := by omega
      go_wp2
      go_ret
      have hall : (wtF 0 ns).take k = wtF 0 ns := List.take_of_length_le (by rw [HKW.out]; exact Nat.le_refl _)
      obtain ⟨f1, f2⟩ := HFT.out
      have hl := HLM.out
      rw [hall] at f1 f2
      rw [← HM.out, List.take_of_length_le (by rw [HZL.out]; exact Nat.le_refl _)] at f2
      have hw := HWG.out.base (Nat.le_trans HB0.out.size hs1)
      refine ⟨ts, A2, c2, by rw [HTL.out]; rfl, hw, f1, f2, below_nx6 (below_nx6 HB0.out HB1.out) HB.out⟩

end

section
open Go.RowKit
set_option linter.unusedVariables false
set_option linter.unusedSimpArgs false
set_option maxRecDepth 100000

/-- A string of these bytes. -/
def strV (x : Wd) : Value := .string ⟨x.toArray⟩

theorem strV_inj {x y : Wd} (h : strV x = strV y) : x = y := by
  unfold strV at h
  injection h with h
  injection h with h
  simpa using h

/-- How giving up ends. -/
abbrev upX : Ending := .panicked [{ v := .iface 31 (.int .i64 4), recovered := false }]

/-- All blocks but r stay as they were. -/
structure But (r : Nat) (w w' : World) : Prop where
  os : w'.os = w.os
  tape : w'.tape = w.tape
  output : w'.output = w.output
  size : w.heap.size ≤ w'.heap.size
  block : ∀ k, k < w.heap.size → k ≠ r → w'.heap[k]? = w.heap[k]?

theorem But.refl (r : Nat) (w : World) : But r w w := ⟨rfl, rfl, rfl, Nat.le_refl _, fun _ _ _ => rfl⟩

theorem But.trans {r : Nat} {a b c : World} (h : But r a b) (k : But r b c) : But r a c :=
  ⟨k.os.trans h.os, k.tape.trans h.tape, k.output.trans h.output, Nat.le_trans h.size k.size, fun i hi hn => (k.block i (Nat.lt_of_lt_of_le hi h.size) hn).trans (h.block i hi hn)⟩

theorem But.below {r : Nat} {a b c : World} (h : But r a b) (k : Below b.heap.size b c) : But r a c :=
  h.trans ⟨k.os, k.tape, k.output, k.size, fun i hi _ => k.block i hi⟩

theorem Below.but {r : Nat} {a b : World} (k : Below a.heap.size a b) : But r a b := (But.refl r a).below k

theorem But.to {r B : Nat} {a b : World} (h : But r a b) (hB : B ≤ r) (hs : B ≤ a.heap.size) : Below B a b :=
  ⟨h.os, h.tape, h.output, h.size, fun k hk => h.block k (by omega) (by omega)⟩

/-- A reader in a block, and the words that it has left. -/
def RdBox (w : World) (r : Nat) (A : Option Addr) (n c : Nat) : Prop := w.heap[r]? = some (.cells #[.slice A n c] 145 (0, 0))

def RdAt (w : World) (r : Nat) (ws : List Wd) : Prop := ∃ A n c, RdBox w r A n c ∧ Lies w A n (ws.map strV) ∧ n ≤ c ∧ c ≤ 281474976710656 ∧ ws.length = n ∧ (1 ≤ n → ∀ a, A = some a → a.block < r)

theorem RdBox.below {w w' : World} {r : Nat} {A : Option Addr} {n c : Nat} (h : RdBox w r A n c) (hb : Below w.heap.size w w') : RdBox w' r A n c := (hb.block r (lt_of_heap h)).trans h

theorem RdAt.below {w w' : World} {r : Nat} {ws : List Wd} (h : RdAt w r ws) (hb : Below w.heap.size w w') : RdAt w' r ws := by
  obtain ⟨A, n, c, h1, h2, h3⟩ := h
  exact ⟨A, n, c, h1.below hb, h2.below hb, h3⟩

theorem RdAt.lt {w : World} {r : Nat} {ws : List Wd} (h : RdAt w r ws) : r < w.heap.size := by
  obtain ⟨A, n, c, h1, _⟩ := h
  exact lt_of_heap h1

theorem RdAt.have {w : World} {r : Nat} {x : Wd} {ws : List Wd} (h : RdAt w r (x :: ws)) : ∃ b o c, RdBox w r (some ⟨b, o, none⟩) (ws.length + 1) c ∧ b < r ∧ b < w.heap.size ∧ w.cell? ⟨b, o, none⟩ = some (strV x) ∧ Lies w (some ⟨b, o, none⟩) (ws.length + 1) ((x :: ws).map strV) ∧ ws.length + 1 ≤ c ∧ c ≤ 281474976710656 := by
  obtain ⟨A, n, c, h1, h2, h3, h4, h5, h6⟩ := h
  rw [List.length_cons] at h5
  subst h5
  obtain ⟨b, o, e, hlt, hc⟩ := h2.cells (by omega)
  subst e
  have := hc 0 (by omega)
  exact ⟨b, o, c, h1, h6 (by omega) _ rfl, hlt, by first | (simp; done) | simpa using this, h2, h3, h4⟩

theorem RdAt.empty {w : World} {r : Nat} (h : RdAt w r []) : ∃ A c, RdBox w r A 0 c := by
  obtain ⟨A, n, c, h1, h2, h3, h4, h5, h6⟩ := h
  rw [List.length_nil] at h5
  subst h5
  exact ⟨A, c, h1⟩

theorem RdAt.next {w : World} {r b o c : Nat} {x : Wd} {ws : List Wd} (h : RdBox w r (some ⟨b, o, none⟩) (ws.length + 1) c) (hb : b < r) (hl : Lies w (some ⟨b, o, none⟩) (ws.length + 1) ((x :: ws).map strV)) (hc : ws.length + 1 ≤ c) (hc2 : c ≤ 281474976710656) :
    RdAt (w.setCell ⟨r, 0, none⟩ (.slice (if c = 1 then some ⟨b, o, none⟩ else some ⟨b, o + 1, none⟩) ws.length (c - 1))) r ws ∧ But r w (w.setCell ⟨r, 0, none⟩ (.slice (if c = 1 then some ⟨b, o, none⟩ else some ⟨b, o + 1, none⟩) ws.length (c - 1))) := by
  have hbut : ∀ v, But r w (w.setCell ⟨r, 0, none⟩ v) := fun v => ⟨rfl, rfl, rfl, by simp [World.setCell], fun k hk hn => Below.heap_setCell w _ v k hn⟩
  refine ⟨⟨(if c = 1 then some ⟨b, o, none⟩ else some ⟨b, o + 1, none⟩), ws.length, c - 1, ?_, ?_, by omega, by omega, rfl, ?_⟩, hbut _⟩
  · have := heap_setCell_same w r 0 _ _ (Value.slice (if c = 1 then some ⟨b, o, none⟩ else some ⟨b, o + 1, none⟩) ws.length (c - 1)) h
    simpa [RdBox] using this
  · have h2 := hl.drop (k := 1) (cap := c) (by omega) hc
    simp only [List.map_cons, List.drop_succ_cons, List.drop_zero, Nat.add_sub_cancel] at h2
    by_cases hn : ws.length = 0
    · have e : ws = [] := List.length_eq_zero_iff.1 hn
      subst e
      exact Lies.nothing
    · refine ⟨by simp, fun h0 => ?_⟩
      obtain ⟨b', o', e, hlt, hcs⟩ := h2.cells h0
      have hc1 : ¬ c = 1 := by omega
      simp only [if_neg hc1, Option.map_some, Addr.add] at e ⊢
      injection e with e
      injection e with e1 e2
      subst e1 e2
      refine ⟨b, o + 1, rfl, Nat.lt_of_lt_of_le hlt (hbut _).size, fun j hj => ?_⟩
      rw [← hcs j hj]
      exact World.cell?_of_block ((hbut _).block b hlt (by omega))
  · intro hn a ha
    split at ha <;> (injection ha with ha; subst ha; exact hb)

theorem RdBox.cell {w : World} {r : Nat} {A : Option Addr} {n c : Nat} (h : RdBox w r A n c) : w.cell? ⟨r, 0, none⟩ = some (.slice A n c) ∧ w.frozen? ⟨r, 0, none⟩ = false := ⟨cell_of_row _ _ 0 _ _ (0, 0) h, frozen_of_row w r 0 _ _ h⟩

theorem RdAt.up {w w' : World} {r : Nat} {ws : List Wd} (h : RdAt w r ws) (hb : Below (r + 1) w w') : RdAt w' r ws := by
  obtain ⟨A, n, c, h1, h2, h3, h4, h5, h6⟩ := h
  refine ⟨A, n, c, (hb.block r (by omega)).trans h1, ⟨h2.len, fun hn => ?_⟩, h3, h4, h5, h6⟩
  obtain ⟨b, o, e, hlt, hcs⟩ := h2.cells hn
  have := h6 hn _ e
  simp only at this
  exact ⟨b, o, e, Nat.lt_of_lt_of_le hlt hb.size, fun j hj => (World.cell?_of_block (hb.block b (by omega))).trans (hcs j hj)⟩

theorem But.on {r : Nat} {a b c : World} (h : But r a b) (hb : Below a.heap.size b c) : But r a c :=
  ⟨hb.os.trans h.os, hb.tape.trans h.tape, hb.output.trans h.output, Nat.le_trans h.size hb.size, fun k hk hn => (hb.block k hk).trans (h.block k hk hn)⟩

theorem RdAt.moved {w w' : World} {r base : Nat} {e : TypeId} {v v' : Value} {n : Nat} {xs : List Value} {ws : List Wd} (h : RdAt w r ws) (ho : w.ownsRow base e 1 v n xs) (hr : r < base) (hm : Moved w w' v v') : RdAt w' r ws :=
  h.up (below_moved (Below.refl _ _) h.lt ho hm hr)

theorem But.moved {a w w' : World} {r base : Nat} {e : TypeId} {v v' : Value} {n : Nat} {xs : List Value} (h : But r a w) (ho : w.ownsRow base e 1 v n xs) (hm : Moved w w' v v') (hb : a.heap.size ≤ base := by exact Nat.le_refl _) : But r a w' :=
  h.on (below_moved (Below.refl _ _) h.size ho hm hb)

theorem up_any (w : World) : Calls Tryz.prog 78 #[] w fun e w' => e = upX ∧ w' = w := by
  go_enter Tryz.func78, Tryz.ntmps78
  go_wp2
  exact ⟨rfl, rfl, rfl⟩

theorem next_none (r : Nat) (w : World) (h : RdAt w r []) : Calls Tryz.prog 132 #[.pointer (some ⟨r, 0, none⟩)] w fun e w' => e = upX ∧ w' = w := by
  obtain ⟨A, c, hb⟩ := h.empty
  obtain ⟨hc, hz⟩ := hb.cell
  clear hb h
  go_enter Tryz.func132, Tryz.ntmps132
  go_wp2_with (go_at_call 78; have c := up_any w; unfold upX at c; refine c.mono ?_; rintro e w' ⟨rfl, rfl⟩)
  exact ⟨rfl, rfl, rfl⟩

set_option maxHeartbeats 1000000 in
theorem next_some (r : Nat) (x : Wd) (ws : List Wd) (w : World) (h : RdAt w r (x :: ws)) : Calls Tryz.prog 132 #[.pointer (some ⟨r, 0, none⟩)] w fun e w' => e = .returned (strV x) ∧ RdAt w' r ws ∧ But r w w' := by
  obtain ⟨b, o, c, hb, hbr, hlt, hx, hl, hc1, hc2⟩ := h.have
  have hn := RdAt.next hb hbr hl hc1 hc2
  obtain ⟨hc, hz⟩ := hb.cell
  have hpos : ¬ ((ws.length : Int) + 1 = 0) := by omega
  have HN : Hid _ := hide hn
  clear hb h hn hl
  unfold strV at hx ⊢
  go_enter Tryz.func132, Tryz.ntmps132
  by_cases hone : c = 1
  · subst hone
    have h0 : ws.length = 0 := by omega
    go_wp2
    go_ret
    refine ⟨rfl, ?_⟩
    have := HN.out
    rw [h0] at this
    simpa [h0] using this
  · go_wp2
    go_ret
    refine ⟨rfl, ?_⟩
    have := HN.out
    simpa [hone] using this

theorem end_none (r : Nat) (w : World) (h : RdAt w r []) : Calls Tryz.prog 117 #[.pointer (some ⟨r, 0, none⟩)] w fun e w' => e = .returned (.tuple #[]) ∧ w' = w := by
  obtain ⟨A, c, hb⟩ := h.empty
  obtain ⟨hc, hz⟩ := hb.cell
  clear hb h
  go_enter Tryz.func117, Tryz.ntmps117
  go_wp2
  go_end0
  exact ⟨rfl, rfl⟩

theorem end_some (r : Nat) (x : Wd) (ws : List Wd) (w : World) (h : RdAt w r (x :: ws)) : Calls Tryz.prog 117 #[.pointer (some ⟨r, 0, none⟩)] w fun e w' => e = upX ∧ w' = w := by
  obtain ⟨b, o, c, hb, hbr, hlt, hx, hl, hc1, hc2⟩ := h.have
  obtain ⟨hc, hz⟩ := hb.cell
  have hpos : ((0 : Int) < (ws.length : Int) + 1) := by omega
  clear hb h hl
  go_enter Tryz.func117, Tryz.ntmps117
  go_wp2_with (go_at_call 78; have c := up_any w; unfold upX at c; refine c.mono ?_; rintro e w' ⟨rfl, rfl⟩)
  exact ⟨rfl, rfl, rfl⟩

/-- What a word comes to: it stands there and is taken; else it gives up. -/
def WordE (r : Nat) (p : Wd) (ws : List Wd) (w : World) (e : Ending) (w' : World) : Prop :=
  (∃ t, ws = p :: t ∧ e = .returned (.tuple #[]) ∧ RdAt w' r t ∧ But r w w') ∨ (ws.head? ≠ some p ∧ e = upX ∧ But r w w')

set_option maxHeartbeats 1000000 in
theorem word_any (r : Nat) (p : Wd) (ws : List Wd) (w : World) (h : RdAt w r ws) : Calls Tryz.prog 116 #[.pointer (some ⟨r, 0, none⟩), strV p] w (WordE r p ws w) := by
  cases ws with
  | nil =>
    have c := next_none r w h
    unfold upX at c
    unfold strV
    go_enter Tryz.func116, Tryz.ntmps116
    go_wp2_with (go_at_call 132; refine c.mono ?_; rintro e w' ⟨rfl, rfl⟩)
    exact ⟨rfl, .inr ⟨by simp, rfl, But.refl _ _⟩⟩
  | cons x t =>
    have c := next_some r x t w h
    unfold strV at c ⊢
    by_cases hx : x = p
    · subst hx
      have hcmp : (!x == x) = false := by simp
      go_enter Tryz.func116, Tryz.ntmps116
      go_wp2_with (go_at_call 132; refine c.mono ?_; rintro e w' ⟨rfl, hr, hb⟩)
      trace_state
      go_end0
      exact .inl ⟨t, rfl, rfl, hr, hb⟩
    · have hcmp : (!x == p) = true := by simpa using hx
      go_enter Tryz.func116, Tryz.ntmps116
      go_wp2_with (first | (go_at_call 132; refine c.mono ?_; rintro e w' ⟨rfl, hr, hb⟩) | (go_at_call 78; have c2 := up_any w'; unfold upX at c2; refine c2.mono ?_; rintro e2 w2 ⟨rfl, rfl⟩))
      exact ⟨rfl, .inr ⟨by simpa using hx, rfl, hb⟩⟩

end

end Go.Proofs.YtohndckbhjakfaaGreatDoor

