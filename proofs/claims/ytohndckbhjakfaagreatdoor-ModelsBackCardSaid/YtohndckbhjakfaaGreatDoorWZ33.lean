/- Merged: Mo3, Mo5, Mo4, Mo7. -/
import Derived.Test.YtohndckbhjakfaaGreatDoorWZ32
import Derived.Test.YtohndckbhjakfaaGreatDoorWZ01
import Derived.Test.YtohndckbhjakfaaGreatDoorWZ29
import Derived.Test.YtohndckbhjakfaaGreatDoorWZ02
namespace Go.Proofs.YtohndckbhjakfaaGreatDoor

section
open Go.RowKit
set_option linter.unusedVariables false
set_option linter.unusedSimpArgs false
set_option maxRecDepth 100000

theorem lit_lies11 (w : World) (k : IntKind) (zs : List Int) (t : TypeId) : Lies (w.alloc (.cells (zs.map (Value.int k)).toArray t)) (some ⟨w.heap.size, 0, none⟩) zs.length (zs.map (Value.int k)) := by
  have h := lies_new w (zs.map (Value.int k)) t
  rwa [List.length_map] at h

theorem nodeI_len {x : Tn} (h : ByteT x) : (nodeI x).length ≤ 515 ∧ (nodeI x).length = 1 + (1 + x.xs.length) + (1 + x.sh.length) + 2 := by
  have e : (nodeI x).length = 1 + (1 + x.xs.length) + (1 + x.sh.length) + 2 := by simp [nodeI, listI]; omega
  have h1 := h.2.1.1
  have h2 := h.2.2.1.1
  exact ⟨by omega, e⟩

/-- The bytes of the first k nodes. -/
def gB (ns : List Nd) (k : Nat) : List Int := (ns.length : Int) :: (ns.take k).flatMap (fun x => nodeI x.tn)

theorem gB_succ {ns : List Nd} {k : Nat} {x : Nd} (h : ns[k]? = some x) : gB ns (k + 1) = gB ns k ++ nodeI x.tn := by
  have e : ns.take (k + 1) = ns.take k ++ [x] := by
    obtain ⟨h1, h2⟩ := List.getElem?_eq_some_iff.1 h
    rw [List.take_succ_eq_append_getElem h1, h2]
  rw [gB, gB, e, List.flatMap_append]
  simp

theorem gB_all (ns : List Nd) : gB ns ns.length = graphI (ns.map Nd.tn) := by
  rw [gB, graphI, List.take_length, List.length_map, List.flatMap_map]

theorem gB_len {ns : List Nd} (h : ∀ x ∈ ns, ByteT x.tn) : ∀ k, k ≤ ns.length → (gB ns k).length ≤ 1 + k * 515
  | 0, _ => by simp [gB]
  | k + 1, hk => by
    have ih := gB_len h k (by omega)
    obtain ⟨x, hx⟩ : ∃ x, ns[k]? = some x := ⟨ns[k], List.getElem?_eq_getElem (by omega)⟩
    have h1 := (nodeI_len (h x (List.mem_of_getElem? hx))).1
    rw [gB_succ hx, List.length_append]
    omega

set_option maxHeartbeats 8000000 in
theorem putGraph11_any (A : Option Addr) (n c : Nat) (ns : List Nd) (w : World) (h : NsIn w A n ns) (hn : n ≤ 32) (hB : ∀ x ∈ ns, ByteT x.tn) :
    Calls Tryz.prog 27 #[.agg #[.slice A n c]] w fun e w' => ∃ (A' : Option Addr) (k c' : Nat), e = .returned (.slice A' k c') ∧ w'.ownsRow w.heap.size 5 1 (.slice A' k c') k ((graphI (ns.map Nd.tn)).map (Value.int .u8)) ∧ Below w.heap.size w w' := by
  obtain ⟨i0, hi, hz0, hz1, hz2⟩ := info_parts Tryz.infoB
  have HI := hide hi
  have HZ0 := hide hz0
  have HZ1 := hide hz1
  have HZ2 := hide hz2
  obtain ⟨W0, hW0⟩ : ∃ W0, W0 = w.alloc (.cells #[.slice A n c] 24) := ⟨_, rfl⟩
  have HB0 : Hid (Below w.heap.size w W0) := hide (by rw [hW0]; exact below_al6 (Below.refl _ _))
  have HX : Hid (BoxG W0 w.heap.size (.slice A n c)) := hide (by rw [hW0]; exact BoxG.new w _)
  have HL : Hid (ns.length = n) := hide h.1
  have HN := hide (h.below HB0.out)
  have HBT := hide hB
  have en : IntKind.u8.wrap (n : Int) = (n : Int) := u8_small ⟨by omega, by omega⟩
  obtain ⟨V, hV⟩ : ∃ V, V = W0.alloc (.cells #[.int .u8 (n : Int)] 5) := ⟨_, rfl⟩
  have HBV : Hid (Below W0.heap.size W0 V) := hide (by rw [hV]; exact below_al6 (Below.refl _ _))
  have HRV : Hid (V.ownsRow W0.heap.size 5 1 (.slice (some ⟨W0.heap.size, 0, none⟩) 1 1) 1 ((gB ns 0).map (Value.int .u8))) := hide (by
    have e : gB ns 0 = [(n : Int)] := by rw [gB, HL.out]; rfl
    rw [e]
    refine own_of_block (Nat.le_refl _) (cur := [.int .u8 (n : Int)]) (by rw [hV]; exact heap_alloc_new W0 _) rfl (Nat.le_refl _) (by unfold maxLen; omega) rfl)
  have c0 := HX.out.c0
  have c1 := (HX.out.kept HBV.out).c0
  have hW0' := hW0.symm
  have hV' := hV.symm
  clear hi hz0 hz1 hz2 hW0 h hB hV
  go_enter Tryz.func27, Tryz.ntmps27
  go_wp2
  clear c0 c1 hV' hW0'
  have HBW : Hid (Below w.heap.size w V) := hide (HB0.out.trans (HBV.out.mono HB0.out.size))
  go_loopw [3, 14] (fun v i wr => ∃ (k q : Nat) (A2 : Option Addr) (c2 : Nat), k ≤ n ∧ i = .int .i64 k ∧ v = .slice A2 q c2 ∧ Hid (wr.ownsRow W0.heap.size 5 1 (.slice A2 q c2) q ((gB ns k).map (Value.int .u8))) ∧ Hid (Below W0.heap.size W0 wr)) (fun _ i _ => n - (intOf i).toNat)
  case atStart => exact ⟨0, 1, some ⟨W0.heap.size, 0, none⟩, 1, Nat.zero_le _, rfl, rfl, HRV, HBV⟩
  case round =>
    obtain ⟨k, q, A2, c2, hk, rfl, rfl, HR, HB⟩ := hrel
    have hq : q ≤ 20000 := by
      have h1 := HR.out.1
      have h2 := gB_len HBT.out k (by rw [HL.out]; exact hk)
      rw [List.length_map] at h1
      omega
    by_cases hlt : k < n
    · obtain ⟨b, o, x, rfl, hxk, h0, h1, h2, h3, h4, hxo⟩ := (HN.out.below HB.out).at hlt
      have hbx := HBT.out x (List.mem_of_getElem? hxk)
      have HBX := hide hbx
      have HSU := hide (gB_succ hxk)
      have HXO : Hid (x.Ok W0) := hide (by
        obtain ⟨_, _, x2, _, hx2, _, _, _, _, _, ho2⟩ := HN.out.at hlt
        rw [hxk] at hx2
        cases hx2
        exact ho2)
      have f0 : (0 : Int) ≤ (k : Int) := by omega
      have f1 : (k : Int) < (n : Int) := by omega
      have hki := hxo.2.2.2.2.2.2.1
      have hkt : ((x.tn.kd : Nat) : Int) = x.kd := by show ((x.kd.toNat : Nat) : Int) = x.kd; omega
      have HKT := hide hkt
      have hni : x.xs.length = x.ni := lies_len9 hxo.1
      have hns : x.sh.length = x.ns := lies_len9 hxo.2.1
      have HNI := hide hni
      have HNS := hide hns
      have hI1 : x.ni < 256 := by rw [← hni]; exact hbx.2.1.1
      have hI2 : x.ns < 256 := by rw [← hns]; exact hbx.2.2.1.1
      have eN := u8_small hbx.2.2.2.1
      have eP := u8_small hbx.2.2.2.2
      have eN' : IntKind.u8.wrap x.N = x.N := eN
      have eP' : IntKind.u8.wrap x.P = x.P := eP
      obtain ⟨W1, hW1⟩ : ∃ W1, W1 = wr.alloc (.cells #[.int .u8 x.kd, .slice x.I x.ni x.ci, .slice x.S x.ns x.cs, .int .i64 x.N, .int .i64 x.P] 44) := ⟨_, rfl⟩
      have hs0 := HB.out.size
      have hb1 : Below wr.heap.size wr W1 := by rw [hW1]; exact below_al6 (Below.refl _ _)
      have HN1 : Hid (BoxN W1 wr.heap.size x) := hide (by rw [hW1]; exact BoxN.new wr x)
      have HR1 := hide (own_below HR.out hb1)
      have HB1 := hide (below_nx6 HB.out hb1)
      have hs1 := HB1.out.size
      have hW1' := hW1.symm
      obtain ⟨q0, q1, q2, q3, q4⟩ := HN1.out.cs
      have HX3 : Hid ((W1.alloc (.cells #[.int .u8 x.kd] 5)).cell? ⟨W1.heap.size, 0, none⟩ = some (.int .u8 x.kd)) := hide (by have h := cells_new W1 [.int .u8 x.kd] 5 0 _ rfl; rwa [Addr.add_lit] at h)
      clear hW1 hxk hxo hbx eN eP hb1 hki hkt hni hns
      go_wp2_with (at_builtin; refine wpList_append_one rfl (.tmp 18) (.tmp 21) 30 rfl 5 i0 (.int .u8 0) 1 Tryz.underlying30 HI.out HZ0.out HZ1.out HZ2.out rfl W0.heap.size A2 q c2 ((gB ns k).map (Value.int .u8)) rfl (HR1.out.alloc _) (Nat.le_trans hs1 (by simp)) ⟨W1.heap.size, 0, none⟩ (.int .u8 x.kd) rfl HX3.out rfl (by omega) (by unfold maxLen; omega) ?_)
      intro A3 c3 w3 ho3 hm3
      have hne1 : (Value.slice A2 q c2).ownBlock ≠ some wr.heap.size := fun e => by have := (HR.out.lt _ e).2; omega
      have hk3 : Kept W1 w3 (.slice A2 q c2) (.slice A3 (q + 1) c3) := (Kept.below (below_al6 (Below.refl _ _)) _).trans (Kept.moved hm3)
      have HN3 : Hid (BoxN w3 wr.heap.size x) := hide (hk3.block HN1.out hne1)
      have hne3 := (hk3.2 _ HN1.out.lt hne1).2
      have HO3 : Hid (w3.ownsRow W0.heap.size 5 1 (.slice A3 (q + 1) c3) (q + 1) ((gB ns k ++ [x.kd]).map (Value.int .u8))) := hide (by rw [List.map_append]; exact ho3)
      have HB3 := hide (below_moved (HB1.out.alloc hs1 (.cells #[.int .u8 x.kd] 5)) (Nat.le_trans hs1 (by simp)) (HR1.out.alloc _) hm3)
      have HNE3 := hide hne3
      clear ho3 hm3 HR HR1 HB HB1 HX3 h0 h1 h2 h3 h4 q0 q1 q2 q3 q4 hk3 hne1 hne3 HN1
      obtain ⟨q0, q1, q2, q3, q4⟩ := HN3.out.cs
      have hc1 := putList11_any W0.heap.size A3 x.I (q + 1) c3 x.ni x.ci (gB ns k ++ [x.kd]) x.xs W0 w3 HO3.out HXO.out.1 hI1 HBX.out.2.1.2 HB3.out.size HB3.out (Nat.le_refl _) (by omega)
      have HC1 := hide hc1
      clear hc1
      go_wp2_with fail
      refine Calls.mono HC1.out ?_
      rintro e w4 ⟨A4, c4, rfl, ho4, hb4, hk4⟩
      have HN4 : Hid (BoxN w4 wr.heap.size x) := hide (hk4.block HN3.out HNE3.out)
      have HNE4 := hide (hk4.2 _ HN3.out.lt HNE3.out).2
      have HO4 := hide ho4
      have HB4 : Hid (Below W0.heap.size W0 w4) := hide (HB3.out.trans hb4)
      clear ho4 hb4 hk4 HC1 HO3 HB3 HN3 HNE3 q0 q1 q2 q3 q4
      obtain ⟨q0, q1, q2, q3, q4⟩ := HN4.out.cs
      have hc2 := putList11_any W0.heap.size A4 x.S (q + 1 + 1 + x.ni) c4 x.ns x.cs (gB ns k ++ [x.kd] ++ listI x.xs) x.sh W0 w4 HO4.out HXO.out.2.1 hI2 HBX.out.2.2.1.2 HB4.out.size HB4.out (Nat.le_refl _) (by omega)
      have HC2 := hide hc2
      clear hc2
      go_wp2_with fail
      refine Calls.mono HC2.out ?_
      rintro e w5 ⟨A5, c5, rfl, ho5, hb5, hk5⟩
      have HN5 : Hid (BoxN w5 wr.heap.size x) := hide (hk5.block HN4.out HNE4.out)
      have HO5 := hide ho5
      have HB5 : Hid (Below W0.heap.size W0 w5) := hide (HB4.out.trans hb5)
      clear ho5 hb5 hk5 HC2 HO4 HB4 HN4 HNE4 q0 q1 q2 q3 q4
      obtain ⟨q0, q1, q2, q3, q4⟩ := HN5.out.cs
      have hs5 := HB5.out.size
      have HLT := hide (lit_lies11 w5 .u8 [x.N, x.P] 5)
      have HON : Hid (∀ u ∈ (([x.N, x.P] : List Int).map (Value.int .u8)), u.oneCell' = true) := hide (by intro u hu; obtain ⟨z, _, rfl⟩ := List.mem_map.1 hu; rfl)
      go_wp2_with (at_builtin; refine wpList_append_src rfl (.tmp 31) (.tmp 38) 30 rfl 5 i0 (.int .u8 0) 1 Tryz.underlying30 HI.out HZ0.out HZ1.out HZ2.out rfl W0.heap.size (.slice A5 (q + 1 + 1 + x.ni + 1 + x.ns) c5) (q + 1 + 1 + x.ni + 1 + x.ns) ((gB ns k ++ [x.kd] ++ listI x.xs ++ listI x.sh).map (Value.int .u8)) rfl (HO5.out.alloc _) (Nat.le_trans hs5 (by simp)) (some ⟨w5.heap.size, 0, none⟩) 2 2 (([x.N, x.P] : List Int).map (Value.int .u8)) rfl HLT.out (fun h => by cases h) HON.out (by omega) (by unfold maxLen; omega) ?_)
      intro A6 c6 w6 ho6 hg6
      have HR6 : Hid (w6.ownsRow W0.heap.size 5 1 (.slice A6 (q + 1 + 1 + x.ni + 1 + x.ns + 2) c6) (q + 1 + 1 + x.ni + 1 + x.ns + 2) ((gB ns (k + 1)).map (Value.int .u8))) := hide (by
        have e : gB ns (k + 1) = gB ns k ++ [x.kd] ++ listI x.xs ++ listI x.sh ++ [x.N, x.P] := by
          rw [HSU.out, nodeI, HKT.out]
          show _ = _
          simp [Nd.tn]
        rw [e]
        simpa using ho6)
      have HB6 : Hid (Below W0.heap.size W0 w6) := hide ((HB5.out.alloc hs5 _).grown hg6 (Nat.le_trans hs5 (by simp)) (fun g hgg => (HO5.out.lt g hgg).1))
      clear ho6 hg6 HO5 HB5 HN5 HLT HON q0 q1 q2 q3 q4
      go_wp2
      go_roundw
      case rel => exact ⟨k + 1, _, A6, c6, by omega, by go_num, rfl, HR6, HB6⟩
      case measure => simp [intOf] <;> omega
    · obtain rfl : k = n := by omega
      have f1 : ¬ ((k : Int) < (k : Int)) := by omega
      have hr := own_base HR.out HB0.out.size
      have e : gB ns k = graphI (ns.map Nd.tn) := by rw [← HL.out, gB_all]
      rw [e] at hr
      have HF := hide hr
      clear hr e HR
      go_wp2
      go_ret
      exact ⟨A2, q, c2, rfl, HF.out, HB0.out.trans (HB.out.mono HB0.out.size)⟩

set_option maxHeartbeats 8000000 in
theorem putNumbers11_any (base : Nat) (A D : Option Addr) (n c m d : Nat) (bs l : List Int) (w0 w : World) (ho : w.ownsRow base 5 1 (.slice A n c) n (bs.map (Value.int .u8))) (hn1 : 1 ≤ n) (hl : Lies w0 D m (l.map (Value.int .i32))) (hw : Words l) (hm : m ≤ 100000) (hbase : base ≤ w.heap.size) (hb0 : Below w0.heap.size w0 w) (h0 : w0.heap.size ≤ base) (hn : n ≤ 10000000) :
    Calls Tryz.prog 28 #[.slice A n c, .slice D m d] w fun e w' => ∃ (A' : Option Addr) (c' : Nat), e = .returned (.slice A' (n + 4 * m) c') ∧ w'.ownsRow base 5 1 (.slice A' (n + 4 * m) c') (n + 4 * m) ((bs ++ enc l).map (Value.int .u8)) ∧ Below base w w' := by
  obtain ⟨i0, hi, hz0, hz1, hz2⟩ := info_parts Tryz.infoB
  have HI := hide hi
  have HZ0 := hide hz0
  have HZ1 := hide hz1
  have HZ2 := hide hz2
  obtain ⟨g, rfl⟩ := own_some ho hn1
  have HL := hide hl
  have HLN : Hid (l.length = m) := hide (lies_len9 hl)
  have HB0 := hide hb0
  have hgr := grow_any g n c (4 * m) base (bs.map (Value.int .u8)) w ho hbase (by omega) (by omega)
  have HG := hide hgr
  have HLT := hide (ho.lt g rfl)
  clear hi hz0 hz1 hz2 hl hb0 hgr ho
  go_enter Tryz.func28, Tryz.ntmps28
  go_wp2_with fail
  rw [show (4 : Int) * (m : Int) = ((4 * m : Nat) : Int) from by omega]
  refine Calls.mono HG.out ?_
  rintro e w1 ⟨g1, c1, rfl, ho1, hg1⟩
  have HB1 : Hid (Below base w w1) := hide ((Below.refl base w).grown hg1 hbase (fun b hb => by cases hb; exact HLT.out.1))
  have HO1 := hide ho1
  clear ho1 hg1 HG
  go_wp2
  go_loopw [0, 14] (fun v i wr => ∃ (k q : Nat) (A2 : Option Addr) (c2 : Nat), k ≤ m ∧ q = n + 4 * k ∧ i = .int .i64 k ∧ v = .slice A2 q c2 ∧ Hid (wr.ownsRow base 5 1 (.slice A2 q c2) q ((bs ++ enc (l.take k)).map (Value.int .u8))) ∧ Hid (Below base w wr)) (fun _ i _ => m - (intOf i).toNat)
  case atStart => exact ⟨0, n, some ⟨g1, 0, none⟩, c1, Nat.zero_le _, by omega, rfl, rfl, hide (by simpa [enc] using HO1.out), HB1⟩
  case round =>
    obtain ⟨k, q, A2, c2, hk, hq, rfl, rfl, HR, HB⟩ := hrel
    by_cases hlt : k < m
    · obtain ⟨b, o, rfl, _, hx⟩ := byte_at (HL.out.below (HB0.out.trans (HB.out.mono h0))) (by omega)
      have hc1 := hx k hlt
      obtain ⟨z, hz⟩ : ∃ z, z = l.getD k 0 := ⟨_, rfl⟩
      rw [← hz] at hc1
      have HENC : Hid (enc (l.take (k + 1)) = enc (l.take k) ++ four z) := hide (by rw [take_getD11 (by rw [HLN.out]; exact hlt), ← hz]; simp [enc, List.flatMap_append])
      have f0 : (0 : Int) ≤ (k : Int) := by omega
      have f1 : (k : Int) < (m : Int) := by omega
      have hp := put4 none 0 0 (IntKind.u32.wrap z) [] wr Lies.nothing (by intro u hu; cases hu) (by omega)
      have e1 : encV [IntKind.u32.wrap z] = (four z).map (Value.int .u8) := by simp [encV, enc, four_wrap]
      rw [List.nil_append, e1] at hp
      have HP := hide hp
      have HQ := hide hq
      have hs1 := HB.out.size
      clear hx hz hp e1 hq
      go_wp2_with fail
      refine Calls.mono HP.out ?_
      rintro e w2 ⟨rfl, ho2, hb2⟩
      have HR2 := hide (own_below HR.out hb2)
      have HS2 : Hid (Lies w2 (some ⟨wr.heap.size, 0, none⟩) 4 ((four z).map (Value.int .u8))) := hide (lies_of_own ho2)
      have HB2 : Hid (Below base w w2) := hide (HB.out.trans (hb2.mono (Nat.le_trans hbase hs1)))
      have hs2 := HB2.out.size
      have HON : Hid (∀ u ∈ ((four z).map (Value.int .u8)), u.oneCell' = true) := hide (by intro u hu; obtain ⟨y, _, rfl⟩ := List.mem_map.1 hu; rfl)
      have hqb : q ≤ 20000000 := by have := HQ.out; omega
      clear ho2 hb2 HP
      go_wp2_with (at_builtin; refine wpList_append_src rfl (.tmp 18) (.tmp 21) 30 rfl 5 i0 (.int .u8 0) 1 Tryz.underlying30 HI.out HZ0.out HZ1.out HZ2.out rfl base (.slice A2 q c2) q ((bs ++ enc (l.take k)).map (Value.int .u8)) rfl HR2.out (Nat.le_trans hbase hs2) (some ⟨wr.heap.size, 0, none⟩) 4 4 ((four z).map (Value.int .u8)) rfl HS2.out (fun h => by cases h) HON.out (by omega) (by unfold maxLen; omega) ?_)
      intro A3 c3 w3 ho3 hg3
      have HR3 : Hid (w3.ownsRow base 5 1 (.slice A3 (q + 4) c3) (q + 4) ((bs ++ enc (l.take (k + 1))).map (Value.int .u8))) := hide (by
        rw [HENC.out, List.map_append, List.map_append]
        exact ho3)
      have HB3 : Hid (Below base w w3) := hide (HB2.out.grown hg3 (Nat.le_trans hbase hs2) (fun g hgg => (HR2.out.lt g hgg).1))
      clear ho3 hg3 HR HR2 HB HB2 HS2 HON hc1
      go_wp2
      go_roundw
      case rel => exact ⟨k + 1, q + 4, A3, c3, by omega, by have := HQ.out; omega, by go_num, rfl, HR3, HB3⟩
      case measure => simp [intOf] <;> omega
    · obtain rfl : k = m := by omega
      have f1 : ¬ ((k : Int) < (k : Int)) := by omega
      have hr := HR.out
      rw [List.take_of_length_le (by rw [HLN.out]; exact Nat.le_refl _), hq] at hr
      have HF := hide hr
      subst hq
      clear hr HR
      go_wp2
      go_ret
      exact ⟨A2, c2, rfl, by rw [← List.map_append]; exact HF.out, HB.out⟩

end

section
open Go.RowKit
set_option linter.unusedVariables false
set_option linter.unusedSimpArgs false
set_option maxRecDepth 100000

/-- A plain node as a node that lies nowhere. -/
def tnN (t : Tn) : Nd := ⟨(t.kd : Int), none, 0, 0, none, 0, 0, t.N, t.P, t.xs, t.sh⟩

theorem tnN_pl {x : Nd} (h : 0 ≤ x.kd) : tnN x.tn = pl x := by
  unfold tnN Nd.tn pl
  have : ((x.kd.toNat : Nat) : Int) = x.kd := by omega
  rw [this]

theorem tnN_all : ∀ {ns : List Nd}, (∀ x ∈ ns, 0 ≤ x.kd) → (ns.map Nd.tn).map tnN = ns.map pl
  | [], _ => rfl
  | x :: r, h => by
    rw [List.map_cons, List.map_cons, List.map_cons, tnN_pl (h x (List.mem_cons_self ..)), tnN_all (fun y hy => h y (List.mem_cons_of_mem _ hy))]

theorem shOf_pl (ns : List Nd) (i : Int) : shOf (ns.map pl) i = shOf ns i := by
  unfold shOf
  rw [List.getElem?_map]
  cases ns[i.toNat]? <;> rfl

theorem szW_pl (ns : List Nd) : ∀ is : List Int, szW (ns.map pl) is = szW ns is
  | [] => rfl
  | i :: is => by rw [szW, szW, shOf_pl, szW_pl ns is]

theorem wsFit_pl (ns : List Nd) : ∀ (is : List Int) (ts : List Wt), wsFit (ns.map pl) is ts = wsFit ns is ts
  | [], [] => rfl
  | [], _ :: _ => rfl
  | _ :: _, [] => rfl
  | i :: is, t :: ts => by rw [wsFit, wsFit, shOf_pl, wsFit_pl ns is ts]

/-- The plain nodes that stand in bytes ahead of their sum, and what is left. -/
def tkN (bs : List Int) : List Tn := (tkGraph (bs.take (bs.length - 4), false)).1

def tkR (bs : List Int) : List Int := (tkGraph (bs.take (bs.length - 4), false)).2.1

def tkS (bs : List Int) : Bool := (tkGraph (bs.take (bs.length - 4), false)).2.2

/-- Which bytes are a model's. -/
def getB (bs : List Int) : Bool := decide (4 ≤ bs.length) && decide (head4 (bs.drop (bs.length - 4)) = ((sumOf (bs.take (bs.length - 4)) : Nat) : Int)) && !(tkS bs) && gphB ((tkN bs).map tnN) && decide ((tkR bs).length = 4 * szW ((tkN bs).map tnN) (wtF 0 ((tkN bs).map tnN)))

theorem getB_parts {bs : List Int} : getB bs = true ↔ 4 ≤ bs.length ∧ head4 (bs.drop (bs.length - 4)) = ((sumOf (bs.take (bs.length - 4)) : Nat) : Int) ∧ tkS bs = false ∧ gphB ((tkN bs).map tnN) = true ∧ (tkR bs).length = 4 * szW ((tkN bs).map tnN) (wtF 0 ((tkN bs).map tnN)) := by
  simp only [getB, Bool.and_eq_true, decide_eq_true_eq, Bool.not_eq_true']
  constructor
  · rintro ⟨⟨⟨⟨h1, h2⟩, h3⟩, h4⟩, h5⟩
    exact ⟨h1, h2, h3, h4, h5⟩
  · rintro ⟨h1, h2, h3, h4, h5⟩
    exact ⟨⟨⟨⟨h1, h2⟩, h3⟩, h4⟩, h5⟩

theorem mdP_body (ns : List Nd) (ts : List Wt) : (mdP ns ts).length = (mdI ns ts).length + 4 ∧ (mdP ns ts).take ((mdP ns ts).length - 4) = mdI ns ts ∧ (mdP ns ts).drop ((mdP ns ts).length - 4) = four ((sumOf (mdI ns ts) : Nat) : Int) := by
  have hl : (mdP ns ts).length = (mdI ns ts).length + 4 := by rw [mdP, List.length_append, four_len]
  refine ⟨hl, ?_, ?_⟩
  · rw [hl, Nat.add_sub_cancel, mdP]
    exact List.take_left' rfl
  · rw [hl, Nat.add_sub_cancel, mdP]
    exact List.drop_left' rfl

/-- What is put is got. -/
theorem getB_put {ns : List Nd} {ts : List Wt} (h : mdB ns ts = true) (hk : ∀ x ∈ ns, 0 ≤ x.kd) (hl : ∀ t ∈ ts, t.l.length = t.m) : getB (mdP ns ts) = true ∧ tkN (mdP ns ts) = ns.map Nd.tn ∧ tkR (mdP ns ts) = wsI ts := by
  obtain ⟨h1, h2⟩ := mdB_parts.1 h
  obtain ⟨b1, b2, b3⟩ := mdP_body ns ts
  have htk : tkGraph ((mdP ns ts).take ((mdP ns ts).length - 4), false) = (ns.map Nd.tn, (wsI ts, false)) := by rw [b2, mdI, tkGraph_app]
  have e1 : tkN (mdP ns ts) = ns.map Nd.tn := by rw [tkN, htk]
  have e2 : tkR (mdP ns ts) = wsI ts := by rw [tkR, htk]
  have e3 : tkS (mdP ns ts) = false := by rw [tkS, htk]
  refine ⟨?_, e1, e2⟩
  rw [getB_parts]
  have hs := sumOf_lt (mdI_bytes (ts := ts) h1)
  refine ⟨by omega, ?_, e3, ?_, ?_⟩
  · rw [b2, b3]
    have := head4_four ((sumOf (mdI ns ts) : Nat) : Int) [] (by omega) (by omega)
    rwa [List.append_nil] at this
  · rw [e1, tnN_all hk, (gph_pl ns).1]
    exact h1
  · rw [e1, e2, tnN_all hk, szW_pl, wtF_pl]
    exact wsI_len h2 hl

/-- Bytes that are a model's are what is put of it. -/
theorem put_getB {bs : List Int} {ns : List Nd} {ts : List Wt} (hb : ByteL bs) (h : getB bs = true) (hn : ns.map Nd.tn = tkN bs) (hk : ∀ x ∈ ns, 0 ≤ x.kd) (hw : wsI ts = tkR bs) (hf : wsFit ns (wtF 0 ns) ts = true) : mdB ns ts = true ∧ mdP ns ts = bs := by
  obtain ⟨h1, h2, h3, h4, h5⟩ := getB_parts.1 h
  have hbt : ByteL (bs.take (bs.length - 4)) := fun z hz => hb z (List.mem_of_mem_take hz)
  obtain ⟨s1, s2, s3⟩ := tkGraph_short (bs.take (bs.length - 4)) hbt h3
  have hI : mdI ns ts = bs.take (bs.length - 4) := by rw [mdI, hn, hw]; exact s1.symm
  refine ⟨?_, ?_⟩
  · rw [mdB_parts]
    refine ⟨?_, hf⟩
    rw [← hn, tnN_all hk, (gph_pl ns).1] at h4
    exact h4
  · rw [mdP, hI, ← h2]
    have hd4 : (bs.drop (bs.length - 4)).length = 4 := by rw [List.length_drop]; omega
    obtain ⟨a, b, c, d, e⟩ : ∃ a b c d, bs.drop (bs.length - 4) = [a, b, c, d] := by
      match hq : bs.drop (bs.length - 4), hd4 with
      | [a, b, c, d], _ => exact ⟨a, b, c, d, rfl⟩
    have hbd : ∀ z ∈ [a, b, c, d], 0 ≤ z ∧ z < 256 := fun z hz => hb z (List.mem_of_mem_drop (e ▸ hz))
    have e4 : four (head4 [a, b, c, d]) = [a, b, c, d] := by
      have ha := hbd a (by simp)
      have hb' := hbd b (by simp)
      have hc := hbd c (by simp)
      have hd := hbd d (by simp)
      simp only [head4, four, word, List.getD_cons_zero, List.getD_cons_succ, List.cons.injEq, and_true]
      omega
    rw [e, e4, ← e, List.take_append_drop]

end

section
open Go.RowKit
set_option linter.unusedVariables false
set_option linter.unusedSimpArgs false
set_option maxRecDepth 100000

/-- A model in a block. -/
def BoxM (w : World) (q : Nat) (v u : Value) : Prop := w.heap[q]? = some (.cells #[v, u] 27 (0, 0))

theorem BoxM.new (w : World) (v u : Value) : BoxM (w.alloc (.cells #[v, u] 27)) w.heap.size v u := heap_alloc_new w _

theorem BoxM.kept {w w' : World} {q : Nat} {v u : Value} (h : BoxM w q v u) (hb : Below w.heap.size w w') : BoxM w' q v u := (hb.block q (lt_of_heap h)).trans h

theorem BoxM.cs {w : World} {q : Nat} {v u : Value} (h : BoxM w q v u) : w.cell? ⟨q, 0, none⟩ = some v ∧ w.cell? ⟨q, 1, none⟩ = some u := ⟨cell_of_row _ _ 0 _ _ (0, 0) h, cell_of_row _ _ 1 _ _ (0, 0) h⟩

set_option maxHeartbeats 16000000 in
theorem isModel11_any (A B : Option Addr) (n c m d : Nat) (ns : List Nd) (ts : List Wt) (w : World) (h : NsIn w A n ns) (hn : n ≤ 1073741824) (hc : n ≤ c) (hW : WsIn w B m ts) (hm : m ≤ 70368744177664) :
    Calls Tryz.prog 26 #[.agg #[.slice A n c, .slice B m d]] w fun e w' => e = .returned (.bool (mdB ns ts)) ∧ Below w.heap.size w w' := by
  obtain ⟨W0, hW0⟩ : ∃ W0, W0 = w.alloc (.cells #[.slice A n c, .slice B m d] 27) := ⟨_, rfl⟩
  have HB0 : Hid (Below w.heap.size w W0) := hide (by rw [hW0]; exact below_al6 (Below.refl _ _))
  have HX : Hid (BoxM W0 w.heap.size (.slice A n c) (.slice B m d)) := hide (by rw [hW0]; exact BoxM.new w _ _)
  have HN := hide (h.below HB0.out)
  have HWS := hide (hW.below HB0.out)
  have HL : Hid (ns.length = n) := hide h.1
  have HM : Hid (ts.length = m) := hide hW.1
  obtain ⟨R, hR⟩ : ∃ z, z = mdB ns ts := ⟨_, rfl⟩
  rw [← hR]
  have HR := hide hR
  have HNO : Hid (¬ (gphB ns = true ∧ wsFit ns (wtF 0 ns) ts = true) → R = false) := hide (fun h => by
    rw [HR.out]
    cases e : mdB ns ts with
    | false => rfl
    | true => exact absurd (mdB_parts.1 e) h)
  have HC1 := hide (weights_any A n c ns W0 HN.out hn)
  obtain ⟨c0, c1⟩ := HX.out.cs
  have hW0' := hW0.symm
  clear hW0 h hW hR
  go_enter Tryz.func26, Tryz.ntmps26
  go_wp2_with fail
  refine Calls.mono HC1.out ?_
  rintro e w1 ⟨A1, k1, ca, rfl, ho1, hb⟩
  have HLW := hide (lies_of_own ho1)
  have HKW : Hid ((wtF 0 ns).length = k1) := hide (lies_len9 (lies_of_own ho1))
  have HB1 := hide hb
  clear ho1 hb HC1 c0 c1
  have hk1 : k1 ≤ n := by have := wtF_len11 ns 0; rw [HKW.out, HL.out] at this; exact this
  obtain ⟨G, hG⟩ : ∃ z, z = gphB ns := ⟨_, rfl⟩
  have hck := gcheck_any A n c ns w1 (HN.out.below HB1.out) hn hc
  rw [← hG] at hck
  have HCK := hide hck
  have HG := hide hG
  obtain ⟨c0, c1⟩ := (HX.out.kept HB1.out).cs
  clear hck hG
  go_wp2_with fail
  refine Calls.mono HCK.out ?_
  rintro e w2 ⟨rfl, hb⟩
  have HB2 := hide (below_nx6 HB1.out hb)
  replace HLW := hide (HLW.out.below hb)
  clear hb HCK c0 c1
  obtain ⟨c0, c1⟩ := (HX.out.kept HB2.out).cs
  cases G with
  | false =>
    obtain rfl : R = false := HNO.out (fun h => by rw [← HG.out] at h; cases h.1)
    clear c0 c1
    go_wp2
    go_ret
    exact ⟨rfl, below_nx6 HB0.out HB2.out⟩
  | true =>
  have HN32 := hide (gphB_n11 HG.out.symm)
  have hn32 : n ≤ 32 := by have h := HN32.out; rw [HL.out] at h; exact h
  by_cases hmk : m = k1
  · have e0 : ((m : Int) != (k1 : Int)) = false := by rw [bne_eq_false_iff_eq]; omega
    have HMK := hide hmk
    have hm32 : m ≤ 32 := by omega
    clear hmk
    go_wp2
    clear e0 c0 c1
    go_loopw [24] (fun v wr => ∃ i : Nat, i ≤ m ∧ v = .int .i64 i ∧ Hid (∀ (j : Nat) (z : Int) (t : Wt), j < i → (wtF 0 ns)[j]? = some z → ts[j]? = some t → tenOk t.s t.m = true ∧ t.s = shOf ns z) ∧ Hid (Below w2.heap.size w2 wr)) (fun v _ => m - (intOf v).toNat)
    case atStart => exact ⟨0, Nat.zero_le _, rfl, hide (fun j z t hj => absurd hj (by omega)), hide (Below.refl _ _)⟩
    case round =>
      obtain ⟨i, hi, rfl, HP, HB⟩ := hrel
      by_cases hlt : i < m
      · have HBR := hide (below_nx6 HB2.out HB.out)
        obtain ⟨bT, oT, t, eB, ht, t0, t1, hto⟩ := (HWS.out.below HBR.out).at hlt
        obtain ⟨z, hz⟩ : ∃ z, (wtF 0 ns)[i]? = some z := ⟨(wtF 0 ns)[i]'(by rw [HKW.out, ← HMK.out]; exact hlt), List.getElem?_eq_getElem _⟩
        obtain ⟨u, x, rfl, hxu, hkd, hsh⟩ := wt_node hz
        have hun : u < n := by rw [← HL.out]; exact (List.getElem?_eq_some_iff.1 hxu).1
        obtain ⟨bA, oA, x2, eA, hx2, _, _, h2, _, _, hxo⟩ := (HN.out.below HBR.out).at hun
        rw [hxu] at hx2
        cases hx2
        obtain ⟨bW, oW, eW, _, hxW⟩ := byte_at (HLW.out.below HB.out) (by rw [← HMK.out]; omega)
        have hcw := hxW i (by rw [← HMK.out]; exact hlt)
        have hgd : (wtF 0 ns).getD i 0 = (u : Int) := by rw [List.getD, hz]; rfl
        rw [hgd] at hcw
        have HZ := hide hz
        have HT := hide ht
        have HSH := hide hsh
        have HTO := hide hto
        have HXO := hide hxo
        have i0 : (0 : Int) ≤ (i : Int) := by omega
        have i1 : (i : Int) < (m : Int) := by omega
        have i2 : (i : Int) < (k1 : Int) := by have := HMK.out; omega
        have u0 : (0 : Int) ≤ (u : Int) := by omega
        have u1 : (u : Int) < (n : Int) := by omega
        subst eB eA eW
        obtain ⟨W1, hW1⟩ : ∃ W1, W1 = wr.alloc (.cells #[.slice t.A t.n t.c, .slice t.B t.m t.d] 40) := ⟨_, rfl⟩
        have hb1 : Below wr.heap.size wr W1 := by rw [hW1]; exact below_al6 (Below.refl _ _)
        have HXT : Hid (BoxT W1 wr.heap.size (.slice t.A t.n t.c) (.slice t.B t.m t.d)) := hide (by rw [hW1]; exact BoxT.new wr _ _)
        have HKC : Hid (∀ v, Below W1.heap.size W1 v → v.cell? ⟨wr.heap.size, 0, none⟩ = some (.slice t.A t.n t.c) ∧ v.cell? ⟨wr.heap.size, 1, none⟩ = some (.slice t.B t.m t.d) ∧ v.cell? ⟨w.heap.size, 0, none⟩ = some (.slice (some ⟨bA, oA, none⟩) n c) ∧ v.cell? ⟨bW, oW + i, none⟩ = some (.int .i64 (u : Int)) ∧ v.cell? ⟨bA, oA + u * 5 + 2, none⟩ = some (.slice x.S x.ns x.cs)) := hide (fun v hv => by
          have hv2 := below_nx6 hb1 hv
          have k := fun {b o : Nat} {z : Value} (h : wr.cell? ⟨b, o, none⟩ = some z) => (hv2.cell (World.block_lt_of_cell? wr _ h)).trans h
          exact ⟨(HXT.out.kept hv).c0, (HXT.out.kept hv).c1, ((HX.out.kept (below_nx6 HBR.out hv2)).cs).1, k hcw, k h2⟩)
        have HTW := hide (hto.below hb1)
        have HXW := hide (hxo.below hb1)
        have HBW := hide (below_nx6 HB.out hb1)
        have hd0 : Below W1.heap.size W1 W1.drew := below_drewN (Below.refl _ _) 1
        have hW1' := hW1.symm
        clear hW1 hz hxu hkd hsh ht hto hxo hb1 h2 hcw hgd hxW HBR HXO HTO
        obtain ⟨T, hT⟩ : ∃ z, z = tenOk t.s t.m := ⟨_, rfl⟩
        have HTT := hide hT
        clear hT
        go_wp2
        clear t0 t1
        cases T with
        | false =>
          obtain rfl : R = false := HNO.out (fun h => by have := (wsFit_at h.2 HZ.out HT.out).1; rw [← HTT.out] at this; cases this)
          have hS0 : Hid (W1.drew.cell? ⟨wr.heap.size, 0, none⟩ = some (.slice t.A t.n t.c) ∧ W1.drew.cell? ⟨wr.heap.size, 1, none⟩ = some (.slice t.B t.m t.d) ∧ W1.drew.cell? ⟨w.heap.size, 0, none⟩ = some (.slice (some ⟨bA, oA, none⟩) n c) ∧ W1.drew.cell? ⟨bW, oW + i, none⟩ = some (.int .i64 (u : Int)) ∧ W1.drew.cell? ⟨bA, oA + u * 5 + 2, none⟩ = some (.slice x.S x.ns x.cs)) := hide (HKC.out _ hd0)
          refine wp_region_U (fun _ v => v.cell? ⟨wr.heap.size, 0, none⟩ = some (.slice t.A t.n t.c) ∧ v.cell? ⟨wr.heap.size, 1, none⟩ = some (.slice t.B t.m t.d) ∧ v.cell? ⟨w.heap.size, 0, none⟩ = some (.slice (some ⟨bA, oA, none⟩) n c) ∧ v.cell? ⟨bW, oW + i, none⟩ = some (.int .i64 (u : Int)) ∧ v.cell? ⟨bA, oA + u * 5 + 2, none⟩ = some (.slice x.S x.ns x.cs)) 99 (by kernel_rfl) ?_
          refine wpAnyU_take (i := 0) (oi := { dst := some 29, op := _, type := _, pos := _, after := _, guard := none }) (v := .agg #[.slice t.A t.n t.c, .slice t.B t.m t.d]) rfl (by kernel_rfl) (by kernel_rfl) (by kernel_rfl) (by kernel_rfl) (fun _ _ _ h => h) (yields_take rfl (fun w' hw => by obtain ⟨h1, h2, h3, h4, h5⟩ := hw.const; go_simp)) hS0.out ?_
          simp only [Act.put, List.setIfInBounds_toArray, List.set_cons_zero, List.set_cons_succ]
          refine wpAnyU_one (i := 1) (by kernel_rfl) rfl ?_
          intro K hK
          go_simp
          refine Calls.mono (tcheck_any t.A t.B t.n t.c t.m t.d t.s _ (HTW.out.1.1.below hd0) (by have := HTW.out.2.2.1.1; omega)) ?_
          rintro e w3 ⟨he, hb⟩
          (try dsimp only)
          rw [← HTT.out] at he
          subst he
          have hd1 : Below W1.heap.size W1 w3 := below_nx6 hd0 hb
          clear hb
          (try dsimp only)
          have hS1 : Hid (w3.cell? ⟨wr.heap.size, 0, none⟩ = some (.slice t.A t.n t.c) ∧ w3.cell? ⟨wr.heap.size, 1, none⟩ = some (.slice t.B t.m t.d) ∧ w3.cell? ⟨w.heap.size, 0, none⟩ = some (.slice (some ⟨bA, oA, none⟩) n c) ∧ w3.cell? ⟨bW, oW + i, none⟩ = some (.int .i64 (u : Int)) ∧ w3.cell? ⟨bA, oA + u * 5 + 2, none⟩ = some (.slice x.S x.ns x.cs)) := hide (HKC.out _ hd1)
          refine hK.out _ _ hS1.out (fun _ => ?_)
          clear hK K hS0
          refine wpAnyU_take (i := 2) (oi := { dst := some 31, op := _, type := _, pos := _, after := _, guard := none }) (v := .bool true) rfl (by kernel_rfl) (by kernel_rfl) (by kernel_rfl) (by kernel_rfl) (fun _ _ _ h => h) (yields_take rfl (fun w' hw => by obtain ⟨h1, h2, h3, h4, h5⟩ := hw.const; go_simp)) hS1.out ?_
          simp only [Act.put, List.setIfInBounds_toArray, List.set_cons_zero, List.set_cons_succ]
          refine wpAnyU_take (i := 3) (oi := { dst := some 32, op := _, type := _, pos := _, after := _, guard := none }) (v := .bool true) rfl (by kernel_rfl) (by kernel_rfl) (by kernel_rfl) (by kernel_rfl) (fun _ _ _ h => h) (yields_take rfl (fun w' hw => by obtain ⟨h1, h2, h3, h4, h5⟩ := hw.const; go_simp)) hS1.out ?_
          simp only [Act.put, List.setIfInBounds_toArray, List.set_cons_zero, List.set_cons_succ]
          refine wpAnyU_take (i := 4) (oi := { dst := some 33, op := _, type := _, pos := _, after := _, guard := some (3, false) }) (v := undef) rfl (by kernel_rfl) (by kernel_rfl) (by kernel_rfl) (by kernel_rfl) (fun _ _ _ h => h) (.inr ⟨rfl, rfl⟩) hS1.out ?_
          simp only [Act.put, List.setIfInBounds_toArray, List.set_cons_zero, List.set_cons_succ]
          refine wpAnyU_take (i := 5) (oi := { dst := some 34, op := _, type := _, pos := _, after := _, guard := some (3, false) }) (v := undef) rfl (by kernel_rfl) (by kernel_rfl) (by kernel_rfl) (by kernel_rfl) (fun _ _ _ h => h) (.inr ⟨rfl, rfl⟩) hS1.out ?_
          simp only [Act.put, List.setIfInBounds_toArray, List.set_cons_zero, List.set_cons_succ]
          refine wpAnyU_take (i := 6) (oi := { dst := some 35, op := _, type := _, pos := _, after := _, guard := some (3, false) }) (v := undef) rfl (by kernel_rfl) (by kernel_rfl) (by kernel_rfl) (by kernel_rfl) (fun _ _ _ h => h) (.inr ⟨rfl, rfl⟩) hS1.out ?_
          simp only [Act.put, List.setIfInBounds_toArray, List.set_cons_zero, List.set_cons_succ]
          refine wpAnyU_take (i := 7) (oi := { dst := some 36, op := _, type := _, pos := _, after := _, guard := some (3, false) }) (v := undef) rfl (by kernel_rfl) (by kernel_rfl) (by kernel_rfl) (by kernel_rfl) (fun _ _ _ h => h) (.inr ⟨rfl, rfl⟩) hS1.out ?_
          simp only [Act.put, List.setIfInBounds_toArray, List.set_cons_zero, List.set_cons_succ]
          refine wpAnyU_take (i := 8) (oi := { dst := some 37, op := _, type := _, pos := _, after := _, guard := some (3, false) }) (v := undef) rfl (by kernel_rfl) (by kernel_rfl) (by kernel_rfl) (by kernel_rfl) (fun _ _ _ h => h) (.inr ⟨rfl, rfl⟩) hS1.out ?_
          simp only [Act.put, List.setIfInBounds_toArray, List.set_cons_zero, List.set_cons_succ]
          refine wpAnyU_take (i := 9) (oi := { dst := some 38, op := _, type := _, pos := _, after := _, guard := some (3, false) }) (v := undef) rfl (by kernel_rfl) (by kernel_rfl) (by kernel_rfl) (by kernel_rfl) (fun _ _ _ h => h) (.inr ⟨rfl, rfl⟩) hS1.out ?_
          simp only [Act.put, List.setIfInBounds_toArray, List.set_cons_zero, List.set_cons_succ]
          refine wpAnyU_take (i := 10) (oi := { dst := some 39, op := _, type := _, pos := _, after := _, guard := some (3, false) }) (v := undef) rfl (by kernel_rfl) (by kernel_rfl) (by kernel_rfl) (by kernel_rfl) (fun _ _ _ h => h) (.inr ⟨rfl, rfl⟩) hS1.out ?_
          simp only [Act.put, List.setIfInBounds_toArray, List.set_cons_zero, List.set_cons_succ]
          refine wpAnyU_take (i := 11) (oi := { dst := some 40, op := _, type := _, pos := _, after := _, guard := some (3, false) }) (v := undef) rfl (by kernel_rfl) (by kernel_rfl) (by kernel_rfl) (by kernel_rfl) (fun _ _ _ h => h) (.inr ⟨rfl, rfl⟩) hS1.out ?_
          simp only [Act.put, List.setIfInBounds_toArray, List.set_cons_zero, List.set_cons_succ]
          refine wpAnyU_take (i := 12) (oi := { dst := some 41, op := _, type := _, pos := _, after := _, guard := some (3, false) }) (v := undef) rfl (by kernel_rfl) (by kernel_rfl) (by kernel_rfl) (by kernel_rfl) (fun _ _ _ h => h) (.inr ⟨rfl, rfl⟩) hS1.out ?_
          simp only [Act.put, List.setIfInBounds_toArray, List.set_cons_zero, List.set_cons_succ]
          refine wpAnyU_take (i := 13) (oi := { dst := some 42, op := _, type := _, pos := _, after := _, guard := some (3, false) }) (v := undef) rfl (by kernel_rfl) (by kernel_rfl) (by kernel_rfl) (by kernel_rfl) (fun _ _ _ h => h) (.inr ⟨rfl, rfl⟩) hS1.out ?_
          simp only [Act.put, List.setIfInBounds_toArray, List.set_cons_zero, List.set_cons_succ]
          refine wpAnyU_take (i := 14) (oi := { dst := some 43, op := _, type := _, pos := _, after := _, guard := some (3, false) }) (v := undef) rfl (by kernel_rfl) (by kernel_rfl) (by kernel_rfl) (by kernel_rfl) (fun _ _ _ h => h) (.inr ⟨rfl, rfl⟩) hS1.out ?_
          simp only [Act.put, List.setIfInBounds_toArray, List.set_cons_zero, List.set_cons_succ]
          refine wpAnyU_take (i := 15) (oi := { dst := some 44, op := _, type := _, pos := _, after := _, guard := some (3, false) }) (v := undef) rfl (by kernel_rfl) (by kernel_rfl) (by kernel_rfl) (by kernel_rfl) (fun _ _ _ h => h) (.inr ⟨rfl, rfl⟩) hS1.out ?_
          simp only [Act.put, List.setIfInBounds_toArray, List.set_cons_zero, List.set_cons_succ]
          refine wpAnyU_take (i := 16) (oi := { dst := some 45, op := _, type := _, pos := _, after := _, guard := some (3, false) }) (v := undef) rfl (by kernel_rfl) (by kernel_rfl) (by kernel_rfl) (by kernel_rfl) (fun _ _ _ h => h) (.inr ⟨rfl, rfl⟩) hS1.out ?_
          simp only [Act.put, List.setIfInBounds_toArray, List.set_cons_zero, List.set_cons_succ]
          refine wpAnyU_take (i := 17) (oi := { dst := some 46, op := _, type := _, pos := _, after := _, guard := some (3, false) }) (v := undef) rfl (by kernel_rfl) (by kernel_rfl) (by kernel_rfl) (by kernel_rfl) (fun _ _ _ h => h) (.inr ⟨rfl, rfl⟩) hS1.out ?_
          simp only [Act.put, List.setIfInBounds_toArray, List.set_cons_zero, List.set_cons_succ]
          refine wpAnyU_take (i := 18) (oi := { dst := some 47, op := _, type := _, pos := _, after := _, guard := none }) (v := .bool true) rfl (by kernel_rfl) (by kernel_rfl) (by kernel_rfl) (by kernel_rfl) (fun _ _ _ h => h) (yields_take rfl (fun w' hw => by obtain ⟨h1, h2, h3, h4, h5⟩ := hw.const; go_simp)) hS1.out ?_
          simp only [Act.put, List.setIfInBounds_toArray, List.set_cons_zero, List.set_cons_succ]
          refine wpAnyU_done (by kernel_rfl) ?_ _
          clear hS1
          have hbe := below_nx6 HB0.out (below_nx6 HB2.out (below_nx6 HBW.out hd1))
          have HBE := hide hbe
          clear HKC hbe
          go_wp2
          go_ret
          exact ⟨rfl, HBE.out⟩
        | true =>
          obtain ⟨Q, hQ⟩ : ∃ z, z = decide (t.s = x.sh) := ⟨_, rfl⟩
          have HQ := hide hQ
          clear hQ
          have hS0 : Hid (W1.drew.cell? ⟨wr.heap.size, 0, none⟩ = some (.slice t.A t.n t.c) ∧ W1.drew.cell? ⟨wr.heap.size, 1, none⟩ = some (.slice t.B t.m t.d) ∧ W1.drew.cell? ⟨w.heap.size, 0, none⟩ = some (.slice (some ⟨bA, oA, none⟩) n c) ∧ W1.drew.cell? ⟨bW, oW + i, none⟩ = some (.int .i64 (u : Int)) ∧ W1.drew.cell? ⟨bA, oA + u * 5 + 2, none⟩ = some (.slice x.S x.ns x.cs)) := hide (HKC.out _ hd0)
          refine wp_region_U (fun _ v => v.cell? ⟨wr.heap.size, 0, none⟩ = some (.slice t.A t.n t.c) ∧ v.cell? ⟨wr.heap.size, 1, none⟩ = some (.slice t.B t.m t.d) ∧ v.cell? ⟨w.heap.size, 0, none⟩ = some (.slice (some ⟨bA, oA, none⟩) n c) ∧ v.cell? ⟨bW, oW + i, none⟩ = some (.int .i64 (u : Int)) ∧ v.cell? ⟨bA, oA + u * 5 + 2, none⟩ = some (.slice x.S x.ns x.cs)) 99 (by kernel_rfl) ?_
          refine wpAnyU_take (i := 0) (oi := { dst := some 29, op := _, type := _, pos := _, after := _, guard := none }) (v := .agg #[.slice t.A t.n t.c, .slice t.B t.m t.d]) rfl (by kernel_rfl) (by kernel_rfl) (by kernel_rfl) (by kernel_rfl) (fun _ _ _ h => h) (yields_take rfl (fun w' hw => by obtain ⟨h1, h2, h3, h4, h5⟩ := hw.const; go_simp)) hS0.out ?_
          simp only [Act.put, List.setIfInBounds_toArray, List.set_cons_zero, List.set_cons_succ]
          refine wpAnyU_one (i := 1) (by kernel_rfl) rfl ?_
          intro K hK
          go_simp
          refine Calls.mono (tcheck_any t.A t.B t.n t.c t.m t.d t.s _ (HTW.out.1.1.below hd0) (by have := HTW.out.2.2.1.1; omega)) ?_
          rintro e w3 ⟨he, hb⟩
          (try dsimp only)
          rw [← HTT.out] at he
          subst he
          have hd1 : Below W1.heap.size W1 w3 := below_nx6 hd0 hb
          clear hb
          (try dsimp only)
          have hS1 : Hid (w3.cell? ⟨wr.heap.size, 0, none⟩ = some (.slice t.A t.n t.c) ∧ w3.cell? ⟨wr.heap.size, 1, none⟩ = some (.slice t.B t.m t.d) ∧ w3.cell? ⟨w.heap.size, 0, none⟩ = some (.slice (some ⟨bA, oA, none⟩) n c) ∧ w3.cell? ⟨bW, oW + i, none⟩ = some (.int .i64 (u : Int)) ∧ w3.cell? ⟨bA, oA + u * 5 + 2, none⟩ = some (.slice x.S x.ns x.cs)) := hide (HKC.out _ hd1)
          refine hK.out _ _ hS1.out (fun _ => ?_)
          clear hK K hS0
          refine wpAnyU_take (i := 2) (oi := { dst := some 31, op := _, type := _, pos := _, after := _, guard := none }) (v := .bool false) rfl (by kernel_rfl) (by kernel_rfl) (by kernel_rfl) (by kernel_rfl) (fun _ _ _ h => h) (yields_take rfl (fun w' hw => by obtain ⟨h1, h2, h3, h4, h5⟩ := hw.const; go_simp)) hS1.out ?_
          simp only [Act.put, List.setIfInBounds_toArray, List.set_cons_zero, List.set_cons_succ]
          refine wpAnyU_take (i := 3) (oi := { dst := some 32, op := _, type := _, pos := _, after := _, guard := none }) (v := .bool false) rfl (by kernel_rfl) (by kernel_rfl) (by kernel_rfl) (by kernel_rfl) (fun _ _ _ h => h) (yields_take rfl (fun w' hw => by obtain ⟨h1, h2, h3, h4, h5⟩ := hw.const; go_simp)) hS1.out ?_
          simp only [Act.put, List.setIfInBounds_toArray, List.set_cons_zero, List.set_cons_succ]
          refine wpAnyU_take (i := 4) (oi := { dst := some 33, op := _, type := _, pos := _, after := _, guard := some (3, false) }) (v := .pointer (some ⟨wr.heap.size, 0, none⟩)) rfl (by kernel_rfl) (by kernel_rfl) (by kernel_rfl) (by kernel_rfl) (fun _ _ _ h => h) (yields_take rfl (fun w' hw => by obtain ⟨h1, h2, h3, h4, h5⟩ := hw.const; go_simp)) hS1.out ?_
          simp only [Act.put, List.setIfInBounds_toArray, List.set_cons_zero, List.set_cons_succ]
          refine wpAnyU_take (i := 5) (oi := { dst := some 34, op := _, type := _, pos := _, after := _, guard := some (3, false) }) (v := .slice t.A t.n t.c) rfl (by kernel_rfl) (by kernel_rfl) (by kernel_rfl) (by kernel_rfl) (fun _ _ _ h => h) (yields_take rfl (fun w' hw => by obtain ⟨h1, h2, h3, h4, h5⟩ := hw.const; go_simp)) hS1.out ?_
          simp only [Act.put, List.setIfInBounds_toArray, List.set_cons_zero, List.set_cons_succ]
          refine wpAnyU_take (i := 6) (oi := { dst := some 35, op := _, type := _, pos := _, after := _, guard := some (3, false) }) (v := .pointer (some ⟨w.heap.size, 0, none⟩)) rfl (by kernel_rfl) (by kernel_rfl) (by kernel_rfl) (by kernel_rfl) (fun _ _ _ h => h) (yields_take rfl (fun w' hw => by obtain ⟨h1, h2, h3, h4, h5⟩ := hw.const; go_simp)) hS1.out ?_
          simp only [Act.put, List.setIfInBounds_toArray, List.set_cons_zero, List.set_cons_succ]
          refine wpAnyU_take (i := 7) (oi := { dst := some 36, op := _, type := _, pos := _, after := _, guard := some (3, false) }) (v := .pointer (some ⟨w.heap.size, 0, none⟩)) rfl (by kernel_rfl) (by kernel_rfl) (by kernel_rfl) (by kernel_rfl) (fun _ _ _ h => h) (yields_take rfl (fun w' hw => by obtain ⟨h1, h2, h3, h4, h5⟩ := hw.const; go_simp)) hS1.out ?_
          simp only [Act.put, List.setIfInBounds_toArray, List.set_cons_zero, List.set_cons_succ]
          refine wpAnyU_take (i := 8) (oi := { dst := some 37, op := _, type := _, pos := _, after := _, guard := some (3, false) }) (v := .slice (some ⟨bA, oA, none⟩) n c) rfl (by kernel_rfl) (by kernel_rfl) (by kernel_rfl) (by kernel_rfl) (fun _ _ _ h => h) (yields_take rfl (fun w' hw => by obtain ⟨h1, h2, h3, h4, h5⟩ := hw.const; go_simp)) hS1.out ?_
          simp only [Act.put, List.setIfInBounds_toArray, List.set_cons_zero, List.set_cons_succ]
          refine wpAnyU_take (i := 9) (oi := { dst := some 38, op := _, type := _, pos := _, after := _, guard := some (3, false) }) (v := .slice (some ⟨bW, oW, none⟩) k1 ca) rfl (by kernel_rfl) (by kernel_rfl) (by kernel_rfl) (by kernel_rfl) (fun _ _ _ h => h) (yields_take rfl (fun w' hw => by obtain ⟨h1, h2, h3, h4, h5⟩ := hw.const; go_simp)) hS1.out ?_
          simp only [Act.put, List.setIfInBounds_toArray, List.set_cons_zero, List.set_cons_succ]
          refine wpAnyU_take (i := 10) (oi := { dst := some 39, op := _, type := _, pos := _, after := _, guard := some (3, false) }) (v := .int .i64 (i : Int)) rfl (by kernel_rfl) (by kernel_rfl) (by kernel_rfl) (by kernel_rfl) (fun _ _ _ h => h) (yields_take rfl (fun w' hw => by obtain ⟨h1, h2, h3, h4, h5⟩ := hw.const; go_simp)) hS1.out ?_
          simp only [Act.put, List.setIfInBounds_toArray, List.set_cons_zero, List.set_cons_succ]
          refine wpAnyU_take (i := 11) (oi := { dst := some 40, op := _, type := _, pos := _, after := _, guard := some (3, false) }) (v := .pointer (some ⟨bW, oW + i, none⟩)) rfl (by kernel_rfl) (by kernel_rfl) (by kernel_rfl) (by kernel_rfl) (fun _ _ _ h => h) (yields_take rfl (fun w' hw => by obtain ⟨h1, h2, h3, h4, h5⟩ := hw.const; go_simp)) hS1.out ?_
          simp only [Act.put, List.setIfInBounds_toArray, List.set_cons_zero, List.set_cons_succ]
          refine wpAnyU_take (i := 12) (oi := { dst := some 41, op := _, type := _, pos := _, after := _, guard := some (3, false) }) (v := .int .i64 (u : Int)) rfl (by kernel_rfl) (by kernel_rfl) (by kernel_rfl) (by kernel_rfl) (fun _ _ _ h => h) (yields_take rfl (fun w' hw => by obtain ⟨h1, h2, h3, h4, h5⟩ := hw.const; go_simp)) hS1.out ?_
          simp only [Act.put, List.setIfInBounds_toArray, List.set_cons_zero, List.set_cons_succ]
          refine wpAnyU_take (i := 13) (oi := { dst := some 42, op := _, type := _, pos := _, after := _, guard := some (3, false) }) (v := .pointer (some ⟨bA, oA + u * 5, none⟩)) rfl (by kernel_rfl) (by kernel_rfl) (by kernel_rfl) (by kernel_rfl) (fun _ _ _ h => h) (yields_take rfl (fun w' hw => by obtain ⟨h1, h2, h3, h4, h5⟩ := hw.const; go_simp)) hS1.out ?_
          simp only [Act.put, List.setIfInBounds_toArray, List.set_cons_zero, List.set_cons_succ]
          refine wpAnyU_take (i := 14) (oi := { dst := some 43, op := _, type := _, pos := _, after := _, guard := some (3, false) }) (v := .pointer (some ⟨bA, oA + u * 5 + 2, none⟩)) rfl (by kernel_rfl) (by kernel_rfl) (by kernel_rfl) (by kernel_rfl) (fun _ _ _ h => h) (yields_take rfl (fun w' hw => by obtain ⟨h1, h2, h3, h4, h5⟩ := hw.const; go_simp)) hS1.out ?_
          simp only [Act.put, List.setIfInBounds_toArray, List.set_cons_zero, List.set_cons_succ]
          refine wpAnyU_take (i := 15) (oi := { dst := some 44, op := _, type := _, pos := _, after := _, guard := some (3, false) }) (v := .slice x.S x.ns x.cs) rfl (by kernel_rfl) (by kernel_rfl) (by kernel_rfl) (by kernel_rfl) (fun _ _ _ h => h) (yields_take rfl (fun w' hw => by obtain ⟨h1, h2, h3, h4, h5⟩ := hw.const; go_simp)) hS1.out ?_
          simp only [Act.put, List.setIfInBounds_toArray, List.set_cons_zero, List.set_cons_succ]
          refine wpAnyU_one (i := 16) (by kernel_rfl) rfl ?_
          intro K hK
          go_simp
          refine Calls.mono (equal_ints t.A x.S t.n t.c x.ns x.cs t.s x.sh _ (HTW.out.1.1.below hd1) (HXW.out.2.1.below hd1) (by have := HTW.out.2.2.1.1; omega)) ?_
          rintro e _ ⟨he, jj, rfl⟩
          (try dsimp only)
          rw [← HQ.out] at he
          subst he
          have hd2 : Below W1.heap.size W1 (w3.drewN jj) := below_drewN hd1 jj
          (try dsimp only)
          have hS2 : Hid ((w3.drewN jj).cell? ⟨wr.heap.size, 0, none⟩ = some (.slice t.A t.n t.c) ∧ (w3.drewN jj).cell? ⟨wr.heap.size, 1, none⟩ = some (.slice t.B t.m t.d) ∧ (w3.drewN jj).cell? ⟨w.heap.size, 0, none⟩ = some (.slice (some ⟨bA, oA, none⟩) n c) ∧ (w3.drewN jj).cell? ⟨bW, oW + i, none⟩ = some (.int .i64 (u : Int)) ∧ (w3.drewN jj).cell? ⟨bA, oA + u * 5 + 2, none⟩ = some (.slice x.S x.ns x.cs)) := hide (HKC.out _ hd2)
          refine hK.out _ _ hS2.out (fun _ => ?_)
          clear hK K hS1
          refine wpAnyU_take (i := 17) (oi := { dst := some 46, op := _, type := _, pos := _, after := _, guard := some (3, false) }) (v := .bool (!Q)) rfl (by kernel_rfl) (by kernel_rfl) (by kernel_rfl) (by kernel_rfl) (fun _ _ _ h => h) (yields_take rfl (fun w' hw => by obtain ⟨h1, h2, h3, h4, h5⟩ := hw.const; go_simp)) hS2.out ?_
          simp only [Act.put, List.setIfInBounds_toArray, List.set_cons_zero, List.set_cons_succ]
          refine wpAnyU_take (i := 18) (oi := { dst := some 47, op := _, type := _, pos := _, after := _, guard := none }) (v := .bool (!Q)) rfl (by kernel_rfl) (by kernel_rfl) (by kernel_rfl) (by kernel_rfl) (fun _ _ _ h => h) (yields_take rfl (fun w' hw => by obtain ⟨h1, h2, h3, h4, h5⟩ := hw.const; go_simp)) hS2.out ?_
          simp only [Act.put, List.setIfInBounds_toArray, List.set_cons_zero, List.set_cons_succ]
          refine wpAnyU_done (by kernel_rfl) ?_ _
          clear hS2
          cases Q with
          | false =>
            obtain rfl : R = false := HNO.out (fun h => by
              have h1 := (wsFit_at h.2 HZ.out HT.out).2
              rw [HSH.out] at h1
              have := HQ.out
              rw [decide_eq_true h1] at this
              cases this)
            have HBE := hide (below_nx6 HB0.out (below_nx6 HB2.out (below_nx6 HBW.out hd2)))
            clear HKC
            go_wp2
            go_ret
            exact ⟨rfl, HBE.out⟩
          | true =>
            have HP2 : Hid (∀ (j : Nat) (z : Int) (t : Wt), j < i + 1 → (wtF 0 ns)[j]? = some z → ts[j]? = some t → tenOk t.s t.m = true ∧ t.s = shOf ns z) := hide (fun j z' t' hj hz' ht' => by
              by_cases e : j = i
              · subst e
                rw [HZ.out] at hz'
                rw [HT.out] at ht'
                cases hz'
                cases ht'
                exact ⟨HTT.out.symm, by rw [HSH.out]; exact of_decide_eq_true HQ.out.symm⟩
              · exact HP.out j z' t' (by omega) hz' ht')
            have HBE := hide (below_nx6 HBW.out hd2)
            clear HKC
            go_wp2
            go_roundw
            case rel => exact ⟨i + 1, by omega, by go_num, HP2, HBE⟩
            case measure => simp [intOf] <;> omega
      · obtain rfl : i = m := by omega
        have i1 : ¬ (i : Int) < (i : Int) := by omega
        obtain rfl : R = true := by
          rw [HR.out, mdB_parts]
          exact ⟨HG.out.symm, wsFit_mk (by rw [HKW.out, HM.out, HMK.out]) (fun j z t hz ht => HP.out j z t (by have := (List.getElem?_eq_some_iff.1 ht).1; rw [HM.out] at this; exact this) hz ht)⟩
        go_wp2
        go_ret
        exact ⟨rfl, below_nx6 HB0.out (below_nx6 HB2.out HB.out)⟩
  · obtain rfl : R = false := HNO.out (fun h => by have h1 := wsFit_len h.2; rw [HKW.out, HM.out] at h1; omega)
    have e0 : ((m : Int) != (k1 : Int)) = true := by rw [bne_iff_ne]; omega
    clear hmk
    go_wp2
    go_ret
    exact ⟨rfl, below_nx6 HB0.out HB2.out⟩

end

section
open Go.RowKit
set_option linter.unusedVariables false
set_option linter.unusedSimpArgs false
set_option maxRecDepth 100000

/-- A weight of a graph has a shape. -/
theorem wt_pos {ns : List Nd} {u : Nat} {x : Nd} (h : gphB ns = true) (hx : ns[u]? = some x) (hk : x.kd = 2) : 0 < sizeI x.sh := by
  obtain ⟨_, ss, hs, _⟩ := gphB_parts h
  have hu := (List.getElem?_eq_some_iff.1 hx).1
  have ht := allSh_take hs u (by omega)
  cases hf : fitN x (ss.take u) with
  | false => rw [allSh_stop ht hx hf] at hs; cases hs
  | true =>
    have hp := shN_pos (allSh_pos _ [] _ (by simp) ht) hf
    have e : (2 : Int).toNat = 2 := rfl
    have : shN x (ss.take u) = x.sh := by rw [shN, hk, e]; rfl
    rwa [this] at hp

theorem wtF_two {ns : List Nd} {k : Nat} {z : Int} (hG : gphB ns = true) (h : (wtF 0 ns)[k]? = some z) : ∃ (j : Nat) (x : Nd), z = (j : Int) ∧ ns[j]? = some x ∧ shOf ns z = x.sh ∧ 0 < sizeI x.sh := by
  obtain ⟨j, x, e, hx, hk, hsh⟩ := wt_node h
  exact ⟨j, x, e, hx, hsh, wt_pos hG hx hk⟩

theorem szW_append (ns : List Nd) : ∀ (a b : List Int), szW ns (a ++ b) = szW ns a + szW ns b
  | [], b => by rw [List.nil_append, szW, Nat.zero_add]
  | i :: a, b => by rw [List.cons_append, szW, szW, szW_append ns a b, Nat.add_assoc]

theorem szW_take {ns : List Nd} {is : List Int} {k : Nat} {z : Int} (h : is[k]? = some z) : szW ns (is.take (k + 1)) = szW ns (is.take k) + (sizeI (shOf ns z)).toNat := by
  obtain ⟨h1, h2⟩ := List.getElem?_eq_some_iff.1 h
  rw [List.take_succ_eq_append_getElem h1, h2, szW_append, szW, szW, Nat.add_zero]

theorem szW_le (ns : List Nd) : ∀ is : List Int, szW ns is ≤ 4096 * is.length
  | [] => Nat.le_refl _
  | i :: is => by
    have h1 := szW_le ns is
    have h2 := sizeI_le (shOf ns i)
    rw [szW, List.length_cons]
    omega

set_option maxHeartbeats 8000000 in
theorem numbersOf11_any (A : Option Addr) (n c : Nat) (ns : List Nd) (w : World) (h : NsIn w A n ns) (hG : gphB ns = true) :
    Calls Tryz.prog 35 #[.agg #[.slice A n c]] w fun e w' => e = .returned (.int .i64 ((szW ns (wtF 0 ns) : Nat) : Int)) ∧ Below w.heap.size w w' := by
  obtain ⟨W0, hW0⟩ : ∃ W0, W0 = w.alloc (.cells #[.slice A n c] 24) := ⟨_, rfl⟩
  have HB0 : Hid (Below w.heap.size w W0) := hide (by rw [hW0]; exact below_al6 (Below.refl _ _))
  have HX : Hid (W0.heap[w.heap.size]? = some (.cells #[.slice A n c] 24 (0, 0))) := hide (by rw [hW0]; exact heap_alloc_new w _)
  have hX := fun {v : World} (hb : Below W0.heap.size W0 v) => cell_of_row _ _ 0 _ _ (0, 0) ((hb.block _ (lt_of_heap HX.out)).trans HX.out)
  have hn32 : n ≤ 32 := by have := gphB_n11 hG; have := h.1; omega
  have HN := hide (h.below HB0.out)
  have HL : Hid (ns.length = n) := hide h.1
  have HG := hide hG
  have HC := hide (weights_any A n c ns W0 HN.out (by omega))
  have c0 : W0.cell? ⟨w.heap.size, 0, none⟩ = some (.slice A n c) := cell_of_row _ _ 0 _ _ (0, 0) HX.out
  have HKX : Hid (∀ v : World, Below W0.heap.size W0 v → v.cell? ⟨w.heap.size, 0, none⟩ = some (.slice A n c)) := hide (fun v hb => cell_of_row _ _ 0 _ _ (0, 0) ((hb.block _ (lt_of_heap HX.out)).trans HX.out))
  have hW0' := hW0.symm
  clear hW0 h hX hG HX
  go_enter Tryz.func35, Tryz.ntmps35
  go_wp2_with fail
  refine Calls.mono HC.out ?_
  rintro e w1 ⟨A1, k1, ca, rfl, ho1, hb⟩
  have HLW := hide (lies_of_own ho1)
  have HKW : Hid ((wtF 0 ns).length = k1) := hide (lies_len9 (lies_of_own ho1))
  have HB1 := hide hb
  clear ho1 hb HC c0
  have hk1 : k1 ≤ 32 := by have := wtF_len11 ns 0; rw [HKW.out, HL.out] at this; omega
  go_wp2
  go_loopw [3, 9] (fun v i wr => ∃ k : Nat, k ≤ k1 ∧ i = .int .i64 k ∧ v = .int .i64 ((szW ns ((wtF 0 ns).take k) : Nat) : Int) ∧ Hid (Below w1.heap.size w1 wr)) (fun _ i _ => k1 - (intOf i).toNat)
  case atStart => exact ⟨0, Nat.zero_le _, rfl, rfl, hide (Below.refl _ _)⟩
  case round =>
    obtain ⟨k, hk, rfl, rfl, HB⟩ := hrel
    by_cases hlt : k < k1
    · have HBR := hide (below_nx6 HB1.out HB.out)
      obtain ⟨z, hz⟩ : ∃ z, (wtF 0 ns)[k]? = some z := ⟨(wtF 0 ns)[k]'(by rw [HKW.out]; exact hlt), List.getElem?_eq_getElem _⟩
      obtain ⟨u, x, rfl, hxu, hsh, hps⟩ := wtF_two HG.out hz
      have hun : u < n := by rw [← HL.out]; exact (List.getElem?_eq_some_iff.1 hxu).1
      obtain ⟨bA, oA, x2, eA, hx2, _, _, h2, _, _, hxo⟩ := (HN.out.below HBR.out).at hun
      rw [hxu] at hx2
      cases hx2
      obtain ⟨bW, oW, eW, _, hxW⟩ := byte_at (HLW.out.below HB.out) (by omega)
      have hcw := hxW k hlt
      have hgd : (wtF 0 ns).getD k 0 = (u : Int) := by rw [List.getD, hz]; rfl
      rw [hgd] at hcw
      have hg := HKX.out _ HBR.out
      have i0 : (0 : Int) ≤ (k : Int) := by omega
      have i2 : (k : Int) < (k1 : Int) := by omega
      have u0 : (0 : Int) ≤ (u : Int) := by omega
      have u1 : (u : Int) < (n : Int) := by omega
      have HST := hide (szW_take (ns := ns) hz)
      have hle := szW_le ns ((wtF 0 ns).take k)
      have hle2 := sizeI_le x.sh
      obtain ⟨sz, hsz⟩ : ∃ sz : Nat, sizeI x.sh = (sz : Int) := ⟨(sizeI x.sh).toNat, by omega⟩
      obtain ⟨ac, hac⟩ : ∃ ac, ac = szW ns ((wtF 0 ns).take k) := ⟨_, rfl⟩
      rw [List.length_take, HKW.out, ← hac] at hle
      rw [Nat.min_eq_left (by omega)] at hle
      rw [hsz] at hle2
      have hac2 : ac ≤ 131072 := by omega
      have hsz2 : sz ≤ 4096 := by omega
      have hs := hsh ▸ HST.out
      rw [← hac, hsz, Int.toNat_natCast] at hs
      have HS := hide hs
      have hcall := size_any x.S x.ns x.cs x.sh wr hxo.2.1 (by have := hxo.2.2; omega)
      rw [hsz] at hcall
      have HCL := hide hcall
      rw [← hac]
      subst eA eW
      clear hz hxu hsh hps hxW hgd HST hsz hac hs hcall hxo
      go_wp2_with fail
      refine Calls.mono HCL.out ?_
      rintro e w3 ⟨rfl, hb3⟩
      have HB3 := hide (below_nx6 HB.out hb3)
      clear hb3 HCL h2 hcw hg
      go_wp2
      go_roundw
      case rel => exact ⟨k + 1, by omega, by go_num, by rw [HS.out]; go_num, HB3⟩
      case measure => simp [intOf] <;> omega
    · obtain rfl : k = k1 := by omega
      rw [List.take_of_length_le (by rw [HKW.out]; exact Nat.le_refl _)]
      go_wp2
      go_ret
      exact ⟨rfl, below_nx6 (below_nx6 HB0.out HB1.out) HB.out⟩

end

end Go.Proofs.YtohndckbhjakfaaGreatDoor
