/- Merged: Mo10, Mo11. -/
import Derived.Test.YtohndckbhjakfaaGreatDoorWZ34
import Derived.Test.YtohndckbhjakfaaGreatDoorWZ38
import Derived.Test.YtohndckbhjakfaaGreatDoorWZ32
namespace Go.Proofs.YtohndckbhjakfaaGreatDoor

section
open Go.RowKit
set_option linter.unusedVariables false
set_option linter.unusedSimpArgs false
set_option maxRecDepth 100000

theorem tkNodes_len : ∀ (k : Nat) (s : Sc), (tkNodes k s).1.length = k
  | 0, s => rfl
  | k + 1, s => by rw [tkNodes, List.length_cons, tkNodes_len k]

theorem tkGraph_len {s : Sc} (h : ByteL s.1) : (tkGraph s).1.length < 256 := by
  have h1 := (tk_byte h).1
  rw [tkGraph, tkNodes_len]
  omega

theorem getB_ns {bs : List Int} {ns : List Nd} (h4 : 4 ≤ bs.length) (hs : head4 (bs.drop (bs.length - 4)) = ((sumOf (bs.take (bs.length - 4)) : Nat) : Int)) (h3 : tkS bs = false) (hn : ns.map Nd.tn = tkN bs) (hk : ∀ x ∈ ns, 0 ≤ x.kd) :
    getB bs = true ↔ gphB ns = true ∧ (tkR bs).length = 4 * szW ns (wtF 0 ns) := by
  rw [getB_parts, ← hn, tnN_all hk, (gph_pl ns).1, wtF_pl, szW_pl]
  exact ⟨fun h => ⟨h.2.2.2.1, h.2.2.2.2⟩, fun h => ⟨h4, hs, h3, h.1, h.2⟩⟩

theorem nsIn_own {B : Nat} {w : World} {A : Option Addr} {c : Nat} {ns : List Nd} (ro : w.ownsRow B 44 5 (.slice A ns.length c) ns.length (cellsN ns)) (ow : ∀ (j : Nat) (x : Nd), ns[j]? = some x → OwnN w B x ∧ Bnd x) : NsIn w A ns.length ns := by
  refine ⟨rfl, fun hn => ?_⟩
  obtain ⟨g, hA, _, hlt, hcs⟩ := ownN_cells ro hn
  refine ⟨g, 0, hA, hlt, fun j x hj => ?_⟩
  obtain ⟨a0, a1, a2, a3, a4⟩ := cellsN_at ns j x hj
  simp only [Nat.zero_add]
  exact ⟨hcs _ _ a0, hcs _ _ a1, hcs _ _ a2, hcs _ _ a3, hcs _ _ a4, (ow j x hj).1.ok (ow j x hj).2⟩

theorem WsG.but {B r : Nat} {w w' : World} {A : Option Addr} {c : Nat} {ts : List Wt} (h : WsG B w A c ts) (hb : But r w w') (hr : r < B) : WsG B w' A c ts :=
  ⟨Nat.le_trans h.big hb.size, own_but h.ro hb hr, fun t ht => ⟨own_but (h.ow t ht).1 hb hr, own_but (h.ow t ht).2.1 hb hr, (h.ow t ht).2.2⟩⟩

set_option maxHeartbeats 16000000 in
theorem get_rest (A : Option Addr) (n c : Nat) (bs : List Int) (w : World) (h : Lies w A n (bs.map (Value.int .u8))) (hb : ByteL bs) (hn : 4 ≤ n) (hn9 : n ≤ 1000000000) (hnc : n ≤ c) (hc : c ≤ 9223372036854775807) (hsum : head4 (bs.drop (n - 4)) = ((sumOf (bs.take (n - 4)) : Nat) : Int)) (hsh : (tkGraph (bs.take (n - 4), false)).2.2 = false) : Calls Tryz.prog 13 #[.slice A n c] w fun e w' => (getB bs = false ∧ e = .returned (.tuple #[md0, .int .i64 4]) ∨ getB bs = true ∧ ∃ (ns : List Nd) (ts : List Wt) (A' B' : Option Addr) (c' d' : Nat), e = .returned (.tuple #[.agg #[.slice A' ns.length c', .slice B' ts.length d'], .int .i64 0]) ∧ ns.length ≤ c' ∧ NsIn w' A' ns.length ns ∧ WsIn w' B' ts.length ts ∧ mdB ns ts = true ∧ mdP ns ts = bs ∧ ∀ x ∈ ns, 0 ≤ x.kd) ∧ Below w.heap.size w w' := by
  obtain ⟨b, o, rfl, hlt, _⟩ := h.cells (by omega)
  obtain ⟨m, hm⟩ : ∃ m, n = m + 4 := ⟨n - 4, by omega⟩
  subst hm
  simp only [Nat.add_sub_cancel] at hsum hsh
  obtain ⟨W1, hW1⟩ : ∃ W, W = w.alloc (.cells #[.slice none 0 0, .slice none 0 0] 27) := ⟨_, rfl⟩
  have hB1 : Below w.heap.size w W1 := by rw [hW1]; exact (Below.refl _ _).alloc (Nat.le_refl _) _
  have hl1 := h.below hB1
  have hdr := hl1.drop (k := m) (cap := c) (by omega) hnc
  rw [if_neg (by omega)] at hdr
  simp only [Option.map_some, Addr.add, Nat.add_sub_cancel_left] at hdr
  have htk := hl1.take (k := m) (by omega)
  have hif : (if m = 0 then (⟨b, o, none⟩ : Addr) else ⟨b, o + m, none⟩) = ⟨b, o + m, none⟩ := by
    split
    · rename_i h0; rw [h0]; rfl
    · rfl
  rw [← List.map_drop] at hdr
  (try rw [hif] at hdr)
  rw [← List.map_take] at htk
  have hW1' := hW1.symm
  have HB1 := hide hB1
  have HG1 : Hid (W1.heap[w.heap.size]? = some (.cells #[.slice none 0 0, .slice none 0 0] 27 (0, 0))) := hide (by rw [hW1]; exact heap_alloc_new w _)
  have hbd : ByteL (bs.drop m) := fun z hz => hb z (List.mem_of_mem_drop hz)
  have hbt : ByteL (bs.take m) := fun z hz => hb z (List.mem_of_mem_take hz)
  have HC4 := hide (get4_long (some ⟨b, o + m, none⟩) 4 (c - m) (bs.drop m) W1 (by omega) hdr hbd)
  have HTK := hide htk
  obtain ⟨hd, hhd⟩ : ∃ hd, hd = head4 (bs.drop m) := ⟨_, rfl⟩
  obtain ⟨sm, hsm⟩ : ∃ sm : Int, sm = ((sumOf (bs.take m) : Nat) : Int) := ⟨_, rfl⟩
  rw [← hhd] at HC4 hsum
  rw [← hsm] at hsum
  have HSM := hide hsm
  have HBT := hide hbt
  have hne : (hd != sm) = false := by simpa using hsum
  have g0 : (0 : Int) ≤ ((m + 4 : Nat) : Int) - 4 := by omega
  have gmax : max (0 : Int) ((m : Int) + 4 - 4) = (m : Int) := by omega
  have gnc : ¬ c = m := by omega
  have hmc : m ≤ c := by omega
  have hbl : bs.length = m + 4 := lies_len9 h
  have HBL := hide hbl
  have HSUM : Hid (head4 (bs.drop m) = ((sumOf (bs.take m) : Nat) : Int)) := hide (by rw [← hhd, ← hsm]; exact hsum)
  have HBA := hide hb
  clear hW1 hB1 h hl1 hdr htk hhd hsm hsum hbd hbt hb hbl
  go_enter Tryz.func13, Tryz.ntmps13
  go_wp2_with (go_at_call 33; refine HC4.out.mono ?_; rintro e w2 ⟨rfl, k2, rfl⟩; have hd2 : Below W1.heap.size W1 (W1.drewN k2) := below_drewN (Below.refl _ _) k2; have HCS := hide (of_any (some ⟨b, o, none⟩) m c (bs.take m) (W1.drewN k2) (HTK.out.below hd2) HBT.out (by omega)))
  rw [← HSM.out] at HCS
  go_wp2_with (go_at_call 30; refine HCS.out.mono ?_; rintro e w3 ⟨rfl, hb3⟩; have hb23 := hd2.trans hb3; have HTK3 := hide (HTK.out.below hb23); obtain ⟨W4, hW4⟩ : ∃ W, w3.alloc (.cells #[.slice (some ⟨b, o, none⟩) m c, .bool false] 81) = W := ⟨_, rfl⟩; have hb4 : Below w3.heap.size w3 W4 := (by rw [← hW4]; exact (Below.refl _ _).alloc (Nat.le_refl _) _); have hsc : ScAt W4 w3.heap.size (bs.take m, false) := ⟨some ⟨b, o, none⟩, m, c, (by rw [← hW4]; exact heap_alloc_new w3 _), HTK3.out.below hb4, hmc, hc, (by have := HTK3.out.len; rw [List.length_map] at this; exact this), (fun hm1 a ha => by injection ha with ha; subst ha; obtain ⟨b9, o9, e9, hlt9, _⟩ := HTK3.out.cells hm1; injection e9 with e9; injection e9 with e91 e92; subst e91 e92; exact hlt9), HBT.out⟩; have HSG := hide (sgraph_any w3.heap.size _ W4 hsc))
  have HSH := hide hsh
  have hw34 := hb4.size
  go_wp2_with (go_at_call 34; refine HSG.out.mono ?_; rintro e w5 ⟨ns, A5, c5, htn, rfl, hns, hrow, hown, _, hsc5, hbu5⟩; obtain ⟨W6, hW6⟩ : ∃ W, w5.alloc (.cells #[.slice A5 ns.length c5] 24) = W := ⟨_, rfl⟩)
  have hb6 : Below w5.heap.size w5 W6 := by rw [← hW6]; exact (Below.refl _ _).alloc (Nat.le_refl _) _
  have hw3 : w.heap.size < w3.heap.size := Nat.lt_of_lt_of_le (lt_of_heap HG1.out) hb23.size
  have hb56 : Below w3.heap.size W4 w5 := hbu5.to (Nat.le_refl _) hw34
  have hW : Below w3.heap.size w3 W6 := hb4.trans (hb56.trans (hb6.mono (Nat.le_trans hw34 hbu5.size)))
  have HB2 := hide (HB1.out.trans ((hb23.mono HB1.out.size).trans (hW.mono (Nat.le_of_lt hw3))))
  have HG2 := hide ((hW.block w.heap.size hw3).trans ((hb23.block w.heap.size (lt_of_heap HG1.out)).trans HG1.out))
  have hq0 := cell_of_row _ _ 0 _ _ (0, 0) HG2.out
  have hq1 := cell_of_row _ _ 1 _ _ (0, 0) HG2.out
  have hf0 := frozen_of_row _ _ 0 _ _ HG2.out
  have hf1 := frozen_of_row _ _ 1 _ _ HG2.out
  simp only [List.getElem?_toArray, List.getElem?_cons_zero, List.getElem?_cons_succ] at hq0 hq1
  have hnl : ns.length ≤ 255 := by
    have h1 := congrArg List.length htn
    rw [List.length_map] at h1
    have h2 := tkGraph_len (s := (bs.take m, false)) HBT.out
    omega
  have hcap := own_cap11 hrow
  obtain ⟨A8, n8, c8, hbx8, hl8, hn8c, hc8, hln8, _, hby8⟩ := hsc5.below hb6
  rw [HSH.out] at hbx8
  have HNS := hide (hns.below hb6)
  have HRW := hide (own_keep10 hrow hb6)
  have HON : Hid (∀ (j : Nat) (x : Nd), ns[j]? = some x → OwnN W6 W4.heap.size x ∧ Bnd x) := hide (fun j x hj => ⟨(hown j x hj).1.below hb6, (hown j x hj).2⟩)
  have HKD : Hid (∀ x ∈ ns, 0 ≤ x.kd) := hide (fun x hx => by
    obtain ⟨jj, hj⟩ := List.getElem?_of_mem hx
    obtain ⟨_, _, y, _, hy, _, _, _, _, _, hyo⟩ := hns.at (List.getElem?_eq_some_iff.1 hj).1
    rw [hj] at hy
    cases hy
    exact hyo.2.2.2.2.2.2.1.1)
  have hgx : W6.heap[w5.heap.size]? = some (.cells #[.slice A5 ns.length c5] 24 (0, 0)) := by rw [← hW6]; exact heap_alloc_new w5 _
  have HKC : Hid (∀ v, Below W6.heap.size W6 v → v.cell? ⟨w3.heap.size, 1, none⟩ = some (.bool false) ∧ v.cell? ⟨w3.heap.size, 0, none⟩ = some (.slice A8 n8 c8) ∧ v.cell? ⟨w5.heap.size, 0, none⟩ = some (.slice A5 ns.length c5)) := hide (fun v hv => ⟨cell_of_row _ _ 1 _ _ (0, 0) ((hv.block _ (lt_of_heap hbx8)).trans hbx8), cell_of_row _ _ 0 _ _ (0, 0) ((hv.block _ (lt_of_heap hbx8)).trans hbx8), cell_of_row _ _ 0 _ _ (0, 0) ((hv.block _ (lt_of_heap hgx)).trans hgx)⟩)
  have HL8 := hide hl8
  have HBY8 := hide hby8
  have HTKN : Hid (ns.map Nd.tn = tkN bs ∧ (tkGraph (bs.take m, false)).2.1 = tkR bs ∧ tkS bs = false) := hide (by
    unfold tkN tkR tkS
    rw [HBL.out, Nat.add_sub_cancel]
    exact ⟨htn, rfl, HSH.out⟩)
  have HLN8 : Hid ((tkR bs).length = n8) := hide (by rw [← HTKN.out.2.1]; exact hln8)
  have HIFF : Hid (getB bs = true ↔ gphB ns = true ∧ n8 = 4 * szW ns (wtF 0 ns)) := hide (by
    have h1 := getB_ns (bs := bs) (ns := ns) (by rw [HBL.out]; omega) (by rw [HBL.out, Nat.add_sub_cancel]; exact HSUM.out) HTKN.out.2.2 HTKN.out.1 HKD.out
    rw [HLN8.out] at h1
    exact h1)
  have HGX := hide hgx
  clear hsc5 hbu5 hns htn hb56 hW hrow hown hbx8 hl8 hby8 hln8 hb6 hgx
  have hd0 : Below W6.heap.size W6 W6.drew := below_drewN (Below.refl _ _) 1
  obtain ⟨G, hG⟩ : ∃ z, z = gphB ns := ⟨_, rfl⟩
  have hck := gcheck_any A5 ns.length c5 ns W6.drew (HNS.out.below hd0) (by omega) hcap
  rw [← hG] at hck
  have HCK := hide hck
  have HG := hide hG
  clear hck hG
  obtain ⟨S, hS⟩ : ∃ S, S = szW ns (wtF 0 ns) := ⟨_, rfl⟩
  rw [← hS] at HIFF
  have HS := hide hS
  have hSle : S ≤ 1048576 := by
    have h1 := szW_le ns (wtF 0 ns)
    have h2 := wtF_len11 ns 0
    omega
  clear hS
  go_wp2
  clear hq0 hq1 hf0 hf1
  cases G with
  | false =>
    have HNO : Hid (getB bs = false) := hide (by
      cases hz : getB bs with
      | false => rfl
      | true =>
        have h1 := (HIFF.out.1 hz).1
        rw [← HG.out] at h1
        cases h1)
    have hS0 : Hid (W6.drew.cell? ⟨w3.heap.size, 1, none⟩ = some (.bool false) ∧ W6.drew.cell? ⟨w3.heap.size, 0, none⟩ = some (.slice A8 n8 c8) ∧ W6.drew.cell? ⟨w5.heap.size, 0, none⟩ = some (.slice A5 ns.length c5)) := hide (HKC.out _ hd0)
    refine wp_region_U (fun _ v => v.cell? ⟨w3.heap.size, 1, none⟩ = some (.bool false) ∧ v.cell? ⟨w3.heap.size, 0, none⟩ = some (.slice A8 n8 c8) ∧ v.cell? ⟨w5.heap.size, 0, none⟩ = some (.slice A5 ns.length c5)) 99 (by kernel_rfl) ?_
    refine wpAnyU_take (i := 0) (oi := { dst := some 37, op := _, type := _, pos := _, after := _, guard := none }) (v := .pointer (some ⟨w3.heap.size, 0, none⟩)) rfl (by kernel_rfl) (by kernel_rfl) (by kernel_rfl) (by kernel_rfl) (fun _ _ _ h => h) (yields_take rfl (fun w' hw => by obtain ⟨h1, h2, h3⟩ := hw.const; go_simp)) hS0.out ?_
    simp only [Act.put, List.setIfInBounds_toArray, List.set_cons_zero, List.set_cons_succ]
    refine wpAnyU_take (i := 1) (oi := { dst := some 38, op := _, type := _, pos := _, after := _, guard := none }) (v := .pointer (some ⟨w3.heap.size, 0, none⟩)) rfl (by kernel_rfl) (by kernel_rfl) (by kernel_rfl) (by kernel_rfl) (fun _ _ _ h => h) (yields_take rfl (fun w' hw => by obtain ⟨h1, h2, h3⟩ := hw.const; go_simp)) hS0.out ?_
    simp only [Act.put, List.setIfInBounds_toArray, List.set_cons_zero, List.set_cons_succ]
    refine wpAnyU_take (i := 2) (oi := { dst := some 39, op := _, type := _, pos := _, after := _, guard := none }) (v := .pointer (some ⟨w3.heap.size, 1, none⟩)) rfl (by kernel_rfl) (by kernel_rfl) (by kernel_rfl) (by kernel_rfl) (fun _ _ _ h => h) (yields_take rfl (fun w' hw => by obtain ⟨h1, h2, h3⟩ := hw.const; go_simp)) hS0.out ?_
    simp only [Act.put, List.setIfInBounds_toArray, List.set_cons_zero, List.set_cons_succ]
    refine wpAnyU_take (i := 3) (oi := { dst := some 40, op := _, type := _, pos := _, after := _, guard := none }) (v := .bool false) rfl (by kernel_rfl) (by kernel_rfl) (by kernel_rfl) (by kernel_rfl) (fun _ _ _ h => h) (yields_take rfl (fun w' hw => by obtain ⟨h1, h2, h3⟩ := hw.const; go_simp)) hS0.out ?_
    simp only [Act.put, List.setIfInBounds_toArray, List.set_cons_zero, List.set_cons_succ]
    refine wpAnyU_take (i := 4) (oi := { dst := some 41, op := _, type := _, pos := _, after := _, guard := none }) (v := .bool false) rfl (by kernel_rfl) (by kernel_rfl) (by kernel_rfl) (by kernel_rfl) (fun _ _ _ h => h) (yields_take rfl (fun w' hw => by obtain ⟨h1, h2, h3⟩ := hw.const; go_simp)) hS0.out ?_
    simp only [Act.put, List.setIfInBounds_toArray, List.set_cons_zero, List.set_cons_succ]
    refine wpAnyU_take (i := 5) (oi := { dst := some 42, op := _, type := _, pos := _, after := _, guard := some (4, false) }) (v := .agg #[.slice A5 ns.length c5]) rfl (by kernel_rfl) (by kernel_rfl) (by kernel_rfl) (by kernel_rfl) (fun _ _ _ h => h) (yields_take rfl (fun w' hw => by obtain ⟨h1, h2, h3⟩ := hw.const; go_simp)) hS0.out ?_
    simp only [Act.put, List.setIfInBounds_toArray, List.set_cons_zero, List.set_cons_succ]
    refine wpAnyU_one (i := 6) (by kernel_rfl) rfl ?_
    intro K hK
    go_simp
    refine Calls.mono (HCK.out) ?_
    rintro e w7 ⟨rfl, hb⟩
    (try dsimp only)
    have hd1 : Below W6.heap.size W6 w7 := below_nx6 hd0 hb
    clear hb
    (try dsimp only)
    have hS1 : Hid (w7.cell? ⟨w3.heap.size, 1, none⟩ = some (.bool false) ∧ w7.cell? ⟨w3.heap.size, 0, none⟩ = some (.slice A8 n8 c8) ∧ w7.cell? ⟨w5.heap.size, 0, none⟩ = some (.slice A5 ns.length c5)) := hide (HKC.out _ hd1)
    refine hK.out _ _ hS1.out (fun _ => ?_)
    clear hK K hS0
    refine wpAnyU_take (i := 7) (oi := { dst := some 44, op := _, type := _, pos := _, after := _, guard := some (4, false) }) (v := .bool true) rfl (by kernel_rfl) (by kernel_rfl) (by kernel_rfl) (by kernel_rfl) (fun _ _ _ h => h) (yields_take rfl (fun w' hw => by obtain ⟨h1, h2, h3⟩ := hw.const; go_simp)) hS1.out ?_
    simp only [Act.put, List.setIfInBounds_toArray, List.set_cons_zero, List.set_cons_succ]
    refine wpAnyU_take (i := 8) (oi := { dst := some 45, op := _, type := _, pos := _, after := _, guard := none }) (v := .bool true) rfl (by kernel_rfl) (by kernel_rfl) (by kernel_rfl) (by kernel_rfl) (fun _ _ _ h => h) (yields_take rfl (fun w' hw => by obtain ⟨h1, h2, h3⟩ := hw.const; go_simp)) hS1.out ?_
    simp only [Act.put, List.setIfInBounds_toArray, List.set_cons_zero, List.set_cons_succ]
    refine wpAnyU_take (i := 9) (oi := { dst := some 46, op := _, type := _, pos := _, after := _, guard := none }) (v := .bool true) rfl (by kernel_rfl) (by kernel_rfl) (by kernel_rfl) (by kernel_rfl) (fun _ _ _ h => h) (yields_take rfl (fun w' hw => by obtain ⟨h1, h2, h3⟩ := hw.const; go_simp)) hS1.out ?_
    simp only [Act.put, List.setIfInBounds_toArray, List.set_cons_zero, List.set_cons_succ]
    refine wpAnyU_take (i := 10) (oi := { dst := some 47, op := _, type := _, pos := _, after := _, guard := some (9, false) }) (v := undef) rfl (by kernel_rfl) (by kernel_rfl) (by kernel_rfl) (by kernel_rfl) (fun _ _ _ h => h) (.inr ⟨rfl, rfl⟩) hS1.out ?_
    simp only [Act.put, List.setIfInBounds_toArray, List.set_cons_zero, List.set_cons_succ]
    refine wpAnyU_take (i := 11) (oi := { dst := some 48, op := _, type := _, pos := _, after := _, guard := some (9, false) }) (v := undef) rfl (by kernel_rfl) (by kernel_rfl) (by kernel_rfl) (by kernel_rfl) (fun _ _ _ h => h) (.inr ⟨rfl, rfl⟩) hS1.out ?_
    simp only [Act.put, List.setIfInBounds_toArray, List.set_cons_zero, List.set_cons_succ]
    refine wpAnyU_take (i := 12) (oi := { dst := some 49, op := _, type := _, pos := _, after := _, guard := some (9, false) }) (v := undef) rfl (by kernel_rfl) (by kernel_rfl) (by kernel_rfl) (by kernel_rfl) (fun _ _ _ h => h) (.inr ⟨rfl, rfl⟩) hS1.out ?_
    simp only [Act.put, List.setIfInBounds_toArray, List.set_cons_zero, List.set_cons_succ]
    refine wpAnyU_take (i := 13) (oi := { dst := some 50, op := _, type := _, pos := _, after := _, guard := some (9, false) }) (v := undef) rfl (by kernel_rfl) (by kernel_rfl) (by kernel_rfl) (by kernel_rfl) (fun _ _ _ h => h) (.inr ⟨rfl, rfl⟩) hS1.out ?_
    simp only [Act.put, List.setIfInBounds_toArray, List.set_cons_zero, List.set_cons_succ]
    refine wpAnyU_take (i := 14) (oi := { dst := some 51, op := _, type := _, pos := _, after := _, guard := some (9, false) }) (v := undef) rfl (by kernel_rfl) (by kernel_rfl) (by kernel_rfl) (by kernel_rfl) (fun _ _ _ h => h) (.inr ⟨rfl, rfl⟩) hS1.out ?_
    simp only [Act.put, List.setIfInBounds_toArray, List.set_cons_zero, List.set_cons_succ]
    refine wpAnyU_take (i := 15) (oi := { dst := some 52, op := _, type := _, pos := _, after := _, guard := some (9, false) }) (v := undef) rfl (by kernel_rfl) (by kernel_rfl) (by kernel_rfl) (by kernel_rfl) (fun _ _ _ h => h) (.inr ⟨rfl, rfl⟩) hS1.out ?_
    simp only [Act.put, List.setIfInBounds_toArray, List.set_cons_zero, List.set_cons_succ]
    refine wpAnyU_take (i := 16) (oi := { dst := some 53, op := _, type := _, pos := _, after := _, guard := some (9, false) }) (v := undef) rfl (by kernel_rfl) (by kernel_rfl) (by kernel_rfl) (by kernel_rfl) (fun _ _ _ h => h) (.inr ⟨rfl, rfl⟩) hS1.out ?_
    simp only [Act.put, List.setIfInBounds_toArray, List.set_cons_zero, List.set_cons_succ]
    refine wpAnyU_take (i := 17) (oi := { dst := some 54, op := _, type := _, pos := _, after := _, guard := some (9, false) }) (v := undef) rfl (by kernel_rfl) (by kernel_rfl) (by kernel_rfl) (by kernel_rfl) (fun _ _ _ h => h) (.inr ⟨rfl, rfl⟩) hS1.out ?_
    simp only [Act.put, List.setIfInBounds_toArray, List.set_cons_zero, List.set_cons_succ]
    refine wpAnyU_take (i := 18) (oi := { dst := some 55, op := _, type := _, pos := _, after := _, guard := some (9, false) }) (v := undef) rfl (by kernel_rfl) (by kernel_rfl) (by kernel_rfl) (by kernel_rfl) (fun _ _ _ h => h) (.inr ⟨rfl, rfl⟩) hS1.out ?_
    simp only [Act.put, List.setIfInBounds_toArray, List.set_cons_zero, List.set_cons_succ]
    refine wpAnyU_take (i := 19) (oi := { dst := some 56, op := _, type := _, pos := _, after := _, guard := none }) (v := .bool true) rfl (by kernel_rfl) (by kernel_rfl) (by kernel_rfl) (by kernel_rfl) (fun _ _ _ h => h) (yields_take rfl (fun w' hw => by obtain ⟨h1, h2, h3⟩ := hw.const; go_simp)) hS1.out ?_
    simp only [Act.put, List.setIfInBounds_toArray, List.set_cons_zero, List.set_cons_succ]
    refine wpAnyU_done (by kernel_rfl) ?_ _
    clear hS1
    have HBX : Hid (Below w.heap.size w w7) := hide (HB2.out.trans (hd1.mono HB2.out.size))
    have HG9 : Hid (w7.heap[w.heap.size]? = some (.cells #[.slice none 0 0, .slice none 0 0] 27 (0, 0))) := hide ((hd1.block w.heap.size (lt_of_heap HG2.out)).trans HG2.out)
    have hq0 := cell_of_row _ _ 0 _ _ (0, 0) HG9.out
    have hq1 := cell_of_row _ _ 1 _ _ (0, 0) HG9.out
    have hf0 := frozen_of_row _ _ 0 _ _ HG9.out
    have hf1 := frozen_of_row _ _ 1 _ _ HG9.out
    simp only [List.getElem?_toArray, List.getElem?_cons_zero, List.getElem?_cons_succ] at hq0 hq1
    go_wp2
    have hq2 := hide HBX.out
    have hs1 := heap_setCell_same _ w.heap.size 0 _ _ (.slice none 0 0) HG9.out
    have hs2 := heap_setCell_same _ w.heap.size 1 _ _ (.slice none 0 0) hs1
    have d0 := cell_of_row _ _ 0 _ _ (0, 0) hs2
    have d1 := cell_of_row _ _ 1 _ _ (0, 0) hs2
    have hbe := (HBX.out.trans (below_set1 w.heap.size _ 0 (.slice none 0 0))).trans (below_set1 w.heap.size _ 1 (.slice none 0 0))
    simp only [List.setIfInBounds_toArray, List.set_cons_zero, List.set_cons_succ, List.getElem?_toArray, List.getElem?_cons_zero, List.getElem?_cons_succ] at d0 d1
    refine ⟨rfl, .tuple #[md0, .int .i64 4], ?_, .inl ⟨HNO.out, rfl⟩, hbe⟩
    have hres : Tryz.f13.results = #[.cell 2 27, .tmp 3] := rfl
    simp [results, hres, go_sem, md0, d0, d1]
  | true =>
    by_cases he : n8 = 4 * S
    · have e0 : ((n8 : Int) != 4 * (S : Int)) = false := by rw [bne_eq_false_iff_eq]; omega
      have HYES := hide (HIFF.out.2 ⟨HG.out.symm, he⟩)
      have HE := hide he
      clear he
      have hS0 : Hid (W6.drew.cell? ⟨w3.heap.size, 1, none⟩ = some (.bool false) ∧ W6.drew.cell? ⟨w3.heap.size, 0, none⟩ = some (.slice A8 n8 c8) ∧ W6.drew.cell? ⟨w5.heap.size, 0, none⟩ = some (.slice A5 ns.length c5)) := hide (HKC.out _ hd0)
      refine wp_region_U (fun _ v => v.cell? ⟨w3.heap.size, 1, none⟩ = some (.bool false) ∧ v.cell? ⟨w3.heap.size, 0, none⟩ = some (.slice A8 n8 c8) ∧ v.cell? ⟨w5.heap.size, 0, none⟩ = some (.slice A5 ns.length c5)) 99 (by kernel_rfl) ?_
      refine wpAnyU_take (i := 0) (oi := { dst := some 37, op := _, type := _, pos := _, after := _, guard := none }) (v := .pointer (some ⟨w3.heap.size, 0, none⟩)) rfl (by kernel_rfl) (by kernel_rfl) (by kernel_rfl) (by kernel_rfl) (fun _ _ _ h => h) (yields_take rfl (fun w' hw => by obtain ⟨h1, h2, h3⟩ := hw.const; go_simp)) hS0.out ?_
      simp only [Act.put, List.setIfInBounds_toArray, List.set_cons_zero, List.set_cons_succ]
      refine wpAnyU_take (i := 1) (oi := { dst := some 38, op := _, type := _, pos := _, after := _, guard := none }) (v := .pointer (some ⟨w3.heap.size, 0, none⟩)) rfl (by kernel_rfl) (by kernel_rfl) (by kernel_rfl) (by kernel_rfl) (fun _ _ _ h => h) (yields_take rfl (fun w' hw => by obtain ⟨h1, h2, h3⟩ := hw.const; go_simp)) hS0.out ?_
      simp only [Act.put, List.setIfInBounds_toArray, List.set_cons_zero, List.set_cons_succ]
      refine wpAnyU_take (i := 2) (oi := { dst := some 39, op := _, type := _, pos := _, after := _, guard := none }) (v := .pointer (some ⟨w3.heap.size, 1, none⟩)) rfl (by kernel_rfl) (by kernel_rfl) (by kernel_rfl) (by kernel_rfl) (fun _ _ _ h => h) (yields_take rfl (fun w' hw => by obtain ⟨h1, h2, h3⟩ := hw.const; go_simp)) hS0.out ?_
      simp only [Act.put, List.setIfInBounds_toArray, List.set_cons_zero, List.set_cons_succ]
      refine wpAnyU_take (i := 3) (oi := { dst := some 40, op := _, type := _, pos := _, after := _, guard := none }) (v := .bool false) rfl (by kernel_rfl) (by kernel_rfl) (by kernel_rfl) (by kernel_rfl) (fun _ _ _ h => h) (yields_take rfl (fun w' hw => by obtain ⟨h1, h2, h3⟩ := hw.const; go_simp)) hS0.out ?_
      simp only [Act.put, List.setIfInBounds_toArray, List.set_cons_zero, List.set_cons_succ]
      refine wpAnyU_take (i := 4) (oi := { dst := some 41, op := _, type := _, pos := _, after := _, guard := none }) (v := .bool false) rfl (by kernel_rfl) (by kernel_rfl) (by kernel_rfl) (by kernel_rfl) (fun _ _ _ h => h) (yields_take rfl (fun w' hw => by obtain ⟨h1, h2, h3⟩ := hw.const; go_simp)) hS0.out ?_
      simp only [Act.put, List.setIfInBounds_toArray, List.set_cons_zero, List.set_cons_succ]
      refine wpAnyU_take (i := 5) (oi := { dst := some 42, op := _, type := _, pos := _, after := _, guard := some (4, false) }) (v := .agg #[.slice A5 ns.length c5]) rfl (by kernel_rfl) (by kernel_rfl) (by kernel_rfl) (by kernel_rfl) (fun _ _ _ h => h) (yields_take rfl (fun w' hw => by obtain ⟨h1, h2, h3⟩ := hw.const; go_simp)) hS0.out ?_
      simp only [Act.put, List.setIfInBounds_toArray, List.set_cons_zero, List.set_cons_succ]
      refine wpAnyU_one (i := 6) (by kernel_rfl) rfl ?_
      intro K hK
      go_simp
      refine Calls.mono (HCK.out) ?_
      rintro e w7 ⟨rfl, hb⟩
      (try dsimp only)
      have hd1 : Below W6.heap.size W6 w7 := below_nx6 hd0 hb
      clear hb
      (try dsimp only)
      have hS1 : Hid (w7.cell? ⟨w3.heap.size, 1, none⟩ = some (.bool false) ∧ w7.cell? ⟨w3.heap.size, 0, none⟩ = some (.slice A8 n8 c8) ∧ w7.cell? ⟨w5.heap.size, 0, none⟩ = some (.slice A5 ns.length c5)) := hide (HKC.out _ hd1)
      refine hK.out _ _ hS1.out (fun _ => ?_)
      clear hK K hS0
      refine wpAnyU_take (i := 7) (oi := { dst := some 44, op := _, type := _, pos := _, after := _, guard := some (4, false) }) (v := .bool false) rfl (by kernel_rfl) (by kernel_rfl) (by kernel_rfl) (by kernel_rfl) (fun _ _ _ h => h) (yields_take rfl (fun w' hw => by obtain ⟨h1, h2, h3⟩ := hw.const; go_simp)) hS1.out ?_
      simp only [Act.put, List.setIfInBounds_toArray, List.set_cons_zero, List.set_cons_succ]
      refine wpAnyU_take (i := 8) (oi := { dst := some 45, op := _, type := _, pos := _, after := _, guard := none }) (v := .bool false) rfl (by kernel_rfl) (by kernel_rfl) (by kernel_rfl) (by kernel_rfl) (fun _ _ _ h => h) (yields_take rfl (fun w' hw => by obtain ⟨h1, h2, h3⟩ := hw.const; go_simp)) hS1.out ?_
      simp only [Act.put, List.setIfInBounds_toArray, List.set_cons_zero, List.set_cons_succ]
      refine wpAnyU_take (i := 9) (oi := { dst := some 46, op := _, type := _, pos := _, after := _, guard := none }) (v := .bool false) rfl (by kernel_rfl) (by kernel_rfl) (by kernel_rfl) (by kernel_rfl) (fun _ _ _ h => h) (yields_take rfl (fun w' hw => by obtain ⟨h1, h2, h3⟩ := hw.const; go_simp)) hS1.out ?_
      simp only [Act.put, List.setIfInBounds_toArray, List.set_cons_zero, List.set_cons_succ]
      refine wpAnyU_take (i := 10) (oi := { dst := some 47, op := _, type := _, pos := _, after := _, guard := some (9, false) }) (v := .pointer (some ⟨w3.heap.size, 0, none⟩)) rfl (by kernel_rfl) (by kernel_rfl) (by kernel_rfl) (by kernel_rfl) (fun _ _ _ h => h) (yields_take rfl (fun w' hw => by obtain ⟨h1, h2, h3⟩ := hw.const; go_simp)) hS1.out ?_
      simp only [Act.put, List.setIfInBounds_toArray, List.set_cons_zero, List.set_cons_succ]
      refine wpAnyU_take (i := 11) (oi := { dst := some 48, op := _, type := _, pos := _, after := _, guard := some (9, false) }) (v := .pointer (some ⟨w3.heap.size, 0, none⟩)) rfl (by kernel_rfl) (by kernel_rfl) (by kernel_rfl) (by kernel_rfl) (fun _ _ _ h => h) (yields_take rfl (fun w' hw => by obtain ⟨h1, h2, h3⟩ := hw.const; go_simp)) hS1.out ?_
      simp only [Act.put, List.setIfInBounds_toArray, List.set_cons_zero, List.set_cons_succ]
      refine wpAnyU_take (i := 12) (oi := { dst := some 49, op := _, type := _, pos := _, after := _, guard := some (9, false) }) (v := .pointer (some ⟨w3.heap.size, 0, none⟩)) rfl (by kernel_rfl) (by kernel_rfl) (by kernel_rfl) (by kernel_rfl) (fun _ _ _ h => h) (yields_take rfl (fun w' hw => by obtain ⟨h1, h2, h3⟩ := hw.const; go_simp)) hS1.out ?_
      simp only [Act.put, List.setIfInBounds_toArray, List.set_cons_zero, List.set_cons_succ]
      refine wpAnyU_take (i := 13) (oi := { dst := some 50, op := _, type := _, pos := _, after := _, guard := some (9, false) }) (v := .slice A8 n8 c8) rfl (by kernel_rfl) (by kernel_rfl) (by kernel_rfl) (by kernel_rfl) (fun _ _ _ h => h) (yields_take rfl (fun w' hw => by obtain ⟨h1, h2, h3⟩ := hw.const; go_simp)) hS1.out ?_
      simp only [Act.put, List.setIfInBounds_toArray, List.set_cons_zero, List.set_cons_succ]
      refine wpAnyU_take (i := 14) (oi := { dst := some 51, op := _, type := _, pos := _, after := _, guard := some (9, false) }) (v := .int .i64 (n8 : Int)) rfl (by kernel_rfl) (by kernel_rfl) (by kernel_rfl) (by kernel_rfl) (fun _ _ _ h => h) (yields_take rfl (fun w' hw => by obtain ⟨h1, h2, h3⟩ := hw.const; go_simp)) hS1.out ?_
      simp only [Act.put, List.setIfInBounds_toArray, List.set_cons_zero, List.set_cons_succ]
      refine wpAnyU_take (i := 15) (oi := { dst := some 52, op := _, type := _, pos := _, after := _, guard := some (9, false) }) (v := .agg #[.slice A5 ns.length c5]) rfl (by kernel_rfl) (by kernel_rfl) (by kernel_rfl) (by kernel_rfl) (fun _ _ _ h => h) (yields_take rfl (fun w' hw => by obtain ⟨h1, h2, h3⟩ := hw.const; go_simp)) hS1.out ?_
      simp only [Act.put, List.setIfInBounds_toArray, List.set_cons_zero, List.set_cons_succ]
      refine wpAnyU_one (i := 16) (by kernel_rfl) rfl ?_
      intro K hK
      go_simp
      refine Calls.mono (numbersOf11_any A5 ns.length c5 ns _ (HNS.out.below hd1) HG.out.symm) ?_
      rintro e w8 ⟨he, hb⟩
      (try dsimp only)
      rw [← HS.out] at he
      subst he
      have hd2 : Below W6.heap.size W6 w8 := below_nx6 hd1 hb
      clear hb
      (try dsimp only)
      have hS2 : Hid (w8.cell? ⟨w3.heap.size, 1, none⟩ = some (.bool false) ∧ w8.cell? ⟨w3.heap.size, 0, none⟩ = some (.slice A8 n8 c8) ∧ w8.cell? ⟨w5.heap.size, 0, none⟩ = some (.slice A5 ns.length c5)) := hide (HKC.out _ hd2)
      refine hK.out _ _ hS2.out (fun _ => ?_)
      clear hK K hS1
      refine wpAnyU_take (i := 17) (oi := { dst := some 54, op := _, type := _, pos := _, after := _, guard := some (9, false) }) (v := .int .i64 (4 * (S : Int))) rfl (by kernel_rfl) (by kernel_rfl) (by kernel_rfl) (by kernel_rfl) (fun _ _ _ h => h) (yields_take rfl (fun w' hw => by obtain ⟨h1, h2, h3⟩ := hw.const; go_simp; rw [IntKind.wrap_i64]; omega)) hS2.out ?_
      simp only [Act.put, List.setIfInBounds_toArray, List.set_cons_zero, List.set_cons_succ]
      refine wpAnyU_take (i := 18) (oi := { dst := some 55, op := _, type := _, pos := _, after := _, guard := some (9, false) }) (v := .bool false) rfl (by kernel_rfl) (by kernel_rfl) (by kernel_rfl) (by kernel_rfl) (fun _ _ _ h => h) (yields_take rfl (fun w' hw => by obtain ⟨h1, h2, h3⟩ := hw.const; go_simp)) hS2.out ?_
      simp only [Act.put, List.setIfInBounds_toArray, List.set_cons_zero, List.set_cons_succ]
      refine wpAnyU_take (i := 19) (oi := { dst := some 56, op := _, type := _, pos := _, after := _, guard := none }) (v := .bool false) rfl (by kernel_rfl) (by kernel_rfl) (by kernel_rfl) (by kernel_rfl) (fun _ _ _ h => h) (yields_take rfl (fun w' hw => by obtain ⟨h1, h2, h3⟩ := hw.const; go_simp)) hS2.out ?_
      simp only [Act.put, List.setIfInBounds_toArray, List.set_cons_zero, List.set_cons_succ]
      refine wpAnyU_done (by kernel_rfl) ?_ _
      clear hS2
      have hd3 : Below W6.heap.size W6 w8.drew := below_drewN hd2 1
      clear e0
      go_wp2
      have hS0 : Hid (w8.drew.cell? ⟨w3.heap.size, 1, none⟩ = some (.bool false) ∧ w8.drew.cell? ⟨w3.heap.size, 0, none⟩ = some (.slice A8 n8 c8) ∧ w8.drew.cell? ⟨w5.heap.size, 0, none⟩ = some (.slice A5 ns.length c5)) := hide (HKC.out _ hd3)
      refine wp_region_U (fun b v => b = false → v.cell? ⟨w3.heap.size, 1, none⟩ = some (.bool false) ∧ v.cell? ⟨w3.heap.size, 0, none⟩ = some (.slice A8 n8 c8) ∧ v.cell? ⟨w5.heap.size, 0, none⟩ = some (.slice A5 ns.length c5)) 8 (by kernel_rfl) ?_
      refine wpAnyU_take (i := 0) (oi := { dst := some 58, op := _, type := _, pos := _, after := _, guard := none }) (v := .agg #[.slice A5 ns.length c5]) rfl (by kernel_rfl) (by kernel_rfl) (by kernel_rfl) (by kernel_rfl) (fun _ _ _ h => h) (yields_take rfl (fun w' hw => by obtain ⟨h1, h2, h3⟩ := hw.no (by kernel_rfl) rfl; go_simp)) (fun _ => hS0.out) ?_
      simp only [Act.put, List.setIfInBounds_toArray, List.set_cons_zero, List.set_cons_succ]
      refine wpAnyU_take (i := 1) (oi := { dst := some 59, op := _, type := _, pos := _, after := _, guard := none }) (v := .agg #[.slice A5 ns.length c5]) rfl (by kernel_rfl) (by kernel_rfl) (by kernel_rfl) (by kernel_rfl) (fun _ _ _ h => h) (yields_take rfl (fun w' hw => by obtain ⟨h1, h2, h3⟩ := hw.no (by kernel_rfl) rfl; go_simp)) (fun _ => hS0.out) ?_
      simp only [Act.put, List.setIfInBounds_toArray, List.set_cons_zero, List.set_cons_succ]
      refine wpAnyU_take (i := 2) (oi := { dst := some 60, op := _, type := _, pos := _, after := _, guard := none }) (v := .pointer (some ⟨w3.heap.size, 0, none⟩)) rfl (by kernel_rfl) (by kernel_rfl) (by kernel_rfl) (by kernel_rfl) (fun _ _ _ h => h) (yields_take rfl (fun w' hw => by obtain ⟨h1, h2, h3⟩ := hw.no (by kernel_rfl) rfl; go_simp)) (fun _ => hS0.out) ?_
      simp only [Act.put, List.setIfInBounds_toArray, List.set_cons_zero, List.set_cons_succ]
      refine wpAnyU_take (i := 3) (oi := { dst := some 61, op := _, type := _, pos := _, after := _, guard := none }) (v := .pointer (some ⟨w3.heap.size, 0, none⟩)) rfl (by kernel_rfl) (by kernel_rfl) (by kernel_rfl) (by kernel_rfl) (fun _ _ _ h => h) (yields_take rfl (fun w' hw => by obtain ⟨h1, h2, h3⟩ := hw.no (by kernel_rfl) rfl; go_simp)) (fun _ => hS0.out) ?_
      simp only [Act.put, List.setIfInBounds_toArray, List.set_cons_zero, List.set_cons_succ]
      refine wpAnyU_take (i := 4) (oi := { dst := some 62, op := _, type := _, pos := _, after := _, guard := none }) (v := .pointer (some ⟨w3.heap.size, 0, none⟩)) rfl (by kernel_rfl) (by kernel_rfl) (by kernel_rfl) (by kernel_rfl) (fun _ _ _ h => h) (yields_take rfl (fun w' hw => by obtain ⟨h1, h2, h3⟩ := hw.no (by kernel_rfl) rfl; go_simp)) (fun _ => hS0.out) ?_
      simp only [Act.put, List.setIfInBounds_toArray, List.set_cons_zero, List.set_cons_succ]
      refine wpAnyU_take (i := 5) (oi := { dst := some 63, op := _, type := _, pos := _, after := _, guard := none }) (v := .slice A8 n8 c8) rfl (by kernel_rfl) (by kernel_rfl) (by kernel_rfl) (by kernel_rfl) (fun _ _ _ h => h) (yields_take rfl (fun w' hw => by obtain ⟨h1, h2, h3⟩ := hw.no (by kernel_rfl) rfl; go_simp)) (fun _ => hS0.out) ?_
      simp only [Act.put, List.setIfInBounds_toArray, List.set_cons_zero, List.set_cons_succ]
      refine wpAnyU_one (i := 6) (by kernel_rfl) rfl ?_
      intro K hK
      go_simp
      refine Calls.mono (getWeights11_any A5 A8 ns.length c5 n8 c8 ns _ _ (HNS.out.below hd3) HG.out.symm (HL8.out.below hd3) HBY8.out (by rw [← HS.out]; exact HE.out) hn8c hc8) ?_
      rintro e w9 ⟨ts, A9, c9, rfl, hwg, hfit, hwsI, hb9⟩
      (try dsimp only)
      have hd4 : Below W6.heap.size W6 w9 := below_nx6 hd3 hb9
      have HWG := hide hwg
      have HFI := hide hfit
      have HWI := hide hwsI
      have hsz9 : w.heap.size < w8.drew.heap.size := Nat.lt_of_lt_of_le (lt_of_heap HG2.out) hd3.size
      have hS1 : Hid (w9.cell? ⟨w3.heap.size, 1, none⟩ = some (.bool false) ∧ w9.cell? ⟨w3.heap.size, 0, none⟩ = some (.slice A8 n8 c8) ∧ w9.cell? ⟨w5.heap.size, 0, none⟩ = some (.slice A5 ns.length c5)) := hide (HKC.out _ hd4)
      refine hK.out _ _ (fun _ => hS1.out) (fun _ => ?_)
      clear hK K hS0 hwg hfit hwsI hb9
      refine wpAnyU_take (i := 7) (oi := { dst := some 65, op := _, type := _, pos := _, after := _, guard := none }) (v := .agg #[.slice A5 ns.length c5, .slice A9 ts.length c9]) rfl (by kernel_rfl) (by kernel_rfl) (by kernel_rfl) (by kernel_rfl) (fun _ _ _ h => h) (yields_take rfl (fun w' hw => by obtain ⟨h1, h2, h3⟩ := hw.no (by kernel_rfl) rfl; go_simp)) (fun _ => hS1.out) ?_
      simp only [Act.put, List.setIfInBounds_toArray, List.set_cons_zero, List.set_cons_succ]
      have HBX : Hid (Below w.heap.size w w9) := hide (HB2.out.trans (hd4.mono HB2.out.size))
      have HG9 : Hid (w9.heap[w.heap.size]? = some (.cells #[.slice none 0 0, .slice none 0 0] 27 (0, 0))) := hide ((hd4.block w.heap.size (lt_of_heap HG2.out)).trans HG2.out)
      have hq0 := cell_of_row _ _ 0 _ _ (0, 0) HG9.out
      have hq1 := cell_of_row _ _ 1 _ _ (0, 0) HG9.out
      have hf0 := frozen_of_row _ _ 0 _ _ HG9.out
      have hf1 := frozen_of_row _ _ 1 _ _ HG9.out
      simp only [List.getElem?_toArray, List.getElem?_cons_zero, List.getElem?_cons_succ] at hq0 hq1
      refine wpAnyU_one (i := 8) (by kernel_rfl) rfl ?_
      intro K hK
      go_simp
      refine hK _ _ (fun h => by cases h) (fun _ => ?_)
      clear hK K
      refine wpAnyU_take (i := 9) (oi := { dst := some 3, op := _, type := _, pos := _, after := _, guard := none }) (v := .int .i64 0) rfl (by kernel_rfl) (by kernel_rfl) (by kernel_rfl) (by kernel_rfl) (fun _ _ _ h => h) (yields_take rfl (fun w' hw => by go_simp)) (fun h => by cases h) ?_
      simp only [Act.put, List.setIfInBounds_toArray, List.set_cons_zero, List.set_cons_succ]
      refine wpAnyU_done (by kernel_rfl) ?_ _
      clear hS1
      go_wp2
      have hs1 := heap_setCell_same _ w.heap.size 0 _ _ (.slice A5 ns.length c5) HG9.out
      have hs2 := heap_setCell_same _ w.heap.size 1 _ _ (.slice A9 ts.length c9) hs1
      have d0 := cell_of_row _ _ 0 _ _ (0, 0) hs2
      have d1 := cell_of_row _ _ 1 _ _ (0, 0) hs2
      have hbe := (HBX.out.trans (below_set1 w.heap.size _ 0 (.slice A5 ns.length c5))).trans (below_set1 w.heap.size _ 1 (.slice A9 ts.length c9))
      have hbut := (but_set w9 w.heap.size 0 (.slice A5 ns.length c5)).trans (but_set _ w.heap.size 1 (.slice A9 ts.length c9))
      have hr4 : w.heap.size < W4.heap.size := Nat.lt_of_lt_of_le hw3 hw34
      have hnsF := nsIn_own (own_but (own_keep10 HRW.out hd4) hbut hr4) (fun j x hj => ⟨ownN_but ((HON.out j x hj).1.below hd4) hbut hr4, (HON.out j x hj).2⟩)
      have hwsF := (HWG.out.but hbut hsz9).wsIn
      obtain ⟨m1, m2⟩ := put_getB HBA.out HYES.out HTKN.out.1 HKD.out (by rw [HWI.out]; exact HTKN.out.2.1) HFI.out
      simp only [List.setIfInBounds_toArray, List.set_cons_zero, List.set_cons_succ, List.getElem?_toArray, List.getElem?_cons_zero, List.getElem?_cons_succ] at d0 d1
      refine ⟨rfl, .tuple #[.agg #[.slice A5 ns.length c5, .slice A9 ts.length c9], .int .i64 0], ?_, .inr ⟨HYES.out, ns, ts, A5, A9, c5, c9, rfl, hcap, hnsF, hwsF, m1, m2, HKD.out⟩, hbe⟩
      have hres : Tryz.f13.results = #[.cell 2 27, .tmp 3] := rfl
      simp [results, hres, go_sem, d0, d1]
    · have e0 : ((n8 : Int) != 4 * (S : Int)) = true := by rw [bne_iff_ne]; omega
      have HNO : Hid (getB bs = false) := hide (by
        cases hz : getB bs with
        | false => rfl
        | true => exact absurd (HIFF.out.1 hz).2 he)
      clear he
      have hS0 : Hid (W6.drew.cell? ⟨w3.heap.size, 1, none⟩ = some (.bool false) ∧ W6.drew.cell? ⟨w3.heap.size, 0, none⟩ = some (.slice A8 n8 c8) ∧ W6.drew.cell? ⟨w5.heap.size, 0, none⟩ = some (.slice A5 ns.length c5)) := hide (HKC.out _ hd0)
      refine wp_region_U (fun _ v => v.cell? ⟨w3.heap.size, 1, none⟩ = some (.bool false) ∧ v.cell? ⟨w3.heap.size, 0, none⟩ = some (.slice A8 n8 c8) ∧ v.cell? ⟨w5.heap.size, 0, none⟩ = some (.slice A5 ns.length c5)) 99 (by kernel_rfl) ?_
      refine wpAnyU_take (i := 0) (oi := { dst := some 37, op := _, type := _, pos := _, after := _, guard := none }) (v := .pointer (some ⟨w3.heap.size, 0, none⟩)) rfl (by kernel_rfl) (by kernel_rfl) (by kernel_rfl) (by kernel_rfl) (fun _ _ _ h => h) (yields_take rfl (fun w' hw => by obtain ⟨h1, h2, h3⟩ := hw.const; go_simp)) hS0.out ?_
      simp only [Act.put, List.setIfInBounds_toArray, List.set_cons_zero, List.set_cons_succ]
      refine wpAnyU_take (i := 1) (oi := { dst := some 38, op := _, type := _, pos := _, after := _, guard := none }) (v := .pointer (some ⟨w3.heap.size, 0, none⟩)) rfl (by kernel_rfl) (by kernel_rfl) (by kernel_rfl) (by kernel_rfl) (fun _ _ _ h => h) (yields_take rfl (fun w' hw => by obtain ⟨h1, h2, h3⟩ := hw.const; go_simp)) hS0.out ?_
      simp only [Act.put, List.setIfInBounds_toArray, List.set_cons_zero, List.set_cons_succ]
      refine wpAnyU_take (i := 2) (oi := { dst := some 39, op := _, type := _, pos := _, after := _, guard := none }) (v := .pointer (some ⟨w3.heap.size, 1, none⟩)) rfl (by kernel_rfl) (by kernel_rfl) (by kernel_rfl) (by kernel_rfl) (fun _ _ _ h => h) (yields_take rfl (fun w' hw => by obtain ⟨h1, h2, h3⟩ := hw.const; go_simp)) hS0.out ?_
      simp only [Act.put, List.setIfInBounds_toArray, List.set_cons_zero, List.set_cons_succ]
      refine wpAnyU_take (i := 3) (oi := { dst := some 40, op := _, type := _, pos := _, after := _, guard := none }) (v := .bool false) rfl (by kernel_rfl) (by kernel_rfl) (by kernel_rfl) (by kernel_rfl) (fun _ _ _ h => h) (yields_take rfl (fun w' hw => by obtain ⟨h1, h2, h3⟩ := hw.const; go_simp)) hS0.out ?_
      simp only [Act.put, List.setIfInBounds_toArray, List.set_cons_zero, List.set_cons_succ]
      refine wpAnyU_take (i := 4) (oi := { dst := some 41, op := _, type := _, pos := _, after := _, guard := none }) (v := .bool false) rfl (by kernel_rfl) (by kernel_rfl) (by kernel_rfl) (by kernel_rfl) (fun _ _ _ h => h) (yields_take rfl (fun w' hw => by obtain ⟨h1, h2, h3⟩ := hw.const; go_simp)) hS0.out ?_
      simp only [Act.put, List.setIfInBounds_toArray, List.set_cons_zero, List.set_cons_succ]
      refine wpAnyU_take (i := 5) (oi := { dst := some 42, op := _, type := _, pos := _, after := _, guard := some (4, false) }) (v := .agg #[.slice A5 ns.length c5]) rfl (by kernel_rfl) (by kernel_rfl) (by kernel_rfl) (by kernel_rfl) (fun _ _ _ h => h) (yields_take rfl (fun w' hw => by obtain ⟨h1, h2, h3⟩ := hw.const; go_simp)) hS0.out ?_
      simp only [Act.put, List.setIfInBounds_toArray, List.set_cons_zero, List.set_cons_succ]
      refine wpAnyU_one (i := 6) (by kernel_rfl) rfl ?_
      intro K hK
      go_simp
      refine Calls.mono (HCK.out) ?_
      rintro e w7 ⟨rfl, hb⟩
      (try dsimp only)
      have hd1 : Below W6.heap.size W6 w7 := below_nx6 hd0 hb
      clear hb
      (try dsimp only)
      have hS1 : Hid (w7.cell? ⟨w3.heap.size, 1, none⟩ = some (.bool false) ∧ w7.cell? ⟨w3.heap.size, 0, none⟩ = some (.slice A8 n8 c8) ∧ w7.cell? ⟨w5.heap.size, 0, none⟩ = some (.slice A5 ns.length c5)) := hide (HKC.out _ hd1)
      refine hK.out _ _ hS1.out (fun _ => ?_)
      clear hK K hS0
      refine wpAnyU_take (i := 7) (oi := { dst := some 44, op := _, type := _, pos := _, after := _, guard := some (4, false) }) (v := .bool false) rfl (by kernel_rfl) (by kernel_rfl) (by kernel_rfl) (by kernel_rfl) (fun _ _ _ h => h) (yields_take rfl (fun w' hw => by obtain ⟨h1, h2, h3⟩ := hw.const; go_simp)) hS1.out ?_
      simp only [Act.put, List.setIfInBounds_toArray, List.set_cons_zero, List.set_cons_succ]
      refine wpAnyU_take (i := 8) (oi := { dst := some 45, op := _, type := _, pos := _, after := _, guard := none }) (v := .bool false) rfl (by kernel_rfl) (by kernel_rfl) (by kernel_rfl) (by kernel_rfl) (fun _ _ _ h => h) (yields_take rfl (fun w' hw => by obtain ⟨h1, h2, h3⟩ := hw.const; go_simp)) hS1.out ?_
      simp only [Act.put, List.setIfInBounds_toArray, List.set_cons_zero, List.set_cons_succ]
      refine wpAnyU_take (i := 9) (oi := { dst := some 46, op := _, type := _, pos := _, after := _, guard := none }) (v := .bool false) rfl (by kernel_rfl) (by kernel_rfl) (by kernel_rfl) (by kernel_rfl) (fun _ _ _ h => h) (yields_take rfl (fun w' hw => by obtain ⟨h1, h2, h3⟩ := hw.const; go_simp)) hS1.out ?_
      simp only [Act.put, List.setIfInBounds_toArray, List.set_cons_zero, List.set_cons_succ]
      refine wpAnyU_take (i := 10) (oi := { dst := some 47, op := _, type := _, pos := _, after := _, guard := some (9, false) }) (v := .pointer (some ⟨w3.heap.size, 0, none⟩)) rfl (by kernel_rfl) (by kernel_rfl) (by kernel_rfl) (by kernel_rfl) (fun _ _ _ h => h) (yields_take rfl (fun w' hw => by obtain ⟨h1, h2, h3⟩ := hw.const; go_simp)) hS1.out ?_
      simp only [Act.put, List.setIfInBounds_toArray, List.set_cons_zero, List.set_cons_succ]
      refine wpAnyU_take (i := 11) (oi := { dst := some 48, op := _, type := _, pos := _, after := _, guard := some (9, false) }) (v := .pointer (some ⟨w3.heap.size, 0, none⟩)) rfl (by kernel_rfl) (by kernel_rfl) (by kernel_rfl) (by kernel_rfl) (fun _ _ _ h => h) (yields_take rfl (fun w' hw => by obtain ⟨h1, h2, h3⟩ := hw.const; go_simp)) hS1.out ?_
      simp only [Act.put, List.setIfInBounds_toArray, List.set_cons_zero, List.set_cons_succ]
      refine wpAnyU_take (i := 12) (oi := { dst := some 49, op := _, type := _, pos := _, after := _, guard := some (9, false) }) (v := .pointer (some ⟨w3.heap.size, 0, none⟩)) rfl (by kernel_rfl) (by kernel_rfl) (by kernel_rfl) (by kernel_rfl) (fun _ _ _ h => h) (yields_take rfl (fun w' hw => by obtain ⟨h1, h2, h3⟩ := hw.const; go_simp)) hS1.out ?_
      simp only [Act.put, List.setIfInBounds_toArray, List.set_cons_zero, List.set_cons_succ]
      refine wpAnyU_take (i := 13) (oi := { dst := some 50, op := _, type := _, pos := _, after := _, guard := some (9, false) }) (v := .slice A8 n8 c8) rfl (by kernel_rfl) (by kernel_rfl) (by kernel_rfl) (by kernel_rfl) (fun _ _ _ h => h) (yields_take rfl (fun w' hw => by obtain ⟨h1, h2, h3⟩ := hw.const; go_simp)) hS1.out ?_
      simp only [Act.put, List.setIfInBounds_toArray, List.set_cons_zero, List.set_cons_succ]
      refine wpAnyU_take (i := 14) (oi := { dst := some 51, op := _, type := _, pos := _, after := _, guard := some (9, false) }) (v := .int .i64 (n8 : Int)) rfl (by kernel_rfl) (by kernel_rfl) (by kernel_rfl) (by kernel_rfl) (fun _ _ _ h => h) (yields_take rfl (fun w' hw => by obtain ⟨h1, h2, h3⟩ := hw.const; go_simp)) hS1.out ?_
      simp only [Act.put, List.setIfInBounds_toArray, List.set_cons_zero, List.set_cons_succ]
      refine wpAnyU_take (i := 15) (oi := { dst := some 52, op := _, type := _, pos := _, after := _, guard := some (9, false) }) (v := .agg #[.slice A5 ns.length c5]) rfl (by kernel_rfl) (by kernel_rfl) (by kernel_rfl) (by kernel_rfl) (fun _ _ _ h => h) (yields_take rfl (fun w' hw => by obtain ⟨h1, h2, h3⟩ := hw.const; go_simp)) hS1.out ?_
      simp only [Act.put, List.setIfInBounds_toArray, List.set_cons_zero, List.set_cons_succ]
      refine wpAnyU_one (i := 16) (by kernel_rfl) rfl ?_
      intro K hK
      go_simp
      refine Calls.mono (numbersOf11_any A5 ns.length c5 ns _ (HNS.out.below hd1) HG.out.symm) ?_
      rintro e w8 ⟨he, hb⟩
      (try dsimp only)
      rw [← HS.out] at he
      subst he
      have hd2 : Below W6.heap.size W6 w8 := below_nx6 hd1 hb
      clear hb
      (try dsimp only)
      have hS2 : Hid (w8.cell? ⟨w3.heap.size, 1, none⟩ = some (.bool false) ∧ w8.cell? ⟨w3.heap.size, 0, none⟩ = some (.slice A8 n8 c8) ∧ w8.cell? ⟨w5.heap.size, 0, none⟩ = some (.slice A5 ns.length c5)) := hide (HKC.out _ hd2)
      refine hK.out _ _ hS2.out (fun _ => ?_)
      clear hK K hS1
      refine wpAnyU_take (i := 17) (oi := { dst := some 54, op := _, type := _, pos := _, after := _, guard := some (9, false) }) (v := .int .i64 (4 * (S : Int))) rfl (by kernel_rfl) (by kernel_rfl) (by kernel_rfl) (by kernel_rfl) (fun _ _ _ h => h) (yields_take rfl (fun w' hw => by obtain ⟨h1, h2, h3⟩ := hw.const; go_simp; rw [IntKind.wrap_i64]; omega)) hS2.out ?_
      simp only [Act.put, List.setIfInBounds_toArray, List.set_cons_zero, List.set_cons_succ]
      refine wpAnyU_take (i := 18) (oi := { dst := some 55, op := _, type := _, pos := _, after := _, guard := some (9, false) }) (v := .bool true) rfl (by kernel_rfl) (by kernel_rfl) (by kernel_rfl) (by kernel_rfl) (fun _ _ _ h => h) (yields_take rfl (fun w' hw => by obtain ⟨h1, h2, h3⟩ := hw.const; go_simp)) hS2.out ?_
      simp only [Act.put, List.setIfInBounds_toArray, List.set_cons_zero, List.set_cons_succ]
      refine wpAnyU_take (i := 19) (oi := { dst := some 56, op := _, type := _, pos := _, after := _, guard := none }) (v := .bool true) rfl (by kernel_rfl) (by kernel_rfl) (by kernel_rfl) (by kernel_rfl) (fun _ _ _ h => h) (yields_take rfl (fun w' hw => by obtain ⟨h1, h2, h3⟩ := hw.const; go_simp)) hS2.out ?_
      simp only [Act.put, List.setIfInBounds_toArray, List.set_cons_zero, List.set_cons_succ]
      refine wpAnyU_done (by kernel_rfl) ?_ _
      clear hS2
      have HBX : Hid (Below w.heap.size w w8) := hide (HB2.out.trans (hd2.mono HB2.out.size))
      have HG9 : Hid (w8.heap[w.heap.size]? = some (.cells #[.slice none 0 0, .slice none 0 0] 27 (0, 0))) := hide ((hd2.block w.heap.size (lt_of_heap HG2.out)).trans HG2.out)
      have hq0 := cell_of_row _ _ 0 _ _ (0, 0) HG9.out
      have hq1 := cell_of_row _ _ 1 _ _ (0, 0) HG9.out
      have hf0 := frozen_of_row _ _ 0 _ _ HG9.out
      have hf1 := frozen_of_row _ _ 1 _ _ HG9.out
      simp only [List.getElem?_toArray, List.getElem?_cons_zero, List.getElem?_cons_succ] at hq0 hq1
      go_wp2
      have hq2 := hide HBX.out
      have hs1 := heap_setCell_same _ w.heap.size 0 _ _ (.slice none 0 0) HG9.out
      have hs2 := heap_setCell_same _ w.heap.size 1 _ _ (.slice none 0 0) hs1
      have d0 := cell_of_row _ _ 0 _ _ (0, 0) hs2
      have d1 := cell_of_row _ _ 1 _ _ (0, 0) hs2
      have hbe := (HBX.out.trans (below_set1 w.heap.size _ 0 (.slice none 0 0))).trans (below_set1 w.heap.size _ 1 (.slice none 0 0))
      simp only [List.setIfInBounds_toArray, List.set_cons_zero, List.set_cons_succ, List.getElem?_toArray, List.getElem?_cons_zero, List.getElem?_cons_succ] at d0 d1
      refine ⟨rfl, .tuple #[md0, .int .i64 4], ?_, .inl ⟨HNO.out, rfl⟩, hbe⟩
      have hres : Tryz.f13.results = #[.cell 2 27, .tmp 3] := rfl
      simp [results, hres, go_sem, md0, d0, d1]

end

section
open Go.RowKit
set_option linter.unusedVariables false
set_option linter.unusedSimpArgs false
set_option maxRecDepth 100000

theorem mget_any (A : Option Addr) (n c : Nat) (bs : List Int) (w : World) (h : Lies w A n (bs.map (Value.int .u8))) (hb : ByteL bs) (hn9 : n ≤ 1000000000) (hnc : n ≤ c) (hc : c ≤ 9223372036854775807) :
    Calls Tryz.prog 13 #[.slice A n c] w fun e w' => (getB bs = false ∧ (∃ z : Int, (z = 5 ∨ z = 11 ∨ z = 4) ∧ e = .returned (.tuple #[md0, .int .i64 z])) ∨ getB bs = true ∧ ∃ (ns : List Nd) (ts : List Wt) (A' B' : Option Addr) (c' d' : Nat), e = .returned (.tuple #[.agg #[.slice A' ns.length c', .slice B' ts.length d'], .int .i64 0]) ∧ ns.length ≤ c' ∧ NsIn w' A' ns.length ns ∧ WsIn w' B' ts.length ts ∧ mdB ns ts = true ∧ mdP ns ts = bs ∧ ∀ x ∈ ns, 0 ≤ x.kd) ∧ Below w.heap.size w w' := by
  have hl : bs.length = n := lies_len9 h
  have hno : ∀ {p : Prop}, (getB bs = true → ¬ p) → p → getB bs = false := fun {p} hp hq => by
    cases e : getB bs with
    | false => rfl
    | true => exact absurd hq (hp e)
  by_cases h4 : n < 4
  · refine Calls.mono (get_short A n c bs w h hb h4 hnc) ?_
    rintro e w' ⟨rfl, hbe⟩
    exact ⟨.inl ⟨hno (fun hz => by have := (getB_parts.1 hz).1; omega) h4, 5, .inl rfl, rfl⟩, hbe⟩
  · have h4' : 4 ≤ n := by omega
    by_cases hs : head4 (bs.drop (n - 4)) = ((sumOf (bs.take (n - 4)) : Nat) : Int)
    · cases hsh : (tkGraph (bs.take (n - 4), false)).2.2 with
      | true =>
        refine Calls.mono (get_form A n c bs w h hb h4' hn9 hnc hc hs hsh) ?_
        rintro e w' ⟨rfl, hbe⟩
        refine ⟨.inl ⟨hno (fun hz => ?_) hsh, 4, .inr (.inr rfl), rfl⟩, hbe⟩
        have := (getB_parts.1 hz).2.2.1
        rw [tkS, hl] at this
        rw [this]
        simp
      | false =>
        refine Calls.mono (get_rest A n c bs w h hb h4' hn9 hnc hc hs hsh) ?_
        rintro e w' ⟨h1, hbe⟩
        refine ⟨?_, hbe⟩
        rcases h1 with ⟨h2, rfl⟩ | h2
        · exact .inl ⟨h2, 4, .inr (.inr rfl), rfl⟩
        · exact .inr h2
    · refine Calls.mono (get_sum A n c bs w h hb h4' hn9 hnc hc hs) ?_
      rintro e w' ⟨rfl, hbe⟩
      exact ⟨.inl ⟨hno (fun hz => by have h1 := (getB_parts.1 hz).2.1; rw [hl] at h1; exact fun h => h h1) hs, 11, .inr (.inl rfl), rfl⟩, hbe⟩

end

end Go.Proofs.YtohndckbhjakfaaGreatDoor
