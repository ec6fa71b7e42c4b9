/- Merged: Mt11. -/
import Derived.Test.YtohndckbhjakfaaGreatDoorWZ39
import Derived.Test.YtohndckbhjakfaaGreatDoorWZ41
import Derived.Test.YtohndckbhjakfaaGreatDoorWZ42
namespace Go.Proofs.YtohndckbhjakfaaGreatDoor

section
open Go.RowKit
set_option linter.unusedVariables false
set_option linter.unusedSimpArgs false
set_option maxRecDepth 100000

theorem mdB_nil : mdB [] [] = false := by decide

theorem four11Q (n : Nat) (hn : n < 4294967296) (w : World) (q : Nat) (hq : w.heap.size = q) : Calls Tryz.prog 17 #[.int .u32 (n : Int)] w fun e w' => e = .returned (.slice (some ⟨q, 0, none⟩) 4 4) ∧ w' = w.alloc (.cells (fourV11 (n : Int)).toArray 5) := by
  subst hq
  exact four11_any n hn w

set_option maxHeartbeats 16000000 in
theorem modelsTurned_any (A B C : Option Addr) (n c m d p cp : Nat) (ns : List Nd) (ts : List Wt) (bs : List Int) (at1 by1 : Nat) (w : World) (h : NsIn w A n ns) (hc : n ≤ c) (hn : n ≤ 70368744177664) (hW : WsIn w B m ts) (hm : m ≤ 70368744177664) (hl : Lies w C p (bs.map (Value.int .u8))) (hbb : ByteL bs) (hpc : p ≤ cp) (hcp : cp ≤ 9223372036854775807) (hat : at1 < 65536) (hby : by1 < 4294967296) (hv : LaidV w) :
    Calls Tryz.prog 4 #[.agg #[.slice A n c, .slice B m d], .slice C p cp, .agg #[.int .u16 (at1 : Int), .int .u32 (by1 : Int)]] w fun e w' => e = .returned (.bool true) ∧ Below w.heap.size w w' := by
  obtain ⟨Wa, hWa⟩ : ∃ Wa, Wa = w.alloc (.cells #[.slice A n c, .slice B m d] 27) := ⟨_, rfl⟩
  obtain ⟨W0, hW0⟩ : ∃ W0, W0 = Wa.alloc (.cells #[.int .u16 (at1 : Int), .int .u32 (by1 : Int)] 54) := ⟨_, rfl⟩
  have HB0 : Hid (Below w.heap.size w W0) := hide (by rw [hW0, hWa]; exact below_al6 (below_al6 (Below.refl _ _)))
  have hsa : Wa.heap.size = w.heap.size + 1 := by rw [hWa]; simp
  have HX : Hid (BoxM W0 w.heap.size (.slice A n c) (.slice B m d)) := hide (by rw [hW0]; exact BoxM.kept (by rw [hWa]; exact BoxM.new w _ _) (below_al6 (Below.refl _ _)))
  have HTB : Hid (W0.heap[w.heap.size + 1]? = some (.cells #[.int .u16 (at1 : Int), .int .u32 (by1 : Int)] 54 (0, 0))) := hide (by rw [hW0, ← hsa]; exact heap_alloc_new Wa _)
  have HN := hide (h.below HB0.out)
  have HWS := hide (hW.below HB0.out)
  have HLB := hide (hl.below HB0.out)
  have HV := hide (hv.below HB0.out)
  have HL : Hid (ns.length = n) := hide h.1
  have HM : Hid (ts.length = m) := hide hW.1
  have HKD := hide h.kd0
  have HWL := hide hW.all
  have HBB := hide hbb
  have HKC : Hid (∀ v, Below W0.heap.size W0 v → (v.cell? ⟨w.heap.size, 0, none⟩ = some (.slice A n c) ∧ v.cell? ⟨w.heap.size, 1, none⟩ = some (.slice B m d)) ∧ v.cell? ⟨w.heap.size + 1, 0, none⟩ = some (.int .u16 (at1 : Int)) ∧ v.cell? ⟨w.heap.size + 1, 1, none⟩ = some (.int .u32 (by1 : Int))) := hide (fun v hv => ⟨(HX.out.kept hv).cs, cell_of_row _ _ 0 _ _ (0, 0) ((hv.block _ (lt_of_heap HTB.out)).trans HTB.out), cell_of_row _ _ 1 _ _ (0, 0) ((hv.block _ (lt_of_heap HTB.out)).trans HTB.out)⟩)
  rw [hWa] at hW0
  have hW0' := hW0.symm
  obtain ⟨⟨c0, c1⟩, y0, y1⟩ := HKC.out W0 (Below.refl _ _)
  clear hW0 hWa hsa h hW hv hl hbb
  go_enter Tryz.func4, Tryz.ntmps4
  go_wp2_with fail
  refine Calls.mono (alive11_any _ HV.out) ?_
  rintro e w1 ⟨rfl, hb⟩
  have HBN := hide hb
  clear hb c0 c1 y0 y1
  obtain ⟨⟨c0, c1⟩, y0, y1⟩ := HKC.out _ HBN.out
  go_wp2_with fail
  refine Calls.mono (model_size A B n c m d ns ts _ (HN.out.below HBN.out) hn (HWS.out.below HBN.out) hm) ?_
  rintro e w2 ⟨r, rfl, hr1, hb⟩
  replace HBN := hide (below_nx6 HBN.out hb)
  clear hb c0 c1 y0 y1
  by_cases hbig : 60000 < r
  · go_wp2_with fail
    refine Calls.mono (alive11_any _ (HV.out.below HBN.out)) ?_
    rintro e w3 ⟨rfl, hb⟩
    replace HBN := hide (below_nx6 HBN.out hb)
    clear hb
    go_wp2
    go_ret
    exact ⟨rfl, below_nx6 HB0.out HBN.out⟩
  by_cases hlong : (60000 : Int) < (p : Int)
  · go_wp2_with fail
    refine Calls.mono (alive11_any _ (HV.out.below HBN.out)) ?_
    rintro e w3 ⟨rfl, hb⟩
    replace HBN := hide (below_nx6 HBN.out hb)
    clear hb
    go_wp2
    go_ret
    exact ⟨rfl, below_nx6 HB0.out HBN.out⟩
  have hsz := hr1 (by omega)
  have hn2 : n ≤ 60000 := by have h1 := szN_len ns; rw [HL.out] at h1; omega
  have hm2 : m ≤ 60000 := by have h1 := szT_len ts; rw [HM.out] at h1; omega
  clear hr1 hsz
  go_wp2_with fail
  refine Calls.mono (mget_any C p cp bs _ (HLB.out.below HBN.out) HBB.out (by omega) hpc hcp) ?_
  rintro e w3 ⟨hE, hb⟩
  have HB3 := hide (below_nx6 HBN.out hb)
  clear hb

  rcases hE with ⟨hg, z, hz, rfl⟩ | ⟨hg, ns', ts', A', B', c', d', rfl, hcc, hns', hws', hmd', hmp', hkd'⟩
  · rcases hz with rfl | rfl | rfl
    · simp only [md0]
      go_wp2_with fail
      refine Calls.mono (mput_any none none 0 0 0 0 [] [] _ ⟨rfl, fun h => absurd h (by omega)⟩ (by omega) (by omega) ⟨rfl, fun h => absurd h (by omega)⟩ (by omega)) ?_
      rintro e w4 ⟨A4, k4, c4, z4, rfl, hp0, _, hb⟩
      obtain ⟨rfl, rfl⟩ := hp0 mdB_nil
      have HB4 := hide (below_nx6 (below_al6 HB3.out) hb)
      clear hb
      have HBT := hide HB4.out
      obtain ⟨⟨c0, c1⟩, y0, y1⟩ := HKC.out _ HBT.out
      go_wp2_with fail
      refine Calls.mono (mput_any A B n c m d ns ts _ (HN.out.below HBT.out) (by omega) hc (HWS.out.below HBT.out) hm) ?_
      rintro e w5 ⟨A5, k5, c5, z5, rfl, hp0, hp1, hb⟩
      have HB5 := hide (below_nx6 HBT.out hb)
      clear hb c0 c1 y0 y1
      obtain ⟨⟨c0, c1⟩, y0, y1⟩ := HKC.out _ HB5.out
      obtain ⟨R, hR⟩ : ∃ z, z = mdB ns ts := ⟨_, rfl⟩
      rw [← hR] at hp0 hp1
      cases R with
      | false =>
        obtain ⟨rfl, rfl⟩ := hp0 rfl
        go_wp2
        go_ret
        exact ⟨rfl, below_nx6 HB0.out HB5.out⟩
      | true =>
        obtain ⟨rfl, ho5, hk5⟩ := hp1 rfl
        obtain ⟨xs, hxs⟩ : ∃ z, z = mdP ns ts := ⟨_, rfl⟩
        obtain ⟨I, hI⟩ : ∃ z, z = mdI ns ts := ⟨_, rfl⟩
        rw [← hxs] at ho5
        have hgp := (mdB_parts.1 hR.symm).1
        have hIB : ByteL I := by rw [hI]; exact mdI_bytes hgp
        have HXB : Hid (ByteL xs) := hide (by rw [hxs]; exact mdP_bytes hgp)
        have hxI : xs = I ++ four ((sumOf I : Nat) : Int) := by rw [hxs, hI]; rfl
        have HLEN : Hid (xs.length = k5) := hide (lies_len9 (lies_of_own ho5))
        have hil : I.length + 4 = k5 := by
          have h1 := HLEN.out
          rw [hxI, List.length_append, four_len] at h1
          omega
        have HGB : Hid (getB xs = true) := hide (by rw [hxs]; exact (getB_put hR.symm HKD.out (fun t ht => (HWL.out t ht).1)).1)
        obtain ⟨kA, hkA⟩ : ∃ k, k = at1 % (k5 - 3) := ⟨_, rfl⟩
        have hkl : kA < k5 - 3 := by rw [hkA]; exact Nat.mod_lt _ (by omega)
        have hm2 : (at1 : Int) % ((k5 : Int) - 3) = (kA : Int) := by rw [hkA, show ((k5 : Int) - 3) = ((k5 - 3 : Nat) : Int) by omega]; rfl
        have hm1 : (at1 : Int).tmod ((k5 : Int) - 3) = (kA : Int) := by rw [Int.tmod_eq_emod_of_nonneg (by omega), hm2]
        have hnz : ¬ ((k5 : Int) - 3 = 0) := by omega
        have HSM : ∀ k, (k + 4 ≤ I.length ∨ k = I.length) → by1 ≠ 0 → head4 ((turned xs k (by1 : Int) 4).drop (k5 - 4)) ≠ ((sumOf ((turned xs k (by1 : Int) 4).take (k5 - 4)) : Nat) : Int) := fun k hk h0 => by
          have h1 := turned_sum11 (I := I) (k := k) (b := by1) hIB hk hby h0
          rw [← hxI, show I.length = k5 - 4 by omega] at h1
          exact h1
        clear hp0 hp1 hR hxs hI hgp hIB hxI hkA
        by_cases h8 : (k5 : Int) - 8 < (kA : Int)
        · obtain ⟨k, hk⟩ : ∃ k, k = k5 - 4 := ⟨_, rfl⟩
          have hki : (k5 : Int) - 4 = (k : Int) := by omega
          have HKL : Hid (k + 4 ≤ k5) := hide (by omega)
          have HSUM := hide (HSM k (by omega))
          clear HSM hk hil
          obtain ⟨i0, hi, hz0, hz1, hz2⟩ := info_parts Tryz.infoB
          have HI := hide hi
          have HZ0 := hide hz0
          have HZ1 := hide hz1
          have HZ2 := hide hz2
          have HO5 := hide (lies_of_own ho5)
          have HNA : Hid (A5 = none → c5 = 0) := hide (fun h => by
            rcases ho5.2 with ⟨e0, h0⟩ | ⟨g, cap, cur, e0, _⟩
            · omega
            · injection e0 with e0
              rw [h] at e0
              cases e0)
          clear hi hz0 hz1 hz2 ho5
          go_wp2_with (at_builtin; refine wpList_append_src rfl _ _ 30 rfl 5 i0 (.int .u8 0) 1 Tryz.underlying30 HI.out HZ0.out HZ1.out HZ2.out rfl w5.heap.size (.slice none 0 0) 0 [] rfl (World.ownsRow_nil _ _ _ _) (Nat.le_refl _) A5 k5 c5 (xs.map (Value.int .u8)) rfl HO5.out HNA.out (ints_one _ _) (by omega) (by unfold maxLen; omega) ?_)
          intro A2 c2 w6 ho2 hg2
          obtain ⟨g, rfl⟩ : ∃ g, A2 = some ⟨g, 0, none⟩ := by
            rcases ho2.2 with ⟨e0, h0⟩ | ⟨g, cap, cur, e0, _⟩
            · omega
            · injection e0 with e0; exact ⟨g, e0⟩
          have HO2 : Hid (w6.ownsRow w5.heap.size 5 1 (.slice (some ⟨g, 0, none⟩) k5 c2) k5 (turnedV xs k (by1 : Int) 0)) := hide ho2
          have HB2 := hide (below_own10 (Below.refl w5.heap.size w5) (World.ownsRow_nil _ w5.heap.size 5 1) hg2 (Nat.le_refl _))
          clear ho2 hg2 HI HZ0 HZ1 HZ2 HO5 HNA
          go_wp2
          go_loopw [16] (fun i wr => ∃ j : Nat, j ≤ 4 ∧ i = .int .i64 j ∧ Hid (wr.ownsRow w5.heap.size 5 1 (.slice (some ⟨g, 0, none⟩) k5 c2) k5 (turnedV xs k (by1 : Int) j)) ∧ Hid (Below w5.heap.size w5 wr)) (fun i _ => 4 - (intOf i).toNat)
          case atStart => exact ⟨0, by omega, rfl, HO2, HB2⟩
          case round =>
            obtain ⟨j, hj, rfl, HO, HB⟩ := hrel
            have hsr := HB.out.size
            by_cases hlt : j < 4
            · have hkn := HKL.out
              obtain ⟨hgb, hgl⟩ := HO.out.lt g rfl
              obtain ⟨x, ex⟩ : ∃ x, x = (turned xs k (by1 : Int) j).getD (k + j) 0 := ⟨_, rfl⟩
              obtain ⟨y, ey⟩ : ∃ y, y = (four (by1 : Int)).getD j 0 := ⟨_, rfl⟩
              have hx0 := bytes_getD (bs := turned xs k (by1 : Int) j) (turned_byteL xs k (by1 : Int) j HXB.out) (k + j)
              have hy0 := bytes_getD (bs := four (by1 : Int)) (four_bytes _) j
              rw [← ex] at hx0
              rw [← ey] at hy0
              have hc : wr.cell? ⟨g, k + j, none⟩ = some (.int .u8 x) := by
                have h1 := HO.out.cellAt (k + j) (by omega)
                have h2 : (turnedV xs k (by1 : Int) j)[k + j]? = some (.int .u8 x) := by
                  have hl : k + j < (turned xs k (by1 : Int) j).length := by rw [turned_len, HLEN.out]; omega
                  rw [ex]
                  simp [turnedV, List.getD, hl]
                rw [h1, h2]
              have hf : wr.frozen? ⟨g, k + j, none⟩ = false := by
                rcases HO.out.2 with ⟨e0, h0⟩ | ⟨g', cap, cur, e0, _, hh, _⟩
                · omega
                · injection e0 with e0
                  injection e0 with e0
                  injection e0 with e0
                  subst e0
                  simp [World.frozen?, hh]
              have hfy := fourV11_at (by1 : Int) j hlt
              rw [← ey] at hfy
              have hr := u8_xor x y hx0.1 hx0.2 hy0.1 hy0.2
              have HST : Hid (∀ w' : World, w'.ownsRow w5.heap.size 5 1 (.slice (some ⟨g, 0, none⟩) k5 c2) k5 (turnedV xs k (by1 : Int) j) → (w'.setCell ⟨g, k + j, none⟩ (.int .u8 ((x.toNat ^^^ y.toNat : Nat) : Int))).ownsRow w5.heap.size 5 1 (.slice (some ⟨g, 0, none⟩) k5 c2) k5 (turnedV xs k (by1 : Int) (j + 1))) := hide (fun w' ho => stored_turned ho ex ey)
              obtain ⟨t, et⟩ : ∃ t : Int, t = ((x.toNat ^^^ y.toNat : Nat) : Int) := ⟨_, rfl⟩
              rw [← et] at hr HST
              have e1 : IntKind.i64.wrap ((k : Int) + (j : Int)) = (k : Int) + (j : Int) := IntWalk.i64_in _ (by omega)
              have e2 : (0 : Int) ≤ (k : Int) + (j : Int) := by omega
              have e3 : ((k : Int) + (j : Int)).toNat = k + j := by omega
              have e4 : (k : Int) + (j : Int) < (k5 : Int) := by omega
              have e5 : (0 : Int) ≤ (j : Int) := by omega
              have e6 : (j : Int) < 4 := by omega
              clear ex ey et
              have hcd : wr.drew.cell? ⟨g, k + j, none⟩ = some (.int .u8 x) := hc
              obtain ⟨q, hq⟩ : ∃ q, wr.drew.heap.size = q := ⟨_, rfl⟩
              have HQ := hide hq
              clear hq
              go_wp2_with fail
              have hS0 : Hid (wr.drew.cell? ⟨g, k + j, none⟩ = some (.int .u8 x)) := hide (hcd)
              refine wp_region_U (fun b v => b = false → v.cell? ⟨g, k + j, none⟩ = some (.int .u8 x)) 17 (by kernel_rfl) ?_
              refine wpAnyU_take (i := 0) (oi := { dst := some 100, op := _, type := _, pos := _, after := _, guard := none }) (v := .slice (some ⟨g, 0, none⟩) k5 c2) rfl (by kernel_rfl) (by kernel_rfl) (by kernel_rfl) (by kernel_rfl) (fun _ _ _ h => h) (yields_take rfl (fun w' hw => by have h1 := hw.no (by kernel_rfl) rfl; go_simp)) (fun _ => hS0.out) ?_
              simp only [Act.put, List.setIfInBounds_toArray, List.set_cons_zero, List.set_cons_succ]
              refine wpAnyU_take (i := 1) (oi := { dst := some 101, op := _, type := _, pos := _, after := _, guard := none }) (v := .int .i64 (k : Int)) rfl (by kernel_rfl) (by kernel_rfl) (by kernel_rfl) (by kernel_rfl) (fun _ _ _ h => h) (yields_take rfl (fun w' hw => by have h1 := hw.no (by kernel_rfl) rfl; go_simp)) (fun _ => hS0.out) ?_
              simp only [Act.put, List.setIfInBounds_toArray, List.set_cons_zero, List.set_cons_succ]
              refine wpAnyU_take (i := 2) (oi := { dst := some 102, op := _, type := _, pos := _, after := _, guard := none }) (v := .int .i64 (j : Int)) rfl (by kernel_rfl) (by kernel_rfl) (by kernel_rfl) (by kernel_rfl) (fun _ _ _ h => h) (yields_take rfl (fun w' hw => by have h1 := hw.no (by kernel_rfl) rfl; go_simp)) (fun _ => hS0.out) ?_
              simp only [Act.put, List.setIfInBounds_toArray, List.set_cons_zero, List.set_cons_succ]
              refine wpAnyU_take (i := 3) (oi := { dst := some 103, op := _, type := _, pos := _, after := _, guard := none }) (v := .int .i64 ((k : Int) + (j : Int))) rfl (by kernel_rfl) (by kernel_rfl) (by kernel_rfl) (by kernel_rfl) (fun _ _ _ h => h) (yields_take rfl (fun w' hw => by have h1 := hw.no (by kernel_rfl) rfl; go_simp)) (fun _ => hS0.out) ?_
              simp only [Act.put, List.setIfInBounds_toArray, List.set_cons_zero, List.set_cons_succ]
              refine wpAnyU_take (i := 4) (oi := { dst := some 104, op := _, type := _, pos := _, after := _, guard := none }) (v := .slice (some ⟨g, 0, none⟩) k5 c2) rfl (by kernel_rfl) (by kernel_rfl) (by kernel_rfl) (by kernel_rfl) (fun _ _ _ h => h) (yields_take rfl (fun w' hw => by have h1 := hw.no (by kernel_rfl) rfl; go_simp)) (fun _ => hS0.out) ?_
              simp only [Act.put, List.setIfInBounds_toArray, List.set_cons_zero, List.set_cons_succ]
              refine wpAnyU_take (i := 5) (oi := { dst := some 105, op := _, type := _, pos := _, after := _, guard := none }) (v := .int .i64 (k : Int)) rfl (by kernel_rfl) (by kernel_rfl) (by kernel_rfl) (by kernel_rfl) (fun _ _ _ h => h) (yields_take rfl (fun w' hw => by have h1 := hw.no (by kernel_rfl) rfl; go_simp)) (fun _ => hS0.out) ?_
              simp only [Act.put, List.setIfInBounds_toArray, List.set_cons_zero, List.set_cons_succ]
              refine wpAnyU_take (i := 6) (oi := { dst := some 106, op := _, type := _, pos := _, after := _, guard := none }) (v := .int .i64 (j : Int)) rfl (by kernel_rfl) (by kernel_rfl) (by kernel_rfl) (by kernel_rfl) (fun _ _ _ h => h) (yields_take rfl (fun w' hw => by have h1 := hw.no (by kernel_rfl) rfl; go_simp)) (fun _ => hS0.out) ?_
              simp only [Act.put, List.setIfInBounds_toArray, List.set_cons_zero, List.set_cons_succ]
              refine wpAnyU_take (i := 7) (oi := { dst := some 107, op := _, type := _, pos := _, after := _, guard := none }) (v := .int .i64 ((k : Int) + (j : Int))) rfl (by kernel_rfl) (by kernel_rfl) (by kernel_rfl) (by kernel_rfl) (fun _ _ _ h => h) (yields_take rfl (fun w' hw => by have h1 := hw.no (by kernel_rfl) rfl; go_simp)) (fun _ => hS0.out) ?_
              simp only [Act.put, List.setIfInBounds_toArray, List.set_cons_zero, List.set_cons_succ]
              refine wpAnyU_take (i := 8) (oi := { dst := some 108, op := _, type := _, pos := _, after := _, guard := none }) (v := .pointer (some ⟨g, k + j, none⟩)) rfl (by kernel_rfl) (by kernel_rfl) (by kernel_rfl) (by kernel_rfl) (fun _ _ _ h => h) (yields_take rfl (fun w' hw => by have h1 := hw.no (by kernel_rfl) rfl; go_simp)) (fun _ => hS0.out) ?_
              simp only [Act.put, List.setIfInBounds_toArray, List.set_cons_zero, List.set_cons_succ]
              refine wpAnyU_take (i := 9) (oi := { dst := some 109, op := _, type := _, pos := _, after := _, guard := none }) (v := .int .u8 x) rfl (by kernel_rfl) (by kernel_rfl) (by kernel_rfl) (by kernel_rfl) (fun _ _ _ h => h) (yields_take rfl (fun w' hw => by have h1 := hw.no (by kernel_rfl) rfl; go_simp)) (fun _ => hS0.out) ?_
              simp only [Act.put, List.setIfInBounds_toArray, List.set_cons_zero, List.set_cons_succ]
              refine wpAnyU_take (i := 10) (oi := { dst := some 110, op := _, type := _, pos := _, after := _, guard := none }) (v := .int .u32 (by1 : Int)) rfl (by kernel_rfl) (by kernel_rfl) (by kernel_rfl) (by kernel_rfl) (fun _ _ _ h => h) (yields_take rfl (fun w' hw => by have h1 := hw.no (by kernel_rfl) rfl; go_simp)) (fun _ => hS0.out) ?_
              simp only [Act.put, List.setIfInBounds_toArray, List.set_cons_zero, List.set_cons_succ]
              refine wpAnyU_take (i := 12) (oi := { dst := some 112, op := _, type := _, pos := _, after := _, guard := none }) (v := .int .i64 (j : Int)) rfl (by kernel_rfl) (by kernel_rfl) (by kernel_rfl) (by kernel_rfl) (fun _ _ _ h => h) (yields_take rfl (fun w' hw => by have h1 := hw.no (by kernel_rfl) rfl; go_simp)) (fun _ => hS0.out) ?_
              simp only [Act.put, List.setIfInBounds_toArray, List.set_cons_zero, List.set_cons_succ]
              refine wpAnyU_one (i := 11) (by kernel_rfl) rfl ?_
              intro K hK
              go_simp
              refine Calls.mono (four11Q by1 hby _ q HQ.out) ?_
              rintro e w4 ⟨rfl, hw4⟩
              (try dsimp only)
              have hb4 : Below wr.heap.size wr w4 := by rw [hw4]; exact below_nx6 (below_drewN (Below.refl _ _) 1) (below_al6 (Below.refl _ _))
              have hy4 : w4.cell? ⟨q, j, none⟩ = some (.int .u8 y) := (cell_of_row w4 q j _ 5 (0, 0) (by rw [hw4, ← HQ.out]; exact heap_alloc_new wr.drew _)).trans (by rw [List.getElem?_toArray]; exact hfy)
              have hf4 : w4.frozen? ⟨g, k + j, none⟩ = false := (World.frozen?_of_block (hb4.block _ hgl)).trans hf
              clear hw4
              have hS1 : Hid (w4.cell? ⟨g, k + j, none⟩ = some (.int .u8 x)) := hide ((hb4.cell (World.block_lt_of_cell? _ _ hc)).trans hc)
              refine hK.out _ _ (fun _ => hS1.out) (fun _ => ?_)
              clear hK K hS0
              refine wpAnyU_take (i := 13) (oi := { dst := some 113, op := _, type := _, pos := _, after := _, guard := none }) (v := .pointer (some ⟨q, j, none⟩)) rfl (by kernel_rfl) (by kernel_rfl) (by kernel_rfl) (by kernel_rfl) (fun _ _ _ h => h) (yields_take rfl (fun w' hw => by have h1 := hw.no (by kernel_rfl) rfl; go_simp)) (fun _ => hS1.out) ?_
              simp only [Act.put, List.setIfInBounds_toArray, List.set_cons_zero, List.set_cons_succ]
              refine wpAnyU_one (i := 14) (by kernel_rfl) rfl ?_
              intro K hK
              go_simp
              have hS2 : Hid (w4.cell? ⟨g, k + j, none⟩ = some (.int .u8 x)) := hide ((hb4.cell (World.block_lt_of_cell? _ _ hc)).trans hc)
              refine hK.out _ _ (fun _ => hS2.out) (fun _ => ?_)
              clear hK K hS1
              refine wpAnyU_take (i := 15) (oi := { dst := some 115, op := _, type := _, pos := _, after := _, guard := none }) (v := .int .u8 t) rfl (by kernel_rfl) (by kernel_rfl) (by kernel_rfl) (by kernel_rfl) (fun _ _ _ h => h) (yields_take rfl (fun w' hw => by have h1 := hw.no (by kernel_rfl) rfl; go_simp)) (fun _ => hS2.out) ?_
              simp only [Act.put, List.setIfInBounds_toArray, List.set_cons_zero, List.set_cons_succ]
              refine wpAnyU_take (i := 16) (oi := { dst := some 116, op := _, type := _, pos := _, after := _, guard := none }) (v := .pointer (some ⟨g, k + j, none⟩)) rfl (by kernel_rfl) (by kernel_rfl) (by kernel_rfl) (by kernel_rfl) (fun _ _ _ h => h) (yields_take rfl (fun w' hw => by have h1 := hw.no (by kernel_rfl) rfl; go_simp)) (fun _ => hS2.out) ?_
              simp only [Act.put, List.setIfInBounds_toArray, List.set_cons_zero, List.set_cons_succ]
              refine wpAnyU_one (i := 17) (by kernel_rfl) rfl ?_
              intro K hK
              go_simp
              refine hK.out _ _ (fun h => by cases h) (fun _ => ?_)
              clear hK K
              refine wpAnyU_done (by kernel_rfl) ?_ _
              clear hS2
              have HOn : Hid ((w4.setCell ⟨g, k + j, none⟩ (.int .u8 t)).ownsRow w5.heap.size 5 1 (.slice (some ⟨g, 0, none⟩) k5 c2) k5 (turnedV xs k (by1 : Int) (j + 1))) := hide (HST.out w4 (own_below HO.out hb4))
              have HBn : Hid (Below w5.heap.size w5 (w4.setCell ⟨g, k + j, none⟩ (.int .u8 t))) := hide ((below_nx6 HB.out hb4).setCell (by dsimp only; exact hgb) _)
              clear e1 e2 e3 e4 hc hcd hf hf4 hy4 hfy hr HO HB HST
              go_wp2
              go_roundw
              case rel => exact ⟨j + 1, by omega, by go_num, HOn, HBn⟩
              case measure => simp [intOf]; omega
            · obtain rfl : j = 4 := by omega
              have HL3 : Hid (Lies wr (some ⟨g, 0, none⟩) k5 ((turned xs k (by1 : Int) 4).map (Value.int .u8))) := hide (lies_of_own HO.out)
              have hcc := own_cap11 HO.out
              have hc63 := own_cap64 HO.out
              have HBF := hide (below_nx6 HB5.out HB.out)
              clear HO HB HO2 HB2
              by_cases hb0 : by1 = 0
              · subst hb0
                have ht := turned_zero xs k (k5 - k - 4) (by rw [HLEN.out]; have := HKL.out; omega) HXB.out
                have hbb : (((0 : Nat) : Int) == 0) = true := rfl
                go_wp2_with fail
                refine Calls.mono (mget_any (some ⟨g, 0, none⟩) k5 c2 (turned xs k ((0 : Nat) : Int) 4) _ HL3.out (turned_byteL xs k ((0 : Nat) : Int) 4 HXB.out) (by omega) hcc hc63) ?_
                rintro e w7 ⟨hE, hb⟩
                have HBG := hide (below_nx6 HBF.out hb)
                clear hb
                rcases hE with ⟨hg, _⟩ | ⟨hg, ns2, ts2, A6, B6, c6, d6, rfl, _⟩
                · rw [show ((0 : Nat) : Int) = 0 from rfl, ht] at hg
                  rw [HGB.out] at hg
                  cases hg
                · go_wp2
                  go_ret
                  exact ⟨rfl, below_nx6 HB0.out (below_al6 HBG.out)⟩
              · have hne := HSUM.out hb0
                have hbb : ((by1 : Int) == 0) = false := by rw [beq_eq_false_iff_ne]; omega
                have hbi : ¬ (by1 : Int) = 0 := by omega
                go_wp2_with fail
                refine Calls.mono (get_sum (some ⟨g, 0, none⟩) k5 c2 (turned xs k (by1 : Int) 4) _ HL3.out (turned_byteL xs k (by1 : Int) 4 HXB.out) (by omega) (by omega) hcc hc63 hne) ?_
                rintro e w7 ⟨rfl, hb⟩
                have HBG := hide (below_nx6 HBF.out hb)
                clear hb hne
                simp only [md0]
                go_wp2
                go_ret
                exact ⟨rfl, below_nx6 HB0.out (below_al6 HBG.out)⟩
        · obtain ⟨k, hk⟩ : ∃ k, k = kA := ⟨_, rfl⟩
          rw [← hk] at hm1 hm2 h8 hkl
          have HKL : Hid (k + 4 ≤ k5) := hide (by omega)
          have HSUM := hide (HSM k (by omega))
          clear HSM hk hil
          obtain ⟨i0, hi, hz0, hz1, hz2⟩ := info_parts Tryz.infoB
          have HI := hide hi
          have HZ0 := hide hz0
          have HZ1 := hide hz1
          have HZ2 := hide hz2
          have HO5 := hide (lies_of_own ho5)
          have HNA : Hid (A5 = none → c5 = 0) := hide (fun h => by
            rcases ho5.2 with ⟨e0, h0⟩ | ⟨g, cap, cur, e0, _⟩
            · omega
            · injection e0 with e0
              rw [h] at e0
              cases e0)
          clear hi hz0 hz1 hz2 ho5
          go_wp2_with (at_builtin; refine wpList_append_src rfl _ _ 30 rfl 5 i0 (.int .u8 0) 1 Tryz.underlying30 HI.out HZ0.out HZ1.out HZ2.out rfl w5.heap.size (.slice none 0 0) 0 [] rfl (World.ownsRow_nil _ _ _ _) (Nat.le_refl _) A5 k5 c5 (xs.map (Value.int .u8)) rfl HO5.out HNA.out (ints_one _ _) (by omega) (by unfold maxLen; omega) ?_)
          intro A2 c2 w6 ho2 hg2
          obtain ⟨g, rfl⟩ : ∃ g, A2 = some ⟨g, 0, none⟩ := by
            rcases ho2.2 with ⟨e0, h0⟩ | ⟨g, cap, cur, e0, _⟩
            · omega
            · injection e0 with e0; exact ⟨g, e0⟩
          have HO2 : Hid (w6.ownsRow w5.heap.size 5 1 (.slice (some ⟨g, 0, none⟩) k5 c2) k5 (turnedV xs k (by1 : Int) 0)) := hide ho2
          have HB2 := hide (below_own10 (Below.refl w5.heap.size w5) (World.ownsRow_nil _ w5.heap.size 5 1) hg2 (Nat.le_refl _))
          clear ho2 hg2 HI HZ0 HZ1 HZ2 HO5 HNA
          go_wp2
          go_loopw [16] (fun i wr => ∃ j : Nat, j ≤ 4 ∧ i = .int .i64 j ∧ Hid (wr.ownsRow w5.heap.size 5 1 (.slice (some ⟨g, 0, none⟩) k5 c2) k5 (turnedV xs k (by1 : Int) j)) ∧ Hid (Below w5.heap.size w5 wr)) (fun i _ => 4 - (intOf i).toNat)
          case atStart => exact ⟨0, by omega, rfl, HO2, HB2⟩
          case round =>
            obtain ⟨j, hj, rfl, HO, HB⟩ := hrel
            have hsr := HB.out.size
            by_cases hlt : j < 4
            · have hkn := HKL.out
              obtain ⟨hgb, hgl⟩ := HO.out.lt g rfl
              obtain ⟨x, ex⟩ : ∃ x, x = (turned xs k (by1 : Int) j).getD (k + j) 0 := ⟨_, rfl⟩
              obtain ⟨y, ey⟩ : ∃ y, y = (four (by1 : Int)).getD j 0 := ⟨_, rfl⟩
              have hx0 := bytes_getD (bs := turned xs k (by1 : Int) j) (turned_byteL xs k (by1 : Int) j HXB.out) (k + j)
              have hy0 := bytes_getD (bs := four (by1 : Int)) (four_bytes _) j
              rw [← ex] at hx0
              rw [← ey] at hy0
              have hc : wr.cell? ⟨g, k + j, none⟩ = some (.int .u8 x) := by
                have h1 := HO.out.cellAt (k + j) (by omega)
                have h2 : (turnedV xs k (by1 : Int) j)[k + j]? = some (.int .u8 x) := by
                  have hl : k + j < (turned xs k (by1 : Int) j).length := by rw [turned_len, HLEN.out]; omega
                  rw [ex]
                  simp [turnedV, List.getD, hl]
                rw [h1, h2]
              have hf : wr.frozen? ⟨g, k + j, none⟩ = false := by
                rcases HO.out.2 with ⟨e0, h0⟩ | ⟨g', cap, cur, e0, _, hh, _⟩
                · omega
                · injection e0 with e0
                  injection e0 with e0
                  injection e0 with e0
                  subst e0
                  simp [World.frozen?, hh]
              have hfy := fourV11_at (by1 : Int) j hlt
              rw [← ey] at hfy
              have hr := u8_xor x y hx0.1 hx0.2 hy0.1 hy0.2
              have HST : Hid (∀ w' : World, w'.ownsRow w5.heap.size 5 1 (.slice (some ⟨g, 0, none⟩) k5 c2) k5 (turnedV xs k (by1 : Int) j) → (w'.setCell ⟨g, k + j, none⟩ (.int .u8 ((x.toNat ^^^ y.toNat : Nat) : Int))).ownsRow w5.heap.size 5 1 (.slice (some ⟨g, 0, none⟩) k5 c2) k5 (turnedV xs k (by1 : Int) (j + 1))) := hide (fun w' ho => stored_turned ho ex ey)
              obtain ⟨t, et⟩ : ∃ t : Int, t = ((x.toNat ^^^ y.toNat : Nat) : Int) := ⟨_, rfl⟩
              rw [← et] at hr HST
              have e1 : IntKind.i64.wrap ((k : Int) + (j : Int)) = (k : Int) + (j : Int) := IntWalk.i64_in _ (by omega)
              have e2 : (0 : Int) ≤ (k : Int) + (j : Int) := by omega
              have e3 : ((k : Int) + (j : Int)).toNat = k + j := by omega
              have e4 : (k : Int) + (j : Int) < (k5 : Int) := by omega
              have e5 : (0 : Int) ≤ (j : Int) := by omega
              have e6 : (j : Int) < 4 := by omega
              clear ex ey et
              have hcd : wr.drew.cell? ⟨g, k + j, none⟩ = some (.int .u8 x) := hc
              obtain ⟨q, hq⟩ : ∃ q, wr.drew.heap.size = q := ⟨_, rfl⟩
              have HQ := hide hq
              clear hq
              go_wp2_with fail
              have hS0 : Hid (wr.drew.cell? ⟨g, k + j, none⟩ = some (.int .u8 x)) := hide (hcd)
              refine wp_region_U (fun b v => b = false → v.cell? ⟨g, k + j, none⟩ = some (.int .u8 x)) 17 (by kernel_rfl) ?_
              refine wpAnyU_take (i := 0) (oi := { dst := some 100, op := _, type := _, pos := _, after := _, guard := none }) (v := .slice (some ⟨g, 0, none⟩) k5 c2) rfl (by kernel_rfl) (by kernel_rfl) (by kernel_rfl) (by kernel_rfl) (fun _ _ _ h => h) (yields_take rfl (fun w' hw => by have h1 := hw.no (by kernel_rfl) rfl; go_simp)) (fun _ => hS0.out) ?_
              simp only [Act.put, List.setIfInBounds_toArray, List.set_cons_zero, List.set_cons_succ]
              refine wpAnyU_take (i := 1) (oi := { dst := some 101, op := _, type := _, pos := _, after := _, guard := none }) (v := .int .i64 (k : Int)) rfl (by kernel_rfl) (by kernel_rfl) (by kernel_rfl) (by kernel_rfl) (fun _ _ _ h => h) (yields_take rfl (fun w' hw => by have h1 := hw.no (by kernel_rfl) rfl; go_simp)) (fun _ => hS0.out) ?_
              simp only [Act.put, List.setIfInBounds_toArray, List.set_cons_zero, List.set_cons_succ]
              refine wpAnyU_take (i := 2) (oi := { dst := some 102, op := _, type := _, pos := _, after := _, guard := none }) (v := .int .i64 (j : Int)) rfl (by kernel_rfl) (by kernel_rfl) (by kernel_rfl) (by kernel_rfl) (fun _ _ _ h => h) (yields_take rfl (fun w' hw => by have h1 := hw.no (by kernel_rfl) rfl; go_simp)) (fun _ => hS0.out) ?_
              simp only [Act.put, List.setIfInBounds_toArray, List.set_cons_zero, List.set_cons_succ]
              refine wpAnyU_take (i := 3) (oi := { dst := some 103, op := _, type := _, pos := _, after := _, guard := none }) (v := .int .i64 ((k : Int) + (j : Int))) rfl (by kernel_rfl) (by kernel_rfl) (by kernel_rfl) (by kernel_rfl) (fun _ _ _ h => h) (yields_take rfl (fun w' hw => by have h1 := hw.no (by kernel_rfl) rfl; go_simp)) (fun _ => hS0.out) ?_
              simp only [Act.put, List.setIfInBounds_toArray, List.set_cons_zero, List.set_cons_succ]
              refine wpAnyU_take (i := 4) (oi := { dst := some 104, op := _, type := _, pos := _, after := _, guard := none }) (v := .slice (some ⟨g, 0, none⟩) k5 c2) rfl (by kernel_rfl) (by kernel_rfl) (by kernel_rfl) (by kernel_rfl) (fun _ _ _ h => h) (yields_take rfl (fun w' hw => by have h1 := hw.no (by kernel_rfl) rfl; go_simp)) (fun _ => hS0.out) ?_
              simp only [Act.put, List.setIfInBounds_toArray, List.set_cons_zero, List.set_cons_succ]
              refine wpAnyU_take (i := 5) (oi := { dst := some 105, op := _, type := _, pos := _, after := _, guard := none }) (v := .int .i64 (k : Int)) rfl (by kernel_rfl) (by kernel_rfl) (by kernel_rfl) (by kernel_rfl) (fun _ _ _ h => h) (yields_take rfl (fun w' hw => by have h1 := hw.no (by kernel_rfl) rfl; go_simp)) (fun _ => hS0.out) ?_
              simp only [Act.put, List.setIfInBounds_toArray, List.set_cons_zero, List.set_cons_succ]
              refine wpAnyU_take (i := 6) (oi := { dst := some 106, op := _, type := _, pos := _, after := _, guard := none }) (v := .int .i64 (j : Int)) rfl (by kernel_rfl) (by kernel_rfl) (by kernel_rfl) (by kernel_rfl) (fun _ _ _ h => h) (yields_take rfl (fun w' hw => by have h1 := hw.no (by kernel_rfl) rfl; go_simp)) (fun _ => hS0.out) ?_
              simp only [Act.put, List.setIfInBounds_toArray, List.set_cons_zero, List.set_cons_succ]
              refine wpAnyU_take (i := 7) (oi := { dst := some 107, op := _, type := _, pos := _, after := _, guard := none }) (v := .int .i64 ((k : Int) + (j : Int))) rfl (by kernel_rfl) (by kernel_rfl) (by kernel_rfl) (by kernel_rfl) (fun _ _ _ h => h) (yields_take rfl (fun w' hw => by have h1 := hw.no (by kernel_rfl) rfl; go_simp)) (fun _ => hS0.out) ?_
              simp only [Act.put, List.setIfInBounds_toArray, List.set_cons_zero, List.set_cons_succ]
              refine wpAnyU_take (i := 8) (oi := { dst := some 108, op := _, type := _, pos := _, after := _, guard := none }) (v := .pointer (some ⟨g, k + j, none⟩)) rfl (by kernel_rfl) (by kernel_rfl) (by kernel_rfl) (by kernel_rfl) (fun _ _ _ h => h) (yields_take rfl (fun w' hw => by have h1 := hw.no (by kernel_rfl) rfl; go_simp)) (fun _ => hS0.out) ?_
              simp only [Act.put, List.setIfInBounds_toArray, List.set_cons_zero, List.set_cons_succ]
              refine wpAnyU_take (i := 9) (oi := { dst := some 109, op := _, type := _, pos := _, after := _, guard := none }) (v := .int .u8 x) rfl (by kernel_rfl) (by kernel_rfl) (by kernel_rfl) (by kernel_rfl) (fun _ _ _ h => h) (yields_take rfl (fun w' hw => by have h1 := hw.no (by kernel_rfl) rfl; go_simp)) (fun _ => hS0.out) ?_
              simp only [Act.put, List.setIfInBounds_toArray, List.set_cons_zero, List.set_cons_succ]
              refine wpAnyU_take (i := 10) (oi := { dst := some 110, op := _, type := _, pos := _, after := _, guard := none }) (v := .int .u32 (by1 : Int)) rfl (by kernel_rfl) (by kernel_rfl) (by kernel_rfl) (by kernel_rfl) (fun _ _ _ h => h) (yields_take rfl (fun w' hw => by have h1 := hw.no (by kernel_rfl) rfl; go_simp)) (fun _ => hS0.out) ?_
              simp only [Act.put, List.setIfInBounds_toArray, List.set_cons_zero, List.set_cons_succ]
              refine wpAnyU_take (i := 12) (oi := { dst := some 112, op := _, type := _, pos := _, after := _, guard := none }) (v := .int .i64 (j : Int)) rfl (by kernel_rfl) (by kernel_rfl) (by kernel_rfl) (by kernel_rfl) (fun _ _ _ h => h) (yields_take rfl (fun w' hw => by have h1 := hw.no (by kernel_rfl) rfl; go_simp)) (fun _ => hS0.out) ?_
              simp only [Act.put, List.setIfInBounds_toArray, List.set_cons_zero, List.set_cons_succ]
              refine wpAnyU_one (i := 11) (by kernel_rfl) rfl ?_
              intro K hK
              go_simp
              refine Calls.mono (four11Q by1 hby _ q HQ.out) ?_
              rintro e w4 ⟨rfl, hw4⟩
              (try dsimp only)
              have hb4 : Below wr.heap.size wr w4 := by rw [hw4]; exact below_nx6 (below_drewN (Below.refl _ _) 1) (below_al6 (Below.refl _ _))
              have hy4 : w4.cell? ⟨q, j, none⟩ = some (.int .u8 y) := (cell_of_row w4 q j _ 5 (0, 0) (by rw [hw4, ← HQ.out]; exact heap_alloc_new wr.drew _)).trans (by rw [List.getElem?_toArray]; exact hfy)
              have hf4 : w4.frozen? ⟨g, k + j, none⟩ = false := (World.frozen?_of_block (hb4.block _ hgl)).trans hf
              clear hw4
              have hS1 : Hid (w4.cell? ⟨g, k + j, none⟩ = some (.int .u8 x)) := hide ((hb4.cell (World.block_lt_of_cell? _ _ hc)).trans hc)
              refine hK.out _ _ (fun _ => hS1.out) (fun _ => ?_)
              clear hK K hS0
              refine wpAnyU_take (i := 13) (oi := { dst := some 113, op := _, type := _, pos := _, after := _, guard := none }) (v := .pointer (some ⟨q, j, none⟩)) rfl (by kernel_rfl) (by kernel_rfl) (by kernel_rfl) (by kernel_rfl) (fun _ _ _ h => h) (yields_take rfl (fun w' hw => by have h1 := hw.no (by kernel_rfl) rfl; go_simp)) (fun _ => hS1.out) ?_
              simp only [Act.put, List.setIfInBounds_toArray, List.set_cons_zero, List.set_cons_succ]
              refine wpAnyU_one (i := 14) (by kernel_rfl) rfl ?_
              intro K hK
              go_simp
              have hS2 : Hid (w4.cell? ⟨g, k + j, none⟩ = some (.int .u8 x)) := hide ((hb4.cell (World.block_lt_of_cell? _ _ hc)).trans hc)
              refine hK.out _ _ (fun _ => hS2.out) (fun _ => ?_)
              clear hK K hS1
              refine wpAnyU_take (i := 15) (oi := { dst := some 115, op := _, type := _, pos := _, after := _, guard := none }) (v := .int .u8 t) rfl (by kernel_rfl) (by kernel_rfl) (by kernel_rfl) (by kernel_rfl) (fun _ _ _ h => h) (yields_take rfl (fun w' hw => by have h1 := hw.no (by kernel_rfl) rfl; go_simp)) (fun _ => hS2.out) ?_
              simp only [Act.put, List.setIfInBounds_toArray, List.set_cons_zero, List.set_cons_succ]
              refine wpAnyU_take (i := 16) (oi := { dst := some 116, op := _, type := _, pos := _, after := _, guard := none }) (v := .pointer (some ⟨g, k + j, none⟩)) rfl (by kernel_rfl) (by kernel_rfl) (by kernel_rfl) (by kernel_rfl) (fun _ _ _ h => h) (yields_take rfl (fun w' hw => by have h1 := hw.no (by kernel_rfl) rfl; go_simp)) (fun _ => hS2.out) ?_
              simp only [Act.put, List.setIfInBounds_toArray, List.set_cons_zero, List.set_cons_succ]
              refine wpAnyU_one (i := 17) (by kernel_rfl) rfl ?_
              intro K hK
              go_simp
              refine hK.out _ _ (fun h => by cases h) (fun _ => ?_)
              clear hK K
              refine wpAnyU_done (by kernel_rfl) ?_ _
              clear hS2
              have HOn : Hid ((w4.setCell ⟨g, k + j, none⟩ (.int .u8 t)).ownsRow w5.heap.size 5 1 (.slice (some ⟨g, 0, none⟩) k5 c2) k5 (turnedV xs k (by1 : Int) (j + 1))) := hide (HST.out w4 (own_below HO.out hb4))
              have HBn : Hid (Below w5.heap.size w5 (w4.setCell ⟨g, k + j, none⟩ (.int .u8 t))) := hide ((below_nx6 HB.out hb4).setCell (by dsimp only; exact hgb) _)
              clear e1 e2 e3 e4 hc hcd hf hf4 hy4 hfy hr HO HB HST
              go_wp2
              go_roundw
              case rel => exact ⟨j + 1, by omega, by go_num, HOn, HBn⟩
              case measure => simp [intOf]; omega
            · obtain rfl : j = 4 := by omega
              have HL3 : Hid (Lies wr (some ⟨g, 0, none⟩) k5 ((turned xs k (by1 : Int) 4).map (Value.int .u8))) := hide (lies_of_own HO.out)
              have hcc := own_cap11 HO.out
              have hc63 := own_cap64 HO.out
              have HBF := hide (below_nx6 HB5.out HB.out)
              clear HO HB HO2 HB2
              by_cases hb0 : by1 = 0
              · subst hb0
                have ht := turned_zero xs k (k5 - k - 4) (by rw [HLEN.out]; have := HKL.out; omega) HXB.out
                have hbb : (((0 : Nat) : Int) == 0) = true := rfl
                go_wp2_with fail
                refine Calls.mono (mget_any (some ⟨g, 0, none⟩) k5 c2 (turned xs k ((0 : Nat) : Int) 4) _ HL3.out (turned_byteL xs k ((0 : Nat) : Int) 4 HXB.out) (by omega) hcc hc63) ?_
                rintro e w7 ⟨hE, hb⟩
                have HBG := hide (below_nx6 HBF.out hb)
                clear hb
                rcases hE with ⟨hg, _⟩ | ⟨hg, ns2, ts2, A6, B6, c6, d6, rfl, _⟩
                · rw [show ((0 : Nat) : Int) = 0 from rfl, ht] at hg
                  rw [HGB.out] at hg
                  cases hg
                · go_wp2
                  go_ret
                  exact ⟨rfl, below_nx6 HB0.out (below_al6 HBG.out)⟩
              · have hne := HSUM.out hb0
                have hbb : ((by1 : Int) == 0) = false := by rw [beq_eq_false_iff_ne]; omega
                have hbi : ¬ (by1 : Int) = 0 := by omega
                go_wp2_with fail
                refine Calls.mono (get_sum (some ⟨g, 0, none⟩) k5 c2 (turned xs k (by1 : Int) 4) _ HL3.out (turned_byteL xs k (by1 : Int) 4 HXB.out) (by omega) (by omega) hcc hc63 hne) ?_
                rintro e w7 ⟨rfl, hb⟩
                have HBG := hide (below_nx6 HBF.out hb)
                clear hb hne
                simp only [md0]
                go_wp2
                go_ret
                exact ⟨rfl, below_nx6 HB0.out (below_al6 HBG.out)⟩
    · simp only [md0]
      go_wp2_with fail
      refine Calls.mono (mput_any none none 0 0 0 0 [] [] _ ⟨rfl, fun h => absurd h (by omega)⟩ (by omega) (by omega) ⟨rfl, fun h => absurd h (by omega)⟩ (by omega)) ?_
      rintro e w4 ⟨A4, k4, c4, z4, rfl, hp0, _, hb⟩
      obtain ⟨rfl, rfl⟩ := hp0 mdB_nil
      have HB4 := hide (below_nx6 (below_al6 HB3.out) hb)
      clear hb
      have HBT := hide HB4.out
      obtain ⟨⟨c0, c1⟩, y0, y1⟩ := HKC.out _ HBT.out
      go_wp2_with fail
      refine Calls.mono (mput_any A B n c m d ns ts _ (HN.out.below HBT.out) (by omega) hc (HWS.out.below HBT.out) hm) ?_
      rintro e w5 ⟨A5, k5, c5, z5, rfl, hp0, hp1, hb⟩
      have HB5 := hide (below_nx6 HBT.out hb)
      clear hb c0 c1 y0 y1
      obtain ⟨⟨c0, c1⟩, y0, y1⟩ := HKC.out _ HB5.out
      obtain ⟨R, hR⟩ : ∃ z, z = mdB ns ts := ⟨_, rfl⟩
      rw [← hR] at hp0 hp1
      cases R with
      | false =>
        obtain ⟨rfl, rfl⟩ := hp0 rfl
        go_wp2
        go_ret
        exact ⟨rfl, below_nx6 HB0.out HB5.out⟩
      | true =>
        obtain ⟨rfl, ho5, hk5⟩ := hp1 rfl
        obtain ⟨xs, hxs⟩ : ∃ z, z = mdP ns ts := ⟨_, rfl⟩
        obtain ⟨I, hI⟩ : ∃ z, z = mdI ns ts := ⟨_, rfl⟩
        rw [← hxs] at ho5
        have hgp := (mdB_parts.1 hR.symm).1
        have hIB : ByteL I := by rw [hI]; exact mdI_bytes hgp
        have HXB : Hid (ByteL xs) := hide (by rw [hxs]; exact mdP_bytes hgp)
        have hxI : xs = I ++ four ((sumOf I : Nat) : Int) := by rw [hxs, hI]; rfl
        have HLEN : Hid (xs.length = k5) := hide (lies_len9 (lies_of_own ho5))
        have hil : I.length + 4 = k5 := by
          have h1 := HLEN.out
          rw [hxI, List.length_append, four_len] at h1
          omega
        have HGB : Hid (getB xs = true) := hide (by rw [hxs]; exact (getB_put hR.symm HKD.out (fun t ht => (HWL.out t ht).1)).1)
        obtain ⟨kA, hkA⟩ : ∃ k, k = at1 % (k5 - 3) := ⟨_, rfl⟩
        have hkl : kA < k5 - 3 := by rw [hkA]; exact Nat.mod_lt _ (by omega)
        have hm2 : (at1 : Int) % ((k5 : Int) - 3) = (kA : Int) := by rw [hkA, show ((k5 : Int) - 3) = ((k5 - 3 : Nat) : Int) by omega]; rfl
        have hm1 : (at1 : Int).tmod ((k5 : Int) - 3) = (kA : Int) := by rw [Int.tmod_eq_emod_of_nonneg (by omega), hm2]
        have hnz : ¬ ((k5 : Int) - 3 = 0) := by omega
        have HSM : ∀ k, (k + 4 ≤ I.length ∨ k = I.length) → by1 ≠ 0 → head4 ((turned xs k (by1 : Int) 4).drop (k5 - 4)) ≠ ((sumOf ((turned xs k (by1 : Int) 4).take (k5 - 4)) : Nat) : Int) := fun k hk h0 => by
          have h1 := turned_sum11 (I := I) (k := k) (b := by1) hIB hk hby h0
          rw [← hxI, show I.length = k5 - 4 by omega] at h1
          exact h1
        clear hp0 hp1 hR hxs hI hgp hIB hxI hkA
        by_cases h8 : (k5 : Int) - 8 < (kA : Int)
        · obtain ⟨k, hk⟩ : ∃ k, k = k5 - 4 := ⟨_, rfl⟩
          have hki : (k5 : Int) - 4 = (k : Int) := by omega
          have HKL : Hid (k + 4 ≤ k5) := hide (by omega)
          have HSUM := hide (HSM k (by omega))
          clear HSM hk hil
          obtain ⟨i0, hi, hz0, hz1, hz2⟩ := info_parts Tryz.infoB
          have HI := hide hi
          have HZ0 := hide hz0
          have HZ1 := hide hz1
          have HZ2 := hide hz2
          have HO5 := hide (lies_of_own ho5)
          have HNA : Hid (A5 = none → c5 = 0) := hide (fun h => by
            rcases ho5.2 with ⟨e0, h0⟩ | ⟨g, cap, cur, e0, _⟩
            · omega
            · injection e0 with e0
              rw [h] at e0
              cases e0)
          clear hi hz0 hz1 hz2 ho5
          go_wp2_with (at_builtin; refine wpList_append_src rfl _ _ 30 rfl 5 i0 (.int .u8 0) 1 Tryz.underlying30 HI.out HZ0.out HZ1.out HZ2.out rfl w5.heap.size (.slice none 0 0) 0 [] rfl (World.ownsRow_nil _ _ _ _) (Nat.le_refl _) A5 k5 c5 (xs.map (Value.int .u8)) rfl HO5.out HNA.out (ints_one _ _) (by omega) (by unfold maxLen; omega) ?_)
          intro A2 c2 w6 ho2 hg2
          obtain ⟨g, rfl⟩ : ∃ g, A2 = some ⟨g, 0, none⟩ := by
            rcases ho2.2 with ⟨e0, h0⟩ | ⟨g, cap, cur, e0, _⟩
            · omega
            · injection e0 with e0; exact ⟨g, e0⟩
          have HO2 : Hid (w6.ownsRow w5.heap.size 5 1 (.slice (some ⟨g, 0, none⟩) k5 c2) k5 (turnedV xs k (by1 : Int) 0)) := hide ho2
          have HB2 := hide (below_own10 (Below.refl w5.heap.size w5) (World.ownsRow_nil _ w5.heap.size 5 1) hg2 (Nat.le_refl _))
          clear ho2 hg2 HI HZ0 HZ1 HZ2 HO5 HNA
          go_wp2
          go_loopw [16] (fun i wr => ∃ j : Nat, j ≤ 4 ∧ i = .int .i64 j ∧ Hid (wr.ownsRow w5.heap.size 5 1 (.slice (some ⟨g, 0, none⟩) k5 c2) k5 (turnedV xs k (by1 : Int) j)) ∧ Hid (Below w5.heap.size w5 wr)) (fun i _ => 4 - (intOf i).toNat)
          case atStart => exact ⟨0, by omega, rfl, HO2, HB2⟩
          case round =>
            obtain ⟨j, hj, rfl, HO, HB⟩ := hrel
            have hsr := HB.out.size
            by_cases hlt : j < 4
            · have hkn := HKL.out
              obtain ⟨hgb, hgl⟩ := HO.out.lt g rfl
              obtain ⟨x, ex⟩ : ∃ x, x = (turned xs k (by1 : Int) j).getD (k + j) 0 := ⟨_, rfl⟩
              obtain ⟨y, ey⟩ : ∃ y, y = (four (by1 : Int)).getD j 0 := ⟨_, rfl⟩
              have hx0 := bytes_getD (bs := turned xs k (by1 : Int) j) (turned_byteL xs k (by1 : Int) j HXB.out) (k + j)
              have hy0 := bytes_getD (bs := four (by1 : Int)) (four_bytes _) j
              rw [← ex] at hx0
              rw [← ey] at hy0
              have hc : wr.cell? ⟨g, k + j, none⟩ = some (.int .u8 x) := by
                have h1 := HO.out.cellAt (k + j) (by omega)
                have h2 : (turnedV xs k (by1 : Int) j)[k + j]? = some (.int .u8 x) := by
                  have hl : k + j < (turned xs k (by1 : Int) j).length := by rw [turned_len, HLEN.out]; omega
                  rw [ex]
                  simp [turnedV, List.getD, hl]
                rw [h1, h2]
              have hf : wr.frozen? ⟨g, k + j, none⟩ = false := by
                rcases HO.out.2 with ⟨e0, h0⟩ | ⟨g', cap, cur, e0, _, hh, _⟩
                · omega
                · injection e0 with e0
                  injection e0 with e0
                  injection e0 with e0
                  subst e0
                  simp [World.frozen?, hh]
              have hfy := fourV11_at (by1 : Int) j hlt
              rw [← ey] at hfy
              have hr := u8_xor x y hx0.1 hx0.2 hy0.1 hy0.2
              have HST : Hid (∀ w' : World, w'.ownsRow w5.heap.size 5 1 (.slice (some ⟨g, 0, none⟩) k5 c2) k5 (turnedV xs k (by1 : Int) j) → (w'.setCell ⟨g, k + j, none⟩ (.int .u8 ((x.toNat ^^^ y.toNat : Nat) : Int))).ownsRow w5.heap.size 5 1 (.slice (some ⟨g, 0, none⟩) k5 c2) k5 (turnedV xs k (by1 : Int) (j + 1))) := hide (fun w' ho => stored_turned ho ex ey)
              obtain ⟨t, et⟩ : ∃ t : Int, t = ((x.toNat ^^^ y.toNat : Nat) : Int) := ⟨_, rfl⟩
              rw [← et] at hr HST
              have e1 : IntKind.i64.wrap ((k : Int) + (j : Int)) = (k : Int) + (j : Int) := IntWalk.i64_in _ (by omega)
              have e2 : (0 : Int) ≤ (k : Int) + (j : Int) := by omega
              have e3 : ((k : Int) + (j : Int)).toNat = k + j := by omega
              have e4 : (k : Int) + (j : Int) < (k5 : Int) := by omega
              have e5 : (0 : Int) ≤ (j : Int) := by omega
              have e6 : (j : Int) < 4 := by omega
              clear ex ey et
              have hcd : wr.drew.cell? ⟨g, k + j, none⟩ = some (.int .u8 x) := hc
              obtain ⟨q, hq⟩ : ∃ q, wr.drew.heap.size = q := ⟨_, rfl⟩
              have HQ := hide hq
              clear hq
              go_wp2_with fail
              have hS0 : Hid (wr.drew.cell? ⟨g, k + j, none⟩ = some (.int .u8 x)) := hide (hcd)
              refine wp_region_U (fun b v => b = false → v.cell? ⟨g, k + j, none⟩ = some (.int .u8 x)) 17 (by kernel_rfl) ?_
              refine wpAnyU_take (i := 0) (oi := { dst := some 100, op := _, type := _, pos := _, after := _, guard := none }) (v := .slice (some ⟨g, 0, none⟩) k5 c2) rfl (by kernel_rfl) (by kernel_rfl) (by kernel_rfl) (by kernel_rfl) (fun _ _ _ h => h) (yields_take rfl (fun w' hw => by have h1 := hw.no (by kernel_rfl) rfl; go_simp)) (fun _ => hS0.out) ?_
              simp only [Act.put, List.setIfInBounds_toArray, List.set_cons_zero, List.set_cons_succ]
              refine wpAnyU_take (i := 1) (oi := { dst := some 101, op := _, type := _, pos := _, after := _, guard := none }) (v := .int .i64 (k : Int)) rfl (by kernel_rfl) (by kernel_rfl) (by kernel_rfl) (by kernel_rfl) (fun _ _ _ h => h) (yields_take rfl (fun w' hw => by have h1 := hw.no (by kernel_rfl) rfl; go_simp)) (fun _ => hS0.out) ?_
              simp only [Act.put, List.setIfInBounds_toArray, List.set_cons_zero, List.set_cons_succ]
              refine wpAnyU_take (i := 2) (oi := { dst := some 102, op := _, type := _, pos := _, after := _, guard := none }) (v := .int .i64 (j : Int)) rfl (by kernel_rfl) (by kernel_rfl) (by kernel_rfl) (by kernel_rfl) (fun _ _ _ h => h) (yields_take rfl (fun w' hw => by have h1 := hw.no (by kernel_rfl) rfl; go_simp)) (fun _ => hS0.out) ?_
              simp only [Act.put, List.setIfInBounds_toArray, List.set_cons_zero, List.set_cons_succ]
              refine wpAnyU_take (i := 3) (oi := { dst := some 103, op := _, type := _, pos := _, after := _, guard := none }) (v := .int .i64 ((k : Int) + (j : Int))) rfl (by kernel_rfl) (by kernel_rfl) (by kernel_rfl) (by kernel_rfl) (fun _ _ _ h => h) (yields_take rfl (fun w' hw => by have h1 := hw.no (by kernel_rfl) rfl; go_simp)) (fun _ => hS0.out) ?_
              simp only [Act.put, List.setIfInBounds_toArray, List.set_cons_zero, List.set_cons_succ]
              refine wpAnyU_take (i := 4) (oi := { dst := some 104, op := _, type := _, pos := _, after := _, guard := none }) (v := .slice (some ⟨g, 0, none⟩) k5 c2) rfl (by kernel_rfl) (by kernel_rfl) (by kernel_rfl) (by kernel_rfl) (fun _ _ _ h => h) (yields_take rfl (fun w' hw => by have h1 := hw.no (by kernel_rfl) rfl; go_simp)) (fun _ => hS0.out) ?_
              simp only [Act.put, List.setIfInBounds_toArray, List.set_cons_zero, List.set_cons_succ]
              refine wpAnyU_take (i := 5) (oi := { dst := some 105, op := _, type := _, pos := _, after := _, guard := none }) (v := .int .i64 (k : Int)) rfl (by kernel_rfl) (by kernel_rfl) (by kernel_rfl) (by kernel_rfl) (fun _ _ _ h => h) (yields_take rfl (fun w' hw => by have h1 := hw.no (by kernel_rfl) rfl; go_simp)) (fun _ => hS0.out) ?_
              simp only [Act.put, List.setIfInBounds_toArray, List.set_cons_zero, List.set_cons_succ]
              refine wpAnyU_take (i := 6) (oi := { dst := some 106, op := _, type := _, pos := _, after := _, guard := none }) (v := .int .i64 (j : Int)) rfl (by kernel_rfl) (by kernel_rfl) (by kernel_rfl) (by kernel_rfl) (fun _ _ _ h => h) (yields_take rfl (fun w' hw => by have h1 := hw.no (by kernel_rfl) rfl; go_simp)) (fun _ => hS0.out) ?_
              simp only [Act.put, List.setIfInBounds_toArray, List.set_cons_zero, List.set_cons_succ]
              refine wpAnyU_take (i := 7) (oi := { dst := some 107, op := _, type := _, pos := _, after := _, guard := none }) (v := .int .i64 ((k : Int) + (j : Int))) rfl (by kernel_rfl) (by kernel_rfl) (by kernel_rfl) (by kernel_rfl) (fun _ _ _ h => h) (yields_take rfl (fun w' hw => by have h1 := hw.no (by kernel_rfl) rfl; go_simp)) (fun _ => hS0.out) ?_
              simp only [Act.put, List.setIfInBounds_toArray, List.set_cons_zero, List.set_cons_succ]
              refine wpAnyU_take (i := 8) (oi := { dst := some 108, op := _, type := _, pos := _, after := _, guard := none }) (v := .pointer (some ⟨g, k + j, none⟩)) rfl (by kernel_rfl) (by kernel_rfl) (by kernel_rfl) (by kernel_rfl) (fun _ _ _ h => h) (yields_take rfl (fun w' hw => by have h1 := hw.no (by kernel_rfl) rfl; go_simp)) (fun _ => hS0.out) ?_
              simp only [Act.put, List.setIfInBounds_toArray, List.set_cons_zero, List.set_cons_succ]
              refine wpAnyU_take (i := 9) (oi := { dst := some 109, op := _, type := _, pos := _, after := _, guard := none }) (v := .int .u8 x) rfl (by kernel_rfl) (by kernel_rfl) (by kernel_rfl) (by kernel_rfl) (fun _ _ _ h => h) (yields_take rfl (fun w' hw => by have h1 := hw.no (by kernel_rfl) rfl; go_simp)) (fun _ => hS0.out) ?_
              simp only [Act.put, List.setIfInBounds_toArray, List.set_cons_zero, List.set_cons_succ]
              refine wpAnyU_take (i := 10) (oi := { dst := some 110, op := _, type := _, pos := _, after := _, guard := none }) (v := .int .u32 (by1 : Int)) rfl (by kernel_rfl) (by kernel_rfl) (by kernel_rfl) (by kernel_rfl) (fun _ _ _ h => h) (yields_take rfl (fun w' hw => by have h1 := hw.no (by kernel_rfl) rfl; go_simp)) (fun _ => hS0.out) ?_
              simp only [Act.put, List.setIfInBounds_toArray, List.set_cons_zero, List.set_cons_succ]
              refine wpAnyU_take (i := 12) (oi := { dst := some 112, op := _, type := _, pos := _, after := _, guard := none }) (v := .int .i64 (j : Int)) rfl (by kernel_rfl) (by kernel_rfl) (by kernel_rfl) (by kernel_rfl) (fun _ _ _ h => h) (yields_take rfl (fun w' hw => by have h1 := hw.no (by kernel_rfl) rfl; go_simp)) (fun _ => hS0.out) ?_
              simp only [Act.put, List.setIfInBounds_toArray, List.set_cons_zero, List.set_cons_succ]
              refine wpAnyU_one (i := 11) (by kernel_rfl) rfl ?_
              intro K hK
              go_simp
              refine Calls.mono (four11Q by1 hby _ q HQ.out) ?_
              rintro e w4 ⟨rfl, hw4⟩
              (try dsimp only)
              have hb4 : Below wr.heap.size wr w4 := by rw [hw4]; exact below_nx6 (below_drewN (Below.refl _ _) 1) (below_al6 (Below.refl _ _))
              have hy4 : w4.cell? ⟨q, j, none⟩ = some (.int .u8 y) := (cell_of_row w4 q j _ 5 (0, 0) (by rw [hw4, ← HQ.out]; exact heap_alloc_new wr.drew _)).trans (by rw [List.getElem?_toArray]; exact hfy)
              have hf4 : w4.frozen? ⟨g, k + j, none⟩ = false := (World.frozen?_of_block (hb4.block _ hgl)).trans hf
              clear hw4
              have hS1 : Hid (w4.cell? ⟨g, k + j, none⟩ = some (.int .u8 x)) := hide ((hb4.cell (World.block_lt_of_cell? _ _ hc)).trans hc)
              refine hK.out _ _ (fun _ => hS1.out) (fun _ => ?_)
              clear hK K hS0
              refine wpAnyU_take (i := 13) (oi := { dst := some 113, op := _, type := _, pos := _, after := _, guard := none }) (v := .pointer (some ⟨q, j, none⟩)) rfl (by kernel_rfl) (by kernel_rfl) (by kernel_rfl) (by kernel_rfl) (fun _ _ _ h => h) (yields_take rfl (fun w' hw => by have h1 := hw.no (by kernel_rfl) rfl; go_simp)) (fun _ => hS1.out) ?_
              simp only [Act.put, List.setIfInBounds_toArray, List.set_cons_zero, List.set_cons_succ]
              refine wpAnyU_one (i := 14) (by kernel_rfl) rfl ?_
              intro K hK
              go_simp
              have hS2 : Hid (w4.cell? ⟨g, k + j, none⟩ = some (.int .u8 x)) := hide ((hb4.cell (World.block_lt_of_cell? _ _ hc)).trans hc)
              refine hK.out _ _ (fun _ => hS2.out) (fun _ => ?_)
              clear hK K hS1
              refine wpAnyU_take (i := 15) (oi := { dst := some 115, op := _, type := _, pos := _, after := _, guard := none }) (v := .int .u8 t) rfl (by kernel_rfl) (by kernel_rfl) (by kernel_rfl) (by kernel_rfl) (fun _ _ _ h => h) (yields_take rfl (fun w' hw => by have h1 := hw.no (by kernel_rfl) rfl; go_simp)) (fun _ => hS2.out) ?_
              simp only [Act.put, List.setIfInBounds_toArray, List.set_cons_zero, List.set_cons_succ]
              refine wpAnyU_take (i := 16) (oi := { dst := some 116, op := _, type := _, pos := _, after := _, guard := none }) (v := .pointer (some ⟨g, k + j, none⟩)) rfl (by kernel_rfl) (by kernel_rfl) (by kernel_rfl) (by kernel_rfl) (fun _ _ _ h => h) (yields_take rfl (fun w' hw => by have h1 := hw.no (by kernel_rfl) rfl; go_simp)) (fun _ => hS2.out) ?_
              simp only [Act.put, List.setIfInBounds_toArray, List.set_cons_zero, List.set_cons_succ]
              refine wpAnyU_one (i := 17) (by kernel_rfl) rfl ?_
              intro K hK
              go_simp
              refine hK.out _ _ (fun h => by cases h) (fun _ => ?_)
              clear hK K
              refine wpAnyU_done (by kernel_rfl) ?_ _
              clear hS2
              have HOn : Hid ((w4.setCell ⟨g, k + j, none⟩ (.int .u8 t)).ownsRow w5.heap.size 5 1 (.slice (some ⟨g, 0, none⟩) k5 c2) k5 (turnedV xs k (by1 : Int) (j + 1))) := hide (HST.out w4 (own_below HO.out hb4))
              have HBn : Hid (Below w5.heap.size w5 (w4.setCell ⟨g, k + j, none⟩ (.int .u8 t))) := hide ((below_nx6 HB.out hb4).setCell (by dsimp only; exact hgb) _)
              clear e1 e2 e3 e4 hc hcd hf hf4 hy4 hfy hr HO HB HST
              go_wp2
              go_roundw
              case rel => exact ⟨j + 1, by omega, by go_num, HOn, HBn⟩
              case measure => simp [intOf]; omega
            · obtain rfl : j = 4 := by omega
              have HL3 : Hid (Lies wr (some ⟨g, 0, none⟩) k5 ((turned xs k (by1 : Int) 4).map (Value.int .u8))) := hide (lies_of_own HO.out)
              have hcc := own_cap11 HO.out
              have hc63 := own_cap64 HO.out
              have HBF := hide (below_nx6 HB5.out HB.out)
              clear HO HB HO2 HB2
              by_cases hb0 : by1 = 0
              · subst hb0
                have ht := turned_zero xs k (k5 - k - 4) (by rw [HLEN.out]; have := HKL.out; omega) HXB.out
                have hbb : (((0 : Nat) : Int) == 0) = true := rfl
                go_wp2_with fail
                refine Calls.mono (mget_any (some ⟨g, 0, none⟩) k5 c2 (turned xs k ((0 : Nat) : Int) 4) _ HL3.out (turned_byteL xs k ((0 : Nat) : Int) 4 HXB.out) (by omega) hcc hc63) ?_
                rintro e w7 ⟨hE, hb⟩
                have HBG := hide (below_nx6 HBF.out hb)
                clear hb
                rcases hE with ⟨hg, _⟩ | ⟨hg, ns2, ts2, A6, B6, c6, d6, rfl, _⟩
                · rw [show ((0 : Nat) : Int) = 0 from rfl, ht] at hg
                  rw [HGB.out] at hg
                  cases hg
                · go_wp2
                  go_ret
                  exact ⟨rfl, below_nx6 HB0.out (below_al6 HBG.out)⟩
              · have hne := HSUM.out hb0
                have hbb : ((by1 : Int) == 0) = false := by rw [beq_eq_false_iff_ne]; omega
                have hbi : ¬ (by1 : Int) = 0 := by omega
                go_wp2_with fail
                refine Calls.mono (get_sum (some ⟨g, 0, none⟩) k5 c2 (turned xs k (by1 : Int) 4) _ HL3.out (turned_byteL xs k (by1 : Int) 4 HXB.out) (by omega) (by omega) hcc hc63 hne) ?_
                rintro e w7 ⟨rfl, hb⟩
                have HBG := hide (below_nx6 HBF.out hb)
                clear hb hne
                simp only [md0]
                go_wp2
                go_ret
                exact ⟨rfl, below_nx6 HB0.out (below_al6 HBG.out)⟩
        · obtain ⟨k, hk⟩ : ∃ k, k = kA := ⟨_, rfl⟩
          rw [← hk] at hm1 hm2 h8 hkl
          have HKL : Hid (k + 4 ≤ k5) := hide (by omega)
          have HSUM := hide (HSM k (by omega))
          clear HSM hk hil
          obtain ⟨i0, hi, hz0, hz1, hz2⟩ := info_parts Tryz.infoB
          have HI := hide hi
          have HZ0 := hide hz0
          have HZ1 := hide hz1
          have HZ2 := hide hz2
          have HO5 := hide (lies_of_own ho5)
          have HNA : Hid (A5 = none → c5 = 0) := hide (fun h => by
            rcases ho5.2 with ⟨e0, h0⟩ | ⟨g, cap, cur, e0, _⟩
            · omega
            · injection e0 with e0
              rw [h] at e0
              cases e0)
          clear hi hz0 hz1 hz2 ho5
          go_wp2_with (at_builtin; refine wpList_append_src rfl _ _ 30 rfl 5 i0 (.int .u8 0) 1 Tryz.underlying30 HI.out HZ0.out HZ1.out HZ2.out rfl w5.heap.size (.slice none 0 0) 0 [] rfl (World.ownsRow_nil _ _ _ _) (Nat.le_refl _) A5 k5 c5 (xs.map (Value.int .u8)) rfl HO5.out HNA.out (ints_one _ _) (by omega) (by unfold maxLen; omega) ?_)
          intro A2 c2 w6 ho2 hg2
          obtain ⟨g, rfl⟩ : ∃ g, A2 = some ⟨g, 0, none⟩ := by
            rcases ho2.2 with ⟨e0, h0⟩ | ⟨g, cap, cur, e0, _⟩
            · omega
            · injection e0 with e0; exact ⟨g, e0⟩
          have HO2 : Hid (w6.ownsRow w5.heap.size 5 1 (.slice (some ⟨g, 0, none⟩) k5 c2) k5 (turnedV xs k (by1 : Int) 0)) := hide ho2
          have HB2 := hide (below_own10 (Below.refl w5.heap.size w5) (World.ownsRow_nil _ w5.heap.size 5 1) hg2 (Nat.le_refl _))
          clear ho2 hg2 HI HZ0 HZ1 HZ2 HO5 HNA
          go_wp2
          go_loopw [16] (fun i wr => ∃ j : Nat, j ≤ 4 ∧ i = .int .i64 j ∧ Hid (wr.ownsRow w5.heap.size 5 1 (.slice (some ⟨g, 0, none⟩) k5 c2) k5 (turnedV xs k (by1 : Int) j)) ∧ Hid (Below w5.heap.size w5 wr)) (fun i _ => 4 - (intOf i).toNat)
          case atStart => exact ⟨0, by omega, rfl, HO2, HB2⟩
          case round =>
            obtain ⟨j, hj, rfl, HO, HB⟩ := hrel
            have hsr := HB.out.size
            by_cases hlt : j < 4
            · have hkn := HKL.out
              obtain ⟨hgb, hgl⟩ := HO.out.lt g rfl
              obtain ⟨x, ex⟩ : ∃ x, x = (turned xs k (by1 : Int) j).getD (k + j) 0 := ⟨_, rfl⟩
              obtain ⟨y, ey⟩ : ∃ y, y = (four (by1 : Int)).getD j 0 := ⟨_, rfl⟩
              have hx0 := bytes_getD (bs := turned xs k (by1 : Int) j) (turned_byteL xs k (by1 : Int) j HXB.out) (k + j)
              have hy0 := bytes_getD (bs := four (by1 : Int)) (four_bytes _) j
              rw [← ex] at hx0
              rw [← ey] at hy0
              have hc : wr.cell? ⟨g, k + j, none⟩ = some (.int .u8 x) := by
                have h1 := HO.out.cellAt (k + j) (by omega)
                have h2 : (turnedV xs k (by1 : Int) j)[k + j]? = some (.int .u8 x) := by
                  have hl : k + j < (turned xs k (by1 : Int) j).length := by rw [turned_len, HLEN.out]; omega
                  rw [ex]
                  simp [turnedV, List.getD, hl]
                rw [h1, h2]
              have hf : wr.frozen? ⟨g, k + j, none⟩ = false := by
                rcases HO.out.2 with ⟨e0, h0⟩ | ⟨g', cap, cur, e0, _, hh, _⟩
                · omega
                · injection e0 with e0
                  injection e0 with e0
                  injection e0 with e0
                  subst e0
                  simp [World.frozen?, hh]
              have hfy := fourV11_at (by1 : Int) j hlt
              rw [← ey] at hfy
              have hr := u8_xor x y hx0.1 hx0.2 hy0.1 hy0.2
              have HST : Hid (∀ w' : World, w'.ownsRow w5.heap.size 5 1 (.slice (some ⟨g, 0, none⟩) k5 c2) k5 (turnedV xs k (by1 : Int) j) → (w'.setCell ⟨g, k + j, none⟩ (.int .u8 ((x.toNat ^^^ y.toNat : Nat) : Int))).ownsRow w5.heap.size 5 1 (.slice (some ⟨g, 0, none⟩) k5 c2) k5 (turnedV xs k (by1 : Int) (j + 1))) := hide (fun w' ho => stored_turned ho ex ey)
              obtain ⟨t, et⟩ : ∃ t : Int, t = ((x.toNat ^^^ y.toNat : Nat) : Int) := ⟨_, rfl⟩
              rw [← et] at hr HST
              have e1 : IntKind.i64.wrap ((k : Int) + (j : Int)) = (k : Int) + (j : Int) := IntWalk.i64_in _ (by omega)
              have e2 : (0 : Int) ≤ (k : Int) + (j : Int) := by omega
              have e3 : ((k : Int) + (j : Int)).toNat = k + j := by omega
              have e4 : (k : Int) + (j : Int) < (k5 : Int) := by omega
              have e5 : (0 : Int) ≤ (j : Int) := by omega
              have e6 : (j : Int) < 4 := by omega
              clear ex ey et
              have hcd : wr.drew.cell? ⟨g, k + j, none⟩ = some (.int .u8 x) := hc
              obtain ⟨q, hq⟩ : ∃ q, wr.drew.heap.size = q := ⟨_, rfl⟩
              have HQ := hide hq
              clear hq
              go_wp2_with fail
              have hS0 : Hid (wr.drew.cell? ⟨g, k + j, none⟩ = some (.int .u8 x)) := hide (hcd)
              refine wp_region_U (fun b v => b = false → v.cell? ⟨g, k + j, none⟩ = some (.int .u8 x)) 17 (by kernel_rfl) ?_
              refine wpAnyU_take (i := 0) (oi := { dst := some 100, op := _, type := _, pos := _, after := _, guard := none }) (v := .slice (some ⟨g, 0, none⟩) k5 c2) rfl (by kernel_rfl) (by kernel_rfl) (by kernel_rfl) (by kernel_rfl) (fun _ _ _ h => h) (yields_take rfl (fun w' hw => by have h1 := hw.no (by kernel_rfl) rfl; go_simp)) (fun _ => hS0.out) ?_
              simp only [Act.put, List.setIfInBounds_toArray, List.set_cons_zero, List.set_cons_succ]
              refine wpAnyU_take (i := 1) (oi := { dst := some 101, op := _, type := _, pos := _, after := _, guard := none }) (v := .int .i64 (k : Int)) rfl (by kernel_rfl) (by kernel_rfl) (by kernel_rfl) (by kernel_rfl) (fun _ _ _ h => h) (yields_take rfl (fun w' hw => by have h1 := hw.no (by kernel_rfl) rfl; go_simp)) (fun _ => hS0.out) ?_
              simp only [Act.put, List.setIfInBounds_toArray, List.set_cons_zero, List.set_cons_succ]
              refine wpAnyU_take (i := 2) (oi := { dst := some 102, op := _, type := _, pos := _, after := _, guard := none }) (v := .int .i64 (j : Int)) rfl (by kernel_rfl) (by kernel_rfl) (by kernel_rfl) (by kernel_rfl) (fun _ _ _ h => h) (yields_take rfl (fun w' hw => by have h1 := hw.no (by kernel_rfl) rfl; go_simp)) (fun _ => hS0.out) ?_
              simp only [Act.put, List.setIfInBounds_toArray, List.set_cons_zero, List.set_cons_succ]
              refine wpAnyU_take (i := 3) (oi := { dst := some 103, op := _, type := _, pos := _, after := _, guard := none }) (v := .int .i64 ((k : Int) + (j : Int))) rfl (by kernel_rfl) (by kernel_rfl) (by kernel_rfl) (by kernel_rfl) (fun _ _ _ h => h) (yields_take rfl (fun w' hw => by have h1 := hw.no (by kernel_rfl) rfl; go_simp)) (fun _ => hS0.out) ?_
              simp only [Act.put, List.setIfInBounds_toArray, List.set_cons_zero, List.set_cons_succ]
              refine wpAnyU_take (i := 4) (oi := { dst := some 104, op := _, type := _, pos := _, after := _, guard := none }) (v := .slice (some ⟨g, 0, none⟩) k5 c2) rfl (by kernel_rfl) (by kernel_rfl) (by kernel_rfl) (by kernel_rfl) (fun _ _ _ h => h) (yields_take rfl (fun w' hw => by have h1 := hw.no (by kernel_rfl) rfl; go_simp)) (fun _ => hS0.out) ?_
              simp only [Act.put, List.setIfInBounds_toArray, List.set_cons_zero, List.set_cons_succ]
              refine wpAnyU_take (i := 5) (oi := { dst := some 105, op := _, type := _, pos := _, after := _, guard := none }) (v := .int .i64 (k : Int)) rfl (by kernel_rfl) (by kernel_rfl) (by kernel_rfl) (by kernel_rfl) (fun _ _ _ h => h) (yields_take rfl (fun w' hw => by have h1 := hw.no (by kernel_rfl) rfl; go_simp)) (fun _ => hS0.out) ?_
              simp only [Act.put, List.setIfInBounds_toArray, List.set_cons_zero, List.set_cons_succ]
              refine wpAnyU_take (i := 6) (oi := { dst := some 106, op := _, type := _, pos := _, after := _, guard := none }) (v := .int .i64 (j : Int)) rfl (by kernel_rfl) (by kernel_rfl) (by kernel_rfl) (by kernel_rfl) (fun _ _ _ h => h) (yields_take rfl (fun w' hw => by have h1 := hw.no (by kernel_rfl) rfl; go_simp)) (fun _ => hS0.out) ?_
              simp only [Act.put, List.setIfInBounds_toArray, List.set_cons_zero, List.set_cons_succ]
              refine wpAnyU_take (i := 7) (oi := { dst := some 107, op := _, type := _, pos := _, after := _, guard := none }) (v := .int .i64 ((k : Int) + (j : Int))) rfl (by kernel_rfl) (by kernel_rfl) (by kernel_rfl) (by kernel_rfl) (fun _ _ _ h => h) (yields_take rfl (fun w' hw => by have h1 := hw.no (by kernel_rfl) rfl; go_simp)) (fun _ => hS0.out) ?_
              simp only [Act.put, List.setIfInBounds_toArray, List.set_cons_zero, List.set_cons_succ]
              refine wpAnyU_take (i := 8) (oi := { dst := some 108, op := _, type := _, pos := _, after := _, guard := none }) (v := .pointer (some ⟨g, k + j, none⟩)) rfl (by kernel_rfl) (by kernel_rfl) (by kernel_rfl) (by kernel_rfl) (fun _ _ _ h => h) (yields_take rfl (fun w' hw => by have h1 := hw.no (by kernel_rfl) rfl; go_simp)) (fun _ => hS0.out) ?_
              simp only [Act.put, List.setIfInBounds_toArray, List.set_cons_zero, List.set_cons_succ]
              refine wpAnyU_take (i := 9) (oi := { dst := some 109, op := _, type := _, pos := _, after := _, guard := none }) (v := .int .u8 x) rfl (by kernel_rfl) (by kernel_rfl) (by kernel_rfl) (by kernel_rfl) (fun _ _ _ h => h) (yields_take rfl (fun w' hw => by have h1 := hw.no (by kernel_rfl) rfl; go_simp)) (fun _ => hS0.out) ?_
              simp only [Act.put, List.setIfInBounds_toArray, List.set_cons_zero, List.set_cons_succ]
              refine wpAnyU_take (i := 10) (oi := { dst := some 110, op := _, type := _, pos := _, after := _, guard := none }) (v := .int .u32 (by1 : Int)) rfl (by kernel_rfl) (by kernel_rfl) (by kernel_rfl) (by kernel_rfl) (fun _ _ _ h => h) (yields_take rfl (fun w' hw => by have h1 := hw.no (by kernel_rfl) rfl; go_simp)) (fun _ => hS0.out) ?_
              simp only [Act.put, List.setIfInBounds_toArray, List.set_cons_zero, List.set_cons_succ]
              refine wpAnyU_take (i := 12) (oi := { dst := some 112, op := _, type := _, pos := _, after := _, guard := none }) (v := .int .i64 (j : Int)) rfl (by kernel_rfl) (by kernel_rfl) (by kernel_rfl) (by kernel_rfl) (fun _ _ _ h => h) (yields_take rfl (fun w' hw => by have h1 := hw.no (by kernel_rfl) rfl; go_simp)) (fun _ => hS0.out) ?_
              simp only [Act.put, List.setIfInBounds_toArray, List.set_cons_zero, List.set_cons_succ]
              refine wpAnyU_one (i := 11) (by kernel_rfl) rfl ?_
              intro K hK
              go_simp
              refine Calls.mono (four11Q by1 hby _ q HQ.out) ?_
              rintro e w4 ⟨rfl, hw4⟩
              (try dsimp only)
              have hb4 : Below wr.heap.size wr w4 := by rw [hw4]; exact below_nx6 (below_drewN (Below.refl _ _) 1) (below_al6 (Below.refl _ _))
              have hy4 : w4.cell? ⟨q, j, none⟩ = some (.int .u8 y) := (cell_of_row w4 q j _ 5 (0, 0) (by rw [hw4, ← HQ.out]; exact heap_alloc_new wr.drew _)).trans (by rw [List.getElem?_toArray]; exact hfy)
              have hf4 : w4.frozen? ⟨g, k + j, none⟩ = false := (World.frozen?_of_block (hb4.block _ hgl)).trans hf
              clear hw4
              have hS1 : Hid (w4.cell? ⟨g, k + j, none⟩ = some (.int .u8 x)) := hide ((hb4.cell (World.block_lt_of_cell? _ _ hc)).trans hc)
              refine hK.out _ _ (fun _ => hS1.out) (fun _ => ?_)
              clear hK K hS0
              refine wpAnyU_take (i := 13) (oi := { dst := some 113, op := _, type := _, pos := _, after := _, guard := none }) (v := .pointer (some ⟨q, j, none⟩)) rfl (by kernel_rfl) (by kernel_rfl) (by kernel_rfl) (by kernel_rfl) (fun _ _ _ h => h) (yields_take rfl (fun w' hw => by have h1 := hw.no (by kernel_rfl) rfl; go_simp)) (fun _ => hS1.out) ?_
              simp only [Act.put, List.setIfInBounds_toArray, List.set_cons_zero, List.set_cons_succ]
              refine wpAnyU_one (i := 14) (by kernel_rfl) rfl ?_
              intro K hK
              go_simp
              have hS2 : Hid (w4.cell? ⟨g, k + j, none⟩ = some (.int .u8 x)) := hide ((hb4.cell (World.block_lt_of_cell? _ _ hc)).trans hc)
              refine hK.out _ _ (fun _ => hS2.out) (fun _ => ?_)
              clear hK K hS1
              refine wpAnyU_take (i := 15) (oi := { dst := some 115, op := _, type := _, pos := _, after := _, guard := none }) (v := .int .u8 t) rfl (by kernel_rfl) (by kernel_rfl) (by kernel_rfl) (by kernel_rfl) (fun _ _ _ h => h) (yields_take rfl (fun w' hw => by have h1 := hw.no (by kernel_rfl) rfl; go_simp)) (fun _ => hS2.out) ?_
              simp only [Act.put, List.setIfInBounds_toArray, List.set_cons_zero, List.set_cons_succ]
              refine wpAnyU_take (i := 16) (oi := { dst := some 116, op := _, type := _, pos := _, after := _, guard := none }) (v := .pointer (some ⟨g, k + j, none⟩)) rfl (by kernel_rfl) (by kernel_rfl) (by kernel_rfl) (by kernel_rfl) (fun _ _ _ h => h) (yields_take rfl (fun w' hw => by have h1 := hw.no (by kernel_rfl) rfl; go_simp)) (fun _ => hS2.out) ?_
              simp only [Act.put, List.setIfInBounds_toArray, List.set_cons_zero, List.set_cons_succ]
              refine wpAnyU_one (i := 17) (by kernel_rfl) rfl ?_
              intro K hK
              go_simp
              refine hK.out _ _ (fun h => by cases h) (fun _ => ?_)
              clear hK K
              refine wpAnyU_done (by kernel_rfl) ?_ _
              clear hS2
              have HOn : Hid ((w4.setCell ⟨g, k + j, none⟩ (.int .u8 t)).ownsRow w5.heap.size 5 1 (.slice (some ⟨g, 0, none⟩) k5 c2) k5 (turnedV xs k (by1 : Int) (j + 1))) := hide (HST.out w4 (own_below HO.out hb4))
              have HBn : Hid (Below w5.heap.size w5 (w4.setCell ⟨g, k + j, none⟩ (.int .u8 t))) := hide ((below_nx6 HB.out hb4).setCell (by dsimp only; exact hgb) _)
              clear e1 e2 e3 e4 hc hcd hf hf4 hy4 hfy hr HO HB HST
              go_wp2
              go_roundw
              case rel => exact ⟨j + 1, by omega, by go_num, HOn, HBn⟩
              case measure => simp [intOf]; omega
            · obtain rfl : j = 4 := by omega
              have HL3 : Hid (Lies wr (some ⟨g, 0, none⟩) k5 ((turned xs k (by1 : Int) 4).map (Value.int .u8))) := hide (lies_of_own HO.out)
              have hcc := own_cap11 HO.out
              have hc63 := own_cap64 HO.out
              have HBF := hide (below_nx6 HB5.out HB.out)
              clear HO HB HO2 HB2
              by_cases hb0 : by1 = 0
              · subst hb0
                have ht := turned_zero xs k (k5 - k - 4) (by rw [HLEN.out]; have := HKL.out; omega) HXB.out
                have hbb : (((0 : Nat) : Int) == 0) = true := rfl
                go_wp2_with fail
                refine Calls.mono (mget_any (some ⟨g, 0, none⟩) k5 c2 (turned xs k ((0 : Nat) : Int) 4) _ HL3.out (turned_byteL xs k ((0 : Nat) : Int) 4 HXB.out) (by omega) hcc hc63) ?_
                rintro e w7 ⟨hE, hb⟩
                have HBG := hide (below_nx6 HBF.out hb)
                clear hb
                rcases hE with ⟨hg, _⟩ | ⟨hg, ns2, ts2, A6, B6, c6, d6, rfl, _⟩
                · rw [show ((0 : Nat) : Int) = 0 from rfl, ht] at hg
                  rw [HGB.out] at hg
                  cases hg
                · go_wp2
                  go_ret
                  exact ⟨rfl, below_nx6 HB0.out (below_al6 HBG.out)⟩
              · have hne := HSUM.out hb0
                have hbb : ((by1 : Int) == 0) = false := by rw [beq_eq_false_iff_ne]; omega
                have hbi : ¬ (by1 : Int) = 0 := by omega
                go_wp2_with fail
                refine Calls.mono (get_sum (some ⟨g, 0, none⟩) k5 c2 (turned xs k (by1 : Int) 4) _ HL3.out (turned_byteL xs k (by1 : Int) 4 HXB.out) (by omega) (by omega) hcc hc63 hne) ?_
                rintro e w7 ⟨rfl, hb⟩
                have HBG := hide (below_nx6 HBF.out hb)
                clear hb hne
                simp only [md0]
                go_wp2
                go_ret
                exact ⟨rfl, below_nx6 HB0.out (below_al6 HBG.out)⟩
    · simp only [md0]
      go_wp2_with fail
      refine Calls.mono (mput_any none none 0 0 0 0 [] [] _ ⟨rfl, fun h => absurd h (by omega)⟩ (by omega) (by omega) ⟨rfl, fun h => absurd h (by omega)⟩ (by omega)) ?_
      rintro e w4 ⟨A4, k4, c4, z4, rfl, hp0, _, hb⟩
      obtain ⟨rfl, rfl⟩ := hp0 mdB_nil
      have HB4 := hide (below_nx6 (below_al6 HB3.out) hb)
      clear hb
      have HBT := hide HB4.out
      obtain ⟨⟨c0, c1⟩, y0, y1⟩ := HKC.out _ HBT.out
      go_wp2_with fail
      refine Calls.mono (mput_any A B n c m d ns ts _ (HN.out.below HBT.out) (by omega) hc (HWS.out.below HBT.out) hm) ?_
      rintro e w5 ⟨A5, k5, c5, z5, rfl, hp0, hp1, hb⟩
      have HB5 := hide (below_nx6 HBT.out hb)
      clear hb c0 c1 y0 y1
      obtain ⟨⟨c0, c1⟩, y0, y1⟩ := HKC.out _ HB5.out
      obtain ⟨R, hR⟩ : ∃ z, z = mdB ns ts := ⟨_, rfl⟩
      rw [← hR] at hp0 hp1
      cases R with
      | false =>
        obtain ⟨rfl, rfl⟩ := hp0 rfl
        go_wp2
        go_ret
        exact ⟨rfl, below_nx6 HB0.out HB5.out⟩
      | true =>
        obtain ⟨rfl, ho5, hk5⟩ := hp1 rfl
        obtain ⟨xs, hxs⟩ : ∃ z, z = mdP ns ts := ⟨_, rfl⟩
        obtain ⟨I, hI⟩ : ∃ z, z = mdI ns ts := ⟨_, rfl⟩
        rw [← hxs] at ho5
        have hgp := (mdB_parts.1 hR.symm).1
        have hIB : ByteL I := by rw [hI]; exact mdI_bytes hgp
        have HXB : Hid (ByteL xs) := hide (by rw [hxs]; exact mdP_bytes hgp)
        have hxI : xs = I ++ four ((sumOf I : Nat) : Int) := by rw [hxs, hI]; rfl
        have HLEN : Hid (xs.length = k5) := hide (lies_len9 (lies_of_own ho5))
        have hil : I.length + 4 = k5 := by
          have h1 := HLEN.out
          rw [hxI, List.length_append, four_len] at h1
          omega
        have HGB : Hid (getB xs = true) := hide (by rw [hxs]; exact (getB_put hR.symm HKD.out (fun t ht => (HWL.out t ht).1)).1)
        obtain ⟨kA, hkA⟩ : ∃ k, k = at1 % (k5 - 3) := ⟨_, rfl⟩
        have hkl : kA < k5 - 3 := by rw [hkA]; exact Nat.mod_lt _ (by omega)
        have hm2 : (at1 : Int) % ((k5 : Int) - 3) = (kA : Int) := by rw [hkA, show ((k5 : Int) - 3) = ((k5 - 3 : Nat) : Int) by omega]; rfl
        have hm1 : (at1 : Int).tmod ((k5 : Int) - 3) = (kA : Int) := by rw [Int.tmod_eq_emod_of_nonneg (by omega), hm2]
        have hnz : ¬ ((k5 : Int) - 3 = 0) := by omega
        have HSM : ∀ k, (k + 4 ≤ I.length ∨ k = I.length) → by1 ≠ 0 → head4 ((turned xs k (by1 : Int) 4).drop (k5 - 4)) ≠ ((sumOf ((turned xs k (by1 : Int) 4).take (k5 - 4)) : Nat) : Int) := fun k hk h0 => by
          have h1 := turned_sum11 (I := I) (k := k) (b := by1) hIB hk hby h0
          rw [← hxI, show I.length = k5 - 4 by omega] at h1
          exact h1
        clear hp0 hp1 hR hxs hI hgp hIB hxI hkA
        by_cases h8 : (k5 : Int) - 8 < (kA : Int)
        · obtain ⟨k, hk⟩ : ∃ k, k = k5 - 4 := ⟨_, rfl⟩
          have hki : (k5 : Int) - 4 = (k : Int) := by omega
          have HKL : Hid (k + 4 ≤ k5) := hide (by omega)
          have HSUM := hide (HSM k (by omega))
          clear HSM hk hil
          obtain ⟨i0, hi, hz0, hz1, hz2⟩ := info_parts Tryz.infoB
          have HI := hide hi
          have HZ0 := hide hz0
          have HZ1 := hide hz1
          have HZ2 := hide hz2
          have HO5 := hide (lies_of_own ho5)
          have HNA : Hid (A5 = none → c5 = 0) := hide (fun h => by
            rcases ho5.2 with ⟨e0, h0⟩ | ⟨g, cap, cur, e0, _⟩
            · omega
            · injection e0 with e0
              rw [h] at e0
              cases e0)
          clear hi hz0 hz1 hz2 ho5
          go_wp2_with (at_builtin; refine wpList_append_src rfl _ _ 30 rfl 5 i0 (.int .u8 0) 1 Tryz.underlying30 HI.out HZ0.out HZ1.out HZ2.out rfl w5.heap.size (.slice none 0 0) 0 [] rfl (World.ownsRow_nil _ _ _ _) (Nat.le_refl _) A5 k5 c5 (xs.map (Value.int .u8)) rfl HO5.out HNA.out (ints_one _ _) (by omega) (by unfold maxLen; omega) ?_)
          intro A2 c2 w6 ho2 hg2
          obtain ⟨g, rfl⟩ : ∃ g, A2 = some ⟨g, 0, none⟩ := by
            rcases ho2.2 with ⟨e0, h0⟩ | ⟨g, cap, cur, e0, _⟩
            · omega
            · injection e0 with e0; exact ⟨g, e0⟩
          have HO2 : Hid (w6.ownsRow w5.heap.size 5 1 (.slice (some ⟨g, 0, none⟩) k5 c2) k5 (turnedV xs k (by1 : Int) 0)) := hide ho2
          have HB2 := hide (below_own10 (Below.refl w5.heap.size w5) (World.ownsRow_nil _ w5.heap.size 5 1) hg2 (Nat.le_refl _))
          clear ho2 hg2 HI HZ0 HZ1 HZ2 HO5 HNA
          go_wp2
          go_loopw [16] (fun i wr => ∃ j : Nat, j ≤ 4 ∧ i = .int .i64 j ∧ Hid (wr.ownsRow w5.heap.size 5 1 (.slice (some ⟨g, 0, none⟩) k5 c2) k5 (turnedV xs k (by1 : Int) j)) ∧ Hid (Below w5.heap.size w5 wr)) (fun i _ => 4 - (intOf i).toNat)
          case atStart => exact ⟨0, by omega, rfl, HO2, HB2⟩
          case round =>
            obtain ⟨j, hj, rfl, HO, HB⟩ := hrel
            have hsr := HB.out.size
            by_cases hlt : j < 4
            · have hkn := HKL.out
              obtain ⟨hgb, hgl⟩ := HO.out.lt g rfl
              obtain ⟨x, ex⟩ : ∃ x, x = (turned xs k (by1 : Int) j).getD (k + j) 0 := ⟨_, rfl⟩
              obtain ⟨y, ey⟩ : ∃ y, y = (four (by1 : Int)).getD j 0 := ⟨_, rfl⟩
              have hx0 := bytes_getD (bs := turned xs k (by1 : Int) j) (turned_byteL xs k (by1 : Int) j HXB.out) (k + j)
              have hy0 := bytes_getD (bs := four (by1 : Int)) (four_bytes _) j
              rw [← ex] at hx0
              rw [← ey] at hy0
              have hc : wr.cell? ⟨g, k + j, none⟩ = some (.int .u8 x) := by
                have h1 := HO.out.cellAt (k + j) (by omega)
                have h2 : (turnedV xs k (by1 : Int) j)[k + j]? = some (.int .u8 x) := by
                  have hl : k + j < (turned xs k (by1 : Int) j).length := by rw [turned_len, HLEN.out]; omega
                  rw [ex]
                  simp [turnedV, List.getD, hl]
                rw [h1, h2]
              have hf : wr.frozen? ⟨g, k + j, none⟩ = false := by
                rcases HO.out.2 with ⟨e0, h0⟩ | ⟨g', cap, cur, e0, _, hh, _⟩
                · omega
                · injection e0 with e0
                  injection e0 with e0
                  injection e0 with e0
                  subst e0
                  simp [World.frozen?, hh]
              have hfy := fourV11_at (by1 : Int) j hlt
              rw [← ey] at hfy
              have hr := u8_xor x y hx0.1 hx0.2 hy0.1 hy0.2
              have HST : Hid (∀ w' : World, w'.ownsRow w5.heap.size 5 1 (.slice (some ⟨g, 0, none⟩) k5 c2) k5 (turnedV xs k (by1 : Int) j) → (w'.setCell ⟨g, k + j, none⟩ (.int .u8 ((x.toNat ^^^ y.toNat : Nat) : Int))).ownsRow w5.heap.size 5 1 (.slice (some ⟨g, 0, none⟩) k5 c2) k5 (turnedV xs k (by1 : Int) (j + 1))) := hide (fun w' ho => stored_turned ho ex ey)
              obtain ⟨t, et⟩ : ∃ t : Int, t = ((x.toNat ^^^ y.toNat : Nat) : Int) := ⟨_, rfl⟩
              rw [← et] at hr HST
              have e1 : IntKind.i64.wrap ((k : Int) + (j : Int)) = (k : Int) + (j : Int) := IntWalk.i64_in _ (by omega)
              have e2 : (0 : Int) ≤ (k : Int) + (j : Int) := by omega
              have e3 : ((k : Int) + (j : Int)).toNat = k + j := by omega
              have e4 : (k : Int) + (j : Int) < (k5 : Int) := by omega
              have e5 : (0 : Int) ≤ (j : Int) := by omega
              have e6 : (j : Int) < 4 := by omega
              clear ex ey et
              have hcd : wr.drew.cell? ⟨g, k + j, none⟩ = some (.int .u8 x) := hc
              obtain ⟨q, hq⟩ : ∃ q, wr.drew.heap.size = q := ⟨_, rfl⟩
              have HQ := hide hq
              clear hq
              go_wp2_with fail
              have hS0 : Hid (wr.drew.cell? ⟨g, k + j, none⟩ = some (.int .u8 x)) := hide (hcd)
              refine wp_region_U (fun b v => b = false → v.cell? ⟨g, k + j, none⟩ = some (.int .u8 x)) 17 (by kernel_rfl) ?_
              refine wpAnyU_take (i := 0) (oi := { dst := some 100, op := _, type := _, pos := _, after := _, guard := none }) (v := .slice (some ⟨g, 0, none⟩) k5 c2) rfl (by kernel_rfl) (by kernel_rfl) (by kernel_rfl) (by kernel_rfl) (fun _ _ _ h => h) (yields_take rfl (fun w' hw => by have h1 := hw.no (by kernel_rfl) rfl; go_simp)) (fun _ => hS0.out) ?_
              simp only [Act.put, List.setIfInBounds_toArray, List.set_cons_zero, List.set_cons_succ]
              refine wpAnyU_take (i := 1) (oi := { dst := some 101, op := _, type := _, pos := _, after := _, guard := none }) (v := .int .i64 (k : Int)) rfl (by kernel_rfl) (by kernel_rfl) (by kernel_rfl) (by kernel_rfl) (fun _ _ _ h => h) (yields_take rfl (fun w' hw => by have h1 := hw.no (by kernel_rfl) rfl; go_simp)) (fun _ => hS0.out) ?_
              simp only [Act.put, List.setIfInBounds_toArray, List.set_cons_zero, List.set_cons_succ]
              refine wpAnyU_take (i := 2) (oi := { dst := some 102, op := _, type := _, pos := _, after := _, guard := none }) (v := .int .i64 (j : Int)) rfl (by kernel_rfl) (by kernel_rfl) (by kernel_rfl) (by kernel_rfl) (fun _ _ _ h => h) (yields_take rfl (fun w' hw => by have h1 := hw.no (by kernel_rfl) rfl; go_simp)) (fun _ => hS0.out) ?_
              simp only [Act.put, List.setIfInBounds_toArray, List.set_cons_zero, List.set_cons_succ]
              refine wpAnyU_take (i := 3) (oi := { dst := some 103, op := _, type := _, pos := _, after := _, guard := none }) (v := .int .i64 ((k : Int) + (j : Int))) rfl (by kernel_rfl) (by kernel_rfl) (by kernel_rfl) (by kernel_rfl) (fun _ _ _ h => h) (yields_take rfl (fun w' hw => by have h1 := hw.no (by kernel_rfl) rfl; go_simp)) (fun _ => hS0.out) ?_
              simp only [Act.put, List.setIfInBounds_toArray, List.set_cons_zero, List.set_cons_succ]
              refine wpAnyU_take (i := 4) (oi := { dst := some 104, op := _, type := _, pos := _, after := _, guard := none }) (v := .slice (some ⟨g, 0, none⟩) k5 c2) rfl (by kernel_rfl) (by kernel_rfl) (by kernel_rfl) (by kernel_rfl) (fun _ _ _ h => h) (yields_take rfl (fun w' hw => by have h1 := hw.no (by kernel_rfl) rfl; go_simp)) (fun _ => hS0.out) ?_
              simp only [Act.put, List.setIfInBounds_toArray, List.set_cons_zero, List.set_cons_succ]
              refine wpAnyU_take (i := 5) (oi := { dst := some 105, op := _, type := _, pos := _, after := _, guard := none }) (v := .int .i64 (k : Int)) rfl (by kernel_rfl) (by kernel_rfl) (by kernel_rfl) (by kernel_rfl) (fun _ _ _ h => h) (yields_take rfl (fun w' hw => by have h1 := hw.no (by kernel_rfl) rfl; go_simp)) (fun _ => hS0.out) ?_
              simp only [Act.put, List.setIfInBounds_toArray, List.set_cons_zero, List.set_cons_succ]
              refine wpAnyU_take (i := 6) (oi := { dst := some 106, op := _, type := _, pos := _, after := _, guard := none }) (v := .int .i64 (j : Int)) rfl (by kernel_rfl) (by kernel_rfl) (by kernel_rfl) (by kernel_rfl) (fun _ _ _ h => h) (yields_take rfl (fun w' hw => by have h1 := hw.no (by kernel_rfl) rfl; go_simp)) (fun _ => hS0.out) ?_
              simp only [Act.put, List.setIfInBounds_toArray, List.set_cons_zero, List.set_cons_succ]
              refine wpAnyU_take (i := 7) (oi := { dst := some 107, op := _, type := _, pos := _, after := _, guard := none }) (v := .int .i64 ((k : Int) + (j : Int))) rfl (by kernel_rfl) (by kernel_rfl) (by kernel_rfl) (by kernel_rfl) (fun _ _ _ h => h) (yields_take rfl (fun w' hw => by have h1 := hw.no (by kernel_rfl) rfl; go_simp)) (fun _ => hS0.out) ?_
              simp only [Act.put, List.setIfInBounds_toArray, List.set_cons_zero, List.set_cons_succ]
              refine wpAnyU_take (i := 8) (oi := { dst := some 108, op := _, type := _, pos := _, after := _, guard := none }) (v := .pointer (some ⟨g, k + j, none⟩)) rfl (by kernel_rfl) (by kernel_rfl) (by kernel_rfl) (by kernel_rfl) (fun _ _ _ h => h) (yields_take rfl (fun w' hw => by have h1 := hw.no (by kernel_rfl) rfl; go_simp)) (fun _ => hS0.out) ?_
              simp only [Act.put, List.setIfInBounds_toArray, List.set_cons_zero, List.set_cons_succ]
              refine wpAnyU_take (i := 9) (oi := { dst := some 109, op := _, type := _, pos := _, after := _, guard := none }) (v := .int .u8 x) rfl (by kernel_rfl) (by kernel_rfl) (by kernel_rfl) (by kernel_rfl) (fun _ _ _ h => h) (yields_take rfl (fun w' hw => by have h1 := hw.no (by kernel_rfl) rfl; go_simp)) (fun _ => hS0.out) ?_
              simp only [Act.put, List.setIfInBounds_toArray, List.set_cons_zero, List.set_cons_succ]
              refine wpAnyU_take (i := 10) (oi := { dst := some 110, op := _, type := _, pos := _, after := _, guard := none }) (v := .int .u32 (by1 : Int)) rfl (by kernel_rfl) (by kernel_rfl) (by kernel_rfl) (by kernel_rfl) (fun _ _ _ h => h) (yields_take rfl (fun w' hw => by have h1 := hw.no (by kernel_rfl) rfl; go_simp)) (fun _ => hS0.out) ?_
              simp only [Act.put, List.setIfInBounds_toArray, List.set_cons_zero, List.set_cons_succ]
              refine wpAnyU_take (i := 12) (oi := { dst := some 112, op := _, type := _, pos := _, after := _, guard := none }) (v := .int .i64 (j : Int)) rfl (by kernel_rfl) (by kernel_rfl) (by kernel_rfl) (by kernel_rfl) (fun _ _ _ h => h) (yields_take rfl (fun w' hw => by have h1 := hw.no (by kernel_rfl) rfl; go_simp)) (fun _ => hS0.out) ?_
              simp only [Act.put, List.setIfInBounds_toArray, List.set_cons_zero, List.set_cons_succ]
              refine wpAnyU_one (i := 11) (by kernel_rfl) rfl ?_
              intro K hK
              go_simp
              refine Calls.mono (four11Q by1 hby _ q HQ.out) ?_
              rintro e w4 ⟨rfl, hw4⟩
              (try dsimp only)
              have hb4 : Below wr.heap.size wr w4 := by rw [hw4]; exact below_nx6 (below_drewN (Below.refl _ _) 1) (below_al6 (Below.refl _ _))
              have hy4 : w4.cell? ⟨q, j, none⟩ = some (.int .u8 y) := (cell_of_row w4 q j _ 5 (0, 0) (by rw [hw4, ← HQ.out]; exact heap_alloc_new wr.drew _)).trans (by rw [List.getElem?_toArray]; exact hfy)
              have hf4 : w4.frozen? ⟨g, k + j, none⟩ = false := (World.frozen?_of_block (hb4.block _ hgl)).trans hf
              clear hw4
              have hS1 : Hid (w4.cell? ⟨g, k + j, none⟩ = some (.int .u8 x)) := hide ((hb4.cell (World.block_lt_of_cell? _ _ hc)).trans hc)
              refine hK.out _ _ (fun _ => hS1.out) (fun _ => ?_)
              clear hK K hS0
              refine wpAnyU_take (i := 13) (oi := { dst := some 113, op := _, type := _, pos := _, after := _, guard := none }) (v := .pointer (some ⟨q, j, none⟩)) rfl (by kernel_rfl) (by kernel_rfl) (by kernel_rfl) (by kernel_rfl) (fun _ _ _ h => h) (yields_take rfl (fun w' hw => by have h1 := hw.no (by kernel_rfl) rfl; go_simp)) (fun _ => hS1.out) ?_
              simp only [Act.put, List.setIfInBounds_toArray, List.set_cons_zero, List.set_cons_succ]
              refine wpAnyU_one (i := 14) (by kernel_rfl) rfl ?_
              intro K hK
              go_simp
              have hS2 : Hid (w4.cell? ⟨g, k + j, none⟩ = some (.int .u8 x)) := hide ((hb4.cell (World.block_lt_of_cell? _ _ hc)).trans hc)
              refine hK.out _ _ (fun _ => hS2.out) (fun _ => ?_)
              clear hK K hS1
              refine wpAnyU_take (i := 15) (oi := { dst := some 115, op := _, type := _, pos := _, after := _, guard := none }) (v := .int .u8 t) rfl (by kernel_rfl) (by kernel_rfl) (by kernel_rfl) (by kernel_rfl) (fun _ _ _ h => h) (yields_take rfl (fun w' hw => by have h1 := hw.no (by kernel_rfl) rfl; go_simp)) (fun _ => hS2.out) ?_
              simp only [Act.put, List.setIfInBounds_toArray, List.set_cons_zero, List.set_cons_succ]
              refine wpAnyU_take (i := 16) (oi := { dst := some 116, op := _, type := _, pos := _, after := _, guard := none }) (v := .pointer (some ⟨g, k + j, none⟩)) rfl (by kernel_rfl) (by kernel_rfl) (by kernel_rfl) (by kernel_rfl) (fun _ _ _ h => h) (yields_take rfl (fun w' hw => by have h1 := hw.no (by kernel_rfl) rfl; go_simp)) (fun _ => hS2.out) ?_
              simp only [Act.put, List.setIfInBounds_toArray, List.set_cons_zero, List.set_cons_succ]
              refine wpAnyU_one (i := 17) (by kernel_rfl) rfl ?_
              intro K hK
              go_simp
              refine hK.out _ _ (fun h => by cases h) (fun _ => ?_)
              clear hK K
              refine wpAnyU_done (by kernel_rfl) ?_ _
              clear hS2
              have HOn : Hid ((w4.setCell ⟨g, k + j, none⟩ (.int .u8 t)).ownsRow w5.heap.size 5 1 (.slice (some ⟨g, 0, none⟩) k5 c2) k5 (turnedV xs k (by1 : Int) (j + 1))) := hide (HST.out w4 (own_below HO.out hb4))
              have HBn : Hid (Below w5.heap.size w5 (w4.setCell ⟨g, k + j, none⟩ (.int .u8 t))) := hide ((below_nx6 HB.out hb4).setCell (by dsimp only; exact hgb) _)
              clear e1 e2 e3 e4 hc hcd hf hf4 hy4 hfy hr HO HB HST
              go_wp2
              go_roundw
              case rel => exact ⟨j + 1, by omega, by go_num, HOn, HBn⟩
              case measure => simp [intOf]; omega
            · obtain rfl : j = 4 := by omega
              have HL3 : Hid (Lies wr (some ⟨g, 0, none⟩) k5 ((turned xs k (by1 : Int) 4).map (Value.int .u8))) := hide (lies_of_own HO.out)
              have hcc := own_cap11 HO.out
              have hc63 := own_cap64 HO.out
              have HBF := hide (below_nx6 HB5.out HB.out)
              clear HO HB HO2 HB2
              by_cases hb0 : by1 = 0
              · subst hb0
                have ht := turned_zero xs k (k5 - k - 4) (by rw [HLEN.out]; have := HKL.out; omega) HXB.out
                have hbb : (((0 : Nat) : Int) == 0) = true := rfl
                go_wp2_with fail
                refine Calls.mono (mget_any (some ⟨g, 0, none⟩) k5 c2 (turned xs k ((0 : Nat) : Int) 4) _ HL3.out (turned_byteL xs k ((0 : Nat) : Int) 4 HXB.out) (by omega) hcc hc63) ?_
                rintro e w7 ⟨hE, hb⟩
                have HBG := hide (below_nx6 HBF.out hb)
                clear hb
                rcases hE with ⟨hg, _⟩ | ⟨hg, ns2, ts2, A6, B6, c6, d6, rfl, _⟩
                · rw [show ((0 : Nat) : Int) = 0 from rfl, ht] at hg
                  rw [HGB.out] at hg
                  cases hg
                · go_wp2
                  go_ret
                  exact ⟨rfl, below_nx6 HB0.out (below_al6 HBG.out)⟩
              · have hne := HSUM.out hb0
                have hbb : ((by1 : Int) == 0) = false := by rw [beq_eq_false_iff_ne]; omega
                have hbi : ¬ (by1 : Int) = 0 := by omega
                go_wp2_with fail
                refine Calls.mono (get_sum (some ⟨g, 0, none⟩) k5 c2 (turned xs k (by1 : Int) 4) _ HL3.out (turned_byteL xs k (by1 : Int) 4 HXB.out) (by omega) (by omega) hcc hc63 hne) ?_
                rintro e w7 ⟨rfl, hb⟩
                have HBG := hide (below_nx6 HBF.out hb)
                clear hb hne
                simp only [md0]
                go_wp2
                go_ret
                exact ⟨rfl, below_nx6 HB0.out (below_al6 HBG.out)⟩
        · obtain ⟨k, hk⟩ : ∃ k, k = kA := ⟨_, rfl⟩
          rw [← hk] at hm1 hm2 h8 hkl
          have HKL : Hid (k + 4 ≤ k5) := hide (by omega)
          have HSUM := hide (HSM k (by omega))
          clear HSM hk hil
          obtain ⟨i0, hi, hz0, hz1, hz2⟩ := info_parts Tryz.infoB
          have HI := hide hi
          have HZ0 := hide hz0
          have HZ1 := hide hz1
          have HZ2 := hide hz2
          have HO5 := hide (lies_of_own ho5)
          have HNA : Hid (A5 = none → c5 = 0) := hide (fun h => by
            rcases ho5.2 with ⟨e0, h0⟩ | ⟨g, cap, cur, e0, _⟩
            · omega
            · injection e0 with e0
              rw [h] at e0
              cases e0)
          clear hi hz0 hz1 hz2 ho5
          go_wp2_with (at_builtin; refine wpList_append_src rfl _ _ 30 rfl 5 i0 (.int .u8 0) 1 Tryz.underlying30 HI.out HZ0.out HZ1.out HZ2.out rfl w5.heap.size (.slice none 0 0) 0 [] rfl (World.ownsRow_nil _ _ _ _) (Nat.le_refl _) A5 k5 c5 (xs.map (Value.int .u8)) rfl HO5.out HNA.out (ints_one _ _) (by omega) (by unfold maxLen; omega) ?_)
          intro A2 c2 w6 ho2 hg2
          obtain ⟨g, rfl⟩ : ∃ g, A2 = some ⟨g, 0, none⟩ := by
            rcases ho2.2 with ⟨e0, h0⟩ | ⟨g, cap, cur, e0, _⟩
            · omega
            · injection e0 with e0; exact ⟨g, e0⟩
          have HO2 : Hid (w6.ownsRow w5.heap.size 5 1 (.slice (some ⟨g, 0, none⟩) k5 c2) k5 (turnedV xs k (by1 : Int) 0)) := hide ho2
          have HB2 := hide (below_own10 (Below.refl w5.heap.size w5) (World.ownsRow_nil _ w5.heap.size 5 1) hg2 (Nat.le_refl _))
          clear ho2 hg2 HI HZ0 HZ1 HZ2 HO5 HNA
          go_wp2
          go_loopw [16] (fun i wr => ∃ j : Nat, j ≤ 4 ∧ i = .int .i64 j ∧ Hid (wr.ownsRow w5.heap.size 5 1 (.slice (some ⟨g, 0, none⟩) k5 c2) k5 (turnedV xs k (by1 : Int) j)) ∧ Hid (Below w5.heap.size w5 wr)) (fun i _ => 4 - (intOf i).toNat)
          case atStart => exact ⟨0, by omega, rfl, HO2, HB2⟩
          case round =>
            obtain ⟨j, hj, rfl, HO, HB⟩ := hrel
            have hsr := HB.out.size
            by_cases hlt : j < 4
            · have hkn := HKL.out
              obtain ⟨hgb, hgl⟩ := HO.out.lt g rfl
              obtain ⟨x, ex⟩ : ∃ x, x = (turned xs k (by1 : Int) j).getD (k + j) 0 := ⟨_, rfl⟩
              obtain ⟨y, ey⟩ : ∃ y, y = (four (by1 : Int)).getD j 0 := ⟨_, rfl⟩
              have hx0 := bytes_getD (bs := turned xs k (by1 : Int) j) (turned_byteL xs k (by1 : Int) j HXB.out) (k + j)
              have hy0 := bytes_getD (bs := four (by1 : Int)) (four_bytes _) j
              rw [← ex] at hx0
              rw [← ey] at hy0
              have hc : wr.cell? ⟨g, k + j, none⟩ = some (.int .u8 x) := by
                have h1 := HO.out.cellAt (k + j) (by omega)
                have h2 : (turnedV xs k (by1 : Int) j)[k + j]? = some (.int .u8 x) := by
                  have hl : k + j < (turned xs k (by1 : Int) j).length := by rw [turned_len, HLEN.out]; omega
                  rw [ex]
                  simp [turnedV, List.getD, hl]
                rw [h1, h2]
              have hf : wr.frozen? ⟨g, k + j, none⟩ = false := by
                rcases HO.out.2 with ⟨e0, h0⟩ | ⟨g', cap, cur, e0, _, hh, _⟩
                · omega
                · injection e0 with e0
                  injection e0 with e0
                  injection e0 with e0
                  subst e0
                  simp [World.frozen?, hh]
              have hfy := fourV11_at (by1 : Int) j hlt
              rw [← ey] at hfy
              have hr := u8_xor x y hx0.1 hx0.2 hy0.1 hy0.2
              have HST : Hid (∀ w' : World, w'.ownsRow w5.heap.size 5 1 (.slice (some ⟨g, 0, none⟩) k5 c2) k5 (turnedV xs k (by1 : Int) j) → (w'.setCell ⟨g, k + j, none⟩ (.int .u8 ((x.toNat ^^^ y.toNat : Nat) : Int))).ownsRow w5.heap.size 5 1 (.slice (some ⟨g, 0, none⟩) k5 c2) k5 (turnedV xs k (by1 : Int) (j + 1))) := hide (fun w' ho => stored_turned ho ex ey)
              obtain ⟨t, et⟩ : ∃ t : Int, t = ((x.toNat ^^^ y.toNat : Nat) : Int) := ⟨_, rfl⟩
              rw [← et] at hr HST
              have e1 : IntKind.i64.wrap ((k : Int) + (j : Int)) = (k : Int) + (j : Int) := IntWalk.i64_in _ (by omega)
              have e2 : (0 : Int) ≤ (k : Int) + (j : Int) := by omega
              have e3 : ((k : Int) + (j : Int)).toNat = k + j := by omega
              have e4 : (k : Int) + (j : Int) < (k5 : Int) := by omega
              have e5 : (0 : Int) ≤ (j : Int) := by omega
              have e6 : (j : Int) < 4 := by omega
              clear ex ey et
              have hcd : wr.drew.cell? ⟨g, k + j, none⟩ = some (.int .u8 x) := hc
              obtain ⟨q, hq⟩ : ∃ q, wr.drew.heap.size = q := ⟨_, rfl⟩
              have HQ := hide hq
              clear hq
              go_wp2_with fail
              have hS0 : Hid (wr.drew.cell? ⟨g, k + j, none⟩ = some (.int .u8 x)) := hide (hcd)
              refine wp_region_U (fun b v => b = false → v.cell? ⟨g, k + j, none⟩ = some (.int .u8 x)) 17 (by kernel_rfl) ?_
              refine wpAnyU_take (i := 0) (oi := { dst := some 100, op := _, type := _, pos := _, after := _, guard := none }) (v := .slice (some ⟨g, 0, none⟩) k5 c2) rfl (by kernel_rfl) (by kernel_rfl) (by kernel_rfl) (by kernel_rfl) (fun _ _ _ h => h) (yields_take rfl (fun w' hw => by have h1 := hw.no (by kernel_rfl) rfl; go_simp)) (fun _ => hS0.out) ?_
              simp only [Act.put, List.setIfInBounds_toArray, List.set_cons_zero, List.set_cons_succ]
              refine wpAnyU_take (i := 1) (oi := { dst := some 101, op := _, type := _, pos := _, after := _, guard := none }) (v := .int .i64 (k : Int)) rfl (by kernel_rfl) (by kernel_rfl) (by kernel_rfl) (by kernel_rfl) (fun _ _ _ h => h) (yields_take rfl (fun w' hw => by have h1 := hw.no (by kernel_rfl) rfl; go_simp)) (fun _ => hS0.out) ?_
              simp only [Act.put, List.setIfInBounds_toArray, List.set_cons_zero, List.set_cons_succ]
              refine wpAnyU_take (i := 2) (oi := { dst := some 102, op := _, type := _, pos := _, after := _, guard := none }) (v := .int .i64 (j : Int)) rfl (by kernel_rfl) (by kernel_rfl) (by kernel_rfl) (by kernel_rfl) (fun _ _ _ h => h) (yields_take rfl (fun w' hw => by have h1 := hw.no (by kernel_rfl) rfl; go_simp)) (fun _ => hS0.out) ?_
              simp only [Act.put, List.setIfInBounds_toArray, List.set_cons_zero, List.set_cons_succ]
              refine wpAnyU_take (i := 3) (oi := { dst := some 103, op := _, type := _, pos := _, after := _, guard := none }) (v := .int .i64 ((k : Int) + (j : Int))) rfl (by kernel_rfl) (by kernel_rfl) (by kernel_rfl) (by kernel_rfl) (fun _ _ _ h => h) (yields_take rfl (fun w' hw => by have h1 := hw.no (by kernel_rfl) rfl; go_simp)) (fun _ => hS0.out) ?_
              simp only [Act.put, List.setIfInBounds_toArray, List.set_cons_zero, List.set_cons_succ]
              refine wpAnyU_take (i := 4) (oi := { dst := some 104, op := _, type := _, pos := _, after := _, guard := none }) (v := .slice (some ⟨g, 0, none⟩) k5 c2) rfl (by kernel_rfl) (by kernel_rfl) (by kernel_rfl) (by kernel_rfl) (fun _ _ _ h => h) (yields_take rfl (fun w' hw => by have h1 := hw.no (by kernel_rfl) rfl; go_simp)) (fun _ => hS0.out) ?_
              simp only [Act.put, List.setIfInBounds_toArray, List.set_cons_zero, List.set_cons_succ]
              refine wpAnyU_take (i := 5) (oi := { dst := some 105, op := _, type := _, pos := _, after := _, guard := none }) (v := .int .i64 (k : Int)) rfl (by kernel_rfl) (by kernel_rfl) (by kernel_rfl) (by kernel_rfl) (fun _ _ _ h => h) (yields_take rfl (fun w' hw => by have h1 := hw.no (by kernel_rfl) rfl; go_simp)) (fun _ => hS0.out) ?_
              simp only [Act.put, List.setIfInBounds_toArray, List.set_cons_zero, List.set_cons_succ]
              refine wpAnyU_take (i := 6) (oi := { dst := some 106, op := _, type := _, pos := _, after := _, guard := none }) (v := .int .i64 (j : Int)) rfl (by kernel_rfl) (by kernel_rfl) (by kernel_rfl) (by kernel_rfl) (fun _ _ _ h => h) (yields_take rfl (fun w' hw => by have h1 := hw.no (by kernel_rfl) rfl; go_simp)) (fun _ => hS0.out) ?_
              simp only [Act.put, List.setIfInBounds_toArray, List.set_cons_zero, List.set_cons_succ]
              refine wpAnyU_take (i := 7) (oi := { dst := some 107, op := _, type := _, pos := _, after := _, guard := none }) (v := .int .i64 ((k : Int) + (j : Int))) rfl (by kernel_rfl) (by kernel_rfl) (by kernel_rfl) (by kernel_rfl) (fun _ _ _ h => h) (yields_take rfl (fun w' hw => by have h1 := hw.no (by kernel_rfl) rfl; go_simp)) (fun _ => hS0.out) ?_
              simp only [Act.put, List.setIfInBounds_toArray, List.set_cons_zero, List.set_cons_succ]
              refine wpAnyU_take (i := 8) (oi := { dst := some 108, op := _, type := _, pos := _, after := _, guard := none }) (v := .pointer (some ⟨g, k + j, none⟩)) rfl (by kernel_rfl) (by kernel_rfl) (by kernel_rfl) (by kernel_rfl) (fun _ _ _ h => h) (yields_take rfl (fun w' hw => by have h1 := hw.no (by kernel_rfl) rfl; go_simp)) (fun _ => hS0.out) ?_
              simp only [Act.put, List.setIfInBounds_toArray, List.set_cons_zero, List.set_cons_succ]
              refine wpAnyU_take (i := 9) (oi := { dst := some 109, op := _, type := _, pos := _, after := _, guard := none }) (v := .int .u8 x) rfl (by kernel_rfl) (by kernel_rfl) (by kernel_rfl) (by kernel_rfl) (fun _ _ _ h => h) (yields_take rfl (fun w' hw => by have h1 := hw.no (by kernel_rfl) rfl; go_simp)) (fun _ => hS0.out) ?_
              simp only [Act.put, List.setIfInBounds_toArray, List.set_cons_zero, List.set_cons_succ]
              refine wpAnyU_take (i := 10) (oi := { dst := some 110, op := _, type := _, pos := _, after := _, guard := none }) (v := .int .u32 (by1 : Int)) rfl (by kernel_rfl) (by kernel_rfl) (by kernel_rfl) (by kernel_rfl) (fun _ _ _ h => h) (yields_take rfl (fun w' hw => by have h1 := hw.no (by kernel_rfl) rfl; go_simp)) (fun _ => hS0.out) ?_
              simp only [Act.put, List.setIfInBounds_toArray, List.set_cons_zero, List.set_cons_succ]
              refine wpAnyU_take (i := 12) (oi := { dst := some 112, op := _, type := _, pos := _, after := _, guard := none }) (v := .int .i64 (j : Int)) rfl (by kernel_rfl) (by kernel_rfl) (by kernel_rfl) (by kernel_rfl) (fun _ _ _ h => h) (yields_take rfl (fun w' hw => by have h1 := hw.no (by kernel_rfl) rfl; go_simp)) (fun _ => hS0.out) ?_
              simp only [Act.put, List.setIfInBounds_toArray, List.set_cons_zero, List.set_cons_succ]
              refine wpAnyU_one (i := 11) (by kernel_rfl) rfl ?_
              intro K hK
              go_simp
              refine Calls.mono (four11Q by1 hby _ q HQ.out) ?_
              rintro e w4 ⟨rfl, hw4⟩
              (try dsimp only)
              have hb4 : Below wr.heap.size wr w4 := by rw [hw4]; exact below_nx6 (below_drewN (Below.refl _ _) 1) (below_al6 (Below.refl _ _))
              have hy4 : w4.cell? ⟨q, j, none⟩ = some (.int .u8 y) := (cell_of_row w4 q j _ 5 (0, 0) (by rw [hw4, ← HQ.out]; exact heap_alloc_new wr.drew _)).trans (by rw [List.getElem?_toArray]; exact hfy)
              have hf4 : w4.frozen? ⟨g, k + j, none⟩ = false := (World.frozen?_of_block (hb4.block _ hgl)).trans hf
              clear hw4
              have hS1 : Hid (w4.cell? ⟨g, k + j, none⟩ = some (.int .u8 x)) := hide ((hb4.cell (World.block_lt_of_cell? _ _ hc)).trans hc)
              refine hK.out _ _ (fun _ => hS1.out) (fun _ => ?_)
              clear hK K hS0
              refine wpAnyU_take (i := 13) (oi := { dst := some 113, op := _, type := _, pos := _, after := _, guard := none }) (v := .pointer (some ⟨q, j, none⟩)) rfl (by kernel_rfl) (by kernel_rfl) (by kernel_rfl) (by kernel_rfl) (fun _ _ _ h => h) (yields_take rfl (fun w' hw => by have h1 := hw.no (by kernel_rfl) rfl; go_simp)) (fun _ => hS1.out) ?_
              simp only [Act.put, List.setIfInBounds_toArray, List.set_cons_zero, List.set_cons_succ]
              refine wpAnyU_one (i := 14) (by kernel_rfl) rfl ?_
              intro K hK
              go_simp
              have hS2 : Hid (w4.cell? ⟨g, k + j, none⟩ = some (.int .u8 x)) := hide ((hb4.cell (World.block_lt_of_cell? _ _ hc)).trans hc)
              refine hK.out _ _ (fun _ => hS2.out) (fun _ => ?_)
              clear hK K hS1
              refine wpAnyU_take (i := 15) (oi := { dst := some 115, op := _, type := _, pos := _, after := _, guard := none }) (v := .int .u8 t) rfl (by kernel_rfl) (by kernel_rfl) (by kernel_rfl) (by kernel_rfl) (fun _ _ _ h => h) (yields_take rfl (fun w' hw => by have h1 := hw.no (by kernel_rfl) rfl; go_simp)) (fun _ => hS2.out) ?_
              simp only [Act.put, List.setIfInBounds_toArray, List.set_cons_zero, List.set_cons_succ]
              refine wpAnyU_take (i := 16) (oi := { dst := some 116, op := _, type := _, pos := _, after := _, guard := none }) (v := .pointer (some ⟨g, k + j, none⟩)) rfl (by kernel_rfl) (by kernel_rfl) (by kernel_rfl) (by kernel_rfl) (fun _ _ _ h => h) (yields_take rfl (fun w' hw => by have h1 := hw.no (by kernel_rfl) rfl; go_simp)) (fun _ => hS2.out) ?_
              simp only [Act.put, List.setIfInBounds_toArray, List.set_cons_zero, List.set_cons_succ]
              refine wpAnyU_one (i := 17) (by kernel_rfl) rfl ?_
              intro K hK
              go_simp
              refine hK.out _ _ (fun h => by cases h) (fun _ => ?_)
              clear hK K
              refine wpAnyU_done (by kernel_rfl) ?_ _
              clear hS2
              have HOn : Hid ((w4.setCell ⟨g, k + j, none⟩ (.int .u8 t)).ownsRow w5.heap.size 5 1 (.slice (some ⟨g, 0, none⟩) k5 c2) k5 (turnedV xs k (by1 : Int) (j + 1))) := hide (HST.out w4 (own_below HO.out hb4))
              have HBn : Hid (Below w5.heap.size w5 (w4.setCell ⟨g, k + j, none⟩ (.int .u8 t))) := hide ((below_nx6 HB.out hb4).setCell (by dsimp only; exact hgb) _)
              clear e1 e2 e3 e4 hc hcd hf hf4 hy4 hfy hr HO HB HST
              go_wp2
              go_roundw
              case rel => exact ⟨j + 1, by omega, by go_num, HOn, HBn⟩
              case measure => simp [intOf]; omega
            · obtain rfl : j = 4 := by omega
              have HL3 : Hid (Lies wr (some ⟨g, 0, none⟩) k5 ((turned xs k (by1 : Int) 4).map (Value.int .u8))) := hide (lies_of_own HO.out)
              have hcc := own_cap11 HO.out
              have hc63 := own_cap64 HO.out
              have HBF := hide (below_nx6 HB5.out HB.out)
              clear HO HB HO2 HB2
              by_cases hb0 : by1 = 0
              · subst hb0
                have ht := turned_zero xs k (k5 - k - 4) (by rw [HLEN.out]; have := HKL.out; omega) HXB.out
                have hbb : (((0 : Nat) : Int) == 0) = true := rfl
                go_wp2_with fail
                refine Calls.mono (mget_any (some ⟨g, 0, none⟩) k5 c2 (turned xs k ((0 : Nat) : Int) 4) _ HL3.out (turned_byteL xs k ((0 : Nat) : Int) 4 HXB.out) (by omega) hcc hc63) ?_
                rintro e w7 ⟨hE, hb⟩
                have HBG := hide (below_nx6 HBF.out hb)
                clear hb
                rcases hE with ⟨hg, _⟩ | ⟨hg, ns2, ts2, A6, B6, c6, d6, rfl, _⟩
                · rw [show ((0 : Nat) : Int) = 0 from rfl, ht] at hg
                  rw [HGB.out] at hg
                  cases hg
                · go_wp2
                  go_ret
                  exact ⟨rfl, below_nx6 HB0.out (below_al6 HBG.out)⟩
              · have hne := HSUM.out hb0
                have hbb : ((by1 : Int) == 0) = false := by rw [beq_eq_false_iff_ne]; omega
                have hbi : ¬ (by1 : Int) = 0 := by omega
                go_wp2_with fail
                refine Calls.mono (get_sum (some ⟨g, 0, none⟩) k5 c2 (turned xs k (by1 : Int) 4) _ HL3.out (turned_byteL xs k (by1 : Int) 4 HXB.out) (by omega) (by omega) hcc hc63 hne) ?_
                rintro e w7 ⟨rfl, hb⟩
                have HBG := hide (below_nx6 HBF.out hb)
                clear hb hne
                simp only [md0]
                go_wp2
                go_ret
                exact ⟨rfl, below_nx6 HB0.out (below_al6 HBG.out)⟩
  · go_wp2_with fail
    refine Calls.mono (mput_any A' B' ns'.length c' ts'.length d' ns' ts' _ (hns'.below (below_al6 (Below.refl _ _))) (by have := gphB_n11 (mdB_parts.1 hmd').1; omega) hcc (hws'.below (below_al6 (Below.refl _ _))) (by have := wsFit_len (mdB_parts.1 hmd').2; have := wtF_len11 ns' 0; have := gphB_n11 (mdB_parts.1 hmd').1; omega)) ?_
    rintro e w4 ⟨A4, k4, c4, z4, rfl, _, hp1, hb⟩
    obtain ⟨rfl, ho4, hk4⟩ := hp1 hmd'
    rw [hmp'] at ho4
    have HB4 := hide (below_nx6 (below_al6 HB3.out) hb)
    clear hb hp1
    go_wp2_with fail
    refine Calls.mono (sameG_Bytes A4 C k4 c4 p cp bs bs _ (lies_of_own ho4) (HLB.out.below HB4.out) (by omega)) ?_
    rw [show decide (bs = bs) = true by simp]
    rintro e w4b ⟨rfl, jj, hj⟩
    have HB4b : Hid (Below W0.heap.size W0 w4b) := hide (by rw [hj]; exact below_drewN HB4.out jj)
    clear hj ho4
    have HBT := hide HB4b.out
    obtain ⟨⟨c0, c1⟩, y0, y1⟩ := HKC.out _ HBT.out
    go_wp2_with fail
    refine Calls.mono (mput_any A B n c m d ns ts _ (HN.out.below HBT.out) (by omega) hc (HWS.out.below HBT.out) hm) ?_
    rintro e w5 ⟨A5, k5, c5, z5, rfl, hp0, hp1, hb⟩
    have HB5 := hide (below_nx6 HBT.out hb)
    clear hb c0 c1 y0 y1
    obtain ⟨⟨c0, c1⟩, y0, y1⟩ := HKC.out _ HB5.out
    obtain ⟨R, hR⟩ : ∃ z, z = mdB ns ts := ⟨_, rfl⟩
    rw [← hR] at hp0 hp1
    cases R with
    | false =>
      obtain ⟨rfl, rfl⟩ := hp0 rfl
      go_wp2
      go_ret
      exact ⟨rfl, below_nx6 HB0.out HB5.out⟩
    | true =>
      obtain ⟨rfl, ho5, hk5⟩ := hp1 rfl
      obtain ⟨xs, hxs⟩ : ∃ z, z = mdP ns ts := ⟨_, rfl⟩
      obtain ⟨I, hI⟩ : ∃ z, z = mdI ns ts := ⟨_, rfl⟩
      rw [← hxs] at ho5
      have hgp := (mdB_parts.1 hR.symm).1
      have hIB : ByteL I := by rw [hI]; exact mdI_bytes hgp
      have HXB : Hid (ByteL xs) := hide (by rw [hxs]; exact mdP_bytes hgp)
      have hxI : xs = I ++ four ((sumOf I : Nat) : Int) := by rw [hxs, hI]; rfl
      have HLEN : Hid (xs.length = k5) := hide (lies_len9 (lies_of_own ho5))
      have hil : I.length + 4 = k5 := by
        have h1 := HLEN.out
        rw [hxI, List.length_append, four_len] at h1
        omega
      have HGB : Hid (getB xs = true) := hide (by rw [hxs]; exact (getB_put hR.symm HKD.out (fun t ht => (HWL.out t ht).1)).1)
      obtain ⟨kA, hkA⟩ : ∃ k, k = at1 % (k5 - 3) := ⟨_, rfl⟩
      have hkl : kA < k5 - 3 := by rw [hkA]; exact Nat.mod_lt _ (by omega)
      have hm2 : (at1 : Int) % ((k5 : Int) - 3) = (kA : Int) := by rw [hkA, show ((k5 : Int) - 3) = ((k5 - 3 : Nat) : Int) by omega]; rfl
      have hm1 : (at1 : Int).tmod ((k5 : Int) - 3) = (kA : Int) := by rw [Int.tmod_eq_emod_of_nonneg (by omega), hm2]
      have hnz : ¬ ((k5 : Int) - 3 = 0) := by omega
      have HSM : ∀ k, (k + 4 ≤ I.length ∨ k = I.length) → by1 ≠ 0 → head4 ((turned xs k (by1 : Int) 4).drop (k5 - 4)) ≠ ((sumOf ((turned xs k (by1 : Int) 4).take (k5 - 4)) : Nat) : Int) := fun k hk h0 => by
        have h1 := turned_sum11 (I := I) (k := k) (b := by1) hIB hk hby h0
        rw [← hxI, show I.length = k5 - 4 by omega] at h1
        exact h1
      clear hp0 hp1 hR hxs hI hgp hIB hxI hkA
      by_cases h8 : (k5 : Int) - 8 < (kA : Int)
      · obtain ⟨k, hk⟩ : ∃ k, k = k5 - 4 := ⟨_, rfl⟩
        have hki : (k5 : Int) - 4 = (k : Int) := by omega
        have HKL : Hid (k + 4 ≤ k5) := hide (by omega)
        have HSUM := hide (HSM k (by omega))
        clear HSM hk hil
        obtain ⟨i0, hi, hz0, hz1, hz2⟩ := info_parts Tryz.infoB
        have HI := hide hi
        have HZ0 := hide hz0
        have HZ1 := hide hz1
        have HZ2 := hide hz2
        have HO5 := hide (lies_of_own ho5)
        have HNA : Hid (A5 = none → c5 = 0) := hide (fun h => by
          rcases ho5.2 with ⟨e0, h0⟩ | ⟨g, cap, cur, e0, _⟩
          · omega
          · injection e0 with e0
            rw [h] at e0
            cases e0)
        clear hi hz0 hz1 hz2 ho5
        go_wp2_with (at_builtin; refine wpList_append_src rfl _ _ 30 rfl 5 i0 (.int .u8 0) 1 Tryz.underlying30 HI.out HZ0.out HZ1.out HZ2.out rfl w5.heap.size (.slice none 0 0) 0 [] rfl (World.ownsRow_nil _ _ _ _) (Nat.le_refl _) A5 k5 c5 (xs.map (Value.int .u8)) rfl HO5.out HNA.out (ints_one _ _) (by omega) (by unfold maxLen; omega) ?_)
        intro A2 c2 w6 ho2 hg2
        obtain ⟨g, rfl⟩ : ∃ g, A2 = some ⟨g, 0, none⟩ := by
          rcases ho2.2 with ⟨e0, h0⟩ | ⟨g, cap, cur, e0, _⟩
          · omega
          · injection e0 with e0; exact ⟨g, e0⟩
        have HO2 : Hid (w6.ownsRow w5.heap.size 5 1 (.slice (some ⟨g, 0, none⟩) k5 c2) k5 (turnedV xs k (by1 : Int) 0)) := hide ho2
        have HB2 := hide (below_own10 (Below.refl w5.heap.size w5) (World.ownsRow_nil _ w5.heap.size 5 1) hg2 (Nat.le_refl _))
        clear ho2 hg2 HI HZ0 HZ1 HZ2 HO5 HNA
        go_wp2
        go_loopw [16] (fun i wr => ∃ j : Nat, j ≤ 4 ∧ i = .int .i64 j ∧ Hid (wr.ownsRow w5.heap.size 5 1 (.slice (some ⟨g, 0, none⟩) k5 c2) k5 (turnedV xs k (by1 : Int) j)) ∧ Hid (Below w5.heap.size w5 wr)) (fun i _ => 4 - (intOf i).toNat)
        case atStart => exact ⟨0, by omega, rfl, HO2, HB2⟩
        case round =>
          obtain ⟨j, hj, rfl, HO, HB⟩ := hrel
          have hsr := HB.out.size
          by_cases hlt : j < 4
          · have hkn := HKL.out
            obtain ⟨hgb, hgl⟩ := HO.out.lt g rfl
            obtain ⟨x, ex⟩ : ∃ x, x = (turned xs k (by1 : Int) j).getD (k + j) 0 := ⟨_, rfl⟩
            obtain ⟨y, ey⟩ : ∃ y, y = (four (by1 : Int)).getD j 0 := ⟨_, rfl⟩
            have hx0 := bytes_getD (bs := turned xs k (by1 : Int) j) (turned_byteL xs k (by1 : Int) j HXB.out) (k + j)
            have hy0 := bytes_getD (bs := four (by1 : Int)) (four_bytes _) j
            rw [← ex] at hx0
            rw [← ey] at hy0
            have hc : wr.cell? ⟨g, k + j, none⟩ = some (.int .u8 x) := by
              have h1 := HO.out.cellAt (k + j) (by omega)
              have h2 : (turnedV xs k (by1 : Int) j)[k + j]? = some (.int .u8 x) := by
                have hl : k + j < (turned xs k (by1 : Int) j).length := by rw [turned_len, HLEN.out]; omega
                rw [ex]
                simp [turnedV, List.getD, hl]
              rw [h1, h2]
            have hf : wr.frozen? ⟨g, k + j, none⟩ = false := by
              rcases HO.out.2 with ⟨e0, h0⟩ | ⟨g', cap, cur, e0, _, hh, _⟩
              · omega
              · injection e0 with e0
                injection e0 with e0
                injection e0 with e0
                subst e0
                simp [World.frozen?, hh]
            have hfy := fourV11_at (by1 : Int) j hlt
            rw [← ey] at hfy
            have hr := u8_xor x y hx0.1 hx0.2 hy0.1 hy0.2
            have HST : Hid (∀ w' : World, w'.ownsRow w5.heap.size 5 1 (.slice (some ⟨g, 0, none⟩) k5 c2) k5 (turnedV xs k (by1 : Int) j) → (w'.setCell ⟨g, k + j, none⟩ (.int .u8 ((x.toNat ^^^ y.toNat : Nat) : Int))).ownsRow w5.heap.size 5 1 (.slice (some ⟨g, 0, none⟩) k5 c2) k5 (turnedV xs k (by1 : Int) (j + 1))) := hide (fun w' ho => stored_turned ho ex ey)
            obtain ⟨t, et⟩ : ∃ t : Int, t = ((x.toNat ^^^ y.toNat : Nat) : Int) := ⟨_, rfl⟩
            rw [← et] at hr HST
            have e1 : IntKind.i64.wrap ((k : Int) + (j : Int)) = (k : Int) + (j : Int) := IntWalk.i64_in _ (by omega)
            have e2 : (0 : Int) ≤ (k : Int) + (j : Int) := by omega
            have e3 : ((k : Int) + (j : Int)).toNat = k + j := by omega
            have e4 : (k : Int) + (j : Int) < (k5 : Int) := by omega
            have e5 : (0 : Int) ≤ (j : Int) := by omega
            have e6 : (j : Int) < 4 := by omega
            clear ex ey et
            have hcd : wr.drew.cell? ⟨g, k + j, none⟩ = some (.int .u8 x) := hc
            obtain ⟨q, hq⟩ : ∃ q, wr.drew.heap.size = q := ⟨_, rfl⟩
            have HQ := hide hq
            clear hq
            go_wp2_with fail
            have hS0 : Hid (wr.drew.cell? ⟨g, k + j, none⟩ = some (.int .u8 x)) := hide (hcd)
            refine wp_region_U (fun b v => b = false → v.cell? ⟨g, k + j, none⟩ = some (.int .u8 x)) 17 (by kernel_rfl) ?_
            refine wpAnyU_take (i := 0) (oi := { dst := some 100, op := _, type := _, pos := _, after := _, guard := none }) (v := .slice (some ⟨g, 0, none⟩) k5 c2) rfl (by kernel_rfl) (by kernel_rfl) (by kernel_rfl) (by kernel_rfl) (fun _ _ _ h => h) (yields_take rfl (fun w' hw => by have h1 := hw.no (by kernel_rfl) rfl; go_simp)) (fun _ => hS0.out) ?_
            simp only [Act.put, List.setIfInBounds_toArray, List.set_cons_zero, List.set_cons_succ]
            refine wpAnyU_take (i := 1) (oi := { dst := some 101, op := _, type := _, pos := _, after := _, guard := none }) (v := .int .i64 (k : Int)) rfl (by kernel_rfl) (by kernel_rfl) (by kernel_rfl) (by kernel_rfl) (fun _ _ _ h => h) (yields_take rfl (fun w' hw => by have h1 := hw.no (by kernel_rfl) rfl; go_simp)) (fun _ => hS0.out) ?_
            simp only [Act.put, List.setIfInBounds_toArray, List.set_cons_zero, List.set_cons_succ]
            refine wpAnyU_take (i := 2) (oi := { dst := some 102, op := _, type := _, pos := _, after := _, guard := none }) (v := .int .i64 (j : Int)) rfl (by kernel_rfl) (by kernel_rfl) (by kernel_rfl) (by kernel_rfl) (fun _ _ _ h => h) (yields_take rfl (fun w' hw => by have h1 := hw.no (by kernel_rfl) rfl; go_simp)) (fun _ => hS0.out) ?_
            simp only [Act.put, List.setIfInBounds_toArray, List.set_cons_zero, List.set_cons_succ]
            refine wpAnyU_take (i := 3) (oi := { dst := some 103, op := _, type := _, pos := _, after := _, guard := none }) (v := .int .i64 ((k : Int) + (j : Int))) rfl (by kernel_rfl) (by kernel_rfl) (by kernel_rfl) (by kernel_rfl) (fun _ _ _ h => h) (yields_take rfl (fun w' hw => by have h1 := hw.no (by kernel_rfl) rfl; go_simp)) (fun _ => hS0.out) ?_
            simp only [Act.put, List.setIfInBounds_toArray, List.set_cons_zero, List.set_cons_succ]
            refine wpAnyU_take (i := 4) (oi := { dst := some 104, op := _, type := _, pos := _, after := _, guard := none }) (v := .slice (some ⟨g, 0, none⟩) k5 c2) rfl (by kernel_rfl) (by kernel_rfl) (by kernel_rfl) (by kernel_rfl) (fun _ _ _ h => h) (yields_take rfl (fun w' hw => by have h1 := hw.no (by kernel_rfl) rfl; go_simp)) (fun _ => hS0.out) ?_
            simp only [Act.put, List.setIfInBounds_toArray, List.set_cons_zero, List.set_cons_succ]
            refine wpAnyU_take (i := 5) (oi := { dst := some 105, op := _, type := _, pos := _, after := _, guard := none }) (v := .int .i64 (k : Int)) rfl (by kernel_rfl) (by kernel_rfl) (by kernel_rfl) (by kernel_rfl) (fun _ _ _ h => h) (yields_take rfl (fun w' hw => by have h1 := hw.no (by kernel_rfl) rfl; go_simp)) (fun _ => hS0.out) ?_
            simp only [Act.put, List.setIfInBounds_toArray, List.set_cons_zero, List.set_cons_succ]
            refine wpAnyU_take (i := 6) (oi := { dst := some 106, op := _, type := _, pos := _, after := _, guard := none }) (v := .int .i64 (j : Int)) rfl (by kernel_rfl) (by kernel_rfl) (by kernel_rfl) (by kernel_rfl) (fun _ _ _ h => h) (yields_take rfl (fun w' hw => by have h1 := hw.no (by kernel_rfl) rfl; go_simp)) (fun _ => hS0.out) ?_
            simp only [Act.put, List.setIfInBounds_toArray, List.set_cons_zero, List.set_cons_succ]
            refine wpAnyU_take (i := 7) (oi := { dst := some 107, op := _, type := _, pos := _, after := _, guard := none }) (v := .int .i64 ((k : Int) + (j : Int))) rfl (by kernel_rfl) (by kernel_rfl) (by kernel_rfl) (by kernel_rfl) (fun _ _ _ h => h) (yields_take rfl (fun w' hw => by have h1 := hw.no (by kernel_rfl) rfl; go_simp)) (fun _ => hS0.out) ?_
            simp only [Act.put, List.setIfInBounds_toArray, List.set_cons_zero, List.set_cons_succ]
            refine wpAnyU_take (i := 8) (oi := { dst := some 108, op := _, type := _, pos := _, after := _, guard := none }) (v := .pointer (some ⟨g, k + j, none⟩)) rfl (by kernel_rfl) (by kernel_rfl) (by kernel_rfl) (by kernel_rfl) (fun _ _ _ h => h) (yields_take rfl (fun w' hw => by have h1 := hw.no (by kernel_rfl) rfl; go_simp)) (fun _ => hS0.out) ?_
            simp only [Act.put, List.setIfInBounds_toArray, List.set_cons_zero, List.set_cons_succ]
            refine wpAnyU_take (i := 9) (oi := { dst := some 109, op := _, type := _, pos := _, after := _, guard := none }) (v := .int .u8 x) rfl (by kernel_rfl) (by kernel_rfl) (by kernel_rfl) (by kernel_rfl) (fun _ _ _ h => h) (yields_take rfl (fun w' hw => by have h1 := hw.no (by kernel_rfl) rfl; go_simp)) (fun _ => hS0.out) ?_
            simp only [Act.put, List.setIfInBounds_toArray, List.set_cons_zero, List.set_cons_succ]
            refine wpAnyU_take (i := 10) (oi := { dst := some 110, op := _, type := _, pos := _, after := _, guard := none }) (v := .int .u32 (by1 : Int)) rfl (by kernel_rfl) (by kernel_rfl) (by kernel_rfl) (by kernel_rfl) (fun _ _ _ h => h) (yields_take rfl (fun w' hw => by have h1 := hw.no (by kernel_rfl) rfl; go_simp)) (fun _ => hS0.out) ?_
            simp only [Act.put, List.setIfInBounds_toArray, List.set_cons_zero, List.set_cons_succ]
            refine wpAnyU_take (i := 12) (oi := { dst := some 112, op := _, type := _, pos := _, after := _, guard := none }) (v := .int .i64 (j : Int)) rfl (by kernel_rfl) (by kernel_rfl) (by kernel_rfl) (by kernel_rfl) (fun _ _ _ h => h) (yields_take rfl (fun w' hw => by have h1 := hw.no (by kernel_rfl) rfl; go_simp)) (fun _ => hS0.out) ?_
            simp only [Act.put, List.setIfInBounds_toArray, List.set_cons_zero, List.set_cons_succ]
            refine wpAnyU_one (i := 11) (by kernel_rfl) rfl ?_
            intro K hK
            go_simp
            refine Calls.mono (four11Q by1 hby _ q HQ.out) ?_
            rintro e w4 ⟨rfl, hw4⟩
            (try dsimp only)
            have hb4 : Below wr.heap.size wr w4 := by rw [hw4]; exact below_nx6 (below_drewN (Below.refl _ _) 1) (below_al6 (Below.refl _ _))
            have hy4 : w4.cell? ⟨q, j, none⟩ = some (.int .u8 y) := (cell_of_row w4 q j _ 5 (0, 0) (by rw [hw4, ← HQ.out]; exact heap_alloc_new wr.drew _)).trans (by rw [List.getElem?_toArray]; exact hfy)
            have hf4 : w4.frozen? ⟨g, k + j, none⟩ = false := (World.frozen?_of_block (hb4.block _ hgl)).trans hf
            clear hw4
            have hS1 : Hid (w4.cell? ⟨g, k + j, none⟩ = some (.int .u8 x)) := hide ((hb4.cell (World.block_lt_of_cell? _ _ hc)).trans hc)
            refine hK.out _ _ (fun _ => hS1.out) (fun _ => ?_)
            clear hK K hS0
            refine wpAnyU_take (i := 13) (oi := { dst := some 113, op := _, type := _, pos := _, after := _, guard := none }) (v := .pointer (some ⟨q, j, none⟩)) rfl (by kernel_rfl) (by kernel_rfl) (by kernel_rfl) (by kernel_rfl) (fun _ _ _ h => h) (yields_take rfl (fun w' hw => by have h1 := hw.no (by kernel_rfl) rfl; go_simp)) (fun _ => hS1.out) ?_
            simp only [Act.put, List.setIfInBounds_toArray, List.set_cons_zero, List.set_cons_succ]
            refine wpAnyU_one (i := 14) (by kernel_rfl) rfl ?_
            intro K hK
            go_simp
            have hS2 : Hid (w4.cell? ⟨g, k + j, none⟩ = some (.int .u8 x)) := hide ((hb4.cell (World.block_lt_of_cell? _ _ hc)).trans hc)
            refine hK.out _ _ (fun _ => hS2.out) (fun _ => ?_)
            clear hK K hS1
            refine wpAnyU_take (i := 15) (oi := { dst := some 115, op := _, type := _, pos := _, after := _, guard := none }) (v := .int .u8 t) rfl (by kernel_rfl) (by kernel_rfl) (by kernel_rfl) (by kernel_rfl) (fun _ _ _ h => h) (yields_take rfl (fun w' hw => by have h1 := hw.no (by kernel_rfl) rfl; go_simp)) (fun _ => hS2.out) ?_
            simp only [Act.put, List.setIfInBounds_toArray, List.set_cons_zero, List.set_cons_succ]
            refine wpAnyU_take (i := 16) (oi := { dst := some 116, op := _, type := _, pos := _, after := _, guard := none }) (v := .pointer (some ⟨g, k + j, none⟩)) rfl (by kernel_rfl) (by kernel_rfl) (by kernel_rfl) (by kernel_rfl) (fun _ _ _ h => h) (yields_take rfl (fun w' hw => by have h1 := hw.no (by kernel_rfl) rfl; go_simp)) (fun _ => hS2.out) ?_
            simp only [Act.put, List.setIfInBounds_toArray, List.set_cons_zero, List.set_cons_succ]
            refine wpAnyU_one (i := 17) (by kernel_rfl) rfl ?_
            intro K hK
            go_simp
            refine hK.out _ _ (fun h => by cases h) (fun _ => ?_)
            clear hK K
            refine wpAnyU_done (by kernel_rfl) ?_ _
            clear hS2
            have HOn : Hid ((w4.setCell ⟨g, k + j, none⟩ (.int .u8 t)).ownsRow w5.heap.size 5 1 (.slice (some ⟨g, 0, none⟩) k5 c2) k5 (turnedV xs k (by1 : Int) (j + 1))) := hide (HST.out w4 (own_below HO.out hb4))
            have HBn : Hid (Below w5.heap.size w5 (w4.setCell ⟨g, k + j, none⟩ (.int .u8 t))) := hide ((below_nx6 HB.out hb4).setCell (by dsimp only; exact hgb) _)
            clear e1 e2 e3 e4 hc hcd hf hf4 hy4 hfy hr HO HB HST
            go_wp2
            go_roundw
            case rel => exact ⟨j + 1, by omega, by go_num, HOn, HBn⟩
            case measure => simp [intOf]; omega
          · obtain rfl : j = 4 := by omega
            have HL3 : Hid (Lies wr (some ⟨g, 0, none⟩) k5 ((turned xs k (by1 : Int) 4).map (Value.int .u8))) := hide (lies_of_own HO.out)
            have hcc := own_cap11 HO.out
            have hc63 := own_cap64 HO.out
            have HBF := hide (below_nx6 HB5.out HB.out)
            clear HO HB HO2 HB2
            by_cases hb0 : by1 = 0
            · subst hb0
              have ht := turned_zero xs k (k5 - k - 4) (by rw [HLEN.out]; have := HKL.out; omega) HXB.out
              have hbb : (((0 : Nat) : Int) == 0) = true := rfl
              go_wp2_with fail
              refine Calls.mono (mget_any (some ⟨g, 0, none⟩) k5 c2 (turned xs k ((0 : Nat) : Int) 4) _ HL3.out (turned_byteL xs k ((0 : Nat) : Int) 4 HXB.out) (by omega) hcc hc63) ?_
              rintro e w7 ⟨hE, hb⟩
              have HBG := hide (below_nx6 HBF.out hb)
              clear hb
              rcases hE with ⟨hg, _⟩ | ⟨hg, ns2, ts2, A6, B6, c6, d6, rfl, _⟩
              · rw [show ((0 : Nat) : Int) = 0 from rfl, ht] at hg
                rw [HGB.out] at hg
                cases hg
              · go_wp2
                go_ret
                exact ⟨rfl, below_nx6 HB0.out (below_al6 HBG.out)⟩
            · have hne := HSUM.out hb0
              have hbb : ((by1 : Int) == 0) = false := by rw [beq_eq_false_iff_ne]; omega
              have hbi : ¬ (by1 : Int) = 0 := by omega
              go_wp2_with fail
              refine Calls.mono (get_sum (some ⟨g, 0, none⟩) k5 c2 (turned xs k (by1 : Int) 4) _ HL3.out (turned_byteL xs k (by1 : Int) 4 HXB.out) (by omega) (by omega) hcc hc63 hne) ?_
              rintro e w7 ⟨rfl, hb⟩
              have HBG := hide (below_nx6 HBF.out hb)
              clear hb hne
              simp only [md0]
              go_wp2
              go_ret
              exact ⟨rfl, below_nx6 HB0.out (below_al6 HBG.out)⟩
      · obtain ⟨k, hk⟩ : ∃ k, k = kA := ⟨_, rfl⟩
        rw [← hk] at hm1 hm2 h8 hkl
        have HKL : Hid (k + 4 ≤ k5) := hide (by omega)
        have HSUM := hide (HSM k (by omega))
        clear HSM hk hil
        obtain ⟨i0, hi, hz0, hz1, hz2⟩ := info_parts Tryz.infoB
        have HI := hide hi
        have HZ0 := hide hz0
        have HZ1 := hide hz1
        have HZ2 := hide hz2
        have HO5 := hide (lies_of_own ho5)
        have HNA : Hid (A5 = none → c5 = 0) := hide (fun h => by
          rcases ho5.2 with ⟨e0, h0⟩ | ⟨g, cap, cur, e0, _⟩
          · omega
          · injection e0 with e0
            rw [h] at e0
            cases e0)
        clear hi hz0 hz1 hz2 ho5
        go_wp2_with (at_builtin; refine wpList_append_src rfl _ _ 30 rfl 5 i0 (.int .u8 0) 1 Tryz.underlying30 HI.out HZ0.out HZ1.out HZ2.out rfl w5.heap.size (.slice none 0 0) 0 [] rfl (World.ownsRow_nil _ _ _ _) (Nat.le_refl _) A5 k5 c5 (xs.map (Value.int .u8)) rfl HO5.out HNA.out (ints_one _ _) (by omega) (by unfold maxLen; omega) ?_)
        intro A2 c2 w6 ho2 hg2
        obtain ⟨g, rfl⟩ : ∃ g, A2 = some ⟨g, 0, none⟩ := by
          rcases ho2.2 with ⟨e0, h0⟩ | ⟨g, cap, cur, e0, _⟩
          · omega
          · injection e0 with e0; exact ⟨g, e0⟩
        have HO2 : Hid (w6.ownsRow w5.heap.size 5 1 (.slice (some ⟨g, 0, none⟩) k5 c2) k5 (turnedV xs k (by1 : Int) 0)) := hide ho2
        have HB2 := hide (below_own10 (Below.refl w5.heap.size w5) (World.ownsRow_nil _ w5.heap.size 5 1) hg2 (Nat.le_refl _))
        clear ho2 hg2 HI HZ0 HZ1 HZ2 HO5 HNA
        go_wp2
        go_loopw [16] (fun i wr => ∃ j : Nat, j ≤ 4 ∧ i = .int .i64 j ∧ Hid (wr.ownsRow w5.heap.size 5 1 (.slice (some ⟨g, 0, none⟩) k5 c2) k5 (turnedV xs k (by1 : Int) j)) ∧ Hid (Below w5.heap.size w5 wr)) (fun i _ => 4 - (intOf i).toNat)
        case atStart => exact ⟨0, by omega, rfl, HO2, HB2⟩
        case round =>
          obtain ⟨j, hj, rfl, HO, HB⟩ := hrel
          have hsr := HB.out.size
          by_cases hlt : j < 4
          · have hkn := HKL.out
            obtain ⟨hgb, hgl⟩ := HO.out.lt g rfl
            obtain ⟨x, ex⟩ : ∃ x, x = (turned xs k (by1 : Int) j).getD (k + j) 0 := ⟨_, rfl⟩
            obtain ⟨y, ey⟩ : ∃ y, y = (four (by1 : Int)).getD j 0 := ⟨_, rfl⟩
            have hx0 := bytes_getD (bs := turned xs k (by1 : Int) j) (turned_byteL xs k (by1 : Int) j HXB.out) (k + j)
            have hy0 := bytes_getD (bs := four (by1 : Int)) (four_bytes _) j
            rw [← ex] at hx0
            rw [← ey] at hy0
            have hc : wr.cell? ⟨g, k + j, none⟩ = some (.int .u8 x) := by
              have h1 := HO.out.cellAt (k + j) (by omega)
              have h2 : (turnedV xs k (by1 : Int) j)[k + j]? = some (.int .u8 x) := by
                have hl : k + j < (turned xs k (by1 : Int) j).length := by rw [turned_len, HLEN.out]; omega
                rw [ex]
                simp [turnedV, List.getD, hl]
              rw [h1, h2]
            have hf : wr.frozen? ⟨g, k + j, none⟩ = false := by
              rcases HO.out.2 with ⟨e0, h0⟩ | ⟨g', cap, cur, e0, _, hh, _⟩
              · omega
              · injection e0 with e0
                injection e0 with e0
                injection e0 with e0
                subst e0
                simp [World.frozen?, hh]
            have hfy := fourV11_at (by1 : Int) j hlt
            rw [← ey] at hfy
            have hr := u8_xor x y hx0.1 hx0.2 hy0.1 hy0.2
            have HST : Hid (∀ w' : World, w'.ownsRow w5.heap.size 5 1 (.slice (some ⟨g, 0, none⟩) k5 c2) k5 (turnedV xs k (by1 : Int) j) → (w'.setCell ⟨g, k + j, none⟩ (.int .u8 ((x.toNat ^^^ y.toNat : Nat) : Int))).ownsRow w5.heap.size 5 1 (.slice (some ⟨g, 0, none⟩) k5 c2) k5 (turnedV xs k (by1 : Int) (j + 1))) := hide (fun w' ho => stored_turned ho ex ey)
            obtain ⟨t, et⟩ : ∃ t : Int, t = ((x.toNat ^^^ y.toNat : Nat) : Int) := ⟨_, rfl⟩
            rw [← et] at hr HST
            have e1 : IntKind.i64.wrap ((k : Int) + (j : Int)) = (k : Int) + (j : Int) := IntWalk.i64_in _ (by omega)
            have e2 : (0 : Int) ≤ (k : Int) + (j : Int) := by omega
            have e3 : ((k : Int) + (j : Int)).toNat = k + j := by omega
            have e4 : (k : Int) + (j : Int) < (k5 : Int) := by omega
            have e5 : (0 : Int) ≤ (j : Int) := by omega
            have e6 : (j : Int) < 4 := by omega
            clear ex ey et
            have hcd : wr.drew.cell? ⟨g, k + j, none⟩ = some (.int .u8 x) := hc
            obtain ⟨q, hq⟩ : ∃ q, wr.drew.heap.size = q := ⟨_, rfl⟩
            have HQ := hide hq
            clear hq
            go_wp2_with fail
            have hS0 : Hid (wr.drew.cell? ⟨g, k + j, none⟩ = some (.int .u8 x)) := hide (hcd)
            refine wp_region_U (fun b v => b = false → v.cell? ⟨g, k + j, none⟩ = some (.int .u8 x)) 17 (by kernel_rfl) ?_
            refine wpAnyU_take (i := 0) (oi := { dst := some 100, op := _, type := _, pos := _, after := _, guard := none }) (v := .slice (some ⟨g, 0, none⟩) k5 c2) rfl (by kernel_rfl) (by kernel_rfl) (by kernel_rfl) (by kernel_rfl) (fun _ _ _ h => h) (yields_take rfl (fun w' hw => by have h1 := hw.no (by kernel_rfl) rfl; go_simp)) (fun _ => hS0.out) ?_
            simp only [Act.put, List.setIfInBounds_toArray, List.set_cons_zero, List.set_cons_succ]
            refine wpAnyU_take (i := 1) (oi := { dst := some 101, op := _, type := _, pos := _, after := _, guard := none }) (v := .int .i64 (k : Int)) rfl (by kernel_rfl) (by kernel_rfl) (by kernel_rfl) (by kernel_rfl) (fun _ _ _ h => h) (yields_take rfl (fun w' hw => by have h1 := hw.no (by kernel_rfl) rfl; go_simp)) (fun _ => hS0.out) ?_
            simp only [Act.put, List.setIfInBounds_toArray, List.set_cons_zero, List.set_cons_succ]
            refine wpAnyU_take (i := 2) (oi := { dst := some 102, op := _, type := _, pos := _, after := _, guard := none }) (v := .int .i64 (j : Int)) rfl (by kernel_rfl) (by kernel_rfl) (by kernel_rfl) (by kernel_rfl) (fun _ _ _ h => h) (yields_take rfl (fun w' hw => by have h1 := hw.no (by kernel_rfl) rfl; go_simp)) (fun _ => hS0.out) ?_
            simp only [Act.put, List.setIfInBounds_toArray, List.set_cons_zero, List.set_cons_succ]
            refine wpAnyU_take (i := 3) (oi := { dst := some 103, op := _, type := _, pos := _, after := _, guard := none }) (v := .int .i64 ((k : Int) + (j : Int))) rfl (by kernel_rfl) (by kernel_rfl) (by kernel_rfl) (by kernel_rfl) (fun _ _ _ h => h) (yields_take rfl (fun w' hw => by have h1 := hw.no (by kernel_rfl) rfl; go_simp)) (fun _ => hS0.out) ?_
            simp only [Act.put, List.setIfInBounds_toArray, List.set_cons_zero, List.set_cons_succ]
            refine wpAnyU_take (i := 4) (oi := { dst := some 104, op := _, type := _, pos := _, after := _, guard := none }) (v := .slice (some ⟨g, 0, none⟩) k5 c2) rfl (by kernel_rfl) (by kernel_rfl) (by kernel_rfl) (by kernel_rfl) (fun _ _ _ h => h) (yields_take rfl (fun w' hw => by have h1 := hw.no (by kernel_rfl) rfl; go_simp)) (fun _ => hS0.out) ?_
            simp only [Act.put, List.setIfInBounds_toArray, List.set_cons_zero, List.set_cons_succ]
            refine wpAnyU_take (i := 5) (oi := { dst := some 105, op := _, type := _, pos := _, after := _, guard := none }) (v := .int .i64 (k : Int)) rfl (by kernel_rfl) (by kernel_rfl) (by kernel_rfl) (by kernel_rfl) (fun _ _ _ h => h) (yields_take rfl (fun w' hw => by have h1 := hw.no (by kernel_rfl) rfl; go_simp)) (fun _ => hS0.out) ?_
            simp only [Act.put, List.setIfInBounds_toArray, List.set_cons_zero, List.set_cons_succ]
            refine wpAnyU_take (i := 6) (oi := { dst := some 106, op := _, type := _, pos := _, after := _, guard := none }) (v := .int .i64 (j : Int)) rfl (by kernel_rfl) (by kernel_rfl) (by kernel_rfl) (by kernel_rfl) (fun _ _ _ h => h) (yields_take rfl (fun w' hw => by have h1 := hw.no (by kernel_rfl) rfl; go_simp)) (fun _ => hS0.out) ?_
            simp only [Act.put, List.setIfInBounds_toArray, List.set_cons_zero, List.set_cons_succ]
            refine wpAnyU_take (i := 7) (oi := { dst := some 107, op := _, type := _, pos := _, after := _, guard := none }) (v := .int .i64 ((k : Int) + (j : Int))) rfl (by kernel_rfl) (by kernel_rfl) (by kernel_rfl) (by kernel_rfl) (fun _ _ _ h => h) (yields_take rfl (fun w' hw => by have h1 := hw.no (by kernel_rfl) rfl; go_simp)) (fun _ => hS0.out) ?_
            simp only [Act.put, List.setIfInBounds_toArray, List.set_cons_zero, List.set_cons_succ]
            refine wpAnyU_take (i := 8) (oi := { dst := some 108, op := _, type := _, pos := _, after := _, guard := none }) (v := .pointer (some ⟨g, k + j, none⟩)) rfl (by kernel_rfl) (by kernel_rfl) (by kernel_rfl) (by kernel_rfl) (fun _ _ _ h => h) (yields_take rfl (fun w' hw => by have h1 := hw.no (by kernel_rfl) rfl; go_simp)) (fun _ => hS0.out) ?_
            simp only [Act.put, List.setIfInBounds_toArray, List.set_cons_zero, List.set_cons_succ]
            refine wpAnyU_take (i := 9) (oi := { dst := some 109, op := _, type := _, pos := _, after := _, guard := none }) (v := .int .u8 x) rfl (by kernel_rfl) (by kernel_rfl) (by kernel_rfl) (by kernel_rfl) (fun _ _ _ h => h) (yields_take rfl (fun w' hw => by have h1 := hw.no (by kernel_rfl) rfl; go_simp)) (fun _ => hS0.out) ?_
            simp only [Act.put, List.setIfInBounds_toArray, List.set_cons_zero, List.set_cons_succ]
            refine wpAnyU_take (i := 10) (oi := { dst := some 110, op := _, type := _, pos := _, after := _, guard := none }) (v := .int .u32 (by1 : Int)) rfl (by kernel_rfl) (by kernel_rfl) (by kernel_rfl) (by kernel_rfl) (fun _ _ _ h => h) (yields_take rfl (fun w' hw => by have h1 := hw.no (by kernel_rfl) rfl; go_simp)) (fun _ => hS0.out) ?_
            simp only [Act.put, List.setIfInBounds_toArray, List.set_cons_zero, List.set_cons_succ]
            refine wpAnyU_take (i := 12) (oi := { dst := some 112, op := _, type := _, pos := _, after := _, guard := none }) (v := .int .i64 (j : Int)) rfl (by kernel_rfl) (by kernel_rfl) (by kernel_rfl) (by kernel_rfl) (fun _ _ _ h => h) (yields_take rfl (fun w' hw => by have h1 := hw.no (by kernel_rfl) rfl; go_simp)) (fun _ => hS0.out) ?_
            simp only [Act.put, List.setIfInBounds_toArray, List.set_cons_zero, List.set_cons_succ]
            refine wpAnyU_one (i := 11) (by kernel_rfl) rfl ?_
            intro K hK
            go_simp
            refine Calls.mono (four11Q by1 hby _ q HQ.out) ?_
            rintro e w4 ⟨rfl, hw4⟩
            (try dsimp only)
            have hb4 : Below wr.heap.size wr w4 := by rw [hw4]; exact below_nx6 (below_drewN (Below.refl _ _) 1) (below_al6 (Below.refl _ _))
            have hy4 : w4.cell? ⟨q, j, none⟩ = some (.int .u8 y) := (cell_of_row w4 q j _ 5 (0, 0) (by rw [hw4, ← HQ.out]; exact heap_alloc_new wr.drew _)).trans (by rw [List.getElem?_toArray]; exact hfy)
            have hf4 : w4.frozen? ⟨g, k + j, none⟩ = false := (World.frozen?_of_block (hb4.block _ hgl)).trans hf
            clear hw4
            have hS1 : Hid (w4.cell? ⟨g, k + j, none⟩ = some (.int .u8 x)) := hide ((hb4.cell (World.block_lt_of_cell? _ _ hc)).trans hc)
            refine hK.out _ _ (fun _ => hS1.out) (fun _ => ?_)
            clear hK K hS0
            refine wpAnyU_take (i := 13) (oi := { dst := some 113, op := _, type := _, pos := _, after := _, guard := none }) (v := .pointer (some ⟨q, j, none⟩)) rfl (by kernel_rfl) (by kernel_rfl) (by kernel_rfl) (by kernel_rfl) (fun _ _ _ h => h) (yields_take rfl (fun w' hw => by have h1 := hw.no (by kernel_rfl) rfl; go_simp)) (fun _ => hS1.out) ?_
            simp only [Act.put, List.setIfInBounds_toArray, List.set_cons_zero, List.set_cons_succ]
            refine wpAnyU_one (i := 14) (by kernel_rfl) rfl ?_
            intro K hK
            go_simp
            have hS2 : Hid (w4.cell? ⟨g, k + j, none⟩ = some (.int .u8 x)) := hide ((hb4.cell (World.block_lt_of_cell? _ _ hc)).trans hc)
            refine hK.out _ _ (fun _ => hS2.out) (fun _ => ?_)
            clear hK K hS1
            refine wpAnyU_take (i := 15) (oi := { dst := some 115, op := _, type := _, pos := _, after := _, guard := none }) (v := .int .u8 t) rfl (by kernel_rfl) (by kernel_rfl) (by kernel_rfl) (by kernel_rfl) (fun _ _ _ h => h) (yields_take rfl (fun w' hw => by have h1 := hw.no (by kernel_rfl) rfl; go_simp)) (fun _ => hS2.out) ?_
            simp only [Act.put, List.setIfInBounds_toArray, List.set_cons_zero, List.set_cons_succ]
            refine wpAnyU_take (i := 16) (oi := { dst := some 116, op := _, type := _, pos := _, after := _, guard := none }) (v := .pointer (some ⟨g, k + j, none⟩)) rfl (by kernel_rfl) (by kernel_rfl) (by kernel_rfl) (by kernel_rfl) (fun _ _ _ h => h) (yields_take rfl (fun w' hw => by have h1 := hw.no (by kernel_rfl) rfl; go_simp)) (fun _ => hS2.out) ?_
            simp only [Act.put, List.setIfInBounds_toArray, List.set_cons_zero, List.set_cons_succ]
            refine wpAnyU_one (i := 17) (by kernel_rfl) rfl ?_
            intro K hK
            go_simp
            refine hK.out _ _ (fun h => by cases h) (fun _ => ?_)
            clear hK K
            refine wpAnyU_done (by kernel_rfl) ?_ _
            clear hS2
            have HOn : Hid ((w4.setCell ⟨g, k + j, none⟩ (.int .u8 t)).ownsRow w5.heap.size 5 1 (.slice (some ⟨g, 0, none⟩) k5 c2) k5 (turnedV xs k (by1 : Int) (j + 1))) := hide (HST.out w4 (own_below HO.out hb4))
            have HBn : Hid (Below w5.heap.size w5 (w4.setCell ⟨g, k + j, none⟩ (.int .u8 t))) := hide ((below_nx6 HB.out hb4).setCell (by dsimp only; exact hgb) _)
            clear e1 e2 e3 e4 hc hcd hf hf4 hy4 hfy hr HO HB HST
            go_wp2
            go_roundw
            case rel => exact ⟨j + 1, by omega, by go_num, HOn, HBn⟩
            case measure => simp [intOf]; omega
          · obtain rfl : j = 4 := by omega
            have HL3 : Hid (Lies wr (some ⟨g, 0, none⟩) k5 ((turned xs k (by1 : Int) 4).map (Value.int .u8))) := hide (lies_of_own HO.out)
            have hcc := own_cap11 HO.out
            have hc63 := own_cap64 HO.out
            have HBF := hide (below_nx6 HB5.out HB.out)
            clear HO HB HO2 HB2
            by_cases hb0 : by1 = 0
            · subst hb0
              have ht := turned_zero xs k (k5 - k - 4) (by rw [HLEN.out]; have := HKL.out; omega) HXB.out
              have hbb : (((0 : Nat) : Int) == 0) = true := rfl
              go_wp2_with fail
              refine Calls.mono (mget_any (some ⟨g, 0, none⟩) k5 c2 (turned xs k ((0 : Nat) : Int) 4) _ HL3.out (turned_byteL xs k ((0 : Nat) : Int) 4 HXB.out) (by omega) hcc hc63) ?_
              rintro e w7 ⟨hE, hb⟩
              have HBG := hide (below_nx6 HBF.out hb)
              clear hb
              rcases hE with ⟨hg, _⟩ | ⟨hg, ns2, ts2, A6, B6, c6, d6, rfl, _⟩
              · rw [show ((0 : Nat) : Int) = 0 from rfl, ht] at hg
                rw [HGB.out] at hg
                cases hg
              · go_wp2
                go_ret
                exact ⟨rfl, below_nx6 HB0.out (below_al6 HBG.out)⟩
            · have hne := HSUM.out hb0
              have hbb : ((by1 : Int) == 0) = false := by rw [beq_eq_false_iff_ne]; omega
              have hbi : ¬ (by1 : Int) = 0 := by omega
              go_wp2_with fail
              refine Calls.mono (get_sum (some ⟨g, 0, none⟩) k5 c2 (turned xs k (by1 : Int) 4) _ HL3.out (turned_byteL xs k (by1 : Int) 4 HXB.out) (by omega) (by omega) hcc hc63 hne) ?_
              rintro e w7 ⟨rfl, hb⟩
              have HBG := hide (below_nx6 HBF.out hb)
              clear hb hne
              simp only [md0]
              go_wp2
              go_ret
              exact ⟨rfl, below_nx6 HB0.out (below_al6 HBG.out)⟩

end

end Go.Proofs.YtohndckbhjakfaaGreatDoor

