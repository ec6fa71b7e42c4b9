/- DisksAll holds for every acts, and every writes behind them: the walk of its Go text. -/
import Derived.Test.YtphfakjodddilaaDiskDoes2
namespace Go.Proofs.Ytphfakjodddilaa
open Go.RowKit
set_option linter.unusedSimpArgs false
set_option linter.unusedVariables false

theorem below_drew {B : Nat} {a w : World} (h : Below B a w) : Below B a w.drew := below_drewN h 1
theorem Ks.drew {B : Nat} {w : World} {l : List Dk} (h : Ks B w l) : Ks B w.drew l := h.below (below_drew (Below.refl _ _))
theorem kept_zero (i : Nat) : keptB 0 i = false := by unfold keptB; simp
theorem kept_max (i : Nat) : keptB 18446744073709551615 i = true := by
  unfold keptB
  have h : ∀ k, k < 64 → 18446744073709551615 / 2 ^ k % 2 = 1 := by decide +kernel
  exact decide_eq_true (h _ (Nat.mod_lt _ (by omega)))
theorem left_zero (S : List Sec) (Q : List Wr) : leftOf 0 (-1) S Q = S := by
  have : ∀ j, leftN 0 (-1) S Q j = S := by
    intro j
    induction j with
    | zero => rfl
    | succ j ih => rw [leftN, ih]; exact step_lost (by omega) (kept_zero j)
  exact this _
theorem left_max (S : List Sec) (Q : List Wr) (torn : Int) (ht : torn < 0 ∨ (Q.length : Int) ≤ torn) : leftOf 18446744073709551615 torn S Q = seenOf S Q := by
  have : ∀ j, j ≤ Q.length → leftN 18446744073709551615 torn S Q j = seenOf S (Q.take j) := by
    intro j
    induction j with
    | zero => intro _; rfl
    | succ j ih =>
      intro hj
      have e : wrAt Q j = Q[j] := by simp [wrAt, List.getD, show j < Q.length by omega]
      rw [leftN, ih (by omega), List.take_succ_eq_append_getElem (by omega), seen_snoc, ← e, step_kept (by omega) (kept_max j)]
      rfl
  have h := this Q.length (Nat.le_refl _)
  rw [List.take_length] at h
  exact h
set_option maxRecDepth 100000 in
set_option maxHeartbeats 8000000 in
theorem all_law (A A2 : Option Addr) (n c n2 c2 : Nat) (l l2 : List Act1) (w : World) (h : ActsAt w A n l) (hn : n ≤ 140737488355328) (h2 : ActsAt w A2 n2 l2) (hn2 : n2 ≤ 140737488355328) :
    Calls Try.prog 5 #[.slice A n c, .slice A2 n2 c2] w fun e w' => e = .returned (.bool true) ∧ Below w.heap.size w w' := by
  have HA := hide h
  have HA2 := hide h2
  have HB0 : Hid (Below w.heap.size w w) := hide (Below.refl _ _)
  clear h h2
  go_enter Try.func5, Try.ntmps5
  go_wp2_with fail
  refine Calls.mono (alive3_any _) ?_
  rintro e w1 ⟨rfl, hb⟩
  have HB1 : Hid (Below w.heap.size w w1) := hide (HB0.out.trans (hb.mono HB0.out.size))
  clear hb
  go_wp2_with fail
  refine Calls.mono (great_any A n c l _ (HA.out.below HB1.out) hn) ?_
  rintro e w99 ⟨bd, rfl, hbd, rfl⟩
  have HBD := hide hbd
  clear hbd
  cases bd
  rotate_left
  · go_wp2_with fail
    refine Calls.mono (alive3_any _) ?_
    rintro e w98 ⟨rfl, hb⟩
    have HB98 : Hid (Below w.heap.size w w98) := hide (HB1.out.trans (hb.mono HB1.out.size))
    clear hb
    go_wp2
    go_ret
    exact ⟨rfl, HB98.out⟩
  have hm1 : n ≤ 150 := HBD.out rfl
  clear HBD
  go_wp2_with fail
  refine Calls.mono (great_any A2 n2 c2 l2 _ (HA2.out.below HB1.out) hn2) ?_
  rintro e w99 ⟨bd, rfl, hbd, rfl⟩
  have HBD := hide hbd
  clear hbd
  cases bd
  rotate_left
  · go_wp2_with fail
    refine Calls.mono (alive3_any _) ?_
    rintro e w98 ⟨rfl, hb⟩
    have HB98 : Hid (Below w.heap.size w w98) := hide (HB1.out.trans (hb.mono HB1.out.size))
    clear hb
    go_wp2
    go_ret
    exact ⟨rfl, HB98.out⟩
  have hm2 : n2 ≤ 150 := HBD.out rfl
  clear HBD
  have hs1 := HB1.out.size
  go_wp2_with fail
  refine Calls.mono (does_more (B := w.heap.size) (ks := []) A n c l _ (HA.out.below HB1.out) hm1 Ks.nil hs1) ?_
  rintro e w2 ⟨g1, rfl, hkk, hb⟩
  obtain ⟨D, hD⟩ : ∃ D, D = durN l n := ⟨_, rfl⟩
  obtain ⟨P, hP⟩ : ∃ P, P = pendN l n := ⟨_, rfl⟩
  have HPL : Hid (P.length ≤ 150) := hide (by rw [hP]; exact Nat.le_trans (pendN_len l n (by rw [HA.out.len]; exact Nat.le_refl _)) hm1)
  rw [← hD, ← hP] at hkk
  have HDD := hide hD
  have HPP := hide hP
  have HK2 := hide hkk
  have HB2 : Hid (Below w.heap.size w w2) := hide (HB1.out.trans (hb.mono hs1))
  have hs2 := HB2.out.size
  clear hkk hb hD hP
  have HP9 : Hid (P.length ≤ 1000000000) := hide (by have := HPL.out; omega)
  go_wp2_with fail
  refine Calls.mono (k_sync (a := []) (b := []) (k := ⟨g1, D, P⟩) _ HK2.out HP9.out) ?_
  rintro e w3 ⟨rfl, hkk, hb⟩
  obtain ⟨S, hS⟩ : ∃ S, S = seenOf D P := ⟨_, rfl⟩
  have HSS := hide hS
  have HK3 : Hid (Ks w.heap.size w3 [⟨g1, S, []⟩]) := hide (by rw [hS]; exact hkk)
  have HB3 : Hid (Below w.heap.size w w3) := hide (HB2.out.trans hb)
  have hs3 := HB3.out.size
  clear hkk hb hS
  go_wp2_with fail
  refine Calls.mono (does_more A n c l _ (HA.out.below HB3.out) hm1 HK3.out hs3) ?_
  rintro e w4 ⟨g2, rfl, hkk, hb⟩
  rw [← HDD.out, ← HPP.out] at hkk
  have HK4 := hide hkk
  have HB4 : Hid (Below w.heap.size w w4) := hide (HB3.out.trans (hb.mono hs3))
  clear hkk hb HK2 HK3 HB1 HB2 HB3
  go_wp2
  go_loopw [7, 8] (fun z i wr => ∃ (j : Nat) (Q : List Wr), j ≤ n2 ∧ i = .int .i64 j ∧ z = .int .i64 (Q.length : Nat) ∧ Q.length ≤ j ∧ Hid (Ks w.heap.size wr [⟨g2, D, P⟩, ⟨g1, S, Q⟩]) ∧ Hid (Below w.heap.size w wr)) (fun _ i _ => n2 - (intOf i).toNat)
  case atStart => exact ⟨0, [], Nat.zero_le _, rfl, rfl, Nat.le_refl _, HK4, HB4⟩
  case round =>
    obtain ⟨j, Q, hj, rfl, rfl, hql, HK, HB⟩ := hrel
    obtain ⟨q, hq⟩ : ∃ q, q = Q.length := ⟨_, rfl⟩
    rw [← hq] at hql ⊢
    have HQ := hide hq
    clear hq
    by_cases hlt : j < n2
    · obtain ⟨b, o, rfl, hblt, hc⟩ := HA2.out.cells (by omega)
      have hjl : j < l2.length := by rw [HA2.out.len]; exact hlt
      obtain ⟨x, hx⟩ : ∃ x, x = actAt l2 j := ⟨_, rfl⟩
      have HOX : Hid (OkAct w x) := hide (by rw [hx]; exact HA2.out.each _ (actAt_mem hjl))
      have hcc := hc j hlt
      rw [← hx] at hcc
      obtain ⟨q0, q1⟩ := HOX.out.kind
      obtain ⟨kd, hkd⟩ : ∃ kd, kd = x.kind := ⟨_, rfl⟩
      obtain ⟨xn, hxn⟩ : ∃ xn, xn = x.n := ⟨_, rfl⟩
      obtain ⟨xA, hxA⟩ : ∃ xA, xA = x.A := ⟨_, rfl⟩
      obtain ⟨xm, hxm⟩ : ∃ xm, xm = x.m := ⟨_, rfl⟩
      obtain ⟨xc, hxc⟩ : ∃ xc, xc = x.c := ⟨_, rfl⟩
      have HXS : Hid (xA = x.A ∧ xm = x.m) := hide ⟨hxA, hxm⟩
      have hbw : ∀ i, w.cell? ⟨b, o + j * 5 + i, none⟩ = wr.cell? ⟨b, o + j * 5 + i, none⟩ := fun i => (HB.out.cell (p := ⟨b, o + j * 5 + i, none⟩) hblt).symm
      have c0 : wr.cell? ⟨b, o + j * 5, none⟩ = some (.int .u8 kd) := by rw [← Nat.add_zero (o + j * 5), ← hbw 0, hkd]; exact hcc 0 _ rfl
      have c1 : wr.cell? ⟨b, o + j * 5 + 1, none⟩ = some (.int .i64 xn) := by rw [← hbw 1, hxn]; exact hcc 1 _ rfl
      have c3 : wr.cell? ⟨b, o + j * 5 + 3, none⟩ = some (.slice xA xm xc) := by rw [← hbw 3, hxA, hxm, hxc]; exact hcc 3 _ rfl
      rw [← hkd] at q0 q1
      have j0 : (0 : Int) ≤ (j : Int) := by omega
      have j1 : (j : Int) < (n2 : Int) := by omega
      have HLX : Hid (Lies w xA xm (x.bs.map (Value.int .u8))) := hide (by rw [hxA, hxm]; exact HOX.out.lies)
      have HBX := hide HOX.out.bytes
      clear hx hc hcc hkd hxn hxA hxm hxc hbw
      by_cases hr : kd % 9 < 4
      · obtain ⟨okb, hok⟩ : ∃ okb, okb = wrOk S.length xn xm := ⟨_, rfl⟩
        have HLN : Hid (x.bs.length = xm) := hide (by have := HLX.out.len; simpa using this)
        have HQL : Hid (Q.length ≤ 1000000000) := hide (by rw [← HQ.out]; omega)
        have HC := k_write (a := [⟨g2, D, P⟩]) (b := []) (k := ⟨g1, S, Q⟩) xn xA xm xc x.bs wr.drew HK.out.drew (HLX.out.below (below_drew HB.out)) HBX.out HQL.out
        have HCC : Hid (Calls Try.prog 14 #[.pointer (some ⟨g1, 0, none⟩), .int .i64 xn, .slice xA xm xc] wr.drew fun e w' => e = .returned (.int .i64 (errI okb)) ∧ (∃ Q2, Q2.length = Q.length + (if okb then 1 else 0) ∧ Ks w.heap.size w' [⟨g2, D, P⟩, ⟨g1, S, Q2⟩]) ∧ Below w.heap.size wr.drew w') := hide (by
          refine HC.mono ?_
          rintro e w' ⟨rfl, h2, h3⟩
          refine ⟨by rw [hok], ⟨wrP S.length xn x.bs Q, ?_, h2⟩, h3⟩
          unfold wrP
          rw [HLN.out, ← hok]
          cases okb <;> simp)
        have HS0 : Hid (wr.drew.cell? ⟨b, o + j * 5, none⟩ = some (.int .u8 kd) ∧ wr.drew.cell? ⟨b, o + j * 5 + 1, none⟩ = some (.int .i64 xn) ∧ wr.drew.cell? ⟨b, o + j * 5 + 3, none⟩ = some (.slice xA xm xc)) := hide ⟨c0, c1, c3⟩
        clear HC hok c0 c1 c3
        have htm : kd.tmod 9 = kd % 9 := Int.tmod_eq_emod_of_nonneg q0
        cases okb
        · go_wp2
          refine wp_region_U (fun _ w' => w'.cell? ⟨b, o + j * 5, none⟩ = some (.int .u8 kd) ∧ w'.cell? ⟨b, o + j * 5 + 1, none⟩ = some (.int .i64 xn) ∧ w'.cell? ⟨b, o + j * 5 + 3, none⟩ = some (.slice xA xm xc)) 19 (by kernel_rfl) ?_
          refine wpAnyU_take (i := 0) (oi := { dst := some 32, op := _, type := _, pos := _, after := _, guard := none }) (v := .slice (some ⟨b, o, none⟩) n2 c2) rfl (by kernel_rfl) (by kernel_rfl) (by kernel_rfl) (by kernel_rfl) (fun _ _ _ h => h) (yields_take rfl (fun w' _ => by go_simp)) HS0.out ?_
          simp only [Act.put, List.setIfInBounds_toArray, List.set_cons_zero, List.set_cons_succ]
          refine wpAnyU_take (i := 1) (oi := { dst := some 33, op := _, type := _, pos := _, after := _, guard := none }) (v := .int .i64 (j : Int)) rfl (by kernel_rfl) (by kernel_rfl) (by kernel_rfl) (by kernel_rfl) (fun _ _ _ h => h) (yields_take rfl (fun w' _ => by go_simp)) HS0.out ?_
          simp only [Act.put, List.setIfInBounds_toArray, List.set_cons_zero, List.set_cons_succ]
          refine wpAnyU_take (i := 2) (oi := { dst := some 34, op := _, type := _, pos := _, after := _, guard := none }) (v := .pointer (some ⟨b, o + j * 5, none⟩)) rfl (by kernel_rfl) (by kernel_rfl) (by kernel_rfl) (by kernel_rfl) (fun _ _ _ h => h) (yields_take rfl (fun w' _ => by go_simp)) HS0.out ?_
          simp only [Act.put, List.setIfInBounds_toArray, List.set_cons_zero, List.set_cons_succ]
          refine wpAnyU_take (i := 3) (oi := { dst := some 35, op := _, type := _, pos := _, after := _, guard := none }) (v := .pointer (some ⟨b, o + j * 5, none⟩)) rfl (by kernel_rfl) (by kernel_rfl) (by kernel_rfl) (by kernel_rfl) (fun _ _ _ h => h) (yields_take rfl (fun w' _ => by go_simp)) HS0.out ?_
          simp only [Act.put, List.setIfInBounds_toArray, List.set_cons_zero, List.set_cons_succ]
          refine wpAnyU_take (i := 4) (oi := { dst := some 36, op := _, type := _, pos := _, after := _, guard := none }) (v := .int .u8 kd) rfl (by kernel_rfl) (by kernel_rfl) (by kernel_rfl) (by kernel_rfl) (fun _ _ _ h => h) (yields_take rfl (fun w' hw => by have hc := hw.const.1; go_simp)) HS0.out ?_
          simp only [Act.put, List.setIfInBounds_toArray, List.set_cons_zero, List.set_cons_succ]
          refine wpAnyU_take (i := 5) (oi := { dst := some 37, op := _, type := _, pos := _, after := _, guard := none }) (v := .int .u8 (kd % 9)) rfl (by kernel_rfl) (by kernel_rfl) (by kernel_rfl) (by kernel_rfl) (fun _ _ _ h => h) (yields_take rfl (fun w' _ => by go_simp)) HS0.out ?_
          simp only [Act.put, List.setIfInBounds_toArray, List.set_cons_zero, List.set_cons_succ]
          refine wpAnyU_take (i := 6) (oi := { dst := some 38, op := _, type := _, pos := _, after := _, guard := none }) (v := .bool true) rfl (by kernel_rfl) (by kernel_rfl) (by kernel_rfl) (by kernel_rfl) (fun _ _ _ h => h) (yields_take rfl (fun w' _ => by go_simp)) HS0.out ?_
          simp only [Act.put, List.setIfInBounds_toArray, List.set_cons_zero, List.set_cons_succ]
          refine wpAnyU_take (i := 7) (oi := { dst := some 39, op := _, type := _, pos := _, after := _, guard := none }) (v := .bool true) rfl (by kernel_rfl) (by kernel_rfl) (by kernel_rfl) (by kernel_rfl) (fun _ _ _ h => h) (yields_take rfl (fun w' _ => by go_simp)) HS0.out ?_
          simp only [Act.put, List.setIfInBounds_toArray, List.set_cons_zero, List.set_cons_succ]
          refine wpAnyU_take (i := 8) (oi := { dst := some 40, op := _, type := _, pos := _, after := _, guard := some (7, true) }) (v := .pointer (some ⟨g1, 0, none⟩)) rfl (by kernel_rfl) (by kernel_rfl) (by kernel_rfl) (by kernel_rfl) (fun _ _ _ h => h) (yields_take rfl (fun w' _ => by go_simp)) HS0.out ?_
          simp only [Act.put, List.setIfInBounds_toArray, List.set_cons_zero, List.set_cons_succ]
          refine wpAnyU_take (i := 9) (oi := { dst := some 41, op := _, type := _, pos := _, after := _, guard := some (7, true) }) (v := .slice (some ⟨b, o, none⟩) n2 c2) rfl (by kernel_rfl) (by kernel_rfl) (by kernel_rfl) (by kernel_rfl) (fun _ _ _ h => h) (yields_take rfl (fun w' _ => by go_simp)) HS0.out ?_
          simp only [Act.put, List.setIfInBounds_toArray, List.set_cons_zero, List.set_cons_succ]
          refine wpAnyU_take (i := 10) (oi := { dst := some 42, op := _, type := _, pos := _, after := _, guard := some (7, true) }) (v := .int .i64 (j : Int)) rfl (by kernel_rfl) (by kernel_rfl) (by kernel_rfl) (by kernel_rfl) (fun _ _ _ h => h) (yields_take rfl (fun w' _ => by go_simp)) HS0.out ?_
          simp only [Act.put, List.setIfInBounds_toArray, List.set_cons_zero, List.set_cons_succ]
          refine wpAnyU_take (i := 11) (oi := { dst := some 43, op := _, type := _, pos := _, after := _, guard := some (7, true) }) (v := .pointer (some ⟨b, o + j * 5, none⟩)) rfl (by kernel_rfl) (by kernel_rfl) (by kernel_rfl) (by kernel_rfl) (fun _ _ _ h => h) (yields_take rfl (fun w' _ => by go_simp)) HS0.out ?_
          simp only [Act.put, List.setIfInBounds_toArray, List.set_cons_zero, List.set_cons_succ]
          refine wpAnyU_take (i := 12) (oi := { dst := some 44, op := _, type := _, pos := _, after := _, guard := some (7, true) }) (v := .pointer (some ⟨b, o + j * 5 + 1, none⟩)) rfl (by kernel_rfl) (by kernel_rfl) (by kernel_rfl) (by kernel_rfl) (fun _ _ _ h => h) (yields_take rfl (fun w' _ => by go_simp)) HS0.out ?_
          simp only [Act.put, List.setIfInBounds_toArray, List.set_cons_zero, List.set_cons_succ]
          refine wpAnyU_take (i := 13) (oi := { dst := some 45, op := _, type := _, pos := _, after := _, guard := some (7, true) }) (v := .int .i64 xn) rfl (by kernel_rfl) (by kernel_rfl) (by kernel_rfl) (by kernel_rfl) (fun _ _ _ h => h) (yields_take rfl (fun w' hw => by have hc := hw.const.2.1; go_simp)) HS0.out ?_
          simp only [Act.put, List.setIfInBounds_toArray, List.set_cons_zero, List.set_cons_succ]
          refine wpAnyU_take (i := 14) (oi := { dst := some 46, op := _, type := _, pos := _, after := _, guard := some (7, true) }) (v := .slice (some ⟨b, o, none⟩) n2 c2) rfl (by kernel_rfl) (by kernel_rfl) (by kernel_rfl) (by kernel_rfl) (fun _ _ _ h => h) (yields_take rfl (fun w' _ => by go_simp)) HS0.out ?_
          simp only [Act.put, List.setIfInBounds_toArray, List.set_cons_zero, List.set_cons_succ]
          refine wpAnyU_take (i := 15) (oi := { dst := some 47, op := _, type := _, pos := _, after := _, guard := some (7, true) }) (v := .int .i64 (j : Int)) rfl (by kernel_rfl) (by kernel_rfl) (by kernel_rfl) (by kernel_rfl) (fun _ _ _ h => h) (yields_take rfl (fun w' _ => by go_simp)) HS0.out ?_
          simp only [Act.put, List.setIfInBounds_toArray, List.set_cons_zero, List.set_cons_succ]
          refine wpAnyU_take (i := 16) (oi := { dst := some 48, op := _, type := _, pos := _, after := _, guard := some (7, true) }) (v := .pointer (some ⟨b, o + j * 5, none⟩)) rfl (by kernel_rfl) (by kernel_rfl) (by kernel_rfl) (by kernel_rfl) (fun _ _ _ h => h) (yields_take rfl (fun w' _ => by go_simp)) HS0.out ?_
          simp only [Act.put, List.setIfInBounds_toArray, List.set_cons_zero, List.set_cons_succ]
          refine wpAnyU_take (i := 17) (oi := { dst := some 49, op := _, type := _, pos := _, after := _, guard := some (7, true) }) (v := .pointer (some ⟨b, o + j * 5 + 3, none⟩)) rfl (by kernel_rfl) (by kernel_rfl) (by kernel_rfl) (by kernel_rfl) (fun _ _ _ h => h) (yields_take rfl (fun w' _ => by go_simp)) HS0.out ?_
          simp only [Act.put, List.setIfInBounds_toArray, List.set_cons_zero, List.set_cons_succ]
          refine wpAnyU_take (i := 18) (oi := { dst := some 50, op := _, type := _, pos := _, after := _, guard := some (7, true) }) (v := .slice xA xm xc) rfl (by kernel_rfl) (by kernel_rfl) (by kernel_rfl) (by kernel_rfl) (fun _ _ _ h => h) (yields_take rfl (fun w' hw => by have hc := hw.const.2.2; go_simp)) HS0.out ?_
          simp only [Act.put, List.setIfInBounds_toArray, List.set_cons_zero, List.set_cons_succ]
          refine wpAnyU_one (i := 19) (by kernel_rfl) rfl ?_
          intro K hK
          go_simp
          ((with_reducible refine Calls.mono HCC.out ?_))
          rintro e w5 ⟨rfl, ⟨Q2, hq2, hk2⟩, hb2⟩
          dsimp only
          have hcw : ∀ i, w5.cell? ⟨b, i, none⟩ = wr.drew.cell? ⟨b, i, none⟩ := fun i => hb2.cell (p := ⟨b, i, none⟩) hblt
          have HS5 : Hid (w5.cell? ⟨b, o + j * 5, none⟩ = some (.int .u8 kd) ∧ w5.cell? ⟨b, o + j * 5 + 1, none⟩ = some (.int .i64 xn) ∧ w5.cell? ⟨b, o + j * 5 + 3, none⟩ = some (.slice xA xm xc)) := hide ⟨(hcw _).trans HS0.out.1, (hcw _).trans HS0.out.2.1, (hcw _).trans HS0.out.2.2⟩
          have HK5 := hide hk2
          have HQ2 := hide hq2
          have HB5 : Hid (Below w.heap.size w w5) := hide ((below_drew HB.out).trans hb2)
          rw [show errI false = 1 from rfl]
          refine hK.out _ _ HS5.out (fun _ => ?_)
          clear hK K hcw hq2 hk2 hb2
          refine wpAnyU_take (i := 20) (oi := { dst := some 52, op := _, type := _, pos := _, after := _, guard := some (7, true) }) (v := .bool false) rfl (by kernel_rfl) (by kernel_rfl) (by kernel_rfl) (by kernel_rfl) (fun _ _ _ h => h) (yields_take rfl (fun w' _ => by go_simp)) HS5.out ?_
          simp only [Act.put, List.setIfInBounds_toArray, List.set_cons_zero, List.set_cons_succ]
          refine wpAnyU_take (i := 21) (oi := { dst := some 53, op := _, type := _, pos := _, after := _, guard := none }) (v := .bool false) rfl (by kernel_rfl) (by kernel_rfl) (by kernel_rfl) (by kernel_rfl) (fun _ _ _ h => h) (yields_take rfl (fun w' _ => by go_simp)) HS5.out ?_
          simp only [Act.put, List.setIfInBounds_toArray, List.set_cons_zero, List.set_cons_succ]
          refine wpAnyU_done (by kernel_rfl) ?_ _
          clear htm
          go_wp2
          go_roundw
          case rel => exact ⟨j + 1, Q2, by omega, by go_num, by rw [HQ2.out, ← HQ.out]; simp, by rw [HQ2.out, ← HQ.out]; simp; omega, HK5, HB5⟩
          case measure => simp [intOf]; omega
        · go_wp2
          refine wp_region_U (fun _ w' => w'.cell? ⟨b, o + j * 5, none⟩ = some (.int .u8 kd) ∧ w'.cell? ⟨b, o + j * 5 + 1, none⟩ = some (.int .i64 xn) ∧ w'.cell? ⟨b, o + j * 5 + 3, none⟩ = some (.slice xA xm xc)) 19 (by kernel_rfl) ?_
          refine wpAnyU_take (i := 0) (oi := { dst := some 32, op := _, type := _, pos := _, after := _, guard := none }) (v := .slice (some ⟨b, o, none⟩) n2 c2) rfl (by kernel_rfl) (by kernel_rfl) (by kernel_rfl) (by kernel_rfl) (fun _ _ _ h => h) (yields_take rfl (fun w' _ => by go_simp)) HS0.out ?_
          simp only [Act.put, List.setIfInBounds_toArray, List.set_cons_zero, List.set_cons_succ]
          refine wpAnyU_take (i := 1) (oi := { dst := some 33, op := _, type := _, pos := _, after := _, guard := none }) (v := .int .i64 (j : Int)) rfl (by kernel_rfl) (by kernel_rfl) (by kernel_rfl) (by kernel_rfl) (fun _ _ _ h => h) (yields_take rfl (fun w' _ => by go_simp)) HS0.out ?_
          simp only [Act.put, List.setIfInBounds_toArray, List.set_cons_zero, List.set_cons_succ]
          refine wpAnyU_take (i := 2) (oi := { dst := some 34, op := _, type := _, pos := _, after := _, guard := none }) (v := .pointer (some ⟨b, o + j * 5, none⟩)) rfl (by kernel_rfl) (by kernel_rfl) (by kernel_rfl) (by kernel_rfl) (fun _ _ _ h => h) (yields_take rfl (fun w' _ => by go_simp)) HS0.out ?_
          simp only [Act.put, List.setIfInBounds_toArray, List.set_cons_zero, List.set_cons_succ]
          refine wpAnyU_take (i := 3) (oi := { dst := some 35, op := _, type := _, pos := _, after := _, guard := none }) (v := .pointer (some ⟨b, o + j * 5, none⟩)) rfl (by kernel_rfl) (by kernel_rfl) (by kernel_rfl) (by kernel_rfl) (fun _ _ _ h => h) (yields_take rfl (fun w' _ => by go_simp)) HS0.out ?_
          simp only [Act.put, List.setIfInBounds_toArray, List.set_cons_zero, List.set_cons_succ]
          refine wpAnyU_take (i := 4) (oi := { dst := some 36, op := _, type := _, pos := _, after := _, guard := none }) (v := .int .u8 kd) rfl (by kernel_rfl) (by kernel_rfl) (by kernel_rfl) (by kernel_rfl) (fun _ _ _ h => h) (yields_take rfl (fun w' hw => by have hc := hw.const.1; go_simp)) HS0.out ?_
          simp only [Act.put, List.setIfInBounds_toArray, List.set_cons_zero, List.set_cons_succ]
          refine wpAnyU_take (i := 5) (oi := { dst := some 37, op := _, type := _, pos := _, after := _, guard := none }) (v := .int .u8 (kd % 9)) rfl (by kernel_rfl) (by kernel_rfl) (by kernel_rfl) (by kernel_rfl) (fun _ _ _ h => h) (yields_take rfl (fun w' _ => by go_simp)) HS0.out ?_
          simp only [Act.put, List.setIfInBounds_toArray, List.set_cons_zero, List.set_cons_succ]
          refine wpAnyU_take (i := 6) (oi := { dst := some 38, op := _, type := _, pos := _, after := _, guard := none }) (v := .bool true) rfl (by kernel_rfl) (by kernel_rfl) (by kernel_rfl) (by kernel_rfl) (fun _ _ _ h => h) (yields_take rfl (fun w' _ => by go_simp)) HS0.out ?_
          simp only [Act.put, List.setIfInBounds_toArray, List.set_cons_zero, List.set_cons_succ]
          refine wpAnyU_take (i := 7) (oi := { dst := some 39, op := _, type := _, pos := _, after := _, guard := none }) (v := .bool true) rfl (by kernel_rfl) (by kernel_rfl) (by kernel_rfl) (by kernel_rfl) (fun _ _ _ h => h) (yields_take rfl (fun w' _ => by go_simp)) HS0.out ?_
          simp only [Act.put, List.setIfInBounds_toArray, List.set_cons_zero, List.set_cons_succ]
          refine wpAnyU_take (i := 8) (oi := { dst := some 40, op := _, type := _, pos := _, after := _, guard := some (7, true) }) (v := .pointer (some ⟨g1, 0, none⟩)) rfl (by kernel_rfl) (by kernel_rfl) (by kernel_rfl) (by kernel_rfl) (fun _ _ _ h => h) (yields_take rfl (fun w' _ => by go_simp)) HS0.out ?_
          simp only [Act.put, List.setIfInBounds_toArray, List.set_cons_zero, List.set_cons_succ]
          refine wpAnyU_take (i := 9) (oi := { dst := some 41, op := _, type := _, pos := _, after := _, guard := some (7, true) }) (v := .slice (some ⟨b, o, none⟩) n2 c2) rfl (by kernel_rfl) (by kernel_rfl) (by kernel_rfl) (by kernel_rfl) (fun _ _ _ h => h) (yields_take rfl (fun w' _ => by go_simp)) HS0.out ?_
          simp only [Act.put, List.setIfInBounds_toArray, List.set_cons_zero, List.set_cons_succ]
          refine wpAnyU_take (i := 10) (oi := { dst := some 42, op := _, type := _, pos := _, after := _, guard := some (7, true) }) (v := .int .i64 (j : Int)) rfl (by kernel_rfl) (by kernel_rfl) (by kernel_rfl) (by kernel_rfl) (fun _ _ _ h => h) (yields_take rfl (fun w' _ => by go_simp)) HS0.out ?_
          simp only [Act.put, List.setIfInBounds_toArray, List.set_cons_zero, List.set_cons_succ]
          refine wpAnyU_take (i := 11) (oi := { dst := some 43, op := _, type := _, pos := _, after := _, guard := some (7, true) }) (v := .pointer (some ⟨b, o + j * 5, none⟩)) rfl (by kernel_rfl) (by kernel_rfl) (by kernel_rfl) (by kernel_rfl) (fun _ _ _ h => h) (yields_take rfl (fun w' _ => by go_simp)) HS0.out ?_
          simp only [Act.put, List.setIfInBounds_toArray, List.set_cons_zero, List.set_cons_succ]
          refine wpAnyU_take (i := 12) (oi := { dst := some 44, op := _, type := _, pos := _, after := _, guard := some (7, true) }) (v := .pointer (some ⟨b, o + j * 5 + 1, none⟩)) rfl (by kernel_rfl) (by kernel_rfl) (by kernel_rfl) (by kernel_rfl) (fun _ _ _ h => h) (yields_take rfl (fun w' _ => by go_simp)) HS0.out ?_
          simp only [Act.put, List.setIfInBounds_toArray, List.set_cons_zero, List.set_cons_succ]
          refine wpAnyU_take (i := 13) (oi := { dst := some 45, op := _, type := _, pos := _, after := _, guard := some (7, true) }) (v := .int .i64 xn) rfl (by kernel_rfl) (by kernel_rfl) (by kernel_rfl) (by kernel_rfl) (fun _ _ _ h => h) (yields_take rfl (fun w' hw => by have hc := hw.const.2.1; go_simp)) HS0.out ?_
          simp only [Act.put, List.setIfInBounds_toArray, List.set_cons_zero, List.set_cons_succ]
          refine wpAnyU_take (i := 14) (oi := { dst := some 46, op := _, type := _, pos := _, after := _, guard := some (7, true) }) (v := .slice (some ⟨b, o, none⟩) n2 c2) rfl (by kernel_rfl) (by kernel_rfl) (by kernel_rfl) (by kernel_rfl) (fun _ _ _ h => h) (yields_take rfl (fun w' _ => by go_simp)) HS0.out ?_
          simp only [Act.put, List.setIfInBounds_toArray, List.set_cons_zero, List.set_cons_succ]
          refine wpAnyU_take (i := 15) (oi := { dst := some 47, op := _, type := _, pos := _, after := _, guard := some (7, true) }) (v := .int .i64 (j : Int)) rfl (by kernel_rfl) (by kernel_rfl) (by kernel_rfl) (by kernel_rfl) (fun _ _ _ h => h) (yields_take rfl (fun w' _ => by go_simp)) HS0.out ?_
          simp only [Act.put, List.setIfInBounds_toArray, List.set_cons_zero, List.set_cons_succ]
          refine wpAnyU_take (i := 16) (oi := { dst := some 48, op := _, type := _, pos := _, after := _, guard := some (7, true) }) (v := .pointer (some ⟨b, o + j * 5, none⟩)) rfl (by kernel_rfl) (by kernel_rfl) (by kernel_rfl) (by kernel_rfl) (fun _ _ _ h => h) (yields_take rfl (fun w' _ => by go_simp)) HS0.out ?_
          simp only [Act.put, List.setIfInBounds_toArray, List.set_cons_zero, List.set_cons_succ]
          refine wpAnyU_take (i := 17) (oi := { dst := some 49, op := _, type := _, pos := _, after := _, guard := some (7, true) }) (v := .pointer (some ⟨b, o + j * 5 + 3, none⟩)) rfl (by kernel_rfl) (by kernel_rfl) (by kernel_rfl) (by kernel_rfl) (fun _ _ _ h => h) (yields_take rfl (fun w' _ => by go_simp)) HS0.out ?_
          simp only [Act.put, List.setIfInBounds_toArray, List.set_cons_zero, List.set_cons_succ]
          refine wpAnyU_take (i := 18) (oi := { dst := some 50, op := _, type := _, pos := _, after := _, guard := some (7, true) }) (v := .slice xA xm xc) rfl (by kernel_rfl) (by kernel_rfl) (by kernel_rfl) (by kernel_rfl) (fun _ _ _ h => h) (yields_take rfl (fun w' hw => by have hc := hw.const.2.2; go_simp)) HS0.out ?_
          simp only [Act.put, List.setIfInBounds_toArray, List.set_cons_zero, List.set_cons_succ]
          refine wpAnyU_one (i := 19) (by kernel_rfl) rfl ?_
          intro K hK
          go_simp
          ((with_reducible refine Calls.mono HCC.out ?_))
          rintro e w5 ⟨rfl, ⟨Q2, hq2, hk2⟩, hb2⟩
          dsimp only
          have hcw : ∀ i, w5.cell? ⟨b, i, none⟩ = wr.drew.cell? ⟨b, i, none⟩ := fun i => hb2.cell (p := ⟨b, i, none⟩) hblt
          have HS5 : Hid (w5.cell? ⟨b, o + j * 5, none⟩ = some (.int .u8 kd) ∧ w5.cell? ⟨b, o + j * 5 + 1, none⟩ = some (.int .i64 xn) ∧ w5.cell? ⟨b, o + j * 5 + 3, none⟩ = some (.slice xA xm xc)) := hide ⟨(hcw _).trans HS0.out.1, (hcw _).trans HS0.out.2.1, (hcw _).trans HS0.out.2.2⟩
          have HK5 := hide hk2
          have HQ2 := hide hq2
          have HB5 : Hid (Below w.heap.size w w5) := hide ((below_drew HB.out).trans hb2)
          rw [show errI true = 0 from rfl]
          refine hK.out _ _ HS5.out (fun _ => ?_)
          clear hK K hcw hq2 hk2 hb2
          refine wpAnyU_take (i := 20) (oi := { dst := some 52, op := _, type := _, pos := _, after := _, guard := some (7, true) }) (v := .bool true) rfl (by kernel_rfl) (by kernel_rfl) (by kernel_rfl) (by kernel_rfl) (fun _ _ _ h => h) (yields_take rfl (fun w' _ => by go_simp)) HS5.out ?_
          simp only [Act.put, List.setIfInBounds_toArray, List.set_cons_zero, List.set_cons_succ]
          refine wpAnyU_take (i := 21) (oi := { dst := some 53, op := _, type := _, pos := _, after := _, guard := none }) (v := .bool true) rfl (by kernel_rfl) (by kernel_rfl) (by kernel_rfl) (by kernel_rfl) (fun _ _ _ h => h) (yields_take rfl (fun w' _ => by go_simp)) HS5.out ?_
          simp only [Act.put, List.setIfInBounds_toArray, List.set_cons_zero, List.set_cons_succ]
          refine wpAnyU_done (by kernel_rfl) ?_ _
          clear htm
          go_wp2
          go_roundw
          case rel => exact ⟨j + 1, Q2, by omega, by go_num, by rw [HQ2.out, ← HQ.out]; simp, by rw [HQ2.out, ← HQ.out]; simp; omega, HK5, HB5⟩
          case measure => simp [intOf]; omega
      · have hr2 : 4 ≤ kd % 9 := by omega
        have htm : kd.tmod 9 = kd % 9 := Int.tmod_eq_emod_of_nonneg q0
        have hdd : decide (kd % 9 < 4) = false := decide_eq_false hr
        clear hr c1 c3
        go_wp2
        go_quiet (fail)
        have HK5 : Hid (Ks w.heap.size wr.drew [⟨g2, D, P⟩, ⟨g1, S, Q⟩]) := hide HK.out.drew
        go_wp2
        go_roundw
        case rel => exact ⟨j + 1, Q, by omega, by go_num, by rw [HQ.out], by rw [← HQ.out]; omega, hide (HK.out.below (below_drewN (Below.refl _ _) _)), hide (below_drewN HB.out _)⟩
        case measure => simp [intOf]; omega
    · obtain rfl : j = n2 := by omega
      have HQL : Hid (Q.length ≤ 1000000000) := hide (by rw [← HQ.out]; omega)
      have hs := HB.out.size
      have q1 : (q : Int) ≤ 150 := by omega
      go_wp2_with fail
      refine Calls.mono (k_waits (a := [⟨g2, D, P⟩]) (b := []) (k := ⟨g1, S, Q⟩) _ HK.out) ?_
      rintro e w99 ⟨rfl, rfl⟩
      rw [show ((⟨g1, S, Q⟩ : Dk).pend.length : Int) = (q : Int) from by rw [HQ.out]]
      go_wp2_with fail
      refine Calls.mono (left_any (a := [⟨g2, D, P⟩]) (b := []) (k := ⟨g1, S, Q⟩) 0 (-1) _ HK.out (by omega) HQL.out) ?_
      rintro e w5 ⟨g5, rfl, hkk, hb⟩
      have HK5 : Hid (Ks w.heap.size w5 [⟨g5, S, []⟩, ⟨g2, D, P⟩, ⟨g1, S, Q⟩]) := hide (by
        have h2 : Ks w.heap.size w5 [⟨g5, leftOf 0 (-1) S Q, []⟩, ⟨g2, D, P⟩, ⟨g1, S, Q⟩] := hkk
        rwa [left_zero] at h2)
      have HB5 : Hid (Below w.heap.size w w5) := hide (HB.out.trans (hb.mono hs))
      have hs5 := HB5.out.size
      clear hkk hb
      go_wp2_with fail
      refine Calls.mono (kd_alike _ (Ks.kd (a := []) (b := [⟨g2, D, P⟩, ⟨g1, S, Q⟩]) (k := ⟨g5, S, []⟩) HK5.out) (Ks.kd (a := [⟨g5, S, []⟩]) (b := [⟨g1, S, Q⟩]) (k := ⟨g2, D, P⟩) HK5.out) (by rw [seen_none]; show SameL S (seenOf D P); rw [← HSS.out]; exact SameL.refl _)) ?_
      rintro e w6 ⟨rfl, hb⟩
      have HK6 := hide (HK5.out.below hb).drop
      have HB6 : Hid (Below w.heap.size w w6) := hide (HB5.out.trans (hb.mono hs5))
      have hs6 := HB6.out.size
      clear hb
      go_wp2_with fail
      refine Calls.mono (left_any (a := [⟨g2, D, P⟩]) (b := []) (k := ⟨g1, S, Q⟩) 18446744073709551615 (-1) _ HK6.out (by omega) HQL.out) ?_
      rintro e w7 ⟨g7, rfl, hkk, hb⟩
      have HK7 : Hid (Ks w.heap.size w7 [⟨g7, seenOf S Q, []⟩, ⟨g2, D, P⟩, ⟨g1, S, Q⟩]) := hide (by
        have h2 : Ks w.heap.size w7 [⟨g7, leftOf 18446744073709551615 (-1) S Q, []⟩, ⟨g2, D, P⟩, ⟨g1, S, Q⟩] := hkk
        rwa [left_max S Q (-1) (by omega)] at h2)
      have HB7 : Hid (Below w.heap.size w w7) := hide (HB6.out.trans (hb.mono hs6))
      have hs7 := HB7.out.size
      clear hkk hb
      go_wp2_with fail
      refine Calls.mono (kd_alike _ (Ks.kd (a := []) (b := [⟨g2, D, P⟩, ⟨g1, S, Q⟩]) (k := ⟨g7, seenOf S Q, []⟩) HK7.out) (Ks.kd (a := [⟨g7, seenOf S Q, []⟩, ⟨g2, D, P⟩]) (b := []) (k := ⟨g1, S, Q⟩) HK7.out) (SameL.refl _)) ?_
      rintro e w8 ⟨rfl, hb⟩
      have HK8 := hide (HK7.out.below hb).drop
      have HB8 : Hid (Below w.heap.size w w8) := hide (HB7.out.trans (hb.mono hs7))
      have hs8 := HB8.out.size
      clear hb
      go_wp2_with fail
      refine Calls.mono (left_any (a := [⟨g2, D, P⟩]) (b := []) (k := ⟨g1, S, Q⟩) 18446744073709551615 (q : Int) _ HK8.out (by omega) HQL.out) ?_
      rintro e w9 ⟨g9, rfl, hkk, hb⟩
      have HK9 : Hid (Ks w.heap.size w9 [⟨g9, seenOf S Q, []⟩, ⟨g2, D, P⟩, ⟨g1, S, Q⟩]) := hide (by
        have h2 : Ks w.heap.size w9 [⟨g9, leftOf 18446744073709551615 (q : Int) S Q, []⟩, ⟨g2, D, P⟩, ⟨g1, S, Q⟩] := hkk
        rwa [left_max S Q (q : Int) (by rw [HQ.out]; omega)] at h2)
      have HB9 : Hid (Below w.heap.size w w9) := hide (HB8.out.trans (hb.mono hs8))
      have hs9 := HB9.out.size
      clear hkk hb
      go_wp2_with fail
      refine Calls.mono (kd_alike _ (Ks.kd (a := []) (b := [⟨g2, D, P⟩, ⟨g1, S, Q⟩]) (k := ⟨g9, seenOf S Q, []⟩) HK9.out) (Ks.kd (a := [⟨g9, seenOf S Q, []⟩, ⟨g2, D, P⟩]) (b := []) (k := ⟨g1, S, Q⟩) HK9.out) (SameL.refl _)) ?_
      rintro e w10 ⟨rfl, hb⟩
      have HB10 : Hid (Below w.heap.size w w10) := hide (HB9.out.trans (hb.mono hs9))
      clear hb
      go_wp2
      go_ret
      exact ⟨by simp [Act.eval], HB10.out⟩
end Go.Proofs.Ytphfakjodddilaa
