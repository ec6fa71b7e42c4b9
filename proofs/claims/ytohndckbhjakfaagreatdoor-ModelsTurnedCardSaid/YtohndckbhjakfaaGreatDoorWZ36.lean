/- Merged: Tx7, Tx8. -/
import Derived.Test.YtohndckbhjakfaaGreatDoorWZ35
import Derived.Test.YtohndckbhjakfaaGreatDoorWZ09
import Derived.Test.YtohndckbhjakfaaGreatDoorWZ24
namespace Go.Proofs.YtohndckbhjakfaaGreatDoor

section
open Go.RowKit
set_option linter.unusedVariables false
set_option linter.unusedSimpArgs false
set_option maxRecDepth 100000

/-- What reading a node comes to. -/
def NodeE (r kd : Nat) (ws : List Wd) (w : World) (e : Ending) (w' : World) : Prop :=
  (∃ (rd : Rd) (x : Nd), readB (partsB kd) ⟨[], [], 0, 0, ws⟩ = some rd ∧ rd.rest = [] ∧ x.kd = (kd : Int) ∧ x.xs = rd.xs ∧ x.sh = rd.sh ∧ x.N = rd.N ∧ x.P = rd.P ∧ e = .returned x.v ∧ x.Ok w' ∧ w'.ownsRow w.heap.size 3 1 (.slice x.I x.ni x.ci) x.ni (x.xs.map (Value.int .i64)) ∧ w'.ownsRow w.heap.size 3 1 (.slice x.S x.ns x.cs) x.ns (x.sh.map (Value.int .i64)) ∧ (∀ g, (Value.slice x.I x.ni x.ci).ownBlock = some g → (Value.slice x.S x.ns x.cs).ownBlock ≠ some g) ∧ But r w w') ∨
  ((∀ rd, readB (partsB kd) ⟨[], [], 0, 0, ws⟩ = some rd → rd.rest ≠ []) ∧ e = upX ∧ But r w w')

/-- The parts of a row, as Fields tells them. -/
theorem fields_rows : ∀ k, k < 14 → Lib.fieldsD (rowB k) = partsB k := by decide +kernel

theorem rows_short : ∀ k, k < 14 → (rowB k).length < 100 := by decide

theorem parts_len : ∀ k, k < 14 → (partsB k).length < 100 := by decide

theorem fields_any (k : Nat) (hk : k < 14) (w : World) (hv : LaidV w) : Calls Tryz.prog 70 #[strV (rowB k)] w fun e w' => ∃ A, e = .returned (.slice (some ⟨A, 0, none⟩) (partsB k).length (partsB k).length) ∧ w.heap.size ≤ A ∧ A < w'.heap.size ∧ Lies w' (some ⟨A, 0, none⟩) (partsB k).length ((partsB k).map strV) ∧ Below w.heap.size w w' := by
  have hd : (⟨(rowB k).toArray⟩ : ByteArray).data.toList = rowB k := by simp
  have hsz : (⟨(rowB k).toArray⟩ : ByteArray).size < 4294967281 := by
    have := rows_short k hk
    simp only [ByteArray.size, List.size_toArray]
    omega
  have c := Tryz.strings_Fields_any ⟨(rowB k).toArray⟩ w hsz hv.asc hv.white
  rw [hd, fields_rows k hk] at c
  refine c.mono ?_
  rintro e w' ⟨A, he, hA, ho, hb⟩
  have hlt : A < w'.heap.size := (ho.lt A rfl).2
  exact ⟨A, he, hA, hlt, lies_of_own ho, hb⟩

theorem own_le {w : World} {B e n c : Nat} {A : Option Addr} {xs : List Value} (h : w.ownsRow B e 1 (.slice A n c) n xs) : n ≤ c := by
  rcases h.2 with ⟨h1, h2⟩ | ⟨g, cap, cur, h1, _, _, h2, _⟩
  · omega
  · injection h1 with _ _ h3
    omega

theorem below_set1 (p : Nat) (u : World) (i : Nat) (v : Value) : Below p u (u.setCell ⟨p, i, none⟩ v) := ⟨rfl, rfl, rfl, by simp [World.setCell], fun k hk => Below.heap_setCell u _ v k (by simp only; omega)⟩

theorem below_set5 (w : World) (p : Nat) (v0 v1 v2 v3 v4 : Value) : Below p w (((((w.setCell ⟨p, 0, none⟩ v0).setCell ⟨p, 1, none⟩ v1).setCell ⟨p, 2, none⟩ v2).setCell ⟨p, 3, none⟩ v3).setCell ⟨p, 4, none⟩ v4) :=
  ((((below_set1 p w 0 v0).trans (below_set1 p _ 1 v1)).trans (below_set1 p _ 2 v2)).trans (below_set1 p _ 3 v3)).trans (below_set1 p _ 4 v4)

theorem own_set5 {w : World} {B e s n p : Nat} {v : Value} {xs : List Value} (h : w.ownsRow B e s v n xs) (hp : p < B) (v0 v1 v2 v3 v4 : Value) : (((((w.setCell ⟨p, 0, none⟩ v0).setCell ⟨p, 1, none⟩ v1).setCell ⟨p, 2, none⟩ v2).setCell ⟨p, 3, none⟩ v3).setCell ⟨p, 4, none⟩ v4).ownsRow B e s v n xs := by
  have h0 := own_set h hp 0 v0
  have h1 := own_set h0 hp 1 v1
  have h2 := own_set h1 hp 2 v2
  have h3 := own_set h2 hp 3 v3
  exact own_set h3 hp 4 v4

theorem num_bounds {y : Wd} {n : Int} (h : numB y = some n) : -9223372036854775808 ≤ n ∧ n < 9223372036854775808 := by
  rw [numB] at h
  split at h
  · cases h
  · split at h
    · rename_i m hm
      have hbd := atoi_bounds hm
      split at h
      · cases h
      · injection h with h
        subst h
        omega
    · cases h

theorem nums_no {r : Nat} {ws : List Wd} {w : World} (c : Calls Tryz.prog 115 #[.pointer (some ⟨r, 0, none⟩)] w (NumsE r ws w)) (hn : numsB ws = []) : Calls Tryz.prog 115 #[.pointer (some ⟨r, 0, none⟩)] w fun e w' => e = .panicked [{ v := .iface 31 (.int .i64 4), recovered := false }] ∧ But r w w' := by
  refine c.mono ?_
  rintro e w' (⟨h, _⟩ | ⟨_, he, hb⟩)
  · exact absurd hn h
  · exact ⟨he, hb⟩

theorem nums_ok {r : Nat} {ws : List Wd} {w : World} (c : Calls Tryz.prog 115 #[.pointer (some ⟨r, 0, none⟩)] w (NumsE r ws w)) (hn : numsB ws ≠ []) : Calls Tryz.prog 115 #[.pointer (some ⟨r, 0, none⟩)] w fun e w' => ∃ A c, e = .returned (.slice A (numsB ws).length c) ∧ w'.ownsRow w.heap.size 3 1 (.slice A (numsB ws).length c) (numsB ws).length ((numsB ws).map (Value.int .i64)) ∧ RdAt w' r (ws.drop (numsB ws).length) ∧ But r w w' := by
  refine c.mono ?_
  rintro e w' (⟨_, A, c, he, h1, h2, h3⟩ | ⟨h, _⟩)
  · exact ⟨A, c, he, h1, h2, h3⟩
  · exact absurd h hn

theorem word_ok {r : Nat} {p : Wd} {t : List Wd} {w : World} (c : Calls Tryz.prog 116 #[.pointer (some ⟨r, 0, none⟩), .string ⟨p.toArray⟩] w (WordE r p (p :: t) w)) : Calls Tryz.prog 116 #[.pointer (some ⟨r, 0, none⟩), .string ⟨p.toArray⟩] w fun e w' => e = .returned (.tuple #[]) ∧ RdAt w' r t ∧ But r w w' := by
  refine c.mono ?_
  rintro e w' (⟨t', h, he, h1, h2⟩ | ⟨h, _⟩)
  · injection h with _ h
    subst h
    exact ⟨he, h1, h2⟩
  · exact absurd rfl h

theorem word_no {r : Nat} {p : Wd} {ws : List Wd} {w : World} (c : Calls Tryz.prog 116 #[.pointer (some ⟨r, 0, none⟩), .string ⟨p.toArray⟩] w (WordE r p ws w)) (hw : ws.head? ≠ some p) : Calls Tryz.prog 116 #[.pointer (some ⟨r, 0, none⟩), .string ⟨p.toArray⟩] w fun e w' => e = .panicked [{ v := .iface 31 (.int .i64 4), recovered := false }] ∧ But r w w' := by
  refine c.mono ?_
  rintro e w' (⟨t', h, _⟩ | ⟨_, he, hb⟩)
  · exact absurd (by rw [h]; rfl) hw
  · exact ⟨he, hb⟩

set_option maxHeartbeats 16000000 in
theorem node_any (r kd : Nat) (ws : List Wd) (w0 w : World) (h : RdAt w r ws) (hs : Short ws) (hl : ws.length ≤ 1000000) (hv : LaidV w0) (hr : w0.heap.size ≤ r) (hb0 : Below w0.heap.size w0 w) (hk1 : 1 ≤ kd) (hk : kd < 14) : Calls Tryz.prog 79 #[.pointer (some ⟨r, 0, none⟩), .int .u8 kd] w (NodeE r kd ws w) := by
  have hrl := h.lt
  have hvw := hv.below hb0
  have hrow := hvw.rows kd hk
  obtain ⟨W2, hW2⟩ : ∃ W, W = (w.alloc (.cells #[.int .u8 0, .slice none 0 0, .slice none 0 0, .int .i64 0, .int .i64 0] 44)).alloc (.cells #[.int .u8 kd, .slice none 0 0, .slice none 0 0, .int .i64 0, .int .i64 0] 44) := ⟨_, rfl⟩
  have hB2 : Below w.heap.size w W2 := by rw [hW2]; exact ((Below.refl _ _).alloc (Nat.le_refl _) _).alloc (by simp) _
  have hrow2 := cell_on hrow hB2
  have hv2 := hvw.below hB2
  have HF := hide (fields_any kd hk W2 hv2)
  obtain ⟨c0, hc0⟩ : ∃ c, c = strV (rowB kd) := ⟨_, rfl⟩
  rw [← hc0] at hrow2 HF
  have HC0 := hide hc0
  clear hc0 hrow
  go_enter Tryz.func79, Tryz.ntmps79
  rw [hW2] at hrow2
  go_wp2_with (go_at_call 70; fail)
  rw [hW2] at HF
  refine HF.out.mono ?_
  rintro e w3 ⟨A, rfl, hA, hAlt, hLA, hb3⟩
  obtain ⟨q, hq⟩ : ∃ q, q = w.heap.size + 1 := ⟨_, rfl⟩
  have hq' := hq.symm
  obtain ⟨B, hBB⟩ : ∃ B, B = w3.heap.size := ⟨_, rfl⟩
  have hW2s : W2.heap.size = q + 1 := by rw [hW2]; simp [hq]
  have hg1 : W2.heap[q]? = some (.cells #[.int .u8 kd, .slice none 0 0, .slice none 0 0, .int .i64 0, .int .i64 0] 44 (0, 0)) := by
    rw [hW2, hq]
    have := heap_alloc_new (w.alloc (.cells #[.int .u8 0, .slice none 0 0, .slice none 0 0, .int .i64 0, .int .i64 0] 44)) (.cells #[.int .u8 kd, .slice none 0 0, .slice none 0 0, .int .i64 0, .int .i64 0] 44)
    simpa using this
  have hg0 : W2.heap[w.heap.size]? = some (.cells #[.int .u8 0, .slice none 0 0, .slice none 0 0, .int .i64 0, .int .i64 0] 44 (0, 0)) := by
    rw [hW2]
    exact (Below.heap_alloc _ _ _ (by simp)).trans (heap_alloc_new w _)
  rw [← hW2] at hb3
  rw [← hW2] at hA
  have hB3 : Below w.heap.size w w3 := hB2.trans (hb3.mono hB2.size)
  have HG0 : Hid (w3.heap[w.heap.size]? = some (.cells #[.int .u8 0, .slice none 0 0, .slice none 0 0, .int .i64 0, .int .i64 0] 44 (0, 0))) := hide ((hb3.block _ (by omega)).trans hg0)
  have hs3 := hb3.size
  have HI0 : Hid (NdIn B r q w3 w3 ⟨(kd : Int), none, 0, 0, none, 0, 0, 0, 0, [], []⟩ ws) := hide (by
    refine ⟨by omega, by omega, by omega, by omega, (hb3.block q (by omega)).trans hg1, World.ownsRow_nil _ _ _ _, World.ownsRow_nil _ _ _ _, fun g hg => by simp [Value.ownBlock] at hg, (h.below hB2).below hb3, hs, hl, Kp2.refl _ _ _ _, ?_, ?_, ?_, ?_, ?_⟩
    all_goals (simp only; omega))
  obtain ⟨R, hR⟩ : ∃ R, R = readB (partsB kd) ⟨[], [], 0, 0, ws⟩ := ⟨_, rfl⟩
  have HOUT : Hid (∀ (wr : World) (x : Nd) (t : List Wd), NdIn B r q w3 wr x t → But r w wr) := hide (fun wr x t hh => by
    have hsz := hB3.size
    exact ⟨hh.kp.os.trans hB3.os, hh.kp.tape.trans hB3.tape, hh.kp.output.trans hB3.output, Nat.le_trans hB3.size hh.kp.size, fun k hk hn => (hh.kp.block k (by omega) hn (by omega)).trans (hB3.block k hk)⟩)
  have HV0 : Hid (∀ (wr : World) (x : Nd) (t : List Wd), NdIn B r q w3 wr x t → Below w0.heap.size w0 wr) := hide (fun wr x t hh => hb0.trans ((HOUT.out wr x t hh).to hr hb0.size))
  have HP : Hid (∀ (wr : World) (x : Nd) (t : List Wd), NdIn B r q w3 wr x t → Lies wr (some ⟨A, 0, none⟩) (partsB kd).length ((partsB kd).map strV)) := hide (fun wr x t hh => ⟨hLA.len, fun hn => by
    obtain ⟨b, o, e, hlt, hcs⟩ := hLA.cells hn
    injection e with e
    injection e with e1 e2
    subst e1 e2
    exact ⟨A, 0, rfl, Nat.lt_of_lt_of_le hlt hh.kp.size, fun j hj => (World.cell?_of_block (hh.kp.block A (by omega) (by omega) (by omega))).trans (hcs j hj)⟩⟩)
  have HV := hide hv
  have HR := hide hR
  have HQ := hide hq
  have HLP : Hid ((partsB kd).length < 100) := hide (parts_len kd hk)
  obtain ⟨L, hL⟩ : ∃ L, L = (partsB kd).length := ⟨_, rfl⟩
  have hL9 : L < 100 := by rw [hL]; exact HLP.out
  have HL := hide hL
  have HB3 := hide hB3
  have HR0 : Hid (readB ((partsB kd).drop 0) ⟨[], [], 0, 0, ws⟩ = R) := hide hR.symm
  obtain ⟨i0, hi, hz0, hz1, hz2⟩ := info_parts Tryz.infoI
  have HI := hide hi
  have HZ0 := hide hz0
  have HZ1 := hide hz1
  have HZ2 := hide hz2
  rw [← hL, ← hq]
  clear hi hz0 hz1 hz2 hR hv hb0 hq hL hg1 hg0 hW2s hb3 hA hAlt hLA hB3 hs3 hs hl h hvw hv2 hrow2 HF hB2 hW2 HC0 W2
  go_wp2
  go_loopw [15] (fun i wr => ∃ (k : Nat) (x : Nd) (t : List Wd), k ≤ L ∧ i = .int .i64 k ∧ Hid (NdIn B r q w3 wr x t) ∧ Hid (readB ((partsB kd).drop k) ⟨x.xs, x.sh, x.N, x.P, t⟩ = R) ∧ Hid (x.kd = (kd : Int)) ∧ Hid (x.ni ≤ 1000000 + k)) (fun i _ => L - (intOf i).toNat)
  case atStart => exact ⟨0, ⟨(kd : Int), none, 0, 0, none, 0, 0, 0, 0, [], []⟩, ws, Nat.zero_le _, rfl, HI0, HR0, hide rfl, hide (by simp)⟩
  case round =>
    obtain ⟨k, x, t, hkL, rfl, HN, HRd, HKD, HNI⟩ := hrel
    by_cases hlt : k < L
    · obtain ⟨pt, hpt⟩ : ∃ pt, (partsB kd)[k]? = some pt := ⟨_, List.getElem?_eq_getElem (by rw [← HL.out]; exact hlt)⟩
      have hdrop : (partsB kd).drop k = pt :: (partsB kd).drop (k + 1) := by
        obtain ⟨hk2, e⟩ := List.getElem?_eq_some_iff.1 hpt
        rw [← e]
        exact List.drop_eq_getElem_cons hk2
      have hcell : wr.cell? ⟨A, k, none⟩ = some (strV pt) := by
        obtain ⟨b, o, e, _, hcs⟩ := (HP.out _ _ _ HN.out).cells (by rw [← HL.out]; omega)
        injection e with e
        injection e with e1 e2
        subst e1 e2
        have := hcs k (by rw [← HL.out]; exact hlt)
        rw [Nat.zero_add, List.getElem?_map, hpt] at this
        exact this
      have hstep : (stepR ⟨x.xs, x.sh, x.N, x.P, t⟩ pt).bind (readB ((partsB kd).drop (k + 1))) = R := by
        rw [← HRd.out, hdrop, readB]
      have f0 : (0 : Int) ≤ (k : Int) := by omega
      have f1 : (k : Int) < (L : Int) := by omega
      have HST := hide hstep
      have hb0 := HV0.out _ _ _ HN.out
      have HB0 := hide hb0
      have hnk : x.ni + 1 ≤ 2000000 := by have := HNI.out; omega
      have HNK := hide hnk
      have hcx := HN.out.box.cs
      clear hpt hdrop hstep HRd hb0 hnk
      unfold strV at hcell
      by_cases hA1 : pt = [65]
      · subst hA1
        cases t with
        | nil =>
          have hst : stepR ⟨x.xs, x.sh, x.N, x.P, []⟩ [65] = none := by simp [stepR]
          have c := number_no (w := wr.drew) (HN.out.below (below_drewN (Below.refl _ _) 1)).rd (by rintro y s ⟨⟩) HN.out.sh HV.out hr (below_drewN HB0.out 1)
          go_wp2
          have hS0 : Hid (wr.drew.cell? ⟨q, 1, none⟩ = some (.slice x.I x.ni x.ci)) := hide (hcx.2.1)
          refine wp_region_U (fun b v => b = false → v.cell? ⟨q, 1, none⟩ = some (.slice x.I x.ni x.ci)) 7 (by kernel_rfl) ?_
          refine wpAnyU_take (i := 0) (oi := { dst := some 26, op := _, type := _, pos := _, after := _, guard := none }) (v := .pointer (some ⟨q, 1, none⟩)) rfl (by kernel_rfl) (by kernel_rfl) (by kernel_rfl) (by kernel_rfl) (fun _ _ _ h => h) (yields_take rfl (fun w' hw => by have h1 := hw.no (by kernel_rfl) rfl; go_simp)) (fun _ => hS0.out) ?_
          simp only [Act.put, List.setIfInBounds_toArray, List.set_cons_zero, List.set_cons_succ]
          refine wpAnyU_take (i := 1) (oi := { dst := some 27, op := _, type := _, pos := _, after := _, guard := none }) (v := .slice x.I x.ni x.ci) rfl (by kernel_rfl) (by kernel_rfl) (by kernel_rfl) (by kernel_rfl) (fun _ _ _ h => h) (yields_take rfl (fun w' hw => by have h1 := hw.no (by kernel_rfl) rfl; go_simp)) (fun _ => hS0.out) ?_
          simp only [Act.put, List.setIfInBounds_toArray, List.set_cons_zero, List.set_cons_succ]
          refine wpAnyU_take (i := 2) (oi := { dst := some 28, op := _, type := _, pos := _, after := _, guard := none }) (v := .pointer (some ⟨r, 0, none⟩)) rfl (by kernel_rfl) (by kernel_rfl) (by kernel_rfl) (by kernel_rfl) (fun _ _ _ h => h) (yields_take rfl (fun w' hw => by have h1 := hw.no (by kernel_rfl) rfl; go_simp)) (fun _ => hS0.out) ?_
          simp only [Act.put, List.setIfInBounds_toArray, List.set_cons_zero, List.set_cons_succ]
          refine wpAnyU_one (i := 3) (by kernel_rfl) rfl ?_
          intro K hK
          go_simp
          refine Calls.mono c ?_
          rintro e w' ⟨rfl, hb⟩
          (try dsimp only)
          exact ⟨rfl, .inr ⟨fun rd hrd => (by rw [← HR.out, ← HST.out, hst] at hrd; cases hrd), rfl, (HOUT.out _ _ _ (HN.out.below (below_drewN (Below.refl _ _) 1))).trans hb⟩⟩
        | cons y s =>
          cases hy : numB y with
          | none =>
            have hst : stepR ⟨x.xs, x.sh, x.N, x.P, y :: s⟩ [65] = none := by simp [stepR, hy]
            have c := number_no (w := wr.drew) (HN.out.below (below_drewN (Below.refl _ _) 1)).rd (by rintro y' s' ⟨rfl, rfl⟩; exact hy) HN.out.sh HV.out hr (below_drewN HB0.out 1)
            go_wp2
            have hS0 : Hid (wr.drew.cell? ⟨q, 1, none⟩ = some (.slice x.I x.ni x.ci)) := hide (hcx.2.1)
            refine wp_region_U (fun b v => b = false → v.cell? ⟨q, 1, none⟩ = some (.slice x.I x.ni x.ci)) 7 (by kernel_rfl) ?_
            refine wpAnyU_take (i := 0) (oi := { dst := some 26, op := _, type := _, pos := _, after := _, guard := none }) (v := .pointer (some ⟨q, 1, none⟩)) rfl (by kernel_rfl) (by kernel_rfl) (by kernel_rfl) (by kernel_rfl) (fun _ _ _ h => h) (yields_take rfl (fun w' hw => by have h1 := hw.no (by kernel_rfl) rfl; go_simp)) (fun _ => hS0.out) ?_
            simp only [Act.put, List.setIfInBounds_toArray, List.set_cons_zero, List.set_cons_succ]
            refine wpAnyU_take (i := 1) (oi := { dst := some 27, op := _, type := _, pos := _, after := _, guard := none }) (v := .slice x.I x.ni x.ci) rfl (by kernel_rfl) (by kernel_rfl) (by kernel_rfl) (by kernel_rfl) (fun _ _ _ h => h) (yields_take rfl (fun w' hw => by have h1 := hw.no (by kernel_rfl) rfl; go_simp)) (fun _ => hS0.out) ?_
            simp only [Act.put, List.setIfInBounds_toArray, List.set_cons_zero, List.set_cons_succ]
            refine wpAnyU_take (i := 2) (oi := { dst := some 28, op := _, type := _, pos := _, after := _, guard := none }) (v := .pointer (some ⟨r, 0, none⟩)) rfl (by kernel_rfl) (by kernel_rfl) (by kernel_rfl) (by kernel_rfl) (fun _ _ _ h => h) (yields_take rfl (fun w' hw => by have h1 := hw.no (by kernel_rfl) rfl; go_simp)) (fun _ => hS0.out) ?_
            simp only [Act.put, List.setIfInBounds_toArray, List.set_cons_zero, List.set_cons_succ]
            refine wpAnyU_one (i := 3) (by kernel_rfl) rfl ?_
            intro K hK
            go_simp
            refine Calls.mono c ?_
            rintro e w' ⟨rfl, hb⟩
            (try dsimp only)
            exact ⟨rfl, .inr ⟨fun rd hrd => (by rw [← HR.out, ← HST.out, hst] at hrd; cases hrd), rfl, (HOUT.out _ _ _ (HN.out.below (below_drewN (Below.refl _ _) 1))).trans hb⟩⟩
          | some n =>
            have hst : stepR ⟨x.xs, x.sh, x.N, x.P, y :: s⟩ [65] = some ⟨x.xs ++ [n], x.sh, x.N, x.P, s⟩ := by simp [stepR, hy]
            have c := number_ok (w := wr.drew) (HN.out.below (below_drewN (Below.refl _ _) 1)).rd hy HN.out.sh HV.out hr (below_drewN HB0.out 1)
            go_wp2
            have hS0 : Hid (wr.drew.cell? ⟨q, 1, none⟩ = some (.slice x.I x.ni x.ci)) := hide (hcx.2.1)
            refine wp_region_U (fun b v => b = false → v.cell? ⟨q, 1, none⟩ = some (.slice x.I x.ni x.ci)) 7 (by kernel_rfl) ?_
            refine wpAnyU_take (i := 0) (oi := { dst := some 26, op := _, type := _, pos := _, after := _, guard := none }) (v := .pointer (some ⟨q, 1, none⟩)) rfl (by kernel_rfl) (by kernel_rfl) (by kernel_rfl) (by kernel_rfl) (fun _ _ _ h => h) (yields_take rfl (fun w' hw => by have h1 := hw.no (by kernel_rfl) rfl; go_simp)) (fun _ => hS0.out) ?_
            simp only [Act.put, List.setIfInBounds_toArray, List.set_cons_zero, List.set_cons_succ]
            refine wpAnyU_take (i := 1) (oi := { dst := some 27, op := _, type := _, pos := _, after := _, guard := none }) (v := .slice x.I x.ni x.ci) rfl (by kernel_rfl) (by kernel_rfl) (by kernel_rfl) (by kernel_rfl) (fun _ _ _ h => h) (yields_take rfl (fun w' hw => by have h1 := hw.no (by kernel_rfl) rfl; go_simp)) (fun _ => hS0.out) ?_
            simp only [Act.put, List.setIfInBounds_toArray, List.set_cons_zero, List.set_cons_succ]
            refine wpAnyU_take (i := 2) (oi := { dst := some 28, op := _, type := _, pos := _, after := _, guard := none }) (v := .pointer (some ⟨r, 0, none⟩)) rfl (by kernel_rfl) (by kernel_rfl) (by kernel_rfl) (by kernel_rfl) (fun _ _ _ h => h) (yields_take rfl (fun w' hw => by have h1 := hw.no (by kernel_rfl) rfl; go_simp)) (fun _ => hS0.out) ?_
            simp only [Act.put, List.setIfInBounds_toArray, List.set_cons_zero, List.set_cons_succ]
            refine wpAnyU_one (i := 3) (by kernel_rfl) rfl ?_
            intro K hK
            go_simp
            refine Calls.mono (c) ?_
            rintro e w' ⟨rfl, hRd, hb⟩
            (try dsimp only)
            have HN2 := hide ((HN.out.below (below_drewN (Below.refl _ _) 1)).but hb hRd HN.out.sh.tail (by have := HN.out.le; simp only [List.length_cons] at this; omega))
            clear hb hRd
            (try dsimp only)
            have hS1 : Hid (w'.cell? ⟨q, 1, none⟩ = some (.slice x.I x.ni x.ci)) := hide (HN2.out.box.cs.2.1)
            refine hK.out _ _ (fun _ => hS1.out) (fun _ => ?_)
            clear hK K hS0
            refine wpAnyU_one (i := 4) (by kernel_rfl) rfl ?_
            intro K hK
            go_simp
            have HN3 := hide (HN2.out.below (w' := w'.alloc (.cells #[.int .i64 n] 3)) ((Below.refl _ _).alloc (Nat.le_refl _) _))
            have hSa : Hid ((w'.alloc (.cells #[.int .i64 n] 3)).cell? ⟨q, 1, none⟩ = some (.slice x.I x.ni x.ci)) := hide HN3.out.box.cs.2.1
            refine hK.out _ _ (fun _ => hSa.out) (fun _ => ?_)
            clear hK K
            refine wpAnyU_one (i := 5) (by kernel_rfl) rfl ?_
            intro K hK
            refine step_append_one rfl _ _ 35 rfl 3 i0 (.int .i64 0) 8 Tryz.underlying35 HI.out HZ0.out HZ1.out HZ2.out rfl B x.I x.ni x.ci (x.xs.map (Value.int .i64)) rfl HN3.out.oi HN3.out.big ⟨w'.heap.size, 0, none⟩ (.int .i64 n) rfl (by have h := cells_new w' [.int .i64 n] 3 0 _ rfl; rwa [Addr.add_lit] at h) rfl (by have := HNK.out; omega) (by have := HNK.out; unfold maxLen; omega) ?_
            intro g4 c4 w4 ho4 hm4
            have ho5 : w4.ownsRow B 3 1 (.slice (some ⟨g4, 0, none⟩) (x.ni + 1) c4) (x.ni + 1) ((x.xs ++ [n]).map (Value.int .i64)) := by rw [List.map_append]; exact ho4
            have HN4 := hide (HN3.out.app ho5 hm4 HNK.out)
            have hbel : Below B (w'.alloc (.cells #[.int .i64 n] 3)) w4 := below_moved (Below.refl _ _) HN3.out.big HN3.out.oi hm4
            have hbox4 : BoxN w4 q x := (hbel.block q HN3.out.lq).trans HN3.out.box
            have hSb : Hid (w4.cell? ⟨q, 1, none⟩ = some (.slice x.I x.ni x.ci)) := hide hbox4.cs.2.1
            have hfz := hbox4.frozen 1
            refine hK.out _ _ (fun _ => hSb.out) (fun _ => ?_)
            clear hK K hSa ho4 ho5 hm4 hbel hbox4
            refine wpAnyU_take (i := 6) (oi := { dst := some 32, op := _, type := _, pos := _, after := _, guard := none }) (v := .pointer (some ⟨q, 1, none⟩)) rfl (by kernel_rfl) (by kernel_rfl) (by kernel_rfl) (by kernel_rfl) (fun _ _ _ h => h) (yields_take rfl (fun w' hw => by have h1 := hw.no (by kernel_rfl) rfl; go_simp)) (fun _ => hSb.out) ?_
            simp only [Act.put, List.setIfInBounds_toArray, List.set_cons_zero, List.set_cons_succ]
            have hce := hSb.out
            refine wpAnyU_one (i := 7) (by kernel_rfl) rfl ?_
            intro K hK
            go_simp
            refine hK _ _ (fun h => by cases h) (fun _ => ?_)
            clear hK K
            refine wpAnyU_done (by kernel_rfl) ?_ _
            clear hSb
            go_wp2
            go_roundw
            case rel => exact ⟨k + 1, { x with I := some ⟨g4, 0, none⟩, ni := x.ni + 1, ci := c4, xs := x.xs ++ [n] }, s, by omega, by go_num, HN4, hide (by have := HST.out; rw [hst] at this; exact this), HKD, hide (by have := HNI.out; simp only; omega)⟩
            case measure => simp [intOf]; omega
      by_cases hB1 : pt = [66]
      · subst hB1
        cases t with
        | nil =>
          have hst : stepR ⟨x.xs, x.sh, x.N, x.P, []⟩ [66] = none := by simp [stepR]
          have c := number_no (w := wr.drew) (HN.out.below (below_drewN (Below.refl _ _) 1)).rd (by rintro y s ⟨⟩) HN.out.sh HV.out hr (below_drewN HB0.out 1)
          go_wp2
          have hS0 : Hid (wr.drew.cell? ⟨q, 1, none⟩ = some (.slice x.I x.ni x.ci)) := hide (hcx.2.1)
          refine wp_region_U (fun b v => b = false → v.cell? ⟨q, 1, none⟩ = some (.slice x.I x.ni x.ci)) 7 (by kernel_rfl) ?_
          refine wpAnyU_take (i := 0) (oi := { dst := some 26, op := _, type := _, pos := _, after := _, guard := none }) (v := .pointer (some ⟨q, 1, none⟩)) rfl (by kernel_rfl) (by kernel_rfl) (by kernel_rfl) (by kernel_rfl) (fun _ _ _ h => h) (yields_take rfl (fun w' hw => by have h1 := hw.no (by kernel_rfl) rfl; go_simp)) (fun _ => hS0.out) ?_
          simp only [Act.put, List.setIfInBounds_toArray, List.set_cons_zero, List.set_cons_succ]
          refine wpAnyU_take (i := 1) (oi := { dst := some 27, op := _, type := _, pos := _, after := _, guard := none }) (v := .slice x.I x.ni x.ci) rfl (by kernel_rfl) (by kernel_rfl) (by kernel_rfl) (by kernel_rfl) (fun _ _ _ h => h) (yields_take rfl (fun w' hw => by have h1 := hw.no (by kernel_rfl) rfl; go_simp)) (fun _ => hS0.out) ?_
          simp only [Act.put, List.setIfInBounds_toArray, List.set_cons_zero, List.set_cons_succ]
          refine wpAnyU_take (i := 2) (oi := { dst := some 28, op := _, type := _, pos := _, after := _, guard := none }) (v := .pointer (some ⟨r, 0, none⟩)) rfl (by kernel_rfl) (by kernel_rfl) (by kernel_rfl) (by kernel_rfl) (fun _ _ _ h => h) (yields_take rfl (fun w' hw => by have h1 := hw.no (by kernel_rfl) rfl; go_simp)) (fun _ => hS0.out) ?_
          simp only [Act.put, List.setIfInBounds_toArray, List.set_cons_zero, List.set_cons_succ]
          refine wpAnyU_one (i := 3) (by kernel_rfl) rfl ?_
          intro K hK
          go_simp
          refine Calls.mono c ?_
          rintro e w' ⟨rfl, hb⟩
          (try dsimp only)
          exact ⟨rfl, .inr ⟨fun rd hrd => (by rw [← HR.out, ← HST.out, hst] at hrd; cases hrd), rfl, (HOUT.out _ _ _ (HN.out.below (below_drewN (Below.refl _ _) 1))).trans hb⟩⟩
        | cons y s =>
          cases hy : numB y with
          | none =>
            have hst : stepR ⟨x.xs, x.sh, x.N, x.P, y :: s⟩ [66] = none := by simp [stepR, hy]
            have c := number_no (w := wr.drew) (HN.out.below (below_drewN (Below.refl _ _) 1)).rd (by rintro y' s' ⟨rfl, rfl⟩; exact hy) HN.out.sh HV.out hr (below_drewN HB0.out 1)
            go_wp2
            have hS0 : Hid (wr.drew.cell? ⟨q, 1, none⟩ = some (.slice x.I x.ni x.ci)) := hide (hcx.2.1)
            refine wp_region_U (fun b v => b = false → v.cell? ⟨q, 1, none⟩ = some (.slice x.I x.ni x.ci)) 7 (by kernel_rfl) ?_
            refine wpAnyU_take (i := 0) (oi := { dst := some 26, op := _, type := _, pos := _, after := _, guard := none }) (v := .pointer (some ⟨q, 1, none⟩)) rfl (by kernel_rfl) (by kernel_rfl) (by kernel_rfl) (by kernel_rfl) (fun _ _ _ h => h) (yields_take rfl (fun w' hw => by have h1 := hw.no (by kernel_rfl) rfl; go_simp)) (fun _ => hS0.out) ?_
            simp only [Act.put, List.setIfInBounds_toArray, List.set_cons_zero, List.set_cons_succ]
            refine wpAnyU_take (i := 1) (oi := { dst := some 27, op := _, type := _, pos := _, after := _, guard := none }) (v := .slice x.I x.ni x.ci) rfl (by kernel_rfl) (by kernel_rfl) (by kernel_rfl) (by kernel_rfl) (fun _ _ _ h => h) (yields_take rfl (fun w' hw => by have h1 := hw.no (by kernel_rfl) rfl; go_simp)) (fun _ => hS0.out) ?_
            simp only [Act.put, List.setIfInBounds_toArray, List.set_cons_zero, List.set_cons_succ]
            refine wpAnyU_take (i := 2) (oi := { dst := some 28, op := _, type := _, pos := _, after := _, guard := none }) (v := .pointer (some ⟨r, 0, none⟩)) rfl (by kernel_rfl) (by kernel_rfl) (by kernel_rfl) (by kernel_rfl) (fun _ _ _ h => h) (yields_take rfl (fun w' hw => by have h1 := hw.no (by kernel_rfl) rfl; go_simp)) (fun _ => hS0.out) ?_
            simp only [Act.put, List.setIfInBounds_toArray, List.set_cons_zero, List.set_cons_succ]
            refine wpAnyU_one (i := 3) (by kernel_rfl) rfl ?_
            intro K hK
            go_simp
            refine Calls.mono c ?_
            rintro e w' ⟨rfl, hb⟩
            (try dsimp only)
            exact ⟨rfl, .inr ⟨fun rd hrd => (by rw [← HR.out, ← HST.out, hst] at hrd; cases hrd), rfl, (HOUT.out _ _ _ (HN.out.below (below_drewN (Below.refl _ _) 1))).trans hb⟩⟩
          | some n =>
            have hst : stepR ⟨x.xs, x.sh, x.N, x.P, y :: s⟩ [66] = some ⟨x.xs ++ [n], x.sh, x.N, x.P, s⟩ := by simp [stepR, hy]
            have c := number_ok (w := wr.drew) (HN.out.below (below_drewN (Below.refl _ _) 1)).rd hy HN.out.sh HV.out hr (below_drewN HB0.out 1)
            go_wp2
            have hS0 : Hid (wr.drew.cell? ⟨q, 1, none⟩ = some (.slice x.I x.ni x.ci)) := hide (hcx.2.1)
            refine wp_region_U (fun b v => b = false → v.cell? ⟨q, 1, none⟩ = some (.slice x.I x.ni x.ci)) 7 (by kernel_rfl) ?_
            refine wpAnyU_take (i := 0) (oi := { dst := some 26, op := _, type := _, pos := _, after := _, guard := none }) (v := .pointer (some ⟨q, 1, none⟩)) rfl (by kernel_rfl) (by kernel_rfl) (by kernel_rfl) (by kernel_rfl) (fun _ _ _ h => h) (yields_take rfl (fun w' hw => by have h1 := hw.no (by kernel_rfl) rfl; go_simp)) (fun _ => hS0.out) ?_
            simp only [Act.put, List.setIfInBounds_toArray, List.set_cons_zero, List.set_cons_succ]
            refine wpAnyU_take (i := 1) (oi := { dst := some 27, op := _, type := _, pos := _, after := _, guard := none }) (v := .slice x.I x.ni x.ci) rfl (by kernel_rfl) (by kernel_rfl) (by kernel_rfl) (by kernel_rfl) (fun _ _ _ h => h) (yields_take rfl (fun w' hw => by have h1 := hw.no (by kernel_rfl) rfl; go_simp)) (fun _ => hS0.out) ?_
            simp only [Act.put, List.setIfInBounds_toArray, List.set_cons_zero, List.set_cons_succ]
            refine wpAnyU_take (i := 2) (oi := { dst := some 28, op := _, type := _, pos := _, after := _, guard := none }) (v := .pointer (some ⟨r, 0, none⟩)) rfl (by kernel_rfl) (by kernel_rfl) (by kernel_rfl) (by kernel_rfl) (fun _ _ _ h => h) (yields_take rfl (fun w' hw => by have h1 := hw.no (by kernel_rfl) rfl; go_simp)) (fun _ => hS0.out) ?_
            simp only [Act.put, List.setIfInBounds_toArray, List.set_cons_zero, List.set_cons_succ]
            refine wpAnyU_one (i := 3) (by kernel_rfl) rfl ?_
            intro K hK
            go_simp
            refine Calls.mono (c) ?_
            rintro e w' ⟨rfl, hRd, hb⟩
            (try dsimp only)
            have HN2 := hide ((HN.out.below (below_drewN (Below.refl _ _) 1)).but hb hRd HN.out.sh.tail (by have := HN.out.le; simp only [List.length_cons] at this; omega))
            clear hb hRd
            (try dsimp only)
            have hS1 : Hid (w'.cell? ⟨q, 1, none⟩ = some (.slice x.I x.ni x.ci)) := hide (HN2.out.box.cs.2.1)
            refine hK.out _ _ (fun _ => hS1.out) (fun _ => ?_)
            clear hK K hS0
            refine wpAnyU_one (i := 4) (by kernel_rfl) rfl ?_
            intro K hK
            go_simp
            have HN3 := hide (HN2.out.below (w' := w'.alloc (.cells #[.int .i64 n] 3)) ((Below.refl _ _).alloc (Nat.le_refl _) _))
            have hSa : Hid ((w'.alloc (.cells #[.int .i64 n] 3)).cell? ⟨q, 1, none⟩ = some (.slice x.I x.ni x.ci)) := hide HN3.out.box.cs.2.1
            refine hK.out _ _ (fun _ => hSa.out) (fun _ => ?_)
            clear hK K
            refine wpAnyU_one (i := 5) (by kernel_rfl) rfl ?_
            intro K hK
            refine step_append_one rfl _ _ 35 rfl 3 i0 (.int .i64 0) 8 Tryz.underlying35 HI.out HZ0.out HZ1.out HZ2.out rfl B x.I x.ni x.ci (x.xs.map (Value.int .i64)) rfl HN3.out.oi HN3.out.big ⟨w'.heap.size, 0, none⟩ (.int .i64 n) rfl (by have h := cells_new w' [.int .i64 n] 3 0 _ rfl; rwa [Addr.add_lit] at h) rfl (by have := HNK.out; omega) (by have := HNK.out; unfold maxLen; omega) ?_
            intro g4 c4 w4 ho4 hm4
            have ho5 : w4.ownsRow B 3 1 (.slice (some ⟨g4, 0, none⟩) (x.ni + 1) c4) (x.ni + 1) ((x.xs ++ [n]).map (Value.int .i64)) := by rw [List.map_append]; exact ho4
            have HN4 := hide (HN3.out.app ho5 hm4 HNK.out)
            have hbel : Below B (w'.alloc (.cells #[.int .i64 n] 3)) w4 := below_moved (Below.refl _ _) HN3.out.big HN3.out.oi hm4
            have hbox4 : BoxN w4 q x := (hbel.block q HN3.out.lq).trans HN3.out.box
            have hSb : Hid (w4.cell? ⟨q, 1, none⟩ = some (.slice x.I x.ni x.ci)) := hide hbox4.cs.2.1
            have hfz := hbox4.frozen 1
            refine hK.out _ _ (fun _ => hSb.out) (fun _ => ?_)
            clear hK K hSa ho4 ho5 hm4 hbel hbox4
            refine wpAnyU_take (i := 6) (oi := { dst := some 32, op := _, type := _, pos := _, after := _, guard := none }) (v := .pointer (some ⟨q, 1, none⟩)) rfl (by kernel_rfl) (by kernel_rfl) (by kernel_rfl) (by kernel_rfl) (fun _ _ _ h => h) (yields_take rfl (fun w' hw => by have h1 := hw.no (by kernel_rfl) rfl; go_simp)) (fun _ => hSb.out) ?_
            simp only [Act.put, List.setIfInBounds_toArray, List.set_cons_zero, List.set_cons_succ]
            have hce := hSb.out
            refine wpAnyU_one (i := 7) (by kernel_rfl) rfl ?_
            intro K hK
            go_simp
            refine hK _ _ (fun h => by cases h) (fun _ => ?_)
            clear hK K
            refine wpAnyU_done (by kernel_rfl) ?_ _
            clear hSb
            go_wp2
            go_roundw
            case rel => exact ⟨k + 1, { x with I := some ⟨g4, 0, none⟩, ni := x.ni + 1, ci := c4, xs := x.xs ++ [n] }, s, by omega, by go_num, HN4, hide (by have := HST.out; rw [hst] at this; exact this), HKD, hide (by have := HNI.out; simp only; omega)⟩
            case measure => simp [intOf]; omega
      by_cases hAS : pt = [65, 46, 46]
      · subst hAS
        have c := numbers_any r t w0 wr HN.out.rd HN.out.sh HV.out hr HB0.out HN.out.le
        by_cases hnil : numsB t = []
        · have hst : stepR ⟨x.xs, x.sh, x.N, x.P, t⟩ [65, 46, 46] = none := by simp [stepR, hnil]
          have c1 := nums_no c hnil
          clear c
          go_wp2_with (go_at_call 115; refine c1.mono ?_; rintro e w' ⟨rfl, hb⟩)
          exact ⟨rfl, .inr ⟨fun rd hrd => (by rw [← HR.out, ← HST.out, hst] at hrd; cases hrd), rfl, (HOUT.out _ _ _ HN.out).trans hb⟩⟩
        · have hst : stepR ⟨x.xs, x.sh, x.N, x.P, t⟩ [65, 46, 46] = some ⟨numsB t, x.sh, x.N, x.P, t.drop (numsB t).length⟩ := by simp [stepR, hnil]
          have c1 := nums_ok c hnil
          clear c
          go_wp2_with (go_at_call 115; refine c1.mono ?_; rintro e w' ⟨A1, c1x, rfl, ho, hRd, hb⟩; have HN1 := hide (HN.out.but hb hRd (HN.out.sh.drop _) (by rw [List.length_drop]; have := HN.out.le; omega)); have HN2 := hide (HN.out.setI hb hRd (HN.out.sh.drop _) (by rw [List.length_drop]; have := HN.out.le; omega) ho (by have := nums_le t; have := HN.out.le; omega)); have hce := (HN1.out.box.cs).2.1; have hfz := HN1.out.box.frozen 1; clear hb hRd ho)
          go_roundw
          case rel => exact ⟨k + 1, { x with I := A1, ni := (numsB t).length, ci := c1x, xs := numsB t }, (t.drop (numsB t).length), by omega, by go_num, HN2, hide (by have := HST.out; rw [hst] at this; exact this), HKD, hide (by simp only; have := nums_le t; have := HN.out.le; omega)⟩
          case measure => simp [intOf]; omega
      by_cases hSS : pt = [83]
      · subst hSS
        have c := numbers_any r t w0 wr HN.out.rd HN.out.sh HV.out hr HB0.out HN.out.le
        by_cases hnil : numsB t = []
        · have hst : stepR ⟨x.xs, x.sh, x.N, x.P, t⟩ [83] = none := by simp [stepR, hnil]
          have c1 := nums_no c hnil
          clear c
          go_wp2_with (go_at_call 115; refine c1.mono ?_; rintro e w' ⟨rfl, hb⟩)
          exact ⟨rfl, .inr ⟨fun rd hrd => (by rw [← HR.out, ← HST.out, hst] at hrd; cases hrd), rfl, (HOUT.out _ _ _ HN.out).trans hb⟩⟩
        · have hst : stepR ⟨x.xs, x.sh, x.N, x.P, t⟩ [83] = some ⟨x.xs, numsB t, x.N, x.P, t.drop (numsB t).length⟩ := by simp [stepR, hnil]
          have c1 := nums_ok c hnil
          clear c
          go_wp2_with (go_at_call 115; refine c1.mono ?_; rintro e w' ⟨A1, c1x, rfl, ho, hRd, hb⟩; have HN1 := hide (HN.out.but hb hRd (HN.out.sh.drop _) (by rw [List.length_drop]; have := HN.out.le; omega)); have HN2 := hide (HN.out.setS hb hRd (HN.out.sh.drop _) (by rw [List.length_drop]; have := HN.out.le; omega) ho (by have := nums_le t; have := HN.out.le; omega)); have hce := (HN1.out.box.cs).2.2.1; have hfz := HN1.out.box.frozen 2; clear hb hRd ho)
          go_roundw
          case rel => exact ⟨k + 1, { x with S := A1, ns := (numsB t).length, cs := c1x, sh := numsB t }, (t.drop (numsB t).length), by omega, by go_num, HN2, hide (by have := HST.out; rw [hst] at this; exact this), HKD, hide (by have := HNI.out; simp only; omega)⟩
          case measure => simp [intOf]; omega
      by_cases hNN : pt = [78]
      · subst hNN
        cases t with
        | nil =>
          have hst : stepR ⟨x.xs, x.sh, x.N, x.P, []⟩ [78] = none := by simp [stepR]
          have c := number_no HN.out.rd (by rintro y s ⟨⟩) HN.out.sh HV.out hr HB0.out
          go_wp2_with (go_at_call 114; refine c.mono ?_; rintro e w' ⟨rfl, hb⟩)
          exact ⟨rfl, .inr ⟨fun rd hrd => (by rw [← HR.out, ← HST.out, hst] at hrd; cases hrd), rfl, (HOUT.out _ _ _ HN.out).trans hb⟩⟩
        | cons y s =>
          cases hy : numB y with
          | none =>
            have hst : stepR ⟨x.xs, x.sh, x.N, x.P, y :: s⟩ [78] = none := by simp [stepR, hy]
            have c := number_no HN.out.rd (by rintro y' s' ⟨rfl, rfl⟩; exact hy) HN.out.sh HV.out hr HB0.out
            go_wp2_with (go_at_call 114; refine c.mono ?_; rintro e w' ⟨rfl, hb⟩)
            exact ⟨rfl, .inr ⟨fun rd hrd => (by rw [← HR.out, ← HST.out, hst] at hrd; cases hrd), rfl, (HOUT.out _ _ _ HN.out).trans hb⟩⟩
          | some n =>
            have hst : stepR ⟨x.xs, x.sh, x.N, x.P, y :: s⟩ [78] = some ⟨x.xs, x.sh, n, x.P, s⟩ := by simp [stepR, hy]
            have hnb := num_bounds hy
            have c := number_ok HN.out.rd hy HN.out.sh HV.out hr HB0.out
            go_wp2_with (go_at_call 114; refine c.mono ?_; rintro e w' ⟨rfl, hRd, hb⟩; have HN2 := hide (HN.out.but hb hRd HN.out.sh.tail (by have := HN.out.le; simp only [List.length_cons] at this; omega)); have hce := (HN2.out.box.cs).2.2.2.1; have hfz := HN2.out.box.frozen 3; clear hb hRd)
            go_roundw
            case rel => exact ⟨k + 1, { x with N := n }, s, by omega, by go_num, hide (HN2.out.setN n hnb), hide (by have := HST.out; rw [hst] at this; exact this), HKD, hide (by have := HNI.out; simp only; omega)⟩
            case measure => simp [intOf]; omega
      by_cases hPP : pt = [80]
      · subst hPP
        cases t with
        | nil =>
          have hst : stepR ⟨x.xs, x.sh, x.N, x.P, []⟩ [80] = none := by simp [stepR]
          have c := number_no HN.out.rd (by rintro y s ⟨⟩) HN.out.sh HV.out hr HB0.out
          go_wp2_with (go_at_call 114; refine c.mono ?_; rintro e w' ⟨rfl, hb⟩)
          exact ⟨rfl, .inr ⟨fun rd hrd => (by rw [← HR.out, ← HST.out, hst] at hrd; cases hrd), rfl, (HOUT.out _ _ _ HN.out).trans hb⟩⟩
        | cons y s =>
          cases hy : numB y with
          | none =>
            have hst : stepR ⟨x.xs, x.sh, x.N, x.P, y :: s⟩ [80] = none := by simp [stepR, hy]
            have c := number_no HN.out.rd (by rintro y' s' ⟨rfl, rfl⟩; exact hy) HN.out.sh HV.out hr HB0.out
            go_wp2_with (go_at_call 114; refine c.mono ?_; rintro e w' ⟨rfl, hb⟩)
            exact ⟨rfl, .inr ⟨fun rd hrd => (by rw [← HR.out, ← HST.out, hst] at hrd; cases hrd), rfl, (HOUT.out _ _ _ HN.out).trans hb⟩⟩
          | some n =>
            have hst : stepR ⟨x.xs, x.sh, x.N, x.P, y :: s⟩ [80] = some ⟨x.xs, x.sh, x.N, n, s⟩ := by simp [stepR, hy]
            have hnb := num_bounds hy
            have c := number_ok HN.out.rd hy HN.out.sh HV.out hr HB0.out
            go_wp2_with (go_at_call 114; refine c.mono ?_; rintro e w' ⟨rfl, hRd, hb⟩; have HN2 := hide (HN.out.but hb hRd HN.out.sh.tail (by have := HN.out.le; simp only [List.length_cons] at this; omega)); have hce := (HN2.out.box.cs).2.2.2.2; have hfz := HN2.out.box.frozen 4; clear hb hRd)
            go_roundw
            case rel => exact ⟨k + 1, { x with P := n }, s, by omega, by go_num, hide (HN2.out.setP n hnb), hide (by have := HST.out; rw [hst] at this; exact this), HKD, hide (by have := HNI.out; simp only; omega)⟩
            case measure => simp [intOf]; omega
      have n1 : (pt == [65]) = false := by simpa using hA1
      have n2 : (pt == [66]) = false := by simpa using hB1
      have n3 : (pt == [65, 46, 46]) = false := by simpa using hAS
      have n4 : (pt == [83]) = false := by simpa using hSS
      have n5 : (pt == [78]) = false := by simpa using hNN
      have n6 : (pt == [80]) = false := by simpa using hPP
      have c := word_any r pt t wr HN.out.rd
      unfold strV at c
      by_cases hw : t.head? = some pt
      · obtain ⟨s, rfl⟩ : ∃ s, t = pt :: s := by
          cases t with
          | nil => cases hw
          | cons y s => injection hw with hw; subst hw; exact ⟨s, rfl⟩
        have hst : stepR ⟨x.xs, x.sh, x.N, x.P, pt :: s⟩ pt = some ⟨x.xs, x.sh, x.N, x.P, s⟩ := by simp [stepR, hA1, hB1, hAS, hSS, hNN, hPP]
        have c1 := word_ok c
        clear c
        go_wp2_with (go_at_call 116; refine c1.mono ?_; rintro e w' ⟨rfl, hRd, hb⟩; have HN2 := hide (HN.out.but hb hRd HN.out.sh.tail (by have := HN.out.le; simp only [List.length_cons] at this; omega)); clear hb hRd)
        go_roundw
        case rel => exact ⟨k + 1, x, s, by omega, by go_num, HN2, hide (by have := HST.out; rw [hst] at this; exact this), HKD, hide (by have := HNI.out; omega)⟩
        case measure => simp [intOf]; omega
      · have hst : stepR ⟨x.xs, x.sh, x.N, x.P, t⟩ pt = none := by
          rw [stepR, if_neg (by simp [hA1, hB1]), if_neg hAS, if_neg hSS, if_neg hNN, if_neg hPP]
          cases t with
          | nil => rfl
          | cons y s =>
            simp only
            rw [if_neg (fun e => hw (by rw [e]; rfl))]
        have c1 := word_no c hw
        clear c
        go_wp2_with (go_at_call 116; refine c1.mono ?_; rintro e w' ⟨rfl, hb⟩)
        exact ⟨rfl, .inr ⟨fun rd hrd => (by rw [← HR.out, ← HST.out, hst] at hrd; cases hrd), rfl, (HOUT.out _ _ _ HN.out).trans hb⟩⟩
    · obtain rfl : k = L := by omega
      have hRd := HRd.out
      have hdr : (partsB kd).drop k = [] := List.drop_eq_nil_of_le (by rw [HL.out]; exact Nat.le_refl _)
      rw [hdr, readB] at hRd
      have HRD := hide hRd
      clear hRd hdr HRd
      cases t with
      | cons y s =>
        have c := end_some r y s wr HN.out.rd
        unfold upX at c
        go_wp2_with (go_at_call 117; refine c.mono ?_; rintro e w' ⟨rfl, rfl⟩)
        exact ⟨rfl, .inr ⟨fun rd hrd => (by rw [← HR.out, ← HRD.out] at hrd; injection hrd with hrd; subst hrd; simp), rfl, HOUT.out _ _ _ HN.out⟩⟩
      | nil =>
        have c := end_none r wr HN.out.rd
        have hcx := HN.out.box.cs
        have hg0 : wr.heap[w.heap.size]? = some (.cells #[.int .u8 0, .slice none 0 0, .slice none 0 0, .int .i64 0, .int .i64 0] 44 (0, 0)) := (HN.out.kp.block _ (by have := HN.out.lq; omega) (by omega) (by omega)).trans HG0.out
        have z0 := cell_of_row wr _ 0 _ _ (0, 0) hg0
        have z1 := cell_of_row wr _ 1 _ _ (0, 0) hg0
        have z2 := cell_of_row wr _ 2 _ _ (0, 0) hg0
        have z3 := cell_of_row wr _ 3 _ _ (0, 0) hg0
        have z4 := cell_of_row wr _ 4 _ _ (0, 0) hg0
        have zf := fun i => frozen_of_row wr w.heap.size i _ _ hg0
        have zf0 := zf 0
        have zf1 := zf 1
        have zf2 := zf 2
        have zf3 := zf 3
        have zf4 := zf 4
        have HG := hide hg0
        clear zf hg0
        go_wp2_with (go_at_call 117; refine c.mono ?_; rintro e w' ⟨rfl, rfl⟩)
        obtain ⟨W5, hW5⟩ : ∃ W, W = (((((w'.setCell ⟨w.heap.size, 0, none⟩ (.int .u8 x.kd)).setCell ⟨w.heap.size, 1, none⟩ (.slice x.I x.ni x.ci)).setCell ⟨w.heap.size, 2, none⟩ (.slice x.S x.ns x.cs)).setCell ⟨w.heap.size, 3, none⟩ (.int .i64 x.N)).setCell ⟨w.heap.size, 4, none⟩ (.int .i64 x.P)) := ⟨_, rfl⟩
        have hb5 : BoxN W5 w.heap.size x := by
          have e0 := heap_setCell_same w' w.heap.size 0 _ _ (.int .u8 x.kd) HG.out
          have e1 := heap_setCell_same _ w.heap.size 1 _ _ (.slice x.I x.ni x.ci) e0
          have e2 := heap_setCell_same _ w.heap.size 2 _ _ (.slice x.S x.ns x.cs) e1
          have e3 := heap_setCell_same _ w.heap.size 3 _ _ (.int .i64 x.N) e2
          have e4 := heap_setCell_same _ w.heap.size 4 _ _ (.int .i64 x.P) e3
          rw [hW5]
          simpa [BoxN] using e4
        have hq0 : w.heap.size < B := by have := HN.out.lq; omega
        have ho1 : W5.ownsRow B 3 1 (.slice x.I x.ni x.ci) x.ni (x.xs.map (Value.int .i64)) := by rw [hW5]; exact own_set5 HN.out.oi hq0 _ _ _ _ _
        have ho2 : W5.ownsRow B 3 1 (.slice x.S x.ns x.cs) x.ns (x.sh.map (Value.int .i64)) := by rw [hW5]; exact own_set5 HN.out.os hq0 _ _ _ _ _
        have hbel : Below w.heap.size w' W5 := by rw [hW5]; exact below_set5 w' w.heap.size _ _ _ _ _
        have hbut := (HOUT.out _ _ _ HN.out).on hbel
        have HNN := hide HN.out.dj
        have hnl := HN.out.nl
        have hsl := HN.out.sl
        have hokb := And.intro HN.out.kd (And.intro HN.out.nb HN.out.pb)
        rw [← hW5]
        clear hW5 hcx z0 z1 z2 z3 z4 zf0 zf1 zf2 zf3 zf4 HG c HN hbel
        obtain ⟨d0, d1, d2, d3, d4⟩ := hb5.cs
        refine ⟨rfl, x.v, ?_, ?_⟩
        · have hres : Tryz.f79.results = #[.cell 4 44] := rfl
          simp [results, hres, go_sem, Nd.v, d0, d1, d2, d3, d4]
        · exact .inl ⟨_, x, by rw [← HR.out, ← HRD.out], rfl, HKD.out, rfl, rfl, rfl, rfl, rfl, ⟨lies_of_own ho1, lies_of_own ho2, own_le ho1, own_le ho2, by omega, by omega, hokb.1, hokb.2⟩, own_base ho1 (by omega), own_base ho2 (by omega), HNN.out, hbut⟩
  

end

section
open Go.RowKit
set_option linter.unusedVariables false
set_option linter.unusedSimpArgs false
set_option maxRecDepth 100000

/-- The first word of a row. -/
def firstB (k : Nat) : Wd := (partsB k).headD []

/-- The first n entries of the map of kinds. -/
def kdEs (n : Nat) : Array MapEntry := ((List.range n).map (fun (i : Nat) => (⟨strV (firstB i), .int .u8 (i : Int), i⟩ : MapEntry))).toArray

theorem kdEs_succ (n : Nat) : kdEs (n + 1) = (kdEs n).push ⟨strV (firstB n), .int .u8 (n : Int), n⟩ := by
  simp [kdEs, List.range_succ]

theorem kdKeys (n : Nat) : ∀ x ∈ (kdEs n).toList, MapKept.IsKey .string x.key := by
  intro x hx
  simp only [kdEs, List.mem_map, List.mem_range] at hx
  obtain ⟨i, _, rfl⟩ := hx
  trivial

theorem first_inj : ∀ n, n < 14 → ∀ i, i < n → firstB i ≠ firstB n := by decide

theorem first_cut : ∀ n, n < 14 → (Lib.cut (rowB n) [32]).1 = firstB n := by decide +kernel

theorem cut_any (k : Nat) (hk : k < 14) (w : World) (hv : LaidV w) : Calls Tryz.prog 75 #[strV (rowB k), .string ⟨#[32]⟩] w fun e w' => ∃ u b, e = .returned (.tuple #[strV (firstB k), .string u, .bool b]) ∧ Below w.heap.size w w' := by
  obtain ⟨m, hm⟩ := hv.maxl
  have hd : (⟨(rowB k).toArray⟩ : ByteArray).data.toList = rowB k := by simp
  have h32 : (⟨#[32]⟩ : ByteArray).data.toList = [32] := rfl
  have hsz : (⟨(rowB k).toArray⟩ : ByteArray).size < 4294967281 := by
    have : ∀ k, k < 14 → (rowB k).length < 100 := by decide
    have := this k hk
    simp only [ByteArray.size, List.size_toArray]
    omega
  have c := Tryz.strings_Cut ⟨(rowB k).toArray⟩ ⟨#[32]⟩ m w hsz hm
  rw [hd, h32, first_cut k hk] at c
  refine c.mono ?_
  rintro e w' ⟨he, n, rfl⟩
  exact ⟨_, _, he, below_drewN (Below.refl _ _) n⟩

/-- The map while it is filled. -/
def KdAt (w0 w : World) (q n : Nat) : Prop := w.heap[q]? = some (.map (kdEs n) n) ∧ Below q w0 w

theorem KdAt.below {w0 w w' : World} {q n : Nat} (h : KdAt w0 w q n) (hb : Below w.heap.size w w') : KdAt w0 w' q n :=
  ⟨(hb.block q (lt_of_heap h.1)).trans h.1, h.2.trans (hb.mono (Nat.le_of_lt (lt_of_heap h.1)))⟩

theorem KdAt.ins {w0 w : World} {q n : Nat} (h : KdAt w0 w q n) (hn : n < 14) : ∃ w', (Instr.mapUpdate 99 (.map (some q)) (strV (firstB n)) (.int .u8 (n : Int))).run Tryz.prog w = .ok () w' ∧ KdAt w0 w' q (n + 1) := by
  obtain ⟨hm, hb⟩ := h
  have hkey : MapKept.IsKey .string (strV (firstB n)) := trivial
  have ht : Tryz.prog.underlying 99 = some (.map 9 42) := Tryz.underlying99
  have hk : Tryz.prog.underlying 9 = some .string := Tryz.underlying9
  have hfn : Instr.findNow .string (strV (firstB n)) (kdEs n).toList 0 = some none := by
    rcases MapKept.findNow_spec hkey (kdEs n).toList 0 (kdKeys n) with ⟨h, _⟩ | ⟨j, e, _, h5, h6⟩
    · exact h
    · exfalso
      have hmem := List.mem_of_getElem? h5
      simp only [kdEs, List.mem_map, List.mem_range] at hmem
      obtain ⟨i, hi, rfl⟩ := hmem
      exact first_inj n hn i hi (strV_inj h6)
  have hlt : q < w.heap.size := (Array.getElem?_eq_some_iff.1 hm).1
  refine ⟨{ w with heap := w.heap.setIfInBounds q (.map (kdEs (n + 1)) (n + 1)) }, ?_, (MapKept.heap_set hm).1, ?_⟩
  · simp [Instr.mapUpdate, run_underlying ht, MapKept.run_getObj_map hm, MapKept.run_checkKey hk hkey, MapKept.run_findKey hk hfn, MapKept.run_setObj_map _ hm, Result.andThen, kdEs_succ]
  · exact ⟨hb.os, hb.tape, hb.output, by simpa using hb.size, fun k hk => ((MapKept.heap_set hm).2 k (by omega)).trans (hb.block k hk)⟩

theorem upon_insK {w0 w : World} {q n : Nat} {o : Oper} {a : Act} {next : Act → World → Prop} {Q : Exit → Act → World → Prop} {f : Unit → World → Result Next} {k : Int} {x : Value} (h : KdAt w0 w q n) (hn : n < 14) (hx : x = strV (firstB n)) (hk : k = (n : Int))
    (hK : ∀ w', KdAt w0 w' q (n + 1) → Oper.upon Tryz.prog o a next Q (f () w')) :
    Oper.upon Tryz.prog o a next Q (((Instr.mapUpdate 99 (.map (some q)) x (.int .u8 k)).run Tryz.prog w).andThen f) := by
  subst hk hx
  obtain ⟨w', hr, hm⟩ := h.ins hn
  rw [hr]
  exact hK w' hm

theorem kind_first (x : Wd) (h : kindB x ≠ 0) : x = firstB (kindB x) := by
  by_cases h1 : x = [105, 110, 112, 117, 116]
  · subst h1; rfl
  by_cases h2 : x = [119, 101, 105, 103, 104, 116]
  · subst h2; rfl
  by_cases h3 : x = [97, 100, 100]
  · subst h3; rfl
  by_cases h4 : x = [109, 117, 108]
  · subst h4; rfl
  by_cases h5 : x = [114, 101, 108, 117]
  · subst h5; rfl
  by_cases h6 : x = [115, 104, 105, 102, 116]
  · subst h6; rfl
  by_cases h7 : x = [112, 114, 111, 100, 117, 99, 116]
  · subst h7; rfl
  by_cases h8 : x = [119, 105, 110, 100, 111, 119]
  · subst h8; rfl
  by_cases h9 : x = [112, 111, 111, 108]
  · subst h9; rfl
  by_cases h10 : x = [115, 104, 97, 112, 101]
  · subst h10; rfl
  by_cases h11 : x = [116, 117, 114, 110]
  · subst h11; rfl
  by_cases h12 : x = [106, 111, 105, 110]
  · subst h12; rfl
  by_cases h13 : x = [115, 117, 109]
  · subst h13; rfl
  exact absurd (by simp [kindB, h1, h2, h3, h4, h5, h6, h7, h8, h9, h10, h11, h12, h13]) h

theorem idx_any (T : Array Value) (n : Nat) (hn : n < 14) (v : Value) (hv : T[n]? = some v) (w : World) : (Instr.index 134 (.agg T) (.int .i64 (n : Int))).run Tryz.prog w = .ok v w := by
  have ht := Tryz.underlying134
  have f0 : (0 : Int) ≤ (n : Int) := by omega
  have f1 : (n : Int) < 14 := by omega
  simp [Instr.index, run_underlying ht, asIntOf, Result.andThen, f0, f1, hn, hv, go_sem]

theorem kind_of_first : ∀ j, j < 14 → kindB (firstB j) = j := by decide

theorem kd_lookup {w : World} {b : Nat} (hb : w.heap[b]? = some (.map (kdEs 14) 14)) (x : Wd) : (Instr.lookup 99 (.map (some b)) (strV x) false).run Tryz.prog w = .ok (.int .u8 (kindB x : Int)) w := by
  have hkey : MapKept.IsKey .string (strV x) := trivial
  have ht : Tryz.prog.underlying 99 = some (.map 9 42) := Tryz.underlying99
  have hk : Tryz.prog.underlying 9 = some .string := Tryz.underlying9
  rcases MapKept.findNow_spec hkey (kdEs 14).toList 0 (kdKeys 14) with ⟨h, hno⟩ | ⟨j, e, h, h5, h6⟩
  · have h0 : kindB x = 0 := Classical.byContradiction fun hne => by
      have he := kind_first x hne
      have hlt := kind_lt x
      refine hno ⟨strV (firstB (kindB x)), .int .u8 (kindB x : Int), kindB x⟩ ?_ (by simp only; rw [← he])
      simp only [kdEs, List.mem_map, List.mem_range]
      exact ⟨kindB x, hlt, rfl⟩
    rw [h0]
    simp [Instr.lookup, run_underlying ht, MapKept.run_getObj_map hb, MapKept.run_checkKey hk hkey, MapKept.run_findKey hk h, Result.andThen]
  · have hmem := List.mem_of_getElem? h5
    simp only [kdEs, List.mem_map, List.mem_range] at hmem
    obtain ⟨i, hi, rfl⟩ := hmem
    have hx := strV_inj h6
    have hkx : kindB x = i := by rw [← hx]; exact kind_of_first i hi
    rw [hkx]
    simp [Instr.lookup, run_underlying ht, MapKept.run_getObj_map hb, MapKept.run_checkKey hk hkey, MapKept.run_findKey hk h, Result.andThen]

set_option maxHeartbeats 8000000 in
theorem kinds_any (w : World) (hv : LaidV w) : Calls Tryz.prog 45 #[] w fun e w' => ∃ b, e = .returned (.map (some b)) ∧ w.heap.size ≤ b ∧ b < w'.heap.size ∧ w'.heap[b]? = some (.map (kdEs 14) 14) ∧ Below w.heap.size w w' := by
  have hmm := @run_makeMap Tryz.prog
  obtain ⟨W1, hW1⟩ : ∃ W1, W1 = w.alloc (.map #[] 0) := ⟨_, rfl⟩
  have hB1 : Below w.heap.size w W1 := by rw [hW1]; exact (Below.refl _ _).alloc (Nat.le_refl _) _
  have hv1 := hv.below hB1
  have HM0 : Hid (W1.heap[w.heap.size]? = some (.map (kdEs 0) 0)) := hide (by rw [hW1]; exact heap_alloc_new w _)
  have hW1' := hW1.symm
  clear hW1
  have HB1 := hide hB1
  have HS1 : Hid (W1.heap.size ≥ 12) := hide hv1.big
  have r0 := hv1.rows 0 (by omega)
  have r1 := hv1.rows 1 (by omega)
  have r2 := hv1.rows 2 (by omega)
  have r3 := hv1.rows 3 (by omega)
  have r4 := hv1.rows 4 (by omega)
  have r5 := hv1.rows 5 (by omega)
  have r6 := hv1.rows 6 (by omega)
  have r7 := hv1.rows 7 (by omega)
  have r8 := hv1.rows 8 (by omega)
  have r9 := hv1.rows 9 (by omega)
  have r10 := hv1.rows 10 (by omega)
  have r11 := hv1.rows 11 (by omega)
  have r12 := hv1.rows 12 (by omega)
  have r13 := hv1.rows 13 (by omega)
  have HV := hide hv
  clear hv hv1 hB1
  generalize hS : strV = sv at r0 r1 r2 r3 r4 r5 r6 r7 r8 r9 r10 r11 r12 r13
  generalize hR : rowB = rb at r0 r1 r2 r3 r4 r5 r6 r7 r8 r9 r10 r11 r12 r13
  have HS := hide hS
  have HR := hide hR
  clear hS hR
  go_enter Tryz.func45, Tryz.ntmps45
  go_wp2
  obtain ⟨T, hT⟩ : ∃ T : Array Value, T = #[sv (rb 0), sv (rb 1), sv (rb 2), sv (rb 3), sv (rb 4), sv (rb 5), sv (rb 6), sv (rb 7), sv (rb 8), sv (rb 9), sv (rb 10), sv (rb 11), sv (rb 12), sv (rb 13)] := ⟨_, rfl⟩
  have HT : Hid (T.size = 14 ∧ ∀ n, n < 14 → T[n]? = some (strV (rowB n))) := hide (by
    rw [HS.out, HR.out, hT]
    refine ⟨rfl, fun n hn => ?_⟩
    have hcs : n = 0 ∨ n = 1 ∨ n = 2 ∨ n = 3 ∨ n = 4 ∨ n = 5 ∨ n = 6 ∨ n = 7 ∨ n = 8 ∨ n = 9 ∨ n = 10 ∨ n = 11 ∨ n = 12 ∨ n = 13 := by omega
    rcases hcs with rfl | rfl | rfl | rfl | rfl | rfl | rfl | rfl | rfl | rfl | rfl | rfl | rfl | rfl <;> rfl)
  rw [← hT]
  obtain ⟨q, hq⟩ : ∃ q, q = w.heap.size := ⟨_, rfl⟩
  rw [← hq]
  have HK0 : Hid (KdAt w W1 q 0) := hide ⟨by rw [hq]; exact HM0.out, by rw [hq]; exact HB1.out⟩
  have HQ := hide hq
  clear r0 r1 r2 r3 r4 r5 r6 r7 r8 r9 r10 r11 r12 r13 hT hq HM0 HB1 hW1' hmm
  go_loopw [9] (fun i wr => ∃ (n : Nat), n ≤ 14 ∧ i = .int .i64 n ∧ Hid (KdAt w wr q n)) (fun i _ => 14 - (intOf i).toNat)
  case atStart => exact ⟨0, by omega, rfl, HK0⟩
  case round =>
    obtain ⟨n, hn, rfl, HK⟩ := hrel
    by_cases hlt : n < 14
    · have hix := HT.out.2 n hlt
      have hsz := HT.out.1
      have f0 : (0 : Int) ≤ (n : Int) := by omega
      have f1 : (n : Int) < 14 := by omega
      have hidx := idx_any T n hlt _ hix
      have hu8 : IntKind.u8.wrap (n : Int) = (n : Int) := by rw [IntKind.wrap_u8]; omega
      have HC := hide (cut_any n hlt wr (HV.out.below (by rw [← HQ.out]; exact HK.out.2)))
      clear hix hsz
      obtain ⟨sr, hsr⟩ : ∃ sr, sr = strV (rowB n) := ⟨_, rfl⟩
      obtain ⟨sf, hsf⟩ : ∃ sf, sf = strV (firstB n) := ⟨_, rfl⟩
      rw [← hsr] at hidx HC
      rw [← hsf] at HC
      have HSF := hide hsf
      clear hsr hsf
      go_wp2_with (go_at_call 75; refine HC.out.mono ?_; rintro e w2 ⟨u, b, rfl, hb2⟩; have HK2 := hide (HK.out.below hb2))
      refine upon_insK HK2.out hlt HSF.out rfl ?_
      intro w3 hK3
      go_wp2
      go_roundw
      case rel => exact ⟨n + 1, by omega, by go_num, hide hK3⟩
      case measure => simp [intOf]; omega
    · obtain rfl : n = 14 := by omega
      go_wp2
      go_ret
      have hK := HK.out
      exact ⟨q, rfl, by rw [HQ.out]; exact Nat.le_refl _, lt_of_heap hK.1, hK.1, by rw [← HQ.out]; exact hK.2⟩

end

end Go.Proofs.YtohndckbhjakfaaGreatDoor
