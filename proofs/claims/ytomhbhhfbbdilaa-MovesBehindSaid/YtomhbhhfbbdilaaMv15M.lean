/- Contract of joined: the shape of what is joined. -/
import Derived.Test.YtomhbhhfbbdilaaMv14M
namespace Go.Proofs.Ytomhbhhfbbdilaa
open Go.RowKit
set_option linter.unusedVariables false
set_option linter.unusedSimpArgs false
set_option maxRecDepth 100000

/-- How long the j-th tensor is along a direction. -/
def sz9 (ts : List Tn) (a j : Nat) : Int := match ts[j]? with
  | some t => t.s.getD a 0
  | none => 0

/-- How long the first k ones are together. -/
def sumSz (ts : List Tn) (a : Nat) : Nat → Int
  | 0 => 0
  | k + 1 => sumSz ts a k + sz9 ts a k

theorem sz9_at {ts : List Tn} {a j : Nat} {t : Tn} (h : ts[j]? = some t) : sz9 ts a j = t.s.getD a 0 := by rw [sz9, h]

theorem sumSz_le {ts : List Tn} {a : Nat} (h : ∀ j, 0 ≤ sz9 ts a j ∧ sz9 ts a j ≤ 64) : ∀ k, 0 ≤ sumSz ts a k ∧ sumSz ts a k ≤ 64 * (k : Int)
  | 0 => by simp [sumSz]
  | k + 1 => by
    have := sumSz_le h k
    have := h k
    rw [sumSz]
    omega

set_option maxHeartbeats 4000000 in
theorem joined_ok (g q a : Nat) (ts : List Tn) (t0 : Tn) (w : World) (hl : ts.length = q) (hq : 1 ≤ q ∧ q ≤ 4) (ht0 : ts[0]? = some t0) (hS : LsAt w g ts q) (hT : ∀ (j : Nat) (t : Tn), ts[j]? = some t → t.Ok w) (hok : tsOk ts = true) (hal : alikes9 ts t0.s a = true) (ha : a < t0.n) :
    Calls Try.prog 56 #[.slice (some ⟨g, 0, none⟩) q q, .int .i64 (a : Int)] w fun e w' => ∃ g' c', e = .returned (.slice (some ⟨g', 0, none⟩) t0.n c') ∧ w'.ownsRow w.heap.size 3 1 (.slice (some ⟨g', 0, none⟩) t0.n c') t0.n ((t0.s.set a (sumSz ts a q)).map (Value.int .i64)) ∧ Below w.heap.size w w' := by
  have h00 := hT 0 t0 ht0
  have hn0 : t0.s.length = t0.n := lies_len9 h00.1
  have hk0 : tenOk t0.s t0.m = true := List.all_eq_true.1 hok t0 (List.mem_of_getElem? ht0)
  obtain ⟨hz1, hz4, _⟩ := sizeI_pos (tenOk_iff.1 hk0).1
  rw [hn0] at hz1 hz4
  have HALL : Hid (∀ (j : Nat) (t : Tn), ts[j]? = some t → t.n = t0.n ∧ 1 ≤ t.s.getD a 0 ∧ t.s.getD a 0 ≤ 64) := hide (fun j t ht => by
    have h1 := hT j t ht
    have h2 := lies_len9 h1.1
    have h3 := (alike9_iff.1 (List.all_eq_true.1 hal t (List.mem_of_getElem? ht))).1
    have h4 := List.all_eq_true.1 hok t (List.mem_of_getElem? ht)
    have h5 := (size_dims (tenOk_iff.1 h4).1).at (k := a) (by omega)
    exact ⟨by omega, h5.1, h5.2.1⟩)
  have HSZ : Hid (∀ k, 0 ≤ sumSz ts a k ∧ sumSz ts a k ≤ 64 * (k : Int)) := hide (sumSz_le (fun j => by
    unfold sz9
    split
    · rename_i t h; have := HALL.out j t h; omega
    · omega))
  have HL := hide hl
  have HT := hide hT
  have HS := hide hS
  have HT0 := hide ht0
  have HN0 := hide hn0
  obtain ⟨gs0, b0, _, _⟩ := HS.out.cells (j := 0) (by omega) ht0
  rw [Nat.zero_mul] at b0
  have h2 : (0 : Int) < (q : Int) := by omega
  have hq0 : ¬ q = 0 := by omega
  have hgl := hS.lt
  have HC1 := hide h00.1
  clear hl hT hS ht0 hok hal h00 hn0 hk0
  go_enter Try.func56, Try.ntmps56
  go_wp2_with fail
  refine Calls.mono (clone_ints t0.A t0.n t0.c t0.s w HC1.out (by omega) (by omega)) ?_
  rintro e w1 ⟨gd, cd, rfl, hod, hb1⟩
  have HB1 := hide hb1
  have HOD : Hid (w1.ownsRow w.heap.size 3 1 (.slice (some ⟨gd, 0, none⟩) t0.n cd) t0.n ((t0.s.set a (sumSz ts a 1)).map (Value.int .i64))) := hide (by
    have e : t0.s.set a (sumSz ts a 1) = t0.s := by
      rw [sumSz, sumSz, sz9_at HT0.out, Int.zero_add, List.getD_eq_getElem?_getD, List.getElem?_eq_getElem (by rw [HN0.out]; exact ha), Option.getD_some]
      exact List.set_getElem_self _
    rw [e]; exact hod)
  have hgd := (hod.lt gd rfl).1
  have HGD : Hid (w.heap.size ≤ gd) := hide hgd
  clear hb1 hod b0 hgd
  obtain ⟨r, hr⟩ : ∃ z, z = q - 1 := ⟨_, rfl⟩
  have hr' : q - 1 = r := hr.symm
  have hr1 : (1 : Int) ≤ (q : Int) := by omega
  have hq1 : 1 ≤ q := by omega
  have HQR : Hid (q = r + 1) := hide (by omega)
  have hr4 : r ≤ 4 := by omega
  obtain ⟨U, hU⟩ : ∃ z : Option Addr, z = (if q = 1 then some ⟨g, 0, none⟩ else some ⟨g, 2, none⟩) := ⟨_, rfl⟩
  have HU : Hid (1 ≤ r → U = some ⟨g, 2, none⟩) := hide (fun h => by rw [hU, if_neg (by omega)])
  have hU' := hU.symm
  clear hU hr
  go_wp2
  go_loopw [17] (fun i wr => ∃ k : Nat, k ≤ r ∧ i = .int .i64 (k : Int) ∧ Hid (wr.ownsRow w.heap.size 3 1 (.slice (some ⟨gd, 0, none⟩) t0.n cd) t0.n ((t0.s.set a (sumSz ts a (k + 1))).map (Value.int .i64))) ∧ Hid (Below w.heap.size w wr)) (fun i _ => r - (intOf i).toNat)
  case atStart => exact ⟨0, Nat.zero_le _, rfl, HOD, HB1⟩
  case round =>
    clear HOD HB1 hU' hr'
    obtain ⟨k, hk, rfl, HO, HB⟩ := hrel
    by_cases hlt : k < r
    · have hUU := HU.out (by omega)
      subst hUU
      have hkq : k + 1 < ts.length := by have := HL.out; have := HQR.out; omega
      obtain ⟨t, ht⟩ : ∃ t, ts[k + 1]? = some t := ⟨ts[k + 1], List.getElem?_eq_getElem hkq⟩
      obtain ⟨gs, y0, y1, _⟩ := (HS.out.below HB.out).cells (j := k + 1) (by have := HQR.out; omega) ht
      rw [show (k + 1) * 2 = 2 + k * 2 by omega] at y0 y1
      have h0 : (0 : Int) ≤ (k : Int) := by omega
      have h1 : (k : Int) < (r : Int) := by omega
      obtain ⟨hn, hs1, hs64⟩ := HALL.out (k + 1) t ht
      have HLT := hide (HT.out (k + 1) t ht).1
      obtain ⟨V, hV⟩ : ∃ W, W = wr.alloc (.cells #[.slice t.A t.n t.c, .slice (some ⟨gs, 0, none⟩) t.n t.n] 87) := ⟨_, rfl⟩
      have hbV : Below wr.heap.size wr V := by rw [hV]; exact below_al6 (Below.refl _ _)
      have HBV : Hid (Below w.heap.size w V) := hide (HB.out.trans (hbV.mono HB.out.size))
      have HXV : Hid (BoxL V wr.heap.size (.slice t.A t.n t.c) (.slice (some ⟨gs, 0, none⟩) t.n t.n)) := hide (by rw [hV]; exact BoxL.new wr _ _)
      have HOV := hide (own_below HO.out hbV)
      obtain ⟨tb, to, htA, _, xA⟩ := byte_at (HLT.out.below HBV.out) (by omega)
      rw [htA] at HXV y0 hV HLT
      obtain ⟨x, hx⟩ : ∃ z, z = sumSz ts a (k + 1) := ⟨_, rfl⟩
      obtain ⟨y, hy⟩ : ∃ z, z = t.s.getD a 0 := ⟨_, rfl⟩
      obtain ⟨z, hz⟩ : ∃ z, z = x + y := ⟨_, rfl⟩
      have hxb := HSZ.out (k + 1)
      have hk3 : k + 1 ≤ 4 := by have := HQR.out; omega
      rw [← hx] at hxb
      rw [← hy] at hs1 hs64
      have HV2 : Hid (sumSz ts a (k + 1 + 1) = z) := hide (by rw [sumSz, sz9_at ht, ← hx, ← hy, hz])
      have m1 : IntKind.i64.wrap (x + y) = z := by rw [hz, IntKind.wrap_i64]; have := hxb.2; omega
      have hlen : (t0.s.set a x).length = t0.n := by rw [List.length_set, HN0.out]
      have HGX : Hid (∀ v, Below V.heap.size V v → v.cell? ⟨gd, a, none⟩ = some (.int .i64 x) ∧ v.frozen? ⟨gd, a, none⟩ = false) := hide (fun v hv => by
        obtain ⟨p1, p2⟩ := own_cells9 (own_below HOV.out hv) ha
        refine ⟨?_, p2⟩
        rw [p1, ← hx, List.getD_eq_getElem?_getD, List.getElem?_set_self (by rw [HN0.out]; exact ha), Option.getD_some])
      have HF : Hid (∀ v, Below V.heap.size V v → v.cell? ⟨gd, a, none⟩ = some (.int .i64 x) ∧ v.cell? ⟨wr.heap.size, 0, none⟩ = some (.slice (some ⟨tb, to, none⟩) t.n t.c) ∧ v.cell? ⟨tb, to + a, none⟩ = some (.int .i64 y)) := hide (fun v hv => by
        obtain ⟨_, _, e1, _, x1⟩ := byte_at (HLT.out.below (HBV.out.trans (hv.mono HBV.out.size))) (by omega)
        cases e1
        exact ⟨(HGX.out v hv).1, (HXV.out.kept hv).c0, by rw [hy]; exact x1 a (by omega)⟩)
      have ha0 : (0 : Int) ≤ (a : Int) := by omega
      have ha1 : (a : Int) < (t0.n : Int) := by omega
      have ha2 : (a : Int) < (t.n : Int) := by omega
      have hV' := hV.symm
      have hd0 : Below V.heap.size V V.drew := below_drewN (Below.refl _ _) 1
      clear hV hbV ht hx hy hz hxb hlen xA htA hkq hn
      go_wp2
      clear y0 y1
      have hS0 : Hid (V.drew.cell? ⟨gd, a, none⟩ = some (.int .i64 x) ∧ V.drew.cell? ⟨wr.heap.size, 0, none⟩ = some (.slice (some ⟨tb, to, none⟩) t.n t.c) ∧ V.drew.cell? ⟨tb, to + a, none⟩ = some (.int .i64 y)) := hide (HF.out _ hd0)
      refine wp_region_U (fun b v => b = false → v.cell? ⟨gd, a, none⟩ = some (.int .i64 x) ∧ v.cell? ⟨wr.heap.size, 0, none⟩ = some (.slice (some ⟨tb, to, none⟩) t.n t.c) ∧ v.cell? ⟨tb, to + a, none⟩ = some (.int .i64 y)) 12 (by kernel_rfl) ?_
      refine wpAnyU_take (i := 0) (oi := { dst := some 21, op := _, type := _, pos := _, after := _, guard := none }) (v := .slice (some ⟨gd, 0, none⟩) t0.n cd) rfl (by kernel_rfl) (by kernel_rfl) (by kernel_rfl) (by kernel_rfl) (fun _ _ _ h => h) (yields_take rfl (fun w' hw => by obtain ⟨h1, h2, h3⟩ := hw.no (by kernel_rfl) rfl; go_simp)) (fun _ => hS0.out) ?_
      simp only [Act.put, List.setIfInBounds_toArray, List.set_cons_zero, List.set_cons_succ]
      refine wpAnyU_take (i := 1) (oi := { dst := some 22, op := _, type := _, pos := _, after := _, guard := none }) (v := .int .i64 (a : Int)) rfl (by kernel_rfl) (by kernel_rfl) (by kernel_rfl) (by kernel_rfl) (fun _ _ _ h => h) (yields_take rfl (fun w' hw => by obtain ⟨h1, h2, h3⟩ := hw.no (by kernel_rfl) rfl; go_simp)) (fun _ => hS0.out) ?_
      simp only [Act.put, List.setIfInBounds_toArray, List.set_cons_zero, List.set_cons_succ]
      refine wpAnyU_take (i := 2) (oi := { dst := some 23, op := _, type := _, pos := _, after := _, guard := none }) (v := .pointer (some ⟨gd, a, none⟩)) rfl (by kernel_rfl) (by kernel_rfl) (by kernel_rfl) (by kernel_rfl) (fun _ _ _ h => h) (yields_take rfl (fun w' hw => by obtain ⟨h1, h2, h3⟩ := hw.no (by kernel_rfl) rfl; go_simp)) (fun _ => hS0.out) ?_
      simp only [Act.put, List.setIfInBounds_toArray, List.set_cons_zero, List.set_cons_succ]
      refine wpAnyU_take (i := 3) (oi := { dst := some 24, op := _, type := _, pos := _, after := _, guard := none }) (v := .int .i64 x) rfl (by kernel_rfl) (by kernel_rfl) (by kernel_rfl) (by kernel_rfl) (fun _ _ _ h => h) (yields_take rfl (fun w' hw => by obtain ⟨h1, h2, h3⟩ := hw.no (by kernel_rfl) rfl; go_simp)) (fun _ => hS0.out) ?_
      simp only [Act.put, List.setIfInBounds_toArray, List.set_cons_zero, List.set_cons_succ]
      refine wpAnyU_take (i := 4) (oi := { dst := some 25, op := _, type := _, pos := _, after := _, guard := none }) (v := .pointer (some ⟨wr.heap.size, 0, none⟩)) rfl (by kernel_rfl) (by kernel_rfl) (by kernel_rfl) (by kernel_rfl) (fun _ _ _ h => h) (yields_take rfl (fun w' hw => by obtain ⟨h1, h2, h3⟩ := hw.no (by kernel_rfl) rfl; go_simp)) (fun _ => hS0.out) ?_
      simp only [Act.put, List.setIfInBounds_toArray, List.set_cons_zero, List.set_cons_succ]
      refine wpAnyU_take (i := 5) (oi := { dst := some 26, op := _, type := _, pos := _, after := _, guard := none }) (v := .pointer (some ⟨wr.heap.size, 0, none⟩)) rfl (by kernel_rfl) (by kernel_rfl) (by kernel_rfl) (by kernel_rfl) (fun _ _ _ h => h) (yields_take rfl (fun w' hw => by obtain ⟨h1, h2, h3⟩ := hw.no (by kernel_rfl) rfl; go_simp)) (fun _ => hS0.out) ?_
      simp only [Act.put, List.setIfInBounds_toArray, List.set_cons_zero, List.set_cons_succ]
      refine wpAnyU_take (i := 6) (oi := { dst := some 27, op := _, type := _, pos := _, after := _, guard := none }) (v := .slice (some ⟨tb, to, none⟩) t.n t.c) rfl (by kernel_rfl) (by kernel_rfl) (by kernel_rfl) (by kernel_rfl) (fun _ _ _ h => h) (yields_take rfl (fun w' hw => by obtain ⟨h1, h2, h3⟩ := hw.no (by kernel_rfl) rfl; go_simp)) (fun _ => hS0.out) ?_
      simp only [Act.put, List.setIfInBounds_toArray, List.set_cons_zero, List.set_cons_succ]
      refine wpAnyU_take (i := 7) (oi := { dst := some 28, op := _, type := _, pos := _, after := _, guard := none }) (v := .int .i64 (a : Int)) rfl (by kernel_rfl) (by kernel_rfl) (by kernel_rfl) (by kernel_rfl) (fun _ _ _ h => h) (yields_take rfl (fun w' hw => by obtain ⟨h1, h2, h3⟩ := hw.no (by kernel_rfl) rfl; go_simp)) (fun _ => hS0.out) ?_
      simp only [Act.put, List.setIfInBounds_toArray, List.set_cons_zero, List.set_cons_succ]
      refine wpAnyU_take (i := 8) (oi := { dst := some 29, op := _, type := _, pos := _, after := _, guard := none }) (v := .pointer (some ⟨tb, to + a, none⟩)) rfl (by kernel_rfl) (by kernel_rfl) (by kernel_rfl) (by kernel_rfl) (fun _ _ _ h => h) (yields_take rfl (fun w' hw => by obtain ⟨h1, h2, h3⟩ := hw.no (by kernel_rfl) rfl; go_simp)) (fun _ => hS0.out) ?_
      simp only [Act.put, List.setIfInBounds_toArray, List.set_cons_zero, List.set_cons_succ]
      refine wpAnyU_take (i := 9) (oi := { dst := some 30, op := _, type := _, pos := _, after := _, guard := none }) (v := .int .i64 y) rfl (by kernel_rfl) (by kernel_rfl) (by kernel_rfl) (by kernel_rfl) (fun _ _ _ h => h) (yields_take rfl (fun w' hw => by obtain ⟨h1, h2, h3⟩ := hw.no (by kernel_rfl) rfl; go_simp)) (fun _ => hS0.out) ?_
      simp only [Act.put, List.setIfInBounds_toArray, List.set_cons_zero, List.set_cons_succ]
      refine wpAnyU_take (i := 10) (oi := { dst := some 31, op := _, type := _, pos := _, after := _, guard := none }) (v := .int .i64 z) rfl (by kernel_rfl) (by kernel_rfl) (by kernel_rfl) (by kernel_rfl) (fun _ _ _ h => h) (yields_take rfl (fun w' hw => by obtain ⟨h1, h2, h3⟩ := hw.no (by kernel_rfl) rfl; go_simp)) (fun _ => hS0.out) ?_
      simp only [Act.put, List.setIfInBounds_toArray, List.set_cons_zero, List.set_cons_succ]
      refine wpAnyU_take (i := 11) (oi := { dst := some 32, op := _, type := _, pos := _, after := _, guard := none }) (v := .pointer (some ⟨gd, a, none⟩)) rfl (by kernel_rfl) (by kernel_rfl) (by kernel_rfl) (by kernel_rfl) (fun _ _ _ h => h) (yields_take rfl (fun w' hw => by obtain ⟨h1, h2, h3⟩ := hw.no (by kernel_rfl) rfl; go_simp)) (fun _ => hS0.out) ?_
      simp only [Act.put, List.setIfInBounds_toArray, List.set_cons_zero, List.set_cons_succ]
      obtain ⟨hgx, hfx⟩ := HGX.out _ hd0
      refine wpAnyU_one (i := 12) (by kernel_rfl) rfl ?_
      intro K hK
      go_simp
      refine hK _ _ (fun h => by cases h) (fun _ => ?_)
      clear hK K
      refine wpAnyU_done (by kernel_rfl) ?_ _
      clear hS0
      have HO2 : Hid ((V.drew.setCell ⟨gd, a, none⟩ (.int .i64 z)).ownsRow w.heap.size 3 1 (.slice (some ⟨gd, 0, none⟩) t0.n cd) t0.n ((t0.s.set a (sumSz ts a (k + 1 + 1))).map (Value.int .i64))) := hide (by
        have h := own_set9 (v := .int .i64 z) (own_below HOV.out hd0) ha
        rw [← List.map_set, List.set_set] at h
        rw [HV2.out]; exact h)
      have HB2 : Hid (Below w.heap.size w (V.drew.setCell ⟨gd, a, none⟩ (.int .i64 z))) := hide ((HBV.out.trans (hd0.mono HBV.out.size)).setCell (by dsimp only; exact HGD.out) _)
      clear hgx hfx hd0
      go_wp2
      go_roundw
      case rel => exact ⟨k + 1, by omega, by go_num, HO2, HB2⟩
      case measure => simp [intOf]; omega
    · obtain rfl : r = k := by omega
      have h5 : ¬ ((r : Int) < (r : Int)) := by omega
      have HO3 : Hid (wr.ownsRow w.heap.size 3 1 (.slice (some ⟨gd, 0, none⟩) t0.n cd) t0.n ((t0.s.set a (sumSz ts a q)).map (Value.int .i64))) := hide (by rw [HQR.out]; exact HO.out)
      go_wp2
      go_ret
      exact ⟨gd, cd, rfl, by have h := HO3.out; rw [List.map_set] at h; exact h, HB.out⟩

end Go.Proofs.Ytomhbhhfbbdilaa
