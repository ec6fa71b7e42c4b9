/- Contract of Put of package tensors: the bytes of a tensor, gone through by a range over a method value. -/
import Derived.Test.YtaoobdnbjagpnaaGreatDoorTen5
import Derived.Test.YtaoobdnbjagpnaaGreatDoorRange
import Derived.RangeFuncBound
import Derived.Shelf.RegionOpen
namespace Go.Proofs.YtaoobdnbjagpnaaGreatDoor
open Go.RowKit Go.Shelf
set_option linter.unusedVariables false
set_option linter.unusedSimpArgs false
set_option maxRecDepth 20000
attribute [local go_sem] Oper.semAt_some

/-- The bytes of a tensor. -/
def tenB (s l : List Int) : List Int := (s.length : Int) :: s ++ enc l
theorem four_wrap (z : Int) : four (IntKind.u32.wrap z) = four z := by
  unfold four
  rw [IntKind.wrap_u32]
  congr 1
  · omega
  · congr 1
    · omega
    · congr 1
      · omega
      · congr 1
        omega

theorem own_setCell {w : World} {base : Nat} {e : TypeId} {g n c : Nat} {xs : List Value} (h : w.ownsRow base e 1 (.slice (some ⟨g, 0, none⟩) n c) n xs) {p : Nat} (hp : p ≠ g) (v : Value) : (w.setCell ⟨p, 0, none⟩ v).ownsRow base e 1 (.slice (some ⟨g, 0, none⟩) n c) n xs :=
  h.kept (row := some p) (grownBy_setCell' w p v) (by right; intro e; cases e; exact hp rfl)
theorem own_not {w : World} {base : Nat} {e t : TypeId} {g n c p : Nat} {xs : List Value} {v : Value} (h : w.ownsRow base e 1 (.slice (some ⟨g, 0, none⟩) n c) n xs) (hb : Box1 w p t v) (hne : t ≠ e) : p ≠ g := by
  obtain ⟨cur, hg, _⟩ := own_heap h
  intro e'
  subst e'
  have hb' : w.heap[p]? = some (.cells #[v] t (0, 0)) := hb
  rw [hg] at hb'
  cases hb'
  exact hne rfl
theorem own_put {w : World} {base : Nat} {e : TypeId} {g n c : Nat} {xs : List Value} (h : w.ownsRow base e 1 (.slice (some ⟨g, 0, none⟩) n c) n xs) {B : Nat} {W' : World} {row : Option Nat} (hg : w.grownBy W' row) (hr : ∀ r, row = some r → B ≤ r ∧ ∃ o : Obj, w.heap[r]? = some o ∧ o.isCells = false) : W'.ownsRow base e 1 (.slice (some ⟨g, 0, none⟩) n c) n xs := by
  obtain ⟨cur, hh, _⟩ := own_heap h
  refine h.kept hg ?_
  right
  intro e'
  obtain ⟨_, o, ho, hc⟩ := hr g e'.symm
  rw [hh] at ho
  cases ho
  cases hc

/-- What holds between two rounds of Put's loop. -/
def putI (w : World) (n : Nat) (s l : List Int) (p : Nat) (k : Nat) (W : World) : Prop :=
  (∃ g c', Box1 W p 56 (.slice (some ⟨g, 0, none⟩) (n + 1 + 4 * k) c') ∧ W.ownsRow w.heap.size 5 1 (.slice (some ⟨g, 0, none⟩) (n + 1 + 4 * k) c') (n + 1 + 4 * k) (((n : Int) :: s ++ enc (l.take k)).map (Value.int .u8))) ∧ Below w.heap.size w W
theorem own_some {w : World} {base : Nat} {e : TypeId} {A : Option Addr} {n c : Nat} {xs : List Value} (h : w.ownsRow base e 1 (.slice A n c) n xs) (hn : 0 < n) : ∃ g, A = some ⟨g, 0, none⟩ := by
  rcases h.2 with ⟨_, h0⟩ | ⟨g', cap, cur, h0, _⟩
  · omega
  · cases h0; exact ⟨g', rfl⟩

set_option maxHeartbeats 1000000 in
theorem tput_ok (A B : Option Addr) (n c m d : Nat) (s l : List Int) (w : World) (hA : Lies w A n (s.map (Value.int .i64))) (hB : Lies w B m (l.map (Value.int .i32))) (hok : tenOk s m = true) :
    Calls Tryz.prog 21 #[tenV A n c B m d] w fun e w' => ∃ g c', e = .returned (.tuple #[.slice (some ⟨g, 0, none⟩) (n + 1 + 4 * m) c', .int .i64 0]) ∧ w'.ownsRow w.heap.size 5 1 (.slice (some ⟨g, 0, none⟩) (n + 1 + 4 * m) c') (n + 1 + 4 * m) ((tenB s l).map (Value.int .u8)) ∧ Below w.heap.size w w' := by
  obtain ⟨q1, q2⟩ := tenOk_iff.1 hok
  have hsl : s.length = n := by have := hA.len; simpa using this
  have hsz := sizeI_pos q1
  have hm4 := sizeI_le s
  have HD := hide (size_dims q1)
  rw [hsl] at hsz
  obtain ⟨hn1, hn4, _⟩ := hsz
  have hmm : m ≤ 4096 := by omega
  obtain ⟨i0, hi, hz0, hz1, hz2⟩ := info_parts Tryz.infoB
  have HI := hide hi
  have HZ0 := hide hz0
  have HZ1 := hide hz1
  have HZ2 := hide hz2
  clear hi hz0 hz1 hz2
  have HA := hide hA
  have HB := hide hB
  have HOK := hide hok
  have HL : Hid (l.length = m) := hide (by have := hB.len; simpa using this)
  have HSL := hide hsl
  clear hA hB hok q1 q2 hsl hm4
  refine (callsIn_wide (n := 5)).1 ?_
  refine callsIn_of_wp_marks Tryz.func21 rfl trivial ?_ rfl
  simp only [Tryz.ntmps21, List.size_toArray, List.length_cons, List.length_nil, Nat.reduceAdd, Nat.reduceSub, Array.replicate_succ, Array.replicate_zero, List.push_toArray, List.append_toArray, List.nil_append, List.cons_append]
  refine wpIn_wide.2 ?_
  go_wp2_with fail
  refine Calls.mono (tcheck_any A B n c m d s _ (HA.out.alloc _) (by omega)) ?_
  rintro e w1 ⟨rfl, hb⟩
  rw [HOK.out]
  have HX := hide ((BoxT.new w (.slice A n c) (.slice B m d)).kept hb)
  have HB1 := hide (((Below.refl w.heap.size w).alloc (Nat.le_refl _) (.cells #[.slice A n c, .slice B m d] 25)).trans (hb.mono (by simp)))
  clear hb
  have hc0 := HX.out.c0
  have hltX := HX.out.lt
  go_wp2_with fail
  refine Calls.mono (putShape_any A n c s w1 (HA.out.below HB1.out) HD.out (by omega)) ?_
  rintro e w2 ⟨g2, c2, rfl, ho, hb⟩
  have HO := hide ho
  have hc1 := (HX.out.kept hb).c1
  have HX2 := hide (HX.out.kept hb)
  have HB2 := hide (HB1.out.trans (hb.mono HB1.out.size))
  have hs2 := HB2.out.size
  have hs12 := hb.size
  clear ho hb hc0 hc1
  have hc1 := (HX2.out.alloc (.cells #[.slice (some ⟨g2, 0, none⟩) (n + 1) c2] 56)).c1
  go_wp2_with fail
  have hmc : (4 : Int) * (m : Int) = ((4 * m : Nat) : Int) := by omega
  have HBX := hide (Box1.new w2 (.slice (some ⟨g2, 0, none⟩) (n + 1) c2) 56)
  refine Calls.mono (grow_any g2 (n + 1) c2 (4 * m) w1.heap.size _ _ (HO.out.alloc _) (by simp; omega) (by omega) (by omega)) ?_
  rintro e w3 ⟨g3, c3, rfl, ho3, hg3⟩
  have lt2 := HO.out.lt g2 rfl
  have HX3 : Hid (Box1 w3 w2.heap.size 56 (.slice (some ⟨g2, 0, none⟩) (n + 1) c2)) := hide ((hg3.block w2.heap.size HBX.out.lt (by intro e; cases e; omega)).trans HBX.out)
  have HXT : Hid (BoxT w3 w.heap.size (.slice A n c) (.slice B m d)) := hide ((hg3.block w.heap.size (by simp; omega) (by intro e; cases e; omega)).trans (HX2.out.alloc (.cells #[.slice (some ⟨g2, 0, none⟩) (n + 1) c2] 56)))
  have HB3 : Hid (Below w.heap.size w w3) := hide ((HB2.out.alloc (by omega) _).grown hg3 (by simp; omega) (fun b hb => by cases hb; omega))
  have hs3 := hg3.size
  have hne3 := own_not ho3 HX3.out (by decide)
  have HO3 := hide ho3
  clear ho3 hg3 hmc
  have hcb := HX3.out.cell
  have hfb := HX3.out.frozen
  obtain ⟨W0, hW0⟩ : ∃ W0, W0 = w3.setCell ⟨w2.heap.size, 0, none⟩ (.slice (some ⟨g3, 0, none⟩) (n + 1) c3) := ⟨_, rfl⟩
  have HBX0 : Hid (Box1 W0 w2.heap.size 56 (.slice (some ⟨g3, 0, none⟩) (n + 1) c3)) := hide (by rw [hW0]; exact HX3.out.set _)
  have HT0 : Hid (BoxT W0 w.heap.size (.slice A n c) (.slice B m d)) := hide (by rw [hW0]; exact (Below.heap_setCell w3 _ _ _ (by simp; omega)).trans HXT.out)
  have HO0 : Hid (W0.ownsRow w.heap.size 5 1 (.slice (some ⟨g3, 0, none⟩) (n + 1) c3) (n + 1) (((n : Int) :: s).map (Value.int .u8))) := hide (by rw [hW0]; exact own_base (own_setCell HO3.out hne3 _) (by omega))
  have HB0 : Hid (Below w.heap.size w W0) := hide (by rw [hW0]; exact HB3.out.setCell (by simp; omega) _)
  have hsW : w3.heap.size = W0.heap.size := by rw [hW0]; simp
  have hW0' := hW0.symm
  clear hW0 HO3 HB3 hc1
  have hc1 := HT0.out.c1
  go_wp2_with fail
  have hsz0 := HB0.out.size
  refine (wpIn_wide (n := 5)).1 ?_
  refine range_numbers 5 m d B (by omega) (by omega) rfl rfl
    (putI w n s l w2.heap.size)
    (fun _ _ => False)
    (OwnFrom.and (fun k X Y row hk hg hr => by obtain ⟨g, c', h1, h2⟩ := hk; exact ⟨g, c', heap_own hg hr h1 rfl, own_put h2 hg hr⟩) (ownFrom_below (Nat.le_refl _) hsz0))
    (fun _ _ _ _ hs _ _ => hs)
    ⟨⟨g3, c3, HBX0.out, by simpa [enc] using HO0.out⟩, HB0.out⟩
    (fun k W hk hI => by
      obtain ⟨b, o, e, _, hx⟩ := byte_at (HB.out.below hI.2) (by omega)
      exact ⟨_, b, o, e, hx k hk⟩)
    (fun k z => { tmps := #[tenV A n c B m d, .pointer (some ⟨w.heap.size, 0, none⟩), .slice none 0 0, .int .i64 0, .pointer (some ⟨w2.heap.size, 0, none⟩), undef, .int .i32 z, .agg #[.slice A n c, .slice B m d], .bool true, .bool false,
      .pointer (some ⟨w.heap.size, 0, none⟩), .slice A n c, .slice (some ⟨g2, 0, none⟩) (n + 1) c2, .slice (some ⟨g2, 0, none⟩) (n + 1) c2, .pointer (some ⟨w.heap.size, 1, none⟩), .slice B m d, .int .i64 (m : Int), .int .i64 (4 * (m : Int)), .slice (some ⟨g3, 0, none⟩) (n + 1) c3,
      .pointer (some ⟨w.heap.size, 1, none⟩), .slice B m d, .func (.func 40) #[.slice B m d] #[], .int .i64 (k : Int), .int .i32 z, undef, undef, undef, undef, undef, undef], defers := [] }) ?assign ?body ?done ?stop
  case assign =>
    intro l k z W K hK
    gi_wp2
    exact hK
  case body =>
    rintro q k z W hk ⟨⟨g, c', hbx, hrow⟩, hb⟩ ⟨b, o, rfl, hc⟩
    have hcb := hbx.cell
    have hfb := hbx.frozen
    have hmx : Tryz.prog.follows .mixedOrders = true := by kernel_rfl
    have HP : Hid (Calls Tryz.prog 95 #[.slice none 0 0, .int .u32 (IntKind.u32.wrap z)] W.drew fun e w4 => e = .returned (.slice (some ⟨W.heap.size, 0, none⟩) 4 4) ∧ w4.ownsRow W.heap.size 5 1 (.slice (some ⟨W.heap.size, 0, none⟩) 4 4) 4 ((four z).map (Value.int .u8)) ∧ Below W.heap.size W w4) := hide (by
      refine (put4 none 0 0 (IntKind.u32.wrap z) [] W.drew Lies.nothing (by intro u hu; cases hu) (by omega)).mono ?_
      rintro e w4 ⟨rfl, h1, h2⟩
      refine ⟨rfl, ?_, (below_drewN (Below.refl _ W) 1).trans h2⟩
      have e1 : encV [IntKind.u32.wrap z] = (four z).map (Value.int .u8) := by simp [encV, enc, four_wrap]
      rw [e1] at h1
      exact h1)
    have HRk := hide hrow
    have HBk := hide hb
    have HBXk := hide hbx
    have HENC : Hid (((n : Int) :: s ++ enc (l.take k)) ++ four z = (n : Int) :: s ++ enc (l.take (k + 1))) := hide (by
      obtain ⟨b1, o1, e1, _, hx⟩ := byte_at (HB.out.below hb) (by omega)
      cases e1
      have hz : z = l.getD k 0 := by
        have := (hx k hk).symm.trans hc
        injection this with this
        injection this with _ this
        exact this.symm
      have hkl : k < l.length := by rw [HL.out]; exact hk
      have e1 : l.getD k 0 = l[k] := by simp [List.getD, hkl]
      rw [hz, e1, List.take_succ_eq_append_getElem hkl, enc, enc, List.flatMap_append, List.flatMap_cons, List.flatMap_nil, List.append_nil, List.append_assoc])
    clear hrow hb hbx hc
    gi_wp2
    refine wpIn_region_any hmx ?_
    change wpAnyIn _ _ _ _ _ _ _ _ _ (World.drew _)
    refine wpAnyIn_ready (rs := [0, 1]) (by kernel_rfl) (by simp) ?_
    refine AllReadyIn.cons rfl (fun K hK => ?_) (AllReadyIn.cons rfl (fun K hK => ?_) AllReadyIn.nil)
    · go_simp
      refine hK _ _ ?_
      clear hK K
      refine wpAnyIn_ready (rs := [1]) (by kernel_rfl) (by simp) ?_
      refine AllReadyIn.cons rfl (fun K hK => ?_) AllReadyIn.nil
      go_simp
      refine hK _ _ ?_
      clear hK K
      refine wpAnyIn_ready (rs := [2]) (by kernel_rfl) (by simp) ?_
      refine AllReadyIn.cons rfl (fun K hK => ?_) AllReadyIn.nil
      go_simp
      refine hK _ _ ?_
      clear hK K
      refine wpAnyIn_ready (rs := [3]) (by kernel_rfl) (by simp) ?_
      refine AllReadyIn.cons rfl (fun K hK => ?_) AllReadyIn.nil
      go_simp
      refine ⟨trivial, ?_⟩
      refine (CallsIn.inRound _ (callsIn_wide.2 HP.out)).mono ?_
      rintro e w4 ⟨rfl, ho4, hb4⟩
      have hcb4 : w4.cell? ⟨w2.heap.size, 0, none⟩ = some (.slice (some ⟨g, 0, none⟩) (n + 1 + 4 * k) c') := (hb4.cell (p := ⟨w2.heap.size, 0, none⟩) HBXk.out.lt).trans HBXk.out.cell
      have HO4 := hide ho4
      have HB4 := hide hb4
      clear ho4 hb4
      refine hK _ _ ?_
      clear hK K
      refine wpAnyIn_ready (rs := [4]) (by kernel_rfl) (by simp) ?_
      refine AllReadyIn.cons rfl (fun K hK => ?_) AllReadyIn.nil
      refine stepIn_append_ints (fun _ => trivial) rfl (.tmp 24) (.tmp 27) 56 rfl 5 i0 (.int .u8 0) 1 Tryz.underlying56 HI.out HZ0.out HZ1.out HZ2.out rfl w.heap.size (some ⟨g, 0, none⟩) (n + 1 + 4 * k) c' (n + 1 + 4 * (k + 1)) .u8 ((n : Int) :: s ++ enc (l.take k)) rfl (own_below HRk.out HB4.out) (by have := HB4.out.size; have := HBk.out.size; omega) (some ⟨W.heap.size, 0, none⟩) 4 4 (four z) rfl (lies_of_own HO4.out) (by intro e; cases e) (by omega) (by omega) (by unfold maxLen; omega) ?_
      intro A5 c5 w5 ho5 hg5
      refine hK _ _ ?_
      clear hK K
      simp only [Act.put, List.setIfInBounds_toArray, List.set_cons_zero, List.set_cons_succ]
      refine wpAnyIn_ready (rs := [5]) (by kernel_rfl) (by simp) ?_
      refine AllReadyIn.cons rfl (fun K hK => ?_) AllReadyIn.nil
      have hne := own_not (own_below HRk.out HB4.out) (HBXk.out.below HB4.out HBXk.out.lt) (by decide)
      obtain ⟨cu, hcu, _⟩ := own_heap (own_below HRk.out HB4.out)
      have HX5 : Hid (Box1 w5 w2.heap.size 56 (.slice (some ⟨g, 0, none⟩) (n + 1 + 4 * k) c')) := hide ((hg5.block _ (by have := HB4.out.size; have := HBXk.out.lt; omega) (by intro e; cases e; exact hne rfl)).trans (HBXk.out.below HB4.out HBXk.out.lt))
      have hc5 := HX5.out.cell
      have hf5 := HX5.out.frozen
      obtain ⟨g5, rfl⟩ : ∃ g5, A5 = some ⟨g5, 0, none⟩ := own_some ho5 (by omega)
      have HEND : Hid (RoundEnd W0.heap.size (putI w n s l w2.heap.size) (fun _ _ => False) k W .normal { tmps := #[], defers := [] } (w5.setCell ⟨w2.heap.size, 0, none⟩ (.slice (some ⟨g5, 0, none⟩) (n + 1 + 4 * (k + 1)) c5))) := hide ⟨((keeps_below HB4.out).trans (keeps_cells hg5 hcu rfl)).trans ((KeepsOthers.setCell _ _ _).from _), ⟨g5, c5, HX5.out.set _, own_setCell (HENC.out ▸ ho5) (own_not ho5 HX5.out (by decide)) _⟩, ((HBk.out.trans (HB4.out.mono HBk.out.size)).grown hg5 (by have := HB4.out.size; have := HBk.out.size; omega) (fun b hb => by cases hb; exact (HRk.out.lt g rfl).1)).setCell (by simp; omega) _⟩
      clear ho5 hg5 hcu
      go_simp
      refine hK _ _ ?_
      clear hK K
      refine wpAnyIn_done (by kernel_rfl) ?_ _
      exact HEND.out
    · go_simp
      refine hK _ _ ?_
      clear hK K
      refine wpAnyIn_ready (rs := [0, 2]) (by kernel_rfl) (by simp) ?_
      refine AllReadyIn.cons rfl (fun K hK => ?_) (AllReadyIn.cons rfl (fun K hK => ?_) AllReadyIn.nil)
      · go_simp
        refine hK _ _ ?_
        clear hK K
        refine wpAnyIn_ready (rs := [2]) (by kernel_rfl) (by simp) ?_
        refine AllReadyIn.cons rfl (fun K hK => ?_) AllReadyIn.nil
        go_simp
        refine hK _ _ ?_
        clear hK K
        refine wpAnyIn_ready (rs := [3]) (by kernel_rfl) (by simp) ?_
        refine AllReadyIn.cons rfl (fun K hK => ?_) AllReadyIn.nil
        go_simp
        refine ⟨trivial, ?_⟩
        refine (CallsIn.inRound _ (callsIn_wide.2 HP.out)).mono ?_
        rintro e w4 ⟨rfl, ho4, hb4⟩
        have hcb4 : w4.cell? ⟨w2.heap.size, 0, none⟩ = some (.slice (some ⟨g, 0, none⟩) (n + 1 + 4 * k) c') := (hb4.cell (p := ⟨w2.heap.size, 0, none⟩) HBXk.out.lt).trans HBXk.out.cell
        have HO4 := hide ho4
        have HB4 := hide hb4
        clear ho4 hb4
        refine hK _ _ ?_
        clear hK K
        refine wpAnyIn_ready (rs := [4]) (by kernel_rfl) (by simp) ?_
        refine AllReadyIn.cons rfl (fun K hK => ?_) AllReadyIn.nil
        refine stepIn_append_ints (fun _ => trivial) rfl (.tmp 24) (.tmp 27) 56 rfl 5 i0 (.int .u8 0) 1 Tryz.underlying56 HI.out HZ0.out HZ1.out HZ2.out rfl w.heap.size (some ⟨g, 0, none⟩) (n + 1 + 4 * k) c' (n + 1 + 4 * (k + 1)) .u8 ((n : Int) :: s ++ enc (l.take k)) rfl (own_below HRk.out HB4.out) (by have := HB4.out.size; have := HBk.out.size; omega) (some ⟨W.heap.size, 0, none⟩) 4 4 (four z) rfl (lies_of_own HO4.out) (by intro e; cases e) (by omega) (by omega) (by unfold maxLen; omega) ?_
        intro A5 c5 w5 ho5 hg5
        refine hK _ _ ?_
        clear hK K
        simp only [Act.put, List.setIfInBounds_toArray, List.set_cons_zero, List.set_cons_succ]
        refine wpAnyIn_ready (rs := [5]) (by kernel_rfl) (by simp) ?_
        refine AllReadyIn.cons rfl (fun K hK => ?_) AllReadyIn.nil
        have hne := own_not (own_below HRk.out HB4.out) (HBXk.out.below HB4.out HBXk.out.lt) (by decide)
        obtain ⟨cu, hcu, _⟩ := own_heap (own_below HRk.out HB4.out)
        have HX5 : Hid (Box1 w5 w2.heap.size 56 (.slice (some ⟨g, 0, none⟩) (n + 1 + 4 * k) c')) := hide ((hg5.block _ (by have := HB4.out.size; have := HBXk.out.lt; omega) (by intro e; cases e; exact hne rfl)).trans (HBXk.out.below HB4.out HBXk.out.lt))
        have hc5 := HX5.out.cell
        have hf5 := HX5.out.frozen
        obtain ⟨g5, rfl⟩ : ∃ g5, A5 = some ⟨g5, 0, none⟩ := own_some ho5 (by omega)
        have HEND : Hid (RoundEnd W0.heap.size (putI w n s l w2.heap.size) (fun _ _ => False) k W .normal { tmps := #[], defers := [] } (w5.setCell ⟨w2.heap.size, 0, none⟩ (.slice (some ⟨g5, 0, none⟩) (n + 1 + 4 * (k + 1)) c5))) := hide ⟨((keeps_below HB4.out).trans (keeps_cells hg5 hcu rfl)).trans ((KeepsOthers.setCell _ _ _).from _), ⟨g5, c5, HX5.out.set _, own_setCell (HENC.out ▸ ho5) (own_not ho5 HX5.out (by decide)) _⟩, ((HBk.out.trans (HB4.out.mono HBk.out.size)).grown hg5 (by have := HB4.out.size; have := HBk.out.size; omega) (fun b hb => by cases hb; exact (HRk.out.lt g rfl).1)).setCell (by simp; omega) _⟩
        clear ho5 hg5 hcu
        go_simp
        refine hK _ _ ?_
        clear hK K
        refine wpAnyIn_done (by kernel_rfl) ?_ _
        exact HEND.out
      · go_simp
        refine hK _ _ ?_
        clear hK K
        refine wpAnyIn_ready (rs := [0, 3]) (by kernel_rfl) (by simp) ?_
        refine AllReadyIn.cons rfl (fun K hK => ?_) (AllReadyIn.cons rfl (fun K hK => ?_) AllReadyIn.nil)
        · go_simp
          refine hK _ _ ?_
          clear hK K
          refine wpAnyIn_ready (rs := [3]) (by kernel_rfl) (by simp) ?_
          refine AllReadyIn.cons rfl (fun K hK => ?_) AllReadyIn.nil
          go_simp
          refine ⟨trivial, ?_⟩
          refine (CallsIn.inRound _ (callsIn_wide.2 HP.out)).mono ?_
          rintro e w4 ⟨rfl, ho4, hb4⟩
          have hcb4 : w4.cell? ⟨w2.heap.size, 0, none⟩ = some (.slice (some ⟨g, 0, none⟩) (n + 1 + 4 * k) c') := (hb4.cell (p := ⟨w2.heap.size, 0, none⟩) HBXk.out.lt).trans HBXk.out.cell
          have HO4 := hide ho4
          have HB4 := hide hb4
          clear ho4 hb4
          refine hK _ _ ?_
          clear hK K
          refine wpAnyIn_ready (rs := [4]) (by kernel_rfl) (by simp) ?_
          refine AllReadyIn.cons rfl (fun K hK => ?_) AllReadyIn.nil
          refine stepIn_append_ints (fun _ => trivial) rfl (.tmp 24) (.tmp 27) 56 rfl 5 i0 (.int .u8 0) 1 Tryz.underlying56 HI.out HZ0.out HZ1.out HZ2.out rfl w.heap.size (some ⟨g, 0, none⟩) (n + 1 + 4 * k) c' (n + 1 + 4 * (k + 1)) .u8 ((n : Int) :: s ++ enc (l.take k)) rfl (own_below HRk.out HB4.out) (by have := HB4.out.size; have := HBk.out.size; omega) (some ⟨W.heap.size, 0, none⟩) 4 4 (four z) rfl (lies_of_own HO4.out) (by intro e; cases e) (by omega) (by omega) (by unfold maxLen; omega) ?_
          intro A5 c5 w5 ho5 hg5
          refine hK _ _ ?_
          clear hK K
          simp only [Act.put, List.setIfInBounds_toArray, List.set_cons_zero, List.set_cons_succ]
          refine wpAnyIn_ready (rs := [5]) (by kernel_rfl) (by simp) ?_
          refine AllReadyIn.cons rfl (fun K hK => ?_) AllReadyIn.nil
          have hne := own_not (own_below HRk.out HB4.out) (HBXk.out.below HB4.out HBXk.out.lt) (by decide)
          obtain ⟨cu, hcu, _⟩ := own_heap (own_below HRk.out HB4.out)
          have HX5 : Hid (Box1 w5 w2.heap.size 56 (.slice (some ⟨g, 0, none⟩) (n + 1 + 4 * k) c')) := hide ((hg5.block _ (by have := HB4.out.size; have := HBXk.out.lt; omega) (by intro e; cases e; exact hne rfl)).trans (HBXk.out.below HB4.out HBXk.out.lt))
          have hc5 := HX5.out.cell
          have hf5 := HX5.out.frozen
          obtain ⟨g5, rfl⟩ : ∃ g5, A5 = some ⟨g5, 0, none⟩ := own_some ho5 (by omega)
          have HEND : Hid (RoundEnd W0.heap.size (putI w n s l w2.heap.size) (fun _ _ => False) k W .normal { tmps := #[], defers := [] } (w5.setCell ⟨w2.heap.size, 0, none⟩ (.slice (some ⟨g5, 0, none⟩) (n + 1 + 4 * (k + 1)) c5))) := hide ⟨((keeps_below HB4.out).trans (keeps_cells hg5 hcu rfl)).trans ((KeepsOthers.setCell _ _ _).from _), ⟨g5, c5, HX5.out.set _, own_setCell (HENC.out ▸ ho5) (own_not ho5 HX5.out (by decide)) _⟩, ((HBk.out.trans (HB4.out.mono HBk.out.size)).grown hg5 (by have := HB4.out.size; have := HBk.out.size; omega) (fun b hb => by cases hb; exact (HRk.out.lt g rfl).1)).setCell (by simp; omega) _⟩
          clear ho5 hg5 hcu
          go_simp
          refine hK _ _ ?_
          clear hK K
          refine wpAnyIn_done (by kernel_rfl) ?_ _
          exact HEND.out
        · go_simp
          refine ⟨trivial, ?_⟩
          refine (CallsIn.inRound _ (callsIn_wide.2 HP.out)).mono ?_
          rintro e w4 ⟨rfl, ho4, hb4⟩
          have hcb4 : w4.cell? ⟨w2.heap.size, 0, none⟩ = some (.slice (some ⟨g, 0, none⟩) (n + 1 + 4 * k) c') := (hb4.cell (p := ⟨w2.heap.size, 0, none⟩) HBXk.out.lt).trans HBXk.out.cell
          have HO4 := hide ho4
          have HB4 := hide hb4
          clear ho4 hb4
          refine hK _ _ ?_
          clear hK K
          refine wpAnyIn_ready (rs := [0]) (by kernel_rfl) (by simp) ?_
          refine AllReadyIn.cons rfl (fun K hK => ?_) AllReadyIn.nil
          go_simp
          refine hK _ _ ?_
          clear hK K
          refine wpAnyIn_ready (rs := [4]) (by kernel_rfl) (by simp) ?_
          refine AllReadyIn.cons rfl (fun K hK => ?_) AllReadyIn.nil
          refine stepIn_append_ints (fun _ => trivial) rfl (.tmp 24) (.tmp 27) 56 rfl 5 i0 (.int .u8 0) 1 Tryz.underlying56 HI.out HZ0.out HZ1.out HZ2.out rfl w.heap.size (some ⟨g, 0, none⟩) (n + 1 + 4 * k) c' (n + 1 + 4 * (k + 1)) .u8 ((n : Int) :: s ++ enc (l.take k)) rfl (own_below HRk.out HB4.out) (by have := HB4.out.size; have := HBk.out.size; omega) (some ⟨W.heap.size, 0, none⟩) 4 4 (four z) rfl (lies_of_own HO4.out) (by intro e; cases e) (by omega) (by omega) (by unfold maxLen; omega) ?_
          intro A5 c5 w5 ho5 hg5
          refine hK _ _ ?_
          clear hK K
          simp only [Act.put, List.setIfInBounds_toArray, List.set_cons_zero, List.set_cons_succ]
          refine wpAnyIn_ready (rs := [5]) (by kernel_rfl) (by simp) ?_
          refine AllReadyIn.cons rfl (fun K hK => ?_) AllReadyIn.nil
          have hne := own_not (own_below HRk.out HB4.out) (HBXk.out.below HB4.out HBXk.out.lt) (by decide)
          obtain ⟨cu, hcu, _⟩ := own_heap (own_below HRk.out HB4.out)
          have HX5 : Hid (Box1 w5 w2.heap.size 56 (.slice (some ⟨g, 0, none⟩) (n + 1 + 4 * k) c')) := hide ((hg5.block _ (by have := HB4.out.size; have := HBXk.out.lt; omega) (by intro e; cases e; exact hne rfl)).trans (HBXk.out.below HB4.out HBXk.out.lt))
          have hc5 := HX5.out.cell
          have hf5 := HX5.out.frozen
          obtain ⟨g5, rfl⟩ : ∃ g5, A5 = some ⟨g5, 0, none⟩ := own_some ho5 (by omega)
          have HEND : Hid (RoundEnd W0.heap.size (putI w n s l w2.heap.size) (fun _ _ => False) k W .normal { tmps := #[], defers := [] } (w5.setCell ⟨w2.heap.size, 0, none⟩ (.slice (some ⟨g5, 0, none⟩) (n + 1 + 4 * (k + 1)) c5))) := hide ⟨((keeps_below HB4.out).trans (keeps_cells hg5 hcu rfl)).trans ((KeepsOthers.setCell _ _ _).from _), ⟨g5, c5, HX5.out.set _, own_setCell (HENC.out ▸ ho5) (own_not ho5 HX5.out (by decide)) _⟩, ((HBk.out.trans (HB4.out.mono HBk.out.size)).grown hg5 (by have := HB4.out.size; have := HBk.out.size; omega) (fun b hb => by cases hb; exact (HRk.out.lt g rfl).1)).setCell (by simp; omega) _⟩
          clear ho5 hg5 hcu
          go_simp
          refine hK _ _ ?_
          clear hK K
          refine wpAnyIn_done (by kernel_rfl) ?_ _
          exact HEND.out
  case done =>
    rintro D W hD ⟨⟨g, c', hx, ho⟩, hb⟩ hK
    have hcb := hx.cell
    have hlt := lt_of_heap hK
    have HO9 : Hid ((W.putObj D (.deferred none)).ownsRow w.heap.size 5 1 (.slice (some ⟨g, 0, none⟩) (n + 1 + 4 * m) c') (n + 1 + 4 * m) ((tenB s l).map (Value.int .u8))) := hide (by
      rw [List.take_of_length_le (by rw [HL.out]; exact Nat.le_refl _)] at ho
      rw [tenB, HSL.out]
      exact own_put (B := 0) ho (grownBy_putObj' W D (.deferred none)) (fun r e => by cases e; exact ⟨Nat.zero_le _, _, hK, rfl⟩))
    have HB9 : Hid (Below w.heap.size w (W.putObj D (.deferred none))) := hide (below_put hb (by omega) hlt _)
    clear ho hx hb
    go_wp2
    exact markRet rfl hK (results_tmp2 rfl _ _ _) ⟨g, c', rfl, HO9.out, HB9.out⟩
  case stop =>
    rintro D j W hD h _
    exact h.elim

set_option maxHeartbeats 1000000 in
theorem tput_err (A B : Option Addr) (n c m d : Nat) (s : List Int) (w : World) (hA : Lies w A n (s.map (Value.int .i64))) (hn : n ≤ 281474976710656) (hok : tenOk s m = false) :
    Calls Tryz.prog 21 #[tenV A n c B m d] w fun e w' => e = .returned (.tuple #[.slice none 0 0, .int .i64 1]) ∧ Below w.heap.size w w' := by
  have HA := hide hA
  have HOK := hide hok
  clear hA hok
  refine (callsIn_wide (n := 5)).1 ?_
  refine callsIn_of_wp_marks Tryz.func21 rfl trivial ?_ rfl
  simp only [Tryz.ntmps21, List.size_toArray, List.length_cons, List.length_nil, Nat.reduceAdd, Nat.reduceSub, Array.replicate_succ, Array.replicate_zero, List.push_toArray, List.append_toArray, List.nil_append, List.cons_append]
  refine wpIn_wide.2 ?_
  go_wp2_with fail
  refine Calls.mono (tcheck_any A B n c m d s _ (HA.out.alloc _) hn) ?_
  rintro e w1 ⟨rfl, hb⟩
  rw [HOK.out]
  have HB1 := hide (((Below.refl w.heap.size w).alloc (Nat.le_refl _) (.cells #[.slice A n c, .slice B m d] 25)).trans (hb.mono (by simp)))
  clear hb
  go_wp2
  exact plainRet rfl (results_tmp2 rfl _ _ _) ⟨rfl, HB1.out⟩
end Go.Proofs.YtaoobdnbjagpnaaGreatDoor
