/- Contract of Get of package tensors at the bytes of a tensor: its numbers are put where a range over a method value goes. -/
import Derived.Test.YtaoobdnbjagpnaaGreatDoorTen8
namespace Go.Proofs.YtaoobdnbjagpnaaGreatDoor
open Go.RowKit Go.Shelf
set_option linter.unusedVariables false
set_option linter.unusedSimpArgs false
set_option maxRecDepth 20000
attribute [local go_sem] Oper.semAt_some

/-- What holds between two rounds of Get's loop. -/
def getI (w1 : World) (p2 : Nat) (R : Option Addr) (cr g1 q c1 g2 k : Nat) (ss rest : List Int) (j : Nat) (W : World) : Prop :=
  (Box1 W w1.heap.size 56 (.slice R (4 * k) cr) ∧ BoxT W p2 (.slice (some ⟨g1, 0, none⟩) q c1) (.slice (some ⟨g2, 0, none⟩) k k) ∧ W.heap[g2]? = some (.cells (part rest k j).toArray 21 (0, 0)) ∧
    W.ownsRow w1.heap.size 3 1 (.slice (some ⟨g1, 0, none⟩) q c1) q (ss.map (Value.int .i64))) ∧ Below w1.heap.size w1 W

theorem own_setCell' {w : World} {base : Nat} {e : TypeId} {g n c : Nat} {xs : List Value} (h : w.ownsRow base e 1 (.slice (some ⟨g, 0, none⟩) n c) n xs) {a : Addr} (hp : g ≠ a.block) (v : Value) : (w.setCell a v).ownsRow base e 1 (.slice (some ⟨g, 0, none⟩) n c) n xs := by
  obtain ⟨cur, hh, hr⟩ := own_heap h
  refine h.kept (row := some a.block) ⟨rfl, rfl, rfl, by simp, fun k _ hk => Below.heap_setCell w a v k (by intro e; exact hk (by rw [e]))⟩ ?_
  right
  intro e'
  cases e'
  exact hp rfl
theorem getD_part (l : List Int) (a m i : Nat) (h : i < m) : ((l.drop a).take m).getD i 0 = l.getD (a + i) 0 := by
  simp [List.getD, List.getElem?_take, h, List.getElem?_drop]
theorem head_wd (l : List Int) (j m : Nat) (h : 4 ≤ m) : IntKind.i32.wrap (head4 ((l.drop (4 * j)).take m)) = wd l j := by
  rw [head4, getD_part _ _ _ _ (by omega), getD_part _ _ _ _ (by omega), getD_part _ _ _ _ (by omega), getD_part _ _ _ _ (by omega)]
  rfl

set_option maxHeartbeats 1000000 in
theorem tget_ok (A : Option Addr) (n c q k : Nat) (bs : List Int) (w : World) (h : Lies w A n (bs.map (Value.int .u8))) (hb : Bytes bs) (hn : n ≤ 281474976710656) (hnc : n ≤ c) (hq : bs.getD 0 0 = (q : Int)) (hqn : 1 + q ≤ n)
    (hk : sizeI (shpOf bs q) = (k : Int)) (hp : 0 < k) (hlen : n - (1 + q) = 4 * k) :
    Calls Tryz.prog 23 #[.slice A n c] w fun e w' => ∃ g1 c1 g2, e = .returned (.tuple #[tenV (some ⟨g1, 0, none⟩) q c1 (some ⟨g2, 0, none⟩) k k, .int .i64 0]) ∧
      w'.ownsRow w.heap.size 3 1 (.slice (some ⟨g1, 0, none⟩) q c1) q ((shpOf bs q).map (Value.int .i64)) ∧ w'.ownsRow w.heap.size 21 1 (.slice (some ⟨g2, 0, none⟩) k k) k ((dec (bs.drop (1 + q)) k).map (Value.int .i32)) ∧ g1 ≠ g2 ∧ Below w.heap.size w w' := by
  have HA := hide h
  have HBY := hide hb
  have HL : Hid (bs.length = n) := hide (by have := h.len; simpa using this)
  have hk4 := sizeI_le (shpOf bs q)
  have HK := hide hk
  have HLEN := hide hlen
  have hkk : k ≤ 4096 := by omega
  have HBR : Hid (Bytes (bs.drop (1 + q))) := hide (fun x hx => hb x (List.mem_of_mem_drop hx))
  clear h hb hk hk4
  refine (callsIn_wide (n := 5)).1 ?_
  refine callsIn_of_wp_marks Tryz.func23 rfl trivial ?_ rfl
  simp only [Tryz.ntmps23, List.size_toArray, List.length_cons, List.length_nil, Nat.reduceAdd, Nat.reduceSub, Array.replicate_succ, Array.replicate_zero, List.push_toArray, List.append_toArray, List.nil_append, List.cons_append]
  refine wpIn_wide.2 ?_
  have h0 := (Below.refl w.heap.size w).alloc (Nat.le_refl _) (.cells #[.slice none 0 0, .slice none 0 0] 25)
  have HX0 := hide (BoxT.new w (.slice none 0 0) (.slice none 0 0))
  go_wp2_with fail
  refine Calls.mono (getShape_ok A n c q bs _ (HA.out.alloc _) HBY.out hn hnc hq (by omega)) ?_
  rintro e w1 ⟨A1, c1, R, cr, rfl, ho1, hl1, hcr, hb1⟩
  rw [hlen] at hl1 hcr ⊢
  have hb1' : Below (w.heap.size + 1) (w.alloc (.cells #[.slice none 0 0, .slice none 0 0] 25)) w1 := by simpa using hb1
  have HX1 := hide (HX0.out.below hb1' (by omega))
  have HB1 := hide (h0.trans (hb1'.mono (by omega)))
  have hs1 : w.heap.size + 1 ≤ w1.heap.size := by have := hb1'.size; simpa using this
  have HS1 := hide (lies_of_own ho1)
  have HR1 := hide hl1
  clear ho1 hl1 hb1 hb1' h0
  have HX1lt := HX1.out.lt
  have HBX1 := hide (Box1.new w1 (.slice R (4 * k) cr) 56)
  go_wp2_with fail
  refine Calls.mono (new_ok A1 q c1 k (shpOf bs q) _ (HS1.out.alloc _) HK.out hp) ?_
  rintro e w2 ⟨g1, c2, g2, rfl, ho1, ho2, hne, hb2⟩
  have lt1 := ho1.lt g1 rfl
  have lt2 := ho2.lt g2 rfl
  have hb2' : Below (w1.heap.size + 1) (w1.alloc (.cells #[.slice R (4 * k) cr] 56)) w2 := by simpa using hb2
  have HX2 := hide ((HX1.out.alloc (.cells #[.slice R (4 * k) cr] 56)).below hb2' (by omega))
  have HBX2 := hide (HBX1.out.below hb2' (by omega))
  have HB2 : Hid (Below w1.heap.size w1 w2) := hide (((Below.refl w1.heap.size w1).alloc (Nat.le_refl _) _).trans (hb2'.mono (by omega)))
  have HO1 : Hid (w2.ownsRow w1.heap.size 3 1 (.slice (some ⟨g1, 0, none⟩) q c2) q ((shpOf bs q).map (Value.int .i64))) := hide (own_base ho1 (by simp))
  have HO2 : Hid (w2.heap[g2]? = some (.cells (part (bs.drop (1 + q)) k 0).toArray 21 (0, 0))) := hide (by
    obtain ⟨cur, hh, _, _, _, hsz, ht⟩ := own_heap ho2
    rw [hh]
    congr 2
    apply Array.toList_inj.1
    rw [List.take_of_length_le (by simp [hsz])] at ht
    rw [ht, part_none])
  have hs2 := hb2'.size
  simp only [World.size_alloc] at hs2 lt1 lt2
  clear ho1 ho2 hb2 hb2'
  have hcr2 : (w2.alloc (.cells #[.slice (some ⟨g1, 0, none⟩) q c2, .slice (some ⟨g2, 0, none⟩) k k] 25)).cell? ⟨w1.heap.size, 0, none⟩ = some (.slice R (4 * k) cr) := (HBX2.out.alloc _).cell
  have HT := hide (BoxT.new w2 (.slice (some ⟨g1, 0, none⟩) q c2) (.slice (some ⟨g2, 0, none⟩) k k))
  have hct := HT.out.c1
  have hb9 : (((4 * k : Nat) : Int) == 4 * (k : Int)) = true := by rw [beq_iff_eq]; omega
  go_wp2_with fail
  refine (wpIn_wide (n := 5)).1 ?_
  refine range_numbers 5 k k (some ⟨g2, 0, none⟩) (by omega) (by omega) rfl rfl (getI w1 w2.heap.size R cr g1 q c2 g2 k (shpOf bs q) (bs.drop (1 + q))) (fun _ _ => False)
    (OwnFrom.and (fun j X Y row hk hg hr => ⟨heap_own hg hr hk.1 rfl, heap_own hg hr hk.2.1 rfl, heap_own hg hr hk.2.2.1 rfl, own_put hk.2.2.2 hg hr⟩) (ownFrom_below (Nat.le_refl _) (by simp; omega)))
    (fun _ _ _ _ hs _ _ => hs)
    ⟨⟨HBX2.out.alloc _, HT.out, ((Below.refl w2.heap.size w2).alloc (Nat.le_refl _) _).block g2 (by omega) |>.trans HO2.out, HO1.out.alloc _⟩, HB2.out.alloc (by omega) _⟩
    (fun j W hj hI => ⟨_, g2, 0, rfl, by rw [Nat.zero_add]; exact cell_of_row _ _ j _ _ (0, 0) hI.1.2.2.1 |>.trans (by simpa using part_at _ _ _ _ hj)⟩)
    (fun j z => { tmps := #[.slice A n c, undef, .pointer (some ⟨w.heap.size, 0, none⟩), .int .i64 0, .slice A1 q c1, .pointer (some ⟨w1.heap.size, 0, none⟩), .pointer (some ⟨w2.heap.size, 0, none⟩), .int .i64 0, .int .i64 (j : Int), undef, undef,
      .tuple #[.slice A1 q c1, .slice R (4 * k) cr], .slice A n c, .tuple #[.slice A1 q c1, .slice R (4 * k) cr], .slice A1 q c1, .slice R (4 * k) cr,
      .tuple #[tenV (some ⟨g1, 0, none⟩) q c2 (some ⟨g2, 0, none⟩) k k, .int .i64 0], .slice A1 q c1, .tuple #[tenV (some ⟨g1, 0, none⟩) q c2 (some ⟨g2, 0, none⟩) k k, .int .i64 0],
      tenV (some ⟨g1, 0, none⟩) q c2 (some ⟨g2, 0, none⟩) k k, .int .i64 0, .int .i64 0, .bool false, .bool false, .slice R (4 * k) cr, .int .i64 (4 * (k : Int)), .pointer (some ⟨w2.heap.size, 1, none⟩),
      .slice (some ⟨g2, 0, none⟩) k k, .int .i64 (k : Int), .int .i64 (4 * (k : Int)), .bool false, .bool false, undef, .pointer (some ⟨w2.heap.size, 1, none⟩), .slice (some ⟨g2, 0, none⟩) k k,
      .func (.func 40) #[.slice (some ⟨g2, 0, none⟩) k k] #[], .int .i64 (j : Int), .int .i32 z, undef, undef, undef, undef, undef, undef, undef, undef, undef, undef, undef, undef, undef, undef, undef], defers := [] }) ?assign ?body ?done ?stop
  case assign =>
    intro l j z W K hK
    gi_wp2
    exact hK
  case body =>
    rintro l j z W hj ⟨⟨h1, h2, h3, h4⟩, hb⟩ -
    have H1 := hide h1
    have H2 := hide h2
    have H3 := hide h3
    have H4 := hide h4
    have HBW := hide hb
    have hcr3 := h1.cell
    have hct3 := h2.c1
    have hsW := hb.size
    obtain ⟨b, o, rfl, hbl, hx⟩ := byte_at (HR1.out.below hb) (by omega)
    have hc4 : ¬ cr = 4 * j := by omega
    have hj4 : (4 : Int) * (j : Int) ≤ 4 * (k : Int) := by omega
    have hjk : (j : Int) < (k : Int) := by omega
    have HS : Hid (Lies W (some ⟨b, o + 4 * j, none⟩) (4 * k - 4 * j) ((((bs.drop (1 + q)).drop (4 * j)).take (4 * k - 4 * j)).map (Value.int .u8))) := hide (lies_slice (HR1.out.below hb) (by omega) (Nat.le_refl _))
    have hcs : W.cell? ⟨g2, j, none⟩ = some (.int .i32 (if j < j then wd (bs.drop (1 + q)) j else 0)) := cell_of_row _ _ j _ _ (0, 0) h3 |>.trans (by simpa using part_at (bs.drop (1 + q)) k j j hj)
    have hfs : W.frozen? ⟨g2, j, none⟩ = false := by simp [World.frozen?, h3]
    have HWD : Hid (IntKind.i32.wrap (head4 (((bs.drop (1 + q)).drop (4 * j)).take (4 * k - 4 * j))) = wd (bs.drop (1 + q)) j) := hide (head_wd _ _ _ (by omega))
    have HBB : Hid (Bytes (((bs.drop (1 + q)).drop (4 * j)).take (4 * k - 4 * j))) := hide (fun x hx => HBR.out x (List.mem_of_mem_drop (List.mem_of_mem_take hx)))
    clear h1 h2 h3 h4 hb hx
    obtain ⟨bj, hbj⟩ : ∃ bj, bj = ((bs.drop (1 + q)).drop (4 * j)).take (4 * k - 4 * j) := ⟨_, rfl⟩
    rw [← hbj] at HWD HBB HS
    obtain ⟨hv, hhv⟩ : ∃ hv, hv = head4 bj := ⟨_, rfl⟩
    obtain ⟨u, hu⟩ : ∃ u, u = wd (bs.drop (1 + q)) j := ⟨_, rfl⟩
    have HG : Hid (Calls Tryz.prog 97 #[.slice (some ⟨b, o + 4 * j, none⟩) (4 * k - 4 * j) (cr - 4 * j)] W fun e w' => e = .returned (.tuple #[.int .u32 hv, .int .i64 0]) ∧ ∃ k, w' = W.drewN k) := hide (by
      rw [hhv]
      exact get4_long (some ⟨b, o + 4 * j, none⟩) (4 * k - 4 * j) (cr - 4 * j) bj W (by omega) HS.out HBB.out)
    have hwr : IntKind.i32.wrap hv = u := by rw [hhv, hu]; exact HWD.out
    have hwr2 := (IntWalk.i32_left hv).symm.trans hwr
    have HU := hide hu
    clear hbj hhv hu
    gi_wp2_with fail
    refine ⟨trivial, ?_⟩
    refine (CallsIn.inRound _ (callsIn_wide.2 HG.out)).mono ?_
    rintro e w4 ⟨rfl, dr, rfl⟩
    have hne1 : w1.heap.size ≠ g2 := by omega
    have hne2 : w2.heap.size ≠ g2 := by omega
    have hH3 := H3.out
    have HEND : Hid (RoundEnd (w2.heap.size + 1) (getI w1 w2.heap.size (some ⟨b, o, none⟩) cr g1 q c2 g2 k (shpOf bs q) (bs.drop (1 + q))) (fun _ _ => False) j W .normal { tmps := #[], defers := [] } ((W.drewN dr).setCell ⟨g2, j, none⟩ (.int .i32 u))) := hide ⟨(keeps_below (below_drewN (Below.refl _ W) dr)).trans ((KeepsOthers.setCell _ _ _).from _),
      ⟨(Below.heap_setCell (W.drewN dr) _ _ _ hne1).trans H1.out, (Below.heap_setCell (W.drewN dr) _ _ _ hne2).trans H2.out, by
        rw [setCell_eq_setRow (W.drewN dr) g2 j _ 21 (0, 0) _ hH3, setRow_heap (W.drewN dr) g2 _ _ _ _ hH3, HU.out, ← part_set]
        rw [List.setIfInBounds_toArray], own_setCell' H4.out hne _⟩, (below_drewN HBW.out dr).setCell (by simp; omega) _⟩
    clear hH3
    gi_wp2
    rw [World.size_alloc]
    exact HEND.out
  case done =>
    rintro D W hD ⟨⟨h1, h2, h3, h4⟩, hb⟩ hK
    have hlt := lt_of_heap hK
    have hDs : w2.heap.size + 1 ≤ D := by simpa using hD
    have HXW := hide (HX1.out.below hb HX1lt)
    have HBW := hide (HB1.out.trans (hb.mono (by omega)))
    have HT9 := hide h2
    have hct0 := h2.c0
    have hct1 := h2.c1
    have HO1W : Hid (W.ownsRow (w.heap.size + 1) 3 1 (.slice (some ⟨g1, 0, none⟩) q c2) q ((shpOf bs q).map (Value.int .i64))) := hide (own_base (base' := w.heap.size + 1) h4 (by omega))
    have HO2W : Hid (W.ownsRow (w.heap.size + 1) 21 1 (.slice (some ⟨g2, 0, none⟩) k k) k ((dec (bs.drop (1 + q)) k).map (Value.int .i32))) := hide (by
      rw [part_all] at h3
      exact own_of_block (by omega) h3 (by simp [dec]) (Nat.le_refl _) (by unfold maxLen; omega) (by rw [List.take_of_length_le (by simp [dec])]))
    clear h1 h2 h3 h4 hb
    go_wp2_with (refine wpList_store_row rfl 25 _ _ rfl w.heap.size #[.slice (some ⟨g1, 0, none⟩) q c2, .slice (some ⟨g2, 0, none⟩) k k] rfl rfl 25 _ HXW.out sizeT rfl (by simp [Value.oneCell']) ?_)
    have hK2 : (W.setRow w.heap.size #[.slice (some ⟨g1, 0, none⟩) q c2, .slice (some ⟨g2, 0, none⟩) k k]).heap[D]? = some (.deferred (some [])) := (setRow_other W _ _ _ (by omega)).trans hK
    have hbx := heap_put (x := .deferred none) hK2 rfl (HXW.out.set (.slice (some ⟨g1, 0, none⟩) q c2) (.slice (some ⟨g2, 0, none⟩) k k)) rfl
    refine markRet rfl hK2 (results_ten (p := 2) (u := 3) rfl _ _ w.heap.size _ rfl hbx rfl) ⟨g1, c2, g2, rfl, ?_, ?_, hne, ?_⟩
    · exact own_put (B := 0) (own_base (own_setRow (own_base HO1W.out (Nat.le_refl _)) (by omega) _) (by omega)) (grownBy_putObj' _ D (.deferred none)) (fun r e => by cases e; exact ⟨Nat.zero_le _, _, hK2, rfl⟩)
    · exact own_put (B := 0) (own_base (own_setRow (own_base HO2W.out (Nat.le_refl _)) (by omega) _) (by omega)) (grownBy_putObj' _ D (.deferred none)) (fun r e => by cases e; exact ⟨Nat.zero_le _, _, hK2, rfl⟩)
    · exact below_put (below_setRow HBW.out (Nat.le_refl _) _) (by omega) (lt_of_heap hK2) _
  case stop =>
    rintro D j W hD h _
    exact h.elim
end Go.Proofs.YtaoobdnbjagpnaaGreatDoor
