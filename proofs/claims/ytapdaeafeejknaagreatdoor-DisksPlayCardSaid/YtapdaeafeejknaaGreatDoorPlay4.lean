/- DisksPlay: for every number of sectors and every acts the walk of its Go text ends in true. -/
import Derived.Test.YtapdaeafeejknaaGreatDoorPlay3
import Derived.Test.YtapdaeafeejknaaGreatDoorSameB
import Derived.Lib.SmallJoins
import Derived.Deep.CutBlock
import Derived.Deep.DeepCutAuto
namespace Go.Proofs.YtapdaeafeejknaaGreatDoor
open Go.RowKit
set_option maxRecDepth 20000
set_option linter.unusedVariables false
set_option linter.unusedSimpArgs false

abbrev boxObj (x : Act1) : Obj := .cells (actV x).toArray 51 (0, 0)
theorem box_cell {w : World} {gx : Nat} {x : Act1} (h : w.heap[gx]? = some (boxObj x)) (j : Nat) (v : Value) (hj : (actV x)[j]? = some v) : w.cell? ⟨gx, j, none⟩ = some v := by
  rw [cell_of_row w gx j _ _ _ h, List.getElem?_toArray]
  exact hj
theorem actV_one (x : Act1) : ∀ v ∈ actV x, v.oneCell' = true := by
  intro v hv
  simp [actV] at hv
  rcases hv with rfl | rfl | rfl | rfl | rfl <;> rfl
theorem wrP_len (n : Nat) (m : Int) (bs : List Int) (pend : List Wr) : (wrP n m bs pend).length ≤ pend.length + 1 := by
  unfold wrP; split
  · simp
  · omega
theorem rotPend_len (n q y : Int) (d : List Sec) (p : List Wr) : (rotPend n q y d p).length = p.length := by
  unfold rotPend; split <;> simp
theorem badPend_len (n : Int) (d : List Sec) (p : List Wr) : (badPend n d p).length = p.length := by
  unfold badPend; split <;> simp
theorem lies_was (w : World) (fr : Nat × Nat) : Lies (w.alloc (.cells #[.int .u8 119, .int .u8 97, .int .u8 115] 5 fr)) (some ⟨w.heap.size, 0, none⟩) 3 ([119, 97, 115].map (Value.int .u8)) := by
  refine ⟨rfl, fun _ => ⟨w.heap.size, 0, rfl, by simp, fun j hj => ?_⟩⟩
  rw [Nat.zero_add, World.cell?_alloc_mark]
  obtain rfl | rfl | rfl : j = 0 ∨ j = 1 ∨ j = 2 := by omega
  all_goals simp
theorem Rn.sub {w0 w : World} {g g2 K N : Nat} {d d2 : List Sec} {p p2 : List Wr} {xs ys : List Blk} (h : Rn w0 w g g2 d p d2 p2 K N xs) (hy : ∀ q ∈ ys, q ∈ xs) : Rn w0 w g g2 d p d2 p2 K N ys := by
  obtain ⟨L, M, H, c, its, e1, e2, h1, h2, h3⟩ := h
  exact ⟨L, M, H, c, its, e1, e2, ⟨h1.disk, h1.ref, h1.book, h1.dr, h1.db, h1.rb, fun b hb => by
    obtain ⟨q, hq, rfl⟩ := List.mem_map.1 hb
    exact h1.ext q.1 (List.mem_map_of_mem (hy q hq))⟩, h2, fun q hq => h3 q (hy q hq)⟩
theorem Tryz.infoAct : (Tryz.prog.info? 51).map (fun i => (i.zero, i.size, i.bytes)) = some (some (.agg #[.int .u8 0, .int .i64 0, .int .i64 0, .slice none 0 0, .int .u64 0]), 5, 56) := by kernel_rfl

set_option maxRecDepth 100000 in
set_option maxHeartbeats 8000000 in
theorem play_main (n : Nat) (A : Option Addr) (m c : Nat) (l : List Act1) (w : World) (h : ActsAt w A m l) (hm : m ≤ 140737488355328) (hn1 : 1 ≤ n) (hn2 : n ≤ 16384) :
    Calls Tryz.prog 3 #[.int .i64 (n : Int), .slice A m c] w fun e w' => e = .returned (.bool true) ∧ Below w.heap.size w w' := by
  have HA := hide h
  obtain ⟨i, hi, hz0, hz1, hz2⟩ := info_parts Tryz.infoAct
  have HI := hide hi
  have HZ0 := hide hz0
  have HZS : Hid ((#[.int .u8 0, .int .i64 0, .int .i64 0, .slice none 0 0, .int .u64 0] : Array Value).size = i.size) := hide (by rw [hz1]; rfl)
  have HZ1 := hide hz1
  clear h hi hz0 hz1 hz2
  go_enter Tryz.func3, Tryz.ntmps3
  go_wp2_with fail
  refine Calls.mono (greatQ_any A m c l w HA.out hm) ?_
  rintro e w0 ⟨bd, rfl, hbd, rfl⟩
  have HBD := hide hbd
  clear hbd
  cases bd
  case true =>
    go_wp2
    go_ret
    exact ⟨rfl, Below.refl _ _⟩
  case false =>
  obtain ⟨hm2, hsmall⟩ := HBD.out rfl
  have HSM := hide hsmall
  clear hsmall HBD
  go_wp2_with fail
  refine Calls.mono (new_ok n w hn1 hn2) ?_
  rintro e w1 ⟨L, rfl, hd, hnw, hb⟩
  have HD1 := hide hd
  have HB1 := hide hb
  clear hd hb hnw
  unfold Loc.ptr
  go_wp2_with fail
  refine Calls.mono (rnew_ok n w1 hn1 hn2) ?_
  rintro e w2 ⟨M, rfl, hd, hnw, hb⟩
  have HRS := hide (Rn.start HD1.out HB1.out hd hnw hb)
  clear hd hb hnw HD1
  unfold RLoc.ptr
  obtain ⟨W3, hW3⟩ : ∃ W3, W3 = w2.alloc bookNew := ⟨_, rfl⟩
  have HW3 : Hid (w2.alloc (.cells #[Value.int .i64 0, Value.slice none 0 0, Value.slice none 0 0, Value.slice none 0 0, Value.slice none 0 0, Value.slice none 0 0, Value.slice none 0 0, Value.slice none 0 0, Value.slice none 0 0, Value.slice none 0 0, Value.slice none 0 0, Value.slice none 0 0, Value.slice none 0 0, Value.slice none 0 0, Value.slice none 0 0, Value.slice none 0 0] 47) = W3) := hide hW3.symm
  rw [← hW3] at HRS
  clear hW3
  obtain ⟨K, hK⟩ : ∃ K, K = w2.heap.size := ⟨_, rfl⟩
  obtain ⟨g0, hg0⟩ : ∃ g0, g0 = L.g := ⟨_, rfl⟩
  obtain ⟨g1, hg1⟩ : ∃ g1, g1 = M.g := ⟨_, rfl⟩
  rw [← hK, ← hg0, ← hg1] at HRS
  rw [← hg0, ← hg1]
  clear hg0 hg1
  have HK := hide hK
  clear hK
  go_wp2
  rw [HW3.out, ← HK.out]
  clear HW3 HK
  go_loopw [5, 6, 7, 8, 10] (fun s5 s6 s7 s8 i wr => ∃ (k g g2 N : Nat) (d : List Sec) (p : List Wr), k ≤ m ∧ i = .int .i64 k ∧ s5 = .pointer (some ⟨g, 0, none⟩) ∧ s6 = .int .i64 0 ∧ s7 = .pointer (some ⟨g2, 0, none⟩) ∧ s8 = .int .i64 0 ∧ N ≤ 2 * k ∧ p.length ≤ k ∧ Hid (Rn w wr g g2 d p d p K N [])) (fun _ _ _ _ i _ => m - (intOf i).toNat)
  case atStart => exact ⟨0, g0, g1, 0, _, [], Nat.zero_le _, rfl, rfl, rfl, rfl, rfl, Nat.le_refl _, Nat.le_refl _, HRS⟩
  case round =>
    clear HRS
    obtain ⟨k, g, g2, N, d, p, hk, rfl, rfl, rfl, rfl, rfl, hN, hp, HR0⟩ := hrel
    by_cases hlt : k < m
    · obtain ⟨b, o, rfl, _, hc⟩ := (HA.out.below HR0.out.bel).cells (by omega)
      have hjl : k < l.length := by rw [HA.out.len]; exact hlt
      obtain ⟨x, hx⟩ : ∃ x, x = actAt l k := ⟨_, rfl⟩
      have hxm : x ∈ l := by rw [hx]; exact actAt_mem hjl
      have HOX : Hid (OkAct w x) := hide (HA.out.each _ hxm)
      have hxs := HSM.out x hxm
      have hcc := hc k hlt
      rw [← hx] at hcc
      have HCELL : Hid (∀ i u, (actV x)[i]? = some u → wr.cell? ⟨b, o + k * 5 + i, none⟩ = some u) := hide hcc
      have HXL : Hid (x.bs.length = x.m) := hide (by have := HOX.out.lies.len; simpa using this)
      obtain ⟨W, hW⟩ : ∃ W, W = wr.alloc (boxObj x) := ⟨_, rfl⟩
      have HIS : Hid (i.size = (actV x).length) := hide (by rw [HZ1.out]; rfl)
      have HWW : Hid (wr.alloc (.cells (actV x).toArray 51) = W) := hide hW.symm
      have HRW0 : Hid (Rn w W g g2 d p d p K N [(wr.heap.size, boxObj x)]) := hide (by
        rw [hW]; exact (HR0.out.push ((Below.refl _ _).alloc (Nat.le_refl _) _) (Nat.le_refl _) (heap_alloc_new wr _) (by decide)).1)
      obtain ⟨q0, q1⟩ := HOX.out.kind
      obtain ⟨q2, q3⟩ := HOX.out.keep
      have k0 : (0 : Int) ≤ (k : Int) := by omega
      have k1 : (k : Int) < (m : Int) := by omega
      have hP9 : p.length ≤ 1000000000 := by omega
      clear hx hc hcc hW hjl hxm HR0
      go_wp2_with (first | (refine wpList_load_mid rfl 51 _ rfl _ _ (actV x) _ rfl HCELL.out Tryz.underlying51 rfl (by kernel_rfl) ?_) | (refine wpList_alloc_store rfl rfl 51 rfl _ _ rfl _ i HI.out HZ0.out HZS.out (actV x) rfl rfl HIS.out (actV_one x) ?_; rw [HWW.out]; have cz := box_cell (HRW0.out.holds (wr.heap.size, boxObj x) List.mem_cons_self) 3 _ rfl))
      refine Calls.mono (twin_Bytes x.A x.m x.c x.bs W (HOX.out.lies.below HRW0.out.bel) (by omega)) ?_
      rintro e w2 ⟨rfl, ho, hb⟩
      have hpu := HRW0.out.push hb (Nat.le_refl _) (twin_block HXL.out ho) (by decide)
      obtain ⟨gx, hgx⟩ : ∃ gx, gx = wr.heap.size := ⟨_, rfl⟩
      obtain ⟨gt, hgt⟩ : ∃ gt, gt = W.heap.size := ⟨_, rfl⟩
      rw [← hgx, ← hgt] at hpu
      rw [← hgx, ← hgt]
      have HR2 : Hid (Rn w w2 g g2 d p d p K N [(gt, twinObj x.bs), (gx, boxObj x)]) := hide hpu.1
      have HROW : Hid (RowIn w.heap.size [(gt, twinObj x.bs)] (some ⟨gt, 0, none⟩) x.m (x.m + 1) x.bs) := hide (twin_row HXL.out (by rw [hgt]; exact HRW0.out.size) (by omega))
      have HTL : Hid (Lies w2 (some ⟨gt, 0, none⟩) x.m (x.bs.map (Value.int .u8))) := hide ((HROW.out.row w2 (fun q hq => HR2.out.holds q (by rw [List.mem_singleton.1 hq]; exact List.mem_cons_self))).lies)
      obtain ⟨kp, hkq⟩ := Int.eq_ofNat_of_zero_le q2
      have hkp : kp < 18446744073709551616 := by omega
      have HKP := hide hkq
      obtain ⟨r, hr⟩ : ∃ r, x.kind % 9 = r := ⟨_, rfl⟩
      have hr9 : r = 0 ∨ r = 1 ∨ r = 2 ∨ r = 3 ∨ r = 4 ∨ r = 5 ∨ r = 6 ∨ r = 7 ∨ r = 8 := by omega
      clear hpu hgx hgt ho hb HRW0 HWW HCELL HIS hkq
      have c0 := box_cell (HR2.out.holds (gx, boxObj x) (List.mem_cons_of_mem _ List.mem_cons_self)) 0 _ rfl
      go_upto_block 2 with fail
      clear c0
      go_cut [5, 6, 7, 8, 13] from 50 to 199 (fun s5 s6 s7 s8 s13 wx => ∃ (ga gb : Nat) (e1 : Int) (D : List Sec) (P : List Wr), s5 = .pointer (some ⟨ga, 0, none⟩) ∧ s6 = .int .i64 e1 ∧ s7 = .pointer (some ⟨gb, 0, none⟩) ∧ s8 = .int .i64 e1 ∧ P.length ≤ k + 1 ∧ Hid (Rn w wx ga gb D P D P K N [(gt, twinObj x.bs), (gx, boxObj x)]))
      case first =>
       rcases hr9 with rfl | rfl | rfl | rfl | rfl | rfl | rfl | rfl | rfl
       · have c1 := box_cell (HR2.out.holds (gx, boxObj x) (List.mem_cons_of_mem _ List.mem_cons_self)) 1 _ rfl
         have c3 := box_cell (HR2.out.holds (gx, boxObj x) (List.mem_cons_of_mem _ List.mem_cons_self)) 3 _ rfl
         go_wp2_with fail
         refine Calls.mono (rn_dwrite x.n (some ⟨gt, 0, none⟩) x.m (x.m + 1) x.bs HR2.out HTL.out HOX.out.bytes hP9) ?_
         rintro e w5 ⟨rfl, hr⟩
         have HR5 := hide hr
         clear hr c1 c3 HR2 HTL
         have c1 := box_cell (HR5.out.holds (gx, boxObj x) (List.mem_cons_of_mem _ List.mem_cons_self)) 1 _ rfl
         have c3 := box_cell (HR5.out.holds (gx, boxObj x) (List.mem_cons_of_mem _ List.mem_cons_self)) 3 _ rfl
         go_wp2_with fail
         refine Calls.mono (rn_rwrite x.n x.A x.m x.c x.bs HR5.out (HOX.out.lies.below HR5.out.bel) HOX.out.bytes hP9) ?_
         rintro e w6 ⟨rfl, hr⟩
         have HR6 := hide hr
         clear hr c1 c3 HR5
         go_wp2_with fail
         go_meet
         exact ⟨g, g2, errI (wrOk d.length x.n x.m), d, wrP d.length x.n x.bs p, rfl, rfl, rfl, rfl, Nat.le_trans (wrP_len _ _ _ _) (by omega), HR6⟩
       · have c1 := box_cell (HR2.out.holds (gx, boxObj x) (List.mem_cons_of_mem _ List.mem_cons_self)) 1 _ rfl
         have c3 := box_cell (HR2.out.holds (gx, boxObj x) (List.mem_cons_of_mem _ List.mem_cons_self)) 3 _ rfl
         go_wp2_with fail
         refine Calls.mono (rn_dwrite x.n (some ⟨gt, 0, none⟩) x.m (x.m + 1) x.bs HR2.out HTL.out HOX.out.bytes hP9) ?_
         rintro e w5 ⟨rfl, hr⟩
         have HR5 := hide hr
         clear hr c1 c3 HR2 HTL
         have c1 := box_cell (HR5.out.holds (gx, boxObj x) (List.mem_cons_of_mem _ List.mem_cons_self)) 1 _ rfl
         have c3 := box_cell (HR5.out.holds (gx, boxObj x) (List.mem_cons_of_mem _ List.mem_cons_self)) 3 _ rfl
         go_wp2_with fail
         refine Calls.mono (rn_rwrite x.n x.A x.m x.c x.bs HR5.out (HOX.out.lies.below HR5.out.bel) HOX.out.bytes hP9) ?_
         rintro e w6 ⟨rfl, hr⟩
         have HR6 := hide hr
         clear hr c1 c3 HR5
         go_wp2_with fail
         go_meet
         exact ⟨g, g2, errI (wrOk d.length x.n x.m), d, wrP d.length x.n x.bs p, rfl, rfl, rfl, rfl, Nat.le_trans (wrP_len _ _ _ _) (by omega), HR6⟩
       · have c1 := box_cell (HR2.out.holds (gx, boxObj x) (List.mem_cons_of_mem _ List.mem_cons_self)) 1 _ rfl
         have c3 := box_cell (HR2.out.holds (gx, boxObj x) (List.mem_cons_of_mem _ List.mem_cons_self)) 3 _ rfl
         go_wp2_with fail
         refine Calls.mono (rn_dwrite x.n (some ⟨gt, 0, none⟩) x.m (x.m + 1) x.bs HR2.out HTL.out HOX.out.bytes hP9) ?_
         rintro e w5 ⟨rfl, hr⟩
         have HR5 := hide hr
         clear hr c1 c3 HR2 HTL
         have c1 := box_cell (HR5.out.holds (gx, boxObj x) (List.mem_cons_of_mem _ List.mem_cons_self)) 1 _ rfl
         have c3 := box_cell (HR5.out.holds (gx, boxObj x) (List.mem_cons_of_mem _ List.mem_cons_self)) 3 _ rfl
         go_wp2_with fail
         refine Calls.mono (rn_rwrite x.n x.A x.m x.c x.bs HR5.out (HOX.out.lies.below HR5.out.bel) HOX.out.bytes hP9) ?_
         rintro e w6 ⟨rfl, hr⟩
         have HR6 := hide hr
         clear hr c1 c3 HR5
         go_wp2_with fail
         go_meet
         exact ⟨g, g2, errI (wrOk d.length x.n x.m), d, wrP d.length x.n x.bs p, rfl, rfl, rfl, rfl, Nat.le_trans (wrP_len _ _ _ _) (by omega), HR6⟩
       · have c1 := box_cell (HR2.out.holds (gx, boxObj x) (List.mem_cons_of_mem _ List.mem_cons_self)) 1 _ rfl
         have c3 := box_cell (HR2.out.holds (gx, boxObj x) (List.mem_cons_of_mem _ List.mem_cons_self)) 3 _ rfl
         go_wp2_with fail
         refine Calls.mono (rn_dwrite x.n (some ⟨gt, 0, none⟩) x.m (x.m + 1) x.bs HR2.out HTL.out HOX.out.bytes hP9) ?_
         rintro e w5 ⟨rfl, hr⟩
         have HR5 := hide hr
         clear hr c1 c3 HR2 HTL
         have c1 := box_cell (HR5.out.holds (gx, boxObj x) (List.mem_cons_of_mem _ List.mem_cons_self)) 1 _ rfl
         have c3 := box_cell (HR5.out.holds (gx, boxObj x) (List.mem_cons_of_mem _ List.mem_cons_self)) 3 _ rfl
         go_wp2_with fail
         refine Calls.mono (rn_rwrite x.n x.A x.m x.c x.bs HR5.out (HOX.out.lies.below HR5.out.bel) HOX.out.bytes hP9) ?_
         rintro e w6 ⟨rfl, hr⟩
         have HR6 := hide hr
         clear hr c1 c3 HR5
         go_wp2_with fail
         go_meet
         exact ⟨g, g2, errI (wrOk d.length x.n x.m), d, wrP d.length x.n x.bs p, rfl, rfl, rfl, rfl, Nat.le_trans (wrP_len _ _ _ _) (by omega), HR6⟩
       · go_wp2_with fail
         refine Calls.mono (rn_dsync HR2.out hP9) ?_
         rintro e w5 ⟨rfl, hr⟩
         have HR5 := hide hr
         clear hr HR2 HTL
         go_wp2_with fail
         refine Calls.mono (rn_rsync HR5.out) ?_
         rintro e w6 ⟨rfl, hr⟩
         have HR6 := hide hr
         clear hr HR5
         go_wp2_with fail
         go_meet
         exact ⟨g, g2, 0, seenOf d p, [], rfl, rfl, rfl, rfl, Nat.zero_le _, HR6⟩
       · have c2 := box_cell (HR2.out.holds (gx, boxObj x) (List.mem_cons_of_mem _ List.mem_cons_self)) 2 _ rfl
         have c4 := box_cell (HR2.out.holds (gx, boxObj x) (List.mem_cons_of_mem _ List.mem_cons_self)) 4 _ rfl
         rw [HKP.out] at c4
         go_wp2_with fail
         refine Calls.mono (rn_dfail kp x.p HR2.out hkp hP9) ?_
         rintro e w5 ⟨g3, rfl, hr⟩
         have HR5 := hide hr
         clear hr c2 c4 HR2 HTL
         have c2 := box_cell (HR5.out.rn.holds (gx, boxObj x) (List.mem_cons_of_mem _ List.mem_cons_self)) 2 _ rfl
         have c4 := box_cell (HR5.out.rn.holds (gx, boxObj x) (List.mem_cons_of_mem _ List.mem_cons_self)) 4 _ rfl
         rw [HKP.out] at c4
         go_wp2_with fail
         refine Calls.mono (rn_rfail kp x.p HR5.out hkp hP9) ?_
         rintro e w6 ⟨g4, rfl, hr⟩
         have HR6 := hide hr
         clear hr c2 c4 HR5
         have hcv := Go.Joins.run_convert_bytes_const_at (P := Tryz.prog) w6 48 5 #[.int .u8 119, .int .u8 97, .int .u8 115] 3 3 w6.heap.size rfl Tryz.underlying48 Tryz.underlying5
         go_wp2_with fail
         clear hcv
         refine Calls.mono (rn_wwrite 0 (some ⟨w6.heap.size, 0, none⟩) 3 3 [119, 97, 115] (HR6.out.below ((Below.refl _ _).alloc (Nat.le_refl _) _)) (lies_was w6 _) (by decide) hP9) ?_
         rintro e w7 ⟨rfl, hr⟩
         have HR7 := hide hr
         clear hr HR6
         go_wp2_with fail
         refine Calls.mono (rn_wsync HR7.out (Nat.le_trans (wrP_len _ _ _ _) (by omega))) ?_
         rintro e w8 ⟨rfl, hr⟩
         have HR8 := hide hr
         clear hr HR7
         go_wp2_with fail
         go_meet
         exact ⟨g3, g4, 0, leftOf kp x.p d p, [], rfl, rfl, rfl, rfl, Nat.zero_le _, HR8⟩
       · have c1 := box_cell (HR2.out.holds (gx, boxObj x) (List.mem_cons_of_mem _ List.mem_cons_self)) 1 _ rfl
         have c2 := box_cell (HR2.out.holds (gx, boxObj x) (List.mem_cons_of_mem _ List.mem_cons_self)) 2 _ rfl
         have c4 := box_cell (HR2.out.holds (gx, boxObj x) (List.mem_cons_of_mem _ List.mem_cons_self)) 4 _ rfl
         go_wp2_with fail
         refine Calls.mono (rn_drot x.n x.p (x.keep % 256) HR2.out (by omega) hP9) ?_
         rintro e w5 ⟨rfl, hr⟩
         have HR5 := hide hr
         clear hr c1 c2 c4 HR2 HTL
         have c1 := box_cell (HR5.out.holds (gx, boxObj x) (List.mem_cons_of_mem _ List.mem_cons_self)) 1 _ rfl
         have c2 := box_cell (HR5.out.holds (gx, boxObj x) (List.mem_cons_of_mem _ List.mem_cons_self)) 2 _ rfl
         have c4 := box_cell (HR5.out.holds (gx, boxObj x) (List.mem_cons_of_mem _ List.mem_cons_self)) 4 _ rfl
         go_wp2_with fail
         refine Calls.mono (rn_rrot x.n x.p (x.keep % 256) HR5.out (by omega) hP9) ?_
         rintro e w6 ⟨rfl, hr⟩
         have HR6 := hide hr
         clear hr c1 c2 c4 HR5
         go_wp2_with fail
         go_meet
         exact ⟨g, g2, errI (rotOk d.length x.n x.p), rotDur x.n x.p (x.keep % 256) d, rotPend x.n x.p (x.keep % 256) d p, rfl, rfl, rfl, rfl, Nat.le_trans (Nat.le_of_eq (rotPend_len _ _ _ _ _)) (by omega), HR6⟩
       · have c1 := box_cell (HR2.out.holds (gx, boxObj x) (List.mem_cons_of_mem _ List.mem_cons_self)) 1 _ rfl
         go_wp2_with fail
         refine Calls.mono (rn_dbad x.n HR2.out hP9) ?_
         rintro e w5 ⟨rfl, hr⟩
         have HR5 := hide hr
         clear hr c1 HR2 HTL
         have c1 := box_cell (HR5.out.holds (gx, boxObj x) (List.mem_cons_of_mem _ List.mem_cons_self)) 1 _ rfl
         go_wp2_with fail
         refine Calls.mono (rn_rbad x.n HR5.out hP9) ?_
         rintro e w6 ⟨rfl, hr⟩
         have HR6 := hide hr
         clear hr c1 HR5
         go_wp2_with fail
         go_meet
         exact ⟨g, g2, errI (badOk d.length x.n), badDur x.n d, badPend x.n d p, rfl, rfl, rfl, rfl, Nat.le_trans (Nat.le_of_eq (badPend_len _ _ _)) (by omega), HR6⟩
       · go_wp2_with fail
         go_meet
         exact ⟨g, g2, 0, d, p, rfl, rfl, rfl, rfl, by omega, HR2⟩
      case rest =>
        obtain ⟨ga, gb, e1, D, P, rfl, rfl, rfl, rfl, hPL, HR⟩ := hcut
        clear HR2 HTL hr9 hr
        obtain ⟨wz, hwz⟩ : ∃ wz, wz = wc := ⟨_, rfl⟩
        subst hwz
        have c3 := box_cell (HR.out.holds (gx, boxObj x) (List.mem_cons_of_mem _ List.mem_cons_self)) 3 _ rfl
        go_wp2_with fail
        refine Calls.mono (rn_dlen HR.out) ?_
        rintro e w9 ⟨rfl, rfl⟩
        go_wp2_with fail
        refine Calls.mono (rn_rlen HR.out) ?_
        rintro e w9 ⟨rfl, rfl⟩
        go_wp2_with fail
        refine Calls.mono (rn_dwaits HR.out) ?_
        rintro e w9 ⟨rfl, rfl⟩
        go_wp2_with fail
        refine Calls.mono (rn_rwaits HR.out) ?_
        rintro e w9 ⟨rfl, rfl⟩
        go_wp2_with fail
        refine Calls.mono (left_Bytes gt x.m (x.m + 1) x.c x.A x.bs wz (twin_lies HXL.out (HR.out.holds (gt, twinObj x.bs) List.mem_cons_self)) (HOX.out.lies.below HR.out.bel) (Nat.le_refl _) (by omega)) ?_
        rintro e w9 ⟨rfl, q, rfl⟩
        have HRa : Hid (Rn w (wz.drewN q) ga gb D P D P K N [(gt, twinObj x.bs), (gx, boxObj x)]) := hide (HR.out.below (below_drewN (Below.refl _ _) q))
        clear c3 HR
        generalize wz.drewN q = wy at HRa ⊢
        have c1 := box_cell (HRa.out.holds (gx, boxObj x) (List.mem_cons_of_mem _ List.mem_cons_self)) 1 _ rfl
        go_wp2_with fail
        refine Calls.mono (rn_dread x.n HRa.out) ?_
        rintro e w6 ⟨A4, c4, zs, rfl, hrow, hr, hdis, hle⟩
        have HRW := hide hrow
        have HRb := hide hr
        have HDIS := hide hdis
        obtain ⟨m4, hm4⟩ : ∃ m4, m4 = (rdL (seenOf D P) x.n).length := ⟨_, rfl⟩
        obtain ⟨e4, he4⟩ : ∃ e4, e4 = rdEr (seenOf D P) x.n := ⟨_, rfl⟩
        have HM4 := hide hm4
        have HE4 := hide he4
        rw [← hm4] at HRW hle ⊢
        rw [← he4]
        clear c1 hrow hr hdis hm4 he4
        have c1 := box_cell (HRb.out.holds (gx, boxObj x) (List.mem_append_right _ (List.mem_cons_of_mem _ List.mem_cons_self))) 1 _ rfl
        go_wp2_with fail
        refine Calls.mono (rn_rread x.n HRb.out) ?_
        rintro e w7 ⟨A5, c5, rfl, hl5, hr⟩
        rw [← HM4.out] at hl5 ⊢
        rw [← HE4.out]
        have HL5 := hide hl5
        have HRc := hide hr
        clear c1 hl5 hr
        go_wp2_with fail
        refine Calls.mono (same_u8 A4 A5 m4 c4 c5 (rdL (seenOf D P) x.n) w7 ((HRW.out.row w7 (fun q hq => HRc.out.holds q (List.mem_append_left _ hq))).lies) HL5.out (by omega)) ?_
        rintro e w9 ⟨rfl, q, rfl⟩
        have HRd : Hid (Rn w (w7.drewN q) ga gb D P D P K N (zs ++ [(gt, twinObj x.bs), (gx, boxObj x)])) := hide (HRc.out.below (below_drewN (Below.refl _ _) q))
        clear HRa HRb HRc HL5 HM4 HE4
        generalize w7.drewN q = w8 at HRd ⊢
        go_wp2_with fail
        refine Calls.mono (HRd.out.add (ys := zs) HROW.out (fun q hq => List.mem_append_right _ (by rw [List.mem_singleton.1 hq]; exact List.mem_cons_self)) (fun q hq => List.mem_append_left _ hq) (fun q hq q2 hq2 e => HDIS.out q2 hq2 q (by rw [List.mem_singleton.1 hq]; exact List.mem_cons_self) e.symm) (by omega) (by omega)) ?_
        rintro e w9 ⟨rfl, hr⟩
        have HRe := hide hr
        clear hr HRd
        go_wp2_with fail
        refine Calls.mono (HRe.out.add (ys := []) HRW.out (fun q hq => hq) (fun q hq => by cases hq) (fun q hq q2 hq2 => by cases hq2) (by omega) (by omega)) ?_
        rintro e w10 ⟨rfl, hr⟩
        have HRf := hide hr
        clear hr HRe HRW HDIS HROW
        go_wp2
        go_roundw
        case rel => exact ⟨k + 1, ga, gb, N + 1 + 1, D, P, by omega, by go_num, rfl, rfl, rfl, rfl, by omega, hPL, HRf⟩
        case measure => simp [intOf]; omega
    · obtain rfl : k = m := by omega
      clear HSM
      have hdl := HR0.out.facts
      obtain ⟨Z, hZ⟩ : ∃ Z, Z = d.length := ⟨_, rfl⟩
      rw [← hZ] at hdl
      have HZL := hide hZ
      clear hZ
      have HLEN : Hid (∀ w', Rn w w' g g2 d p d p K N [] → Calls Tryz.prog 19 #[.pointer (some ⟨g2, 0, none⟩)] w' fun e w9 => e = .returned (.int .i64 (Z : Int)) ∧ w' = w9) := hide (fun w' h' => by rw [HZL.out]; exact rn_rlen h')
      go_wp2
      go_loopw [18] (fun i wv => ∃ j : Nat, i = .int .i64 j ∧ j ≤ 300 ∧ j ≤ Z ∧ Hid (Rn w wv g g2 d p d p K N [])) (fun i _ => 300 - (intOf i).toNat)
      case atStart => exact ⟨0, rfl, by omega, by omega, HR0⟩
      case round =>
        obtain ⟨j, rfl, hj3, hjz, HR1⟩ := hrel
        clear HR0
        have j0 : (0 : Int) ≤ (j : Int) := by omega
        by_cases hz : 300 < Z
        · have hz1 : (300 : Int) < (Z : Int) := by omega
          by_cases hlt2 : j < 300
          · have hmin : (j : Int) < (300 : Int) := by omega
            go_wp2_with fail
            refine Calls.mono (HLEN.out _ HR1.out) ?_
            rintro e w9 ⟨rfl, rfl⟩
            go_wp2_with fail
            refine Calls.mono (rn_dread (j : Int) HR1.out) ?_
            rintro e w6 ⟨A4, c4, zs, rfl, hrow, hr, hdis, hle⟩
            have HRW := hide hrow
            have HRb := hide hr
            obtain ⟨m4, hm4⟩ : ∃ m4, m4 = (rdL (seenOf d p) j).length := ⟨_, rfl⟩
            obtain ⟨e4, he4⟩ : ∃ e4, e4 = rdEr (seenOf d p) j := ⟨_, rfl⟩
            have HM4 := hide hm4
            have HE4 := hide he4
            rw [← hm4] at HRW hle ⊢
            rw [← he4]
            clear hrow hr hdis hm4 he4
            go_wp2_with fail
            refine Calls.mono (rn_rread (j : Int) HRb.out) ?_
            rintro e w7 ⟨A5, c5, rfl, hl5, hr⟩
            rw [← HM4.out] at hl5 ⊢
            rw [← HE4.out]
            have HL5 := hide hl5
            have HRc := hide hr
            clear hl5 hr
            go_wp2_with fail
            refine Calls.mono (same_u8 A4 A5 m4 c4 c5 (rdL (seenOf d p) j) w7 ((HRW.out.row w7 (fun q hq => HRc.out.holds q (List.mem_append_left _ hq))).lies) HL5.out (by omega)) ?_
            rintro e w9 ⟨rfl, q, rfl⟩
            have HRd : Hid (Rn w (w7.drewN q) g g2 d p d p K N []) := hide ((HRc.out.below (below_drewN (Below.refl _ _) q)).sub (fun q hq => by cases hq))
            clear HR1 HRb HRc HL5 HM4 HE4 HRW
            generalize w7.drewN q = w8 at HRd ⊢
            go_wp2
            go_roundw
            case rel => exact ⟨j + 1, by go_num, by omega, by omega, HRd⟩
            case measure => simp [intOf]; omega
          · have hmin : (300 : Int) ≤ (j : Int) := by omega
            go_wp2_with fail
            refine Calls.mono (HLEN.out _ HR1.out) ?_
            rintro e w9 ⟨rfl, rfl⟩
            go_wp2_with fail
            refine Calls.mono (rn_apart HR1.out) ?_
            rintro e w9 ⟨rfl, hb⟩
            have HBE := hide hb
            clear hb
            go_wp2
            go_ret
            exact ⟨rfl, HBE.out⟩
        · have hz1 : (Z : Int) ≤ 300 := by omega
          by_cases hlt2 : j < Z
          · have hmin : (j : Int) < (Z : Int) := by omega
            go_wp2_with fail
            refine Calls.mono (HLEN.out _ HR1.out) ?_
            rintro e w9 ⟨rfl, rfl⟩
            go_wp2_with fail
            refine Calls.mono (rn_dread (j : Int) HR1.out) ?_
            rintro e w6 ⟨A4, c4, zs, rfl, hrow, hr, hdis, hle⟩
            have HRW := hide hrow
            have HRb := hide hr
            obtain ⟨m4, hm4⟩ : ∃ m4, m4 = (rdL (seenOf d p) j).length := ⟨_, rfl⟩
            obtain ⟨e4, he4⟩ : ∃ e4, e4 = rdEr (seenOf d p) j := ⟨_, rfl⟩
            have HM4 := hide hm4
            have HE4 := hide he4
            rw [← hm4] at HRW hle ⊢
            rw [← he4]
            clear hrow hr hdis hm4 he4
            go_wp2_with fail
            refine Calls.mono (rn_rread (j : Int) HRb.out) ?_
            rintro e w7 ⟨A5, c5, rfl, hl5, hr⟩
            rw [← HM4.out] at hl5 ⊢
            rw [← HE4.out]
            have HL5 := hide hl5
            have HRc := hide hr
            clear hl5 hr
            go_wp2_with fail
            refine Calls.mono (same_u8 A4 A5 m4 c4 c5 (rdL (seenOf d p) j) w7 ((HRW.out.row w7 (fun q hq => HRc.out.holds q (List.mem_append_left _ hq))).lies) HL5.out (by omega)) ?_
            rintro e w9 ⟨rfl, q, rfl⟩
            have HRd : Hid (Rn w (w7.drewN q) g g2 d p d p K N []) := hide ((HRc.out.below (below_drewN (Below.refl _ _) q)).sub (fun q hq => by cases hq))
            clear HR1 HRb HRc HL5 HM4 HE4 HRW
            generalize w7.drewN q = w8 at HRd ⊢
            go_wp2
            go_roundw
            case rel => exact ⟨j + 1, by go_num, by omega, by omega, HRd⟩
            case measure => simp [intOf]; omega
          · have hmin : (Z : Int) ≤ (j : Int) := by omega
            go_wp2_with fail
            refine Calls.mono (HLEN.out _ HR1.out) ?_
            rintro e w9 ⟨rfl, rfl⟩
            go_wp2_with fail
            refine Calls.mono (rn_apart HR1.out) ?_
            rintro e w9 ⟨rfl, hb⟩
            have HBE := hide hb
            clear hb
            go_wp2
            go_ret
            exact ⟨rfl, HBE.out⟩
set_option maxRecDepth 100000 in
set_option maxHeartbeats 2000000 in
theorem play_no (n : Int) (A : Option Addr) (m c : Nat) (l : List Act1) (w : World) (h : ActsAt w A m l) (hm : m ≤ 140737488355328) (hn : n < 1 ∨ 16384 < n) :
    Calls Tryz.prog 3 #[.int .i64 n, .slice A m c] w fun e w' => e = .returned (.bool true) ∧ Below w.heap.size w w' := by
  have HA := hide h
  have HN := hide (new_bad n w hn)
  have HRN := hide (rnew_arg n w hn)
  clear h hn
  go_enter Tryz.func3, Tryz.ntmps3
  go_wp2_with fail
  refine Calls.mono (greatQ_any A m c l w HA.out hm) ?_
  rintro e w0 ⟨bd, rfl, hbd, rfl⟩
  clear hbd
  cases bd
  case true =>
    go_wp2
    go_ret
    exact ⟨rfl, Below.refl _ _⟩
  case false =>
  go_wp2_with fail
  refine Calls.mono HN.out ?_
  rintro e w1 ⟨rfl, rfl⟩
  go_wp2_with fail
  refine Calls.mono HRN.out ?_
  rintro e w1 ⟨rfl, rfl⟩
  go_wp2
  go_ret
  exact ⟨rfl, Below.refl _ _⟩
theorem play_any (n : Int) (A : Option Addr) (m c : Nat) (l : List Act1) (w : World) (h : ActsAt w A m l) (hm : m ≤ 140737488355328) :
    Calls Tryz.prog 3 #[.int .i64 n, .slice A m c] w fun e w' => e = .returned (.bool true) ∧ Below w.heap.size w w' := by
  by_cases hn : n < 1 ∨ 16384 < n
  · exact play_no n A m c l w h hm hn
  · obtain ⟨k, rfl⟩ := Int.eq_ofNat_of_zero_le (show 0 ≤ n by omega)
    exact play_main k A m c l w h hm (by omega) (by omega)
end Go.Proofs.YtapdaeafeejknaaGreatDoor
