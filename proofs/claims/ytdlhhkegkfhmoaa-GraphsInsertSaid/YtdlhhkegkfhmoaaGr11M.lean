/- The shape of a node, by what it takes in (plain); the look-up in the rules; what a rule answers. -/
import Derived.Test.YtdlhhkegkfhmoaaGr10M
import Derived.Test.YtdlhhkegkfhmoaaPm17M
import Derived.Test.YtdlhhkegkfhmoaaPr3M
import Derived.Test.YtdlhhkegkfhmoaaMv11M
namespace Go.Proofs.Ytdlhhkegkfhmoaa
open Go.RowKit
set_option linter.unusedVariables false
set_option linter.unusedSimpArgs false
set_option maxRecDepth 100000

/-- What is joined, by the shapes of what is taken in. -/
def jA (K : Nat → List Int) (d : Nat) : Nat → Int
  | 0 => (K 0).getD d 0
  | k + 1 => jA K d k + (K (k + 1)).getD d 0

def jAll (K : Nat → List Int) (d m : Nat) : Bool := (List.range m).all (fun j => decide ((K (j + 1)).length = (K 0).length) && decide (outL (K (j + 1)) d = outL (K 0) d))

def jZ (K : Nat → List Int) (d m : Nat) : List Int := (K 0).set d (jA K d m)

def jE (K : Nat → List Int) (m : Nat) (d : Int) : Int :=
  if d < ((K 0).length : Int) then (if jAll K d.toNat (m - 1) = true ∧ 0 < sizeI (jZ K d.toNat (m - 1)) then 0 else 10) else 1

def jS (K : Nat → List Int) (m : Nat) (d : Int) : List Int := if jE K m d = 0 then jZ K d.toNat (m - 1) else []

theorem gjA_K (gs : List Sg) (xs : List Int) (d : Nat) : ∀ k, gjA gs xs d k = jA (kn gs xs) d k
  | 0 => rfl
  | k + 1 => by rw [gjA, jA, gjA_K gs xs d k]

theorem gjZ_K (gs : List Sg) (xs : List Int) (d m : Nat) : gjZ gs xs d m = jZ (kn gs xs) d m := by rw [gjZ, jZ, gjA_K]

theorem gjAll_K (gs : List Sg) (xs : List Int) (d m : Nat) : gjAll gs xs d m = jAll (kn gs xs) d m := rfl

theorem gjE_K (gs : List Sg) (xs : List Int) (d : Int) : gjE gs xs d = jE (kn gs xs) xs.length d := by rw [gjE, jE, gjZ_K, gjAll_K]

theorem gjS_K (gs : List Sg) (xs : List Int) (d : Int) : gjS gs xs d = jS (kn gs xs) xs.length d := by rw [gjS, jS, gjE_K, gjZ_K]

/-- The shape of a node, by the shapes of what it takes in; is there one? -/
def nodeE (x : Nd) (K : Nat → List Int) : Nat → Int
  | 1 => 0
  | 2 => 0
  | 3 => cmE (K 0) (K 1)
  | 4 => cmE (K 0) (K 1)
  | 5 => 0
  | 6 => 0
  | 7 => shp7E (K 0) (K 1)
  | 8 => shp8E (K 0) (K 1) x.N x.P
  | 9 => pp8E (K 0) x.N
  | 10 => reE x.sh (K 0)
  | 11 => gtE (K 0) x.sh
  | 12 => jE K x.xs.length x.N
  | _ => gsE (K 0) x.N

def nodeS (x : Nd) (K : Nat → List Int) : Nat → List Int
  | 1 => x.sh
  | 2 => x.sh
  | 3 => cmS (K 0) (K 1)
  | 4 => cmS (K 0) (K 1)
  | 5 => K 0
  | 6 => K 0
  | 7 => shp7S (K 0) (K 1)
  | 8 => shp8S (K 0) (K 1) x.N x.P
  | 9 => pp8S (K 0) x.N
  | 10 => reS x.sh (K 0)
  | 11 => gtS (K 0) x.sh
  | 12 => jS K x.xs.length x.N
  | _ => gsS (K 0) x.N

theorem three_cases {s : List Int} (h : s.length = 3) : s = [s.getD 0 0, s.getD 1 0, s.getD 2 0] := by
  match s, h with
  | [a, b, c], _ => rfl

theorem shp7_pos {a b : List Int} (h : shp7E a b = 0) : 0 < sizeI (shp7S a b) := by
  obtain ⟨⟨h1, h2⟩, h3, h4, h5⟩ := shp7E_iff.1 h
  rw [shp7S_ok h]
  have f1 := (size_dims h1).at (k := 0) (by omega)
  have f2 := (size_dims h2).at (k := 1) (by omega)
  obtain ⟨M, hM⟩ := Int.eq_ofNat_of_zero_le (show 0 ≤ a.getD 0 0 by omega)
  obtain ⟨N, hN⟩ := Int.eq_ofNat_of_zero_le (show 0 ≤ b.getD 1 0 by omega)
  rw [hM] at f1 ⊢
  rw [hN] at f2 ⊢
  obtain ⟨e1, e2, e3⟩ := two_size (M := M) (N := N) (by omega) (by omega)
  omega

theorem sz3_to {M K N : Nat} (h : 0 < sizeI [(M : Int), (K : Int), (N : Int)]) : (1 ≤ M ∧ M ≤ 64) ∧ (1 ≤ K ∧ K ≤ 64) ∧ (1 ≤ N ∧ N ≤ 64) ∧ M * K * N ≤ 4096 := by
  have h1 := size_dims h
  have ha := h1 (M : Int) (by simp)
  have hb := h1 (K : Int) (by simp)
  have hc := h1 (N : Int) (by simp)
  have h4 := sizeI_le [(M : Int), (K : Int), (N : Int)]
  rw [(sizeI_pos h).2.2, prodZ, prodZ, prodZ, prodZ, ha.2.2, hb.2.2, hc.2.2, Int.mul_one, ← Int.natCast_mul, ← Int.natCast_mul, ← Nat.mul_assoc] at h4
  refine ⟨by omega, by omega, by omega, by omega⟩

theorem sz3_of {M K N : Nat} (hM : 1 ≤ M ∧ M ≤ 64) (hK : 1 ≤ K ∧ K ≤ 64) (hN : 1 ≤ N ∧ N ≤ 64) (h : M * K * N ≤ 4096) : 0 < sizeI [(M : Int), (K : Int), (N : Int)] := by
  have e1 : dz (M : Int) = M := by unfold dz; rw [if_neg (by omega)]
  have e2 : dz (K : Int) = K := by unfold dz; rw [if_neg (by omega)]
  have e3 : dz (N : Int) = N := by unfold dz; rw [if_neg (by omega)]
  have h0 : 1 ≤ M * (K * N) := Nat.mul_pos (by omega) (Nat.mul_pos (by omega) (by omega))
  rw [Nat.mul_assoc] at h
  rw [sizeI, if_neg (by simp), prodZ, prodZ, prodZ, prodZ, e1, e2, e3, Int.mul_one, ← Int.natCast_mul, ← Int.natCast_mul, if_neg (by omega)]
  omega

theorem pp8_pos {s : List Int} {n : Int} (h : pp8E s n = 0) : 0 < sizeI (pp8S s n) := by
  obtain ⟨⟨h1, h2, h2'⟩, h3, h4, h5⟩ := pp8E_iff.1 h
  have g0 := (size_dims h1).at (k := 0) (by omega)
  have g1 := (size_dims h1).at (k := 1) (by omega)
  have g2 := (size_dims h1).at (k := 2) (by omega)
  obtain ⟨C, hC⟩ := Int.eq_ofNat_of_zero_le (show 0 ≤ s.getD 0 0 by omega)
  obtain ⟨H, hH⟩ := Int.eq_ofNat_of_zero_le (show 0 ≤ s.getD 1 0 by omega)
  obtain ⟨V, hV⟩ := Int.eq_ofNat_of_zero_le (show 0 ≤ s.getD 2 0 by omega)
  obtain ⟨W, hW⟩ := Int.eq_ofNat_of_zero_le (show 0 ≤ n by omega)
  have hs := three_cases h3
  rw [hC, hH, hV] at hs
  rw [pp8S, if_pos h, hC, hH, hV, hW, ← Int.natCast_ediv, ← Int.natCast_ediv]
  rw [hs] at h1
  rw [hH] at h4
  rw [hV] at h5
  obtain ⟨q1, q2, q3, q4⟩ := sz3_to h1
  have y1 : 1 ≤ H / W := (Nat.one_le_div_iff (by omega)).2 (by omega)
  have x1 : 1 ≤ V / W := (Nat.one_le_div_iff (by omega)).2 (by omega)
  have y2 : H / W ≤ H := Nat.div_le_self _ _
  have x2 : V / W ≤ V := Nat.div_le_self _ _
  have h := Nat.mul_le_mul (Nat.mul_le_mul (Nat.le_refl C) y2) x2
  exact sz3_of q1 (by omega) (by omega) (by omega)

theorem wo_pos {s : List Int} {a : Nat} (h : 0 < sizeI s) (ha : a < s.length) : 0 < sizeI (woL s a) :=
  (sumT_len (l := []) (m := (sizeI s).toNat) (tenOk_iff.2 ⟨h, by omega⟩) ha).2

theorem lOk_one {s : List Int} (h : lOk 1 s = true) : 0 < sizeI s := by simpa [lOk] using h

theorem lOk_two {s : List Int} (h : lOk 2 s = true) : isOrd s = true := h

/-- What a node that conforms to its kind has. -/
theorem alw_parts {r : Rl} {x : Nd} (h : alw r x = true) : (r.a ≤ (x.xs.length : Int) ∧ (x.xs.length : Int) ≤ r.b) ∧ (r.nl ≤ x.N ∧ x.N ≤ r.nm) ∧ (r.pl ≤ x.P ∧ x.P ≤ r.pm) ∧ lOk r.lk x.sh = true := by
  simp only [alw, Bool.and_eq_true, decide_eq_true_eq] at h
  exact ⟨h.1.1.1, h.1.1.2, h.1.2, h.2⟩

/-- The shape of a node is one, where those of what it takes in are. -/
theorem nodeS_pos {x : Nd} {K : Nat → List Int} {k : Nat} (h1 : 1 ≤ k) (h13 : k ≤ 13) (ha : alw (rlT k) x = true) (hK : ∀ j, j < x.xs.length → 0 < sizeI (K j)) (hE : nodeE x K k = 0) : 0 < sizeI (nodeS x K k) := by
  obtain ⟨ha1, ha2, ha3, ha4⟩ := alw_parts ha
  match k, h1, h13 with
  | 1, _, _ => exact lOk_one ha4
  | 2, _, _ => exact lOk_one ha4
  | 3, _, _ =>
    simp only [nodeE, nodeS, rlT] at *
    have h2 := hK 0 (by omega)
    by_cases e : K 0 = K 1
    · rw [cmS, if_pos e]; exact h2
    · rw [cmE, if_neg e] at hE; omega
  | 4, _, _ =>
    simp only [nodeE, nodeS, rlT] at *
    have h2 := hK 0 (by omega)
    by_cases e : K 0 = K 1
    · rw [cmS, if_pos e]; exact h2
    · rw [cmE, if_neg e] at hE; omega
  | 5, _, _ => simp only [nodeE, nodeS, rlT] at *; exact hK 0 (by omega)
  | 6, _, _ => simp only [nodeE, nodeS, rlT] at *; exact hK 0 (by omega)
  | 7, _, _ => exact shp7_pos hE
  | 8, _, _ =>
    simp only [nodeE, nodeS] at *
    rw [shp8S, if_pos hE]
    exact (shp8E_iff.1 hE).2.2
  | 9, _, _ => exact pp8_pos hE
  | 10, _, _ =>
    simp only [nodeE, nodeS] at *
    by_cases e : sizeI x.sh = sizeI (K 0)
    · rw [reS, if_pos e]; exact lOk_one ha4
    · rw [reE, if_neg e] at hE; omega
  | 11, _, _ =>
    simp only [nodeE, nodeS, rlT] at *
    have h2 := hK 0 (by omega)
    by_cases e : x.sh.length = (K 0).length
    · rw [gtS, if_pos e]
      obtain ⟨_, g2, g3⟩ := isOrd_iff.1 (lOk_two ha4)
      rw [pick_size e.symm g3 g2]
      exact h2
    · rw [gtE, if_neg e] at hE; omega
  | 12, _, _ =>
    simp only [nodeE, nodeS, rlT] at *
    rw [jS, if_pos hE]
    rw [jE] at hE
    by_cases e : x.N < ((K 0).length : Int)
    · rw [if_pos e] at hE
      by_cases e2 : jAll K x.N.toNat (x.xs.length - 1) = true ∧ 0 < sizeI (jZ K x.N.toNat (x.xs.length - 1))
      · exact e2.2
      · rw [if_neg e2] at hE; omega
    · rw [if_neg e] at hE; omega
  | 13, _, _ =>
    simp only [nodeE, nodeS, rlT] at *
    have h2 := hK 0 (by omega)
    by_cases e : x.N < ((K 0).length : Int)
    · rw [gsS, if_pos e]; exact wo_pos h2 (by omega)
    · rw [gsE, if_neg e] at hE; omega

/-- The look-up. -/
def zeroR : Value := .agg #[.int .i64 0, .int .i64 0, .int .i64 0, .int .i64 0, .int .i64 0, .int .i64 0, .nilFunc, .nilFunc]

theorem zeroR_run (w : World) : (zeroValue 59).run Try.prog w = .ok zeroR w := by kernel_rfl

theorem look_yes {w : World} {b p k : Nat} (hb : w.heap[b]? = some (.map (ruEs p 13) 13)) (h1 : 1 ≤ k) (h13 : k ≤ 13) :
    (Instr.lookup 53 (.map (some b)) (.int .u8 (k : Int)) true).run Try.prog w = .ok (.tuple #[(rlT k).v p, .bool true]) w := by
  have hkey : MapKept.IsKey (.int .u8) (.int .u8 (k : Int)) := rfl
  have ht : Try.prog.underlying 53 = some (.map 32 59) := Try.underlying53
  have hk : Try.prog.underlying 32 = some (.int .u8) := Try.underlying32
  rcases MapKept.findNow_spec hkey (ruEs p 13).toList 0 (ruKeys p 13) with ⟨_, h2⟩ | ⟨j, e, hf, h5, h6⟩
  · exfalso
    obtain ⟨i, rfl⟩ : ∃ i, k = i + 1 := ⟨k - 1, by omega⟩
    refine h2 ⟨.int .u8 ((i : Int) + 1), (rlT (i + 1)).v p, i⟩ ?_ (by simp)
    simp only [ruEs, List.mem_map, List.mem_range]
    exact ⟨i, by omega, rfl⟩
  · have hmem := List.mem_of_getElem? h5
    simp only [ruEs, List.mem_map, List.mem_range] at hmem
    obtain ⟨i, hi, rfl⟩ := hmem
    simp only [Value.int.injEq, true_and] at h6
    obtain rfl : k = i + 1 := by omega
    have e9 : ((i + 1 : Nat) : Int) = (i : Int) + 1 := by omega
    rw [e9] at hkey hf ⊢
    simp [Instr.lookup, run_underlying ht, MapKept.run_getObj_map hb, MapKept.run_checkKey hk hkey, MapKept.run_findKey hk hf, Result.andThen]

theorem look_no {w : World} {b p : Nat} {k : Int} (hb : w.heap[b]? = some (.map (ruEs p 13) 13)) (h1 : k < 1 ∨ 13 < k) :
    (Instr.lookup 53 (.map (some b)) (.int .u8 k) true).run Try.prog w = .ok (.tuple #[zeroR, .bool false]) w := by
  have hkey : MapKept.IsKey (.int .u8) (.int .u8 k) := rfl
  have ht : Try.prog.underlying 53 = some (.map 32 59) := Try.underlying53
  have hk : Try.prog.underlying 32 = some (.int .u8) := Try.underlying32
  rcases MapKept.findNow_spec hkey (ruEs p 13).toList 0 (ruKeys p 13) with ⟨hf, _⟩ | ⟨j, e, hf, h5, h6⟩
  · simp [Instr.lookup, run_underlying ht, MapKept.run_getObj_map hb, MapKept.run_checkKey hk hkey, MapKept.run_findKey hk hf, Result.andThen, zeroR_run]
    try rfl
  · exfalso
    have hmem := List.mem_of_getElem? h5
    simp only [ruEs, List.mem_map, List.mem_range] at hmem
    obtain ⟨i, hi, rfl⟩ := hmem
    simp only [Value.int.injEq, true_and] at h6
    omega

/-- What a rule answers, of a node that conforms to it and takes in nodes that are known. -/
theorem krule_any (k p : Nat) (A : Option Addr) (n c : Nat) (gs : List Sg) (x : Nd) (w : World) (h1 : 1 ≤ k) (h13 : k ≤ 13) (hK : KnAt w p A n c gs) (hx : x.Ok w) (ha : alw (rlT k) x = true) (hal : allKn x.xs n = true) (hpos : ∀ g ∈ gs, 0 < sizeI g.s) :
    Calls Try.prog (rlT k).f #[.pointer (some ⟨p, 0, none⟩), x.v] w fun e w' => ∃ R m kc, e = .returned (.tuple #[.slice R m kc, .int .i64 (nodeE x (kn gs x.xs) k)]) ∧ w'.ownsRow w.heap.size 3 1 (.slice R m kc) m ((nodeS x (kn gs x.xs) k).map (Value.int .i64)) ∧ m ≤ 4 ∧ Below w.heap.size w w' := by
  obtain ⟨ha1, ha2, ha3, ha4⟩ := alw_parts ha
  have hni : x.xs.length = x.ni := lies_len9 hx.1
  have hns : x.sh.length = x.ns := lies_len9 hx.2.1
  have hsz : ∀ s : List Int, 0 < sizeI s → 1 ≤ s.length ∧ s.length ≤ 4 := fun s h => ⟨(sizeI_pos h).1, (sizeI_pos h).2.1⟩
  match k, h1, h13 with
  | 1, _, _ => have h := hsz _ (lOk_one ha4); exact kown_any p A n c gs x w hK hx (by omega) (by omega)
  | 2, _, _ => have h := hsz _ (lOk_one ha4); exact kown_any p A n c gs x w hK hx (by omega) (by omega)
  | 3, _, _ => simp only [rlT] at *; exact kcommon_any p A n c gs x w hK hx (by omega) hal hpos
  | 4, _, _ => simp only [rlT] at *; exact kcommon_any p A n c gs x w hK hx (by omega) hal hpos
  | 5, _, _ => simp only [rlT] at *; exact kfirst_any p A n c gs x w hK hx (by omega) hal hpos
  | 6, _, _ => simp only [rlT] at *; exact kfirst_any p A n c gs x w hK hx (by omega) hal hpos
  | 7, _, _ => simp only [rlT] at *; exact kproduct_any p A n c gs x w hK hx (by omega) hal hpos
  | 8, _, _ => simp only [rlT] at *; exact kwindow_any p A n c gs x w hK hx (by omega) hal hpos
  | 9, _, _ => simp only [rlT] at *; exact kpool_any p A n c gs x w hK hx (by omega) hal hpos
  | 10, _, _ => have h := hsz _ (lOk_one ha4); simp only [rlT] at *; exact kshaped_any p A n c gs x w hK hx (by omega) hal hpos (by omega) (by omega)
  | 11, _, _ => have h := lOk_two ha4; simp only [rlT] at *; exact kturned_any p A n c gs x w hK hx (by omega) hal hpos h
  | 12, _, _ =>
    simp only [rlT] at *
    have h := kjoined_any p A n c gs x w hK hx (by omega) hal hpos (by omega) (by omega)
    rw [gjE_K, gjS_K] at h
    exact h
  | 13, _, _ => simp only [rlT] at *; exact ksummed_any p A n c gs x w hK hx (by omega) hal hpos (by omega)

end Go.Proofs.Ytdlhhkegkfhmoaa
