/- Literals in memory; contracts of callees that change nothing, told with 'Below'. -/
import Derived.Test.YtlalfjlcgabnnaaGreatDoorPut
import Derived.Laws.BytesArg
import Derived.Lib.SmallJoins
namespace Go.Proofs.YtlalfjlcgabnnaaGreatDoor
open Go.RowKit

theorem quiet_below {f : FuncId} {args : Array Value} {w : World} {E : Ending} (h : Calls Tryz.prog f args w fun e w' => e = E ∧ ∃ k, w' = w.drewN k) :
    Calls Tryz.prog f args w fun e w' => e = E ∧ Below w.heap.size w w' :=
  h.mono fun _ _ ⟨he, k, hk⟩ => ⟨he, by subst hk; exact below_drewN (Below.refl _ _) k⟩

theorem still_below {f : FuncId} {args : Array Value} {w : World} {E : Ending} (h : Calls Tryz.prog f args w fun e w' => e = E ∧ w = w') :
    Calls Tryz.prog f args w fun e w' => e = E ∧ Below w.heap.size w w' :=
  h.mono fun _ _ ⟨he, hk⟩ => ⟨he, by subst hk; exact Below.refl _ _⟩

/-- A literal of bytes, laid in a new block. -/
theorem lies_lit (w : World) (k : IntKind) (zs : List Int) (t : TypeId) : Lies (w.alloc (.cells (zs.map (Value.int k)).toArray t)) (some ⟨w.heap.size, 0, none⟩) zs.length (zs.map (Value.int k)) := by
  have h := lies_new w (zs.map (Value.int k)) t
  rwa [List.length_map] at h

theorem below_lit {B : Nat} {a w w' : World} {o : Obj} (h : Below B a w) (hB : B ≤ w.heap.size) (hb : Below (w.alloc o).heap.size (w.alloc o) w') : Below B a w' :=
  (h.alloc hB o).trans (hb.mono (by simp; omega))

theorem string_of (w : World) (g n c : Nat) (bs : List Int) (h : Lies w (some ⟨g, 0, none⟩) n (bs.map (Value.int .u8))) :
    (convert 75 9 (.slice (some ⟨g, 0, none⟩) n c)).run Tryz.prog w = .ok (.string (strOfNums bs)) w := by
  have hl : bs.length = n := by have := h.len; simpa using this
  refine run_convert_bytes_arg (P := Tryz.prog) w 75 5 Tryz.underlying75 Tryz.underlying5 g 0 n c bs hl (fun i hi => ?_) 9 Tryz.underlying9
  obtain ⟨b, o, e, _, hx⟩ := byte_at h (by omega)
  injection e with e
  injection e with e1 e2
  subst e1
  subst e2
  exact hx i hi

theorem lies_mark (w : World) (zs : List Int) (t : TypeId) (fr : Nat × Nat) : Lies (w.alloc (.cells (zs.map (Value.int .u8)).toArray t fr)) (some ⟨w.heap.size, 0, none⟩) zs.length (zs.map (Value.int .u8)) := by
  refine ⟨by simp, fun _ => ⟨w.heap.size, 0, rfl, by simp, fun j _ => ?_⟩⟩
  rw [Nat.zero_add, World.cell?_alloc_mark]
  simp

end Go.Proofs.YtlalfjlcgabnnaaGreatDoor
