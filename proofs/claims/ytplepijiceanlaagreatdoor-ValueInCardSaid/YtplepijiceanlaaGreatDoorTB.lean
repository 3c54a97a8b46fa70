/-
  The law of truths: its walk, statement by statement.
-/
import Derived.Test.YtplepijiceanlaaGreatDoorTU
namespace Go.Proofs.YtplepijiceanlaaGreatDoor
open Go.RowKit

abbrev Ends9 (w : World) : Exit → Act → World → Prop := bodyPost Tryz.prog Tryz.f9 fun e w' => e = .returned (.bool true) ∧ Below w.heap.size w w'
/-- A block of strings. -/
def OpsAt (z : World) (g : Nat) (l : List ByteArray) : Prop := g < z.heap.size ∧ ∀ j, j < l.length → z.cell? ⟨g, j, none⟩ = some (.string (l.getD j ByteArray.empty))
theorem OpsAt.below {z y : World} {g : Nat} {l : List ByteArray} (h : OpsAt z g l) (hb : Below z.heap.size z y) : OpsAt y g l :=
  ⟨Nat.lt_of_lt_of_le h.1 hb.size, fun j hj => (bcell hb _ _ h.1).trans (h.2 j hj)⟩
theorem OpsAt.new (x : World) (l : List ByteArray) (t : TypeId) : OpsAt (x.alloc (.cells (l.map Value.string).toArray t)) x.heap.size l := by
  refine ⟨by simp, fun j hj => ?_⟩
  rw [World.cell?_alloc_new]
  simp [hj]
/-- Blocks of strings and blocks of values. -/
structure KO (w x : World) (os : List (Nat × List ByteArray)) (l : List (Nat × Value × Value × Value)) : Prop where
  L : KL w x l
  O : ∀ p ∈ os, OpsAt x p.1 p.2
theorem KO.below {w x y : World} {os : List (Nat × List ByteArray)} {l : List (Nat × Value × Value × Value)} (h : KO w x os l) (hb : Below x.heap.size x y) : KO w y os l := ⟨h.L.below hb, fun p hp => (h.O p hp).below hb⟩
theorem KO.push {w x : World} {os : List (Nat × List ByteArray)} {l : List (Nat × Value × Value × Value)} (h : KO w x os l) (c0 c1 c2 : Value) (t : TypeId) : KO w (x.alloc (.cells #[c0, c1, c2] t)) os ((x.heap.size, c0, c1, c2) :: l) :=
  ⟨h.L.push _ _ _ _, fun p hp => (h.O p hp).below (new1 _ _)⟩
theorem KO.tl {w x : World} {os : List (Nat × List ByteArray)} {p : Nat × Value × Value × Value} {l : List (Nat × Value × Value × Value)} (h : KO w x os (p :: l)) : KO w x os l := ⟨h.L.tl, h.O⟩
theorem KO_new1 (x : World) (l : List ByteArray) (t : TypeId) : ∀ p ∈ [(x.heap.size, l)], OpsAt (x.alloc (.cells (l.map Value.string).toArray t)) p.1 p.2 := by
  intro p hp
  obtain rfl := List.mem_singleton.1 hp
  exact OpsAt.new x l t
theorem true_at {v : Va} {b : Bool} (h : eqV v.k v.n v.s 3 1 ⟨#[]⟩ = b) (w : World) : Calls Tryz.prog 17 #[v.val] w fun e w' => e = .returned (.bool b) ∧ Below w.heap.size w w' := by
  have := true_ v.k v.n v.s w
  rw [h] at this
  exact this
theorem com_mem (k : Nat) (h : k < comOps.length) : comOps.getD k ByteArray.empty ∈ comOps := by
  rw [List.getD_eq_getElem?_getD, List.getElem?_eq_getElem h]; exact List.getElem_mem h
def mgOps : List ByteArray := [sAnd, sOr, sOr, sAnd]
theorem mg_pair (k : Nat) (h : k < 2) : (mgOps.getD (k * 2) ByteArray.empty = sAnd ∧ mgOps.getD (k * 2 + 1) ByteArray.empty = sOr) ∨ (mgOps.getD (k * 2) ByteArray.empty = sOr ∧ mgOps.getD (k * 2 + 1) ByteArray.empty = sAnd) := by
  match k, h with
  | 0, _ => exact .inl ⟨rfl, rfl⟩
  | 1, _ => exact .inr ⟨rfl, rfl⟩
theorem KO.alloc {w x : World} {os : List (Nat × List ByteArray)} {l : List (Nat × Value × Value × Value)} (h : KO w x os l) (o : Obj) : KO w (x.alloc o) os l := h.below (new1 _ _)
theorem KO.alloc2 {w x : World} {os : List (Nat × List ByteArray)} {l : List (Nat × Value × Value × Value)} (h : KO w x os l) (s1 s2 : ByteArray) (t : TypeId) : KO w (x.alloc (.cells #[.string s1, .string s2] t)) ((x.heap.size, [s1, s2]) :: os) l :=
  ⟨h.L.below (new1 _ _), fun p hp => by
    rcases List.mem_cons.1 hp with rfl | hp
    · exact OpsAt.new x [s1, s2] t
    · exact (h.O p hp).below (new1 _ _)⟩
theorem KO.less {w x : World} {o : Nat × List ByteArray} {os : List (Nat × List ByteArray)} {l : List (Nat × Value × Value × Value)} (h : KO w x (o :: os) l) : KO w x os l := ⟨h.L, fun p hp => h.O p (List.mem_cons_of_mem _ hp)⟩
end Go.Proofs.YtplepijiceanlaaGreatDoor
