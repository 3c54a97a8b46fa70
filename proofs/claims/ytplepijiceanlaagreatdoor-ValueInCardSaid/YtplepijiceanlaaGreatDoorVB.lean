/-
  The law of valid values: its walk, statement by statement.
-/
import Derived.Test.YtplepijiceanlaaGreatDoorTB
import Derived.Test.YtplepijiceanlaaGreatDoorSR
import Derived.Test.YtplepijiceanlaaGreatDoorAV
import Derived.Deep.RegionHeld3
import Derived.Deep.RegionWith
namespace Go.Proofs.YtplepijiceanlaaGreatDoor
open Go.RowKit

abbrev Ends3 (w : World) : Exit → Act → World → Prop := bodyPost Tryz.prog Tryz.f3 fun e w' => e = .returned (.bool true) ∧ Below w.heap.size w w'
theorem valid_at {v : Va} {b : Bool} (h : vld v.k v.n v.s = b) (w : World) : Calls Tryz.prog 15 #[v.val] w fun e w' => e = .returned (.bool b) ∧ Below w.heap.size w w' := by
  have := valid_ v.k v.n v.s w
  rw [h] at this
  exact this
theorem refValid_at {v : Va} {b : Bool} (h : vld v.k v.n v.s = b) (hs : v.s.size ≤ maxLen) (w : World) : Calls Tryz.prog 16 #[v.val] w fun e w' => e = .returned (.bool b) ∧ Below w.heap.size w w' := by
  have := ref_valid v.k v.n v.s w hs
  rw [h] at this
  exact this
theorem refTrue_at {v : Va} {b : Bool} (h : eqV v.k v.n v.s 3 1 ⟨#[]⟩ = b) (w : World) : Calls Tryz.prog 18 #[v.val] w fun e w' => e = .returned (.bool b) ∧ Below w.heap.size w w' := by
  have := ref_true v.k v.n v.s w
  rw [h] at this
  exact this
theorem same_at {u v : Va} {b : Bool} (h : eqV u.k u.n u.s v.k v.n v.s = b) (w : World) : Calls Tryz.prog 19 #[u.val, v.val] w fun e w' => e = .returned (.bool b) ∧ Below w.heap.size w w' := by
  have := same_ u.k u.n u.s v.k v.n v.s w
  rw [h] at this
  exact this
theorem refSame_at {u v : Va} {b : Bool} (h : eqV u.k u.n u.s v.k v.n v.s = b) (w : World) : Calls Tryz.prog 20 #[u.val, v.val] w fun e w' => e = .returned (.bool b) ∧ Below w.heap.size w w' := by
  have := ref_same u.k u.n u.s v.k v.n v.s w
  rw [h] at this
  exact this
theorem H6_drew {x : World} {p q o : Nat} {u v : Va} (h : x.cell? ⟨p, 0, none⟩ = some (.int .i64 u.k) ∧ x.cell? ⟨p, 1, none⟩ = some (.int .i64 u.n) ∧ x.cell? ⟨p, 2, none⟩ = some (.string u.s) ∧ x.cell? ⟨q, o, none⟩ = some (.int .i64 v.k) ∧ x.cell? ⟨q, o + 1, none⟩ = some (.int .i64 v.n) ∧ x.cell? ⟨q, o + 2, none⟩ = some (.string v.s)) : (x.drew.cell? ⟨p, 0, none⟩ = some (.int .i64 u.k) ∧ x.drew.cell? ⟨p, 1, none⟩ = some (.int .i64 u.n) ∧ x.drew.cell? ⟨p, 2, none⟩ = some (.string u.s) ∧ x.drew.cell? ⟨q, o, none⟩ = some (.int .i64 v.k) ∧ x.drew.cell? ⟨q, o + 1, none⟩ = some (.int .i64 v.n) ∧ x.drew.cell? ⟨q, o + 2, none⟩ = some (.string v.s)) ∧ Below x.heap.size x x.drew := ⟨h, (Below.refl _ _).drew⟩
theorem H6_call {a x y : World} {p q o : Nat} {u v : Va} (h : (x.cell? ⟨p, 0, none⟩ = some (.int .i64 u.k) ∧ x.cell? ⟨p, 1, none⟩ = some (.int .i64 u.n) ∧ x.cell? ⟨p, 2, none⟩ = some (.string u.s) ∧ x.cell? ⟨q, o, none⟩ = some (.int .i64 v.k) ∧ x.cell? ⟨q, o + 1, none⟩ = some (.int .i64 v.n) ∧ x.cell? ⟨q, o + 2, none⟩ = some (.string v.s)) ∧ Below a.heap.size a x) (hp : p < a.heap.size) (hq : q < a.heap.size) (hb : Below x.heap.size x y) : (y.cell? ⟨p, 0, none⟩ = some (.int .i64 u.k) ∧ y.cell? ⟨p, 1, none⟩ = some (.int .i64 u.n) ∧ y.cell? ⟨p, 2, none⟩ = some (.string u.s) ∧ y.cell? ⟨q, o, none⟩ = some (.int .i64 v.k) ∧ y.cell? ⟨q, o + 1, none⟩ = some (.int .i64 v.n) ∧ y.cell? ⟨q, o + 2, none⟩ = some (.string v.s)) ∧ Below a.heap.size a y := by
  have hs := h.2.size
  exact ⟨⟨(bcell hb _ _ (by omega)).trans h.1.1, (bcell hb _ _ (by omega)).trans h.1.2.1, (bcell hb _ _ (by omega)).trans h.1.2.2.1, (bcell hb _ _ (by omega)).trans h.1.2.2.2.1, (bcell hb _ _ (by omega)).trans h.1.2.2.2.2.1, (bcell hb _ _ (by omega)).trans h.1.2.2.2.2.2⟩, h.2.trans (hb.mono h.2.size)⟩
theorem H6_of {x : World} {p q o : Nat} {u v : Va} (h : B3 x p (.int .i64 u.k) (.int .i64 u.n) (.string u.s)) (_ : q < x.heap.size) (d0 : x.cell? ⟨q, o, none⟩ = some (.int .i64 v.k)) (d1 : x.cell? ⟨q, o + 1, none⟩ = some (.int .i64 v.n)) (d2 : x.cell? ⟨q, o + 2, none⟩ = some (.string v.s)) : x.cell? ⟨p, 0, none⟩ = some (.int .i64 u.k) ∧ x.cell? ⟨p, 1, none⟩ = some (.int .i64 u.n) ∧ x.cell? ⟨p, 2, none⟩ = some (.string u.s) ∧ x.cell? ⟨q, o, none⟩ = some (.int .i64 v.k) ∧ x.cell? ⟨q, o + 1, none⟩ = some (.int .i64 v.n) ∧ x.cell? ⟨q, o + 2, none⟩ = some (.string v.s) :=
  ⟨h.c0, h.c1, h.c2, d0, d1, d2⟩
/-- A box of the loop's, and that nothing else has turned since. -/
structure ZB (a x : World) (p : Nat) (u : Va) : Prop where
  q : B3 x p (.int .i64 u.k) (.int .i64 u.n) (.string u.s)
  h : Below a.heap.size a x
theorem ZB.below {a x y : World} {p : Nat} {u : Va} (h : ZB a x p u) (hb : Below x.heap.size x y) : ZB a y p u := ⟨h.q.below hb, h.h.trans (hb.mono h.h.size)⟩
theorem ZB.drew {a x : World} {p : Nat} {u : Va} (h : ZB a x p u) : ZB a x.drew p u := h.below (Below.refl _ _).drew
end Go.Proofs.YtplepijiceanlaaGreatDoor
