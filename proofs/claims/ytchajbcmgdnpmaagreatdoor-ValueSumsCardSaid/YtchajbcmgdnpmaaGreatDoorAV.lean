/-
  The chapter's examples hold: the regions of 'awake' from 12 on, each a theorem of its own.
-/
import Derived.Test.YtchajbcmgdnpmaaGreatDoorEX
import Derived.Deep.DeepCutAuto
namespace Go.Proofs.YtchajbcmgdnpmaaGreatDoor
open Go.RowKit

/-- Since w: no, null and yes at b, b + 1, b + 2; further blocks. -/
structure KA (w x : World) (b : Nat) (l : List (Nat × Value × Value × Value)) : Prop where
  B : K3 w x b (.int .i64 3) (.int .i64 0) (.string ⟨#[]⟩) (b + 1) (.int .i64 0) (.int .i64 0) (.string ⟨#[]⟩) (b + 1 + 1) (.int .i64 3) (.int .i64 1) (.string ⟨#[]⟩)
  L : KL w x l
theorem KA.below {w x y : World} {b : Nat} {l : List (Nat × Value × Value × Value)} (h : KA w x b l) (hb : Below x.heap.size x y) : KA w y b l := ⟨h.B.below hb, h.L.below hb⟩
theorem KA.alloc {w x : World} {b : Nat} {l : List (Nat × Value × Value × Value)} (h : KA w x b l) (o : Obj) : KA w (x.alloc o) b l := h.below (new1 _ _)
theorem KA.push {w x : World} {b : Nat} {l : List (Nat × Value × Value × Value)} (h : KA w x b l) (c0 c1 c2 : Value) (t : TypeId) : KA w (x.alloc (.cells #[c0, c1, c2] t)) b ((x.heap.size, c0, c1, c2) :: l) := ⟨h.B.alloc _, h.L.push _ _ _ _⟩
theorem KA.cons {w x : World} {b : Nat} {l : List (Nat × Value × Value × Value)} (h : KA w x b l) {g : Nat} {c0 c1 c2 : Value} (hq : B3 x g c0 c1 c2) : KA w x b ((g, c0, c1, c2) :: l) := ⟨h.B, h.L.HB, hq, h.L.q⟩
theorem setAny {B : Nat} {a w : World} (h : Below B a w) (g : Nat) (hg : B ≤ g) (u0 u1 u2 : Value) : Below B a (((w.setCell ⟨g, 0, none⟩ u0).setCell ⟨g, 1, none⟩ u1).setCell ⟨g, 2, none⟩ u2) :=
  ((h.setCell hg u0).setCell hg u1).setCell hg u2
theorem S_of {w x : World} {b g2 pw g ps pq pm pk pi pd pc pb pa : Nat} (h : KA w x b [(g2, .int .i64 1, .int .i64 5, .string ⟨#[]⟩), (pw, .int .i64 3, .int .i64 1, .string ⟨#[]⟩), (g, .int .i64 0, .int .i64 0, .string ⟨#[]⟩), (ps, .int .i64 3, .int .i64 1, .string ⟨#[]⟩), (pq, .int .i64 2, .int .i64 0, .string ⟨#[105, 116, 39, 115]⟩), (pm, .int .i64 2, .int .i64 0, .string ⟨#[98, 99]⟩), (pk, .int .i64 3, .int .i64 1, .string ⟨#[]⟩), (pi, .int .i64 1, .int .i64 (-1), .string ⟨#[]⟩), (pd, .int .i64 1, .int .i64 (-3), .string ⟨#[]⟩), (pc, .int .i64 0, .int .i64 0, .string ⟨#[]⟩), (pb, .int .i64 3, .int .i64 1, .string ⟨#[]⟩), (pa, .int .i64 3, .int .i64 0, .string ⟨#[]⟩)]) : x.cell? ⟨b, 0, none⟩ = some (.int .i64 3) ∧ x.cell? ⟨b, 1, none⟩ = some (.int .i64 0) ∧ x.cell? ⟨b, 2, none⟩ = some (.string ⟨#[]⟩) ∧ x.cell? ⟨b + 1, 0, none⟩ = some (.int .i64 0) ∧ x.cell? ⟨b + 1, 1, none⟩ = some (.int .i64 0) ∧ x.cell? ⟨b + 1, 2, none⟩ = some (.string ⟨#[]⟩) ∧ x.cell? ⟨b + 1 + 1, 0, none⟩ = some (.int .i64 3) ∧ x.cell? ⟨b + 1 + 1, 1, none⟩ = some (.int .i64 1) ∧ x.cell? ⟨b + 1 + 1, 2, none⟩ = some (.string ⟨#[]⟩) ∧ x.cell? ⟨g2, 1, none⟩ = some (.int .i64 5) ∧ x.cell? ⟨pw, 0, none⟩ = some (.int .i64 3) ∧ x.cell? ⟨pw, 1, none⟩ = some (.int .i64 1) ∧ x.cell? ⟨pw, 2, none⟩ = some (.string ⟨#[]⟩) ∧ x.cell? ⟨g, 0, none⟩ = some (.int .i64 0) ∧ x.cell? ⟨g, 1, none⟩ = some (.int .i64 0) ∧ x.cell? ⟨g, 2, none⟩ = some (.string ⟨#[]⟩) ∧ x.cell? ⟨ps, 0, none⟩ = some (.int .i64 3) ∧ x.cell? ⟨ps, 1, none⟩ = some (.int .i64 1) ∧ x.cell? ⟨ps, 2, none⟩ = some (.string ⟨#[]⟩) ∧ x.cell? ⟨pq, 2, none⟩ = some (.string ⟨#[105, 116, 39, 115]⟩) ∧ x.cell? ⟨pm, 2, none⟩ = some (.string ⟨#[98, 99]⟩) ∧ x.cell? ⟨pk, 0, none⟩ = some (.int .i64 3) ∧ x.cell? ⟨pk, 1, none⟩ = some (.int .i64 1) ∧ x.cell? ⟨pk, 2, none⟩ = some (.string ⟨#[]⟩) ∧ x.cell? ⟨pi, 1, none⟩ = some (.int .i64 (-1)) ∧ x.cell? ⟨pd, 1, none⟩ = some (.int .i64 (-3)) ∧ x.cell? ⟨pc, 0, none⟩ = some (.int .i64 0) ∧ x.cell? ⟨pc, 1, none⟩ = some (.int .i64 0) ∧ x.cell? ⟨pc, 2, none⟩ = some (.string ⟨#[]⟩) ∧ x.cell? ⟨pb, 0, none⟩ = some (.int .i64 3) ∧ x.cell? ⟨pb, 1, none⟩ = some (.int .i64 1) ∧ x.cell? ⟨pb, 2, none⟩ = some (.string ⟨#[]⟩) ∧ x.cell? ⟨pa, 0, none⟩ = some (.int .i64 3) ∧ x.cell? ⟨pa, 1, none⟩ = some (.int .i64 0) ∧ x.cell? ⟨pa, 2, none⟩ = some (.string ⟨#[]⟩) := ⟨h.B.q.c0, h.B.q.c1, h.B.q.c2, h.B.q'.c0, h.B.q'.c1, h.B.q'.c2, h.B.p.c0, h.B.p.c1, h.B.p.c2, h.L.q.1.c1, h.L.q.2.1.c0, h.L.q.2.1.c1, h.L.q.2.1.c2, h.L.q.2.2.1.c0, h.L.q.2.2.1.c1, h.L.q.2.2.1.c2, h.L.q.2.2.2.1.c0, h.L.q.2.2.2.1.c1, h.L.q.2.2.2.1.c2, h.L.q.2.2.2.2.1.c2, h.L.q.2.2.2.2.2.1.c2, h.L.q.2.2.2.2.2.2.1.c0, h.L.q.2.2.2.2.2.2.1.c1, h.L.q.2.2.2.2.2.2.1.c2, h.L.q.2.2.2.2.2.2.2.1.c1, h.L.q.2.2.2.2.2.2.2.2.1.c1, h.L.q.2.2.2.2.2.2.2.2.2.1.c0, h.L.q.2.2.2.2.2.2.2.2.2.1.c1, h.L.q.2.2.2.2.2.2.2.2.2.1.c2, h.L.q.2.2.2.2.2.2.2.2.2.2.1.c0, h.L.q.2.2.2.2.2.2.2.2.2.2.1.c1, h.L.q.2.2.2.2.2.2.2.2.2.2.1.c2, h.L.q.2.2.2.2.2.2.2.2.2.2.2.1.c0, h.L.q.2.2.2.2.2.2.2.2.2.2.2.1.c1, h.L.q.2.2.2.2.2.2.2.2.2.2.2.1.c2⟩
theorem KA.drew {w x : World} {b : Nat} {l : List (Nat × Value × Value × Value)} (h : KA w x b l) : KA w x.drew b l := h.below (Below.refl _ _).drew

theorem S_drew {x : World} {n : Nat} {c0 c1 c2 : Value} (h0 : x.cell? ⟨n, 0, none⟩ = some c0) (h1 : x.cell? ⟨n, 1, none⟩ = some c1) (h2 : x.cell? ⟨n, 2, none⟩ = some c2) :
    (x.drew.cell? ⟨n, 0, none⟩ = some c0 ∧ x.drew.cell? ⟨n, 1, none⟩ = some c1 ∧ x.drew.cell? ⟨n, 2, none⟩ = some c2) ∧ Below x.heap.size x x.drew := ⟨⟨h0, h1, h2⟩, (Below.refl _ _).drew⟩
theorem S_call {a x y : World} {n : Nat} {c0 c1 c2 : Value} (h : (x.cell? ⟨n, 0, none⟩ = some c0 ∧ x.cell? ⟨n, 1, none⟩ = some c1 ∧ x.cell? ⟨n, 2, none⟩ = some c2) ∧ Below a.heap.size a x) (hn : n < a.heap.size) (hb : Below x.heap.size x y) :
    (y.cell? ⟨n, 0, none⟩ = some c0 ∧ y.cell? ⟨n, 1, none⟩ = some c1 ∧ y.cell? ⟨n, 2, none⟩ = some c2) ∧ Below a.heap.size a y := by
  have hs := h.2.size
  exact ⟨⟨(bcell hb _ _ (by omega)).trans h.1.1, (bcell hb _ _ (by omega)).trans h.1.2.1, (bcell hb _ _ (by omega)).trans h.1.2.2⟩, h.2.trans (hb.mono h.2.size)⟩
theorem S_alloc {a x : World} {n : Nat} {c0 c1 c2 : Value} (h : (x.cell? ⟨n, 0, none⟩ = some c0 ∧ x.cell? ⟨n, 1, none⟩ = some c1 ∧ x.cell? ⟨n, 2, none⟩ = some c2) ∧ Below a.heap.size a x) (hn : n < a.heap.size) (o : Obj) :
    ((x.alloc o).cell? ⟨n, 0, none⟩ = some c0 ∧ (x.alloc o).cell? ⟨n, 1, none⟩ = some c1 ∧ (x.alloc o).cell? ⟨n, 2, none⟩ = some c2) ∧ Below a.heap.size a (x.alloc o) := S_call h hn (new1 _ _)

theorem S_bel {x y : World} {n : Nat} {c0 c1 c2 : Value} (h0 : x.cell? ⟨n, 0, none⟩ = some c0) (h1 : x.cell? ⟨n, 1, none⟩ = some c1) (h2 : x.cell? ⟨n, 2, none⟩ = some c2) (hn : n < x.heap.size) (hb : Below x.heap.size x y) :
    (y.cell? ⟨n, 0, none⟩ = some c0 ∧ y.cell? ⟨n, 1, none⟩ = some c1 ∧ y.cell? ⟨n, 2, none⟩ = some c2) ∧ Below x.heap.size x y := S_call ⟨⟨h0, h1, h2⟩, Below.refl _ _⟩ hn hb
theorem S_drewalloc {x : World} {n : Nat} {c0 c1 c2 : Value} (h0 : x.cell? ⟨n, 0, none⟩ = some c0) (h1 : x.cell? ⟨n, 1, none⟩ = some c1) (h2 : x.cell? ⟨n, 2, none⟩ = some c2) (hn : n < x.heap.size) (o : Obj) :
    ((x.alloc o).drew.cell? ⟨n, 0, none⟩ = some c0 ∧ (x.alloc o).drew.cell? ⟨n, 1, none⟩ = some c1 ∧ (x.alloc o).drew.cell? ⟨n, 2, none⟩ = some c2) ∧ Below x.heap.size x (x.alloc o).drew := S_call ⟨⟨h0, h1, h2⟩, Below.refl _ _⟩ hn (new1 _ _).drew
theorem S_set {a x : World} {n : Nat} {c0 c1 c2 : Value} (h : (x.cell? ⟨n, 0, none⟩ = some c0 ∧ x.cell? ⟨n, 1, none⟩ = some c1 ∧ x.cell? ⟨n, 2, none⟩ = some c2) ∧ Below a.heap.size a x) (hn : n < a.heap.size) (g : Nat) (hg : a.heap.size ≤ g) (v0 v1 v2 : Value) :
    (((((x.setCell ⟨g, 0, none⟩ v0).setCell ⟨g, 1, none⟩ v1).setCell ⟨g, 2, none⟩ v2).cell? ⟨n, 0, none⟩ = some c0 ∧ (((x.setCell ⟨g, 0, none⟩ v0).setCell ⟨g, 1, none⟩ v1).setCell ⟨g, 2, none⟩ v2).cell? ⟨n, 1, none⟩ = some c1 ∧ (((x.setCell ⟨g, 0, none⟩ v0).setCell ⟨g, 1, none⟩ v1).setCell ⟨g, 2, none⟩ v2).cell? ⟨n, 2, none⟩ = some c2)) ∧ Below a.heap.size a (((x.setCell ⟨g, 0, none⟩ v0).setCell ⟨g, 1, none⟩ v1).setCell ⟨g, 2, none⟩ v2) := by
  have hN : Below a.heap.size a (((x.setCell ⟨g, 0, none⟩ v0).setCell ⟨g, 1, none⟩ v1).setCell ⟨g, 2, none⟩ v2) := ((h.2.setCell hg v0).setCell hg v1).setCell hg v2
  exact ⟨⟨(bcell hN _ _ hn).trans ((bcell h.2 _ _ hn).symm.trans h.1.1), (bcell hN _ _ hn).trans ((bcell h.2 _ _ hn).symm.trans h.1.2.1), (bcell hN _ _ hn).trans ((bcell h.2 _ _ hn).symm.trans h.1.2.2)⟩, hN⟩


noncomputable def cd (n : Nat) : Code := tailC n (Tryz.f7.body.getD .skip)
/-- What is to be shown at the end. -/
abbrev Ends (w : World) : Exit → Act → World → Prop := bodyPost Tryz.prog Tryz.f7 fun e w' => e = .returned (.bool true) ∧ Below w.heap.size w w'

end Go.Proofs.YtchajbcmgdnpmaaGreatDoor
