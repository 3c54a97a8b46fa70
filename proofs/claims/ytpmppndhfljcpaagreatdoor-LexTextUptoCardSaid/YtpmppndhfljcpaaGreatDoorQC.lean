/-
  What a call leaves that writes two blocks that came in.
-/
import Derived.Test.YtpmppndhfljcpaaGreatDoorQA
import Derived.Test.YtpmppndhfljcpaaGreatDoorQB
namespace Go.Proofs.YtpmppndhfljcpaaGreatDoor
open Go.RowKit

/-- Since w the call has written blocks R and T, that came in, and made blocks of its own. -/
structure KW (w x : World) (R : Nat) (cs : List Value) (T : Nat) (ds : List Value) (l : List (Nat × List Value)) : Prop where
  os : x.os = w.os
  tape : x.tape = w.tape
  output : x.output = w.output
  size : w.heap.size ≤ x.heap.size
  block : ∀ k, k < w.heap.size → k ≠ R → k ≠ T → x.heap[k]? = w.heap[k]?
  r : BL x R cs
  t : BL x T ds
  ne : R ≠ T
  lr : R < w.heap.size
  lt : T < w.heap.size
  q : GQ w.heap.size x l
variable {w x y : World} {R T : Nat} {cs ds cs' ds' : List Value} {l : List (Nat × List Value)}
theorem KW.start (h : BL w R cs) (k : BL w T ds) (hne : R ≠ T) : KW w w R cs T ds [] := ⟨rfl, rfl, rfl, Nat.le_refl _, fun _ _ _ _ => rfl, h, k, hne, h.lt, k.lt, trivial⟩
theorem KW.below (h : KW w x R cs T ds l) (hb : Below x.heap.size x y) : KW w y R cs T ds l :=
  ⟨hb.os.trans h.os, hb.tape.trans h.tape, hb.output.trans h.output, Nat.le_trans h.size hb.size, fun k hk h1 h2 => (hb.block k (Nat.lt_of_lt_of_le hk h.size)).trans (h.block k hk h1 h2), h.r.below hb, h.t.below hb, h.ne, h.lr, h.lt, h.q.below hb⟩
theorem KW.drew (h : KW w x R cs T ds l) : KW w x.drew R cs T ds l := h.below (Below.refl _ _).drew
theorem KW.push' (h : KW w x R cs T ds l) (b : Nat) (hb : x.heap.size = b) (es : List Value) (t : TypeId) : KW w (x.alloc (.cells es.toArray t)) R cs T ds ((b, es) :: l) := by
  subst hb
  have h2 := h.below (new1 x (.cells es.toArray t))
  exact ⟨h2.os, h2.tape, h2.output, h2.size, h2.block, h2.r, h2.t, h.ne, h.lr, h.lt, ⟨BL.new x es t, h.size, h.q.new_ne _ (Nat.le_refl _)⟩, h2.q⟩
theorem KW.tail {p : Nat × List Value} (h : KW w x R cs T ds (p :: l)) : KW w x R cs T ds l := ⟨h.os, h.tape, h.output, h.size, h.block, h.r, h.t, h.ne, h.lr, h.lt, h.q.2⟩
theorem KW.neR (h : KW w x R cs T ds l) : ∀ q ∈ l, R ≠ q.1 := fun q hq e => by have := (h.q.mem q hq).2; have := h.lr; omega
theorem KW.neT (h : KW w x R cs T ds l) : ∀ q ∈ l, T ≠ q.1 := fun q hq e => by have := (h.q.mem q hq).2; have := h.lt; omega
theorem KW.setT (h : KW w x R cs T ds l) (i : Nat) (v : Value) (hi : i < ds.length) : KW w (x.setCell ⟨T, i, none⟩ v) R cs T (ds.set i v) l :=
  ⟨h.os, h.tape, h.output, by simpa using h.size, fun k hk h1 h2 => (Below.heap_setCell _ _ _ _ h2).trans (h.block k hk h1 h2), h.r.other (Ne.symm h.ne) v, h.t.set i v hi, h.ne, h.lr, h.lt, h.q.other h.neT v⟩
theorem KW.setR (h : KW w x R cs T ds l) (i : Nat) (v : Value) (hi : i < cs.length) : KW w (x.setCell ⟨R, i, none⟩ v) R (cs.set i v) T ds l :=
  ⟨h.os, h.tape, h.output, by simpa using h.size, fun k hk h1 h2 => (Below.heap_setCell _ _ _ _ h1).trans (h.block k hk h1 h2), h.r.set i v hi, h.t.other h.ne v, h.ne, h.lr, h.lt, h.q.other h.neR v⟩
/-- A callee has written block R. -/
theorem KW.turnR (h : KW w x R cs T ds l) (k : KR x y R cs' []) : KW w y R cs' T ds l :=
  ⟨k.g.os.trans h.os, k.g.tape.trans h.tape, k.g.output.trans h.output, Nat.le_trans h.size k.g.size, fun j hj h1 h2 => (k.g.block j (Nat.lt_of_lt_of_le hj h.size) (fun e => by cases e; exact h1 rfl)).trans (h.block j hj h1 h2), k.r,
    h.t.of_block (k.g.block T h.t.lt (fun e => by cases e; exact h.ne rfl)), h.ne, h.lr, h.lt, h.q.of_blocks fun q hq => k.g.block _ (h.q.mem q hq).1.lt (fun e => by cases e; exact h.neR q hq rfl)⟩
/-- The first two of the blocks are handed to a callee that writes them. -/
theorem KG.turnW (h : KG w x ((T, ds) :: (R, cs) :: l)) (k : KW x y R cs' T ds' []) : KG w y ((T, ds') :: (R, cs') :: l) := by
  obtain ⟨hHB, ⟨⟨h1, h2, h3⟩, ⟨h4, h5, h6⟩, h7⟩⟩ := h
  refine ⟨⟨k.os.trans hHB.os, k.tape.trans hHB.tape, k.output.trans hHB.output, Nat.le_trans hHB.size k.size, fun j hj => ?_⟩, ⟨⟨k.t, h2, fun q hq => by
    rcases List.mem_cons.1 hq with rfl | hq
    · exact h3 (R, cs) (by simp)
    · exact h3 q (by simp [hq])⟩, ⟨k.r, h5, h6⟩, ?_⟩⟩
  · exact (k.block j (Nat.lt_of_lt_of_le hj hHB.size) (by omega) (by omega)).trans (hHB.block j hj)
  · exact h7.of_blocks fun q hq => k.block _ (h7.mem q hq).1.lt (fun e => h6 q hq e.symm) (fun e => h3 q (by simp [hq]) e.symm)
/-- The second of the blocks is handed to a callee that writes it. -/
theorem KG.turn2 {a b : Nat} {ca cb cb' : List Value} (h : KG w x ((a, ca) :: (b, cb) :: l)) (k : KR x y b cb' []) : KG w y ((a, ca) :: (b, cb') :: l) := by
  obtain ⟨hHB, ⟨⟨h1, h2, h3⟩, ⟨h4, h5, h6⟩, h7⟩⟩ := h
  refine ⟨hHB.grown k.g hHB.size (fun j hj => by cases hj; exact h5), ⟨⟨h1.of_block (k.g.block a h1.lt (fun e => h3 (b, cb) (by simp) (Option.some.inj e))), h2, fun q hq => ?_⟩, ⟨k.r, h5, h6⟩, ?_⟩⟩
  · rcases List.mem_cons.1 hq with rfl | hq
    · exact h3 (b, cb) (by simp)
    · exact h3 q (by simp [hq])
  · exact h7.of_blocks fun q hq => k.g.block _ (h7.mem q hq).1.lt (fun e => by cases e; exact h6 q hq rfl)
end Go.Proofs.YtpmppndhfljcpaaGreatDoor
