/-
  A range over a string of ASCII bytes whose iterator lies in any block: one step, and its end. Nothing of the program is named here.
-/
import Derived.WalkKit
import Derived.Laws.RangeString
import Derived.Lib.LazyBuf
import Derived.Lib.SliceRun
import Derived.Below
namespace Go.Proofs.YtchajbcmgdnpmaaGreatDoor
open Go.RowKit

/-- Block b is turned into an iterator over s at pos. -/
def setIter (w : World) (b : Nat) (s : ByteArray) (pos : Nat) : World := { w with heap := w.heap.setIfInBounds b (.stringIter s pos) }
theorem setIter_same {w : World} {b : Nat} (hb : b < w.heap.size) (s : ByteArray) (pos : Nat) : (setIter w b s pos).heap[b]? = some (.stringIter s pos) := by
  simp [setIter, hb]
theorem setIter_other (w : World) {b k : Nat} (h : k ≠ b) (s : ByteArray) (pos : Nat) : (setIter w b s pos).heap[k]? = w.heap[k]? := by
  simp only [setIter, Array.getElem?_setIfInBounds]
  rw [if_neg (by omega)]
theorem setIter_size (w : World) (b : Nat) (s : ByteArray) (pos : Nat) : (setIter w b s pos).heap.size = w.heap.size := by simp [setIter]
theorem Below.setIter {B : Nat} {a w : World} (h : Below B a w) {b : Nat} (hb : B ≤ b) (s : ByteArray) (pos : Nat) : Below B a (setIter w b s pos) :=
  h.trans ⟨rfl, rfl, rfl, by simp [YtchajbcmgdnpmaaGreatDoor.setIter], fun k hk => setIter_other _ (by omega) _ _⟩
variable {P : Program}
theorem run_next_at {w : World} {b : Nat} {s : ByteArray} {pos : Nat} (hb : w.heap[b]? = some (.stringIter s pos)) (ty : TypeId) (h : pos < s.size) (ha : (s[pos]'h).toNat < 128) :
    (Instr.next (.pointer (some ⟨b, 0, none⟩)) true ty).run P w = .ok (.tuple #[.bool true, .int .i64 pos, .int .i32 (s[pos]'h).toNat]) (setIter w b s (pos + 1)) := by
  simp only [Instr.next, getObj, setObj, Sem.run_bind, Sem.run, hb, Result.andThen, h, if_true, decode_ascii s pos h ha]
  simp [goInt, setIter]
theorem run_next_at_end {w : World} {b : Nat} {s : ByteArray} {pos : Nat} (hb : w.heap[b]? = some (.stringIter s pos)) (ty : TypeId) (h : ¬ pos < s.size) :
    (Instr.next (.pointer (some ⟨b, 0, none⟩)) true ty).run P w = .ok (.tuple #[.bool false]) w := by
  simp [Instr.next, getObj, Sem.run, hb, h]

/-- Of block g alone the world x may have turned; no block is new. -/
structure Only (g : Nat) (w x : World) : Prop where
  os : x.os = w.os
  tape : x.tape = w.tape
  output : x.output = w.output
  size : x.heap.size = w.heap.size
  block : ∀ k, k ≠ g → x.heap[k]? = w.heap[k]?
theorem Only.refl (g : Nat) (w : World) : Only g w w := ⟨rfl, rfl, rfl, rfl, fun _ _ => rfl⟩
theorem Only.setCell {g : Nat} {w x : World} (h : Only g w x) (i : Nat) (u : Value) : Only g w (x.setCell ⟨g, i, none⟩ u) :=
  ⟨h.os, h.tape, h.output, (by simp [World.setCell, h.size]), fun k hk => (Below.heap_setCell _ _ _ _ hk).trans (h.block k hk)⟩
theorem Only.cell {g : Nat} {w x : World} (h : Only g w x) {b o : Nat} (hb : b ≠ g) : x.cell? ⟨b, o, none⟩ = w.cell? ⟨b, o, none⟩ := World.cell?_of_block (w := w) (a := ⟨b, o, none⟩) (h.block b hb)
theorem Only.below {g B : Nat} {a w x : World} (h : Only g w x) (hg : B ≤ g) (hb : Below B a w) : Below B a x :=
  hb.trans ⟨h.os, h.tape, h.output, Nat.le_of_eq h.size.symm, fun k hk => h.block k (by omega)⟩
end Go.Proofs.YtchajbcmgdnpmaaGreatDoor
