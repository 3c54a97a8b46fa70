/-
  The memory of like: the pattern's variable, the variable of places, two rows of places.
-/
import Derived.Test.YtchajbcmgdnpmaaGreatDoorPK
namespace Go.Proofs.YtchajbcmgdnpmaaGreatDoor
open Go.RowKit

set_option maxRecDepth 100000 in
theorem make_bools (n : Nat) (hn : n ≤ 200) (x : World) : (Instr.makeSlice 148 (.int .i64 ((n : Int) + 1)) (.int .i64 ((n : Int) + 1))).run Tryz.prog x = .ok (.slice (some ⟨x.heap.size, 0, none⟩) (n + 1) (n + 1)) (x.alloc (.cells (madeCells #[.bool false] (n + 1)) 4)) := by
  obtain ⟨i, hi, hz, hy, hs⟩ : ∃ i, Tryz.prog.info? 4 = some i ∧ i.zero = some (.bool false) ∧ i.bytes = 1 ∧ i.size = 1 := ⟨_, rfl, rfl, rfl, rfl⟩
  have h := run_make (P := Tryz.prog) x 148 4 i (.bool false) Tryz.underlying148 hi hz .i64 .i64 ((n : Int) + 1) ((n : Int) + 1) (by omega) (by omega) (by rw [hy]; omega) (by omega)
  have e : ((n : Int) + 1).toNat = n + 1 := by omega
  rw [e, hs, Nat.mul_one] at h
  exact h

theorem heap_setCells {g k : Nat} (hk : k ≠ g) : ∀ (vs : List Value) (o : Nat) (z : World), (z.setCells g o vs).heap[k]? = z.heap[k]?
  | [], _, _ => rfl
  | _ :: r, o, _ => (heap_setCells hk r (o + 1) _).trans (Below.heap_setCell _ _ _ _ hk)
/-- Since w: the pattern at block w.heap.size, the variable of places at a, its row g1 with the places B, another row g2. -/
structure Lik (w x : World) (p : ByteArray) (a g1 g2 : Nat) (B B2 : Nat → Bool) : Prop where
  HB : Below w.heap.size w x
  cp : x.cell? ⟨w.heap.size, 0, none⟩ = some (.string p)
  ca : x.cell? ⟨a, 0, none⟩ = some (.slice (some ⟨g1, 0, none⟩) (p.size + 1) (p.size + 1))
  fa : x.frozen? ⟨a, 0, none⟩ = false
  r1 : x.rowIs g1 4 (p.size + 1) (fun j => .bool (B j))
  r2 : x.rowIs g2 4 (p.size + 1) (fun j => .bool (B2 j))
  la : w.heap.size < a
  l1 : w.heap.size < g1
  l2 : w.heap.size < g2
  a1 : a ≠ g1
  a2 : a ≠ g2
  gg : g1 ≠ g2
variable {w x y : World} {p : ByteArray} {a g1 g2 : Nat} {B B2 B' : Nat → Bool}
theorem Lik.lta (h : Lik w x p a g1 g2 B B2) : a < x.heap.size := World.block_lt_of_cell? x _ h.ca
theorem Lik.ltp (h : Lik w x p a g1 g2 B B2) : w.heap.size < x.heap.size := World.block_lt_of_cell? x _ h.cp
/-- Other blocks turn. -/
theorem Lik.turn (h : Lik w x p a g1 g2 B B2) (hB : Below w.heap.size w y) (hs : ∀ k, k = w.heap.size ∨ k = a ∨ k = g1 ∨ k = g2 → y.heap[k]? = x.heap[k]?) : Lik w y p a g1 g2 B B2 :=
  ⟨hB, (World.cell?_of_block (w := x) (a := ⟨w.heap.size, 0, none⟩) (hs _ (by simp))).trans h.cp, (World.cell?_of_block (w := x) (a := ⟨a, 0, none⟩) (hs _ (by simp))).trans h.ca,
   (World.frozen?_of_block (w := x) (a := ⟨a, 0, none⟩) (hs _ (by simp))).trans h.fa, h.r1.of_block (hs _ (by simp)), h.r2.of_block (hs _ (by simp)), h.la, h.l1, h.l2, h.a1, h.a2, h.gg⟩
theorem Lik.alloc (h : Lik w x p a g1 g2 B B2) (o : Obj) : Lik w (x.alloc o) p a g1 g2 B B2 :=
  h.turn (h.HB.alloc h.HB.size o) (fun k hk => Below.heap_alloc _ _ _ (by
    rcases hk with rfl | rfl | rfl | rfl
    · exact h.ltp
    · exact h.lta
    · exact h.r1.lt
    · exact h.r2.lt))
theorem Lik.iter (h : Lik w x p a g1 g2 B B2) {b : Nat} (s : ByteArray) (pos : Nat) (hb : w.heap.size < b) (ha : b ≠ a) (h1 : b ≠ g1) (h2 : b ≠ g2) : Lik w (setIter x b s pos) p a g1 g2 B B2 :=
  h.turn (Below.setIter h.HB (by omega) s pos) (fun k hk => setIter_other _ (by omega) _ _)
theorem Lik.only (h : Lik w x p a g1 g2 B B2) (ho : Only g1 x y) (hr : y.rowIs g1 4 (p.size + 1) (fun j => .bool (B' j))) : Lik w y p a g1 g2 B' B2 :=
  ⟨ho.below (Nat.le_of_lt h.l1) h.HB, (ho.cell (by have := h.l1; omega)).trans h.cp, (ho.cell h.a1).trans h.ca, (World.frozen?_of_block (w := x) (a := ⟨a, 0, none⟩) (ho.block a h.a1)).trans h.fa, hr,
   h.r2.of_block (ho.block g2 (Ne.symm h.gg)), h.la, h.l1, h.l2, h.a1, h.a2, h.gg⟩
theorem Lik.swap (h : Lik w x p a g1 g2 B B2) : Lik w (x.setCell ⟨a, 0, none⟩ (.slice (some ⟨g2, 0, none⟩) (p.size + 1) (p.size + 1))) p a g2 g1 B2 B := by
  have hc : (x.cell? ⟨a, 0, none⟩).isSome = true := by rw [h.ca]; rfl
  exact ⟨h.HB.setCell (Nat.le_of_lt h.la) _, (World.cell?_of_block (w := x) (a := ⟨w.heap.size, 0, none⟩) (Below.heap_setCell _ _ _ _ (by have := h.la; show w.heap.size ≠ a; omega))).trans h.cp,
    World.cell?_setCell_same' _ _ _ hc, by simpa using h.fa, h.r2.setOther (Ne.symm h.a2) _, h.r1.setOther (Ne.symm h.a1) _, h.la, h.l2, h.l1, h.a2, h.a1, Ne.symm h.gg⟩
theorem Lik.clear (h : Lik w x p a g1 g2 B B2) : Lik w (x.setCells g1 0 (List.replicate (p.size + 1) (.bool false))) p a g1 g2 (fun _ => false) B2 := by
  have hb : ∀ k, k ≠ g1 → (x.setCells g1 0 (List.replicate (p.size + 1) (.bool false))).heap[k]? = x.heap[k]? := by
    intro k hk
    have : ∀ (vs : List Value) (o : Nat) (z : World), (z.setCells g1 o vs).heap[k]? = z.heap[k]? := by
      intro vs
      induction vs with
      | nil => intro o z; rfl
      | cons v r ih => intro o z; exact (ih _ _).trans (Below.heap_setCell _ _ _ _ hk)
    exact this _ _ _
  have h2 : Lik w (x.setCells g1 0 (List.replicate (p.size + 1) (.bool false))) p a g1 g2 (fun j => if 0 ≤ j ∧ j < 0 + (p.size + 1) then false else B j) B2 :=
    ⟨below_setCells (Nat.le_of_lt h.l1) _ _ _ h.HB, (World.cell?_of_block (w := x) (a := ⟨w.heap.size, 0, none⟩) (hb _ (by have := h.l1; show w.heap.size ≠ g1; omega))).trans h.cp, (World.cell?_of_block (w := x) (a := ⟨a, 0, none⟩) (hb _ h.a1)).trans h.ca,
     (World.frozen?_of_block (w := x) (a := ⟨a, 0, none⟩) (hb _ h.a1)).trans h.fa, (rowIs_setCells _ 0 _ _ h.r1).congr (fun j hj => by simp [hj]), h.r2.of_block (hb _ (Ne.symm h.gg)), h.la, h.l1, h.l2, h.a1, h.a2, h.gg⟩
  exact ⟨h2.HB, h2.cp, h2.ca, h2.fa, h2.r1.congr (fun j hj => by simp [hj]), h2.r2, h2.la, h2.l1, h2.l2, h2.a1, h2.a2, h2.gg⟩
theorem Lik.start {w X : World} {p : ByteArray} {a g1 g2 : Nat} (hB : Below w.heap.size w X) (hp : X.heap[w.heap.size]? = some (.cells #[.string p] 9 (0, 0)))
    (ha : X.heap[a]? = some (.cells #[.slice (some ⟨g1, 0, none⟩) (p.size + 1) (p.size + 1)] 148 (0, 0))) (h1 : X.heap[g1]? = some (.cells (madeCells #[.bool false] (p.size + 1)) 4 (0, 0))) (h2 : X.heap[g2]? = some (.cells (madeCells #[.bool false] (p.size + 1)) 4 (0, 0)))
    (la : w.heap.size < a) (l1 : w.heap.size < g1) (l2 : w.heap.size < g2) (a1 : a ≠ g1) (a2 : a ≠ g2) (gg : g1 ≠ g2) : Lik w X p a g1 g2 (fun _ => false) (fun _ => false) :=
  ⟨hB, by simp [World.cell?, hp], by simp [World.cell?, ha], by simp [World.frozen?, ha], ⟨_, h1, size_madeCells _ _, fun i hi => by simp [madeCells, hi, Nat.mod_one]⟩, ⟨_, h2, size_madeCells _ _, fun i hi => by simp [madeCells, hi, Nat.mod_one]⟩, la, l1, l2, a1, a2, gg⟩
theorem heap_new (w : World) (o : Obj) : (w.alloc o).heap[w.heap.size]? = some o := by
  show (w.heap.push o)[w.heap.size]? = _
  simp
theorem at4 (w : World) (o0 o1 o2 o3 : Obj) : Below w.heap.size w ((((w.alloc o0).alloc o1).alloc o2).alloc o3) ∧ ((((w.alloc o0).alloc o1).alloc o2).alloc o3).heap[w.heap.size]? = some o0 ∧ ((((w.alloc o0).alloc o1).alloc o2).alloc o3).heap[w.heap.size + 1]? = some o1 ∧
    ((((w.alloc o0).alloc o1).alloc o2).alloc o3).heap[w.heap.size + 1 + 1]? = some o2 ∧ ((((w.alloc o0).alloc o1).alloc o2).alloc o3).heap[w.heap.size + 1 + 1 + 1]? = some o3 := by
  refine ⟨(((new1 w o0).alloc (by simp) _).alloc (by simp <;> omega) _).alloc (by simp <;> omega) _, ?_, ?_, ?_, ?_⟩
  · rw [Below.heap_alloc _ _ _ (by simp <;> omega), Below.heap_alloc _ _ _ (by simp <;> omega), Below.heap_alloc _ _ _ (by simp)]
    exact heap_new _ _
  · rw [Below.heap_alloc _ _ _ (by simp <;> omega), Below.heap_alloc _ _ _ (by simp), ← sz1 w o0]
    exact heap_new _ _
  · rw [Below.heap_alloc _ _ _ (by simp), ← sz2 w o0 o1]
    exact heap_new _ _
  · rw [← sz3 w o0 o1 o2]
    exact heap_new _ _
/-- Where an iterator stands. -/
def itPos (x : World) (b : Nat) : Nat := match x.heap[b]? with | some (.stringIter _ k) => k | _ => 0
theorem itPos_of {b pos : Nat} {s : ByteArray} (h : x.heap[b]? = some (.stringIter s pos)) : itPos x b = pos := by simp [itPos, h]
end Go.Proofs.YtchajbcmgdnpmaaGreatDoor
