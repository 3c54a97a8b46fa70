/-
  Strings byte by byte, and the tables of like.
-/
import Derived.WalkKit
import Derived.Laws.RangeString
import Derived.Lib.LazyBuf
import Derived.Lib.SliceRun
import Derived.Below
import Derived.Test.YthomeplakcbfoaaGreatDoorF
namespace Go.Proofs.YthomeplakcbfoaaGreatDoor
section
open Go.RowKit

/-- Block b is turned into an iterator over s at pos. -/
def setIter (w : World) (b : Nat) (s : ByteArray) (pos : Nat) : World := { w with heap := w.heap.setIfInBounds b (.stringIter s pos) }
theorem setIter_same {w : World} {b : Nat} (hb : b < w.heap.size) (s : ByteArray) (pos : Nat) : (setIter w b s pos).heap[b]? = some (.stringIter s pos) := by
  simp [setIter, hb]
theorem setIter_other (w : World) {b k : Nat} (h : k ≠ b) (s : ByteArray) (pos : Nat) : (setIter w b s pos).heap[k]? = w.heap[k]? := by
  simp only [setIter, Array.getElem?_setIfInBounds]
  rw [if_neg (by omega)]
theorem setIter_size (w : World) (b : Nat) (s : ByteArray) (pos : Nat) : (setIter w b s pos).heap.size = w.heap.size := by simp [setIter]
theorem Below.setIter {B : Nat} {a w : World} (h : Below B a w) {b : Nat} (hb : B ≤ b) (s : ByteArray) (pos : Nat) : Below B a (setIter w b s pos) :=
  h.trans ⟨rfl, rfl, rfl, by simp [YthomeplakcbfoaaGreatDoor.setIter], fun k hk => setIter_other _ (by omega) _ _⟩
variable {P : Program}
theorem run_next_at {w : World} {b : Nat} {s : ByteArray} {pos : Nat} (hb : w.heap[b]? = some (.stringIter s pos)) (ty : TypeId) (h : pos < s.size) (ha : (s[pos]'h).toNat < 128) :
    (Instr.next (.pointer (some ⟨b, 0, none⟩)) true ty).run P w = .ok (.tuple #[.bool true, .int .i64 pos, .int .i32 (s[pos]'h).toNat]) (setIter w b s (pos + 1)) := by
  simp only [Instr.next, getObj, setObj, Sem.run_bind, Sem.run, hb, Result.andThen, h, if_true, decode_ascii s pos h ha]
  simp [goInt, setIter]
theorem run_next_at_end {w : World} {b : Nat} {s : ByteArray} {pos : Nat} (hb : w.heap[b]? = some (.stringIter s pos)) (ty : TypeId) (h : ¬ pos < s.size) :
    (Instr.next (.pointer (some ⟨b, 0, none⟩)) true ty).run P w = .ok (.tuple #[.bool false]) w := by
  simp [Instr.next, getObj, Sem.run, hb, h]

/-- Of block g alone the world x may have turned; no block is new. -/
structure Only (g : Nat) (w x : World) : Prop where
  os : x.os = w.os
  tape : x.tape = w.tape
  output : x.output = w.output
  size : x.heap.size = w.heap.size
  block : ∀ k, k ≠ g → x.heap[k]? = w.heap[k]?
theorem Only.refl (g : Nat) (w : World) : Only g w w := ⟨rfl, rfl, rfl, rfl, fun _ _ => rfl⟩
theorem Only.setCell {g : Nat} {w x : World} (h : Only g w x) (i : Nat) (u : Value) : Only g w (x.setCell ⟨g, i, none⟩ u) :=
  ⟨h.os, h.tape, h.output, (by simp [World.setCell, h.size]), fun k hk => (Below.heap_setCell _ _ _ _ hk).trans (h.block k hk)⟩
theorem Only.cell {g : Nat} {w x : World} (h : Only g w x) {b o : Nat} (hb : b ≠ g) : x.cell? ⟨b, o, none⟩ = w.cell? ⟨b, o, none⟩ := World.cell?_of_block (w := w) (a := ⟨b, o, none⟩) (h.block b hb)
theorem Only.below {g B : Nat} {a w x : World} (h : Only g w x) (hg : B ≤ g) (hb : Below B a w) : Below B a x :=
  hb.trans ⟨h.os, h.tape, h.output, Nat.le_of_eq h.size.symm, fun k hk => h.block k (by omega)⟩
end
end Go.Proofs.YthomeplakcbfoaaGreatDoor
namespace Go.Proofs.YthomeplakcbfoaaGreatDoor
section
open Go.RowKit

/-- From place i on a pattern has percent signs alone, up to j. -/
def Star (p : ByteArray) (i j : Nat) : Prop := i ≤ j ∧ ∀ k (h : k < p.size), i ≤ k → k < j → p[k].toNat = 37
set_option maxHeartbeats 1000000 in
theorem reach_ (p : ByteArray) (hp : p.size ≤ 200) (i0 : Nat) (hi0 : i0 ≤ p.size) (a g c : Nat) (t : TypeId) (B : Nat → Bool) (w : World)
    (h1 : w.cell? ⟨a, 0, none⟩ = some (.slice (some ⟨g, 0, none⟩) (p.size + 1) (p.size + 1))) (h2 : w.cell? ⟨c, 0, none⟩ = some (.string p)) (hr : w.rowIs g t (p.size + 1) (fun j => .bool (B j))) (hag : a ≠ g) (hcg : c ≠ g) :
    Calls Tryz.prog 147 #[.int .i64 i0, .pointer (some ⟨a, 0, none⟩), .pointer (some ⟨c, 0, none⟩)] w fun e x => e = .returned (.tuple #[]) ∧
      ∃ B' : Nat → Bool, x.rowIs g t (p.size + 1) (fun j => .bool (B' j)) ∧ (∀ j, j ≤ p.size → (B' j = true ↔ B j = true ∨ Star p i0 j)) ∧ Only g w x := by
  have c0 := hr.cell (i := i0) (by omega)
  have f0 := hr.frozen i0
  have HR := Lib.hid hr
  have H1 := Lib.hid h1
  have H2 := Lib.hid h2
  have HA := Lib.hid hag
  have HC := Lib.hid hcg
  clear hr hag hcg
  go_enter Tryz.func147, Tryz.ntmps147
  go_wp2
  go_loopw [0] (fun s x => ∃ (i : Nat) (B' : Nat → Bool), i0 ≤ i ∧ i ≤ p.size ∧ s = .int .i64 i ∧ x.rowIs g t (p.size + 1) (fun j => .bool (B' j)) ∧ (∀ j, j ≤ p.size → (B' j = true ↔ B j = true ∨ (i0 ≤ j ∧ j ≤ i))) ∧ (∀ k (h : k < p.size), i0 ≤ k → k < i → p[k].toNat = 37) ∧ Only g w x) (fun s x => p.size - (intOf s).toNat)
  case atStart =>
    refine ⟨i0, fun j => if j = i0 then true else B j, Nat.le_refl _, by omega, rfl, (HR.out.set i0 (.bool true)).congr (fun j _ => ?_), fun j hj => ?_, fun k h x y => by omega, (Only.refl g w).setCell i0 _⟩
    · by_cases e : j = i0 <;> simp [e]
    · by_cases e : j = i0
      · simp [e]
      · simp [e]; omega
  case round =>
    obtain ⟨i, B', hi1, hi2, rfl, hrow, hB, hS, hO⟩ := hrel
    have HRow := Lib.hid hrow
    have HB := Lib.hid hB
    have HS := Lib.hid hS
    have HO := Lib.hid hO
    clear hrow hB hS hO
    have k1 := (HO.out.cell (o := 0) HA.out).trans H1.out
    have k2 := (HO.out.cell (o := 0) HC.out).trans H2.out
    have e0 : ∀ B2 : Nat → Bool, (∀ j, j ≤ p.size → (B2 j = true ↔ B j = true ∨ (i0 ≤ j ∧ j ≤ i))) → (i < p.size → ∀ h : i < p.size, p[i].toNat ≠ 37) → ∀ j, j ≤ p.size → (B2 j = true ↔ B j = true ∨ Star p i0 j) := by
      intro B2 hB2 hn j hj
      rw [hB2 j hj]
      constructor
      · rintro (h | ⟨h, h'⟩)
        · exact Or.inl h
        · exact Or.inr ⟨h, fun k hk x y => HS.out k hk x (by omega)⟩
      · rintro (h | ⟨h, h'⟩)
        · exact Or.inl h
        · refine Or.inr ⟨h, ?_⟩
          by_cases q : j ≤ i
          · exact q
          · exfalso
            exact hn (by omega) (by omega) (h' i (by omega) hi1 (by omega))
    have E0 := Lib.hid e0
    clear e0
    by_cases hlt : i < p.size
    · by_cases hq : p[i].toNat = 37
      · have hq' : (p[i].toNat : Int) = 37 := by omega
        have c1 := HRow.out.cell (i := i + 1) (by omega)
        have f1 := HRow.out.frozen (i + 1)
        have HQ := Lib.hid hq
        clear hq
        go_wp2
        go_roundw
        case rel =>
          refine ⟨i + 1, fun j => if j = i + 1 then true else B' j, by omega, by omega, by go_num, (HRow.out.set (i + 1) (.bool true)).congr (fun j _ => ?_), fun j hj => ?_, fun k h x y => ?_, HO.out.setCell (i + 1) _⟩
          · by_cases e : j = i + 1 <;> simp [e]
          · by_cases e : j = i + 1
            · simp [e]; omega
            · have := HB.out j hj
              simp only [e, if_false, this]
              constructor
              · rintro (h | h)
                · exact Or.inl h
                · exact Or.inr (by omega)
              · rintro (h | h)
                · exact Or.inl h
                · exact Or.inr (by omega)
          · by_cases e : k = i
            · subst e; exact HQ.out
            · exact HS.out k h x (by omega)
        case measure => simp [intOf]; omega
      · have hq' : ((p[i].toNat : Int) == 37) = false := by simpa using (by omega : ¬ (p[i].toNat : Int) = 37)
        have HQ := Lib.hid hq
        clear hq
        go_wp2
        go_end0
        exact ⟨rfl, B', HRow.out, E0.out B' HB.out (fun _ _ => HQ.out), HO.out⟩
    · go_wp2
      go_end0
      exact ⟨rfl, B', HRow.out, E0.out B' HB.out (fun h => absurd h hlt), HO.out⟩
end
end Go.Proofs.YthomeplakcbfoaaGreatDoor
namespace Go.Proofs.YthomeplakcbfoaaGreatDoor
section
open Go.RowKit

/-- Whether a string is as a pattern says: 37 stands for any bytes, 95 for any one byte. -/
def lk : List UInt8 → List UInt8 → Bool
  | [], [] => true
  | _ :: _, [] => false
  | [], c :: p => c == 37 && lk [] p
  | a :: s, c :: p => if c == 37 then lk (a :: s) p || lk s (c :: p) else (c == 95 || c == a) && lk s p
termination_by s p => s.length + p.length

/-- The pattern from place k on. -/
def dr (p : ByteArray) (k : Nat) : List UInt8 := p.data.toList.drop k
theorem dr_lt {p : ByteArray} {k : Nat} (h : k < p.size) : dr p k = p[k] :: dr p (k + 1) := by
  unfold dr
  have h' : k < p.data.toList.length := by simpa using h
  rw [List.drop_eq_getElem_cons h']
  rfl
theorem dr_end (p : ByteArray) : dr p p.size = [] := by
  unfold dr
  exact List.drop_of_length_le (by simp)
theorem pc_of {c : UInt8} (h : c.toNat = 37) : c = 37 := UInt8.toNat_inj.1 h
theorem pc_not {c : UInt8} (h : ¬ c.toNat = 37) : (c == 37) = false := by
  cases e : c == 37
  · rfl
  · exact absurd (by rw [eq_of_beq e]; rfl) h
theorem lk_pc_skip (v q : List UInt8) (h : lk v q = true) : lk v (37 :: q) = true := by
  cases v with
  | nil => simp [lk, h]
  | cons a s => simp [lk, h]
theorem lk_star {p : ByteArray} {i j : Nat} (hj : j ≤ p.size) (h : Star p i j) (v : List UInt8) (hl : lk v (dr p j) = true) : lk v (dr p i) = true := by
  obtain ⟨hij, hs⟩ := h
  obtain ⟨d, rfl⟩ : ∃ d, j = i + d := ⟨j - i, by omega⟩
  induction d with
  | zero => exact hl
  | succ d ih =>
    have hlt : i + d < p.size := by omega
    refine ih (by omega) ?_ (by omega) (fun k hk x y => hs k hk x (by omega))
    rw [dr_lt hlt, pc_of (hs (i + d) hlt (by omega) (by omega))]
    exact lk_pc_skip _ _ hl

/-- The places that place k leads to over a letter. -/
def Fires (p : ByteArray) (a : Nat) (k j : Nat) : Prop := ∃ h : k < p.size, (p[k].toNat = 37 ∧ Star p k j) ∨ (¬ p[k].toNat = 37 ∧ (p[k].toNat = 95 ∨ p[k].toNat = a) ∧ Star p (k + 1) j)
/-- Behind a place at a percent sign the next is there, too. -/
def Closed (p : ByteArray) (B : Nat → Bool) : Prop := ∀ k (h : k < p.size), B k = true → p[k].toNat = 37 → B (k + 1) = true
/-- The places B after the letters u. -/
def After (p : ByteArray) (u : List UInt8) (B : Nat → Bool) : Prop := Closed p B ∧ ∀ v, lk (u ++ v) (dr p 0) = true ↔ ∃ k, k ≤ p.size ∧ B k = true ∧ lk v (dr p k) = true

theorem star_succ {p : ByteArray} {i j : Nat} (h : Star p i j) (hj : j < p.size) (h37 : p[j].toNat = 37) : Star p i (j + 1) :=
  ⟨by have := h.1; omega, fun k hk x y => by
    by_cases e : k = j
    · subst e; exact h37
    · exact h.2 k hk x (by omega)⟩
theorem after_start {p : ByteArray} {B : Nat → Bool} (hB : ∀ j, j ≤ p.size → (B j = true ↔ Star p 0 j)) : After p [] B := by
  refine ⟨fun k h hk h37 => (hB (k + 1) (by omega)).2 (star_succ ((hB k (by omega)).1 hk) h h37), fun v => ⟨fun h => ⟨0, by omega, (hB 0 (by omega)).2 ⟨Nat.le_refl _, fun k hk x y => by omega⟩, h⟩, ?_⟩⟩
  rintro ⟨k, hk, hb, hl⟩
  exact lk_star hk ((hB k hk).1 hb) v hl
theorem fire_to {p : ByteArray} {B : Nat → Bool} (hC : Closed p B) (a : UInt8) (v : List UInt8) : ∀ (d k : Nat), p.size - k = d → k ≤ p.size → B k = true → lk (a :: v) (dr p k) = true → ∃ k' k2, k' < p.size ∧ B k' = true ∧ k2 ≤ p.size ∧ Fires p a.toNat k' k2 ∧ lk v (dr p k2) = true
  | 0, k, hd, hk, hb, hl => by
    obtain rfl : k = p.size := by omega
    rw [dr_end] at hl
    simp [lk] at hl
  | d + 1, k, hd, hk, hb, hl => by
    have hlt : k < p.size := by omega
    rw [dr_lt hlt] at hl
    by_cases h37 : p[k].toNat = 37
    · rw [pc_of h37] at hl
      simp only [lk, beq_self_eq_true, if_true, Bool.or_eq_true] at hl
      rcases hl with hl | hl
      · exact fire_to hC a v d (k + 1) (by omega) (by omega) (hC k hlt hb h37) hl
      · refine ⟨k, k, hlt, hb, by omega, ⟨hlt, Or.inl ⟨h37, Nat.le_refl _, fun k' hk' x y => by omega⟩⟩, ?_⟩
        rw [dr_lt hlt, pc_of h37]
        exact hl
    · simp only [lk, pc_not h37, Bool.false_eq_true, if_false, Bool.and_eq_true, Bool.or_eq_true, beq_iff_eq] at hl
      refine ⟨k, k + 1, hlt, hb, by omega, ⟨hlt, Or.inr ⟨h37, ?_, Nat.le_refl _, fun k' hk' x y => by omega⟩⟩, hl.2⟩
      rcases hl.1 with e | e
      · exact Or.inl (by rw [e]; rfl)
      · exact Or.inr (by rw [e])
theorem fire_from {p : ByteArray} (a : UInt8) (v : List UInt8) (k k2 : Nat) (hk2 : k2 ≤ p.size) (hf : Fires p a.toNat k k2) (hl : lk v (dr p k2) = true) : lk (a :: v) (dr p k) = true := by
  obtain ⟨hlt, hf⟩ := hf
  rcases hf with ⟨h37, hs⟩ | ⟨h37, hm, hs⟩
  · have h := lk_star hk2 hs v hl
    rw [dr_lt hlt, pc_of h37] at h ⊢
    simp [lk, h]
  · have h := lk_star hk2 hs v hl
    rw [dr_lt hlt]
    simp only [lk, pc_not h37, Bool.false_eq_true, if_false, Bool.and_eq_true, Bool.or_eq_true, beq_iff_eq]
    refine ⟨?_, h⟩
    rcases hm with e | e
    · exact Or.inl (UInt8.toNat_inj.1 e)
    · exact Or.inr (UInt8.toNat_inj.1 e)
theorem after_step {p : ByteArray} {u : List UInt8} {B B' : Nat → Bool} (a : UInt8) (h : After p u B) (hB : ∀ j, j ≤ p.size → (B' j = true ↔ ∃ k, k < p.size ∧ B k = true ∧ Fires p a.toNat k j)) : After p (u ++ [a]) B' := by
  refine ⟨fun j hj hb h37 => ?_, fun v => ?_⟩
  · obtain ⟨k, hk, hbk, hlt, hf⟩ := (hB j (by omega)).1 hb
    refine (hB (j + 1) (by omega)).2 ⟨k, hk, hbk, hlt, ?_⟩
    rcases hf with ⟨x, hs⟩ | ⟨x, y, hs⟩
    · exact Or.inl ⟨x, star_succ hs hj h37⟩
    · exact Or.inr ⟨x, y, star_succ hs hj h37⟩
  · rw [List.append_assoc, List.singleton_append, h.2 (a :: v)]
    constructor
    · rintro ⟨k, hk, hb, hl⟩
      obtain ⟨k', k2, h1, h2, h3, h4, h5⟩ := fire_to h.1 a v _ k rfl hk hb hl
      exact ⟨k2, h3, (hB k2 h3).2 ⟨k', h1, h2, h4⟩, h5⟩
    · rintro ⟨k2, hk2, hb, hl⟩
      obtain ⟨k, h1, h2, h3⟩ := (hB k2 hk2).1 hb
      exact ⟨k, by omega, h2, fire_from a v k k2 hk2 h3 hl⟩
theorem closed_end {p : ByteArray} {B : Nat → Bool} (hC : Closed p B) : ∀ (d k : Nat), p.size - k = d → k ≤ p.size → B k = true → lk [] (dr p k) = true → B p.size = true
  | 0, k, hd, hk, hb, hl => by
    obtain rfl : k = p.size := by omega
    exact hb
  | d + 1, k, hd, hk, hb, hl => by
    have hlt : k < p.size := by omega
    rw [dr_lt hlt] at hl
    simp only [lk, Bool.and_eq_true, beq_iff_eq] at hl
    exact closed_end hC d (k + 1) (by omega) (by omega) (hC k hlt hb (by rw [hl.1]; rfl)) hl.2
theorem after_end {p : ByteArray} {u : List UInt8} {B : Nat → Bool} (h : After p u B) : lk u p.data.toList = B p.size := by
  have h2 := h.2 []
  rw [List.append_nil] at h2
  have e : dr p 0 = p.data.toList := rfl
  rw [e] at h2
  rw [Bool.eq_iff_iff, h2]
  constructor
  · rintro ⟨k, hk, hb, hl⟩
    exact closed_end h.1 _ k rfl hk hb hl
  · intro hb
    exact ⟨p.size, Nat.le_refl _, hb, by rw [dr_end]; simp [lk]⟩
end
end Go.Proofs.YthomeplakcbfoaaGreatDoor
namespace Go.Proofs.YthomeplakcbfoaaGreatDoor
section
open Go.RowKit

set_option maxRecDepth 100000 in
theorem make_bools (n : Nat) (hn : n ≤ 200) (x : World) : (Instr.makeSlice 148 (.int .i64 ((n : Int) + 1)) (.int .i64 ((n : Int) + 1))).run Tryz.prog x = .ok (.slice (some ⟨x.heap.size, 0, none⟩) (n + 1) (n + 1)) (x.alloc (.cells (madeCells #[.bool false] (n + 1)) 4)) := by
  obtain ⟨i, hi, hz, hy, hs⟩ : ∃ i, Tryz.prog.info? 4 = some i ∧ i.zero = some (.bool false) ∧ i.bytes = 1 ∧ i.size = 1 := ⟨_, rfl, rfl, rfl, rfl⟩
  have h := run_make (P := Tryz.prog) x 148 4 i (.bool false) Tryz.underlying148 hi hz .i64 .i64 ((n : Int) + 1) ((n : Int) + 1) (by omega) (by omega) (by rw [hy]; omega) (by omega)
  have e : ((n : Int) + 1).toNat = n + 1 := by omega
  rw [e, hs, Nat.mul_one] at h
  exact h

theorem heap_setCells {g k : Nat} (hk : k ≠ g) : ∀ (vs : List Value) (o : Nat) (z : World), (z.setCells g o vs).heap[k]? = z.heap[k]?
  | [], _, _ => rfl
  | _ :: r, o, _ => (heap_setCells hk r (o + 1) _).trans (Below.heap_setCell _ _ _ _ hk)
/-- Since w: the pattern at block w.heap.size, the variable of places at a, its row g1 with the places B, another row g2. -/
structure Lik (w x : World) (p : ByteArray) (a g1 g2 : Nat) (B B2 : Nat → Bool) : Prop where
  HB : Below w.heap.size w x
  cp : x.cell? ⟨w.heap.size, 0, none⟩ = some (.string p)
  ca : x.cell? ⟨a, 0, none⟩ = some (.slice (some ⟨g1, 0, none⟩) (p.size + 1) (p.size + 1))
  fa : x.frozen? ⟨a, 0, none⟩ = false
  r1 : x.rowIs g1 4 (p.size + 1) (fun j => .bool (B j))
  r2 : x.rowIs g2 4 (p.size + 1) (fun j => .bool (B2 j))
  la : w.heap.size < a
  l1 : w.heap.size < g1
  l2 : w.heap.size < g2
  a1 : a ≠ g1
  a2 : a ≠ g2
  gg : g1 ≠ g2
variable {w x y : World} {p : ByteArray} {a g1 g2 : Nat} {B B2 B' : Nat → Bool}
theorem Lik.lta (h : Lik w x p a g1 g2 B B2) : a < x.heap.size := World.block_lt_of_cell? x _ h.ca
theorem Lik.ltp (h : Lik w x p a g1 g2 B B2) : w.heap.size < x.heap.size := World.block_lt_of_cell? x _ h.cp
/-- Other blocks turn. -/
theorem Lik.turn (h : Lik w x p a g1 g2 B B2) (hB : Below w.heap.size w y) (hs : ∀ k, k = w.heap.size ∨ k = a ∨ k = g1 ∨ k = g2 → y.heap[k]? = x.heap[k]?) : Lik w y p a g1 g2 B B2 :=
  ⟨hB, (World.cell?_of_block (w := x) (a := ⟨w.heap.size, 0, none⟩) (hs _ (by simp))).trans h.cp, (World.cell?_of_block (w := x) (a := ⟨a, 0, none⟩) (hs _ (by simp))).trans h.ca,
   (World.frozen?_of_block (w := x) (a := ⟨a, 0, none⟩) (hs _ (by simp))).trans h.fa, h.r1.of_block (hs _ (by simp)), h.r2.of_block (hs _ (by simp)), h.la, h.l1, h.l2, h.a1, h.a2, h.gg⟩
theorem Lik.alloc (h : Lik w x p a g1 g2 B B2) (o : Obj) : Lik w (x.alloc o) p a g1 g2 B B2 :=
  h.turn (h.HB.alloc h.HB.size o) (fun k hk => Below.heap_alloc _ _ _ (by
    rcases hk with rfl | rfl | rfl | rfl
    · exact h.ltp
    · exact h.lta
    · exact h.r1.lt
    · exact h.r2.lt))
theorem Lik.iter (h : Lik w x p a g1 g2 B B2) {b : Nat} (s : ByteArray) (pos : Nat) (hb : w.heap.size < b) (ha : b ≠ a) (h1 : b ≠ g1) (h2 : b ≠ g2) : Lik w (setIter x b s pos) p a g1 g2 B B2 :=
  h.turn (Below.setIter h.HB (by omega) s pos) (fun k hk => setIter_other _ (by omega) _ _)
theorem Lik.only (h : Lik w x p a g1 g2 B B2) (ho : Only g1 x y) (hr : y.rowIs g1 4 (p.size + 1) (fun j => .bool (B' j))) : Lik w y p a g1 g2 B' B2 :=
  ⟨ho.below (Nat.le_of_lt h.l1) h.HB, (ho.cell (by have := h.l1; omega)).trans h.cp, (ho.cell h.a1).trans h.ca, (World.frozen?_of_block (w := x) (a := ⟨a, 0, none⟩) (ho.block a h.a1)).trans h.fa, hr,
   h.r2.of_block (ho.block g2 (Ne.symm h.gg)), h.la, h.l1, h.l2, h.a1, h.a2, h.gg⟩
theorem Lik.swap (h : Lik w x p a g1 g2 B B2) : Lik w (x.setCell ⟨a, 0, none⟩ (.slice (some ⟨g2, 0, none⟩) (p.size + 1) (p.size + 1))) p a g2 g1 B2 B := by
  have hc : (x.cell? ⟨a, 0, none⟩).isSome = true := by rw [h.ca]; rfl
  exact ⟨h.HB.setCell (Nat.le_of_lt h.la) _, (World.cell?_of_block (w := x) (a := ⟨w.heap.size, 0, none⟩) (Below.heap_setCell _ _ _ _ (by have := h.la; show w.heap.size ≠ a; omega))).trans h.cp,
    World.cell?_setCell_same' _ _ _ hc, by simpa using h.fa, h.r2.setOther (Ne.symm h.a2) _, h.r1.setOther (Ne.symm h.a1) _, h.la, h.l2, h.l1, h.a2, h.a1, Ne.symm h.gg⟩
theorem Lik.clear (h : Lik w x p a g1 g2 B B2) : Lik w (x.setCells g1 0 (List.replicate (p.size + 1) (.bool false))) p a g1 g2 (fun _ => false) B2 := by
  have hb : ∀ k, k ≠ g1 → (x.setCells g1 0 (List.replicate (p.size + 1) (.bool false))).heap[k]? = x.heap[k]? := by
    intro k hk
    have : ∀ (vs : List Value) (o : Nat) (z : World), (z.setCells g1 o vs).heap[k]? = z.heap[k]? := by
      intro vs
      induction vs with
      | nil => intro o z; rfl
      | cons v r ih => intro o z; exact (ih _ _).trans (Below.heap_setCell _ _ _ _ hk)
    exact this _ _ _
  have h2 : Lik w (x.setCells g1 0 (List.replicate (p.size + 1) (.bool false))) p a g1 g2 (fun j => if 0 ≤ j ∧ j < 0 + (p.size + 1) then false else B j) B2 :=
    ⟨below_setCells (Nat.le_of_lt h.l1) _ _ _ h.HB, (World.cell?_of_block (w := x) (a := ⟨w.heap.size, 0, none⟩) (hb _ (by have := h.l1; show w.heap.size ≠ g1; omega))).trans h.cp, (World.cell?_of_block (w := x) (a := ⟨a, 0, none⟩) (hb _ h.a1)).trans h.ca,
     (World.frozen?_of_block (w := x) (a := ⟨a, 0, none⟩) (hb _ h.a1)).trans h.fa, (rowIs_setCells _ 0 _ _ h.r1).congr (fun j hj => by simp [hj]), h.r2.of_block (hb _ (Ne.symm h.gg)), h.la, h.l1, h.l2, h.a1, h.a2, h.gg⟩
  exact ⟨h2.HB, h2.cp, h2.ca, h2.fa, h2.r1.congr (fun j hj => by simp [hj]), h2.r2, h2.la, h2.l1, h2.l2, h2.a1, h2.a2, h2.gg⟩
theorem Lik.start {w X : World} {p : ByteArray} {a g1 g2 : Nat} (hB : Below w.heap.size w X) (hp : X.heap[w.heap.size]? = some (.cells #[.string p] 9 (0, 0)))
    (ha : X.heap[a]? = some (.cells #[.slice (some ⟨g1, 0, none⟩) (p.size + 1) (p.size + 1)] 148 (0, 0))) (h1 : X.heap[g1]? = some (.cells (madeCells #[.bool false] (p.size + 1)) 4 (0, 0))) (h2 : X.heap[g2]? = some (.cells (madeCells #[.bool false] (p.size + 1)) 4 (0, 0)))
    (la : w.heap.size < a) (l1 : w.heap.size < g1) (l2 : w.heap.size < g2) (a1 : a ≠ g1) (a2 : a ≠ g2) (gg : g1 ≠ g2) : Lik w X p a g1 g2 (fun _ => false) (fun _ => false) :=
  ⟨hB, by simp [World.cell?, hp], by simp [World.cell?, ha], by simp [World.frozen?, ha], ⟨_, h1, size_madeCells _ _, fun i hi => by simp [madeCells, hi, Nat.mod_one]⟩, ⟨_, h2, size_madeCells _ _, fun i hi => by simp [madeCells, hi, Nat.mod_one]⟩, la, l1, l2, a1, a2, gg⟩
theorem heap_new (w : World) (o : Obj) : (w.alloc o).heap[w.heap.size]? = some o := by
  show (w.heap.push o)[w.heap.size]? = _
  simp
theorem at4 (w : World) (o0 o1 o2 o3 : Obj) : Below w.heap.size w ((((w.alloc o0).alloc o1).alloc o2).alloc o3) ∧ ((((w.alloc o0).alloc o1).alloc o2).alloc o3).heap[w.heap.size]? = some o0 ∧ ((((w.alloc o0).alloc o1).alloc o2).alloc o3).heap[w.heap.size + 1]? = some o1 ∧
    ((((w.alloc o0).alloc o1).alloc o2).alloc o3).heap[w.heap.size + 1 + 1]? = some o2 ∧ ((((w.alloc o0).alloc o1).alloc o2).alloc o3).heap[w.heap.size + 1 + 1 + 1]? = some o3 := by
  refine ⟨(((new1 w o0).alloc (by simp) _).alloc (by simp <;> omega) _).alloc (by simp <;> omega) _, ?_, ?_, ?_, ?_⟩
  · rw [Below.heap_alloc _ _ _ (by simp <;> omega), Below.heap_alloc _ _ _ (by simp <;> omega), Below.heap_alloc _ _ _ (by simp)]
    exact heap_new _ _
  · rw [Below.heap_alloc _ _ _ (by simp <;> omega), Below.heap_alloc _ _ _ (by simp), ← sz1 w o0]
    exact heap_new _ _
  · rw [Below.heap_alloc _ _ _ (by simp), ← sz2 w o0 o1]
    exact heap_new _ _
  · rw [← sz3 w o0 o1 o2]
    exact heap_new _ _
/-- Where an iterator stands. -/
def itPos (x : World) (b : Nat) : Nat := match x.heap[b]? with | some (.stringIter _ k) => k | _ => 0
theorem itPos_of {b pos : Nat} {s : ByteArray} (h : x.heap[b]? = some (.stringIter s pos)) : itPos x b = pos := by simp [itPos, h]
end
end Go.Proofs.YthomeplakcbfoaaGreatDoor
