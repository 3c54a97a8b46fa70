/-
  What a pattern says of a string, by places in the pattern: the pure part.
-/
import Derived.Test.YtchajbcmgdnpmaaGreatDoorPL
namespace Go.Proofs.YtchajbcmgdnpmaaGreatDoor
open Go.RowKit

/-- Whether a string is as a pattern says: 37 stands for any bytes, 95 for any one byte. -/
def lk : List UInt8 → List UInt8 → Bool
  | [], [] => true
  | _ :: _, [] => false
  | [], c :: p => c == 37 && lk [] p
  | a :: s, c :: p => if c == 37 then lk (a :: s) p || lk s (c :: p) else (c == 95 || c == a) && lk s p
termination_by s p => s.length + p.length

/-- The pattern from place k on. -/
def dr (p : ByteArray) (k : Nat) : List UInt8 := p.data.toList.drop k
theorem dr_lt {p : ByteArray} {k : Nat} (h : k < p.size) : dr p k = p[k] :: dr p (k + 1) := by
  unfold dr
  have h' : k < p.data.toList.length := by simpa using h
  rw [List.drop_eq_getElem_cons h']
  rfl
theorem dr_end (p : ByteArray) : dr p p.size = [] := by
  unfold dr
  exact List.drop_of_length_le (by simp)
theorem pc_of {c : UInt8} (h : c.toNat = 37) : c = 37 := UInt8.toNat_inj.1 h
theorem pc_not {c : UInt8} (h : ¬ c.toNat = 37) : (c == 37) = false := by
  cases e : c == 37
  · rfl
  · exact absurd (by rw [eq_of_beq e]; rfl) h
theorem lk_pc_skip (v q : List UInt8) (h : lk v q = true) : lk v (37 :: q) = true := by
  cases v with
  | nil => simp [lk, h]
  | cons a s => simp [lk, h]
theorem lk_star {p : ByteArray} {i j : Nat} (hj : j ≤ p.size) (h : Star p i j) (v : List UInt8) (hl : lk v (dr p j) = true) : lk v (dr p i) = true := by
  obtain ⟨hij, hs⟩ := h
  obtain ⟨d, rfl⟩ : ∃ d, j = i + d := ⟨j - i, by omega⟩
  induction d with
  | zero => exact hl
  | succ d ih =>
    have hlt : i + d < p.size := by omega
    refine ih (by omega) ?_ (by omega) (fun k hk x y => hs k hk x (by omega))
    rw [dr_lt hlt, pc_of (hs (i + d) hlt (by omega) (by omega))]
    exact lk_pc_skip _ _ hl

/-- The places that place k leads to over a letter. -/
def Fires (p : ByteArray) (a : Nat) (k j : Nat) : Prop := ∃ h : k < p.size, (p[k].toNat = 37 ∧ Star p k j) ∨ (¬ p[k].toNat = 37 ∧ (p[k].toNat = 95 ∨ p[k].toNat = a) ∧ Star p (k + 1) j)
/-- Behind a place at a percent sign the next is there, too. -/
def Closed (p : ByteArray) (B : Nat → Bool) : Prop := ∀ k (h : k < p.size), B k = true → p[k].toNat = 37 → B (k + 1) = true
/-- The places B after the letters u. -/
def After (p : ByteArray) (u : List UInt8) (B : Nat → Bool) : Prop := Closed p B ∧ ∀ v, lk (u ++ v) (dr p 0) = true ↔ ∃ k, k ≤ p.size ∧ B k = true ∧ lk v (dr p k) = true

theorem star_succ {p : ByteArray} {i j : Nat} (h : Star p i j) (hj : j < p.size) (h37 : p[j].toNat = 37) : Star p i (j + 1) :=
  ⟨by have := h.1; omega, fun k hk x y => by
    by_cases e : k = j
    · subst e; exact h37
    · exact h.2 k hk x (by omega)⟩
theorem after_start {p : ByteArray} {B : Nat → Bool} (hB : ∀ j, j ≤ p.size → (B j = true ↔ Star p 0 j)) : After p [] B := by
  refine ⟨fun k h hk h37 => (hB (k + 1) (by omega)).2 (star_succ ((hB k (by omega)).1 hk) h h37), fun v => ⟨fun h => ⟨0, by omega, (hB 0 (by omega)).2 ⟨Nat.le_refl _, fun k hk x y => by omega⟩, h⟩, ?_⟩⟩
  rintro ⟨k, hk, hb, hl⟩
  exact lk_star hk ((hB k hk).1 hb) v hl
theorem fire_to {p : ByteArray} {B : Nat → Bool} (hC : Closed p B) (a : UInt8) (v : List UInt8) : ∀ (d k : Nat), p.size - k = d → k ≤ p.size → B k = true → lk (a :: v) (dr p k) = true → ∃ k' k2, k' < p.size ∧ B k' = true ∧ k2 ≤ p.size ∧ Fires p a.toNat k' k2 ∧ lk v (dr p k2) = true
  | 0, k, hd, hk, hb, hl => by
    obtain rfl : k = p.size := by omega
    rw [dr_end] at hl
    simp [lk] at hl
  | d + 1, k, hd, hk, hb, hl => by
    have hlt : k < p.size := by omega
    rw [dr_lt hlt] at hl
    by_cases h37 : p[k].toNat = 37
    · rw [pc_of h37] at hl
      simp only [lk, beq_self_eq_true, if_true, Bool.or_eq_true] at hl
      rcases hl with hl | hl
      · exact fire_to hC a v d (k + 1) (by omega) (by omega) (hC k hlt hb h37) hl
      · refine ⟨k, k, hlt, hb, by omega, ⟨hlt, Or.inl ⟨h37, Nat.le_refl _, fun k' hk' x y => by omega⟩⟩, ?_⟩
        rw [dr_lt hlt, pc_of h37]
        exact hl
    · simp only [lk, pc_not h37, Bool.false_eq_true, if_false, Bool.and_eq_true, Bool.or_eq_true, beq_iff_eq] at hl
      refine ⟨k, k + 1, hlt, hb, by omega, ⟨hlt, Or.inr ⟨h37, ?_, Nat.le_refl _, fun k' hk' x y => by omega⟩⟩, hl.2⟩
      rcases hl.1 with e | e
      · exact Or.inl (by rw [e]; rfl)
      · exact Or.inr (by rw [e])
theorem fire_from {p : ByteArray} (a : UInt8) (v : List UInt8) (k k2 : Nat) (hk2 : k2 ≤ p.size) (hf : Fires p a.toNat k k2) (hl : lk v (dr p k2) = true) : lk (a :: v) (dr p k) = true := by
  obtain ⟨hlt, hf⟩ := hf
  rcases hf with ⟨h37, hs⟩ | ⟨h37, hm, hs⟩
  · have h := lk_star hk2 hs v hl
    rw [dr_lt hlt, pc_of h37] at h ⊢
    simp [lk, h]
  · have h := lk_star hk2 hs v hl
    rw [dr_lt hlt]
    simp only [lk, pc_not h37, Bool.false_eq_true, if_false, Bool.and_eq_true, Bool.or_eq_true, beq_iff_eq]
    refine ⟨?_, h⟩
    rcases hm with e | e
    · exact Or.inl (UInt8.toNat_inj.1 e)
    · exact Or.inr (UInt8.toNat_inj.1 e)
theorem after_step {p : ByteArray} {u : List UInt8} {B B' : Nat → Bool} (a : UInt8) (h : After p u B) (hB : ∀ j, j ≤ p.size → (B' j = true ↔ ∃ k, k < p.size ∧ B k = true ∧ Fires p a.toNat k j)) : After p (u ++ [a]) B' := by
  refine ⟨fun j hj hb h37 => ?_, fun v => ?_⟩
  · obtain ⟨k, hk, hbk, hlt, hf⟩ := (hB j (by omega)).1 hb
    refine (hB (j + 1) (by omega)).2 ⟨k, hk, hbk, hlt, ?_⟩
    rcases hf with ⟨x, hs⟩ | ⟨x, y, hs⟩
    · exact Or.inl ⟨x, star_succ hs hj h37⟩
    · exact Or.inr ⟨x, y, star_succ hs hj h37⟩
  · rw [List.append_assoc, List.singleton_append, h.2 (a :: v)]
    constructor
    · rintro ⟨k, hk, hb, hl⟩
      obtain ⟨k', k2, h1, h2, h3, h4, h5⟩ := fire_to h.1 a v _ k rfl hk hb hl
      exact ⟨k2, h3, (hB k2 h3).2 ⟨k', h1, h2, h4⟩, h5⟩
    · rintro ⟨k2, hk2, hb, hl⟩
      obtain ⟨k, h1, h2, h3⟩ := (hB k2 hk2).1 hb
      exact ⟨k, by omega, h2, fire_from a v k k2 hk2 h3 hl⟩
theorem closed_end {p : ByteArray} {B : Nat → Bool} (hC : Closed p B) : ∀ (d k : Nat), p.size - k = d → k ≤ p.size → B k = true → lk [] (dr p k) = true → B p.size = true
  | 0, k, hd, hk, hb, hl => by
    obtain rfl : k = p.size := by omega
    exact hb
  | d + 1, k, hd, hk, hb, hl => by
    have hlt : k < p.size := by omega
    rw [dr_lt hlt] at hl
    simp only [lk, Bool.and_eq_true, beq_iff_eq] at hl
    exact closed_end hC d (k + 1) (by omega) (by omega) (hC k hlt hb (by rw [hl.1]; rfl)) hl.2
theorem after_end {p : ByteArray} {u : List UInt8} {B : Nat → Bool} (h : After p u B) : lk u p.data.toList = B p.size := by
  have h2 := h.2 []
  rw [List.append_nil] at h2
  have e : dr p 0 = p.data.toList := rfl
  rw [e] at h2
  rw [Bool.eq_iff_iff, h2]
  constructor
  · rintro ⟨k, hk, hb, hl⟩
    exact closed_end h.1 _ k rfl hk hb hl
  · intro hb
    exact ⟨p.size, Nat.le_refl _, hb, by rw [dr_end]; simp [lk]⟩
end Go.Proofs.YtchajbcmgdnpmaaGreatDoor
