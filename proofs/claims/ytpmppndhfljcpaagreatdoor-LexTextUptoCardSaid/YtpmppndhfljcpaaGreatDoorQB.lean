/-
  The reference's reader in plain Lean: how its loops go on.
-/
import Derived.Test.YtpmppndhfljcpaaGreatDoorGh
namespace Go.Proofs.YtpmppndhfljcpaaGreatDoor

/-- An integer, at most one more than the greatest. -/
def stepC (n : Nat) (c : UInt8) : Nat := min (10 * n + (c.toNat - 48)) 1099511627777
def numC (l : Bs) : Nat := l.foldl stepC 0
theorem numC_min : ∀ (l : Bs) (a b : Nat), a = min b 1099511627777 → l.foldl stepC a = min (l.foldl stepD b) 1099511627777
  | [], _, _, h => h
  | c :: r, a, b, h => numC_min r (stepC a c) (stepD b c) (by unfold stepC stepD; omega)
theorem numC_val (l : Bs) : numC l = min (valD 0 l) 1099511627777 := numC_min l 0 0 rfl
theorem numC_snoc (l : Bs) (c : UInt8) : numC (l ++ [c]) = stepC (numC l) c := by unfold numC; rw [List.foldl_append]; rfl
theorem numC_le (l : Bs) : numC l ≤ 1099511627777 := by rw [numC_val]; omega
theorem numC_take (l : Bs) (k : Nat) (h : k < l.length) : numC (l.take (k + 1)) = stepC (numC (l.take k)) l[k] := by rw [List.take_succ_eq_append_getElem h, numC_snoc]

theorem textL_bad {c : UInt8} (r : Bs) (h : quotB c = false) (h39 : c ≠ 39) : textL (c :: r) = none := by
  have hc : (c == 39) = false := by simpa using h39
  cases r with
  | nil => simp only [textL, hc, Bool.false_eq_true, if_false]
  | cons d t => simp only [textL, hc, h, Bool.false_eq_true, if_false]
theorem textL_end (r : Bs) (h : r.head? ≠ some 39) : textL (39 :: r) = some ([], 1) := by
  cases r with
  | nil => simp [textL]
  | cons d t =>
    have hd : (d == 39) = false := by simpa using h
    simp only [textL, beq_self_eq_true, if_true, hd, Bool.false_eq_true, if_false]
theorem textL_two (r : Bs) : textL (39 :: 39 :: r) = (textL r).map fun q => (39 :: q.1, q.2 + 2) := by simp only [textL, beq_self_eq_true, if_true]
theorem textL_go {c : UInt8} (r : Bs) (h : quotB c = true) : textL (c :: r) = (textL r).map fun q => (c :: q.1, q.2 + 1) := by
  have hc : (c == 39) = false := by
    cases hq : (c == 39) with
    | false => rfl
    | true => simp [quotB, (beq_iff_eq.1 hq)] at h
  cases r with
  | nil => simp [textL, hc]
  | cons d t => simp only [textL, hc, h, Bool.false_eq_true, if_false, if_true]
/-- What has been read of a string, and what is still to be read. -/
def TextAt (l : Bs) (b : Bs) (r : Bs) (n : Nat) : Prop := textL l = (textL r).map fun q => (b ++ q.1, n + q.2)
theorem TextAt.start (l : Bs) : TextAt l [] l 0 := by
  unfold TextAt
  cases textL l with
  | none => rfl
  | some q => simp
theorem TextAt.go {l b r : Bs} {n : Nat} {c : UInt8} (h : TextAt l b (c :: r) n) (hq : quotB c = true) : TextAt l (b ++ [c]) r (n + 1) := by
  unfold TextAt at h ⊢
  rw [h, textL_go r hq, Option.map_map]
  congr 1
  funext q
  simp only [Function.comp, List.append_assoc, List.cons_append, List.nil_append, Prod.mk.injEq, true_and]
  omega
theorem TextAt.two {l b r : Bs} {n : Nat} (h : TextAt l b (39 :: 39 :: r) n) : TextAt l (b ++ [39]) r (n + 2) := by
  unfold TextAt at h ⊢
  rw [h, textL_two r, Option.map_map]
  congr 1
  funext q
  simp only [Function.comp, List.append_assoc, List.cons_append, List.nil_append, Prod.mk.injEq, true_and]
  omega
theorem TextAt.stop {l b r : Bs} {n : Nat} (h : TextAt l b (39 :: r) n) (hr : r.head? ≠ some 39) : textL l = some (b, n + 1) := by
  unfold TextAt at h
  rw [h, textL_end r hr]
  simp
theorem TextAt.bad {l b r : Bs} {n : Nat} {c : UInt8} (h : TextAt l b (c :: r) n) (hq : quotB c = false) (h39 : c ≠ 39) : textL l = none := by
  unfold TextAt at h
  rw [h, textL_bad r hq h39]
  rfl
theorem TextAt.none {l b : Bs} {n : Nat} (h : TextAt l b [] n) : textL l = .none := by
  unfold TextAt at h
  rw [h]
  rfl

/-- How blanks and comments go on: byte by byte, and a comment at once. -/
theorem skip_blank {c : UInt8} (r : Bs) (h : blankB c = true) : skipL false (c :: r) = 1 + skipL false r := by simp only [skipL, h, if_true]
theorem skip_dash (r : Bs) : skipL false (45 :: 45 :: r) = many (fun c => c != 10) (45 :: 45 :: r) + skipL false ((45 :: 45 :: r).drop (many (fun c => c != 10) (45 :: 45 :: r))) := by
  have h := skip_true (45 :: r)
  have e : many (fun c : UInt8 => c != 10) (45 :: 45 :: r) = 1 + many (fun c => c != 10) (45 :: r) := many_cons (by decide)
  rw [e, show (1 + many (fun c : UInt8 => c != 10) (45 :: r)) = many (fun c => c != 10) (45 :: r) + 1 by omega, List.drop_succ_cons]
  have e2 : skipL false (45 :: 45 :: r) = 1 + skipL true (45 :: r) := by simp [skipL, blank45]
  rw [e2, h]
  omega
theorem skip_stop {c : UInt8} (r : Bs) (h : blankB c = false) (hd : c ≠ 45 ∨ r.head? ≠ some 45) : skipL false (c :: r) = 0 := by
  have h2 : (c == 45 && r.head? == some 45) = false := by
    rcases hd with hd | hd
    · simp [hd]
    · simp [hd]
  simp only [skipL, h, h2, Bool.false_eq_true, if_false]
theorem placeP_snoc (l : Bs) (k : Nat) (h : k < l.length) : placeP (l.take (k + 1)) = stepP (placeP (l.take k)) l[k] := by
  unfold placeP
  rw [List.take_succ_eq_append_getElem h, List.foldl_append]
  rfl
theorem stepP_ten (p : Int × Int) : stepP p 10 = (p.1 + 1, 1) := by simp [stepP]
theorem stepP_not (p : Int × Int) {c : UInt8} (h : c ≠ 10) : stepP p c = (p.1, p.2 + 1) := by simp [stepP, h]
theorem many_more {p : UInt8 → Bool} {l : Bs} {k : Nat} (hk : k < l.length) (hp : p l[k] = true) (n : Nat) (h : many p (l.drop n) = (k - n) + many p (l.drop k)) (hn : n ≤ k) : many p (l.drop n) = (k + 1 - n) + many p (l.drop (k + 1)) := by
  rw [h, List.drop_eq_getElem_cons hk, many_cons hp]
  omega
theorem many_end {p : UInt8 → Bool} {l : Bs} {k : Nat} (hp : ∀ h : k < l.length, p l[k] = false) : many p (l.drop k) = 0 := by
  by_cases hk : k < l.length
  · rw [List.drop_eq_getElem_cons hk, many_not (hp hk)]
  · rw [List.drop_of_length_le (by omega)]; rfl
/-- Places are within what a number can be. -/
theorem placeP_bound (l : Bs) : 1 ≤ (placeP l).1 ∧ (placeP l).1 ≤ l.length + 1 ∧ 1 ≤ (placeP l).2 ∧ (placeP l).2 ≤ l.length + 1 := by
  suffices h : ∀ (l : Bs) (p : Int × Int) (n : Nat), 1 ≤ p.1 → p.1 ≤ n + 1 → 1 ≤ p.2 → p.2 ≤ n + 1 → 1 ≤ (l.foldl stepP p).1 ∧ (l.foldl stepP p).1 ≤ (n + l.length : Nat) + 1 ∧ 1 ≤ (l.foldl stepP p).2 ∧ (l.foldl stepP p).2 ≤ (n + l.length : Nat) + 1 by
    have := h l (1, 1) 0 (by simp) (by simp) (by simp) (by simp)
    simpa [placeP] using this
  intro l
  induction l with
  | nil => intro p n h1 h2 h3 h4; exact ⟨h1, h2, h3, h4⟩
  | cons c r ih =>
    intro p n h1 h2 h3 h4
    have h := ih (stepP p c) (n + 1) (by unfold stepP; split <;> simp <;> omega) (by unfold stepP; split <;> simp <;> omega) (by unfold stepP; split <;> simp <;> omega) (by unfold stepP; split <;> simp <;> omega)
    rw [List.foldl_cons, List.length_cons]
    refine ⟨h.1, ?_, h.2.2.1, ?_⟩
    · have := h.2.1; omega
    · have := h.2.2.2; omega
end Go.Proofs.YtpmppndhfljcpaaGreatDoor
