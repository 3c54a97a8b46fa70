/-
  The specification of values in plain Lean, further: lists of values.
-/
import Derived.Test.YtplepijiceanlaaGreatDoorS
namespace Go.Proofs.YtplepijiceanlaaGreatDoor
def allOk (l : List Va) : Bool := l.all Va.ok
/-- Whether all values that are not null are of the kind, or, if that is 0, of one kind. -/
def oneK : Int → List Va → Bool
  | _, [] => true
  | d, v :: r => if (v.k == 0) = true then oneK d r else if (d == 0) = true then oneK v.k r else if (v.k != d) = true then false else oneK d r
theorem hasNull_take (l : List Va) (k : Nat) (h : k < l.length) : hasNull (l.take (k + 1)) = (hasNull (l.take k) || (l[k].k == 0)) := by
  rw [List.take_succ_eq_append_getElem h]; unfold hasNull; rw [List.any_append]; simp only [List.any_cons, List.any_nil, Bool.or_false]
theorem hasNull_yes (l : List Va) (k : Nat) (h : k < l.length) (hk : (l[k].k == 0) = true) : hasNull l = true := by
  unfold hasNull; rw [List.any_eq_true]; exact ⟨l[k], List.getElem_mem h, hk⟩
theorem take_all {α : Type} (l : List α) (k : Nat) (h1 : k ≤ l.length) (h : ¬ k < l.length) : l.take k = l := List.take_of_length_le (by omega)
theorem allOk_take (l : List Va) (k : Nat) (h : k < l.length) : allOk (l.take (k + 1)) = (allOk (l.take k) && vld l[k].k l[k].n l[k].s) := by
  rw [List.take_succ_eq_append_getElem h]; unfold allOk; rw [List.all_append]; simp only [List.all_cons, List.all_nil, Bool.and_true]; rfl
theorem allOk_no (l : List Va) (k : Nat) (h : k < l.length) (hk : vld l[k].k l[k].n l[k].s = false) : allOk l = false := by
  unfold allOk; rw [List.all_eq_false]; exact ⟨l[k], List.getElem_mem h, by simp [Va.ok, hk]⟩
theorem oneK_drop (d : Int) (l : List Va) (k : Nat) (h : k < l.length) :
    oneK d (l.drop k) = if (l[k].k == 0) = true then oneK d (l.drop (k + 1)) else if (d == 0) = true then oneK l[k].k (l.drop (k + 1)) else if (l[k].k != d) = true then false else oneK d (l.drop (k + 1)) := by
  rw [List.drop_eq_getElem_cons h]; rfl


def nulV : Va := ⟨0, 0, ⟨#[]⟩⟩
def intV (n : Int) : Va := ⟨1, n, ⟨#[]⟩⟩
def txtV (s : ByteArray) : Va := ⟨2, 0, s⟩
def booV (b : Bool) : Va := ⟨3, b2i b, ⟨#[]⟩⟩
def tru (v : Va) : Bool := eqV v.k v.n v.s 3 1 ⟨#[]⟩
/-- What an operation of one gives; d: the kind that it takes. -/
def unS (d : Int) (v : Va) : Va × Int :=
  if v.ok = false then (nulV, 2) else if oneK d [v] = false then (nulV, 16) else if hasNull [v] = true then (nulV, 0) else if (d == 1) = true then (intV (-v.n), 0) else (booV (!tru v), 0)
/-- Two results, a value and an error. -/
abbrev two (r : Va × Int) : Value := .tuple #[r.1.val, .int .i64 r.2]
theorem oneK1 (d : Int) (v : Va) (h : oneK d [v] = true) : v.k = 0 ∨ d = 0 ∨ v.k = d := by
  simp only [oneK] at h
  by_cases h1 : v.k = 0
  · exact .inl h1
  by_cases h2 : d = 0
  · exact .inr (.inl h2)
  by_cases h3 : v.k = d
  · exact .inr (.inr h3)
  simp [h1, h2, h3] at h
theorem notNull1 (v : Va) (h : hasNull [v] = false) : v.k ≠ 0 := by simpa [hasNull] using h
theorem int_in (k n : Int) (s : ByteArray) (hk : k = 1) (h : vld k n s = true) : -1099511627776 ≤ n ∧ n ≤ 1099511627776 := by
  subst hk
  simp [vld, eqV, inR] at h
  omega
end Go.Proofs.YtplepijiceanlaaGreatDoor
