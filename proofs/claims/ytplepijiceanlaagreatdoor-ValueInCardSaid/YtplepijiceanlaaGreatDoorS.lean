/-
  The specification of values in plain Lean: what a value is, when it is valid. Nothing of the program is named here.
-/
import Derived.WalkKit
namespace Go.Proofs.YtplepijiceanlaaGreatDoor

/-- A value of the program: kind, number, text. -/
abbrev V (k n : Int) (s : ByteArray) : Value := .agg #[.int .i64 k, .int .i64 n, .string s]

/-- A bool's number. -/
def b2i (b : Bool) : Int := if b then 1 else 0
@[go_sem, simp] theorem b2i_true : b2i true = 1 := rfl
@[go_sem, simp] theorem b2i_false : b2i false = 0 := rfl
def inR (n : Int) : Bool := decide (-1099511627776 ≤ n) && decide (n ≤ 1099511627776)
def okByte (c : UInt8) : Bool := decide (32 ≤ (c.toNat : Int)) && decide ((c.toNat : Int) ≤ 126)
def okText (s : ByteArray) : Bool := decide (s.size ≤ 200) && s.data.toList.all okByte
def eqV (k n : Int) (s : ByteArray) (k' n' : Int) (s' : ByteArray) : Bool := k == k' && n == n' && s.toList == s'.toList

/-- A value is valid. -/
def vld (k n : Int) (s : ByteArray) : Bool :=
  eqV k n s 0 0 ⟨#[]⟩ || (k == 1 && inR n && s.toList.isEmpty) || (k == 2 && n == 0 && okText s) || eqV k n s 3 0 ⟨#[]⟩ || eqV k n s 3 1 ⟨#[]⟩
theorem eqV_ne {k n : Int} {s : ByteArray} {k' n' : Int} {s' : ByteArray} (h : k ≠ k') : eqV k n s k' n' s' = false := by simp [eqV, h]
theorem toList_eq {s s' : ByteArray} (h : s.toList = s'.toList) : s = s' := by
  rw [ByteArray.toList_eq, ByteArray.toList_eq] at h
  obtain ⟨⟨x⟩⟩ := s
  obtain ⟨⟨y⟩⟩ := s'
  exact congrArg (fun l : List UInt8 => (⟨⟨l⟩⟩ : ByteArray)) h
theorem eqV_iff (k n : Int) (s : ByteArray) (k' n' : Int) (s' : ByteArray) : eqV k n s k' n' s' = true ↔ k = k' ∧ n = n' ∧ s = s' := by
  simp only [eqV, Bool.and_eq_true, beq_iff_eq]
  exact ⟨fun ⟨⟨a, b⟩, c⟩ => ⟨a, b, toList_eq c⟩, fun ⟨a, b, c⟩ => ⟨⟨a, b⟩, by rw [c]⟩⟩
theorem toList_nil : (ByteArray.mk #[]).toList = [] := by rw [ByteArray.toList_eq]

structure Va where
  k : Int
  n : Int
  s : ByteArray
abbrev Va.val (v : Va) : Value := .agg #[.int .i64 v.k, .int .i64 v.n, .string v.s]
def Va.ok (v : Va) : Bool := vld v.k v.n v.s
/-- The slice at A, of as many values as l has, holds just these. -/
def Sl (w : World) (A : Option Addr) (l : List Va) : Prop :=
  ∀ (i : Nat) (v : Va), l[i]? = some v → ∃ b off, A = some ⟨b, off, none⟩ ∧ b < w.heap.size ∧
    w.cell? ⟨b, off + i * 3, none⟩ = some (.int .i64 v.k) ∧ w.cell? ⟨b, off + i * 3 + 1, none⟩ = some (.int .i64 v.n) ∧ w.cell? ⟨b, off + i * 3 + 2, none⟩ = some (.string v.s)
theorem Sl.below {w w' : World} {A : Option Addr} {l : List Va} (h : Sl w A l) (hb : RowKit.Below w.heap.size w w') : Sl w' A l := by
  intro i v hv
  obtain ⟨b, off, hA, hlt, h0, h1, h2⟩ := h i v hv
  exact ⟨b, off, hA, Nat.lt_of_lt_of_le hlt hb.size, (hb.cell (p := ⟨b, _, none⟩) hlt).trans h0, (hb.cell (p := ⟨b, _, none⟩) hlt).trans h1, (hb.cell (p := ⟨b, _, none⟩) hlt).trans h2⟩
theorem Sl.nil (w : World) (A : Option Addr) : Sl w A [] := by intro i v h; simp at h
/-- null among values. -/
def hasNull (l : List Va) : Bool := l.any fun v => v.k == 0
end Go.Proofs.YtplepijiceanlaaGreatDoor
