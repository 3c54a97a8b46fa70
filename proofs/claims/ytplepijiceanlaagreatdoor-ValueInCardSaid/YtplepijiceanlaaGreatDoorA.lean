/-
  Contracts of the smallest functions of package value and of its reference: constructors of values, tests on kinds and ranges.
-/
import Derived.Test.YtplepijiceanlaaGreatDoorProg
import Derived.Test.YtplepijiceanlaaGreatDoorS
import Derived.WalkKit
import Derived.WalkLawsBesides
import Derived.WalkSpells
import Derived.Handy
import Derived.Lib.Hide
namespace Go.Proofs.YtplepijiceanlaaGreatDoor
open Go.RowKit

theorem new1 (w : World) (o : Obj) : Below w.heap.size w (w.alloc o) := (Below.refl _ _).alloc (Nat.le_refl _) _

theorem ref_bool (b : Bool) (w : World) : Calls Tryz.prog 55 #[.bool b] w fun e w' => e = .returned (V 3 (b2i b) ⟨#[]⟩) ∧ Below w.heap.size w w' := by
  cases b
  all_goals
    go_enter Tryz.func55, Tryz.ntmps55
    go_wp2
    go_returns
    exact ⟨rfl, new1 _ _⟩
theorem boolean_ (b : Bool) (w : World) : Calls Tryz.prog 60 #[.bool b] w fun e w' => e = .returned (V 3 (b2i b) ⟨#[]⟩) ∧ Below w.heap.size w w' := by
  cases b
  all_goals
    go_enter Tryz.func60, Tryz.ntmps60
    go_wp2
    go_returns
    exact ⟨rfl, new1 _ _⟩
theorem ref_null (w : World) : Calls Tryz.prog 56 #[] w fun e w' => e = .returned (V 0 0 ⟨#[]⟩) ∧ Below w.heap.size w w' := by
  go_enter Tryz.func56, Tryz.ntmps56
  go_wp2
  go_returns
  exact ⟨rfl, new1 _ _⟩
theorem ref_int (n : Int) (w : World) : Calls Tryz.prog 57 #[.int .i64 n] w fun e w' => e = .returned (V 1 n ⟨#[]⟩) ∧ Below w.heap.size w w' := by
  go_enter Tryz.func57, Tryz.ntmps57
  go_wp2
  go_returns
  exact ⟨rfl, new1 _ _⟩
theorem integer_ (n : Int) (w : World) : Calls Tryz.prog 65 #[.int .i64 n] w fun e w' => e = .returned (V 1 n ⟨#[]⟩) ∧ Below w.heap.size w w' := by
  go_enter Tryz.func65, Tryz.ntmps65
  go_wp2
  go_returns
  exact ⟨rfl, new1 _ _⟩
theorem ref_string (s : ByteArray) (w : World) : Calls Tryz.prog 54 #[.string s] w fun e w' => e = .returned (V 2 0 s) ∧ Below w.heap.size w w' := by
  go_enter Tryz.func54, Tryz.ntmps54
  go_wp2
  go_returns
  exact ⟨rfl, new1 _ _⟩
theorem text_ (s : ByteArray) (w : World) : Calls Tryz.prog 117 #[.string s] w fun e w' => e = .returned (V 2 0 s) ∧ Below w.heap.size w w' := by
  go_enter Tryz.func117, Tryz.ntmps117
  go_wp2
  go_returns
  exact ⟨rfl, new1 _ _⟩

theorem inRange_ (n : Int) (w : World) : Calls Tryz.prog 58 #[.int .i64 n] w fun e w' => e = .returned (.bool (inR n)) ∧ w = w' := by
  by_cases h : (-1099511627776 : Int) ≤ n
  · go_enter Tryz.func58, Tryz.ntmps58
    go_wp2
    go_ret
    simp [inR, h]
  · go_enter Tryz.func58, Tryz.ntmps58
    go_wp2
    go_ret
    simp [inR]
    omega
theorem isInt_ (n : Int) (w : World) : Calls Tryz.prog 61 #[.int .i64 n] w fun e w' => e = .returned (.bool (inR n)) ∧ w = w' := by
  by_cases h : (-1099511627776 : Int) ≤ n
  · go_enter Tryz.func61, Tryz.ntmps61
    go_wp2
    go_ret
    simp [inR, h]
  · go_enter Tryz.func61, Tryz.ntmps61
    go_wp2
    go_ret
    simp [inR]
    omega

theorem run_eqV (k n : Int) (s : ByteArray) (k' n' : Int) (s' : ByteArray) (w : World) :
    (binOp .eql 27 (.agg #[.int .i64 k, .int .i64 n, .string s]) (.agg #[.int .i64 k', .int .i64 n', .string s'])).run Tryz.prog w = .ok (.bool (eqV k n s k' n' s')) w := by
  unfold eqV
  by_cases h1 : k = k' <;> by_cases h2 : n = n' <;> by_cases h3 : s.toList = s'.toList <;> simp [go_sem, h1, h2, h3]
theorem run_neqV (k n : Int) (s : ByteArray) (k' n' : Int) (s' : ByteArray) (w : World) :
    (binOp .neq 27 (.agg #[.int .i64 k, .int .i64 n, .string s]) (.agg #[.int .i64 k', .int .i64 n', .string s'])).run Tryz.prog w = .ok (.bool (!eqV k n s k' n' s')) w := by
  unfold eqV
  by_cases h1 : k = k' <;> by_cases h2 : n = n' <;> by_cases h3 : s.toList = s'.toList <;> simp [go_sem, h1, h2, h3]
attribute [go_sem ↓] run_eqV run_neqV

theorem new2 (w : World) (o o' : Obj) : Below w.heap.size w ((w.alloc o).alloc o') := (new1 w o).alloc (by simp) _

theorem same_ (k n : Int) (s : ByteArray) (k' n' : Int) (s' : ByteArray) (w : World) :
    Calls Tryz.prog 19 #[V k n s, V k' n' s'] w fun e w' => e = .returned (.bool (eqV k n s k' n' s')) ∧ Below w.heap.size w w' := by
  go_enter Tryz.func19, Tryz.ntmps19
  go_wp2
  go_ret
  exact ⟨rfl, new2 _ _ _⟩
theorem ref_same (k n : Int) (s : ByteArray) (k' n' : Int) (s' : ByteArray) (w : World) :
    Calls Tryz.prog 20 #[V k n s, V k' n' s'] w fun e w' => e = .returned (.bool (eqV k n s k' n' s')) ∧ Below w.heap.size w w' := by
  go_enter Tryz.func20, Tryz.ntmps20
  go_wp2
  go_ret
  exact ⟨rfl, new2 _ _ _⟩
end Go.Proofs.YtplepijiceanlaaGreatDoor
