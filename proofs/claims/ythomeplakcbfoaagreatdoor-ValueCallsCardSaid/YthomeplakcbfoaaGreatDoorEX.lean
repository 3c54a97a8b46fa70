/-
  The calls of the examples: what each returns.
-/
import Derived.Test.YthomeplakcbfoaaGreatDoorDD
import Derived.Test.YthomeplakcbfoaaGreatDoorW
namespace Go.Proofs.YthomeplakcbfoaaGreatDoor
open Go.RowKit

abbrev vNo : Value := V 3 0 ⟨#[]⟩
abbrev vYes : Value := V 3 1 ⟨#[]⟩
abbrev vNull : Value := V 0 0 ⟨#[]⟩
/-- A call of a function that returns a value and an error. -/
theorem two_of {f : Nat} {args : Array Value} {w : World} {r r' : Va × Int} (h : Calls Tryz.prog f args w fun e w' => e = .returned (two r) ∧ Below w.heap.size w w') (hr : r = r') :
    Calls Tryz.prog f args w fun e w' => e = .returned (two r') ∧ Below w.heap.size w w' := by subst hr; exact h
theorem ex_and (w : World) : Calls Tryz.prog 22 #[.string ⟨#[97, 110, 100]⟩, V 0 0 ⟨#[]⟩, V 3 0 ⟨#[]⟩] w fun e w' => e = .returned (.tuple #[V 3 0 ⟨#[]⟩, .int .i64 0]) ∧ Below w.heap.size w w' :=
  two_of (r' := (⟨3, 0, ⟨#[]⟩⟩, 0)) (binary_ ⟨#[97, 110, 100]⟩ ⟨0, 0, ⟨#[]⟩⟩ ⟨3, 0, ⟨#[]⟩⟩ w) (by kernel_rfl)
theorem ex_or (w : World) : Calls Tryz.prog 22 #[.string ⟨#[111, 114]⟩, V 0 0 ⟨#[]⟩, V 3 1 ⟨#[]⟩] w fun e w' => e = .returned (.tuple #[V 3 1 ⟨#[]⟩, .int .i64 0]) ∧ Below w.heap.size w w' :=
  two_of (r' := (⟨3, 1, ⟨#[]⟩⟩, 0)) (binary_ ⟨#[111, 114]⟩ ⟨0, 0, ⟨#[]⟩⟩ ⟨3, 1, ⟨#[]⟩⟩ w) (by kernel_rfl)
theorem ex_eq (w : World) : Calls Tryz.prog 22 #[.string ⟨#[61]⟩, V 0 0 ⟨#[]⟩, V 0 0 ⟨#[]⟩] w fun e w' => e = .returned (.tuple #[V 0 0 ⟨#[]⟩, .int .i64 0]) ∧ Below w.heap.size w w' :=
  two_of (r' := (⟨0, 0, ⟨#[]⟩⟩, 0)) (binary_ ⟨#[61]⟩ ⟨0, 0, ⟨#[]⟩⟩ ⟨0, 0, ⟨#[]⟩⟩ w) (by kernel_rfl)
theorem ex_quo (w : World) : Calls Tryz.prog 22 #[.string ⟨#[47]⟩, V 1 (-7) ⟨#[]⟩, V 1 2 ⟨#[]⟩] w fun e w' => e = .returned (.tuple #[V 1 (-3) ⟨#[]⟩, .int .i64 0]) ∧ Below w.heap.size w w' :=
  two_of (r' := (⟨1, -3, ⟨#[]⟩⟩, 0)) (binary_ ⟨#[47]⟩ ⟨1, -7, ⟨#[]⟩⟩ ⟨1, 2, ⟨#[]⟩⟩ w) (by kernel_rfl)
theorem ex_rem (w : World) : Calls Tryz.prog 22 #[.string ⟨#[109, 111, 100]⟩, V 1 (-7) ⟨#[]⟩, V 1 2 ⟨#[]⟩] w fun e w' => e = .returned (.tuple #[V 1 (-1) ⟨#[]⟩, .int .i64 0]) ∧ Below w.heap.size w w' :=
  two_of (r' := (⟨1, -1, ⟨#[]⟩⟩, 0)) (binary_ ⟨#[109, 111, 100]⟩ ⟨1, -7, ⟨#[]⟩⟩ ⟨1, 2, ⟨#[]⟩⟩ w) (by kernel_rfl)
theorem lk_ex : lk [97, 98, 99] [97, 37, 95] = true := by simp [lk]
theorem ex_like (w : World) : Calls Tryz.prog 22 #[.string ⟨#[108, 105, 107, 101]⟩, V 2 0 ⟨#[97, 98, 99]⟩, V 2 0 ⟨#[97, 37, 95]⟩] w fun e w' => e = .returned (.tuple #[vYes, .int .i64 0]) ∧ Below w.heap.size w w' :=
  two_of (r' := (⟨3, 1, ⟨#[]⟩⟩, 0)) (binary_ ⟨#[108, 105, 107, 101]⟩ ⟨2, 0, ⟨#[97, 98, 99]⟩⟩ ⟨2, 0, ⟨#[97, 37, 95]⟩⟩ w) (by
    have h : binS ⟨#[108, 105, 107, 101]⟩ ⟨2, 0, ⟨#[97, 98, 99]⟩⟩ ⟨2, 0, ⟨#[97, 37, 95]⟩⟩ = (booV (lk [97, 98, 99] [97, 37, 95]), 0) := by kernel_rfl
    rw [h, lk_ex]
    rfl)
theorem ex_not (w : World) : Calls Tryz.prog 27 #[.string ⟨#[110, 111, 116]⟩, vNo] w fun e w' => e = .returned (.tuple #[vYes, .int .i64 0]) ∧ Below w.heap.size w w' :=
  two_of (r' := (⟨3, 1, ⟨#[]⟩⟩, 0)) (unary_ 3 ⟨#[110, 111, 116]⟩ rfl ⟨3, 0, ⟨#[]⟩⟩ w) (by kernel_rfl)
theorem ex_substr (A : Option Addr) (c : Nat) (w : World) (h : Sl w A [⟨2, 0, ⟨#[97, 98, 99, 100]⟩⟩, ⟨1, 2, ⟨#[]⟩⟩, ⟨1, 2, ⟨#[]⟩⟩]) : Calls Tryz.prog 8 #[.string ⟨#[115, 117, 98, 115, 116, 114]⟩, .slice A 3 c] w fun e w' => e = .returned (.tuple #[V 2 0 ⟨#[98, 99]⟩, .int .i64 0]) ∧ Below w.heap.size w w' :=
  two_of (r' := (⟨2, 0, ⟨#[98, 99]⟩⟩, 0)) (callSubstr_ ⟨#[97, 98, 99, 100]⟩ 2 2 ⟨#[]⟩ ⟨#[]⟩ A c w (by kernel_rfl) h) (by kernel_rfl)
theorem ex_text (w : World) (hg : Gl w) : Calls Tryz.prog 16 #[V 2 0 ⟨#[105, 116, 39, 115]⟩] w fun e w' => e = .returned (.tuple #[.string ⟨#[39, 105, 116, 39, 39, 115, 39]⟩, .int .i64 0]) ∧ Below w.heap.size w w' :=
  (text2_ ⟨#[105, 116, 39, 115]⟩ w (by kernel_rfl) hg).mono fun e w' ⟨h1, h2⟩ => ⟨by rw [h1, show quo ⟨#[105, 116, 39, 115]⟩ = ⟨#[39, 105, 116, 39, 39, 115, 39]⟩ from by kernel_rfl], h2⟩
theorem ex_parse (w : World) (hg : Gl w) : Calls Tryz.prog 18 #[.string ⟨#[39, 105, 116, 39, 39, 115, 39]⟩] w fun e w' => e = .returned (.tuple #[V 2 0 ⟨#[105, 116, 39, 115]⟩, .int .i64 0]) ∧ Below w.heap.size w w' :=
  parseQ_ ⟨#[39, 105, 116, 39, 39, 115, 39]⟩ w (by decide) hg (by kernel_rfl) (by kernel_rfl) (by decide) (by kernel_rfl) ⟨#[105, 116, 39, 115]⟩ (by kernel_rfl) (by kernel_rfl) (by kernel_rfl)
theorem ex_in (A : Option Addr) (c : Nat) (w : World) (h : Sl w A [⟨1, 1, ⟨#[]⟩⟩]) : Calls Tryz.prog 28 #[vNull, .slice A 1 c] w fun e w' => e = .returned (.tuple #[vNull, .int .i64 0]) ∧ Below w.heap.size w w' :=
  two_of (r' := (⟨0, 0, ⟨#[]⟩⟩, 0)) (in_ ⟨0, 0, ⟨#[]⟩⟩ A c [⟨1, 1, ⟨#[]⟩⟩] w (by decide) h) (by kernel_rfl)
theorem ex_between (w : World) : Calls Tryz.prog 29 #[V 1 2 ⟨#[]⟩, V 1 1 ⟨#[]⟩, V 1 3 ⟨#[]⟩] w fun e w' => e = .returned (.tuple #[vYes, .int .i64 0]) ∧ Below w.heap.size w w' :=
  two_of (r' := (⟨3, 1, ⟨#[]⟩⟩, 0)) (between_ ⟨1, 2, ⟨#[]⟩⟩ ⟨1, 1, ⟨#[]⟩⟩ ⟨1, 3, ⟨#[]⟩⟩ w) (by kernel_rfl)
theorem ex_sum (A : Option Addr) (c : Nat) (w : World) (h : Sl w A [⟨1, 1, ⟨#[]⟩⟩, ⟨0, 0, ⟨#[]⟩⟩, ⟨1, 4, ⟨#[]⟩⟩]) : Calls Tryz.prog 10 #[.string ⟨#[115, 117, 109]⟩, .slice A 3 c] w fun e w' => e = .returned (.tuple #[V 1 5 ⟨#[]⟩, .int .i64 0]) ∧ Below w.heap.size w w' :=
  two_of (r' := (⟨1, 5, ⟨#[]⟩⟩, 0)) (aggSum_ A c [⟨1, 1, ⟨#[]⟩⟩, ⟨0, 0, ⟨#[]⟩⟩, ⟨1, 4, ⟨#[]⟩⟩] w (by decide) h (by kernel_rfl)) (by kernel_rfl)
theorem ex_order (w : World) : Calls Tryz.prog 30 #[vNull, V 1 1 ⟨#[]⟩] w fun e w' => e = .returned (.tuple #[.int .i64 1, .int .i64 0]) ∧ Below w.heap.size w w' :=
  (order_ ⟨0, 0, ⟨#[]⟩⟩ ⟨1, 1, ⟨#[]⟩⟩ w).mono fun e w' ⟨h1, h2⟩ => ⟨by rw [h1, show ordS ⟨0, 0, ⟨#[]⟩⟩ ⟨1, 1, ⟨#[]⟩⟩ = (1, 0) from by kernel_rfl], h2⟩
theorem ex_valid (w : World) : Calls Tryz.prog 31 #[vNull] w fun e w' => e = .returned (.bool true) ∧ Below w.heap.size w w' :=
  (valid_ 0 0 ⟨#[]⟩ w).mono fun e w' ⟨h1, h2⟩ => ⟨by rw [h1, show vld 0 0 ⟨#[]⟩ = true from by kernel_rfl], h2⟩
theorem ex_row (w : World) : Calls Tryz.prog 32 #[.slice none 0 0] w fun e w' => e = .returned (.bool true) ∧ Below w.heap.size w w' :=
  (isRow_ none 0 [] w (by decide) (Sl.nil w none)).mono fun e w' ⟨h1, h2⟩ => ⟨by rw [h1]; rfl, h2⟩
theorem ex_same (w : World) : Calls Tryz.prog 33 #[vNull, vNull] w fun e w' => e = .returned (.bool true) ∧ Below w.heap.size w w' :=
  (same_ 0 0 ⟨#[]⟩ 0 0 ⟨#[]⟩ w).mono fun e w' ⟨h1, h2⟩ => ⟨by rw [h1, show eqV 0 0 ⟨#[]⟩ 0 0 ⟨#[]⟩ = true from by kernel_rfl], h2⟩
theorem ex_samerow (w : World) : Calls Tryz.prog 34 #[.slice none 0 0, .slice none 0 0] w fun e w' => e = .returned (.bool true) ∧ Below w.heap.size w w' := by
  go_enter Tryz.func34, Tryz.ntmps34
  go_wp2
  go_rounds 1
  go_ret
  exact ⟨rfl, Below.refl _ _⟩
theorem ex_builtin (w : World) : Calls Tryz.prog 12 #[.string ⟨#[110, 118, 108]⟩] w fun e w' => e = .returned (.bool true) ∧ Below w.heap.size w w' := builtin_nvl w
theorem ex_isagg (w : World) : Calls Tryz.prog 14 #[.string ⟨#[109, 97, 120]⟩] w fun e w' => e = .returned (.bool true) ∧ Below w.heap.size w w' := isAggregate_ ⟨#[109, 97, 120]⟩ 3 rfl w
theorem ex_exc (w : World) : Calls Tryz.prog 35 #[.int .i64 22] w fun e w' => e = .returned (.string ⟨#[122, 101, 114, 111, 95, 100, 105, 118, 105, 100, 101]⟩) ∧ Below w.heap.size w w' :=
  (exception_ 22 w).mono fun e w' ⟨h1, h2⟩ => ⟨by rw [h1]; rfl, by rw [← h2]; exact Below.refl _ _⟩
theorem ex_num (w : World) : Calls Tryz.prog 36 #[.string ⟨#[116, 111, 111, 95, 108, 111, 110, 103]⟩] w fun e w' => e = .returned (.int .i64 18) ∧ Below w.heap.size w w' :=
  (vnumber_ ⟨#[116, 111, 111, 95, 108, 111, 110, 103]⟩ w).mono fun e w' ⟨h1, h2⟩ => ⟨by rw [h1, show Lib.idxOfS excNames ⟨#[116, 111, 111, 95, 108, 111, 110, 103]⟩ + 1 = 18 from by decide +kernel], h2⟩
theorem ex_true (w : World) : Calls Tryz.prog 37 #[vYes] w fun e w' => e = .returned (.bool true) ∧ Below w.heap.size w w' :=
  (true_ 3 1 ⟨#[]⟩ w).mono fun e w' ⟨h1, h2⟩ => ⟨by rw [h1, show eqV 3 1 ⟨#[]⟩ 3 1 ⟨#[]⟩ = true from by kernel_rfl], h2⟩
end Go.Proofs.YthomeplakcbfoaaGreatDoor
