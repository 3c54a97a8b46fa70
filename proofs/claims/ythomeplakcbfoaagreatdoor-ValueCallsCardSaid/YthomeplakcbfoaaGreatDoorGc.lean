/-
  Contracts of package lex: bytes, places, blanks.
-/
import Derived.Test.YthomeplakcbfoaaGreatDoorGa
import Derived.Test.YthomeplakcbfoaaGreatDoorGb
import Derived.Deep.QuietTactic
import Derived.BigQuiet
import Derived.IntWalk
import Derived.Test.YthomeplakcbfoaaGreatDoorEV
import Derived.Deep.RegionWith
namespace Go.Proofs.YthomeplakcbfoaaGreatDoor
section
open Go.RowKit

theorem byte_eq (c d : UInt8) : ((c.toNat : Int) == (d.toNat : Int)) = (c == d) := by
  rw [Bool.eq_iff_iff, beq_iff_eq, beq_iff_eq, Int.ofNat_inj]
  exact UInt8.toNat_inj
theorem byte_ne (c d : UInt8) (h : (c.toNat : Int) ≠ (d.toNat : Int)) : (c == d) = false := by
  rw [← byte_eq]; simpa using h
theorem byte_is (c d : UInt8) (h : (c.toNat : Int) = (d.toNat : Int)) : (c == d) = true := by
  rw [← byte_eq]; simpa using h
/-- A function value that says of a byte what p says. -/
def FnB (fv : Value) (p : UInt8 → Bool) : Prop :=
  ∃ f, fv = .func (.func f) #[] #[] ∧ (∀ (args : Array Value) (y : World), (callFunc f args).run Tryz.prog y = .ok (.enter f args) y) ∧ ∀ (c : UInt8) (y : World), Calls Tryz.prog f #[.int .u8 c.toNat] y fun e w' => e = .returned (.bool (p c)) ∧ y = w'
end
end Go.Proofs.YthomeplakcbfoaaGreatDoor
namespace Go.Proofs.YthomeplakcbfoaaGreatDoor
section
open Go.RowKit

theorem quiet_same {P : Program} {f : FuncId} {args : Array Value} {w : World} {n : Nat} {v : Value} (h : Calls P f args (w.drewN n) fun e w' => e = .returned v ∧ w.drewN n = w') :
    Calls P f args (w.drewN n) fun e w'' => e = .returned v ∧ ∃ m, w'' = w.drewN m := h.mono fun _ _ ⟨he, hm⟩ => ⟨he, n, hm.symm⟩
/-- A reader's cells. -/
abbrev rd (s : ByteArray) (i fr ln st : Nat) : List Value := [.string s, .int .i64 i, .int .i64 fr, .int .i64 ln, .int .i64 st]
theorem many_drop (p : UInt8 → Bool) (l : Bs) (k : Nat) (hlt : k < l.length) (hp : p l[k] = true) : many p (l.drop k) = 1 + many p (l.drop (k + 1)) := by
  unfold many
  rw [List.drop_eq_getElem_cons hlt, List.takeWhile_cons, if_pos hp]
  simp; omega
theorem many_stop (p : UInt8 → Bool) (l : Bs) (k : Nat) (hlt : k < l.length) (hp : p l[k] = false) : many p (l.drop k) = 0 := by
  unfold many
  rw [List.drop_eq_getElem_cons hlt, List.takeWhile_cons, if_neg (by simp [hp])]
  rfl
theorem Below.drewN (w : World) (n : Nat) : Below w.heap.size w (w.drewN n) := ⟨rfl, rfl, rfl, Nat.le_refl _, fun _ _ => rfl⟩
/-- How many bytes a reader has read. -/
def atOf (R : Nat) (x : World) : Nat := match x.cell? ⟨R, 1, none⟩ with | some (.int _ n) => n.toNat | _ => 0
theorem atOf_rd {R : Nat} {x : World} {s : ByteArray} {i fr ln st : Nat} (h : BL x R (rd s i fr ln st)) : atOf R x = i := by
  unfold atOf
  rw [h.g 1 _ rfl]
  rfl
theorem wrap_at (k : Nat) (h : k ≤ 5000000) : IntKind.i64.wrap ((k : Int) + 1) = (k : Int) + 1 := IntWalk.i64_in _ (by omega)
end
end Go.Proofs.YthomeplakcbfoaaGreatDoor
namespace Go.Proofs.YthomeplakcbfoaaGreatDoor
section
open Go.RowKit

def AfterR (w : World) (R : Nat) (s : ByteArray) (i fr : Nat) (w' : World) : Prop := ∃ ln st, KR w w' R (rd s i fr ln st) [] ∧ Pos s.data.toList i ln st
/-- What there is of comments and blanks behind the blanks at place k. -/
def tailS (l : Bs) : Nat := if ([45, 45] : Bs).isPrefixOf l = true then skipL true l else 0
theorem skip_at (l : Bs) (i : Nat) : i + skipL false (l.drop i) = (i + many blankB (l.drop i)) + tailS (l.drop (i + many blankB (l.drop i))) := by
  rw [skip_false, List.drop_drop]; unfold tailS; omega
theorem tail_at (l : Bs) (k : Nat) (h : ([45, 45] : Bs).isPrefixOf (l.drop k) = true) :
    k + tailS (l.drop k) = (k + many (fun c => c != 10) (l.drop k)) + skipL false (l.drop (k + many (fun c => c != 10) (l.drop k))) := by
  unfold tailS; rw [if_pos h, skip_true, List.drop_drop]; omega
theorem pre_pos (l : Bs) (h : ([45, 45] : Bs).isPrefixOf l = true) : 1 ≤ many (fun c => c != 10) l := by
  match l, h with
  | [], h => simp [List.isPrefixOf] at h
  | c :: r, h =>
    have hc : c = 45 := by
      cases r with
      | nil => simp [List.isPrefixOf] at h
      | cons d t => simp only [List.isPrefixOf, Bool.and_eq_true, beq_iff_eq] at h; exact h.1.symm
    rw [hc]
    exact many_pos (by decide)
theorem skip_fits (l : Bs) (i : Nat) (p : UInt8 → Bool) (hi : i ≤ l.length) : i + many p (l.drop i) ≤ l.length := by
  have h1 := many_le p (l.drop i)
  rw [List.length_drop] at h1
  omega
end
end Go.Proofs.YthomeplakcbfoaaGreatDoor
