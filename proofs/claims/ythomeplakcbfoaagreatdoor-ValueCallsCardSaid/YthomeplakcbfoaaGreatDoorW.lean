/-
  Contracts: Exception and Number.
-/
import Derived.Test.YthomeplakcbfoaaGreatDoorGa
import Derived.Test.YthomeplakcbfoaaGreatDoorL
namespace Go.Proofs.YthomeplakcbfoaaGreatDoor
open Go.RowKit

def excS (e : Int) : ByteArray := if e = 22 then ⟨#[122, 101, 114, 111, 95, 100, 105, 118, 105, 100, 101]⟩ else if e = 21 then ⟨#[118, 97, 108, 117, 101, 95, 101, 114, 114, 111, 114]⟩ else if e = 16 then ⟨#[118, 97, 108, 117, 101, 95, 101, 114, 114, 111, 114]⟩ else if e = 17 then ⟨#[118, 97, 108, 117, 101, 95, 101, 114, 114, 111, 114]⟩ else if e = 25 then ⟨#[116, 111, 111, 95, 109, 97, 110, 121, 95, 114, 111, 119, 115]⟩ else if e = 4 then ⟨#[110, 111, 95, 100, 97, 116, 97, 95, 102, 111, 117, 110, 100]⟩ else if e = 29 then ⟨#[99, 97, 110, 110, 111, 116, 95, 115, 101, 114, 105, 97, 108, 105, 122, 101]⟩ else if e = 28 then ⟨#[100, 101, 97, 100, 108, 111, 99, 107]⟩ else if e = 26 then ⟨#[115, 110, 97, 112, 115, 104, 111, 116, 95, 116, 111, 111, 95, 111, 108, 100]⟩ else if e = 19 then ⟨#[110, 111, 95, 114, 105, 103, 104, 116, 115]⟩ else if e = 23 then ⟨#[110, 111, 116, 95, 118, 97, 108, 105, 100]⟩ else if e = 13 then ⟨#[110, 111, 116, 95, 118, 97, 108, 105, 100]⟩ else if e = 20 then ⟨#[116, 111, 111, 95, 100, 101, 101, 112]⟩ else if e = 32 then ⟨#[105, 110, 95, 100, 111, 117, 98, 116]⟩ else if e = 3 then ⟨#[110, 111, 95, 114, 111, 111, 109]⟩ else ⟨#[]⟩
set_option maxHeartbeats 1000000 in
theorem exception_ (e : Int) (w : World) : Calls Tryz.prog 35 #[.int .i64 e] w fun x w' => x = .returned (.string (excS e)) ∧ w = w' := by
  have H : Hid (excS e = if e = 22 then ⟨#[122, 101, 114, 111, 95, 100, 105, 118, 105, 100, 101]⟩ else if e = 21 then ⟨#[118, 97, 108, 117, 101, 95, 101, 114, 114, 111, 114]⟩ else if e = 16 then ⟨#[118, 97, 108, 117, 101, 95, 101, 114, 114, 111, 114]⟩ else if e = 17 then ⟨#[118, 97, 108, 117, 101, 95, 101, 114, 114, 111, 114]⟩ else if e = 25 then ⟨#[116, 111, 111, 95, 109, 97, 110, 121, 95, 114, 111, 119, 115]⟩ else if e = 4 then ⟨#[110, 111, 95, 100, 97, 116, 97, 95, 102, 111, 117, 110, 100]⟩ else if e = 29 then ⟨#[99, 97, 110, 110, 111, 116, 95, 115, 101, 114, 105, 97, 108, 105, 122, 101]⟩ else if e = 28 then ⟨#[100, 101, 97, 100, 108, 111, 99, 107]⟩ else if e = 26 then ⟨#[115, 110, 97, 112, 115, 104, 111, 116, 95, 116, 111, 111, 95, 111, 108, 100]⟩ else if e = 19 then ⟨#[110, 111, 95, 114, 105, 103, 104, 116, 115]⟩ else if e = 23 then ⟨#[110, 111, 116, 95, 118, 97, 108, 105, 100]⟩ else if e = 13 then ⟨#[110, 111, 116, 95, 118, 97, 108, 105, 100]⟩ else if e = 20 then ⟨#[116, 111, 111, 95, 100, 101, 101, 112]⟩ else if e = 32 then ⟨#[105, 110, 95, 100, 111, 117, 98, 116]⟩ else if e = 3 then ⟨#[110, 111, 95, 114, 111, 111, 109]⟩ else ⟨#[]⟩) := Lib.hid rfl
  go_enter Tryz.func35, Tryz.ntmps35
  go_wp2
  all_goals
    (try simp only [Exit.inBlock, Exit.then])
    go_ret
    refine ⟨ret_str ?_, rfl⟩
    have h := H.out
    simp only [beq_iff_eq, beq_eq_false_iff_ne] at *
    first
      | (rw [h]; simp [*]; done)
      | (subst_vars; rw [h]; simp; done)

def excNames : List ByteArray := [⟨#[110, 111, 95, 100, 97, 116, 97, 95, 102, 111, 117, 110, 100]⟩, ⟨#[116, 111, 111, 95, 109, 97, 110, 121, 95, 114, 111, 119, 115]⟩, ⟨#[122, 101, 114, 111, 95, 100, 105, 118, 105, 100, 101]⟩, ⟨#[118, 97, 108, 117, 101, 95, 101, 114, 114, 111, 114]⟩, ⟨#[100, 117, 112, 95, 118, 97, 108, 95, 111, 110, 95, 105, 110, 100, 101, 120]⟩, ⟨#[99, 104, 101, 99, 107, 95, 118, 105, 111, 108, 97, 116, 101, 100]⟩, ⟨#[110, 117, 108, 108, 95, 118, 105, 111, 108, 97, 116, 101, 100]⟩, ⟨#[112, 97, 114, 101, 110, 116, 95, 109, 105, 115, 115, 105, 110, 103]⟩, ⟨#[99, 104, 105, 108, 100, 95, 102, 111, 117, 110, 100]⟩, ⟨#[109, 117, 116, 97, 116, 105, 110, 103]⟩, ⟨#[100, 101, 97, 100, 108, 111, 99, 107]⟩, ⟨#[99, 97, 110, 110, 111, 116, 95, 115, 101, 114, 105, 97, 108, 105, 122, 101]⟩, ⟨#[105, 110, 118, 97, 108, 105, 100, 95, 99, 117, 114, 115, 111, 114]⟩, ⟨#[115, 110, 97, 112, 115, 104, 111, 116, 95, 116, 111, 111, 95, 111, 108, 100]⟩, ⟨#[110, 111, 95, 114, 105, 103, 104, 116, 115]⟩, ⟨#[110, 111, 116, 95, 118, 97, 108, 105, 100]⟩, ⟨#[116, 111, 111, 95, 100, 101, 101, 112]⟩, ⟨#[116, 111, 111, 95, 108, 111, 110, 103]⟩, ⟨#[105, 110, 95, 100, 111, 117, 98, 116]⟩, ⟨#[110, 111, 95, 114, 111, 111, 109]⟩]
theorem exc_cells (w : World) : ∀ j, j < excNames.length → (w.alloc (.cells (excNames.map Value.string).toArray 9)).cell? ⟨w.heap.size, 0 + j, none⟩ = some (.string (excNames.getD j ByteArray.empty)) := by
  intro j hj
  rw [Nat.zero_add, World.cell?_alloc_new]
  simp [hj]
theorem idx_le (l : List ByteArray) (x : ByteArray) : -1 ≤ Lib.idxOfS l x ∧ Lib.idxOfS l x ≤ l.length := by
  have key : ∀ (l : List ByteArray) (i : Nat), -1 ≤ Lib.idxFromS l x i ∧ Lib.idxFromS l x i ≤ i + l.length := by
    intro l
    induction l with
    | nil => intro i; simp only [Lib.idxFromS, List.length_nil]; omega
    | cons z l ih =>
      intro i
      have := ih (i + 1)
      simp only [Lib.idxFromS, List.length_cons]
      split <;> omega
  have := key l 0
  unfold Lib.idxOfS
  omega
theorem exc_take : excNames.take 20 = excNames := rfl
theorem vnumber_ (s : ByteArray) (w : World) : Calls Tryz.prog 36 #[.string s] w fun x w' => x = .returned (.int .i64 (Lib.idxOfS excNames s + 1)) ∧ Below w.heap.size w w' := by
  obtain ⟨i1, i2⟩ := idx_le (excNames.take 20) s
  have hl : (excNames.take 20).length = 20 := rfl
  rw [hl] at i2
  clear hl
  go_enter Tryz.func36, Tryz.ntmps36
  go_wp2_with (first
    | (go_at_call 64; refine (Tryz.slices_Index_string w.heap.size 0 20 20 excNames s _ (by decide) (by decide) (exc_cells w)).mono ?_; rintro e y ⟨rfl, rfl⟩))
  go_ret
  exact ⟨by rw [← exc_take]; rfl, new1 _ _⟩
end Go.Proofs.YthomeplakcbfoaaGreatDoor
