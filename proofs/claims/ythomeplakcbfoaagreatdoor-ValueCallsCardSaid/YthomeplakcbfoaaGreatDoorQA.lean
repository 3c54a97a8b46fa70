/-
  Rows of bytes that a call makes: how they grow, and the strings that they are.
-/
import Derived.Test.YthomeplakcbfoaaGreatDoorGc
import Derived.Test.YthomeplakcbfoaaGreatDoorGe
import Derived.Laws.IdiomStrings
import Derived.Lib.AppendStr
import Derived.Lib.UnsafeStr
import Derived.Lib.SmallJoins
namespace Go.Proofs.YthomeplakcbfoaaGreatDoor
open Go.RowKit

theorem not39q {c : UInt8} (h : (c == 39) = false) : ((c.toNat : Int) == 39) = false := by
  rw [show (39 : Int) = (((39 : UInt8).toNat : Nat) : Int) from rfl, byte_eq', h]
theorem is39q {c : UInt8} (h : (c == 39) = true) : ((c.toNat : Int) == 39) = true := by
  rw [show (39 : Int) = (((39 : UInt8).toNat : Nat) : Int) from rfl, byte_eq', h]
set_option maxRecDepth 100000 in
theorem addr_addQ (b j : Nat) : (⟨b, 0, none⟩ : Addr).add j = ⟨b, j, none⟩ := by unfold Addr.add; split <;> simp_all

theorem infoU8 : (Tryz.prog.info? 5).map (fun i => (i.zero, i.size, i.bytes)) = some (some (.int .u8 0), 1, 1) := by kernel_rfl
def bcs (l : Bs) : List Value := l.map fun b => Value.int .u8 b.toNat
theorem bcs_app (a b : Bs) : bcs (a ++ b) = bcs a ++ bcs b := by simp [bcs]
theorem bcs_len (a : Bs) : (bcs a).length = a.length := by simp [bcs]
theorem bcs_str (s : ByteArray) : Lib.strCells s = bcs s.data.toList := rfl
/-- A row of bytes that the call has made. -/
def OwnB (B : Nat) (x : World) (v : Value) (l : Bs) : Prop := x.ownsRow B 5 1 v l.length (bcs l)
theorem OwnB.kept {B : Nat} {x y : World} {v : Value} {l : Bs} {row : Option Nat} (h : OwnB B x v l) (hg : x.grownBy y row) (hr : ∀ k, row = some k → k < B) : OwnB B y v l := by
  refine World.ownsRow.kept h hg ?_
  cases hv : v.ownBlock with
  | none => exact .inl rfl
  | some b =>
    right
    intro e
    have h1 := (World.ownsRow.lt h b hv).1
    have h2 := hr b e.symm
    omega
theorem OwnB.below {B : Nat} {x y : World} {v : Value} {l : Bs} (h : OwnB B x v l) (hb : Below x.heap.size x y) : OwnB B y v l :=
  h.kept (row := none) ⟨hb.os, hb.tape, hb.output, hb.size, fun k hk _ => hb.block k hk⟩ (fun k e => by cases e)
theorem OwnB.nil (B : Nat) (x : World) : OwnB B x (.slice none 0 0) [] := World.ownsRow_nil x _ _ _
theorem OwnB.lt {B : Nat} {x : World} {v : Value} {l : Bs} (h : OwnB B x v l) : ∀ b, v.ownBlock = some b → B ≤ b := fun b hb => (World.ownsRow.lt h b hb).1
theorem OwnB.form {B : Nat} {x : World} {v : Value} {l : Bs} (h : OwnB B x v l) : ∃ a cap, v = .slice a l.length cap := by
  obtain ⟨h1, h2⟩ := h
  rcases h2 with ⟨rfl, hn⟩ | ⟨g, cap, cur, rfl, _⟩
  · rw [hn]
    exact ⟨none, 0, rfl⟩
  · exact ⟨_, cap, rfl⟩
theorem OwnB.le {B B' : Nat} {x : World} {v : Value} {l : Bs} (h : OwnB B' x v l) (hl : B ≤ B') : OwnB B x v l := Go.Joins.ownsRow_le h hl
theorem heap_new' (x : World) (o : Obj) : (x.alloc o).heap[x.heap.size]? = some o := by
  show (x.heap.push o)[x.heap.size]? = _
  simp
theorem OwnB.new (x : World) (l : Bs) (hl : l.length ≤ 1000000) : OwnB x.heap.size (x.alloc (.cells (bcs l).toArray 5)) (.slice (some ⟨x.heap.size, 0, none⟩) l.length l.length) l :=
  ⟨by rw [bcs_len, Nat.mul_one], .inr ⟨x.heap.size, l.length, _, rfl, Nat.le_refl _, heap_new' x _, Nat.le_refl _, by simp only [maxLen]; omega, by simp [bcs_len], by
    rw [Nat.mul_one, ← bcs_len l]; simp⟩⟩
/-- A byte is put behind a row. -/
theorem wpList_append_byte {w : World} {ops : Array Oper} {rest : List Oper} {o : Oper} {a : Act} {Q : Exit → Act → World → Prop} (hgd : o.guard = none) (s x : Operand) (ho : o.op = .call { callee := .builtin .append, args := #[s, x], argTypes := #[75, 75] })
    (B : Nat) (v : Value) (l : Bs) (hs : a.eval s = v) (hown : OwnB B w v l) (g : Nat) (c : UInt8) (hx : a.eval x = .slice (some ⟨g, 0, none⟩) 1 1) (hc : w.cell? ⟨g, 0, none⟩ = some (.int .u8 c.toNat)) (hn : l.length ≤ 1000000000) (hB : B ≤ w.heap.size)
    (h : ∀ v' w', OwnB B w' v' (l ++ [c]) → w.grownBy w' v.ownBlock → wpList Tryz.prog ops Q rest (a.put o.dst v') w') : wpList Tryz.prog ops Q (o :: rest) a w := by
  obtain ⟨i0, hi, hz, hsz, hby⟩ := info_parts infoU8
  refine wpList_append_own w hgd s x _ ho B _ i0 _ 1 1 Tryz.underlying75 hi hz hsz hby rfl (by decide) v l.length (bcs l) hs hown ⟨g, 0, none⟩ 1 1 [.int .u8 c.toNat] hx rfl ?_ ?_ (by simp only [maxLen]; omega) (by omega) hB ?_
  · intro j u hu
    rw [addr_addQ]
    match j, hu with
    | 0, hu => cases hu; exact hc
  · intro u hu
    simp at hu
    rw [hu]
    rfl
  · intro v' w' h1 h2 _
    exact h v' w' (by unfold OwnB; rw [List.length_append, bcs_app]; exact h1) h2
/-- A string is put behind a row. -/
theorem wpList_append_str {w : World} {ops : Array Oper} {rest : List Oper} {o : Oper} {a : Act} {Q : Exit → Act → World → Prop} (hgd : o.guard = none) (s x : Operand) (ho : o.op = .call { callee := .builtin .append, args := #[s, x], argTypes := #[75, 9] })
    (B : Nat) (v : Value) (l : Bs) (hs : a.eval s = v) (hown : OwnB B w v l) (t : ByteArray) (hx : a.eval x = .string t) (hn : l.length + t.size ≤ 1000000000) (hB : B ≤ w.heap.size)
    (h : ∀ v' w', OwnB B w' v' (l ++ t.data.toList) → w.grownBy w' v.ownBlock → wpList Tryz.prog ops Q rest (a.put o.dst v') w') : wpList Tryz.prog ops Q (o :: rest) a w := by
  obtain ⟨i0, hi, hz, hsz, hby⟩ := info_parts infoU8
  refine Lib.wpList_append_own_string w hgd s x _ _ ho B _ i0 Tryz.underlying75 Tryz.underlying9 hi hz hsz hby v l.length (bcs l) hs hown t hx (by simp only [maxLen]; omega) (by omega) hB ?_
  intro v' w' h1 h2 _
  exact h v' w' (by unfold OwnB; rw [List.length_append, bcs_app]; rw [bcs_str] at h1; have e : t.data.toList.length = t.size := by simp
                    rw [e]; exact h1) h2
theorem run_string_own {B : Nat} {w : World} {v : Value} {l : Bs} (h : OwnB B w v l) : (convert 75 9 v).run Tryz.prog w = .ok (.string (baOf l)) w := by
  have h0 := h
  obtain ⟨h1, h2⟩ := h
  rcases h2 with ⟨rfl, hn⟩ | ⟨g, cap, cur, rfl, _⟩
  · obtain rfl : l = [] := List.eq_nil_of_length_eq_zero hn
    rw [run_convert_bytes_string w 75 9 5 none 0 0 Tryz.underlying75 Tryz.underlying5 Tryz.underlying9]
    rfl
  · refine run_convert_bytes_back w 75 9 5 ⟨g, 0, none⟩ cap l Tryz.underlying75 Tryz.underlying5 Tryz.underlying9 fun j hj => ?_
    have h3 := World.ownsRow.cells (g := g) h0 rfl
    exact h3 j _ (by rw [bcs, List.getElem?_map, List.getElem?_eq_getElem hj]; rfl)
/-- A row as a string. -/
theorem wpList_string_own {w : World} {ops : Array Oper} {rest : List Oper} {o : Oper} {a : Act} {Q : Exit → Act → World → Prop} (hgd : o.guard = none) (x : Operand) (ho : o.op = .convert 75 9 x)
    (B : Nat) (v : Value) (l : Bs) (hx : a.eval x = v) (hown : OwnB B w v l) (h : wpList Tryz.prog ops Q rest (a.put o.dst (.string (baOf l))) w) : wpList Tryz.prog ops Q (o :: rest) a w :=
  wpList_plain hgd fun _ hK => by
    unfold Oper.wp execOp
    have hr := run_string_own hown
    simp only [ho, Sem.run_bind, Sem.run_pure, hx]
    rw [hr]
    exact hK _ _ h
end Go.Proofs.YthomeplakcbfoaaGreatDoor
