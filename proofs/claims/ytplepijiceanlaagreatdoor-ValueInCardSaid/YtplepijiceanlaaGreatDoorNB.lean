/-
  The law of numbers: its walk, statement by statement.
-/
import Derived.Test.YtplepijiceanlaaGreatDoorNU
import Derived.Test.YtplepijiceanlaaGreatDoorNM
import Derived.Test.YtplepijiceanlaaGreatDoorAV
namespace Go.Proofs.YtplepijiceanlaaGreatDoor
open Go.RowKit

abbrev Ends10 (w : World) : Exit → Act → World → Prop := bodyPost Tryz.prog Tryz.f10 fun e w' => e = .returned (.bool true) ∧ Below w.heap.size w w'
theorem awk_at (h : Awk) (w : World) (hg : Gl w) : Calls Tryz.prog 14 #[] w fun e w' => e = .returned (.bool true) ∧ Below w.heap.size w w' := h w hg
/-- A contract at what it gives, by name. -/
theorem ord_at {a b : Va} {x e : Int} (h : ordS a b = (x, e)) (w : World) : Calls Tryz.prog 33 #[a.val, b.val] w fun r w' => r = .returned (.tuple #[.int .i64 x, .int .i64 e]) ∧ Below w.heap.size w w' := by
  have := order_ a b w
  rw [h] at this
  exact this
theorem bin_at {op : ByteArray} {a b : Va} {v : Va} {e : Int} (h : binS op a b = (v, e)) (w : World) : Calls Tryz.prog 27 #[.string op, a.val, b.val] w fun r w' => r = .returned (.tuple #[v.val, .int .i64 e]) ∧ Below w.heap.size w w' := by
  have := binary_ op a b w
  rw [h] at this
  exact this
theorem un_at {d : Int} {op : ByteArray} {a : Va} {v : Va} {e : Int} (hop : findE unMap op = some (.int .i64 d)) (h : unS d a = (v, e)) (w : World) : Calls Tryz.prog 25 #[.string op, a.val] w fun r w' => r = .returned (.tuple #[v.val, .int .i64 e]) ∧ Below w.heap.size w w' := by
  have := unary_ d op hop a w
  rw [h] at this
  exact this
theorem cb_bd : ∀ a b : List UInt8, -1 ≤ Lib.compareBytes a b ∧ Lib.compareBytes a b ≤ 1
  | [], [] => by simp [Lib.compareBytes]
  | [], _ :: _ => by simp [Lib.compareBytes]
  | _ :: _, [] => by simp [Lib.compareBytes]
  | x :: a, y :: b => by
    have ih := cb_bd a b
    simp only [Lib.compareBytes]
    split
    · decide
    · split
      · decide
      · exact ih
theorem cmpV_bd (k n n' : Int) (s s' : ByteArray) : -1 ≤ cmpV k n s n' s' ∧ cmpV k n s n' s' ≤ 1 := by
  unfold cmpV; split
  · exact cb_bd _ _
  · unfold Lib.compareInt; repeat' split <;> omega
theorem ordS_bd (a b : Va) : -1 ≤ (ordS a b).1 ∧ (ordS a b).1 ≤ 1 := by
  unfold ordS; repeat' split
  all_goals first | exact cmpV_bd _ _ _ _ _ | decide
/-- What is asked of four comparisons. -/
def Fit4 (a b : Va) (x1 x2 x3 x4 e1 e3 e4 : Int) : Prop :=
  (e1 != 0) = false → (e3 != 0) = false → (e4 != 0) = false → x1 = -x2 ∧ ((x1 == 0) = eqV a.k a.n a.s b.k b.n b.s) ∧ (x1 ≤ 0 → x3 ≤ 0 → x4 ≤ 0) ∧ -1 ≤ x2 ∧ x2 ≤ 1
theorem fit4 {a b c : Va} (ha : a.ok = true) (hb : b.ok = true) (hc : c.ok = true) {x1 x2 x3 x4 e1 e2 e3 e4 : Int} (h1 : ordS a b = (x1, e1)) (h2 : ordS b a = (x2, e2)) (h3 : ordS b c = (x3, e3)) (h4 : ordS a c = (x4, e4)) : Fit4 a b x1 x2 x3 x4 e1 e3 e4 := by
  intro q1 q3 q4
  have hf := num3 a b c ha hb hc (by rw [h1]; simpa using q1) (by rw [h3]; simpa using q3) (by rw [h4]; simpa using q4)
  have hbd := ordS_bd b a
  unfold OrdFit at hf
  rw [h1, h2, h3, h4] at hf
  rw [h2] at hbd
  exact ⟨hf.1, hf.2.1, hf.2.2, hbd.1, hbd.2⟩
theorem fit4_cases {a b : Va} {x1 x2 x3 x4 e1 e3 e4 : Int} (h : Fit4 a b x1 x2 x3 x4 e1 e3 e4) (q1 : (e1 != 0) = false) (q3 : (e3 != 0) = false) (q4 : (e4 != 0) = false) :
    (x1 = 1 ∧ x2 = -1 ∧ eqV a.k a.n a.s b.k b.n b.s = false) ∨ (((x1 = 0 ∧ x2 = 0 ∧ eqV a.k a.n a.s b.k b.n b.s = true) ∨ (x1 = -1 ∧ x2 = 1 ∧ eqV a.k a.n a.s b.k b.n b.s = false)) ∧ (0 < x3 ∨ x3 ≤ 0 ∧ x4 ≤ 0)) := by
  obtain ⟨h1, h2, h3, h4, h5⟩ := h q1 q3 q4
  subst h1
  rw [← h2]
  have : x2 = -1 ∨ x2 = 0 ∨ x2 = 1 := by omega
  rcases this with rfl | rfl | rfl
  · exact .inl ⟨rfl, rfl, rfl⟩
  · refine .inr ⟨.inl ⟨rfl, rfl, rfl⟩, ?_⟩
    by_cases h : 0 < x3
    · exact .inl h
    · exact .inr ⟨by omega, h3 (by omega) (by omega)⟩
  · refine .inr ⟨.inr ⟨rfl, rfl, rfl⟩, ?_⟩
    by_cases h : 0 < x3
    · exact .inl h
    · exact .inr ⟨by omega, h3 (by omega) (by omega)⟩
theorem KL.tl {w x : World} {p : Nat × Value × Value × Value} {l : List (Nat × Value × Value × Value)} (h : KL w x (p :: l)) : KL w x l := ⟨h.HB, h.q.2⟩
theorem sl3v (x : World) (a b c : Va) : Sl (x.alloc (.cells #[.int .i64 a.k, .int .i64 a.n, .string a.s, .int .i64 b.k, .int .i64 b.n, .string b.s, .int .i64 c.k, .int .i64 c.n, .string c.s] 27)) (some ⟨x.heap.size, 0, none⟩) [a, b, c] := sl3' x _ rfl _ _ _ _ _ _ _ _ _
theorem sl2v (x : World) (a b : Va) : Sl (x.alloc (.cells #[.int .i64 a.k, .int .i64 a.n, .string a.s, .int .i64 b.k, .int .i64 b.n, .string b.s] 27)) (some ⟨x.heap.size, 0, none⟩) [a, b] := sl2' x _ rfl _ _ _ _ _ _
theorem few3 (x : World) (a b c : Va) : Calls Tryz.prog 13 #[.slice (some ⟨x.heap.size, 0, none⟩) 3 3] (x.alloc (.cells #[.int .i64 a.k, .int .i64 a.n, .string a.s, .int .i64 b.k, .int .i64 b.n, .string b.s, .int .i64 c.k, .int .i64 c.n, .string c.s] 27))
    fun e w' => (∃ q : Bool, e = .returned (.bool q)) ∧ Below (x.alloc (.cells #[.int .i64 a.k, .int .i64 a.n, .string a.s, .int .i64 b.k, .int .i64 b.n, .string b.s, .int .i64 c.k, .int .i64 c.n, .string c.s] 27)).heap.size (x.alloc (.cells #[.int .i64 a.k, .int .i64 a.n, .string a.s, .int .i64 b.k, .int .i64 b.n, .string b.s, .int .i64 c.k, .int .i64 c.n, .string c.s] 27)) w' :=
  few_ _ _ [a, b, c] _ (by simp [maxLen]) (sl3v x a b c)
theorem few2 (x : World) (a b : Va) : Calls Tryz.prog 13 #[.slice (some ⟨x.heap.size, 0, none⟩) 2 2] (x.alloc (.cells #[.int .i64 a.k, .int .i64 a.n, .string a.s, .int .i64 b.k, .int .i64 b.n, .string b.s] 27))
    fun e w' => (∃ q : Bool, e = .returned (.bool q)) ∧ Below (x.alloc (.cells #[.int .i64 a.k, .int .i64 a.n, .string a.s, .int .i64 b.k, .int .i64 b.n, .string b.s] 27)).heap.size (x.alloc (.cells #[.int .i64 a.k, .int .i64 a.n, .string a.s, .int .i64 b.k, .int .i64 b.n, .string b.s] 27)) w' :=
  few_ _ _ [a, b] _ (by simp [maxLen]) (sl2v x a b)
def DivFit (a b q m : Va) (e f : Int) : Prop := (e == 0) = true → (f == 0) = true → ∀ p s : Va × Int, binS sMul q b = p → binS sAdd p.1 m = s → (p.2 == 0) = true → (s.2 == 0) = true → (q.k != 0) = true → eqV s.1.k s.1.n s.1.s a.k a.n a.s = true
end Go.Proofs.YtplepijiceanlaaGreatDoor
