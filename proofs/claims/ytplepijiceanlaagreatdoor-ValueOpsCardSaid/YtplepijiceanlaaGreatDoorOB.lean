/-
  The law of operations: its walk.
-/
import Derived.Test.YtplepijiceanlaaGreatDoorRW
namespace Go.Proofs.YtplepijiceanlaaGreatDoor
open Go.RowKit

theorem una_at {op : ByteArray} {v u : Va} {e : Int} (h : unaS op v = (u, e)) (w : World) : Calls Tryz.prog 25 #[.string op, v.val] w fun r w' => r = .returned (.tuple #[u.val, .int .i64 e]) ∧ Below w.heap.size w w' := by
  have := unaryAll_ op v w
  rw [h] at this
  exact this
theorem refUna_at {op : ByteArray} {v u : Va} {e : Int} (h : unaS op v = (u, e)) (hm : v.s.size ≤ maxLen) (w : World) : Calls Tryz.prog 26 #[.string op, v.val] w fun r w' => r = .returned (.tuple #[u.val, .int .i64 e]) ∧ Below w.heap.size w w' := by
  have := refUnary_ op v hm w
  rw [h] at this
  exact this
theorem bina_at {op : ByteArray} {a b u : Va} {e : Int} (h : binS op a b = (u, e)) (w : World) : Calls Tryz.prog 27 #[.string op, a.val, b.val] w fun r w' => r = .returned (.tuple #[u.val, .int .i64 e]) ∧ Below w.heap.size w w' := by
  have := binary_ op a b w
  rw [h] at this
  exact this
theorem refBina_at {op : ByteArray} {a b u : Va} {e : Int} (h : binS op a b = (u, e)) (hma : a.s.size ≤ maxLen) (hmb : b.s.size ≤ maxLen) (w : World) : Calls Tryz.prog 28 #[.string op, a.val, b.val] w fun r w' => r = .returned (.tuple #[u.val, .int .i64 e]) ∧ Below w.heap.size w w' := by
  have := refBinary_ op a b hma hmb w
  rw [h] at this
  exact this
theorem few2n {x : World} {n : Nat} (hn : x.heap.size = n) (a b : Va) : Calls Tryz.prog 13 #[.slice (some ⟨n, 0, none⟩) 2 2] (x.alloc (.cells #[.int .i64 a.k, .int .i64 a.n, .string a.s, .int .i64 b.k, .int .i64 b.n, .string b.s] 27))
    fun e w' => (∃ q : Bool, e = .returned (.bool q)) ∧ Below (x.alloc (.cells #[.int .i64 a.k, .int .i64 a.n, .string a.s, .int .i64 b.k, .int .i64 b.n, .string b.s] 27)).heap.size (x.alloc (.cells #[.int .i64 a.k, .int .i64 a.n, .string a.s, .int .i64 b.k, .int .i64 b.n, .string b.s] 27)) w' := by
  subst hn; exact few2 x a b
theorem eqV_me (v : Va) : eqV v.k v.n v.s v.k v.n v.s = true := by rw [eqV_iff]; exact ⟨rfl, rfl, rfl⟩
set_option maxRecDepth 100000 in
set_option maxHeartbeats 40000000 in
/-- The law of operations. -/
theorem valueOps_ (hA : Awk) (op : ByteArray) (a b : Va) (za : a.s.size ≤ maxLen) (zb : b.s.size ≤ maxLen) (w : World) (hg : Gl w) : Calls Tryz.prog 4 #[.string op, a.val, b.val] w fun e w' => e = .returned (.bool true) ∧ Below w.heap.size w w' := by
  obtain ⟨⟨u, eu⟩, hu⟩ : ∃ q, unaS op a = q := ⟨_, rfl⟩
  obtain ⟨⟨v, ev⟩, hv⟩ : ∃ q, binS op a b = q := ⟨_, rfl⟩
  have C25 := Lib.hid (fun x => una_at hu x)
  have C26 := Lib.hid (fun x => refUna_at hu za x)
  have C27 := Lib.hid (fun x => bina_at hv x)
  have C28 := Lib.hid (fun x => refBina_at hv za zb x)
  have HA := Lib.hid hA
  have HG := Lib.hid hg
  have eu1 := eqV_me u
  have ev1 := eqV_me v
  have eu2 : (eu == eu) = true := by simp
  have ev2 : (ev == ev) = true := by simp
  have K : Hid (KL w _ _) := Lib.hid (((KL.refl w).push (.int .i64 a.k) (.int .i64 a.n) (.string a.s) 27).push' (w.heap.size + 1) (sz1 _ _) (.int .i64 b.k) (.int .i64 b.n) (.string b.s) 27)
  clear hu hv hA hg za zb
  by_cases hz : op.size ≤ 1000
  · go_enter Tryz.func4, Tryz.ntmps4
    go_wp2_with (first
      | (go_at_call 13; (with_reducible refine (few2n (sz2 _ _ _) a b).mono ?_); rintro e y' ⟨⟨bb, rfl⟩, hy⟩; have K' := Lib.hid (KL.below (KL.alloc K.out _) hy); clear hy K; have K := K'; clear K'; obtain ⟨HB, ⟨b0, b1, b2, -, -, -, bl⟩, ⟨a0, a1, a2, -, -, -, al⟩, -⟩ := K.out; cases bb)
      | (go_at_call 25; (with_reducible refine (C25.out _).mono ?_); rintro e y ⟨rfl, hy⟩; have K' := Lib.hid (KL.below K.out hy); clear hy K HB b0 b1 b2 bl a0 a1 a2 al; have K := K'; clear K'; obtain ⟨HB, ⟨b0, b1, b2, -, -, -, bl⟩, ⟨a0, a1, a2, -, -, -, al⟩, -⟩ := K.out)
      | (go_at_call 26; (with_reducible refine (C26.out _).mono ?_); rintro e y ⟨rfl, hy⟩; have K' := Lib.hid (KL.below (KL.push K.out _ _ _ 27) hy); clear hy K HB b0 b1 b2 bl a0 a1 a2 al; have K := K'; clear K'; obtain ⟨HB, ⟨c0, c1, c2, -, -, -, cl⟩, ⟨b0, b1, b2, -, -, -, bl⟩, ⟨a0, a1, a2, -, -, -, al⟩, -⟩ := K.out)
      | (go_at_call 27; (with_reducible refine (C27.out _).mono ?_); rintro e y ⟨rfl, hy⟩; have K' := Lib.hid (KL.below (KL.push K.out _ _ _ 27) hy); clear hy K HB b0 b1 b2 bl a0 a1 a2 al c0 c1 c2 cl; have K := K'; clear K'; obtain ⟨HB, ⟨d0, d1, d2, -, -, -, dl⟩, ⟨c0, c1, c2, -, -, -, cl⟩, ⟨b0, b1, b2, -, -, -, bl⟩, ⟨a0, a1, a2, -, -, -, al⟩, -⟩ := K.out)
      | (go_at_call 28; (with_reducible refine (C28.out _).mono ?_); rintro e y ⟨rfl, hy⟩; have K' := Lib.hid (KL.below (KL.push K.out _ _ _ 27) hy); clear hy K HB b0 b1 b2 bl a0 a1 a2 al c0 c1 c2 cl d0 d1 d2 dl; have K := K'; clear K'; obtain ⟨HB, ⟨f0, f1, f2, -, -, -, fl⟩, ⟨d0, d1, d2, -, -, -, dl⟩, ⟨c0, c1, c2, -, -, -, cl⟩, -⟩ := K.out)
      | (go_at_call 14; (with_reducible refine (awk_at HA.out _ (Gl.below HG.out (KL.alloc K.out _).HB)).mono ?_); rintro e y ⟨rfl, hy⟩; have HE := Lib.hid ((KL.alloc K.out _).HB.trans (hy.mono (KL.alloc K.out _).HB.size)); clear hy)
      | (go_at_call 14; (with_reducible refine (awk_at HA.out _ (Gl.below HG.out K.out.HB)).mono ?_); rintro e y ⟨rfl, hy⟩; have HE := Lib.hid (K.out.HB.trans (hy.mono K.out.HB.size)); clear hy))
    all_goals (go_ret; exact ⟨rfl, HE.out⟩)
  · go_enter Tryz.func4, Tryz.ntmps4
    go_wp2_with (first
      | (go_at_call 13; (with_reducible refine (few2n (sz2 _ _ _) a b).mono ?_); rintro e y' ⟨⟨bb, rfl⟩, hy⟩; have K' := Lib.hid (KL.below (KL.alloc K.out _) hy); clear hy K; have K := K'; clear K'; obtain ⟨HB, ⟨b0, b1, b2, -, -, -, bl⟩, ⟨a0, a1, a2, -, -, -, al⟩, -⟩ := K.out; cases bb)
      | (go_at_call 14; (with_reducible refine (awk_at HA.out _ (Gl.below HG.out K.out.HB)).mono ?_); rintro e y ⟨rfl, hy⟩; have HE := Lib.hid (K.out.HB.trans (hy.mono K.out.HB.size)); clear hy))
    all_goals (go_ret; exact ⟨rfl, HE.out⟩)
end Go.Proofs.YtplepijiceanlaaGreatDoor
