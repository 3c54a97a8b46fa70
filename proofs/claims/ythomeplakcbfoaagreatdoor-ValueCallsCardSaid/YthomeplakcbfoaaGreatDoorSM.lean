/-
  Contracts: count; a function value over lists; min and max only of one kind.
-/
import Derived.Test.YthomeplakcbfoaaGreatDoorAA
namespace Go.Proofs.YthomeplakcbfoaaGreatDoor
open Go.RowKit

/-- How many are not null. -/
def cntS (l : List Va) : Nat := l.countP fun v => !(v.k == 0)
theorem cnt_take (l : List Va) (k : Nat) (h : k < l.length) : cntS (l.take (k + 1)) = cntS (l.take k) + if (l[k].k == 0) = true then 0 else 1 := by
  unfold cntS
  rw [List.take_succ_eq_append_getElem h, List.countP_append]
  cases q : l[k].k == 0 <;> simp [q]
theorem cnt_le (l : List Va) : cntS l ≤ l.length := List.countP_le_length
set_option maxRecDepth 100000 in
theorem count_ (A : Option Addr) (c : Nat) (l : List Va) (w : World) (hl : l.length ≤ maxLen) (h : Sl w A l) :
    Calls Tryz.prog 72 #[.slice A l.length c] w fun e w' => e = .returned (two (intV (cntS l), 0)) ∧ Below w.heap.size w w' := by
  have hl' : l.length ≤ 9223372036854775807 := hl
  go_enter Tryz.func72, Tryz.ntmps72
  go_wp2_with fail
  go_loopw [4, 9] (fun q i x => ∃ (j : Nat), j ≤ l.length ∧ i = .int .i64 j ∧ q = .int .i64 (cntS (l.take j)) ∧ KL w x [(w.heap.size, .int .i64 0, .int .i64 0, .string ⟨#[]⟩)]) (fun q i x => l.length - (intOf i).toNat)
  case atStart => exact ⟨0, Nat.zero_le _, rfl, rfl, (KL.refl w).push _ _ _ 27⟩
  case round =>
    obtain ⟨j, hj, rfl, rfl, hK⟩ := hrel
    have KX := Lib.hid hK
    clear hK
    obtain ⟨HB, ⟨r0, r1, r2, g0, g1, g2, rl⟩, _⟩ := KX.out
    by_cases hlt : j < l.length
    · have hc := cnt_take l j hlt
      have hcl := cnt_le (l.take j)
      rw [List.length_take] at hcl
      obtain ⟨b, off, rfl, hb, c0, c1, c2⟩ := (h.below HB) j _ (List.getElem?_eq_getElem hlt)
      clear h
      generalize l[j] = v at *
      have hnn : hasNull [v] = (v.k == 0) := by simp [hasNull]
      cases q1 : v.k == 0
      · rw [q1] at hc hnn
        simp only [Bool.false_eq_true, if_false] at hc
        have HC := Lib.hid hc
        clear hc
        generalize cntS (l.take j) = m at *
        go_wp2_with (first
          | (go_at_call 41; refine (someNull_ _ _ [v] _ (by simp [maxLen]) (sl1' _ _ (by first | rfl | exact sz1 _ _) _ _ _)).mono ?_; rintro e y ⟨rfl, hb⟩; rw [hnn]; have K := Lib.hid (KL.below (KL.alloc (KL.push KX.out (.int .i64 v.k) (.int .i64 v.n) (.string v.s) 27) _) hb); clear hb; obtain ⟨HB, ⟨v0, v1, v2, _, _, _, vl⟩, ⟨r0, r1, r2, g0, g1, g2, rl⟩, _⟩ := K.out))
        go_roundw
        case rel => exact ⟨j + 1, by omega, by go_num, by rw [HC.out]; go_num, K.out.tail⟩
        case measure => simp [intOf]; omega
      · rw [q1] at hc hnn
        simp only [if_true, Nat.add_zero] at hc
        have HC := Lib.hid hc
        clear hc
        go_wp2_with (first
          | (go_at_call 41; refine (someNull_ _ _ [v] _ (by simp [maxLen]) (sl1' _ _ (by first | rfl | exact sz1 _ _) _ _ _)).mono ?_; rintro e y ⟨rfl, hb⟩; rw [hnn]; have K := Lib.hid (KL.below (KL.alloc (KL.push KX.out (.int .i64 v.k) (.int .i64 v.n) (.string v.s) 27) _) hb); clear hb; obtain ⟨HB, ⟨v0, v1, v2, _, _, _, vl⟩, ⟨r0, r1, r2, g0, g1, g2, rl⟩, _⟩ := K.out))
        go_roundw
        case rel => exact ⟨j + 1, by omega, by go_num, by rw [HC.out], K.out.tail⟩
        case measure => simp [intOf]; omega
    · obtain rfl : j = l.length := by omega
      rw [List.take_length]
      go_wp2_with (first
        | (go_at_call 59; refine (integer_ _ _).mono ?_; rintro e y ⟨rfl, hb⟩; have K := Lib.hid (KL.below KX.out hb); clear hb; obtain ⟨HB, ⟨r0, r1, r2, g0, g1, g2, rl⟩, _⟩ := K.out))
      (try simp only [Exit.inBlock, Exit.then])
      exact ret_two rfl rfl K.out.q.1 rfl ⟨rfl, _root_.Go.Proofs.YthomeplakcbfoaaGreatDoor.set3 HB _ (Nat.le_refl _) _ _ _⟩
end Go.Proofs.YthomeplakcbfoaaGreatDoor
