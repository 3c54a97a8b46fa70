/-
  The reference's tokens: whether one is.
-/
import Derived.Test.YtpmppndhfljcpaaGreatDoorQQ
namespace Go.Proofs.YtpmppndhfljcpaaGreatDoor
open Go.RowKit

set_option maxRecDepth 100000 in
set_option maxHeartbeats 4000000 in
theorem refIs_ (v : Tv) (hm : v.t.size ≤ 4000000) (w : World) : Calls Tryz.prog 91 #[v.val] w fun e w' => e = .returned (.bool (okT v.tk)) ∧ Below w.heap.size w w' := by
  obtain ⟨k, t, n, ln, cl⟩ := v
  have K0 := Lib.hid ((KG.refl w).push' w.heap.size rfl (tkC k t n ln cl) 95)
  obtain ⟨z0, z1, z2, z3, z4, y0, y1, y2, y3, y4, yl⟩ := K0.out.q.1.1.open5
  have HM := Lib.hid hm
  clear hm
  by_cases k1 : k = 1
  · subst k1
    have H : Hid (okT (Tv.tk ⟨1, t, n, ln, cl⟩) = (n == 0 && isNameB t.data.toList)) := Lib.hid (okT1 _ _)
    have HN := Lib.hid fun x => refName_ t x HM.out
    cases hn : n == 0
    · rw [hn] at H
      go_enter Tryz.func91, Tryz.ntmps91
      go_wp2_with fail
      go_ret
      exact ⟨ret_bool (by rw [H.out]; rfl), K0.out.HB⟩
    · rw [hn] at H
      cases h2 : isNameB t.data.toList
      all_goals
        rw [h2] at H HN
        go_enter Tryz.func91, Tryz.ntmps91
        go_wp2_with (first
          | (go_at_call 39; (with_reducible refine (HN.out _).mono ?_); rintro e y ⟨rfl, hb⟩; have K1 := Lib.hid (K0.out.below hb); clear hb))
        go_ret
        exact ⟨ret_bool (by rw [H.out]; rfl), K1.out.HB⟩
  by_cases k2 : k = 2
  · subst k2
    have H : Hid (okT (Tv.tk ⟨2, t, n, ln, cl⟩) = (n == 0 && memB words t.data.toList)) := Lib.hid (okT2 _ _)
    have HN := Lib.hid fun x => refWord_ t x HM.out
    clear k1
    cases hn : n == 0
    · rw [hn] at H
      go_enter Tryz.func91, Tryz.ntmps91
      go_wp2_with fail
      go_ret
      exact ⟨ret_bool (by rw [H.out]; rfl), K0.out.HB⟩
    · rw [hn] at H
      cases h2 : memB words t.data.toList
      all_goals
        rw [h2] at H HN
        go_enter Tryz.func91, Tryz.ntmps91
        go_wp2_with (first
          | (go_at_call 37; (with_reducible refine (HN.out _).mono ?_); rintro e y ⟨rfl, hb⟩; have K1 := Lib.hid (K0.out.below hb); clear hb))
        go_ret
        exact ⟨ret_bool (by rw [H.out]; rfl), K1.out.HB⟩
  by_cases k3 : k = 3
  · subst k3
    have H : Hid (okT (Tv.tk ⟨3, t, n, ln, cl⟩) = (t.data.toList.isEmpty && decide (0 ≤ n) && decide (n ≤ 1099511627776))) := Lib.hid (okT3 _ _)
    have HEm := Lib.hid (ba_empty t)
    clear k1 k2
    cases he : t.toList.isEmpty
    · have H2 : Hid (okT (Tv.tk ⟨3, t, n, ln, cl⟩) = false) := Lib.hid (by rw [H.out]; rw [toList_dat] at he; rw [he]; rfl)
      go_enter Tryz.func91, Tryz.ntmps91
      go_wp2_with fail
      go_ret
      exact ⟨ret_bool (by rw [H2.out]), K0.out.HB⟩
    · have H2 : Hid (okT (Tv.tk ⟨3, t, n, ln, cl⟩) = (decide (0 ≤ n) && decide (n ≤ 1099511627776))) := Lib.hid (by rw [H.out]; rw [toList_dat] at he; rw [he]; rfl)
      by_cases hn0 : 0 ≤ n
      · go_enter Tryz.func91, Tryz.ntmps91
        go_wp2_with fail
        go_ret
        exact ⟨ret_bool (by rw [H2.out]; simp [hn0]), K0.out.HB⟩
      · go_enter Tryz.func91, Tryz.ntmps91
        go_wp2_with fail
        go_ret
        exact ⟨ret_bool (by rw [H2.out]; simp; omega), K0.out.HB⟩
  by_cases k4 : k = 4
  · subst k4
    have H : Hid (okT (Tv.tk ⟨4, t, n, ln, cl⟩) = (n == 0 && okText t)) := Lib.hid (by rw [okTxt_ba]; exact okT4 _ _)
    have HN := Lib.hid fun x => isString_ t x (Nat.le_trans (show t.size ≤ 4000000 from HM.out) (by decide))
    clear k1 k2 k3
    cases hn : n == 0
    · rw [hn] at H
      go_enter Tryz.func91, Tryz.ntmps91
      go_wp2_with fail
      go_ret
      exact ⟨ret_bool (by rw [H.out]; rfl), K0.out.HB⟩
    · rw [hn] at H
      cases h2 : okText t
      all_goals
        rw [h2] at H HN
        go_enter Tryz.func91, Tryz.ntmps91
        go_wp2_with (first
          | (go_at_call 119; (with_reducible refine (HN.out _).mono ?_); rintro e y ⟨rfl, rfl⟩))
        go_ret
        exact ⟨ret_bool (by rw [H.out]; rfl), K0.out.HB⟩
  by_cases k5 : k = 5
  · subst k5
    have H : Hid (okT (Tv.tk ⟨5, t, n, ln, cl⟩) = (n == 0 && memB signs t.data.toList)) := Lib.hid (okT5 _ _)
    have HN := Lib.hid fun x => refIsSign_ t x
    clear k1 k2 k3 k4
    cases hn : n == 0
    · rw [hn] at H
      go_enter Tryz.func91, Tryz.ntmps91
      go_wp2_with fail
      go_ret
      exact ⟨ret_bool (by rw [H.out]; rfl), K0.out.HB⟩
    · rw [hn] at H
      cases h2 : memB signs t.data.toList
      all_goals
        rw [h2] at H HN
        go_enter Tryz.func91, Tryz.ntmps91
        go_wp2_with (first
          | (go_at_call 134; (with_reducible refine (HN.out _).mono ?_); rintro e y ⟨rfl, hb⟩; have K1 := Lib.hid (K0.out.below hb); clear hb))
        go_ret
        exact ⟨ret_bool (by rw [H.out]; rfl), K1.out.HB⟩
  have H : Hid (okT (Tv.tk ⟨k, t, n, ln, cl⟩) = false) := Lib.hid (okTx k _ n k1 k2 k3 k4 k5)
  go_enter Tryz.func91, Tryz.ntmps91
  go_wp2_with fail
  go_ret
  exact ⟨ret_bool (by rw [H.out]), K0.out.HB⟩
end Go.Proofs.YtpmppndhfljcpaaGreatDoor
