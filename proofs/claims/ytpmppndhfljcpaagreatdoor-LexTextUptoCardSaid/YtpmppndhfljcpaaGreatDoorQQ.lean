/-
  The reference's tokens: whether one is, and its string.
-/
import Derived.Test.YtpmppndhfljcpaaGreatDoorQG
namespace Go.Proofs.YtpmppndhfljcpaaGreatDoor
open Go.RowKit

theorem okT1 (t : Bs) (n : Int) : okT ⟨1, t, n⟩ = (n == 0 && isNameB t) := by simp [okT]
theorem okT2 (t : Bs) (n : Int) : okT ⟨2, t, n⟩ = (n == 0 && words.contains t) := by simp [okT]
theorem okT3 (t : Bs) (n : Int) : okT ⟨3, t, n⟩ = (t.isEmpty && decide (0 ≤ n) && decide (n ≤ 1099511627776)) := by simp [okT]
theorem okT4 (t : Bs) (n : Int) : okT ⟨4, t, n⟩ = (n == 0 && okTxt t) := by simp [okT]
theorem okT5 (t : Bs) (n : Int) : okT ⟨5, t, n⟩ = (n == 0 && signs.contains t) := by simp [okT]
theorem okTx (k : Int) (t : Bs) (n : Int) (h1 : k ≠ 1) (h2 : k ≠ 2) (h3 : k ≠ 3) (h4 : k ≠ 4) (h5 : k ≠ 5) : okT ⟨k, t, n⟩ = false := by simp [okT, h1, h2, h3, h4, h5]
set_option maxRecDepth 100000 in
set_option maxHeartbeats 2000000 in
theorem refWritten_ (v : Tv) (h : okT v.tk = true) (w : World) : Calls Tryz.prog 82 #[v.val] w fun e w' => e = .returned (.string (baOf (writ v.tk))) ∧ Below w.heap.size w w' := by
  obtain ⟨k, t, n, ln, cl⟩ := v
  have h' : okT ⟨k, t.data.toList, n⟩ = true := h
  clear h
  have K0 := Lib.hid ((KG.refl w).push' w.heap.size rfl (tkC k t n ln cl) 95)
  obtain ⟨z0, z1, z2, z3, z4, y0, y1, y2, y3, y4, yl⟩ := K0.out.q.1.1.open5
  by_cases k3 : k = 3
  · subst k3
    rw [okT3, Bool.and_eq_true, Bool.and_eq_true, decide_eq_true_eq, decide_eq_true_eq] at h'
    obtain ⟨⟨ht, hn0⟩, hn1⟩ := h'
    have HW : Hid (writ (Tv.tk ⟨3, t, n, ln, cl⟩) = Lib.itoa n) := Lib.hid rfl
    have HX := fun x => refTextV_ ⟨1, n, ⟨#[]⟩⟩ x (Nat.zero_le _)
    have hv : txtS ⟨1, n, ⟨#[]⟩⟩ = (baOf (Lib.itoa n), 0) := by
      unfold txtS Va.ok
      rw [vld1, toList_nil]
      have e : inR n = true := by simp [inR]; omega
      rw [e]
      rfl
    rw [hv] at HX
    have HX2 := Lib.hid HX
    have HI := Lib.hid fun x => ref_int n x
    clear hv HX ht
    go_enter Tryz.func82, Tryz.ntmps82
    go_wp2_with (first
      | (go_at_call 42; (with_reducible refine (HI.out _).mono ?_); rintro e y ⟨rfl, hb⟩; have K1 := Lib.hid (K0.out.below hb); clear hb)
      | (go_at_call 21; (with_reducible refine (HX2.out _).mono ?_); rintro e y2 ⟨rfl, hb⟩; have K2 := Lib.hid (K1.out.below hb); clear hb))
    go_ret
    exact ⟨ret_str (by rw [HW.out]), K2.out.HB⟩
  · by_cases k4 : k = 4
    · subst k4
      rw [okT4, Bool.and_eq_true] at h'
      have hz : t.size ≤ 200 := by
        have := h'.2
        simp only [okTxt, Bool.and_eq_true, decide_eq_true_eq] at this
        have e : t.data.toList.length = t.size := by simp
        omega
      have HW : Hid (writ (Tv.tk ⟨4, t, n, ln, cl⟩) = quoB t.data.toList) := Lib.hid rfl
      have HQ := Lib.hid fun x => refQuoted_ t (by omega) x
      clear h' k3
      go_enter Tryz.func82, Tryz.ntmps82
      go_wp2_with (first
        | (go_at_call 71; (with_reducible refine (HQ.out _).mono ?_); rintro e y2 ⟨rfl, hb⟩; have K2 := Lib.hid (K0.out.below hb); clear hb))
      go_ret
      exact ⟨ret_str (by rw [HW.out]), K2.out.HB⟩
    · have HW : Hid (baOf (writ (Tv.tk ⟨k, t, n, ln, cl⟩)) = t) := Lib.hid (by
        have e : writ (Tv.tk ⟨k, t, n, ln, cl⟩) = t.data.toList := by
          unfold writ Tv.tk
          rw [if_neg (by simpa using k3), if_neg (by simpa using k4)]
        rw [e, baOf_of])
      clear h'
      go_enter Tryz.func82, Tryz.ntmps82
      go_wp2_with fail
      go_ret
      exact ⟨ret_str HW.out.symm, K0.out.HB⟩
end Go.Proofs.YtpmppndhfljcpaaGreatDoor
