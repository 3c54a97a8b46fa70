/-
  The reference's Text of values.
-/
import Derived.Test.YthomeplakcbfoaaGreatDoorQE
namespace Go.Proofs.YthomeplakcbfoaaGreatDoor
open Go.RowKit

set_option maxRecDepth 100000 in
set_option maxHeartbeats 1000000 in
theorem refTextV_ (v : Va) (w : World) (hm : v.s.size ≤ maxLen) : Calls Tryz.prog 17 #[v.val] w fun e w' => e = .returned (.tuple #[.string (txtS v).1, .int .i64 (txtS v).2]) ∧ Below w.heap.size w w' := by
  obtain ⟨k, n, s⟩ := v
  have HV := Lib.hid fun x => ref_valid k n s x hm
  clear hm
  cases ho : vld k n s
  · rw [ho] at HV
    have H : Hid (txtS ⟨k, n, s⟩ = (⟨#[]⟩, 2)) := Lib.hid (by unfold txtS Va.ok; rw [if_pos ho])
    clear ho
    go_enter Tryz.func17, Tryz.ntmps17
    go_wp2_with (first
      | (go_at_call 52; (with_reducible refine (HV.out _).mono ?_); rintro e y ⟨rfl, hb⟩; have K := Lib.hid (K1.below ⟨new1 w _, B3.new w _ _ _ 27⟩ hb); clear hb; obtain ⟨HB, ⟨r0, r1, r2, g0, g1, g2, rl⟩⟩ := K.out))
    go_ret2
    exact ⟨by rw [H.out]; rfl, K.out.HB⟩
  · by_cases k0 : k = 0
    · rw [ho] at HV
      have H : Hid (txtS ⟨k, n, s⟩ = (nullB, 0)) := Lib.hid (by unfold txtS Va.ok; rw [if_neg (by simp [ho]), if_pos k0])
      clear ho
      subst k0
      go_enter Tryz.func17, Tryz.ntmps17
      go_wp2_with (first
        | (go_at_call 52; (with_reducible refine (HV.out _).mono ?_); rintro e y ⟨rfl, hb⟩; have K := Lib.hid (K1.below ⟨new1 w _, B3.new w _ _ _ 27⟩ hb); clear hb; obtain ⟨HB, ⟨r0, r1, r2, g0, g1, g2, rl⟩⟩ := K.out))
      go_ret2
      exact ⟨by rw [H.out]; rfl, K.out.HB⟩
    · by_cases k1 : k = 1
      · obtain ⟨n0, n1⟩ := int_in k n s k1 ho
        rw [ho] at HV
        have H : Hid (txtS ⟨k, n, s⟩ = (baOf (Lib.itoa n), 0)) := Lib.hid (by unfold txtS Va.ok; rw [if_neg (by simp [ho]), if_neg k0, if_pos k1])
        clear ho k0
        subst k1
        have HI := Lib.hid fun x => digits_ n (by omega) (by omega) x
        go_enter Tryz.func17, Tryz.ntmps17
        go_wp2_with (first
          | (go_at_call 52; (with_reducible refine (HV.out _).mono ?_); rintro e y ⟨rfl, hb⟩; have K := Lib.hid (K1.below ⟨new1 w _, B3.new w _ _ _ 27⟩ hb); clear hb; obtain ⟨HB, ⟨r0, r1, r2, g0, g1, g2, rl⟩⟩ := K.out)
          | (go_at_call 53; (with_reducible refine (HI.out _).mono ?_); rintro e y2 ⟨rfl, hb⟩; have K2 := Lib.hid (K1.below K.out hb); clear hb))
        go_ret2
        exact ⟨by rw [H.out]; rfl, K2.out.HB⟩
      · by_cases k3 : k = 3
        · have H : Hid (txtS ⟨k, n, s⟩ = (if eqV k n s 3 1 ⟨#[]⟩ = true then trueB else falseB, 0)) := Lib.hid (by unfold txtS Va.ok; rw [if_neg (by simp [ho]), if_neg k0, if_neg k1, if_pos k3]; rfl)
          have HX : Hid (eqV k n s 3 1 ⟨#[]⟩ = (n == 1)) := Lib.hid (by
            subst k3
            rw [vld3, Bool.or_eq_true] at ho
            rcases ho with q | q
            · obtain ⟨-, rfl, rfl⟩ := (eqV_iff _ _ _ _ _ _).1 q; simp [eqV]
            · obtain ⟨-, rfl, rfl⟩ := (eqV_iff _ _ _ _ _ _).1 q; simp [eqV])
          rw [ho] at HV
          rw [HX.out] at H
          clear ho k0 k1
          subst k3
          cases hq : n == 1
          all_goals
            rw [hq] at H
            go_enter Tryz.func17, Tryz.ntmps17
            go_wp2_with (first
              | (go_at_call 52; (with_reducible refine (HV.out _).mono ?_); rintro e y ⟨rfl, hb⟩; have K := Lib.hid (K1.below ⟨new1 w _, B3.new w _ _ _ 27⟩ hb); clear hb; obtain ⟨HB, ⟨r0, r1, r2, g0, g1, g2, rl⟩⟩ := K.out))
            go_ret2
            exact ⟨by rw [H.out]; rfl, K.out.HB⟩
        · have k2 : k = 2 := by
            rcases Classical.em (k = 2) with q | q
            · exact q
            · rw [vldx k n s k0 k1 q k3] at ho; cases ho
          have hok : okText s = true := by
            rw [k2, vld2, Bool.and_eq_true] at ho
            exact ho.2
          have hsz := okSize s hok
          have H : Hid (txtS ⟨k, n, s⟩ = (baOf (quoB s.data.toList), 0)) := Lib.hid (by unfold txtS Va.ok; rw [if_neg (by simp [ho]), if_neg k0, if_neg k1, if_neg k3])
          have HD := Lib.hid fun x => refQuoted_ s (by omega) x
          rw [ho] at HV
          clear ho k0 k1 k3 hok
          subst k2
          go_enter Tryz.func17, Tryz.ntmps17
          go_wp2_with (first
            | (go_at_call 52; (with_reducible refine (HV.out _).mono ?_); rintro e y ⟨rfl, hb⟩; have K := Lib.hid (K1.below ⟨new1 w _, B3.new w _ _ _ 27⟩ hb); clear hb; obtain ⟨HB, ⟨r0, r1, r2, g0, g1, g2, rl⟩⟩ := K.out)
            | (go_at_call 54; (with_reducible refine (HD.out _).mono ?_); rintro e y2 ⟨rfl, hb⟩; have K2 := Lib.hid (K1.below K.out hb); clear hb))
          go_ret2
          exact ⟨by rw [H.out]; rfl, K2.out.HB⟩
end Go.Proofs.YthomeplakcbfoaaGreatDoor
