/-
  Exception and Number of the reference; the law of names, given that the examples hold.
-/
import Derived.Test.YtplepijiceanlaaGreatDoorW
import Derived.Test.YtplepijiceanlaaGreatDoorX
namespace Go.Proofs.YtplepijiceanlaaGreatDoor
open Go.RowKit

/-- The examples hold. -/
def Awk : Prop := ∀ w : World, Gl w → Calls Tryz.prog 14 #[] w fun e w' => e = .returned (.bool true) ∧ Below w.heap.size w w'

set_option maxHeartbeats 1000000 in
theorem refException_ (e : Int) (w : World) : Calls Tryz.prog 48 #[.int .i64 e] w fun x w' => x = .returned (.string (excS e)) ∧ w = w' := by
  have H : Hid (excS e = excS e) := Lib.hid rfl
  go_enter Tryz.func48, Tryz.ntmps48
  go_wp2
  all_goals
    (try simp only [Exit.inBlock, Exit.then])
    go_ret
    refine ⟨ret_str ?_, rfl⟩
    unfold excS
    simp only [beq_iff_eq, beq_eq_false_iff_ne] at *
    first
      | (simp [*]; done)
      | (subst_vars; simp; done)
theorem exceptions_ (w : World) : Calls Tryz.prog 94 #[] w fun x w' => x = .returned (.slice (some ⟨w.heap.size, 0, none⟩) 20 20) ∧ w' = w.alloc (.cells (excNames.map Value.string).toArray 9) := by
  go_enter Tryz.func94, Tryz.ntmps94
  go_wp2
  go_ret
  exact ⟨rfl, rfl⟩
theorem str_eq_of (a b : ByteArray) (h : a.toList = b.toList) : a = b := by
  rw [ByteArray.toList_eq, ByteArray.toList_eq] at h
  cases a; cases b; simp at h; simp [h]
theorem idx_drop (s : ByteArray) (j : Nat) (h : j < excNames.length) : Lib.idxFromS (excNames.drop j) s j = if ((excNames.getD j ByteArray.empty).toList == s.toList) = true then (j : Int) else Lib.idxFromS (excNames.drop (j + 1)) s (j + 1) := by
  rw [List.drop_eq_getElem_cons h]
  have e : excNames.getD j ByteArray.empty = excNames[j] := by simp [h]
  rw [e]
  by_cases q : excNames[j] = s
  · simp [Lib.idxFromS, q]
  · have q2 : ¬ excNames[j].toList = s.toList := fun h => q (str_eq_of _ _ h)
    simp [Lib.idxFromS, q, q2]
theorem refNumber_ (s : ByteArray) (w : World) : Calls Tryz.prog 50 #[.string s] w fun x w' => x = .returned (.int .i64 (Lib.idxOfS excNames s + 1)) ∧ Below w.heap.size w w' := by
  have hc := Lib.hid (exc_cells w)
  go_enter Tryz.func50, Tryz.ntmps50
  go_wp2_with (first
    | (go_at_call 94; refine (exceptions_ _).mono ?_; rintro e y ⟨rfl, rfl⟩))
  go_loopw [7] (fun i x => ∃ j : Nat, j ≤ 20 ∧ i = .int .i64 j ∧ Lib.idxOfS excNames s = Lib.idxFromS (excNames.drop j) s j ∧ x = w.alloc (.cells (excNames.map Value.string).toArray 9)) (fun i x => 20 - (intOf i).toNat)
  case atStart => exact ⟨0, by omega, rfl, rfl, rfl⟩
  case round =>
    obtain ⟨j, hj, rfl, hI, rfl⟩ := hrel
    have HI := Lib.hid hI
    clear hI
    by_cases hlt : j < 20
    · have hcell := hc.out j (by simpa [excNames] using hlt)
      rw [Nat.zero_add] at hcell
      have HD := Lib.hid (idx_drop s j (by simpa [excNames] using hlt))
      obtain ⟨z, hz⟩ : ∃ z, excNames.getD j ByteArray.empty = z := ⟨_, rfl⟩
      rw [hz] at hcell HD
      clear hz
      cases hq : z.toList == s.toList
      · rw [hq] at HD
        go_wp2
        go_roundw
        case rel => exact ⟨j + 1, by omega, by go_num, by rw [HI.out, HD.out]; rfl, trivial⟩
        case measure => simp [intOf]; omega
      · rw [hq] at HD
        go_wp2
        go_ret
        exact ⟨by rw [HI.out, HD.out]; rfl, new1 _ _⟩
    · go_wp2
      go_ret
      obtain rfl : j = 20 := by omega
      exact ⟨by rw [HI.out]; rfl, new1 _ _⟩
def ExcOk (x : ByteArray) : Prop := (x.toList == []) = (Lib.idxOfS excNames x + 1 == 0)
instance (x : ByteArray) : Decidable (ExcOk x) := inferInstanceAs (Decidable (_ = _))
theorem ite_ok {c : Prop} [Decidable c] {a b : ByteArray} (ha : ExcOk a) (hb : ExcOk b) : ExcOk (if c then a else b) := by
  split
  · exact ha
  · exact hb
theorem exc_ok (e : Int) : ((excS e).toList == []) = (Lib.idxOfS excNames (excS e) + 1 == 0) := by
  show ExcOk (excS e)
  unfold excS
  repeat (refine ite_ok (by decide +kernel) ?_)
  decide +kernel
set_option maxRecDepth 100000 in
set_option maxHeartbeats 2000000 in
/-- The law of names. -/
theorem valueNames_ (HA : Awk) (e : Int) (s : ByteArray) (w : World) (hg : Gl w) : Calls Tryz.prog 8 #[.int .i64 e, .string s] w fun x w' => x = .returned (.bool true) ∧ Below w.heap.size w w' := by
  have HG := Lib.hid hg
  have HW := Lib.hid HA
  clear hg HA
  by_cases hs : (s.size : Int) > 1000
  · go_enter Tryz.func8, Tryz.ntmps8
    go_wp2_with (first
      | (go_at_call 14; refine (HW.out _ HG.out).mono ?_; rintro e y ⟨rfl, hb⟩))
    go_ret
    exact ⟨rfl, hb⟩
  · obtain ⟨x, hx⟩ : ∃ x, excS e = x := ⟨_, rfl⟩
    have ho := exc_ok e
    have hE := exception_ e
    have hR := refException_ e
    rw [hx] at ho hE hR
    clear hx
    obtain ⟨i1, hi1⟩ : ∃ i1, Lib.idxOfS excNames s + 1 = i1 := ⟨_, rfl⟩
    obtain ⟨i2, hi2⟩ : ∃ i2, Lib.idxOfS excNames x + 1 = i2 := ⟨_, rfl⟩
    have hN1 := number_ s
    have hN2 := refNumber_ s
    have hN3 := number_ x
    rw [hi1] at hN1 hN2
    rw [hi2] at hN3 ho
    clear hi1 hi2
    have E := Lib.hid hE
    have R := Lib.hid hR
    have N1 := Lib.hid hN1
    have N2 := Lib.hid hN2
    have N3 := Lib.hid hN3
    clear hE hR hN1 hN2 hN3
    go_enter Tryz.func8, Tryz.ntmps8
    go_wp2_with (first
      | (go_at_call 47; refine (E.out _).mono ?_; rintro e y ⟨rfl, rfl⟩)
      | (go_at_call 48; refine (R.out _).mono ?_; rintro e y ⟨rfl, rfl⟩)
      | (go_at_call 49; refine (N1.out _).mono ?_; rintro e y1 ⟨rfl, h1⟩)
      | (go_at_call 50; refine (N2.out _).mono ?_; rintro e y2 ⟨rfl, h2⟩)
      | (go_at_call 49; refine (N3.out _).mono ?_; rintro e y3 ⟨rfl, h3⟩)
      | (go_at_call 14; refine (HW.out _ (((HG.out.below h1).below h2).below h3)).mono ?_; rintro e y ⟨rfl, hb⟩))
    go_ret
    have k2 := h1.trans (h2.mono h1.size)
    have k3 := k2.trans (h3.mono k2.size)
    exact ⟨rfl, k3.trans (hb.mono k3.size)⟩
end Go.Proofs.YtplepijiceanlaaGreatDoor
