/-
  Contracts: Valid of package value and of its reference.
-/
import Derived.Test.YtplepijiceanlaaGreatDoorB
import Derived.Deep.RegionWith
namespace Go.Proofs.YtplepijiceanlaaGreatDoor
open Go.RowKit

theorem vld0 (n : Int) (s : ByteArray) : vld 0 n s = eqV 0 n s 0 0 ⟨#[]⟩ := by simp [vld, eqV]
theorem vld1 (n : Int) (s : ByteArray) : vld 1 n s = (inR n && s.toList.isEmpty) := by simp [vld, eqV]
theorem vld2 (n : Int) (s : ByteArray) : vld 2 n s = (n == 0 && okText s) := by simp [vld, eqV]
theorem vld3 (n : Int) (s : ByteArray) : vld 3 n s = (eqV 3 n s 3 0 ⟨#[]⟩ || eqV 3 n s 3 1 ⟨#[]⟩) := by simp [vld, eqV]
theorem vldx (k n : Int) (s : ByteArray) (h0 : k ≠ 0) (h1 : k ≠ 1) (h2 : k ≠ 2) (h3 : k ≠ 3) : vld k n s = false := by simp [vld, eqV, h0, h1, h2, h3]

theorem valid_ (k n : Int) (s : ByteArray) (w : World) : Calls Tryz.prog 15 #[V k n s] w fun e w' => e = .returned (.bool (vld k n s)) ∧ Below w.heap.size w w' := by
  by_cases h0 : k = 0
  · subst h0
    go_enter Tryz.func15, Tryz.ntmps15
    go_wp2
    go_ret
    exact ⟨ret_bool (vld0 _ _).symm, new1 _ _⟩
  by_cases h1 : k = 1
  · subst h1
    cases hn : inR n
    · have H := Lib.hid (vld1 n s); rw [hn] at H
      go_enter Tryz.func15, Tryz.ntmps15
      go_wp2_with (first | (go_at_call 58; refine (inRange_ _ _).mono ?_; rintro e w1 ⟨rfl, rfl⟩))
      go_ret
      exact ⟨ret_bool (by rw [H.out]; rfl), new1 _ _⟩
    · have H := Lib.hid (vld1 n s); rw [hn] at H
      go_enter Tryz.func15, Tryz.ntmps15
      go_wp2_with (first | (go_at_call 58; refine (inRange_ _ _).mono ?_; rintro e w1 ⟨rfl, rfl⟩))
      go_ret
      exact ⟨ret_bool (by rw [H.out]; rfl), new1 _ _⟩
  by_cases h2 : k = 2
  · subst h2
    cases hn : n == 0
    · have H := Lib.hid (vld2 n s); rw [hn] at H
      go_enter Tryz.func15, Tryz.ntmps15
      go_wp2_with (first | (go_at_call 59; refine (isText_ _ _).mono ?_; rintro e w1 ⟨rfl, rfl⟩))
      go_ret
      exact ⟨ret_bool (by rw [H.out]; rfl), new1 _ _⟩
    · have H := Lib.hid (vld2 n s); rw [hn] at H
      go_enter Tryz.func15, Tryz.ntmps15
      go_wp2_with (first | (go_at_call 59; refine (isText_ _ _).mono ?_; rintro e w1 ⟨rfl, rfl⟩))
      go_ret
      exact ⟨ret_bool (by rw [H.out]; rfl), new1 _ _⟩
  by_cases h3 : k = 3
  · subst h3
    cases hn : eqV 3 n s 3 0 ⟨#[]⟩
    · have H := Lib.hid (vld3 n s); rw [hn] at H
      go_enter Tryz.func15, Tryz.ntmps15
      go_wp2
      go_region_held3 (fun x => (x.cell? ⟨w.heap.size, 0, none⟩ = some (.int .i64 3) ∧ x.cell? ⟨w.heap.size, 1, none⟩ = some (.int .i64 n) ∧ x.cell? ⟨w.heap.size, 2, none⟩ = some (.string s)) ∧ w.heap.size < x.heap.size ∧ Below w.heap.size w x)
        (first | exact ⟨by simp [go_sem], by simp, (new1 _ _).drew⟩ | (obtain ⟨⟨c0, c1, c2⟩, hz, hB⟩ := ‹_ ∧ _›; exact ⟨⟨(bcell hb _ _ hz).trans c0, (bcell hb _ _ hz).trans c1, (bcell hb _ _ hz).trans c2⟩, Nat.lt_of_lt_of_le hz hb.size, hB.trans (hb.mono (Nat.le_of_lt hz))⟩))
        (first | (go_at_call 60; refine (boolean_ _ _).mono ?_; rintro e w1 ⟨rfl, hb⟩))
      rename_i hH
      have hB := Lib.hid hH.2.2
      clear hH
      go_wp2
      go_ret
      exact ⟨ret_bool (by rw [H.out]; rfl), hB.out⟩
    · have H := Lib.hid (vld3 n s); rw [hn] at H
      go_enter Tryz.func15, Tryz.ntmps15
      go_wp2
      go_region_with (go_at_call 60; refine (boolean_ _ _).mono ?_; rintro e w1 ⟨rfl, hb⟩; have q0 := bcell hb w.heap.size 0 (by simp); have q1 := bcell hb w.heap.size 1 (by simp); have q2 := bcell hb w.heap.size 2 (by simp))
      all_goals
        have hB := Lib.hid (((new1 w _).drew).trans (hb.mono (Nat.le_of_lt (show w.heap.size < _ by simp))))
        clear hb q0 q1 q2
        go_wp2
        go_ret
        exact ⟨ret_bool (by rw [H.out]; rfl), hB.out⟩
  · go_enter Tryz.func15, Tryz.ntmps15
    go_wp2
    go_ret
    exact ⟨ret_bool (vldx k n s h0 h1 h2 h3).symm, new1 _ _⟩

theorem eqV_split (k n : Int) (s : ByteArray) (k' n' : Int) : eqV k n s k' n' ⟨#[]⟩ = (k == k' && n == n' && s.toList.isEmpty) := by
  rw [eqV, toList_nil]
  cases s.toList <;> rfl
theorem ref_valid (k n : Int) (s : ByteArray) (w : World) (hm : s.size ≤ maxLen) : Calls Tryz.prog 16 #[V k n s] w fun e w' => e = .returned (.bool (vld k n s)) ∧ Below w.heap.size w w' := by
  have hm' : s.size ≤ maxLen := hm
  by_cases h0 : k = 0
  · subst h0
    have H := Lib.hid (vld0 n s); rw [eqV_split] at H
    cases hn : n == 0
    all_goals
      rw [hn] at H
      go_enter Tryz.func16, Tryz.ntmps16
      go_wp2
      go_ret
      exact ⟨ret_bool (by rw [H.out]; rfl), new1 _ _⟩
  by_cases h1 : k = 1
  · subst h1
    have H := Lib.hid (vld1 n s)
    cases hn : inR n
    all_goals
      rw [hn] at H
      go_enter Tryz.func16, Tryz.ntmps16
      go_wp2_with (first | (go_at_call 61; refine (isInt_ _ _).mono ?_; rintro e w1 ⟨rfl, rfl⟩))
      go_ret
      exact ⟨ret_bool (by rw [H.out]; rfl), new1 _ _⟩
  by_cases h2 : k = 2
  · subst h2
    have H := Lib.hid (vld2 n s)
    cases hn : n == 0
    all_goals
      rw [hn] at H
      go_enter Tryz.func16, Tryz.ntmps16
      go_wp2_with (first | (go_at_call 53; refine (isString_ _ _ hm').mono ?_; rintro e w1 ⟨rfl, rfl⟩))
      go_ret
      exact ⟨ret_bool (by rw [H.out]; rfl), new1 _ _⟩
  by_cases h3 : k = 3
  · subst h3
    have H := Lib.hid (vld3 n s); rw [eqV_split, eqV_split] at H
    cases hn : n == 0
    · cases hn1 : n == 1
      all_goals
        rw [hn, hn1] at H
        go_enter Tryz.func16, Tryz.ntmps16
        go_wp2
        go_ret
        exact ⟨ret_bool (by rw [H.out]; simp), new1 _ _⟩
    · obtain rfl : n = 0 := by simpa using hn
      clear hn
      go_enter Tryz.func16, Tryz.ntmps16
      go_wp2
      go_ret
      exact ⟨ret_bool (by rw [H.out]; simp), new1 _ _⟩
  · go_enter Tryz.func16, Tryz.ntmps16
    go_wp2
    go_ret
    exact ⟨ret_bool (vldx k n s h0 h1 h2 h3).symm, new1 _ _⟩
end Go.Proofs.YtplepijiceanlaaGreatDoor
