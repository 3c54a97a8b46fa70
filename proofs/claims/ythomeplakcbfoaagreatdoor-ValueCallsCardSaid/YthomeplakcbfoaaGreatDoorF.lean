/-
  Contracts: comparing two values; sums, differences, quotients and products of integers within their range.
-/
import Derived.Test.YthomeplakcbfoaaGreatDoorE
import Derived.Test.YthomeplakcbfoaaGreatDoorL
namespace Go.Proofs.YthomeplakcbfoaaGreatDoor
open Go.RowKit

def cmpV (k n : Int) (s : ByteArray) (n' : Int) (s' : ByteArray) : Int := if (k == 2) = true then Lib.compareBytes s.data.toList s'.data.toList else Lib.compareInt n n'
def chkI (n : Int) : Va × Int := if inR n = true then (intV n, 0) else (nulV, 21)
def chkT (s : ByteArray) : Va × Int := if 200 < s.size then (nulV, 21) else (txtV s, 0)

theorem compare_ (k n : Int) (s : ByteArray) (k' n' : Int) (s' : ByteArray) (w : World) :
    Calls Tryz.prog 61 #[V k n s, V k' n' s'] w fun e w' => e = .returned (.int .i64 (cmpV k n s n' s')) ∧ Below w.heap.size w w' := by
  have H : Hid (cmpV k n s n' s' = if (k == 2) = true then Lib.compareBytes s.data.toList s'.data.toList else Lib.compareInt n n') := Lib.hid rfl
  cases hk : k == 2
  all_goals
    rw [hk] at H
    go_enter Tryz.func61, Tryz.ntmps61
    go_wp2_with (first | (go_at_call 87; refine (Tryz.strings_Compare _ _ _).mono ?_; rintro e y ⟨rfl, rfl⟩) | (go_at_call 88; refine (Tryz.cmp_Compare_int _ _ _).mono ?_; rintro e y ⟨rfl, rfl⟩))
    go_ret
    exact ⟨by rw [H.out]; rfl, new2 _ _ _⟩

theorem absolute_ (n : Int) (h1 : -9223372036854775807 ≤ n) (h2 : n ≤ 9223372036854775807) (w : World) :
    Calls Tryz.prog 90 #[.int .i64 n] w fun e w' => e = .returned (.int .i64 (max n (-n))) ∧ w = w' := by
  go_enter Tryz.func90, Tryz.ntmps90
  go_wp2
  go_ret
  exact ⟨rfl, rfl⟩

theorem checkedInteger_ (n : Int) (w : World) : Calls Tryz.prog 102 #[.int .i64 n] w fun e w' => e = .returned (two (chkI n)) ∧ Below w.heap.size w w' := by
  have H : Hid (chkI n = if inR n = true then (intV n, 0) else (nulV, 21)) := Lib.hid rfl
  cases hn : inR n
  · rw [hn] at H
    go_enter Tryz.func102, Tryz.ntmps102
    go_wp2_with (first | (go_at_call 62; refine (inRange_ _ _).mono ?_; rintro e y ⟨rfl, rfl⟩))
    go_returns
    exact ⟨by rw [H.out]; rfl, new1 _ _⟩
  · rw [hn] at H
    go_enter Tryz.func102, Tryz.ntmps102
    go_wp2_with (first
      | (go_at_call 62; refine (inRange_ _ _).mono ?_; rintro e y ⟨rfl, rfl⟩)
      | (go_at_call 59; refine (integer_ _ _).mono ?_; rintro e y ⟨rfl, hb⟩; have K : Hid (K1 w y w.heap.size (.int .i64 0) (.int .i64 0) (.string ⟨#[]⟩)) := Lib.hid (K1.below ⟨new1 w _, B3.new w _ _ _ 27⟩ hb); clear hb; obtain ⟨HB, ⟨r0, r1, r2, g0, g1, g2, rl⟩⟩ := K.out))
    (try simp only [Exit.inBlock, Exit.then])
    exact ret_two rfl rfl K.out.q rfl ⟨by rw [H.out]; rfl, set3 HB _ (Nat.le_refl _) _ _ _⟩

theorem checkedText_ (s : ByteArray) (w : World) : Calls Tryz.prog 124 #[.string s] w fun e w' => e = .returned (two (chkT s)) ∧ Below w.heap.size w w' := by
  by_cases hs : 200 < s.size
  · go_enter Tryz.func124, Tryz.ntmps124
    go_wp2
    go_returns
    exact ⟨by unfold chkT; rw [if_pos hs]; rfl, new1 _ _⟩
  · go_enter Tryz.func124, Tryz.ntmps124
    go_wp2_with (first
      | (go_at_call 81; refine (text_ _ _).mono ?_; rintro e y ⟨rfl, hb⟩; have K : Hid (K1 w y w.heap.size (.int .i64 0) (.int .i64 0) (.string ⟨#[]⟩)) := Lib.hid (K1.below ⟨new1 w _, B3.new w _ _ _ 27⟩ hb); clear hb; obtain ⟨HB, ⟨r0, r1, r2, g0, g1, g2, rl⟩⟩ := K.out))
    (try simp only [Exit.inBlock, Exit.then])
    exact ret_two rfl rfl K.out.q rfl ⟨by unfold chkT; rw [if_neg hs]; rfl, set3 HB _ (Nat.le_refl _) _ _ _⟩

def addS (a b : Int) : Va × Int := chkI (a + b)
def subS (a b : Int) : Va × Int := chkI (a - b)
/-- The product, or the error where it is out of the range (said by a division, as the program does). -/
def mulS (a b : Int) : Va × Int := if a ≠ 0 ∧ 1099511627776 / max a (-a) < max b (-b) then (nulV, 21) else (intV (a * b), 0)
def quoS (a b : Int) : Va × Int := if b = 0 then (nulV, 22) else (intV (a.tdiv b), 0)
def remS (a b : Int) : Va × Int := if b = 0 then (nulV, 22) else (intV (a.tmod b), 0)
def Small (n : Int) : Prop := -1099511627776 ≤ n ∧ n ≤ 1099511627776

theorem plus_ (a b : Int) (ha : Small a) (hb : Small b) (w : World) : Calls Tryz.prog 116 #[.int .i64 a, .int .i64 b] w fun e w' => e = .returned (two (addS a b)) ∧ Below w.heap.size w w' := by
  obtain ⟨a1, a2⟩ := ha
  obtain ⟨b1, b2⟩ := hb
  go_enter Tryz.func116, Tryz.ntmps116
  go_wp2_with (first
    | (go_at_call 102; refine (checkedInteger_ _ _).mono ?_; rintro e y ⟨rfl, hb⟩; have K : Hid (K1 w y w.heap.size (.int .i64 0) (.int .i64 0) (.string ⟨#[]⟩)) := Lib.hid (K1.below ⟨new1 w _, B3.new w _ _ _ 27⟩ hb); clear hb; obtain ⟨HB, ⟨r0, r1, r2, g0, g1, g2, rl⟩⟩ := K.out))
  (try simp only [Exit.inBlock, Exit.then])
  exact ret_two rfl rfl K.out.q rfl ⟨rfl, set3 HB _ (Nat.le_refl _) _ _ _⟩
theorem minus_ (a b : Int) (ha : Small a) (hb : Small b) (w : World) : Calls Tryz.prog 117 #[.int .i64 a, .int .i64 b] w fun e w' => e = .returned (two (subS a b)) ∧ Below w.heap.size w w' := by
  obtain ⟨a1, a2⟩ := ha
  obtain ⟨b1, b2⟩ := hb
  go_enter Tryz.func117, Tryz.ntmps117
  go_wp2_with (first
    | (go_at_call 102; refine (checkedInteger_ _ _).mono ?_; rintro e y ⟨rfl, hb⟩; have K : Hid (K1 w y w.heap.size (.int .i64 0) (.int .i64 0) (.string ⟨#[]⟩)) := Lib.hid (K1.below ⟨new1 w _, B3.new w _ _ _ 27⟩ hb); clear hb; obtain ⟨HB, ⟨r0, r1, r2, g0, g1, g2, rl⟩⟩ := K.out))
  (try simp only [Exit.inBlock, Exit.then])
  exact ret_two rfl rfl K.out.q rfl ⟨rfl, set3 HB _ (Nat.le_refl _) _ _ _⟩

theorem mul_small (a b : Int) (h0 : a ≠ 0) (h : ¬ 1099511627776 / max a (-a) < max b (-b)) : -1099511627776 ≤ a * b ∧ a * b ≤ 1099511627776 := by
  have hp : 0 < max a (-a) := by omega
  have h1 : max b (-b) * max a (-a) ≤ 1099511627776 := by
    have h2 := Int.mul_le_mul_of_nonneg_right (Int.not_lt.1 h) (Int.le_of_lt hp)
    have h3 := Int.ediv_mul_le 1099511627776 (b := max a (-a)) (by omega)
    omega
  have e : max b (-b) * max a (-a) = (a * b).natAbs := by
    rw [Int.natAbs_mul, Int.natCast_mul, Int.mul_comm]
    congr 1 <;> omega
  omega
theorem times_ (a b : Int) (ha : Small a) (hb : Small b) (w : World) : Calls Tryz.prog 118 #[.int .i64 a, .int .i64 b] w fun e w' => e = .returned (two (mulS a b)) ∧ Below w.heap.size w w' := by
  obtain ⟨a1, a2⟩ := ha
  obtain ⟨b1, b2⟩ := hb
  by_cases h0 : a = 0
  · have H : Hid (mulS a b = (intV (a * b), 0)) := Lib.hid (by unfold mulS; rw [if_neg (by omega)])
    subst h0
    go_enter Tryz.func118, Tryz.ntmps118
    go_wp2_with (first
      | (go_at_call 90; refine (absolute_ _ (by omega) (by omega) _).mono ?_; rintro e y ⟨rfl, rfl⟩)
      | (go_at_call 59; refine (integer_ _ _).mono ?_; rintro e y ⟨rfl, hb⟩; have K : Hid (K1 w y w.heap.size (.int .i64 0) (.int .i64 0) (.string ⟨#[]⟩)) := Lib.hid (K1.below ⟨new1 w _, B3.new w _ _ _ 27⟩ hb); clear hb; obtain ⟨HB, ⟨r0, r1, r2, g0, g1, g2, rl⟩⟩ := K.out))
    (try simp only [Exit.inBlock, Exit.then])
    exact ret_two rfl rfl K.out.q rfl ⟨by rw [H.out]; simp [intV], set3 HB _ (Nat.le_refl _) _ _ _⟩
  · by_cases h1 : 1099511627776 / max a (-a) < max b (-b)
    · have H : Hid (mulS a b = (nulV, 21)) := Lib.hid (by unfold mulS; rw [if_pos ⟨h0, h1⟩])
      go_enter Tryz.func118, Tryz.ntmps118
      go_wp2_with (first
      | (go_at_call 90; refine (absolute_ _ (by omega) (by omega) _).mono ?_; rintro e y ⟨rfl, rfl⟩)
      | (go_at_call 59; refine (integer_ _ _).mono ?_; rintro e y ⟨rfl, hb⟩; have K : Hid (K1 w y w.heap.size (.int .i64 0) (.int .i64 0) (.string ⟨#[]⟩)) := Lib.hid (K1.below ⟨new1 w _, B3.new w _ _ _ 27⟩ hb); clear hb; obtain ⟨HB, ⟨r0, r1, r2, g0, g1, g2, rl⟩⟩ := K.out))
      go_returns
      exact ⟨by rw [H.out]; rfl, new1 _ _⟩
    · have H : Hid (mulS a b = (intV (a * b), 0)) := Lib.hid (by unfold mulS; rw [if_neg (by omega)])
      obtain ⟨m1, m2⟩ := mul_small a b h0 h1
      go_enter Tryz.func118, Tryz.ntmps118
      go_wp2_with (first
      | (go_at_call 90; refine (absolute_ _ (by omega) (by omega) _).mono ?_; rintro e y ⟨rfl, rfl⟩)
      | (go_at_call 59; refine (integer_ _ _).mono ?_; rintro e y ⟨rfl, hb⟩; have K : Hid (K1 w y w.heap.size (.int .i64 0) (.int .i64 0) (.string ⟨#[]⟩)) := Lib.hid (K1.below ⟨new1 w _, B3.new w _ _ _ 27⟩ hb); clear hb; obtain ⟨HB, ⟨r0, r1, r2, g0, g1, g2, rl⟩⟩ := K.out))
      (try simp only [Exit.inBlock, Exit.then])
      exact ret_two rfl rfl K.out.q rfl ⟨by rw [H.out]; rfl, set3 HB _ (Nat.le_refl _) _ _ _⟩
theorem tdiv_small (a b : Int) (ha : Small a) : -1099511627776 ≤ a.tdiv b ∧ a.tdiv b ≤ 1099511627776 := by
  obtain ⟨a1, a2⟩ := ha
  have h := Int.natAbs_tdiv_le_natAbs a b
  omega
theorem quo_ (a b : Int) (ha : Small a) (hb : Small b) (h0 : b ≠ 0) (w : World) : Calls Tryz.prog 120 #[.int .i64 a, .int .i64 b] w fun e w' => e = .returned (.int .i64 (a.tdiv b)) ∧ w = w' := by
  have hq := tdiv_small a b ha
  obtain ⟨a1, a2⟩ := ha
  obtain ⟨b1, b2⟩ := hb
  have hz : (b == 0) = false := by simpa using h0
  go_enter Tryz.func120, Tryz.ntmps120
  go_wp2
  go_ret
  exact ⟨rfl, rfl⟩
theorem rem_ (a b : Int) (ha : Small a) (hb : Small b) (h0 : b ≠ 0) (w : World) : Calls Tryz.prog 121 #[.int .i64 a, .int .i64 b] w fun e w' => e = .returned (.int .i64 (a.tmod b)) ∧ w = w' := by
  obtain ⟨a1, a2⟩ := ha
  obtain ⟨b1, b2⟩ := hb
  have hz : (b == 0) = false := by simpa using h0
  go_enter Tryz.func121, Tryz.ntmps121
  go_wp2
  go_ret
  exact ⟨rfl, rfl⟩
end Go.Proofs.YthomeplakcbfoaaGreatDoor
