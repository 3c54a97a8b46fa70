/-
  Contracts of layer 2.
-/
import Derived.Test.YthomeplakcbfoaaGreatDoorRC
import Derived.Test.YthomeplakcbfoaaGreatDoorF
import Derived.Test.YthomeplakcbfoaaGreatDoorGv
import Derived.Deep.RegionWith
namespace Go.Proofs.YthomeplakcbfoaaGreatDoor
section
open Go.RowKit

def lessR (a b : Va) : Int := if (a.k = 2 ∧ Op.bytesLess a.s.toList b.s.toList = true) ∨ (a.k ≠ 2 ∧ a.n < b.n) then -1 else if eqV a.k a.n a.s b.k b.n b.s = true then 0 else 1
set_option maxRecDepth 100000 in
theorem refLess_ (a b : Va) (w : World) : Calls Tryz.prog 46 #[a.val, b.val] w fun e w' => e = .returned (.int .i64 (lessR a b)) ∧ Below w.heap.size w w' := by
  have K := Lib.hid (((KL.refl w).push (.int .i64 a.k) (.int .i64 a.n) (.string a.s) 27).push' (w.heap.size + 1) (sz1 _ _) (.int .i64 b.k) (.int .i64 b.n) (.string b.s) 27)
  have HL : Hid (lessR a b = if (a.k = 2 ∧ Op.bytesLess a.s.toList b.s.toList = true) ∨ (a.k ≠ 2 ∧ a.n < b.n) then -1 else if eqV a.k a.n a.s b.k b.n b.s = true then 0 else 1) := Lib.hid rfl
  by_cases h2 : a.k = 2
  · cases q1 : Op.bytesLess a.s.toList b.s.toList
    · have HL1 : Hid (lessR a b = if eqV 2 a.n a.s b.k b.n b.s = true then 0 else 1) := Lib.hid (by rw [HL.out, if_neg (by simp [h2, q1]), h2])
      cases q2 : eqV 2 a.n a.s b.k b.n b.s
      all_goals
        rw [q2] at HL1
        clear HL
        go_enter Tryz.func46, Tryz.ntmps46
        go_wp2_with fail
        go_ret
        exact ⟨by rw [HL1.out]; rfl, new2 w _ _⟩
    · have HL1 : Hid (lessR a b = -1) := Lib.hid (by rw [HL.out, if_pos (by simp [h2, q1])])
      clear HL
      go_enter Tryz.func46, Tryz.ntmps46
      have hU : undef = Value.tuple #[] := rfl
      go_wp2_with fail
      go_ret
      exact ⟨by rw [HL1.out]; rfl, new2 w _ _⟩
  · by_cases q1 : a.n < b.n
    · have HL1 : Hid (lessR a b = -1) := Lib.hid (by rw [HL.out, if_pos (by simp [h2, q1])])
      clear HL
      go_enter Tryz.func46, Tryz.ntmps46
      go_wp2_with fail
      go_ret
      exact ⟨by rw [HL1.out]; rfl, new2 w _ _⟩
    · have HL1 : Hid (lessR a b = if eqV a.k a.n a.s b.k b.n b.s = true then 0 else 1) := Lib.hid (by rw [HL.out, if_neg (by simp [h2, q1])])
      cases q2 : eqV a.k a.n a.s b.k b.n b.s
      all_goals
        rw [q2] at HL1
        clear HL
        go_enter Tryz.func46, Tryz.ntmps46
        go_wp2_with fail
        go_ret
        exact ⟨by rw [HL1.out]; rfl, new2 w _ _⟩
theorem less_cmp : ∀ (x y : List UInt8), Op.bytesLess x y = true ↔ Lib.compareBytes x y = -1
  | [], [] => by simp [Op.bytesLess, Lib.compareBytes]
  | [], _ :: _ => by simp [Op.bytesLess, Lib.compareBytes]
  | _ :: _, [] => by simp [Op.bytesLess, Lib.compareBytes]
  | a :: x, b :: y => by
    have ih := less_cmp x y
    simp only [Op.bytesLess, Lib.compareBytes]
    by_cases h1 : a < b
    · simp [h1]
    · by_cases h2 : b < a
      · have hne : a ≠ b := by rintro rfl; rw [UInt8.lt_iff_toNat_lt] at h2; omega
        simp [h1, h2, hne]
      · have e : a = b := by rw [UInt8.lt_iff_toNat_lt] at *; exact UInt8.toNat_inj.1 (by omega)
        subst e
        simpa [h1] using ih
end
end Go.Proofs.YthomeplakcbfoaaGreatDoor
namespace Go.Proofs.YthomeplakcbfoaaGreatDoor
section
open Go.RowKit

set_option maxRecDepth 100000 in
theorem called_abs (v : Va) (A : Option Addr) (c : Nat) (w : World) (h : Sl w A [v]) (hn : Small v.n) : Calls Tryz.prog 43 #[.string ⟨#[97, 98, 115]⟩, .slice A 1 c] w fun e w' => e = .returned (two (intV (max v.n (-v.n)), 0)) ∧ Below w.heap.size w w' := by
  have hT : ∀ l : Bs, ((⟨#[97, 98, 115]⟩ : ByteArray).toList == l) = (([97, 98, 115] : Bs) == l) := fun l => by rw [toList_dat]
  have t0 := hT [97, 98, 115]
  have t1 := hT [115, 105, 103, 110]
  have t2 := hT [116, 111, 95, 116, 101, 120, 116]
  have t3 := hT [108, 101, 110, 103, 116, 104]
  have t4 := hT [117, 112, 112, 101, 114]
  have t5 := hT [108, 111, 119, 101, 114]
  have t6 := hT [116, 111, 95, 105, 110, 116]
  have t7 := hT [115, 117, 98, 115, 116, 114]
  have t8 := hT [108, 101, 97, 115, 116]
  have t9 := hT [103, 114, 101, 97, 116, 101, 115, 116]
  clear hT
  obtain ⟨b, off, rfl, hb, c0, c1, c2⟩ := h 0 v rfl
  simp only [Nat.zero_mul, Nat.add_zero] at c0 c1 c2
  clear h
  obtain ⟨n0, n1⟩ := hn
  go_enter Tryz.func43, Tryz.ntmps43
  go_wp2_with (first
    | (go_at_call 69; refine (refSize_ v.n (by omega) (by omega) _).mono ?_; rintro e y ⟨rfl, rfl⟩)
    | (go_at_call 25; refine (ref_int _ _).mono ?_; rintro e y ⟨rfl, hb2⟩; have K := Lib.hid (KL.below ((KL.refl w).push (.int .i64 0) (.int .i64 0) (.string ⟨#[]⟩) 27) hb2); clear hb2; obtain ⟨HB, ⟨r0, r1, r2, g0, g1, g2, rl⟩, _⟩ := K.out))
  (try simp only [Exit.inBlock, Exit.then])
  exact ret_two rfl rfl K.out.q.1 rfl ⟨rfl, set3 HB _ (Nat.le_refl _) _ _ _⟩
set_option maxRecDepth 100000 in
theorem called_sign (v : Va) (A : Option Addr) (c : Nat) (w : World) (h : Sl w A [v]) : Calls Tryz.prog 43 #[.string ⟨#[115, 105, 103, 110]⟩, .slice A 1 c] w fun e w' => e = .returned (two (intV (min (max v.n (-1)) 1), 0)) ∧ Below w.heap.size w w' := by
  have hT : ∀ l : Bs, ((⟨#[115, 105, 103, 110]⟩ : ByteArray).toList == l) = (([115, 105, 103, 110] : Bs) == l) := fun l => by rw [toList_dat]
  have t0 := hT [97, 98, 115]
  have t1 := hT [115, 105, 103, 110]
  have t2 := hT [116, 111, 95, 116, 101, 120, 116]
  have t3 := hT [108, 101, 110, 103, 116, 104]
  have t4 := hT [117, 112, 112, 101, 114]
  have t5 := hT [108, 111, 119, 101, 114]
  have t6 := hT [116, 111, 95, 105, 110, 116]
  have t7 := hT [115, 117, 98, 115, 116, 114]
  have t8 := hT [108, 101, 97, 115, 116]
  have t9 := hT [103, 114, 101, 97, 116, 101, 115, 116]
  clear hT
  obtain ⟨b, off, rfl, hb, c0, c1, c2⟩ := h 0 v rfl
  simp only [Nat.zero_mul, Nat.add_zero] at c0 c1 c2
  clear h
  go_enter Tryz.func43, Tryz.ntmps43
  go_wp2_with (first
    | (go_at_call 25; refine (ref_int _ _).mono ?_; rintro e y ⟨rfl, hb2⟩; have K := Lib.hid (KL.below ((KL.refl w).push (.int .i64 0) (.int .i64 0) (.string ⟨#[]⟩) 27) hb2); clear hb2; obtain ⟨HB, ⟨r0, r1, r2, g0, g1, g2, rl⟩, _⟩ := K.out))
  (try simp only [Exit.inBlock, Exit.then])
  exact ret_two rfl rfl K.out.q.1 rfl ⟨rfl, set3 HB _ (Nat.le_refl _) _ _ _⟩
set_option maxRecDepth 100000 in
theorem called_to_text (v : Va) (A : Option Addr) (c : Nat) (w : World) (h : Sl w A [v]) (hn : Small v.n) : Calls Tryz.prog 43 #[.string ⟨#[116, 111, 95, 116, 101, 120, 116]⟩, .slice A 1 c] w fun e w' => e = .returned (two (txtV (baOf (Lib.itoa v.n)), 0)) ∧ Below w.heap.size w w' := by
  have hT : ∀ l : Bs, ((⟨#[116, 111, 95, 116, 101, 120, 116]⟩ : ByteArray).toList == l) = (([116, 111, 95, 116, 101, 120, 116] : Bs) == l) := fun l => by rw [toList_dat]
  have t0 := hT [97, 98, 115]
  have t1 := hT [115, 105, 103, 110]
  have t2 := hT [116, 111, 95, 116, 101, 120, 116]
  have t3 := hT [108, 101, 110, 103, 116, 104]
  have t4 := hT [117, 112, 112, 101, 114]
  have t5 := hT [108, 111, 119, 101, 114]
  have t6 := hT [116, 111, 95, 105, 110, 116]
  have t7 := hT [115, 117, 98, 115, 116, 114]
  have t8 := hT [108, 101, 97, 115, 116]
  have t9 := hT [103, 114, 101, 97, 116, 101, 115, 116]
  clear hT
  obtain ⟨b, off, rfl, hb, c0, c1, c2⟩ := h 0 v rfl
  simp only [Nat.zero_mul, Nat.add_zero] at c0 c1 c2
  clear h
  obtain ⟨n0, n1⟩ := hn
  go_enter Tryz.func43, Tryz.ntmps43
  go_wp2_with (first
    | (go_at_call 53; refine (digits_ v.n (by omega) (by omega) _).mono ?_; rintro e y ⟨rfl, hb2⟩; have K1 := Lib.hid (KL.below ((KL.refl w).push (.int .i64 0) (.int .i64 0) (.string ⟨#[]⟩) 27) hb2); clear hb2; obtain ⟨HB1, ⟨s0, s1, s2, _, _, _, sl⟩, _⟩ := K1.out)
    | (go_at_call 26; refine (ref_string _ _).mono ?_; rintro e y2 ⟨rfl, hb2⟩; have K := Lib.hid (KL.below K1.out hb2); clear hb2; obtain ⟨HB, ⟨r0, r1, r2, g0, g1, g2, rl⟩, _⟩ := K.out))
  (try simp only [Exit.inBlock, Exit.then])
  exact ret_two rfl rfl K.out.q.1 rfl ⟨rfl, set3 HB _ (Nat.le_refl _) _ _ _⟩
set_option maxRecDepth 100000 in
theorem called_length (v : Va) (A : Option Addr) (c : Nat) (w : World) (h : Sl w A [v]) : Calls Tryz.prog 43 #[.string ⟨#[108, 101, 110, 103, 116, 104]⟩, .slice A 1 c] w fun e w' => e = .returned (two (intV v.s.size, 0)) ∧ Below w.heap.size w w' := by
  have hT : ∀ l : Bs, ((⟨#[108, 101, 110, 103, 116, 104]⟩ : ByteArray).toList == l) = (([108, 101, 110, 103, 116, 104] : Bs) == l) := fun l => by rw [toList_dat]
  have t0 := hT [97, 98, 115]
  have t1 := hT [115, 105, 103, 110]
  have t2 := hT [116, 111, 95, 116, 101, 120, 116]
  have t3 := hT [108, 101, 110, 103, 116, 104]
  have t4 := hT [117, 112, 112, 101, 114]
  have t5 := hT [108, 111, 119, 101, 114]
  have t6 := hT [116, 111, 95, 105, 110, 116]
  have t7 := hT [115, 117, 98, 115, 116, 114]
  have t8 := hT [108, 101, 97, 115, 116]
  have t9 := hT [103, 114, 101, 97, 116, 101, 115, 116]
  clear hT
  obtain ⟨b, off, rfl, hb, c0, c1, c2⟩ := h 0 v rfl
  simp only [Nat.zero_mul, Nat.add_zero] at c0 c1 c2
  clear h
  go_enter Tryz.func43, Tryz.ntmps43
  go_wp2_with (first
    | (go_at_call 25; refine (ref_int _ _).mono ?_; rintro e y ⟨rfl, hb2⟩; have K := Lib.hid (KL.below ((KL.refl w).push (.int .i64 0) (.int .i64 0) (.string ⟨#[]⟩) 27) hb2); clear hb2; obtain ⟨HB, ⟨r0, r1, r2, g0, g1, g2, rl⟩, _⟩ := K.out))
  (try simp only [Exit.inBlock, Exit.then])
  exact ret_two rfl rfl K.out.q.1 rfl ⟨rfl, set3 HB _ (Nat.le_refl _) _ _ _⟩
set_option maxRecDepth 100000 in
theorem called_upper (v : Va) (A : Option Addr) (c : Nat) (w : World) (h : Sl w A [v]) (hs : v.s.size ≤ 200) : Calls Tryz.prog 43 #[.string ⟨#[117, 112, 112, 101, 114]⟩, .slice A 1 c] w fun e w' => e = .returned (two (txtV (baOf (v.s.data.toList.map upperB)), 0)) ∧ Below w.heap.size w w' := by
  have hT : ∀ l : Bs, ((⟨#[117, 112, 112, 101, 114]⟩ : ByteArray).toList == l) = (([117, 112, 112, 101, 114] : Bs) == l) := fun l => by rw [toList_dat]
  have t0 := hT [97, 98, 115]
  have t1 := hT [115, 105, 103, 110]
  have t2 := hT [116, 111, 95, 116, 101, 120, 116]
  have t3 := hT [108, 101, 110, 103, 116, 104]
  have t4 := hT [117, 112, 112, 101, 114]
  have t5 := hT [108, 111, 119, 101, 114]
  have t6 := hT [116, 111, 95, 105, 110, 116]
  have t7 := hT [115, 117, 98, 115, 116, 114]
  have t8 := hT [108, 101, 97, 115, 116]
  have t9 := hT [103, 114, 101, 97, 116, 101, 115, 116]
  clear hT
  obtain ⟨b, off, rfl, hb, c0, c1, c2⟩ := h 0 v rfl
  simp only [Nat.zero_mul, Nat.add_zero] at c0 c1 c2
  clear h
  go_enter Tryz.func43, Tryz.ntmps43
  go_wp2_with (first
    | (go_at_call 70; refine (upper_ v.s (by omega) _).mono ?_; rintro e y ⟨rfl, hb2⟩; have K1 := Lib.hid (KL.below ((KL.refl w).push (.int .i64 0) (.int .i64 0) (.string ⟨#[]⟩) 27) hb2); clear hb2; obtain ⟨HB1, ⟨s0, s1, s2, _, _, _, sl⟩, _⟩ := K1.out)
    | (go_at_call 26; refine (ref_string _ _).mono ?_; rintro e y2 ⟨rfl, hb2⟩; have K := Lib.hid (KL.below K1.out hb2); clear hb2; obtain ⟨HB, ⟨r0, r1, r2, g0, g1, g2, rl⟩, _⟩ := K.out))
  (try simp only [Exit.inBlock, Exit.then])
  exact ret_two rfl rfl K.out.q.1 rfl ⟨rfl, set3 HB _ (Nat.le_refl _) _ _ _⟩
set_option maxRecDepth 100000 in
theorem called_lower (v : Va) (A : Option Addr) (c : Nat) (w : World) (h : Sl w A [v]) (hs : v.s.size ≤ 200) : Calls Tryz.prog 43 #[.string ⟨#[108, 111, 119, 101, 114]⟩, .slice A 1 c] w fun e w' => e = .returned (two (txtV (baOf (v.s.data.toList.map lowerB)), 0)) ∧ Below w.heap.size w w' := by
  have hT : ∀ l : Bs, ((⟨#[108, 111, 119, 101, 114]⟩ : ByteArray).toList == l) = (([108, 111, 119, 101, 114] : Bs) == l) := fun l => by rw [toList_dat]
  have t0 := hT [97, 98, 115]
  have t1 := hT [115, 105, 103, 110]
  have t2 := hT [116, 111, 95, 116, 101, 120, 116]
  have t3 := hT [108, 101, 110, 103, 116, 104]
  have t4 := hT [117, 112, 112, 101, 114]
  have t5 := hT [108, 111, 119, 101, 114]
  have t6 := hT [116, 111, 95, 105, 110, 116]
  have t7 := hT [115, 117, 98, 115, 116, 114]
  have t8 := hT [108, 101, 97, 115, 116]
  have t9 := hT [103, 114, 101, 97, 116, 101, 115, 116]
  clear hT
  obtain ⟨b, off, rfl, hb, c0, c1, c2⟩ := h 0 v rfl
  simp only [Nat.zero_mul, Nat.add_zero] at c0 c1 c2
  clear h
  go_enter Tryz.func43, Tryz.ntmps43
  go_wp2_with (first
    | (go_at_call 70; refine (lower_ v.s (by omega) _).mono ?_; rintro e y ⟨rfl, hb2⟩; have K1 := Lib.hid (KL.below ((KL.refl w).push (.int .i64 0) (.int .i64 0) (.string ⟨#[]⟩) 27) hb2); clear hb2; obtain ⟨HB1, ⟨s0, s1, s2, _, _, _, sl⟩, _⟩ := K1.out)
    | (go_at_call 26; refine (ref_string _ _).mono ?_; rintro e y2 ⟨rfl, hb2⟩; have K := Lib.hid (KL.below K1.out hb2); clear hb2; obtain ⟨HB, ⟨r0, r1, r2, g0, g1, g2, rl⟩, _⟩ := K.out))
  (try simp only [Exit.inBlock, Exit.then])
  exact ret_two rfl rfl K.out.q.1 rfl ⟨rfl, set3 HB _ (Nat.le_refl _) _ _ _⟩
set_option maxRecDepth 100000 in
theorem called_to_int (v : Va) (A : Option Addr) (c : Nat) (w : World) (h : Sl w A [v]) (hs : v.s.size ≤ 200) : Calls Tryz.prog 43 #[.string ⟨#[116, 111, 95, 105, 110, 116]⟩, .slice A 1 c] w fun e w' => e = .returned (two (if (wholeS v.s.data.toList).2 = true then (intV (wholeS v.s.data.toList).1, 0) else (nulV, 21))) ∧ Below w.heap.size w w' := by
  have hT : ∀ l : Bs, ((⟨#[116, 111, 95, 105, 110, 116]⟩ : ByteArray).toList == l) = (([116, 111, 95, 105, 110, 116] : Bs) == l) := fun l => by rw [toList_dat]
  have t0 := hT [97, 98, 115]
  have t1 := hT [115, 105, 103, 110]
  have t2 := hT [116, 111, 95, 116, 101, 120, 116]
  have t3 := hT [108, 101, 110, 103, 116, 104]
  have t4 := hT [117, 112, 112, 101, 114]
  have t5 := hT [108, 111, 119, 101, 114]
  have t6 := hT [116, 111, 95, 105, 110, 116]
  have t7 := hT [115, 117, 98, 115, 116, 114]
  have t8 := hT [108, 101, 97, 115, 116]
  have t9 := hT [103, 114, 101, 97, 116, 101, 115, 116]
  clear hT
  obtain ⟨b, off, rfl, hb, c0, c1, c2⟩ := h 0 v rfl
  simp only [Nat.zero_mul, Nat.add_zero] at c0 c1 c2
  clear h
  have HW := Lib.hid fun x => refWhole_ v.s x (by omega)
  obtain ⟨⟨n, q⟩, hq⟩ : ∃ r, wholeS v.s.data.toList = r := ⟨_, rfl⟩
  rw [hq] at HW
  rw [hq]
  clear hq
  cases q
  · go_enter Tryz.func43, Tryz.ntmps43
    go_wp2_with (first
      | (go_at_call 56; refine (HW.out _).mono ?_; rintro e y ⟨rfl, hb2⟩; have K := Lib.hid (KL.below ((KL.refl w).push (.int .i64 0) (.int .i64 0) (.string ⟨#[]⟩) 27) hb2); clear hb2; obtain ⟨HB, ⟨r0, r1, r2, g0, g1, g2, rl⟩, _⟩ := K.out))
    (try simp only [Exit.inBlock, Exit.then])
    exact ret_two rfl rfl K.out.q.1 rfl ⟨rfl, set3 HB _ (Nat.le_refl _) _ _ _⟩
  · go_enter Tryz.func43, Tryz.ntmps43
    go_wp2_with (first
      | (go_at_call 56; refine (HW.out _).mono ?_; rintro e y ⟨rfl, hb2⟩; have K1 := Lib.hid (KL.below ((KL.refl w).push (.int .i64 0) (.int .i64 0) (.string ⟨#[]⟩) 27) hb2); clear hb2; obtain ⟨HB1, ⟨s0, s1, s2, _, _, _, sl⟩, _⟩ := K1.out)
      | (go_at_call 25; refine (ref_int _ _).mono ?_; rintro e y2 ⟨rfl, hb2⟩; have K := Lib.hid (KL.below K1.out hb2); clear hb2; obtain ⟨HB, ⟨r0, r1, r2, g0, g1, g2, rl⟩, _⟩ := K.out))
    (try simp only [Exit.inBlock, Exit.then])
    exact ret_two rfl rfl K.out.q.1 rfl ⟨rfl, set3 HB _ (Nat.le_refl _) _ _ _⟩
end
end Go.Proofs.YthomeplakcbfoaaGreatDoor
namespace Go.Proofs.YthomeplakcbfoaaGreatDoor
section
open Go.RowKit

set_option maxRecDepth 100000 in
set_option maxHeartbeats 1000000 in
theorem called_substr (u v z : Va) (A : Option Addr) (c : Nat) (w : World) (h : Sl w A [u, v, z]) (hs : u.s.size ≤ 200) (hf : Small v.n) (hm : Small z.n) : Calls Tryz.prog 43 #[.string ⟨#[115, 117, 98, 115, 116, 114]⟩, .slice A 3 c] w fun e w' => e = .returned (two (txtV (partR u.s v.n z.n), 0)) ∧ Below w.heap.size w w' := by
  have hT : ∀ l : Bs, ((⟨#[115, 117, 98, 115, 116, 114]⟩ : ByteArray).toList == l) = (([115, 117, 98, 115, 116, 114] : Bs) == l) := fun l => by rw [toList_dat]
  have t0 := hT [97, 98, 115]
  have t1 := hT [115, 105, 103, 110]
  have t2 := hT [116, 111, 95, 116, 101, 120, 116]
  have t3 := hT [108, 101, 110, 103, 116, 104]
  have t4 := hT [117, 112, 112, 101, 114]
  have t5 := hT [108, 111, 119, 101, 114]
  have t6 := hT [116, 111, 95, 105, 110, 116]
  have t7 := hT [115, 117, 98, 115, 116, 114]
  have t8 := hT [108, 101, 97, 115, 116]
  have t9 := hT [103, 114, 101, 97, 116, 101, 115, 116]
  clear hT
  obtain ⟨b, off, rfl, hb, c0, c1, c2⟩ := h 0 u rfl
  obtain ⟨b', off', e1, -, d0, d1, d2⟩ := h 1 v rfl
  cases e1
  obtain ⟨b', off', e1, -, f0, f1, f2⟩ := h 2 z rfl
  cases e1
  simp only [Nat.zero_mul, Nat.one_mul, Nat.add_zero, Nat.reduceMul, Nat.add_assoc, Nat.reduceAdd] at c0 c1 c2 d0 d1 d2 f0 f1 f2
  clear h
  have HP := Lib.hid fun x => refPart_ u.s v.n z.n hs hf.1 hf.2 hm.1 hm.2 x
  go_enter Tryz.func43, Tryz.ntmps43
  go_upto_region 20 with fail
  have e1 : w.cell? ⟨b, off + 3 + 1, none⟩ = some (.int .i64 v.n) := d1
  have e2 : w.cell? ⟨b, off + 2 * 3 + 1, none⟩ = some (.int .i64 z.n) := f1
  have e3 : w.cell? ⟨b, off + 6 + 1, none⟩ = some (.int .i64 z.n) := f1
  have K1 := Lib.hid (KL.below ((KL.refl w).push (.int .i64 0) (.int .i64 0) (.string ⟨#[]⟩) 27) (Below.refl _ _).drew)
  go_region_with (first
    | (go_at_call 71; refine (HP.out _).mono ?_; rintro e y ⟨rfl, rfl⟩)
    | (go_at_call 26; refine (ref_string _ _).mono ?_; rintro e y ⟨rfl, hb2⟩; have K := Lib.hid (KL.below K1.out hb2); clear hb2; obtain ⟨HB, ⟨r0, r1, r2, g0, g1, g2, rl⟩, _⟩ := K.out))
  all_goals go_wp2_with fail
  all_goals (try simp only [Exit.inBlock, Exit.then])
  all_goals exact ret_two rfl rfl K.out.q.1 rfl ⟨rfl, set3 HB _ (Nat.le_refl _) _ _ _⟩
end
end Go.Proofs.YthomeplakcbfoaaGreatDoor
namespace Go.Proofs.YthomeplakcbfoaaGreatDoor
section
open Go.RowKit

set_option maxRecDepth 100000 in
set_option maxHeartbeats 1000000 in
theorem called_least (p q : Va) (A : Option Addr) (c : Nat) (w : World) (h : Sl w A [p, q]) : Calls Tryz.prog 43 #[.string ⟨#[108, 101, 97, 115, 116]⟩, .slice A 2 c] w fun e w' => e = .returned (two (if lessR p q ≤ 0 then p else q, 0)) ∧ Below w.heap.size w w' := by
  have hT : ∀ l : Bs, ((⟨#[108, 101, 97, 115, 116]⟩ : ByteArray).toList == l) = (([108, 101, 97, 115, 116] : Bs) == l) := fun l => by rw [toList_dat]
  have t0 := hT [97, 98, 115]
  have t1 := hT [115, 105, 103, 110]
  have t2 := hT [116, 111, 95, 116, 101, 120, 116]
  have t3 := hT [108, 101, 110, 103, 116, 104]
  have t4 := hT [117, 112, 112, 101, 114]
  have t5 := hT [108, 111, 119, 101, 114]
  have t6 := hT [116, 111, 95, 105, 110, 116]
  have t7 := hT [115, 117, 98, 115, 116, 114]
  have t8 := hT [108, 101, 97, 115, 116]
  have t9 := hT [103, 114, 101, 97, 116, 101, 115, 116]
  clear hT
  obtain ⟨b, off, rfl, hb, c0, c1, c2⟩ := h 0 p rfl
  obtain ⟨b', off', e1, -, d0, d1, d2⟩ := h 1 q rfl
  cases e1
  simp only [Nat.zero_mul, Nat.one_mul, Nat.add_zero] at c0 c1 c2 d0 d1 d2
  clear h
  have HP := Lib.hid fun x => refLess_ p q x
  obtain ⟨r, hr⟩ : ∃ r, lessR p q = r := ⟨_, rfl⟩
  rw [hr] at HP
  rw [hr]
  clear hr
  obtain ⟨res, hres⟩ : ∃ z, (if r ≤ 0 then p else q : Va) = z := ⟨_, rfl⟩
  have HR := Lib.hid hres
  rw [hres]
  clear hres
  have hb1 := hb
  by_cases hr0 : r ≤ 0
  all_goals
    first | (have hrb : decide (r ≤ 0) = true := decide_eq_true hr0) | (have hrb : decide (r ≤ 0) = false := decide_eq_false hr0)
    go_enter Tryz.func43, Tryz.ntmps43
    go_upto_region 21 with fail
    have K1 := Lib.hid (KL.below ((KL.refl w).push (.int .i64 0) (.int .i64 0) (.string ⟨#[]⟩) 27) (Below.refl _ _).drew)
    have x0 := (bcell K1.out.HB b off hb).trans c0
    go_region_with (first
      | (go_at_call 46; refine (HP.out _).mono ?_; rintro e y ⟨rfl, hb2⟩; have K := Lib.hid (KL.below K1.out hb2); clear hb2; obtain ⟨HB, ⟨r0, r1, r2, g0, g1, g2, rl⟩, _⟩ := K.out; have z0 := (bcell HB b off hb1).trans c0; have z1 := (bcell HB b (off + 1) hb1).trans c1; have z2 := (bcell HB b (off + 2) hb1).trans c2; have z3 := (bcell HB b (off + 3) hb1).trans d0; have z4 := (bcell HB b (off + 3 + 1) hb1).trans d1; have z5 := (bcell HB b (off + 3 + 2) hb1).trans d2))
    all_goals go_wp2_with fail
    all_goals (try simp only [Exit.inBlock, Exit.then])
    all_goals exact ret_two rfl rfl K.out.q.1 rfl ⟨by rw [← HR.out]; first | (rw [if_pos hr0]; rfl) | (rw [if_neg (Int.not_le.2 hr0)]; rfl) | (rw [if_neg hr0]; rfl), set3 HB _ (Nat.le_refl _) _ _ _⟩
set_option maxRecDepth 100000 in
set_option maxHeartbeats 1000000 in
theorem called_greatest (p q : Va) (A : Option Addr) (c : Nat) (w : World) (h : Sl w A [p, q]) : Calls Tryz.prog 43 #[.string ⟨#[103, 114, 101, 97, 116, 101, 115, 116]⟩, .slice A 2 c] w fun e w' => e = .returned (two (if lessR p q ≤ 0 then q else p, 0)) ∧ Below w.heap.size w w' := by
  have hT : ∀ l : Bs, ((⟨#[103, 114, 101, 97, 116, 101, 115, 116]⟩ : ByteArray).toList == l) = (([103, 114, 101, 97, 116, 101, 115, 116] : Bs) == l) := fun l => by rw [toList_dat]
  have t0 := hT [97, 98, 115]
  have t1 := hT [115, 105, 103, 110]
  have t2 := hT [116, 111, 95, 116, 101, 120, 116]
  have t3 := hT [108, 101, 110, 103, 116, 104]
  have t4 := hT [117, 112, 112, 101, 114]
  have t5 := hT [108, 111, 119, 101, 114]
  have t6 := hT [116, 111, 95, 105, 110, 116]
  have t7 := hT [115, 117, 98, 115, 116, 114]
  have t8 := hT [108, 101, 97, 115, 116]
  have t9 := hT [103, 114, 101, 97, 116, 101, 115, 116]
  clear hT
  obtain ⟨b, off, rfl, hb, c0, c1, c2⟩ := h 0 p rfl
  obtain ⟨b', off', e1, -, d0, d1, d2⟩ := h 1 q rfl
  cases e1
  simp only [Nat.zero_mul, Nat.one_mul, Nat.add_zero] at c0 c1 c2 d0 d1 d2
  clear h
  have HP := Lib.hid fun x => refLess_ p q x
  obtain ⟨r, hr⟩ : ∃ r, lessR p q = r := ⟨_, rfl⟩
  rw [hr] at HP
  rw [hr]
  clear hr
  obtain ⟨res, hres⟩ : ∃ z, (if r ≤ 0 then q else p : Va) = z := ⟨_, rfl⟩
  have HR := Lib.hid hres
  rw [hres]
  clear hres
  have hb1 := hb
  by_cases hr0 : r ≤ 0
  all_goals
    first | (have hrb : decide (r ≤ 0) = true := decide_eq_true hr0) | (have hrb : decide (r ≤ 0) = false := decide_eq_false hr0)
    go_enter Tryz.func43, Tryz.ntmps43
    go_upto_region 21 with fail
    have K1 := Lib.hid (KL.below ((KL.refl w).push (.int .i64 0) (.int .i64 0) (.string ⟨#[]⟩) 27) (Below.refl _ _).drew)
    have x0 := (bcell K1.out.HB b off hb).trans c0
    go_region_with (first
      | (go_at_call 46; refine (HP.out _).mono ?_; rintro e y ⟨rfl, hb2⟩; have K := Lib.hid (KL.below K1.out hb2); clear hb2; obtain ⟨HB, ⟨r0, r1, r2, g0, g1, g2, rl⟩, _⟩ := K.out; have z0 := (bcell HB b off hb1).trans c0; have z1 := (bcell HB b (off + 1) hb1).trans c1; have z2 := (bcell HB b (off + 2) hb1).trans c2; have z3 := (bcell HB b (off + 3) hb1).trans d0; have z4 := (bcell HB b (off + 3 + 1) hb1).trans d1; have z5 := (bcell HB b (off + 3 + 2) hb1).trans d2))
    all_goals go_wp2_with fail
    all_goals (try simp only [Exit.inBlock, Exit.then])
    all_goals exact ret_two rfl rfl K.out.q.1 rfl ⟨by rw [← HR.out]; first | (rw [if_pos hr0]; rfl) | (rw [if_neg (Int.not_le.2 hr0)]; rfl) | (rw [if_neg hr0]; rfl), set3 HB _ (Nat.le_refl _) _ _ _⟩
end
end Go.Proofs.YthomeplakcbfoaaGreatDoor
