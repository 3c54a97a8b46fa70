/-
  The reference's whole.
-/
import Derived.Test.YtchajbcmgdnpmaaGreatDoorVP
namespace Go.Proofs.YtchajbcmgdnpmaaGreatDoor
open Go.RowKit

theorem valD_lt : ∀ (l : Bs) (a : Nat), l.all digitB = true → valD a l < (a + 1) * 10 ^ l.length
  | [], a, _ => by simp [valD]
  | c :: r, a, h => by
    simp only [List.all_cons, Bool.and_eq_true] at h
    have h3 : 48 ≤ c.toNat ∧ c.toNat ≤ 57 := by have := h.1; simpa [digitB] using this
    have ih := valD_lt r (stepD a c) h.2
    have h4 : stepD a c + 1 ≤ (a + 1) * 10 := by unfold stepD; omega
    have h5 := Nat.mul_le_mul_right (10 ^ r.length) h4
    have e : valD a (c :: r) = valD (stepD a c) r := rfl
    rw [e, List.length_cons, Nat.pow_succ]
    calc valD (stepD a c) r < (stepD a c + 1) * 10 ^ r.length := ih
      _ ≤ (a + 1) * 10 * 10 ^ r.length := h5
      _ = (a + 1) * (10 ^ r.length * 10) := by rw [Nat.mul_assoc, Nat.mul_comm 10]
/-- Digits up to a place. -/
def seg (l : Bs) (f k : Nat) : Bs := (l.take k).drop f
theorem seg_snoc (l : Bs) (f k : Nat) (hf : f ≤ k) (hk : k < l.length) : seg l f (k + 1) = seg l f k ++ [l[k]] := by
  unfold seg
  rw [List.take_succ_eq_append_getElem hk, List.drop_append_of_le_length (by rw [List.length_take]; omega)]
theorem seg_nil (l : Bs) (f : Nat) : seg l f f = [] := by unfold seg; apply List.drop_of_length_le; rw [List.length_take]; omega
theorem seg_len (l : Bs) (f k : Nat) : (seg l f k).length ≤ k := by unfold seg; rw [List.length_drop, List.length_take]; omega
theorem seg_lt (l : Bs) (f k : Nat) (hk : k ≤ 16) (h : (seg l f k).all digitB = true) : valD 0 (seg l f k) < 10000000000000000 := by
  have h1 := valD_lt _ 0 h
  have h2 := Nat.pow_le_pow_right (n := 10) (by omega) (Nat.le_trans (seg_len l f k) hk)
  omega
def frm (l : Bs) : Nat := if l.head? = some 45 then 1 else 0
theorem win_seg (l : Bs) : win l = seg l (frm l) 16 := rfl
theorem win_end (l : Bs) (k : Nat) (hk : k ≤ 16) (h : k = 16 ∨ l.length ≤ k) : win l = seg l (frm l) k := by
  rcases h with rfl | h
  · rfl
  · rw [win_seg]
    unfold seg
    rw [List.take_of_length_le h, List.take_of_length_le (by omega)]
theorem win_bad (l : Bs) (k : Nat) (hf : frm l ≤ k) (h16 : k < 16) (hk : k < l.length) (h : digitB l[k] = false) : (win l).all digitB = false := by
  rw [win_seg]
  have e : seg l (frm l) 16 = seg l (frm l) (k + 1) ++ (l.drop (k + 1)).take (15 - k) := by
    unfold seg
    have : l.take 16 = l.take (k + 1) ++ (l.drop (k + 1)).take (15 - k) := by
      rw [show 16 = (k + 1) + (15 - k) by omega, List.take_add]
    rw [this, List.drop_append_of_le_length (by rw [List.length_take]; omega)]
  rw [e, seg_snoc l _ k hf hk, List.all_append, List.all_append]
  simp [h]
theorem byteD (c : UInt8) : digitB c = true ↔ 48 ≤ (c.toNat : Int) ∧ (c.toNat : Int) ≤ 57 := by simp [digitB]; omega
set_option maxRecDepth 100000 in
set_option maxHeartbeats 2000000 in
theorem refWhole_ (s : ByteArray) (w : World) (hs : s.size ≤ 4000000) : Calls Tryz.prog 56 #[.string s] w fun e w' => e = .returned (.tuple #[.int .i64 (wholeS s.data.toList).1, .bool (wholeS s.data.toList).2]) ∧ Below w.heap.size w w' := by
  have HSZ : Hid (s.data.toList.length = s.size) := Lib.hid (by simp)
  have HS : Hid (wholeS s.data.toList = if (win s.data.toList).all digitB = true then (wholeN s.data.toList, inR (wholeN s.data.toList) && (Lib.itoa (wholeN s.data.toList) == s.data.toList)) else (0, false)) := Lib.hid rfl
  have HI := Lib.hid fun n x => isInt_ n x
  have HD := Lib.hid fun n h0 h1 x => digits_ n h0 h1 x
  have HHD : (s.size = 0 ∧ frm s.data.toList = 0) ∨ (¬ s.size = 0 ∧ frm s.data.toList = 0 ∧ ∃ h0 : 0 < s.size, s[0] ≠ 45) ∨ (¬ s.size = 0 ∧ frm s.data.toList = 1 ∧ ∃ h0 : 0 < s.size, s[0] = 45) := by
    by_cases h : s.size = 0
    · refine .inl ⟨h, ?_⟩
      have : s.data.toList = [] := List.eq_nil_of_length_eq_zero (by rw [HSZ.out]; exact h)
      unfold frm
      rw [this]
      rfl
    · obtain ⟨c, r, hcr, h0, hc⟩ := ne_emp h
      by_cases h45 : c = 45
      · exact .inr (.inr ⟨h, by unfold frm; rw [hcr, h45]; rfl, h0, by rw [hc, h45]⟩)
      · exact .inr (.inl ⟨h, by unfold frm; rw [hcr]; simp [h45], h0, by rw [hc]; exact h45⟩)
  have HN : Hid (wholeN s.data.toList = if frm s.data.toList = 1 then -(valD 0 (win s.data.toList) : Int) else (valD 0 (win s.data.toList) : Int)) := Lib.hid (by
    unfold wholeN frm
    by_cases q : s.data.toList.head? = some 45
    · rw [if_pos q, if_pos q, if_pos rfl]
    · rw [if_neg q, if_neg q, if_neg (by omega)])
  rcases HHD with ⟨h0, hf⟩ | ⟨h0, hf, hp, hc⟩ | ⟨h0, hf, hp, hc⟩
  · have hse : s = ⟨#[]⟩ := ba_ext (List.eq_nil_of_length_eq_zero (by rw [HSZ.out]; exact h0))
    have hne : (!s.toList.isEmpty) = false := by rw [toList_dat, hse]; rfl
    have HF := Lib.hid hf
    clear hf hse
    go_enter Tryz.func56, Tryz.ntmps56
    go_wp2_with fail
    go_loop [4, 6] (fun n i => ∃ k : Nat, 0 ≤ k ∧ k ≤ 16 ∧ k ≤ s.size ∧ i = .int .i64 k ∧ n = .int .i64 (valD 0 (seg s.data.toList 0 k) : Nat) ∧ (seg s.data.toList 0 k).all digitB = true) (fun n i => 16 - (intOf i).toNat)
    case atStart => exact ⟨0, Nat.le_refl _, by omega, by omega, rfl, by rw [seg_nil]; rfl, by rw [seg_nil]; rfl⟩
    case round =>
      obtain ⟨k, hFk, hk16, hks, rfl, rfl, hall⟩ := hrel
      have HB := Lib.hid (seg_lt s.data.toList 0 k hk16 hall)
      have HA := Lib.hid hall
      clear hall
      by_cases hlt : k < s.size ∧ k < 16
      · exact absurd hlt.1 (by omega)
      · have HW := Lib.hid (win_end s.data.toList k hk16 (by rw [HSZ.out]; omega))
        rw [HW.out, HF.out] at HN HS
        rw [if_pos HA.out] at HS
        have hb := HB.out
        generalize valD 0 (seg s.data.toList 0 k) = n at *
        have hle' : (n : Int) ≤ 9999999999999999 := by omega
        have hle0 : (0 : Int) ≤ n := by omega
        clear hb HB
        have hN := HN.out
        rw [if_neg (by decide)] at hN
        rw [hN] at HS
        clear hN HN
        cases hr : inR (n : Int)
        · have HR := Lib.hid hr
          rw [hr] at HS
          have hlt2 : ¬ ((k : Int) < s.size ∧ (k : Int) < 16) := by omega
          by_cases h1 : k < s.size
          · exact absurd h1 (by omega)
          · have h1' : ¬ (k : Int) < s.size := by omega
            go_wp2_with (first
              | (go_at_call 76; (with_reducible refine (HI.out _ _).mono ?_); rintro e y ⟨rfl, rfl⟩))
            go_ret2
            exact ⟨by rw [HS.out]; rfl, Below.refl _ _⟩
        · have hr2 : -1099511627777 ≤ (n : Int) ∧ (n : Int) ≤ 1099511627777 := by simp [inR] at hr; omega
          rw [hr] at HS
          have HQ : Hid ((Lib.itoa (n : Int) == s.data.toList) = ((baOf (Lib.itoa (n : Int))).toList == s.toList)) := Lib.hid (by rw [toList_dat, toList_dat, baOf_data])
          rw [HQ.out] at HS
          have HD2 := Lib.hid (HD.out (n : Int) hr2.1 hr2.2)
          clear HQ hr2
          by_cases h1 : k < s.size
          · exact absurd h1 (by omega)
          · have h1' : ¬ (k : Int) < s.size := by omega
            go_wp2_with (first
              | (go_at_call 76; (with_reducible refine (HI.out _ _).mono ?_); rintro e y ⟨rfl, rfl⟩)
              | (go_at_call 53; (with_reducible refine (HD2.out _).mono ?_); rintro e y ⟨rfl, hb⟩))
            go_ret2
            exact ⟨by rw [HS.out]; rfl, hb⟩
  · have hne : (!s.toList.isEmpty) = true := by
      rw [toList_dat]
      cases q : s.data.toList with
      | nil => have := HSZ.out; rw [q] at this; exact absurd this.symm h0
      | cons c r => rfl
    have t3 : ((s[0].toNat : Int) == 45) = false := by
      rw [show (45 : Int) = (((45 : UInt8).toNat : Nat) : Int) from rfl, byte_eq', beq_eq_false_iff_ne]
      exact hc
    have hp' : (0 : Int) < s.size := by omega
    have HF := Lib.hid hf
    clear hf hc h0
    go_enter Tryz.func56, Tryz.ntmps56
    go_wp2_with fail
    go_loop [4, 6] (fun n i => ∃ k : Nat, 0 ≤ k ∧ k ≤ 16 ∧ k ≤ s.size ∧ i = .int .i64 k ∧ n = .int .i64 (valD 0 (seg s.data.toList 0 k) : Nat) ∧ (seg s.data.toList 0 k).all digitB = true) (fun n i => 16 - (intOf i).toNat)
    case atStart => exact ⟨0, Nat.le_refl _, by omega, by omega, rfl, by rw [seg_nil]; rfl, by rw [seg_nil]; rfl⟩
    case round =>
      obtain ⟨k, hFk, hk16, hks, rfl, rfl, hall⟩ := hrel
      have HB := Lib.hid (seg_lt s.data.toList 0 k hk16 hall)
      have HA := Lib.hid hall
      clear hall
      by_cases hlt : k < s.size ∧ k < 16
      · obtain ⟨hlt, hl16⟩ := hlt
        have hkl : k < s.data.toList.length := by rw [HSZ.out]; exact hlt
        have HT := Lib.hid (seg_snoc s.data.toList 0 k hFk hkl)
        have HE : Hid (s.data.toList[k] = s[k]) := Lib.hid (by rfl)
        have hlI : (k : Int) < s.size := by omega
        have hlJ : (k : Int) < 16 := by omega
        cases hd : digitB s[k]
        · have HW := Lib.hid (win_bad s.data.toList k (by rw [HF.out]; exact hFk) hl16 hkl (by rw [HE.out]; exact hd))
          rw [HW.out, if_neg (by decide)] at HS
          have hor : (s[k].toNat : Int) < 48 ∨ (48 ≤ (s[k].toNat : Int) ∧ 57 < (s[k].toNat : Int)) := by
            have h1 := mt (byteD s[k]).2 (by rw [hd]; decide)
            omega
          clear hd HT HW
          generalize valD 0 (seg s.data.toList 0 k) = n at *
          rcases hor with hc0 | ⟨hc0, hc1⟩
          · go_wp2_with fail
            go_ret2
            exact ⟨by rw [HS.out]; rfl, Below.refl _ _⟩
          · go_wp2_with fail
            go_ret2
            exact ⟨by rw [HS.out]; rfl, Below.refl _ _⟩
        · obtain ⟨hc0, hc1⟩ := (byteD s[k]).1 hd
          have HV : Hid (valD 0 (seg s.data.toList 0 (k + 1)) = 10 * valD 0 (seg s.data.toList 0 k) + (s[k].toNat - 48)) := Lib.hid (by rw [HT.out, valD_app, HE.out]; rfl)
          have HA2 : Hid ((seg s.data.toList 0 (k + 1)).all digitB = true) := Lib.hid (by rw [HT.out, List.all_append, HA.out, HE.out]; simp [hd])
          clear hd
          have hb := HB.out
          generalize valD 0 (seg s.data.toList 0 k) = n at *
          have hle' : (n : Int) ≤ 9999999999999999 := by omega
          clear hb HB
          go_wp2_with fail
          go_round
          case rel =>
            refine ⟨k + 1, by omega, by omega, by omega, by go_num, ?_, HA2.out⟩
            rw [HV.out]
            congr 1
            omega
          case measure => simp [intOf]; omega
      · have HW := Lib.hid (win_end s.data.toList k hk16 (by rw [HSZ.out]; omega))
        rw [HW.out, HF.out] at HN HS
        rw [if_pos HA.out] at HS
        have hb := HB.out
        generalize valD 0 (seg s.data.toList 0 k) = n at *
        have hle' : (n : Int) ≤ 9999999999999999 := by omega
        have hle0 : (0 : Int) ≤ n := by omega
        clear hb HB
        have hN := HN.out
        rw [if_neg (by decide)] at hN
        rw [hN] at HS
        clear hN HN
        cases hr : inR (n : Int)
        · have HR := Lib.hid hr
          rw [hr] at HS
          have hlt2 : ¬ ((k : Int) < s.size ∧ (k : Int) < 16) := by omega
          by_cases h1 : k < s.size
          · have h1' : (k : Int) < s.size := by omega
            have h2' : ¬ (k : Int) < 16 := by omega
            go_wp2_with (first
              | (go_at_call 76; (with_reducible refine (HI.out _ _).mono ?_); rintro e y ⟨rfl, rfl⟩))
            go_ret2
            exact ⟨by rw [HS.out]; rfl, Below.refl _ _⟩
          · have h1' : ¬ (k : Int) < s.size := by omega
            go_wp2_with (first
              | (go_at_call 76; (with_reducible refine (HI.out _ _).mono ?_); rintro e y ⟨rfl, rfl⟩))
            go_ret2
            exact ⟨by rw [HS.out]; rfl, Below.refl _ _⟩
        · have hr2 : -1099511627777 ≤ (n : Int) ∧ (n : Int) ≤ 1099511627777 := by simp [inR] at hr; omega
          rw [hr] at HS
          have HQ : Hid ((Lib.itoa (n : Int) == s.data.toList) = ((baOf (Lib.itoa (n : Int))).toList == s.toList)) := Lib.hid (by rw [toList_dat, toList_dat, baOf_data])
          rw [HQ.out] at HS
          have HD2 := Lib.hid (HD.out (n : Int) hr2.1 hr2.2)
          clear HQ hr2
          by_cases h1 : k < s.size
          · have h1' : (k : Int) < s.size := by omega
            have h2' : ¬ (k : Int) < 16 := by omega
            go_wp2_with (first
              | (go_at_call 76; (with_reducible refine (HI.out _ _).mono ?_); rintro e y ⟨rfl, rfl⟩)
              | (go_at_call 53; (with_reducible refine (HD2.out _).mono ?_); rintro e y ⟨rfl, hb⟩))
            go_ret2
            exact ⟨by rw [HS.out]; rfl, hb⟩
          · have h1' : ¬ (k : Int) < s.size := by omega
            go_wp2_with (first
              | (go_at_call 76; (with_reducible refine (HI.out _ _).mono ?_); rintro e y ⟨rfl, rfl⟩)
              | (go_at_call 53; (with_reducible refine (HD2.out _).mono ?_); rintro e y ⟨rfl, hb⟩))
            go_ret2
            exact ⟨by rw [HS.out]; rfl, hb⟩
  · have hne : (!s.toList.isEmpty) = true := by
      rw [toList_dat]
      cases q : s.data.toList with
      | nil => have := HSZ.out; rw [q] at this; exact absurd this.symm h0
      | cons c r => rfl
    have t3 : ((s[0].toNat : Int) == 45) = true := by
      rw [show (45 : Int) = (((45 : UInt8).toNat : Nat) : Int) from rfl, byte_eq', beq_iff_eq]
      exact hc
    have hp' : (0 : Int) < s.size := by omega
    have HF := Lib.hid hf
    clear hf hc h0
    go_enter Tryz.func56, Tryz.ntmps56
    go_wp2_with fail
    go_loop [4, 6] (fun n i => ∃ k : Nat, 1 ≤ k ∧ k ≤ 16 ∧ k ≤ s.size ∧ i = .int .i64 k ∧ n = .int .i64 (valD 0 (seg s.data.toList 1 k) : Nat) ∧ (seg s.data.toList 1 k).all digitB = true) (fun n i => 16 - (intOf i).toNat)
    case atStart => exact ⟨1, Nat.le_refl _, by omega, by omega, rfl, by rw [seg_nil]; rfl, by rw [seg_nil]; rfl⟩
    case round =>
      obtain ⟨k, hFk, hk16, hks, rfl, rfl, hall⟩ := hrel
      have HB := Lib.hid (seg_lt s.data.toList 1 k hk16 hall)
      have HA := Lib.hid hall
      clear hall
      by_cases hlt : k < s.size ∧ k < 16
      · obtain ⟨hlt, hl16⟩ := hlt
        have hkl : k < s.data.toList.length := by rw [HSZ.out]; exact hlt
        have HT := Lib.hid (seg_snoc s.data.toList 1 k hFk hkl)
        have HE : Hid (s.data.toList[k] = s[k]) := Lib.hid (by rfl)
        have hlI : (k : Int) < s.size := by omega
        have hlJ : (k : Int) < 16 := by omega
        cases hd : digitB s[k]
        · have HW := Lib.hid (win_bad s.data.toList k (by rw [HF.out]; exact hFk) hl16 hkl (by rw [HE.out]; exact hd))
          rw [HW.out, if_neg (by decide)] at HS
          have hor : (s[k].toNat : Int) < 48 ∨ (48 ≤ (s[k].toNat : Int) ∧ 57 < (s[k].toNat : Int)) := by
            have h1 := mt (byteD s[k]).2 (by rw [hd]; decide)
            omega
          clear hd HT HW
          generalize valD 0 (seg s.data.toList 1 k) = n at *
          rcases hor with hc0 | ⟨hc0, hc1⟩
          · go_wp2_with fail
            go_ret2
            exact ⟨by rw [HS.out]; rfl, Below.refl _ _⟩
          · go_wp2_with fail
            go_ret2
            exact ⟨by rw [HS.out]; rfl, Below.refl _ _⟩
        · obtain ⟨hc0, hc1⟩ := (byteD s[k]).1 hd
          have HV : Hid (valD 0 (seg s.data.toList 1 (k + 1)) = 10 * valD 0 (seg s.data.toList 1 k) + (s[k].toNat - 48)) := Lib.hid (by rw [HT.out, valD_app, HE.out]; rfl)
          have HA2 : Hid ((seg s.data.toList 1 (k + 1)).all digitB = true) := Lib.hid (by rw [HT.out, List.all_append, HA.out, HE.out]; simp [hd])
          clear hd
          have hb := HB.out
          generalize valD 0 (seg s.data.toList 1 k) = n at *
          have hle' : (n : Int) ≤ 9999999999999999 := by omega
          clear hb HB
          go_wp2_with fail
          go_round
          case rel =>
            refine ⟨k + 1, by omega, by omega, by omega, by go_num, ?_, HA2.out⟩
            rw [HV.out]
            congr 1
            omega
          case measure => simp [intOf]; omega
      · have HW := Lib.hid (win_end s.data.toList k hk16 (by rw [HSZ.out]; omega))
        rw [HW.out, HF.out] at HN HS
        rw [if_pos HA.out] at HS
        have hb := HB.out
        generalize valD 0 (seg s.data.toList 1 k) = n at *
        have hle' : (n : Int) ≤ 9999999999999999 := by omega
        have hle0 : (0 : Int) ≤ n := by omega
        clear hb HB
        have hN := HN.out
        rw [if_pos rfl] at hN
        rw [hN] at HS
        clear hN HN
        cases hr : inR (-(n : Int))
        · have HR := Lib.hid hr
          rw [hr] at HS
          have hlt2 : ¬ ((k : Int) < s.size ∧ (k : Int) < 16) := by omega
          by_cases h1 : k < s.size
          · have h1' : (k : Int) < s.size := by omega
            have h2' : ¬ (k : Int) < 16 := by omega
            go_wp2_with (first
              | (go_at_call 76; (with_reducible refine (HI.out _ _).mono ?_); rintro e y ⟨rfl, rfl⟩))
            go_ret2
            exact ⟨by rw [HS.out]; rfl, Below.refl _ _⟩
          · have h1' : ¬ (k : Int) < s.size := by omega
            go_wp2_with (first
              | (go_at_call 76; (with_reducible refine (HI.out _ _).mono ?_); rintro e y ⟨rfl, rfl⟩))
            go_ret2
            exact ⟨by rw [HS.out]; rfl, Below.refl _ _⟩
        · have hr2 : -1099511627777 ≤ (-(n : Int)) ∧ (-(n : Int)) ≤ 1099511627777 := by simp [inR] at hr; omega
          rw [hr] at HS
          have HQ : Hid ((Lib.itoa (-(n : Int)) == s.data.toList) = ((baOf (Lib.itoa (-(n : Int)))).toList == s.toList)) := Lib.hid (by rw [toList_dat, toList_dat, baOf_data])
          rw [HQ.out] at HS
          have HD2 := Lib.hid (HD.out (-(n : Int)) hr2.1 hr2.2)
          clear HQ hr2
          by_cases h1 : k < s.size
          · have h1' : (k : Int) < s.size := by omega
            have h2' : ¬ (k : Int) < 16 := by omega
            go_wp2_with (first
              | (go_at_call 76; (with_reducible refine (HI.out _ _).mono ?_); rintro e y ⟨rfl, rfl⟩)
              | (go_at_call 53; (with_reducible refine (HD2.out _).mono ?_); rintro e y ⟨rfl, hb⟩))
            go_ret2
            exact ⟨by rw [HS.out]; rfl, hb⟩
          · have h1' : ¬ (k : Int) < s.size := by omega
            go_wp2_with (first
              | (go_at_call 76; (with_reducible refine (HI.out _ _).mono ?_); rintro e y ⟨rfl, rfl⟩)
              | (go_at_call 53; (with_reducible refine (HD2.out _).mono ?_); rintro e y ⟨rfl, hb⟩))
            go_ret2
            exact ⟨by rw [HS.out]; rfl, hb⟩
end Go.Proofs.YtchajbcmgdnpmaaGreatDoor
