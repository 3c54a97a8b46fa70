/-
  The examples of layer 2; the reference of words and names.
-/
import Derived.Test.YtpmppndhfljcpaaGreatDoorGh
namespace Go.Proofs.YtpmppndhfljcpaaGreatDoor
section
open Go.RowKit

abbrev lA : List Tv := tvL [97, 60, 61, 98, 46, 46, 99, 32, 45, 45, 32, 100] [(⟨1, [97], 0⟩, 0), (⟨5, [60, 61], 0⟩, 1), (⟨1, [98], 0⟩, 3), (⟨5, [46, 46], 0⟩, 4), (⟨1, [99], 0⟩, 6)]
abbrev lB : List Tv := tvL [39, 105, 116, 39, 39, 115, 39, 10, 32, 120, 49] [(⟨4, [105, 116, 39, 115], 0⟩, 0), (⟨1, [120, 49], 0⟩, 9)]
/-- What is read of the first row. -/
theorem factsA {w : World} {b off : Nat} (h : SlT w (some ⟨b, off, none⟩) lA) : w.cell? ⟨b, off + 6, none⟩ = some (.string ⟨#[60, 61]⟩) ∧ w.cell? ⟨b, off + 16, none⟩ = some (.string ⟨#[46, 46]⟩) ∧ w.cell? ⟨b, off + 21, none⟩ = some (.string ⟨#[99]⟩) ∧ b < w.heap.size := by
  obtain ⟨b', off', e, hlt, hc⟩ := h.opened rfl
  injection e with e
  injection e with e1 e2
  subst e1
  subst e2
  exact ⟨(hc 1 _ rfl).2.1, (hc 3 _ rfl).2.1, (hc 4 _ rfl).2.1, hlt⟩
theorem factsB {w : World} {b off : Nat} (h : SlT w (some ⟨b, off, none⟩) lB) : w.cell? ⟨b, off + 1, none⟩ = some (.string ⟨#[105, 116, 39, 115]⟩) ∧ w.cell? ⟨b, off + 8, none⟩ = some (.int .i64 2) ∧ w.cell? ⟨b, off + 9, none⟩ = some (.int .i64 2) ∧ b < w.heap.size := by
  obtain ⟨b', off', e, hlt, hc⟩ := h.opened rfl
  injection e with e
  injection e with e1 e2
  subst e1
  subst e2
  exact ⟨(hc 0 _ rfl).2.1, (hc 1 _ rfl).2.2.2.1, (hc 1 _ rfl).2.2.2.2, hlt⟩
theorem aw9 (b off cap : Nat) (w : World) (h : SlT w (some ⟨b, off, none⟩) lA) :
    Calls Tryz.prog 32 #[.slice (some ⟨b, off, none⟩) 5 cap, .slice (some ⟨b, off, none⟩) 5 cap] w fun e w' => e = .returned (.bool true) ∧ Below w.heap.size w w' := aw8 b off cap lA w (by decide) h
set_option maxRecDepth 100000 in
set_option maxHeartbeats 2000000 in
theorem lexAwake_ (w : World) (E : Env w) : Calls Tryz.prog 27 #[] w fun e w' => e = .returned (.bool true) ∧ Below w.heap.size w w' := by
  have HE := Lib.hid E
  clear E
  go_enter Tryz.func27, Tryz.ntmps27
  go_upto_region 2 with (first
    | (go_at_call 28; refine (aw1 _ HE.out).mono ?_; rintro e y1 ⟨b1, o1, c1, rfl, hS, hb⟩; have S1 := Lib.hid hS; have K1 := Lib.hid (((KG.refl w).below hb).push' y1.heap.size rfl (flC 0 ⟨#[]⟩ 0 0) 45); clear hS hb))
  go_upto_region 3 with (first
    | (go_at_call 28; refine (aw2 _ (HE.out.below K1.out.HB)).mono ?_; rintro e y2 ⟨b2, o2, c2, rfl, hS, hb⟩; have S2 := Lib.hid hS; have K2 := Lib.hid ((K1.out.below hb).push' y2.heap.size rfl (flC 0 ⟨#[]⟩ 0 0) 45); have S1b := Lib.hid ((S1.out.below (new1 _ _)).below hb); clear hS hb))
  go_upto_region 4 with (first
    | (go_at_call 31; refine (aw4 _ _ _ _ (HE.out.below K2.out.HB) (S2.out.below (new1 _ _))).mono ?_; rintro e y3 ⟨rfl, hb⟩; have S2b := Lib.hid ((S2.out.below (new1 _ _)).below hb); have K3 := Lib.hid (K2.out.below hb); have S1c := Lib.hid ((S1b.out.below (new1 _ _)).below hb); clear hb))
  clear K1 K2 S1 S1b S2
  go_wp2_with (first
    | (go_at_call 28; (with_reducible refine (aw3 _ (HE.out.below K3.out.HB)).mono ?_); rintro e y4 ⟨rfl, hb⟩; obtain ⟨p1, p2, p3, p4⟩ := factsA (S1c.out.below hb); obtain ⟨q1, q2, q3, q4⟩ := factsB (S2b.out.below hb);
        obtain ⟨r0, -, -, -, -, -, -, -, r1⟩ := (K3.out.below hb).q.1.1.open4; obtain ⟨r4, -, -, -, -, -, -, -, r5⟩ := (K3.out.below hb).q.2.1.1.open4; have K4 := Lib.hid ((K3.out.below hb).push' y4.heap.size rfl (flC 10 ⟨#[65]⟩ 1 2) 45); have S1d := Lib.hid ((S1c.out.below hb).below (new1 _ (.cells (flC 10 ⟨#[65]⟩ 1 2).toArray 45))); clear hb)
    | (go_at_call 36; (with_reducible refine (aw5 _).mono ?_); rintro e y5 ⟨rfl, hb⟩; have K5 := Lib.hid (K4.out.below hb); have S1e := Lib.hid (S1d.out.below hb); clear hb)
    | (go_at_call 38; (with_reducible refine (aw6 _).mono ?_); rintro e y6 ⟨rfl, hb⟩; have K6 := Lib.hid (K5.out.below hb); have S1f := Lib.hid (S1e.out.below hb); clear hb)
    | (go_at_call 38; (with_reducible refine (aw7 _).mono ?_); rintro e y7 ⟨rfl, hb⟩; have K7 := Lib.hid (K6.out.below hb); have S1g := Lib.hid (S1f.out.below hb); clear hb)
    | (go_at_call 32; (with_reducible refine (aw9 _ _ _ _ S1g.out).mono ?_); rintro e y8 ⟨rfl, hb⟩; have K8 := Lib.hid (K7.out.below hb); clear hb))
  go_ret
  exact ⟨rfl, K8.out.HB⟩
end
end Go.Proofs.YtpmppndhfljcpaaGreatDoor
namespace Go.Proofs.YtpmppndhfljcpaaGreatDoor
section
open Go.RowKit

theorem refSmall_ (c : UInt8) (w : World) : Calls Tryz.prog 93 #[.int .u8 c.toNat] w fun e w' => e = .returned (.bool (smallB c)) ∧ w = w' := by
  by_cases h : (97 : Int) ≤ c.toNat
  all_goals
    go_enter Tryz.func93, Tryz.ntmps93
    go_wp2
    go_ret
    refine ⟨ret_bool ?_, rfl⟩
    rw [Bool.eq_iff_iff]; simp [smallB]; omega
theorem refDigit_ (c : UInt8) (w : World) : Calls Tryz.prog 131 #[.int .u8 c.toNat] w fun e w' => e = .returned (.bool (digitB c)) ∧ w = w' := by
  by_cases h : (48 : Int) ≤ c.toNat
  all_goals
    go_enter Tryz.func131, Tryz.ntmps131
    go_wp2
    go_ret
    refine ⟨ret_bool ?_, rfl⟩
    rw [Bool.eq_iff_iff]; simp [digitB]; omega
theorem refNamed_ (c : UInt8) (w : World) : Calls Tryz.prog 139 #[.int .u8 c.toNat] w fun e w' => e = .returned (.bool (namedB c)) ∧ w = w' := by
  have HL := Lib.hid fun x => refSmall_ c x
  have HD := Lib.hid fun x => refDigit_ c x
  have HN : Hid (namedB c = (smallB c || digitB c || c.toNat == 95)) := Lib.hid rfl
  cases h1 : smallB c
  · cases h2 : digitB c
    all_goals
      rw [h1, h2] at HN
      rw [h1] at HL
      rw [h2] at HD
      go_enter Tryz.func139, Tryz.ntmps139
      go_wp2_with (first
        | (go_at_call 93; (with_reducible refine (HL.out _).mono ?_); rintro e y ⟨rfl, rfl⟩)
        | (go_at_call 131; (with_reducible refine (HD.out _).mono ?_); rintro e y ⟨rfl, rfl⟩))
      go_ret
      refine ⟨ret_bool ?_, rfl⟩
      rw [HN.out]
      first | (simp; done) | (rw [Bool.eq_iff_iff]; simp; omega)
  · rw [h1] at HN HL
    go_enter Tryz.func139, Tryz.ntmps139
    go_wp2_with (first
      | (go_at_call 93; (with_reducible refine (HL.out _).mono ?_); rintro e y ⟨rfl, rfl⟩))
    go_ret
    exact ⟨ret_bool (by rw [HN.out]; rfl), rfl⟩
theorem all_take_step (p : UInt8 → Bool) (l : Bs) (k : Nat) (hk : k < l.length) (h : (l.take k).all p = true) : (l.take (k + 1)).all p = p l[k] := by
  rw [List.take_succ_eq_append_getElem hk, List.all_append, h]
  simp
theorem all_no (p : UInt8 → Bool) (l : Bs) (k : Nat) (hk : k < l.length) (h : p l[k] = false) : l.all p = false := by
  rw [List.all_eq_false]
  exact ⟨l[k], List.getElem_mem hk, by simp [h]⟩
theorem shapedB_no {l : Bs} (h : l.all namedB = false) : shapedB l = false := by
  cases l with
  | nil => rfl
  | cons c r => show (smallB c && (c :: r).all namedB) = false; rw [h]; simp
set_option maxRecDepth 100000 in
set_option maxHeartbeats 1000000 in
theorem refShaped_ (s : ByteArray) (w : World) (hs : s.size ≤ maxLen) : Calls Tryz.prog 97 #[.string s] w fun e w' => e = .returned (.bool (shapedB s.data.toList)) ∧ Below w.heap.size w w' := by
  unfold maxLen at hs
  have HSZ : Hid (s.data.toList.length = s.size) := Lib.hid (by simp)
  go_enter Tryz.func97, Tryz.ntmps97
  go_wp2_with fail
  go_loopw [3] (fun i x => ∃ k : Nat, k ≤ s.size ∧ i = .int .i64 k ∧ (s.data.toList.take k).all namedB = true ∧ Below w.heap.size w x) (fun i x => s.size - (intOf i).toNat)
  case atStart => exact ⟨0, Nat.zero_le _, rfl, rfl, Below.refl _ _⟩
  case round =>
    obtain ⟨k, hk, rfl, hA, hB⟩ := hrel
    have HA := Lib.hid hA
    have HB := Lib.hid hB
    clear hA hB
    by_cases hlt : k < s.size
    · have hkl : k < s.data.toList.length := by rw [HSZ.out]; exact hlt
      have HE : Hid (s.data.toList[k] = s[k]) := Lib.hid (by rfl)
      have HC := Lib.hid fun x => refNamed_ s[k] x
      have HT := Lib.hid (all_take_step namedB s.data.toList k hkl HA.out)
      cases hn : namedB s[k]
      all_goals rw [hn] at HC
      all_goals go_wp2_with (first
        | (go_at_call 139; (with_reducible refine (HC.out _).mono ?_); rintro e y ⟨rfl, rfl⟩))
      · go_ret
        exact ⟨ret_bool (shapedB_no (all_no namedB _ k hkl (by rw [HE.out]; exact hn))).symm, HB.out⟩
      · go_roundw
        case rel => exact ⟨k + 1, by omega, by go_num, by rw [HT.out, HE.out]; exact hn, HB.out⟩
        case measure => simp [intOf]; omega
    · have HAll : Hid (s.data.toList.all namedB = true) := Lib.hid (by have := HA.out; rwa [List.take_of_length_le (by rw [HSZ.out]; omega)] at this)
      by_cases h0 : s.size = 0
      · have HD : Hid (s.data.toList = []) := Lib.hid (List.eq_nil_of_length_eq_zero (by rw [HSZ.out]; exact h0))
        have hne : s.toList.isEmpty = true := by rw [toList_dat, HD.out]; rfl
        go_wp2_with fail
        go_ret
        exact ⟨ret_bool (by rw [HD.out]; rfl), HB.out⟩
      · obtain ⟨c, r, hcr, hpos, hc⟩ := ne_emp h0
        have HCR := Lib.hid hcr
        have hne : s.toList.isEmpty = false := by rw [toList_dat, hcr]; rfl
        have HC := Lib.hid fun x => refSmall_ c x
        clear hcr
        go_wp2_with (first
          | (go_at_call 93; (with_reducible refine (HC.out _).mono ?_); rintro e y ⟨rfl, rfl⟩))
        go_ret
        refine ⟨ret_bool ?_, HB.out⟩
        rw [HCR.out]
        show smallB c = (smallB c && (c :: r).all namedB)
        rw [← HCR.out, HAll.out, Bool.and_true]
end
end Go.Proofs.YtpmppndhfljcpaaGreatDoor
namespace Go.Proofs.YtpmppndhfljcpaaGreatDoor
section
open Go.RowKit

theorem infix_at {p l : Bs} : p <:+: l ↔ ∃ j, j + p.length ≤ l.length ∧ (l.drop j).take p.length = p := by
  constructor
  · rintro ⟨a, b, rfl⟩
    refine ⟨a.length, by simp, ?_⟩
    rw [List.append_assoc, List.drop_left, List.take_left]
  · rintro ⟨j, _, h⟩
    refine ⟨l.take j, (l.drop j).drop p.length, ?_⟩
    have h1 : l.take j ++ l.drop j = l := List.take_append_drop j l
    have h2 : (l.drop j).take p.length ++ (l.drop j).drop p.length = l.drop j := List.take_append_drop _ _
    rw [h] at h2
    rw [List.append_assoc, h2, h1]
set_option maxRecDepth 100000 in
set_option maxHeartbeats 1000000 in
theorem refWord_ (s : ByteArray) (w : World) (hs : s.size ≤ 4000000) : Calls Tryz.prog 37 #[.string s] w fun e w' => e = .returned (.bool (memB words s.data.toList)) ∧ Below w.heap.size w w' := by
  have HSZ : Hid (s.data.toList.length = s.size) := Lib.hid (by simp)
  by_cases h0 : s.size = 0
  · have HD : Hid (s.data.toList = []) := Lib.hid (List.eq_nil_of_length_eq_zero (by rw [HSZ.out]; exact h0))
    have hne : s.toList.isEmpty = true := by rw [toList_dat, HD.out]; rfl
    go_enter Tryz.func37, Tryz.ntmps37
    go_wp2_with fail
    go_ret
    exact ⟨ret_bool (by rw [HD.out]; kernel_rfl), Below.refl _ _⟩
  have HNE : Hid (s.data.toList ≠ []) := Lib.hid (by obtain ⟨c, r, hcr, -⟩ := ne_emp h0; rw [hcr]; simp)
  have hne : s.toList.isEmpty = false := by obtain ⟨c, r, hcr, -⟩ := ne_emp h0; rw [toList_dat, hcr]; rfl
  go_enter Tryz.func37, Tryz.ntmps37
  go_wp2_with fail
  clear hne
  go_loopw [3] (fun i x => ∃ k : Nat, k ≤ s.size ∧ i = .int .i64 k ∧ (s.data.toList.take k).all smallB = true ∧ Below w.heap.size w x) (fun i x => s.size - (intOf i).toNat)
  case atStart => exact ⟨0, Nat.zero_le _, rfl, rfl, Below.refl _ _⟩
  case round =>
    obtain ⟨k, hk, rfl, hA, hB⟩ := hrel
    have HA := Lib.hid hA
    have HB := Lib.hid hB
    clear hA hB
    by_cases hlt : k < s.size
    · have hkl : k < s.data.toList.length := by rw [HSZ.out]; exact hlt
      have HE : Hid (s.data.toList[k] = s[k]) := Lib.hid (by rfl)
      have HC := Lib.hid fun x => refSmall_ s[k] x
      have HT := Lib.hid (all_take_step smallB s.data.toList k hkl HA.out)
      cases hn : smallB s[k]
      all_goals rw [hn] at HC
      all_goals go_wp2_with (first
        | (go_at_call 93; (with_reducible refine (HC.out _).mono ?_); rintro e y ⟨rfl, rfl⟩))
      · go_ret
        refine ⟨ret_bool (Eq.symm ?_), HB.out⟩
        rw [Bool.eq_false_iff]
        intro hm
        have h1 := words_small s.data.toList (List.contains_iff_mem.1 hm)
        rw [all_no smallB _ k hkl (by rw [HE.out]; exact hn)] at h1
        cases h1
      · go_roundw
        case rel => exact ⟨k + 1, by omega, by go_num, by rw [HT.out, HE.out]; exact hn, HB.out⟩
        case measure => simp [intOf]; omega
    · have HAll : Hid (s.data.toList.all smallB = true) := Lib.hid (by have := HA.out; rwa [List.take_of_length_le (by rw [HSZ.out]; omega)] at this)
      go_wp2_with fail
      generalize hV : ({ data := (List.append _ _).toArray } : ByteArray) = V
      generalize hD : (({ data := #[32] } : ByteArray) ++ s ++ ({ data := #[32] } : ByteArray)) = D
      have HV : Hid (V.data.toList = wordRow) := Lib.hid (by rw [← hV]; kernel_rfl)
      have HVs : V.size = 662 := by rw [← hV]; kernel_rfl
      have HD : Hid (D.data.toList = 32 :: (s.data.toList ++ [32])) := Lib.hid (by rw [← hD, ByteArray.data_append, ByteArray.data_append, Array.toList_append, Array.toList_append]; rfl)
      have HVl : Hid (wordRow.length = 662) := Lib.hid (by kernel_rfl)
      have HDl : Hid (D.data.toList.length = D.size) := Lib.hid (by show D.data.toList.length = D.data.size; exact Array.length_toList)
      have hDs : D.size ≤ 4000002 := by rw [← HDl.out, HD.out, List.length_cons, List.length_append, HSZ.out]; simp only [List.length_cons, List.length_nil]; omega
      clear hV hD
      go_loopw [4] (fun i x => ∃ j : Nat, j ≤ 663 ∧ i = .int .i64 j ∧ (∀ q, q < j → ¬ (wordRow.drop q).take D.size = D.data.toList) ∧ Below w.heap.size w x) (fun i x => 700 - (intOf i).toNat)
      case atStart => exact ⟨0, Nat.zero_le _, rfl, fun q h => absurd h (Nat.not_lt_zero q), HB.out⟩
      case round =>
        clear HB
        obtain ⟨j, hj, rfl, hQ, hB⟩ := hrel
        have HQ := Lib.hid hQ
        have HB := Lib.hid hB
        clear hQ hB
        by_cases hle : j + D.size ≤ 662
        · have hle' : (j : Int) + D.size ≤ 662 := by omega
          cases heq : (V.extract j (j + D.size)).toList == D.toList
          all_goals go_wp2_with fail
          · go_roundw
            case rel =>
              refine ⟨j + 1, by omega, by go_num, fun q hq => ?_, HB.out⟩
              rcases Nat.lt_or_ge q j with h | h
              · exact HQ.out q h
              · obtain rfl : q = j := by omega
                intro e
                rw [beq_eq_false_iff_ne, toList_dat, toList_dat, ext_data, HV.out] at heq
                exact heq e
            case measure => simp [intOf]; omega
          · go_ret
            refine ⟨ret_bool (Eq.symm ?_), HB.out⟩
            show words.contains s.data.toList = true
            rw [beq_iff_eq, toList_dat, toList_dat, ext_data, HV.out] at heq
            rw [← words_row _ HAll.out HNE.out, ← HD.out]
            exact infix_at.2 ⟨j, by rw [HDl.out]; show _ ≤ wordRow.length; rw [HVl.out]; omega, by rw [HDl.out]; exact heq⟩
        · go_wp2_with fail
          go_ret
          refine ⟨ret_bool (Eq.symm ?_), HB.out⟩
          rw [Bool.eq_false_iff]
          intro hm
          have hm' : words.contains s.data.toList = true := hm
          rw [← words_row _ HAll.out HNE.out, ← HD.out] at hm'
          obtain ⟨q, h1, h2⟩ := infix_at.1 hm'
          rw [HDl.out] at h1 h2
          have h3 : q + D.size ≤ 662 := by rw [← HVl.out]; exact h1
          exact HQ.out q (by omega) h2
end
end Go.Proofs.YtpmppndhfljcpaaGreatDoor
namespace Go.Proofs.YtpmppndhfljcpaaGreatDoor
section
open Go.RowKit

set_option maxRecDepth 100000 in
set_option maxHeartbeats 1000000 in
theorem refName_ (s : ByteArray) (w : World) (hs : s.size ≤ 4000000) : Calls Tryz.prog 39 #[.string s] w fun e w' => e = .returned (.bool (isNameB s.data.toList)) ∧ Below w.heap.size w w' := by
  have HSZ : Hid (s.data.toList.length = s.size) := Lib.hid (by simp)
  have HN : Hid (isNameB s.data.toList = (shapedB s.data.toList && decide (s.data.toList.length ≤ 30) && !memB words s.data.toList)) := Lib.hid rfl
  have HC := Lib.hid fun x => refShaped_ s x (by unfold maxLen; omega)
  have HW := Lib.hid fun x => refWord_ s x hs
  cases h1 : shapedB s.data.toList
  · rw [h1] at HN HC
    go_enter Tryz.func39, Tryz.ntmps39
    go_wp2_with (first
      | (go_at_call 97; (with_reducible refine (HC.out _).mono ?_); rintro e y ⟨rfl, hb⟩; have HB := Lib.hid hb; clear hb))
    go_ret
    exact ⟨ret_bool (by rw [HN.out]; rfl), HB.out⟩
  by_cases h2 : (s.size : Int) ≤ 30
  · have hd : decide (s.data.toList.length ≤ 30) = true := by rw [HSZ.out]; simp; omega
    rw [h1, hd] at HN
    rw [h1] at HC
    clear hd
    cases h3 : memB words s.data.toList
    all_goals
      rw [h3] at HN HW
      go_enter Tryz.func39, Tryz.ntmps39
      go_wp2_with (first
        | (go_at_call 97; (with_reducible refine (HC.out _).mono ?_); rintro e y ⟨rfl, hb⟩; have HB := Lib.hid hb; clear hb)
        | (go_at_call 37; (with_reducible refine (HW.out _).mono ?_); rintro e y ⟨rfl, hb⟩; have HB2 := Lib.hid (HB.out.trans (hb.mono HB.out.size)); clear hb))
      go_ret
      exact ⟨ret_bool (by rw [HN.out]; rfl), HB2.out⟩
  · have hd : decide (s.data.toList.length ≤ 30) = false := by rw [HSZ.out]; simp; omega
    rw [h1, hd] at HN
    rw [h1] at HC
    clear hd
    go_enter Tryz.func39, Tryz.ntmps39
    go_wp2_with (first
      | (go_at_call 97; (with_reducible refine (HC.out _).mono ?_); rintro e y ⟨rfl, hb⟩; have HB := Lib.hid hb; clear hb))
    go_ret
    exact ⟨ret_bool (by rw [HN.out]; rfl), HB.out⟩
set_option maxRecDepth 100000 in
set_option maxHeartbeats 1000000 in
theorem lexWords_ (s : ByteArray) (w : World) (E : Env w) : Calls Tryz.prog 8 #[.string s] w fun e w' => e = .returned (.bool true) ∧ Below w.heap.size w w' := by
  have HE := Lib.hid E
  have HAw := Lib.hid fun x hx => lexAwake_ x hx
  clear E
  by_cases hs : (1000 : Int) < s.size
  · go_enter Tryz.func8, Tryz.ntmps8
    go_wp2_with (first
      | (go_at_call 27; (with_reducible refine (HAw.out _ HE.out).mono ?_); rintro e y ⟨rfl, hb⟩; have HB := Lib.hid hb; clear hb))
    go_ret
    exact ⟨rfl, HB.out⟩
  · have hs2 : s.size ≤ 4000000 := by omega
    have HW := Lib.hid fun x => word_ s x
    have HRW := Lib.hid fun x => refWord_ s x hs2
    have HN := Lib.hid fun x => nameL_ s x
    have HRN := Lib.hid fun x => refName_ s x hs2
    cases h1 : memB words s.data.toList <;> cases h2 : isNameB s.data.toList
    all_goals
      rw [h1] at HW HRW
      rw [h2] at HN HRN
      go_enter Tryz.func8, Tryz.ntmps8
      go_wp2_with (first
        | (go_at_call 36; (with_reducible refine (HW.out _).mono ?_); rintro e y1 ⟨rfl, hb⟩; have B1 := Lib.hid hb; clear hb)
        | (go_at_call 37; (with_reducible refine (HRW.out _).mono ?_); rintro e y2 ⟨rfl, hb⟩; have B2 := Lib.hid (B1.out.trans (hb.mono B1.out.size)); clear hb)
        | (go_at_call 38; (with_reducible refine (HN.out _).mono ?_); rintro e y3 ⟨rfl, hb⟩; have B3 := Lib.hid (B2.out.trans (hb.mono B2.out.size)); clear hb)
        | (go_at_call 39; (with_reducible refine (HRN.out _).mono ?_); rintro e y4 ⟨rfl, hb⟩; have B4 := Lib.hid (B3.out.trans (hb.mono B3.out.size)); clear hb)
        | (go_at_call 27; (with_reducible refine (HAw.out _ (HE.out.below B4.out)).mono ?_); rintro e y5 ⟨rfl, hb⟩; have B5 := Lib.hid (B4.out.trans (hb.mono B4.out.size)); clear hb))
      go_ret
      exact ⟨rfl, B5.out⟩
end
end Go.Proofs.YtpmppndhfljcpaaGreatDoor
