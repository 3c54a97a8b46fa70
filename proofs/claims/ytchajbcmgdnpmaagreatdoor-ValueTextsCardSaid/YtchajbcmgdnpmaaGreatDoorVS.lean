/-
  The reference's Parse: a string in quotation marks; an integer; all.
-/
import Derived.Test.YtchajbcmgdnpmaaGreatDoorVR
namespace Go.Proofs.YtchajbcmgdnpmaaGreatDoor
open Go.RowKit

set_option maxRecDepth 100000 in
set_option maxHeartbeats 2000000 in
theorem refParse_int (s : ByteArray) (hs : s.size ≤ 4000000) (w : World) (n1 : (s.toList == [110, 117, 108, 108]) = false) (n2 : (s.toList == [116, 114, 117, 101]) = false) (n3 : (s.toList == [102, 97, 108, 115, 101]) = false)
    (h4 : s.size ≤ 1 ∨ ∃ h0 : 1 < s.size, s[0] ≠ 39) : Calls Tryz.prog 19 #[.string s] w fun e w' => e = .returned (two (if (wholeS s.data.toList).2 = true then (intV (wholeS s.data.toList).1, 0) else (nulV, 30))) ∧ Below w.heap.size w w' := by
  have HW := Lib.hid fun x => refWhole_ s x hs
  have HWS : Hid ((wholeS s.data.toList).2 = true → inR (wholeS s.data.toList).1 = true ∧ baOf (Lib.itoa (wholeS s.data.toList).1) = s) := Lib.hid (by
    unfold wholeS
    split
    · intro h
      simp only [Bool.and_eq_true, beq_iff_eq] at h
      exact ⟨h.1, by rw [h.2, baOf_of]⟩
    · intro h; cases h)
  obtain ⟨⟨n, b⟩, hq⟩ : ∃ r, wholeS s.data.toList = r := ⟨_, rfl⟩
  rw [hq] at HW HWS
  rw [hq]
  clear hq
  simp only at HW HWS ⊢
  have hc : (1 < s.size ∧ ∃ h0 : 0 < s.size, ((s[0].toNat : Int) == 39) = false) ∨ s.size ≤ 1 := by
    rcases h4 with h | ⟨h, h39⟩
    · exact .inr h
    · refine .inl ⟨h, by omega, ?_⟩
      rw [show (39 : Int) = (((39 : UInt8).toNat : Nat) : Int) from rfl, byte_eq', beq_eq_false_iff_ne]
      exact h39
  clear h4
  cases b
  · rw [if_neg (by decide)]
    rcases hc with ⟨h1, hp, h39⟩ | h1
    · have h1' : (2 : Int) ≤ s.size := by omega
      have hp' : (0 : Int) < s.size := by omega
      go_enter Tryz.func19, Tryz.ntmps19
      go_wp2_with (first
        | (go_at_call 56; (with_reducible refine (HW.out _).mono ?_); rintro e y ⟨rfl, hb⟩; have K := Lib.hid (KL.below (two_new w) hb); clear hb; obtain ⟨HB, ⟨v0, v1, v2, f0, f1, f2, vl⟩, ⟨r0, r1, r2, g0, g1, g2, rl⟩, -⟩ := K.out))
      (try simp only [Exit.inBlock, Exit.then])
      exact ret_two rfl rfl K.out.q.2.1 rfl ⟨by rfl, set3 HB _ (Nat.le_refl _) _ _ _⟩
    · have h1' : ¬ (2 : Int) ≤ s.size := by omega
      go_enter Tryz.func19, Tryz.ntmps19
      go_wp2_with (first
        | (go_at_call 56; (with_reducible refine (HW.out _).mono ?_); rintro e y ⟨rfl, hb⟩; have K := Lib.hid (KL.below (two_new w) hb); clear hb; obtain ⟨HB, ⟨v0, v1, v2, f0, f1, f2, vl⟩, ⟨r0, r1, r2, g0, g1, g2, rl⟩, -⟩ := K.out))
      (try simp only [Exit.inBlock, Exit.then])
      exact ret_two rfl rfl K.out.q.2.1 rfl ⟨by rfl, set3 HB _ (Nat.le_refl _) _ _ _⟩
  · rw [if_pos rfl]
    obtain ⟨hr, hs2⟩ := HWS.out rfl
    have HX := Lib.hid fun x => refTextV_ ⟨1, n, ⟨#[]⟩⟩ x (Nat.zero_le _)
    rw [show txtS ⟨1, n, ⟨#[]⟩⟩ = _ from txt_int n hr, hs2] at HX
    have HIn := Lib.hid fun x => ref_int n x
    clear HWS hr hs2
    rcases hc with ⟨h1, hp, h39⟩ | h1
    · have h1' : (2 : Int) ≤ s.size := by omega
      have hp' : (0 : Int) < s.size := by omega
      go_enter Tryz.func19, Tryz.ntmps19
      go_wp2_with (first
        | (go_at_call 56; (with_reducible refine (HW.out _).mono ?_); rintro e y ⟨rfl, hb⟩; have K0 := Lib.hid (KL.below (two_new w) hb); clear hb; obtain ⟨HB, ⟨v0, v1, v2, f0, f1, f2, vl⟩, ⟨r0, r1, r2, g0, g1, g2, rl⟩, -⟩ := K0.out)
        | (go_at_call 25; (with_reducible refine (HIn.out _).mono ?_); rintro e y1 ⟨rfl, hb⟩; have K := Lib.hid ((KL.below K0.out hb).set (by omega) (by simp) (.int .i64 1) (.int .i64 n) (.string ⟨#[]⟩)); have K1 := Lib.hid (KL.below K0.out hb); clear hb; obtain ⟨HB1, ⟨v0, v1, v2, f0, f1, f2, vl⟩, ⟨r0, r1, r2, g0, g1, g2, rl⟩, -⟩ := K1.out)
        | (go_at_call 17; (with_reducible refine (HX.out _).mono ?_); rintro e y2 ⟨rfl, hb⟩; have K2 := Lib.hid (KL.below K.out hb); clear hb; obtain ⟨HB, ⟨v0, v1, v2, f0, f1, f2, vl⟩, ⟨r0, r1, r2, g0, g1, g2, rl⟩, -⟩ := K2.out))
      (try simp only [Exit.inBlock, Exit.then])
      exact ret_two rfl rfl K2.out.q.2.1 rfl ⟨by rfl, set3 HB _ (Nat.le_refl _) _ _ _⟩
    · have h1' : ¬ (2 : Int) ≤ s.size := by omega
      go_enter Tryz.func19, Tryz.ntmps19
      go_wp2_with (first
        | (go_at_call 56; (with_reducible refine (HW.out _).mono ?_); rintro e y ⟨rfl, hb⟩; have K0 := Lib.hid (KL.below (two_new w) hb); clear hb; obtain ⟨HB, ⟨v0, v1, v2, f0, f1, f2, vl⟩, ⟨r0, r1, r2, g0, g1, g2, rl⟩, -⟩ := K0.out)
        | (go_at_call 25; (with_reducible refine (HIn.out _).mono ?_); rintro e y1 ⟨rfl, hb⟩; have K := Lib.hid ((KL.below K0.out hb).set (by omega) (by simp) (.int .i64 1) (.int .i64 n) (.string ⟨#[]⟩)); have K1 := Lib.hid (KL.below K0.out hb); clear hb; obtain ⟨HB1, ⟨v0, v1, v2, f0, f1, f2, vl⟩, ⟨r0, r1, r2, g0, g1, g2, rl⟩, -⟩ := K1.out)
        | (go_at_call 17; (with_reducible refine (HX.out _).mono ?_); rintro e y2 ⟨rfl, hb⟩; have K2 := Lib.hid (KL.below K.out hb); clear hb; obtain ⟨HB, ⟨v0, v1, v2, f0, f1, f2, vl⟩, ⟨r0, r1, r2, g0, g1, g2, rl⟩, -⟩ := K2.out))
      (try simp only [Exit.inBlock, Exit.then])
      exact ret_two rfl rfl K2.out.q.2.1 rfl ⟨by rfl, set3 HB _ (Nat.le_refl _) _ _ _⟩
set_option maxRecDepth 100000 in
set_option maxHeartbeats 2000000 in
theorem refParse_quo (s : ByteArray) (hs : s.size ≤ 4000000) (w : World) (n1 : (s.toList == [110, 117, 108, 108]) = false) (n2 : (s.toList == [116, 114, 117, 101]) = false) (n3 : (s.toList == [102, 97, 108, 115, 101]) = false)
    (h1 : 1 < s.size) (h39 : s[0] = 39) : Calls Tryz.prog 19 #[.string s] w fun e w' => e = .returned (two (if (txtS (txtV (baOf (hB (s.extract 1 (s.size - 1)).data.toList)))).2 = 0 ∧ (txtS (txtV (baOf (hB (s.extract 1 (s.size - 1)).data.toList)))).1 = s then (txtV (baOf (hB (s.extract 1 (s.size - 1)).data.toList)), 0) else (nulV, 30))) ∧ Below w.heap.size w w' := by
  obtain ⟨M, hM⟩ : ∃ M, (s.extract 1 (s.size - 1)).data.toList = M := ⟨_, rfl⟩
  have hML : M.length = s.size - 2 := by rw [← hM]; simp; omega
  have HMG : Hid (∀ k, 1 ≤ k → ∀ h : k < s.size - 1, M.drop (k - 1) = s[k] :: M.drop k) := Lib.hid (by
    intro k hk h
    obtain ⟨j, rfl⟩ : ∃ j, k = j + 1 := ⟨k - 1, by omega⟩
    have hl : j < M.length := by omega
    rw [Nat.add_sub_cancel, List.drop_eq_getElem_cons hl]
    congr 1
    subst hM
    have e : s[j + 1] = s.data.toList[j + 1]'(by simp; omega) := rfl
    rw [e]
    simp only [Lib.extract_data, List.getElem_take, List.getElem_drop]
    congr 1
    omega)
  have HMD : Hid (∀ k, s.size - 1 ≤ k → M.drop (k - 1) = []) := Lib.hid fun k hk => List.drop_of_length_le (by omega)
  rw [hM]
  clear hM hML
  obtain ⟨u, hu⟩ : ∃ u, baOf (hB M) = u := ⟨_, rfl⟩
  have HU := Lib.hid hu
  rw [hu]
  have HSt := Lib.hid fun x => ref_string u x
  have HX := Lib.hid fun (hm : u.size ≤ maxLen) x => refTextV_ ⟨2, 0, u⟩ x hm
  obtain ⟨⟨t, e⟩, ht⟩ : ∃ r, txtS (txtV u) = r := ⟨_, rfl⟩
  rw [show txtS ⟨2, 0, u⟩ = _ from ht] at HX
  rw [ht]
  simp only at HX ⊢
  clear ht hu
  obtain ⟨res, hres⟩ : ∃ r, (if e = 0 ∧ t = s then (txtV u, 0) else (nulV, 30) : Va × Int) = r := ⟨_, rfl⟩
  have HR := Lib.hid hres
  rw [hres]
  clear hres
  have t3 : ((s[0].toNat : Int) == 39) = true := byte39 h39
  have h1' : (2 : Int) ≤ s.size := by omega
  have hp' : (0 : Int) < s.size := by omega
  clear h39
  go_enter Tryz.func19, Tryz.ntmps19
  go_wp2_with fail
  go_loopw [5, 6] (fun b i x => ∃ k : Nat, ∃ B, 1 ≤ k ∧ k ≤ s.size ∧ i = .int .i64 k ∧ OwnB (w.heap.size + 2) x b B ∧ B ++ hB (M.drop (k - 1)) = hB M ∧ B.length ≤ k ∧ KL w x [(w.heap.size + 1, .int .i64 0, .int .i64 0, .string ⟨#[]⟩), (w.heap.size, .int .i64 0, .int .i64 0, .string ⟨#[]⟩)]) (fun b i x => s.size - (intOf i).toNat)
  case atStart => exact ⟨1, [], Nat.le_refl _, by omega, rfl, OwnB.nil _ _, rfl, Nat.zero_le _, two_new w⟩
  case round =>
    obtain ⟨k, B, hk1, hk, rfl, hO, hE, hBl, hK⟩ := hrel
    have HO := Lib.hid hO
    have HE := Lib.hid hE
    have K := Lib.hid hK
    clear hO hE hK
    obtain ⟨a0, c0, rfl⟩ := HO.out.form
    by_cases hlt : k < s.size - 1
    · have hlI : (k : Int) < (s.size : Int) - 1 := by omega
      have hkI : (k : Int) < s.size := by omega
      have hks : k < s.size := by omega
      have HG := Lib.hid (HMG.out k hk1 hlt)
      have hsz := K.out.HB.size
      have hsz2 := K.out.q.1.lt
      by_cases hq : s[k] = 39
      · have hq' := is39q (c := s[k]) (by simpa using hq)
        have HQ := Lib.hid hq
        clear hq
        go_wp2_with (first
          | (at_builtin; refine wpList_append_byte rfl (.tmp 50) (.tmp 54) rfl (w.heap.size + 2) _ B rfl (HO.out.below (new1 _ _)) wr.heap.size s[k] rfl (new1_cell _ _ _) (by omega) (by simp; omega) ?_))
        intro v1 w1 ho1 hg1
        have HO1 := Lib.hid ho1
        have K1 := Lib.hid ((K.out.alloc _).grownOwn hg1 (fun j hj => by have := HO.out.lt j hj; omega) (fun j hj q hq => by have := HO.out.lt j hj; simp only [List.mem_cons, List.not_mem_nil, or_false] at hq; rcases hq with rfl | rfl <;> simp <;> omega))
        clear ho1 hg1
        go_wp2_with fail
        go_roundw
        case rel =>
          refine ⟨k + 2, B ++ [s[k]], by omega, by omega, by go_num, HO1.out, ?_, by simp; omega, K1.out⟩
          rw [← HE.out, HG.out, hB_cons, if_pos (by rw [HQ.out]; rfl), List.tail_drop, show k + 2 - 1 = k + 1 by omega]
          simp
        case measure => simp [intOf]; omega
      · have hq' := not39q (c := s[k]) (by simpa using hq)
        have HQ := Lib.hid hq
        clear hq
        go_wp2_with (first
          | (at_builtin; refine wpList_append_byte rfl (.tmp 50) (.tmp 54) rfl (w.heap.size + 2) _ B rfl (HO.out.below (new1 _ _)) wr.heap.size s[k] rfl (new1_cell _ _ _) (by omega) (by simp; omega) ?_))
        intro v1 w1 ho1 hg1
        have HO1 := Lib.hid ho1
        have K1 := Lib.hid ((K.out.alloc _).grownOwn hg1 (fun j hj => by have := HO.out.lt j hj; omega) (fun j hj q hq => by have := HO.out.lt j hj; simp only [List.mem_cons, List.not_mem_nil, or_false] at hq; rcases hq with rfl | rfl <;> simp <;> omega))
        clear ho1 hg1
        go_wp2_with fail
        go_roundw
        case rel =>
          refine ⟨k + 1, B ++ [s[k]], by omega, by omega, by go_num, HO1.out, ?_, by simp; omega, K1.out⟩
          rw [← HE.out, HG.out, hB_cons, if_neg (by simpa using HQ.out), show k + 1 - 1 = k by omega]
          simp
        case measure => simp [intOf]; omega
    · have hlI : ¬ (k : Int) < (s.size : Int) - 1 := by omega
      have hBE : B = hB M := by
        have := HE.out
        rw [HMD.out k (by omega)] at this
        rw [← this]
        simp [hB]
      have HBU : Hid (baOf B = u) := Lib.hid (by rw [hBE]; exact HU.out)
      have hum : u.size ≤ maxLen := by rw [← HBU.out, baOf_size]; simp only [maxLen]; omega
      clear hBE hlt
      have hsz := K.out.HB.size
      have hsz2 := K.out.q.1.lt
      go_wp2_with fail
      rw [run_string_own HO.out, HBU.out]
      by_cases he : e = 0
      · by_cases hts : t = s
        · rw [if_pos ⟨he, hts⟩] at HR
          subst he hts
          have hne : (t.toList == t.toList) = true := by simp
          go_wp2_with (first
            | (go_at_call 26; (with_reducible refine (HSt.out _).mono ?_); rintro e y1 ⟨rfl, hb⟩; have K1 := Lib.hid ((KL.below K.out hb).set (by omega) (by simp) (.int .i64 2) (.int .i64 0) (.string u)); have K0 := Lib.hid (KL.below K.out hb); clear hb; obtain ⟨HB0, ⟨v0, v1, v2, f0, f1, f2, vl⟩, ⟨r0, r1, r2, g0, g1, g2, rl⟩, -⟩ := K0.out)
            | (go_at_call 17; (with_reducible refine (HX.out hum _).mono ?_); rintro e y2 ⟨rfl, hb⟩; have K3 := Lib.hid (KL.below K1.out hb); clear hb; obtain ⟨HB, ⟨v0, v1, v2, f0, f1, f2, vl⟩, ⟨r0, r1, r2, g0, g1, g2, rl⟩, -⟩ := K3.out))
          (try simp only [Exit.inBlock, Exit.then])
          exact ret_two rfl rfl K3.out.q.2.1 rfl ⟨by rw [← HR.out]; rfl, set3 HB _ (Nat.le_refl _) _ _ _⟩
        · rw [if_neg (fun x => hts x.2)] at HR
          subst he
          have hne : (t.toList == s.toList) = false := by
            rw [beq_eq_false_iff_ne]
            intro e
            exact hts (ba_ext (by rw [← toList_dat, ← toList_dat]; exact e))
          clear hts
          go_wp2_with (first
            | (go_at_call 26; (with_reducible refine (HSt.out _).mono ?_); rintro e y1 ⟨rfl, hb⟩; have K1 := Lib.hid ((KL.below K.out hb).set (by omega) (by simp) (.int .i64 2) (.int .i64 0) (.string u)); have K0 := Lib.hid (KL.below K.out hb); clear hb; obtain ⟨HB0, ⟨v0, v1, v2, f0, f1, f2, vl⟩, ⟨r0, r1, r2, g0, g1, g2, rl⟩, -⟩ := K0.out)
            | (go_at_call 17; (with_reducible refine (HX.out hum _).mono ?_); rintro e y2 ⟨rfl, hb⟩; have K3 := Lib.hid (KL.below K1.out hb); clear hb; obtain ⟨HB, ⟨v0, v1, v2, f0, f1, f2, vl⟩, ⟨r0, r1, r2, g0, g1, g2, rl⟩, -⟩ := K3.out))
          (try simp only [Exit.inBlock, Exit.then])
          exact ret_two rfl rfl K3.out.q.2.1 rfl ⟨by rw [← HR.out]; rfl, set3 HB _ (Nat.le_refl _) _ _ _⟩
      · rw [if_neg (fun x => he x.1)] at HR
        have hne : (e != 0) = true := by simpa using he
        clear he
        go_wp2_with (first
          | (go_at_call 26; (with_reducible refine (HSt.out _).mono ?_); rintro e y1 ⟨rfl, hb⟩; have K1 := Lib.hid ((KL.below K.out hb).set (by omega) (by simp) (.int .i64 2) (.int .i64 0) (.string u)); have K0 := Lib.hid (KL.below K.out hb); clear hb; obtain ⟨HB0, ⟨v0, v1, v2, f0, f1, f2, vl⟩, ⟨r0, r1, r2, g0, g1, g2, rl⟩, -⟩ := K0.out)
          | (go_at_call 17; (with_reducible refine (HX.out hum _).mono ?_); rintro e y2 ⟨rfl, hb⟩; have K3 := Lib.hid (KL.below K1.out hb); clear hb; obtain ⟨HB, ⟨v0, v1, v2, f0, f1, f2, vl⟩, ⟨r0, r1, r2, g0, g1, g2, rl⟩, -⟩ := K3.out))
        (try simp only [Exit.inBlock, Exit.then])
        exact ret_two rfl rfl K3.out.q.2.1 rfl ⟨by rw [← HR.out]; rfl, set3 HB _ (Nat.le_refl _) _ _ _⟩
theorem refParse_ (s : ByteArray) (hs : s.size ≤ 4000000) (w : World) : Calls Tryz.prog 19 #[.string s] w fun e w' => e = .returned (two (parS s)) ∧ Below w.heap.size w w' := by
  rw [← refP_eq]
  have hD : ∀ (l : Bs), s.data.toList ≠ l → (s.toList == l) = false := fun l h => by rw [toList_dat, beq_eq_false_iff_ne]; exact h
  by_cases c1 : s.data.toList = [110, 117, 108, 108]
  · obtain rfl : s = nullB := ba_ext c1
    have e : refP nullB = (nulV, 0) := by
      unfold refP refC
      rw [if_pos c1]
      simp only [txt_nul, and_self, if_true]
    rw [e]
    exact refParse_null w
  · by_cases c2 : s.data.toList = [116, 114, 117, 101]
    · obtain rfl : s = trueB := ba_ext c2
      have e : refP trueB = (booV true, 0) := by
        unfold refP refC
        rw [if_neg c1, if_pos c2]
        simp only [txt_boo, and_self, if_true]
      rw [e]
      exact refParse_true w
    · by_cases c3 : s.data.toList = [102, 97, 108, 115, 101]
      · obtain rfl : s = falseB := ba_ext c3
        have e : refP falseB = (booV false, 0) := by
          unfold refP refC
          rw [if_neg c1, if_neg c2, if_pos c3]
          simp only [txt_boo, and_self, if_true, Bool.false_eq_true, if_false]
        rw [e]
        exact refParse_false w
      · by_cases c4 : 1 < s.size ∧ s.data.toList.head? = some 39
        · have e : refP s = if (txtS (txtV (baOf (hB (s.extract 1 (s.size - 1)).data.toList)))).2 = 0 ∧ (txtS (txtV (baOf (hB (s.extract 1 (s.size - 1)).data.toList)))).1 = s then (txtV (baOf (hB (s.extract 1 (s.size - 1)).data.toList)), 0) else (nulV, 30) := by
            unfold refP refC
            rw [if_neg c1, if_neg c2, if_neg c3, if_pos c4]
          rw [e]
          obtain ⟨c, r, hcr, h0, hc⟩ := ne_emp (s := s) (by omega)
          refine refParse_quo s hs w (hD _ c1) (hD _ c2) (hD _ c3) c4.1 ?_
          have := c4.2
          rw [hcr] at this
          rw [hc]
          simpa using this
        · have e : refP s = if (wholeS s.data.toList).2 = true then (intV (wholeS s.data.toList).1, 0) else (nulV, 30) := by
            unfold refP refC
            rw [if_neg c1, if_neg c2, if_neg c3, if_neg c4]
            cases hq : (wholeS s.data.toList).2
            · rfl
            · have hw : inR (wholeS s.data.toList).1 = true ∧ baOf (Lib.itoa (wholeS s.data.toList).1) = s := by
                revert hq
                unfold wholeS
                split
                · intro h
                  simp only [Bool.and_eq_true, beq_iff_eq] at h
                  exact ⟨h.1, by rw [h.2, baOf_of]⟩
                · intro h; cases h
              simp only [if_true]
              rw [txt_int _ hw.1, if_pos ⟨rfl, hw.2⟩]
          rw [e]
          refine refParse_int s hs w (hD _ c1) (hD _ c2) (hD _ c3) ?_
          by_cases h1 : 1 < s.size
          · refine .inr ⟨h1, ?_⟩
            obtain ⟨c, r, hcr, h0, hc⟩ := ne_emp (s := s) (by omega)
            intro h
            apply c4
            refine ⟨h1, ?_⟩
            rw [hcr]
            rw [hc] at h
            simp [h]
          · exact .inl (by omega)
end Go.Proofs.YtchajbcmgdnpmaaGreatDoor
