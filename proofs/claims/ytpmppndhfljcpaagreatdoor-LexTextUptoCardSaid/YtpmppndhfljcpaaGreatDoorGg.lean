/-
  Contracts of package lex: a token, the tokens of a string.
-/
import Derived.Test.YtpmppndhfljcpaaGreatDoorLIa
import Derived.Test.YtpmppndhfljcpaaGreatDoorLIb
import Derived.Test.YtpmppndhfljcpaaGreatDoorLIc
import Derived.Laws.OwnMore
namespace Go.Proofs.YtpmppndhfljcpaaGreatDoor
section
open Go.RowKit

theorem tokR_cons (c : UInt8) (r : Bs) : tokR (c :: r) =
    if smallB c = true then
      (if 30 < many namedB (c :: r) then .bad 21 ((c :: r).take 30) else .tok ⟨if words.contains ((c :: r).take (many namedB (c :: r))) = true then 2 else 1, (c :: r).take (many namedB (c :: r)), 0⟩ (many namedB (c :: r)))
    else if digitB c = true then
      (if 1099511627776 < valD 0 ((c :: r).take (many digitB (c :: r))) then .bad 21 ((c :: r).take (min (many digitB (c :: r)) 40)) else .tok ⟨3, [], valD 0 ((c :: r).take (many digitB (c :: r)))⟩ (many digitB (c :: r)))
    else if (c == 39) = true then
      match textL r with
      | none => .bad 10 [39]
      | some q => if 200 < q.1.length then .bad 21 [39] else .tok ⟨4, q.1, 0⟩ (q.2 + 1)
    else signR ((c :: r).take 2) c := rfl
theorem not39 {c : UInt8} (h : (c == 39) = false) : ((c.toNat : Int) == 39) = false := by
  rw [show (39 : Int) = (((39 : UInt8).toNat : Nat) : Int) from rfl, byte_eq', h]
theorem is39 {c : UInt8} (h : (c == 39) = true) : ((c.toNat : Int) == 39) = true := by
  rw [show (39 : Int) = (((39 : UInt8).toNat : Nat) : Int) from rfl, byte_eq', h]
set_option maxRecDepth 100000 in
theorem token_ (R : Nat) (s : ByteArray) (i fr ln st : Nat) (w : World) (h : BL w R (rd s i fr ln st)) (hs : s.size ≤ 4000000) (hi : i < s.size) (hst : st ≤ i) (E : Env w) (hR : Off R) :
    Calls Tryz.prog 129 #[.pointer (some ⟨R, 0, none⟩)] w (TokenEnds w R s i ln st) := by
  have hd := drop_cons s i hi
  have ht := tokR_cons s[i] (s.data.toList.drop (i + 1))
  rw [← hd] at ht
  have hle : i ≤ s.size := by omega
  have hlen : (s.data.toList.drop i).length = s.size - i := by rw [List.length_drop]; simp
  cases h1 : smallB s[i]
  · rw [h1] at ht
    simp only [Bool.false_eq_true, if_false] at ht
    cases h2 : digitB s[i]
    · rw [h2] at ht
      simp only [Bool.false_eq_true, if_false] at ht
      cases h3 : s[i] == 39
      · rw [h3] at ht
        simp only [Bool.false_eq_true, if_false] at ht
        unfold signR at ht
        have hm : ((s.data.toList.drop i).take 2).length = min 2 (s.size - i) := by rw [List.length_take, hlen]
        have ht1 : (s.data.toList.drop i).take 1 = [s[i]] := by rw [hd]; rfl
        by_cases h4 : signs.contains ((s.data.toList.drop i).take 2) = true
        · rw [if_pos h4] at ht
          refine token_sign R s i fr ln st w h hs hi hst h1 h2 (not39 h3) (s.extract i (i + min 2 (s.size - i))) (i + min 2 (s.size - i)) (by simp; omega) ⟨_, _, ht, rfl, ?_, rfl, by rw [hm]⟩ (fun x hx => ?_)
          · rw [ext_ba]
            show baOf _ = baOf _
            congr 1
            rw [List.take_eq_take_iff, hlen]; omega
          · refine sign_at R s i i ln st x hx.r hs hi _ _ rfl (by omega) (Nat.le_refl _) ?_ (fun j hj hj2 => by omega)
            have e : (s.data.toList.drop i).take (min 2 (s.size - i)) = (s.data.toList.drop i).take 2 := by rw [List.take_eq_take_iff, hlen]; omega
            rw [e]
            exact h4
        · rw [if_neg h4] at ht
          by_cases h5 : signs.contains [s[i]] = true
          · rw [if_pos h5] at ht
            refine token_sign R s i fr ln st w h hs hi hst h1 h2 (not39 h3) (s.extract i (i + 1)) (i + 1) (by simp; omega) ⟨_, _, ht, rfl, ?_, rfl, rfl⟩ (fun x hx => ?_)
            · rw [ext_ba, ht1]
            · refine sign_at R s i i ln st x hx.r hs hi _ 1 rfl (by omega) (by omega) (by rw [ht1]; exact h5) (fun j hj hj2 => ?_)
              have e : j = 2 := by omega
              rw [e]
              unfold memB
              simpa using h4
          · rw [if_neg h5] at ht
            refine token_signBad R s i fr ln st w h hs hi hst h1 h2 (not39 h3) [s[i]] (s.extract i (i + 1)) (by rw [ext_ba, ht1]) ht (fun x hx => ?_)
            refine (sign_none R s i i ln st x hx.r hs hi _ rfl (fun j hj hj2 => ?_)).mono fun e w' ⟨he, hK⟩ => ⟨he, i, hK⟩
            rcases (show j = 1 ∨ j = 2 by omega) with rfl | rfl
            · rw [ht1]; unfold memB; simpa using h5
            · unfold memB; simpa using h4
      · rw [h3] at ht
        simp only [if_true] at ht
        have h39 : s.data.toList[i]? = some 39 := by
          rw [List.getElem?_eq_getElem (by simpa using hi)]
          have e : s[i] = 39 := by simpa using h3
          exact congrArg some e
        have HQ := fun x (hx : KR w x R (rd s i i ln st) []) => quoted_ R s i ln st x hx.r hs h39 (E.grown hx.g hR) hR
        unfold QuotedEnds at HQ
        cases hq : textL (s.data.toList.drop (i + 1)) with
        | none =>
          rw [hq] at ht HQ
          exact token_textStray R s i fr ln st w h hs hi hst h1 h2 (is39 h3) [39] sQ rfl ht HQ
        | some q =>
          rw [hq] at ht HQ
          simp only at ht HQ
          by_cases h4 : 200 < q.1.length
          · rw [if_pos h4] at ht
            have h4' : ¬ q.1.length ≤ 200 := by omega
            simp only [if_neg h4'] at HQ
            exact token_textBad R s i fr ln st w h hs hi hst h1 h2 (is39 h3) [39] sQ rfl ht HQ
          · rw [if_neg h4] at ht
            have h4' : q.1.length ≤ 200 := by omega
            simp only [if_pos h4'] at HQ
            exact token_text R s i fr ln st w h hs hi hst h1 h2 (is39 h3) (baOf q.1) (i + 1 + q.2) (by rw [baOf_size]; omega) ⟨_, _, ht, rfl, rfl, rfl, by omega⟩ HQ
    · rw [h2] at ht
      simp only [if_true] at ht
      have hn : 1 ≤ many digitB (s.data.toList.drop i) := by rw [hd]; exact many_pos h2
      by_cases h3 : 1099511627776 < valD 0 ((s.data.toList.drop i).take (many digitB (s.data.toList.drop i)))
      · rw [if_pos h3] at ht
        exact token_intBad R s i fr ln st w h hs hi hst h1 h2 _ _ (ext_ba s i _) ht (fun x hx => (int_bad R s i i ln st x hx.r hs hle hn (E.grown hx.g hR) hR h3).mono fun e w' ⟨he, hK⟩ => ⟨he, _, hK⟩)
      · rw [if_neg h3] at ht
        exact token_int R s i fr ln st w h hs hi hst h1 h2 _ _ ⟨_, _, ht, rfl, rfl, rfl, rfl⟩ (fun x hx => int_ok R s i i ln st x hx.r hs hle hn (by omega))
  · rw [h1] at ht
    simp only [if_true] at ht
    by_cases h2 : 30 < many namedB (s.data.toList.drop i)
    · rw [if_pos h2] at ht
      exact token_nameBad R s i fr ln st w h hs hi hst h1 _ _ (ext_ba s i _) ht (fun x hx => (name_bad R s i i ln st x hx.r hs hle h2).mono fun e w' ⟨he, hK⟩ => ⟨he, _, hK⟩)
    · rw [if_neg h2] at ht
      exact token_name R s i fr ln st w h hs hi hst h1 _ _ _ (by simp; omega) ⟨_, _, ht, rfl, ext_ba s i _, rfl, rfl⟩ (fun x hx => name_ok R s i i ln st x hx.r hs hle (by omega))
end
end Go.Proofs.YtpmppndhfljcpaaGreatDoor
namespace Go.Proofs.YtpmppndhfljcpaaGreatDoor
section
open Go.RowKit

theorem KR.toBelow {w x y : World} {R : Nat} {cs : List Value} (hx : Below w.heap.size w x) (hR : w.heap.size ≤ R) (h : KR x y R cs []) : Below w.heap.size w y :=
  hx.grown h.g hx.size (fun k hk => by cases hk; exact hR)
theorem shaped_many (s : Bs) (c : UInt8) (r : Bs) (h : s = c :: r) (hc : smallB c = true) : shapedB s = (s.take (many namedB s) == s) := by
  subst h
  simp only [shapedB, hc, Bool.true_and]
  rw [many_take]
  cases ha : (c :: r).all namedB
  · rw [eq_comm, beq_eq_false_iff_ne]
    intro e
    have : (c :: r).all namedB = true := by
      rw [← e, List.all_eq_true]
      exact fun b hb => mem_takeWhile hb
    rw [this] at ha
    cases ha
  · rw [eq_comm, beq_iff_eq]
    have h1 := many_all namedB (c :: r) [] ha (by intro b hb; simp at hb)
    rw [List.append_nil] at h1
    rw [← many_take, h1, List.take_length]
set_option maxRecDepth 100000 in
set_option maxHeartbeats 1000000 in
theorem nameL_ (s : ByteArray) (w : World) : Calls Tryz.prog 38 #[.string s] w fun e w' => e = .returned (.bool (isNameB s.data.toList)) ∧ Below w.heap.size w w' := by
  have HT := Lib.hid (toList_dat s)
  have hl : s.data.toList.length = s.size := by simp
  have HN : Hid (isNameB s.data.toList = (shapedB s.data.toList && decide (s.data.toList.length ≤ 30) && !words.contains s.data.toList)) := Lib.hid rfl
  by_cases h0 : s.size = 0
  · have hn : s.data.toList = [] := List.eq_nil_of_length_eq_zero (by omega)
    have hs : (s.toList.isEmpty) = true := by rw [HT.out, hn]; rfl
    have H : Hid (isNameB s.data.toList = false) := Lib.hid (by rw [hn]; rfl)
    clear hn hl h0
    go_enter Tryz.func38, Tryz.ntmps38
    go_wp2_with fail
    go_ret
    exact ⟨by rw [H.out]; rfl, Below.refl _ _⟩
  · obtain ⟨c, r, hcr, h00, hc⟩ := ne_emp h0
    have hs : (s.toList.isEmpty) = false := by rw [HT.out, hcr]; rfl
    by_cases h1 : 30 < s.size
    · have H : Hid (isNameB s.data.toList = false) := Lib.hid (by
        rw [HN.out, hl]
        have : decide (s.size ≤ 30) = false := by simpa using h1
        rw [this]; simp)
      have h1' : (30 : Int) < s.size := by omega
      clear hcr hc hl h0
      go_enter Tryz.func38, Tryz.ntmps38
      go_wp2_with fail
      go_ret
      exact ⟨by rw [H.out]; rfl, Below.refl _ _⟩
    · have h1' : ¬ (30 : Int) < s.size := by omega
      have hi : (0 : Int) < s.size := by omega
      have HLt := Lib.hid fun x => isLetter_ s[0] x
      cases h2 : smallB c
      · have H : Hid (isNameB s.data.toList = false) := Lib.hid (by
          rw [HN.out, hcr]
          simp only [shapedB, h2, Bool.false_and])
        rw [hc, h2] at HLt
        subst hc
        clear hcr hl h0 h2
        go_enter Tryz.func38, Tryz.ntmps38
        go_wp2_with (first
          | (go_at_call 94; (with_reducible refine (HLt.out _).mono ?_); rintro e y ⟨rfl, rfl⟩))
        go_ret
        exact ⟨by rw [H.out]; rfl, Below.refl _ _⟩
      · rw [hc, h2] at HLt
        have hsm := shaped_many s.data.toList c r hcr h2
        have HR0 := fun (x : World) (hx : BL x w.heap.size [.string s, .int .i64 0, .int .i64 0, .int .i64 0, .int .i64 0]) => run_ w.heap.size s 0 0 0 0 _ namedB x hx (by omega) (Nat.zero_le _) fnNamed
        have hmany := many_le namedB s.data.toList
        simp only [List.drop_zero, Nat.zero_add] at HR0
        have hex : (s.extract 0 (many namedB s.data.toList)).toList = s.data.toList.take (many namedB s.data.toList) := by rw [toList_dat, Lib.extract_data]; simp
        have hle : s.data.toList.length ≤ 30 := by omega
        have hle2 : decide (s.data.toList.length ≤ 30) = true := by simpa using hle
        rw [hle2, Bool.and_true, hsm] at HN
        obtain ⟨t, htx⟩ : ∃ t, s.extract 0 (many namedB s.data.toList) = t := ⟨_, rfl⟩
        rw [htx] at HR0 hex
        rw [← hex, ← HT.out] at HN
        have HR := Lib.hid HR0
        have HW0 := fun x => word_ s x
        subst hc
        clear hcr hl h0 h2 hsm HR0 hex hle hle2 htx
        cases h3 : t.toList == s.toList
        · rw [h3] at HN
          go_enter Tryz.func38, Tryz.ntmps38
          go_wp2_with (first
            | (go_at_call 94; (with_reducible refine (HLt.out _).mono ?_); rintro e y ⟨rfl, rfl⟩)
            | (go_at_call 95; (with_reducible refine (HR.out _ (BL.new w [.string s, .int .i64 0, .int .i64 0, .int .i64 0, .int .i64 0] 97)).mono ?_); rintro e y ⟨rfl, hK⟩; have HB := Lib.hid (KR.toBelow (new1 w _) (Nat.le_refl _) hK); clear hK))
          go_ret
          exact ⟨by rw [← HT.out, HN.out]; rfl, HB.out⟩
        · rw [h3] at HN
          cases h4 : memB words s.data.toList
          all_goals
            have h4' : words.contains s.toList = memB words s.data.toList := by rw [HT.out]; rfl
            rw [h4] at h4'
            rw [h4'] at HN
            rw [h4] at HW0
            have HW := Lib.hid HW0
            clear h4 h4' HW0
            go_enter Tryz.func38, Tryz.ntmps38
            go_wp2_with (first
              | (go_at_call 94; (with_reducible refine (HLt.out _).mono ?_); rintro e y ⟨rfl, rfl⟩)
              | (go_at_call 95; (with_reducible refine (HR.out _ (BL.new w [.string s, .int .i64 0, .int .i64 0, .int .i64 0, .int .i64 0] 97)).mono ?_); rintro e y ⟨rfl, hK⟩; have HB := Lib.hid (KR.toBelow (new1 w _) (Nat.le_refl _) hK); clear hK)
              | (go_at_call 36; (with_reducible refine (HW.out _).mono ?_); rintro e y2 ⟨rfl, hb⟩; have HB2 := Lib.hid (HB.out.trans (hb.mono HB.out.size)); clear hb))
            go_ret
            exact ⟨by rw [← HT.out, HN.out]; rfl, HB2.out⟩
/-- A token's string as the code has it, and whether it is one. -/
def wrS (k : Int) (t : ByteArray) (n : Int) : ByteArray × Bool :=
  if k = 1 then (t, n == 0 && isNameB t.data.toList) else if k = 2 then (t, n == 0 && memB words t.data.toList)
  else if k = 3 then ((txtS ⟨1, n, t⟩).1, decide (0 ≤ n) && (txtS ⟨1, n, t⟩).2 == 0) else if k = 4 then ((txtS ⟨2, n, t⟩).1, (txtS ⟨2, n, t⟩).2 == 0)
  else if k = 5 then (t, n == 0 && memB signs t.data.toList) else (⟨#[]⟩, false)
theorem KG.start5 (w : World) (u0 u1 u2 u3 u4 : Value) (t : TypeId) : KG w (w.alloc (.cells #[u0, u1, u2, u3, u4] t)) [(w.heap.size, [u0, u1, u2, u3, u4])] := (KG.refl w).push [u0, u1, u2, u3, u4] t
theorem wkS {w z : World} {b : Nat} {k n ln cl : Int} {t : ByteArray} (h : KG w z [(b, tkC k t n ln cl)]) : (z.cell? ⟨b, 1, none⟩ = some (.string t) ∧ z.cell? ⟨b, 2, none⟩ = some (.int .i64 n)) ∧ KG w z [(b, tkC k t n ln cl)] :=
  ⟨⟨h.q.1.1.g 1 _ rfl, h.q.1.1.g 2 _ rfl⟩, h⟩
set_option maxRecDepth 100000 in
set_option maxHeartbeats 4000000 in
theorem written_ (k : Int) (t : ByteArray) (n ln cl : Int) (w : World) (E : Env w) :
    Calls Tryz.prog 84 #[tkV k t n ln cl] w fun e w' => e = .returned (.tuple #[.string (wrS k t n).1, .bool (wrS k t n).2]) ∧ Below w.heap.size w w' := by
  have HE := Lib.hid E
  have KS := Lib.hid (KG.start5 w (.int .i64 k) (.string t) (.int .i64 n) (.int .i64 ln) (.int .i64 cl) 95)
  clear E
  by_cases k1 : k = 1
  · have H : Hid (wrS k t n = (t, n == 0 && isNameB t.data.toList)) := Lib.hid (by unfold wrS; rw [if_pos k1])
    subst k1
    cases hn : n == 0
    · rw [hn] at H
      go_enter Tryz.func84, Tryz.ntmps84
      go_wp2_with fail
      go_quiet (fail)
      go_wp2_with fail
      go_ret2
      exact ⟨by rw [H.out]; rfl, KS.out.HB.trans (Below.drewN _ _ |>.mono KS.out.HB.size)⟩
    · rw [hn] at H
      cases hq : isNameB t.data.toList
      all_goals
        rw [hq] at H
        have HN0 := fun x => nameL_ t x
        rw [hq] at HN0
        have HN := Lib.hid HN0
        clear hq HN0
        go_enter Tryz.func84, Tryz.ntmps84
        go_wp2_with fail
        go_region_held3 (fun z => (z.cell? ⟨w.heap.size, 1, none⟩ = some (.string t) ∧ z.cell? ⟨w.heap.size, 2, none⟩ = some (.int .i64 n)) ∧ KG w z [(w.heap.size, tkC 1 t n ln cl)])
          (first | exact wkS KS.out.drew | (obtain ⟨_, hk⟩ := ‹_ ∧ _›; exact wkS (hk.below hb)))
          (first | (go_at_call 38; refine (HN.out _).mono ?_; rintro e w1 ⟨rfl, hb⟩))
        rename_i hH
        have KZ := Lib.hid hH.2
        clear hH
        go_wp2_with fail
        go_ret2
        exact ⟨by rw [H.out]; rfl, KZ.out.HB⟩
  by_cases k2 : k = 2
  · have H : Hid (wrS k t n = (t, n == 0 && memB words t.data.toList)) := Lib.hid (by unfold wrS; rw [if_neg k1, if_pos k2])
    subst k2
    cases hn : n == 0
    · rw [hn] at H
      go_enter Tryz.func84, Tryz.ntmps84
      go_wp2_with fail
      go_quiet (fail)
      go_wp2_with fail
      go_ret2
      exact ⟨by rw [H.out]; rfl, KS.out.HB.trans (Below.drewN _ _ |>.mono KS.out.HB.size)⟩
    · rw [hn] at H
      cases hq : memB words t.data.toList
      all_goals
        rw [hq] at H
        have HN0 := fun x => word_ t x
        rw [hq] at HN0
        have HN := Lib.hid HN0
        clear hq HN0
        go_enter Tryz.func84, Tryz.ntmps84
        go_wp2_with fail
        go_region_held3 (fun z => (z.cell? ⟨w.heap.size, 1, none⟩ = some (.string t) ∧ z.cell? ⟨w.heap.size, 2, none⟩ = some (.int .i64 n)) ∧ KG w z [(w.heap.size, tkC 2 t n ln cl)])
          (first | exact wkS KS.out.drew | (obtain ⟨_, hk⟩ := ‹_ ∧ _›; exact wkS (hk.below hb)))
          (first | (go_at_call 36; refine (HN.out _).mono ?_; rintro e w1 ⟨rfl, hb⟩))
        rename_i hH
        have KZ := Lib.hid hH.2
        clear hH
        go_wp2_with fail
        go_ret2
        exact ⟨by rw [H.out]; rfl, KZ.out.HB⟩
  by_cases k3 : k = 3
  · have H : Hid (wrS k t n = ((txtS ⟨1, n, t⟩).1, decide (0 ≤ n) && (txtS ⟨1, n, t⟩).2 == 0)) := Lib.hid (by unfold wrS; rw [if_neg k1, if_neg k2, if_pos k3])
    subst k3
    have HX0 := fun x hx => textV_ ⟨1, n, t⟩ x hx
    obtain ⟨⟨u, er⟩, hu⟩ : ∃ r, txtS ⟨1, n, t⟩ = r := ⟨_, rfl⟩
    rw [hu] at HX0 H
    simp only at HX0 H
    have HX := Lib.hid HX0
    clear HX0 hu
    by_cases h0 : 0 ≤ n
    · have hd : decide (0 ≤ n) = true := by simpa using h0
      rw [hd] at H
      go_enter Tryz.func84, Tryz.ntmps84
      go_wp2_with (first
        | (go_at_call 20; (with_reducible refine (HX.out _ (HE.out.below KS.out.HB)).mono ?_); rintro e y ⟨rfl, hb⟩; have K := Lib.hid (KS.out.below hb); clear hb; obtain ⟨t0, t1, t2, t3, t4, g0, g1, g2, g3, g4, gl⟩ := K.out.q.1.1.open5))
      go_ret2
      exact ⟨by rw [H.out]; rfl, K.out.HB⟩
    · have hd : decide (0 ≤ n) = false := by simpa using h0
      rw [hd] at H
      go_enter Tryz.func84, Tryz.ntmps84
      go_wp2_with (first
        | (go_at_call 20; (with_reducible refine (HX.out _ (HE.out.below KS.out.HB)).mono ?_); rintro e y ⟨rfl, hb⟩; have K := Lib.hid (KS.out.below hb); clear hb; obtain ⟨t0, t1, t2, t3, t4, g0, g1, g2, g3, g4, gl⟩ := K.out.q.1.1.open5))
      go_ret2
      exact ⟨by rw [H.out]; rfl, K.out.HB⟩
  by_cases k4 : k = 4
  · have H : Hid (wrS k t n = ((txtS ⟨2, n, t⟩).1, (txtS ⟨2, n, t⟩).2 == 0)) := Lib.hid (by unfold wrS; rw [if_neg k1, if_neg k2, if_neg k3, if_pos k4])
    subst k4
    have HX0 := fun x hx => textV_ ⟨2, n, t⟩ x hx
    obtain ⟨⟨u, er⟩, hu⟩ : ∃ r, txtS ⟨2, n, t⟩ = r := ⟨_, rfl⟩
    rw [hu] at HX0 H
    simp only at HX0 H
    have HX := Lib.hid HX0
    clear HX0 hu
    go_enter Tryz.func84, Tryz.ntmps84
    go_wp2_with (first
      | (go_at_call 20; (with_reducible refine (HX.out _ (HE.out.below KS.out.HB)).mono ?_); rintro e y ⟨rfl, hb⟩; have K := Lib.hid (KS.out.below hb); clear hb; obtain ⟨t0, t1, t2, t3, t4, g0, g1, g2, g3, g4, gl⟩ := K.out.q.1.1.open5))
    go_ret2
    exact ⟨by rw [H.out]; rfl, K.out.HB⟩
  by_cases k5 : k = 5
  · have H : Hid (wrS k t n = (t, n == 0 && memB signs t.data.toList)) := Lib.hid (by unfold wrS; rw [if_neg k1, if_neg k2, if_neg k3, if_neg k4, if_pos k5])
    subst k5
    cases hn : n == 0
    · rw [hn] at H
      go_enter Tryz.func84, Tryz.ntmps84
      go_wp2_with fail
      go_quiet (fail)
      go_wp2_with fail
      go_ret2
      exact ⟨by rw [H.out]; rfl, KS.out.HB.trans (Below.drewN _ _ |>.mono KS.out.HB.size)⟩
    · rw [hn] at H
      cases hq : memB signs t.data.toList
      all_goals
        rw [hq] at H
        have HN0 := fun x => isSign_ t x
        rw [hq] at HN0
        have HN := Lib.hid HN0
        clear hq HN0
        go_enter Tryz.func84, Tryz.ntmps84
        go_wp2_with fail
        go_quiet ((go_at_call 135; exact quiet_same (HN.out _)))
        go_wp2_with fail
        go_ret2
        exact ⟨by rw [H.out]; rfl, KS.out.HB.trans (Below.drewN _ _ |>.mono KS.out.HB.size)⟩
  have H : Hid (wrS k t n = (⟨#[]⟩, false)) := Lib.hid (by unfold wrS; rw [if_neg k1, if_neg k2, if_neg k3, if_neg k4, if_neg k5])
  go_enter Tryz.func84, Tryz.ntmps84
  go_wp2_with fail
  go_ret2
  exact ⟨by rw [H.out]; rfl, KS.out.HB⟩
end
end Go.Proofs.YtpmppndhfljcpaaGreatDoor
namespace Go.Proofs.YtpmppndhfljcpaaGreatDoor
section

/-- Tokens that were found, and what comes behind them. -/
def glue (A : List (Tk × Nat)) (r : List (Tk × Nat) × Option (Int × Bs × Nat)) : List (Tk × Nat) × Option (Int × Bs × Nat) := match r with | (_, some e) => ([], some e) | (ts, none) => (A ++ ts, none)
theorem glue_nil (r : List (Tk × Nat) × Option (Int × Bs × Nat)) (h : ∀ e, r.2 = some e → r.1 = []) : glue [] r = r := by
  obtain ⟨a, b⟩ := r
  cases b with
  | none => rfl
  | some e => rw [glue, ← h e rfl]
theorem lexC_err : ∀ (f : Nat) (l : Bs) (i k : Nat) (e : Int × Bs × Nat), (lexC f l i k).2 = some e → (lexC f l i k).1 = []
  | 0, _, _, _, e, h => by simp [lexC] at h
  | f + 1, l, i, k, e, h => by
    rw [lexC] at h ⊢
    split
    · rfl
    · rename_i h1
      rw [if_neg h1] at h
      cases ht : tokR (l.drop (skipL false l)) with
      | bad c nm => rfl
      | tok x len =>
        rw [ht] at h
        simp only at h ⊢
        split
        · rfl
        · rename_i h2
          rw [if_neg h2] at h
          cases hr : lexC f ((l.drop (skipL false l)).drop len) (i + skipL false l + len) (k + 1) with
          | mk a b =>
            rw [hr] at h
            cases b with
            | some e => rfl
            | none => cases h
/-- What is left to be read from place p on, A having been found. -/
def Rest (s : Bs) (A : List (Tk × Nat)) (p : Nat) : Prop := ∃ f, (s.drop p).length < f ∧ lexS s = glue A (lexC f (s.drop p) p A.length)
theorem Rest.start (s : Bs) : Rest s [] 0 := ⟨s.length + 1, by simp, (glue_nil _ (fun e h => lexC_err _ _ _ _ e h)).symm⟩
theorem Rest.stop {s : Bs} {A : List (Tk × Nat)} {p : Nat} (h : Rest s A p) (he : s.drop (p + skipL false (s.drop p)) = []) : lexS s = (A, none) := by
  obtain ⟨f, hf, e⟩ := h
  obtain ⟨g, rfl⟩ : ∃ g, f = g + 1 := ⟨f - 1, by omega⟩
  rw [e, lexC, List.drop_drop, he]
  simp [glue]
theorem Rest.bad {s : Bs} {A : List (Tk × Nat)} {p : Nat} (h : Rest s A p) {c : Int} {nm : Bs} (hne : s.drop (p + skipL false (s.drop p)) ≠ []) (ht : tokR (s.drop (p + skipL false (s.drop p))) = .bad c nm) : lexS s = ([], some (c, nm, p + skipL false (s.drop p))) := by
  obtain ⟨f, hf, e⟩ := h
  obtain ⟨g, rfl⟩ : ∃ g, f = g + 1 := ⟨f - 1, by omega⟩
  rw [e, lexC, List.drop_drop, if_neg (by simpa using hne), ht]
  rfl
theorem Rest.many {s : Bs} {A : List (Tk × Nat)} {p : Nat} (h : Rest s A p) {x : Tk} {len : Nat} (hA : A.length = 4000) (hne : s.drop (p + skipL false (s.drop p)) ≠ []) (ht : tokR (s.drop (p + skipL false (s.drop p))) = .tok x len) :
    lexS s = ([], some (3, writ x, p + skipL false (s.drop p))) := by
  obtain ⟨f, hf, e⟩ := h
  obtain ⟨g, rfl⟩ : ∃ g, f = g + 1 := ⟨f - 1, by omega⟩
  rw [e, lexC, List.drop_drop, if_neg (by simpa using hne), ht]
  simp only
  rw [if_pos (by simp [hA])]
  rfl
theorem Rest.one {s : Bs} {A : List (Tk × Nat)} {p : Nat} (h : Rest s A p) {x : Tk} {len : Nat} (hA : A.length ≠ 4000) (hne : s.drop (p + skipL false (s.drop p)) ≠ []) (ht : tokR (s.drop (p + skipL false (s.drop p))) = .tok x len) :
    Rest s (A ++ [(x, p + skipL false (s.drop p))]) (p + skipL false (s.drop p) + len) := by
  obtain ⟨f, hf, e⟩ := h
  obtain ⟨g, rfl⟩ : ∃ g, f = g + 1 := ⟨f - 1, by omega⟩
  obtain ⟨_, h1, h2, _⟩ := tokR_ok _ _ _ ht
  refine ⟨g, ?_, ?_⟩
  · simp only [List.length_drop] at hf h2 ⊢; omega
  · rw [e, lexC, List.drop_drop, if_neg (by simpa using hne), ht]
    simp only
    rw [if_neg (by simpa using hA), List.drop_drop, List.length_append, List.length_singleton]
    cases hr : lexC g (s.drop (p + skipL false (s.drop p) + len)) (p + skipL false (s.drop p) + len) (A.length + 1) with
    | mk a b =>
      cases b with
      | some e => rfl
      | none => simp [glue]
/-- A token's cells, with its place. -/
def tkP (s : Bs) (q : Tk × Nat) : List Value := [.int .i64 q.1.k, .string (baOf q.1.t), .int .i64 q.1.n, .int .i64 (placeP (s.take q.2)).1, .int .i64 (placeP (s.take q.2)).2]
def tkPs (s : Bs) (A : List (Tk × Nat)) : List Value := A.flatMap (tkP s)
theorem tkPs_len (s : Bs) (A : List (Tk × Nat)) : (tkPs s A).length = A.length * 5 := by
  unfold tkPs
  induction A with
  | nil => rfl
  | cons q r ih => rw [List.flatMap_cons, List.length_append, ih]; simp [tkP]; omega
theorem tkPs_snoc (s : Bs) (A : List (Tk × Nat)) (q : Tk × Nat) : tkPs s (A ++ [q]) = tkPs s A ++ tkP s q := by
  unfold tkPs; rw [List.flatMap_append]; simp
theorem tkP_at {s : Bs} {i ln st : Nat} (x : Tk) (h : Pos s i ln st) : tkP s (x, i) = [.int .i64 x.k, .string (baOf x.t), .int .i64 x.n, .int .i64 ln, .int .i64 ((i : Int) - st + 1)] := by
  unfold tkP
  rw [h.2.2.2.2]
theorem okTxt_ba (t : ByteArray) : okText t = okTxt t.data.toList := by
  have hl : t.data.toList.length = t.size := by simp
  unfold okText okTxt
  rw [hl]
  congr 1
  congr 1
  funext c
  unfold okByte
  rw [Bool.eq_iff_iff]
  simp only [Bool.and_eq_true, decide_eq_true_eq]
  omega
theorem ba_empty (t : ByteArray) : (t.toList == (⟨#[]⟩ : ByteArray).toList) = t.data.toList.isEmpty := by
  rw [toList_dat, toList_dat]
  show (t.data.toList == []) = _
  cases t.data.toList <;> rfl
theorem tok_vld1 (n : Int) (t : ByteArray) : vld 1 n t = (t.data.toList.isEmpty && inR n) := by rw [vld1, toList_dat, Bool.and_comm]
theorem wrS_two (k : Int) (t : ByteArray) (n : Int) : (wrS k t n).2 = okT ⟨k, t.data.toList, n⟩ ∧ (okT ⟨k, t.data.toList, n⟩ = true → (wrS k t n).1 = baOf (writ ⟨k, t.data.toList, n⟩)) := by
  by_cases k1 : k = 1
  · subst k1
    have e : okT ⟨1, t.data.toList, n⟩ = (n == 0 && isNameB t.data.toList) := by simp [okT]
    rw [e]
    exact ⟨rfl, fun _ => by simp [wrS, writ, baOf_of]⟩
  by_cases k2 : k = 2
  · subst k2
    have e : okT ⟨2, t.data.toList, n⟩ = (n == 0 && memB words t.data.toList) := by simp [okT, memB]
    rw [e]
    exact ⟨rfl, fun _ => by simp [wrS, writ, baOf_of]⟩
  by_cases k3 : k = 3
  · subst k3
    have e : okT ⟨3, t.data.toList, n⟩ = (t.data.toList.isEmpty && decide (0 ≤ n) && decide (n ≤ 1099511627776)) := by simp [okT]
    rw [e]
    have hv : (⟨1, n, t⟩ : Va).ok = (t.data.toList.isEmpty && inR n) := tok_vld1 n t
    have ht : txtS ⟨1, n, t⟩ = if (t.data.toList.isEmpty && inR n) = true then (baOf (Lib.itoa n), 0) else (⟨#[]⟩, 2) := by
      unfold txtS
      rw [hv]
      cases t.data.toList.isEmpty && inR n <;> simp
    have hw : wrS 3 t n = ((txtS ⟨1, n, t⟩).1, decide (0 ≤ n) && (txtS ⟨1, n, t⟩).2 == 0) := by simp [wrS]
    have hwr : writ ⟨3, t.data.toList, n⟩ = Lib.itoa n := by simp [writ]
    rw [hw, ht, hwr]
    cases he : t.data.toList.isEmpty
    · simp
    · by_cases h0 : 0 ≤ n
      · by_cases h1 : n ≤ 1099511627776
        · have : inR n = true := by unfold inR; simp; omega
          simp [this, h0, h1]
        · have : inR n = false := by unfold inR; simp; omega
          simp [this, h1]
      · simp [h0]
  by_cases k4 : k = 4
  · subst k4
    have e : okT ⟨4, t.data.toList, n⟩ = (n == 0 && okTxt t.data.toList) := by simp [okT]
    rw [e]
    have hv : (⟨2, n, t⟩ : Va).ok = (n == 0 && okTxt t.data.toList) := by
      show vld 2 n t = _
      rw [vld2, okTxt_ba]
    have ht : txtS ⟨2, n, t⟩ = if (n == 0 && okTxt t.data.toList) = true then (baOf (quoB t.data.toList), 0) else (⟨#[]⟩, 2) := by
      unfold txtS
      rw [hv]
      cases n == 0 && okTxt t.data.toList <;> simp
    have hw : wrS 4 t n = ((txtS ⟨2, n, t⟩).1, (txtS ⟨2, n, t⟩).2 == 0) := by simp [wrS]
    have hwr : writ ⟨4, t.data.toList, n⟩ = quoB t.data.toList := by simp [writ]
    rw [hw, ht, hwr]
    cases n == 0 && okTxt t.data.toList <;> simp
  by_cases k5 : k = 5
  · subst k5
    have e : okT ⟨5, t.data.toList, n⟩ = (n == 0 && memB signs t.data.toList) := by simp [okT, memB]
    rw [e]
    exact ⟨rfl, fun _ => by simp [wrS, writ, baOf_of]⟩
  · have e : okT ⟨k, t.data.toList, n⟩ = false := by simp [okT, k1, k2, k3, k4, k5]
    rw [e]
    exact ⟨by simp [wrS, k1, k2, k3, k4, k5], fun h => by cases h⟩
theorem wrS_ok (x : Tk) (h : okT x = true) : wrS x.k (baOf x.t) x.n = (baOf (writ x), true) := by
  obtain ⟨h1, h2⟩ := wrS_two x.k (baOf x.t) x.n
  rw [baOf_data] at h1 h2
  exact Prod.ext (h2 h) (h1.trans h)
end
end Go.Proofs.YtpmppndhfljcpaaGreatDoor
namespace Go.Proofs.YtpmppndhfljcpaaGreatDoor
section
open Go.RowKit

theorem tokR_code (l : Bs) (c : Int) (nm : Bs) (hl : l ≠ []) (h : tokR l = .bad c nm) : c = 21 ∨ c = 10 := by
  cases l with
  | nil => exact absurd rfl hl
  | cons d r =>
    rw [tokR_cons] at h
    split at h
    · split at h
      · injection h with h _; exact .inl h.symm
      · cases h
    · split at h
      · split at h
        · injection h with h _; exact .inl h.symm
        · cases h
      · split at h
        · cases ht : textL r with
          | none => rw [ht] at h; injection h with h _; exact .inr h.symm
          | some q =>
            rw [ht] at h
            simp only at h
            split at h
            · injection h with h _; exact .inl h.symm
            · cases h
        · unfold signR at h
          split at h
          · cases h
          · split at h
            · cases h
            · injection h with h _; exact .inr h.symm
/-- The type of what is raised at a fault. -/
def faultT (c : Int) : TypeId := if c = 21 then 144 else if c = 10 then 143 else 145
/-- A row of tokens that the call has made. -/
def Row (w x : World) (s : Bs) (v : Value) (A : List (Tk × Nat)) : Prop := x.ownsRow w.heap.size 95 5 v A.length (tkPs s A)
def TokensEnds (w : World) (R : Nat) (s : ByteArray) (e : Ending) (w' : World) : Prop :=
  match lexS s.data.toList with
  | (_, some q) => ∃ ln st, Pos s.data.toList q.2.2 ln st ∧ e = raised (faultT q.1) (baOf q.2.1) ∧ Left w R s q.2.2 ln st w'
  | (A, none) => ∃ v i fr ln st, e = .returned v ∧ KR w w' R (rd s i fr ln st) [] ∧ Row w w' s.data.toList v A
theorem tse_bad {w w' : World} {R : Nat} {s : ByteArray} {e : Ending} {c : Int} {nm : Bs} {i ln st : Nat} (h : lexS s.data.toList = ([], some (c, nm, i))) (hp : Pos s.data.toList i ln st) (he : e = raised (faultT c) (baOf nm)) (hL : Left w R s i ln st w') : TokensEnds w R s e w' := by
  unfold TokensEnds
  rw [h]
  exact ⟨ln, st, hp, he, hL⟩
theorem tse_ok {w w' : World} {R : Nat} {s : ByteArray} {A : List (Tk × Nat)} {v : Value} {i fr ln st : Nat} {e : Ending} (h : lexS s.data.toList = (A, none)) (he : e = .returned v) (K : KR w w' R (rd s i fr ln st) []) (hr : Row w w' s.data.toList v A) : TokensEnds w R s e w' := by
  unfold TokensEnds
  rw [h]
  exact ⟨v, i, fr, ln, st, he, K, hr⟩
theorem Left.into {w x w' : World} {R : Nat} {s : ByteArray} {fr ln st : Nat} {cs : List Value} (K : KR w x R cs []) (h : Left x R s fr ln st w') : Left w R s fr ln st w' := by
  obtain ⟨k, hk⟩ := h
  exact ⟨k, K.turn2 hk⟩
theorem Row.kept {w x y : World} {s : Bs} {v : Value} {A : List (Tk × Nat)} {row : Option Nat} (h : Row w x s v A) (hg : x.grownBy y row) (hr : ∀ k, row = some k → k < w.heap.size) : Row w y s v A := by
  refine World.ownsRow.kept h hg ?_
  cases hv : v.ownBlock with
  | none => exact .inl rfl
  | some b =>
    right
    intro e
    have h1 := (World.ownsRow.lt h b hv).1
    have h2 := hr b e.symm
    omega
theorem Row.turn {w x y : World} {s : Bs} {v : Value} {A : List (Tk × Nat)} {R : Nat} {cs : List Value} (h : Row w x s v A) (hR : R < w.heap.size) (hk : KR x y R cs []) : Row w y s v A := h.kept hk.g (fun k e => by cases e; exact hR)
theorem Row.below {w x y : World} {s : Bs} {v : Value} {A : List (Tk × Nat)} (h : Row w x s v A) (hb : Below x.heap.size x y) : Row w y s v A :=
  h.kept (row := none) ⟨hb.os, hb.tape, hb.output, hb.size, fun k hk _ => hb.block k hk⟩ (fun k e => by cases e)
theorem Row.nil (w x : World) (s : Bs) : Row w x s (.slice none 0 0) [] := World.ownsRow_nil x _ _ _
theorem KR.grownOwn {w x y : World} {R : Nat} {cs : List Value} {row : Option Nat} (h : KR w x R cs []) (hg : x.grownBy y row) (hr : ∀ k, row = some k → w.heap.size ≤ k) : KR w y R cs [] :=
  ⟨⟨hg.os.trans h.g.os, hg.tape.trans h.g.tape, hg.output.trans h.g.output, Nat.le_trans h.g.size hg.size, fun k hk hne => (hg.block k (Nat.lt_of_lt_of_le hk h.g.size) (fun e => by have := hr k e.symm; omega)).trans (h.g.block k hk hne)⟩,
    h.r.grown hg (fun e => by have := hr R e.symm; have := h.lt; omega), h.lt, trivial⟩
theorem infoTok : (Tryz.prog.info? 95).map (fun i => (i.zero, i.size, i.bytes)) = some (some (.agg #[.int .i64 0, .string ⟨#[]⟩, .int .i64 0, .int .i64 0, .int .i64 0]), 5, 48) := by kernel_rfl
/-- A quiet region's post is kept by a reader that has moved nothing. -/
theorem AfterR.after {w x y : World} {R : Nat} {s : ByteArray} {i fr : Nat} {cs : List Value} (K : KR w x R cs []) (h : AfterR x R s i fr y) : AfterR w R s i fr y := by
  obtain ⟨ln, st, hk, hp⟩ := h
  exact ⟨ln, st, K.turn2 hk, hp⟩
theorem addr_add (b j : Nat) : (⟨b, 0, none⟩ : Addr).add j = ⟨b, j, none⟩ := by unfold Addr.add; split <;> simp_all
theorem new_cells (y : World) (b : Nat) (hb : y.heap.size = b) (cs : List Value) (t : TypeId) : ∀ j u, cs[j]? = some u → (y.alloc (.cells cs.toArray t)).cell? ((⟨b, 0, none⟩ : Addr).add j) = some u := by
  intro j u hu
  rw [addr_add]
  exact ((BL.new' y b hb cs t).c j u hu).1
theorem Row.form {w x : World} {s : Bs} {v : Value} {A : List (Tk × Nat)} (h : Row w x s v A) : ∃ a cap, v = .slice a A.length cap := by
  obtain ⟨h1, h2⟩ := h
  rcases h2 with ⟨rfl, hn⟩ | ⟨g, cap, cur, rfl, _⟩
  · rw [hn] at h1
    exact ⟨none, 0, by rw [hn]⟩
  · exact ⟨_, cap, rfl⟩
theorem token_bad (R : Nat) (s : ByteArray) (i fr ln st : Nat) (w : World) (h : BL w R (rd s i fr ln st)) (hs : s.size ≤ 4000000) (hi : i < s.size) (hst : st ≤ i) (E : Env w) (hR : Off R) {c : Int} {nm : Bs} (ht : tokR (s.data.toList.drop i) = .bad c nm) :
    Calls Tryz.prog 129 #[.pointer (some ⟨R, 0, none⟩)] w fun e w' => e = raised (faultT c) (baOf nm) ∧ Left w R s i ln st w' := by
  refine (token_ R s i fr ln st w h hs hi hst E hR).mono fun e w' hq => ?_
  unfold TokenEnds at hq
  rw [ht] at hq
  simp only at hq
  obtain ⟨he, hL⟩ := hq
  refine ⟨?_, hL⟩
  rw [he]
  have hne : s.data.toList.drop i ≠ [] := by rw [drop_cons s i hi]; simp
  rcases tokR_code _ _ _ hne ht with rfl | rfl <;> rfl
theorem token_well (R : Nat) (s : ByteArray) (i fr ln st : Nat) (w : World) (h : BL w R (rd s i fr ln st)) (hs : s.size ≤ 4000000) (hi : i < s.size) (hst : st ≤ i) (E : Env w) (hR : Off R) {x : Tk} {len : Nat} (ht : tokR (s.data.toList.drop i) = .tok x len) :
    Calls Tryz.prog 129 #[.pointer (some ⟨R, 0, none⟩)] w fun e w' => e = .returned (tkV x.k (baOf x.t) x.n ln ((i : Int) - st + 1)) ∧ KR w w' R (rd s (i + len) i ln st) [] := by
  refine (token_ R s i fr ln st w h hs hi hst E hR).mono fun e w' hq => ?_
  unfold TokenEnds at hq
  rw [ht] at hq
  exact hq
set_option maxRecDepth 100000 in
set_option maxHeartbeats 4000000 in
theorem tokens_ (R : Nat) (s : ByteArray) (w : World) (h : BL w R (rd s 0 0 1 0)) (hs : s.size ≤ 4000000) (E : Env w) (hR : Off R) :
    Calls Tryz.prog 78 #[.pointer (some ⟨R, 0, none⟩)] w (TokensEnds w R s) := by
  have HL : Hid (s.data.toList.length = s.size) := Lib.hid (by simp)
  have HE := Lib.hid E
  have HRlt := Lib.hid h.lt
  have K0 := Lib.hid (KR.start h)
  have HS0 := Lib.hid (skip_ R s 0 0 1 0 w h hs (Pos.start _))
  obtain ⟨i0, hinf⟩ := info_parts infoTok
  have HINF := Lib.hid hinf
  clear hinf
  clear h E
  go_enter Tryz.func78, Tryz.ntmps78
  go_wp2_with (first
    | (go_at_call 128; (with_reducible refine HS0.out.mono ?_); rintro e y ⟨rfl, hA⟩; have A0 := Lib.hid hA; clear hA))
  go_loopw [3] (fun v x => ∃ (A : List (Tk × Nat)) (p fr ln st : Nat), Rest s.data.toList A p ∧ A.length ≤ 4000 ∧ Pos s.data.toList (p + skipL false (s.data.toList.drop p)) ln st ∧
    KR w x R (rd s (p + skipL false (s.data.toList.drop p)) fr ln st) [] ∧ Row w x s.data.toList v A) (fun v x => s.size - atOf R x)
  case atStart =>
    obtain ⟨ln, st, hk, hp⟩ := A0.out
    exact ⟨[], 0, 0, ln, st, Rest.start _, Nat.zero_le _, by simpa using hp, by simpa using hk, Row.nil _ _ _⟩
  case round =>
    clear A0 HS0 K0
    obtain ⟨A, p, fr, ln, st, hRest, hA, hPos, hK, hRow⟩ := hrel
    have HRest := Lib.hid hRest
    have HPos := Lib.hid hPos
    have K := Lib.hid hK
    have HRow := Lib.hid hRow
    clear hRest hPos hK hRow
    have hile : p + skipL false (s.data.toList.drop p) ≤ s.size := by have h1 := HPos.out.2.1; have h2 := HL.out; omega
    generalize hi0 : p + skipL false (s.data.toList.drop p) = i at *
    have HI0 := Lib.hid hi0
    clear hi0
    obtain ⟨c0, c1, c2, c3, c4, f0, f1, f2, f3, f4, hl⟩ := K.out.r.open5
    by_cases hlt : i < s.size
    · have hlt' : (i : Int) < s.size := by omega
      have hne : s.data.toList.drop i ≠ [] := by rw [drop_cons s i hlt]; simp
      have hst : st ≤ i := HPos.out.1
      have EX := Lib.hid (HE.out.grown K.out.g hR)
      obtain ⟨a, cap, rfl⟩ := HRow.out.form
      cases htk : tokR (s.data.toList.drop i) with
      | bad c nm =>
        have HT := Lib.hid fun nq => token_bad R s i fr ln st (wr.drewN nq) (K.out.below (Below.drewN wr nq)).r hs hlt hst (EX.out.below (Below.drewN wr nq)) hR htk
        have HST := Lib.hid (HRest.out.bad (by rw [HI0.out]; exact hne) (by rw [HI0.out]; exact htk))
        rw [HI0.out] at HST
        clear htk hne
        go_wp2
        go_quiet (fail)
        go_wp2_with fail
        refine (HT.out nq).mono ?_
        rintro e y ⟨rfl, hL⟩
        have KL := Lib.hid (Left.into (K.out.below (Below.drewN wr nq)) hL)
        clear hL
        go_wp2_with fail
        exact ⟨rfl, tse_bad HST.out HPos.out rfl KL.out⟩
      | tok x len =>
        have HT := Lib.hid fun nq => token_well R s i fr ln st (wr.drewN nq) (K.out.below (Below.drewN wr nq)).r hs hlt hst (EX.out.below (Below.drewN wr nq)) hR htk
        obtain ⟨hok, hl1, hl2, hno⟩ := tokR_ok _ _ _ htk
        have HWR0 := fun x' hx' => written_ x.k (baOf x.t) x.n ln ((i : Int) - st + 1) x' hx'
        rw [wrS_ok x hok] at HWR0
        have HWR := Lib.hid HWR0
        clear HWR0
        by_cases h4 : A.length = 4000
        · have HST := Lib.hid (HRest.out.many h4 (by rw [HI0.out]; exact hne) (by rw [HI0.out]; exact htk))
          rw [HI0.out] at HST
          have h4' : ((A.length : Int) == 4000) = true := by simp [h4]
          clear htk hne h4 hno hl2 hl1
          go_wp2
          go_quiet (fail)
          go_wp2_with fail
          refine (HT.out nq).mono ?_
          rintro e y ⟨rfl, hK⟩
          have K2 := Lib.hid ((K.out.below (Below.drewN wr nq)).turn2 hK)
          have KG1 := Lib.hid (KG.start5 y (.int .i64 x.k) (.string (baOf x.t)) (.int .i64 x.n) (.int .i64 ln) (.int .i64 ((i : Int) - st + 1)) 95)
          clear hK c0 c1 c2 c3 c4 f0 f1 f2 f3 f4 hl
          go_wp2_with fail
          refine (HWR.out _ ((HE.out.grown K2.out.g hR).below (new1 y _))).mono ?_
          rintro e y2 ⟨rfl, hb⟩
          have K3 := Lib.hid ((K2.out.below (new1 y _)).below hb)
          clear hb
          go_wp2_with fail
          exact ⟨rfl, tse_bad HST.out HPos.out rfl ⟨_, K3.out⟩⟩
        · have HST := Lib.hid (HRest.out.one h4 (by rw [HI0.out]; exact hne) (by rw [HI0.out]; exact htk))
          rw [HI0.out] at HST
          have h4' : ((A.length : Int) == 4000) = false := by simp; omega
          have hfit2 : i + len ≤ s.data.toList.length := by rw [List.length_drop] at hl2; have := HL.out; omega
          have HP2 := Lib.hid (HPos.out.go len hfit2 hno)
          have HSK := Lib.hid fun x hx => skip_ R s (i + len) i ln st x hx hs HP2.out
          have HTP := Lib.hid (tkP_at x HPos.out)
          clear htk hne hno hl2
          go_wp2
          go_quiet (fail)
          go_wp2_with fail
          refine (HT.out nq).mono ?_
          rintro e y ⟨rfl, hK⟩
          have K2 := Lib.hid ((K.out.below (Below.drewN wr nq)).turn2 hK)
          have HRow2 := Lib.hid ((HRow.out.below (Below.drewN wr nq)).turn HRlt.out hK)
          have hx1 : (y.alloc (.cells #[.int .i64 x.k, .string (baOf x.t), .int .i64 x.n, .int .i64 ln, .int .i64 ((i : Int) - st + 1)] 95)).heap.size = y.heap.size + 1 := by simp
          have HX1 := Lib.hid hx1
          clear hK hx1 c0 c1 c2 c3 c4 f0 f1 f2 f3 f4 hl
          go_wp2_with (first
            | (at_builtin; refine wpList_append_own _ rfl (.tmp 34) (.tmp 36) 43 rfl w.heap.size 95 i0 _ 5 48 Tryz.underlying43 HINF.out.1 HINF.out.2.1 HINF.out.2.2.1 HINF.out.2.2.2 rfl (by decide) _ A.length (tkPs s.data.toList A) rfl ((World.ownsRow.alloc HRow2.out _).alloc _) ⟨y.heap.size + 1, 0, none⟩ 1 1 [.int .i64 x.k, .string (baOf x.t), .int .i64 x.n, .int .i64 ln, .int .i64 ((i : Int) - st + 1)] rfl rfl ?c1 ?c2 ?c3 ?c4 ?c5 ?_))
          case c1 => exact new_cells _ _ HX1.out _ _
          case c2 => intro u hu; simp at hu; rcases hu with rfl | rfl | rfl | rfl | rfl <;> rfl
          case c3 => simp only [maxLen]; omega
          case c4 => omega
          case c5 => have := K2.out.g.size; simp; omega
          intro v' w3 hown hgrow _
          have hgr : ∀ b, (Value.slice a A.length cap).ownBlock = some b → w.heap.size ≤ b := fun b hb => (World.ownsRow.lt HRow2.out b hb).1
          have K3 := Lib.hid (((K2.out.below (new1 y _)).below (new1 _ _)).grownOwn hgrow hgr)
          have hrow3 : Row w w3 s.data.toList v' (A ++ [(x, i)]) := by
            unfold Row
            rw [tkPs_snoc, HTP.out, List.length_append]
            exact hown
          have HRow3 := Lib.hid hrow3
          clear hown hgrow hgr hrow3
          go_wp2_with (first
            | (go_at_call 128; (with_reducible refine (HSK.out _ K3.out.r).mono ?_); rintro e y4 ⟨rfl, hA4⟩; have A4 := Lib.hid hA4; clear hA4))
          obtain ⟨ln4, st4, hk4, hp4⟩ := A4.out
          have K4 := K3.out.turn2 hk4
          go_roundw
          case rel => exact ⟨A ++ [(x, i)], i + len, i, ln4, st4, HST.out, by simp; omega, hp4, K4, HRow3.out.turn HRlt.out hk4⟩
          case measure =>
            rw [atOf_rd K.out.r, atOf_rd K4.r]
            have := hp4.2.1
            have := HL.out
            omega
    · obtain rfl : i = s.size := by omega
      have hge : decide ((s.size : Int) < s.size) = false := by simp
      have HST : Hid (lexS s.data.toList = (A, none)) := Lib.hid (HRest.out.stop (by rw [HI0.out]; exact List.drop_of_length_le (by have := HL.out; omega)))
      go_wp2
      go_quiet (fail)
      go_wp2
      go_ret
      exact tse_ok HST.out rfl (K.out.below (Below.drewN _ _)) (HRow.out.below (Below.drewN _ _))
end
end Go.Proofs.YtpmppndhfljcpaaGreatDoor
namespace Go.Proofs.YtpmppndhfljcpaaGreatDoor
section
open Go.RowKit

theorem results_flt {fn : Func} {p : Tmp} (h : fn.results = #[.cell p 45]) (tmps : Array Value) {b : Nat} (hp : tmps.getD p undef = .pointer (some ⟨b, 0, none⟩)) {z : World} {c ln cl : Int} {s : ByteArray}
    (h4 : BL z b [.int .i64 c, .string s, .int .i64 ln, .int .i64 cl]) : (results fn tmps).run Tryz.prog z = .ok (.agg #[.int .i64 c, .string s, .int .i64 ln, .int .i64 cl]) z := by
  obtain ⟨z0, z1, z2, z3, -⟩ := h4.open4
  simp only [Array.getD_eq_getD_getElem?] at hp
  simp [results, h, hp, go_sem, z0, z1, z2, z3]
theorem ret_flt {fn : Func} {p : Tmp} (h : fn.results = #[.cell p 45]) {Q : Ending → World → Prop} {a : Act} (hd : a.defers = []) {z : World} {b : Nat} {c ln cl : Int} {s : ByteArray} (h4 : BL z b [.int .i64 c, .string s, .int .i64 ln, .int .i64 cl])
    (hp : a.tmps.getD p undef = .pointer (some ⟨b, 0, none⟩)) (hR : Q (.returned (.agg #[.int .i64 c, .string s, .int .i64 ln, .int .i64 cl])) z) : bodyPost Tryz.prog fn Q .ret a z :=
  bodyPost_ret (results_flt h a.tmps hp h4) hd hR
/-- A fault's cells, and its value. -/
abbrev flC (c : Int) (nm : ByteArray) (ln cl : Int) : List Value := [.int .i64 c, .string nm, .int .i64 ln, .int .i64 cl]
abbrev flV (c : Int) (nm : ByteArray) (ln cl : Int) : Value := .agg #[.int .i64 c, .string nm, .int .i64 ln, .int .i64 cl]
theorem KG.fill4_2 {w x : World} {a b : Nat} {ca : List Value} {v0 v1 v2 v3 : Value} {l : List (Nat × List Value)} (h : KG w x ((a, ca) :: (b, [v0, v1, v2, v3]) :: l)) (u0 u1 u2 u3 : Value) :
    KG w ((((x.setCell ⟨b, 0, none⟩ u0).setCell ⟨b, 1, none⟩ u1).setCell ⟨b, 2, none⟩ u2).setCell ⟨b, 3, none⟩ u3) ((a, ca) :: (b, [u0, u1, u2, u3]) :: l) :=
  (((h.set2 0 u0 (by simp)).set2 1 u1 (by simp)).set2 2 u2 (by simp)).set2 3 u3 (by simp)
theorem KG.fill4 {w x : World} {b : Nat} {v0 v1 v2 v3 : Value} {l : List (Nat × List Value)} (h : KG w x ((b, [v0, v1, v2, v3]) :: l)) (u0 u1 u2 u3 : Value) :
    KG w ((((x.setCell ⟨b, 0, none⟩ u0).setCell ⟨b, 1, none⟩ u1).setCell ⟨b, 2, none⟩ u2).setCell ⟨b, 3, none⟩ u3) ((b, [u0, u1, u2, u3]) :: l) :=
  (((h.set 0 u0 (by simp)).set 1 u1 (by simp)).set 2 u2 (by simp)).set 3 u3 (by simp)
theorem KG.made1 {w x : World} {b : Nat} {l : List (Nat × List Value)} (h : KG w x l) (hb : x.heap.size = b) (n : Nat) (u0 u1 u2 u3 : Value) : KG w ((x.drewN n).alloc (.cells #[u0, u1, u2, u3] 45)) ((b, [u0, u1, u2, u3]) :: l) :=
  (h.below (Below.drewN x n)).push' b hb [u0, u1, u2, u3] 45
theorem KG.made2 {w x : World} {b : Nat} {l : List (Nat × List Value)} (h : KG w x l) (hb : x.heap.size = b) (n : Nat) (z0 z1 z2 z3 u0 u1 u2 u3 : Value) :
    KG w (((((((x.alloc (.cells #[z0, z1, z2, z3] 45)).drewN n).setCell ⟨b, 0, none⟩ u0).setCell ⟨b, 1, none⟩ u1).setCell ⟨b, 2, none⟩ u2).setCell ⟨b, 3, none⟩ u3)) ((b, [u0, u1, u2, u3]) :: l) :=
  ((h.push' b hb [z0, z1, z2, z3] 45).below (Below.drewN _ n)).fill4 u0 u1 u2 u3
end
end Go.Proofs.YtpmppndhfljcpaaGreatDoor
