/-
  The law of texts.
-/
import Derived.Test.YthomeplakcbfoaaGreatDoorGv
import Derived.Test.YthomeplakcbfoaaGreatDoorGt
namespace Go.Proofs.YthomeplakcbfoaaGreatDoor
open Go.RowKit

theorem eqV_me (v : Va) : eqV v.k v.n v.s v.k v.n v.s = true := by rw [eqV_iff]; exact ⟨rfl, rfl, rfl⟩
theorem txt_size (v : Va) (h : (txtS v).2 = 0) : (txtS v).1.size ≤ 4000000 := by
  have ho := txt_ok h
  rcases ok_cases v ho with rfl | ⟨n, n0, n1, rfl⟩ | ⟨b, rfl⟩ | ⟨b, rfl⟩
  · rw [txt_nul]; decide
  · rw [txt_int n (by simp [inR]; omega)]
    simp only [baOf_size]
    have hl : ∀ u : Nat, u ≤ 1099511627776 → (Lib.decDigits u).length ≤ 13 := fun u hu => dec_len 12 u (by omega)
    rcases itoa_head n with ⟨hn, e⟩ | ⟨hn, e⟩
    · rw [e, List.length_cons]
      have := hl n.natAbs (by omega)
      omega
    · rw [e]
      have := hl n.toNat (by omega)
      omega
  · have e : (txtS (txtV (baOf b))).1 = baOf (quoB b) := by unfold txtS; rw [if_neg (by simp [ho])]; rfl
    have hok : vld 2 0 (baOf b) = true := ho
    rw [vld2, Bool.and_eq_true] at hok
    have h1 := okSize _ hok.2
    rw [e, baOf_size, quoB_esc]
    have h2 := esc_len b
    rw [baOf_size] at h1
    simp
    omega
  · rw [txt_boo]; cases b <;> decide
set_option maxRecDepth 100000 in
set_option maxHeartbeats 4000000 in
theorem valueTexts_ (a : Va) (s : ByteArray) (za : a.s.size ≤ maxLen) (w : World) (E : Env w) : Calls Tryz.prog 4 #[a.val, .string s] w fun e w' => e = .returned (.bool true) ∧ Below w.heap.size w w' := by
  have HE := Lib.hid E
  have HG := Lib.hid E.gl
  clear E
  have HA := Lib.hid fun x (hx : Gl x) => awake_ x hx
  have K : Hid (KL w _ _) := Lib.hid ((KL.refl w).push (.int .i64 a.k) (.int .i64 a.n) (.string a.s) 27)
  by_cases h1 : a.s.size ≤ 4000
  · by_cases h2 : s.size ≤ 4000
    · have CT := Lib.hid fun x hx => textV_ a x hx
      have CR := Lib.hid fun x => refTextV_ a x za
      have CP := Lib.hid fun x hx => parse_ s (by omega) x hx
      have CQ := Lib.hid fun x => refParse_ s (by omega) x
      have HTS := Lib.hid (txt_size a)
      have HPS := Lib.hid (parS_txt a)
      obtain ⟨⟨t, c⟩, ht⟩ : ∃ r, txtS a = r := ⟨_, rfl⟩
      rw [ht] at CT CR HTS HPS
      obtain ⟨⟨u, g⟩, hp⟩ : ∃ r, parS s = r := ⟨_, rfl⟩
      rw [hp] at CP CQ
      simp only at CT CR HTS HPS
      clear ht hp
      have hu := eqV_me u
      have ha := eqV_me a
      have tt : (t.toList == t.toList) = true := by simp
      have gg : (g == g) = true := by simp
      have cc : (c == c) = true := by simp
      have z1 : (a.s.size : Int) ≤ 4000 := by omega
      have z2 : (s.size : Int) ≤ 4000 := by omega
      clear za h1 h2
      by_cases hc : c = 0
      · have C3 := Lib.hid fun x hx => parse_ t (HTS.out hc) x hx
        rw [HPS.out hc] at C3
        subst hc
        clear HTS HPS
        go_enter Tryz.func4, Tryz.ntmps4
        go_wp2_with (first
          | (go_at_call 16; (with_reducible refine (CT.out _ (HE.out.below K.out.HB)).mono ?_); rintro e y ⟨rfl, hy⟩; have K' := Lib.hid (KL.below K.out hy); clear hy K; have K := K'; clear K'; obtain ⟨HB, ⟨a0, a1, a2, -, -, -, al⟩, -⟩ := K.out)
          | (go_at_call 17; (with_reducible refine (CR.out _).mono ?_); rintro e y ⟨rfl, hy⟩; have K' := Lib.hid (KL.below K.out hy); clear hy K HB a0 a1 a2 al; have K := K'; clear K'; obtain ⟨HB, ⟨a0, a1, a2, -, -, -, al⟩, -⟩ := K.out)
          | (go_at_call 18; (with_reducible refine (CP.out _ (HE.out.below K.out.HB)).mono ?_); rintro e y ⟨rfl, hy⟩; have K' := Lib.hid (KL.below K.out hy); clear hy K HB a0 a1 a2 al; have K := K'; clear K'; obtain ⟨HB, ⟨a0, a1, a2, -, -, -, al⟩, -⟩ := K.out)
          | (go_at_call 19; (with_reducible refine (CQ.out _).mono ?_); rintro e y ⟨rfl, hy⟩; have K' := Lib.hid (KL.below (KL.push K.out _ _ _ 27) hy); clear hy K HB a0 a1 a2 al; have K := K'; clear K'; obtain ⟨HB, ⟨b0, b1, b2, -, -, -, bl⟩, ⟨a0, a1, a2, -, -, -, al⟩, -⟩ := K.out)
          | (go_at_call 18; (with_reducible refine (C3.out _ (HE.out.below (KL.alloc K.out _).HB)).mono ?_); rintro e y ⟨rfl, hy⟩; have K' := Lib.hid (KL.below (KL.push K.out _ _ _ 27) hy); clear hy K HB a0 a1 a2 al b0 b1 b2 bl; have K := K'; clear K'; obtain ⟨HB, ⟨d0, d1, d2, -, -, -, dl⟩, ⟨b0, b1, b2, -, -, -, bl⟩, ⟨a0, a1, a2, -, -, -, al⟩, -⟩ := K.out)
          | (go_at_call 7; (with_reducible refine (HA.out _ (Gl.below HG.out (KL.alloc K.out _).HB)).mono ?_); rintro e y ⟨rfl, hy⟩; have HZ := Lib.hid ((KL.alloc K.out _).HB.trans (hy.mono (KL.alloc K.out _).HB.size)); clear hy))
        all_goals (go_ret; exact ⟨rfl, HZ.out⟩)
      · have hcn : (c == 0) = false := by simpa using hc
        clear HTS HPS hc
        go_enter Tryz.func4, Tryz.ntmps4
        go_wp2_with (first
          | (go_at_call 16; (with_reducible refine (CT.out _ (HE.out.below K.out.HB)).mono ?_); rintro e y ⟨rfl, hy⟩; have K' := Lib.hid (KL.below K.out hy); clear hy K; have K := K'; clear K'; obtain ⟨HB, ⟨a0, a1, a2, -, -, -, al⟩, -⟩ := K.out)
          | (go_at_call 17; (with_reducible refine (CR.out _).mono ?_); rintro e y ⟨rfl, hy⟩; have K' := Lib.hid (KL.below K.out hy); clear hy K HB a0 a1 a2 al; have K := K'; clear K'; obtain ⟨HB, ⟨a0, a1, a2, -, -, -, al⟩, -⟩ := K.out)
          | (go_at_call 18; (with_reducible refine (CP.out _ (HE.out.below K.out.HB)).mono ?_); rintro e y ⟨rfl, hy⟩; have K' := Lib.hid (KL.below K.out hy); clear hy K HB a0 a1 a2 al; have K := K'; clear K'; obtain ⟨HB, ⟨a0, a1, a2, -, -, -, al⟩, -⟩ := K.out)
          | (go_at_call 19; (with_reducible refine (CQ.out _).mono ?_); rintro e y ⟨rfl, hy⟩; have K' := Lib.hid (KL.below (KL.push K.out _ _ _ 27) hy); clear hy K HB a0 a1 a2 al; have K := K'; clear K'; obtain ⟨HB, ⟨b0, b1, b2, -, -, -, bl⟩, ⟨a0, a1, a2, -, -, -, al⟩, -⟩ := K.out)
          | (go_at_call 7; (with_reducible refine (HA.out _ (Gl.below HG.out (KL.alloc K.out _).HB)).mono ?_); rintro e y ⟨rfl, hy⟩; have HZ := Lib.hid ((KL.alloc K.out _).HB.trans (hy.mono (KL.alloc K.out _).HB.size)); clear hy))
        all_goals (go_ret; exact ⟨rfl, HZ.out⟩)
    · have z1 : (a.s.size : Int) ≤ 4000 := by omega
      have z2 : ¬ (s.size : Int) ≤ 4000 := by omega
      go_enter Tryz.func4, Tryz.ntmps4
      go_wp2_with (first
        | (go_at_call 7; (with_reducible refine (HA.out _ (Gl.below HG.out K.out.HB)).mono ?_); rintro e y ⟨rfl, hy⟩; have HZ := Lib.hid (K.out.HB.trans (hy.mono K.out.HB.size)); clear hy))
      all_goals (go_ret; exact ⟨rfl, HZ.out⟩)
  · have z1 : ¬ (a.s.size : Int) ≤ 4000 := by omega
    go_enter Tryz.func4, Tryz.ntmps4
    go_wp2_with (first
      | (go_at_call 7; (with_reducible refine (HA.out _ (Gl.below HG.out K.out.HB)).mono ?_); rintro e y ⟨rfl, hy⟩; have HZ := Lib.hid (K.out.HB.trans (hy.mono K.out.HB.size)); clear hy))
    all_goals (go_ret; exact ⟨rfl, HZ.out⟩)
end Go.Proofs.YthomeplakcbfoaaGreatDoor
