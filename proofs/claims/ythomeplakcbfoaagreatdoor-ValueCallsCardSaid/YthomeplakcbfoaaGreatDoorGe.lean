/-
  Contracts of package value: Text and Parse.
-/
import Derived.Test.YthomeplakcbfoaaGreatDoorEV
import Derived.Test.YthomeplakcbfoaaGreatDoorGb
namespace Go.Proofs.YthomeplakcbfoaaGreatDoor
section
open Go.RowKit

theorem ba_ext {x y : ByteArray} (h : x.data.toList = y.data.toList) : x = y := by
  obtain ⟨⟨a⟩⟩ := x
  obtain ⟨⟨b⟩⟩ := y
  simp at h
  rw [h]
theorem ba_app (x y : ByteArray) : (x ++ y).data.toList = x.data.toList ++ y.data.toList := by simp
def baOf (l : Bs) : ByteArray := ⟨l.toArray⟩
theorem baOf_data (l : Bs) : (baOf l).data.toList = l := rfl
theorem baOf_of (s : ByteArray) : baOf s.data.toList = s := ba_ext rfl
theorem baOf_size (l : Bs) : (baOf l).size = l.length := by show l.toArray.size = _; simp
theorem quoB_esc (t : Bs) : quoB t = 39 :: (esc t ++ [39]) := rfl
def nullB : ByteArray := ⟨#[110, 117, 108, 108]⟩
def trueB : ByteArray := ⟨#[116, 114, 117, 101]⟩
def falseB : ByteArray := ⟨#[102, 97, 108, 115, 101]⟩
/-- A value's string, or the error. -/
def txtS (v : Va) : ByteArray × Int :=
  if v.ok = false then (⟨#[]⟩, 2) else if v.k = 0 then (nullB, 0) else if v.k = 1 then (baOf (Lib.itoa v.n), 0) else if v.k = 3 then (if tru v = true then trueB else falseB, 0) else (baOf (quoB v.s.data.toList), 0)
theorem esc_len (t : Bs) : (esc t).length ≤ 2 * t.length := by
  induction t with
  | nil => simp [esc]
  | cons c r ih =>
    have e : (esc (c :: r)).length = (if (c == 39) = true then [39, 39] else [c] : Bs).length + (esc r).length := by unfold esc; rw [List.flatMap_cons, List.length_append]
    rw [e, List.length_cons]
    split <;> simp <;> omega
theorem count_size (s old : ByteArray) (h : 1 ≤ old.size) : Lib.countB s old ≤ s.size := by
  have h1 := Lib.countB_mul_le old h s.size s (Nat.le_refl _)
  have h2 : Lib.countB s old * 1 ≤ Lib.countB s old * old.size := Nat.mul_le_mul_left _ h
  omega
abbrev sQ : ByteArray := ⟨#[39]⟩
abbrev sQQ : ByteArray := ⟨#[39, 39]⟩
theorem dbl_ (s : ByteArray) (w : World) (hs : s.size ≤ 4000000) (hg : Gl w) : Calls Tryz.prog 51 #[.string s, .string sQ, .string sQQ] w fun e w' => e = .returned (.string (baOf (esc s.data.toList))) ∧ Below w.heap.size w w' := by
  obtain ⟨m, hm⟩ := hg
  have hc := count_size s sQ (by decide)
  refine (Tryz.strings_ReplaceAll s sQ sQQ m w (by omega) hm (by decide) (by have e : sQQ.size = 2 := rfl; rw [e]; omega)).mono ?_
  rintro e w' ⟨rfl, hb⟩
  exact ⟨by rw [show sQ.data.toList = [39] from rfl, show sQQ.data.toList = [39, 39] from rfl, all_dbl]; rfl, hb⟩
theorem half_ (s : ByteArray) (w : World) (hs : s.size ≤ 4000000) (hg : Gl w) : Calls Tryz.prog 51 #[.string s, .string sQQ, .string sQ] w fun e w' => e = .returned (.string (baOf (Lib.replaceAll s.data.toList [39, 39] [39]))) ∧ Below w.heap.size w w' := by
  obtain ⟨m, hm⟩ := hg
  have hc := count_size s sQQ (by decide)
  exact Tryz.strings_ReplaceAll s sQQ sQ m w (by omega) hm (by decide) (by have e : sQ.size = 1 := rfl; rw [e]; omega)
theorem quo_app (s : ByteArray) : sQ ++ baOf (esc s.data.toList) ++ sQ = baOf (quoB s.data.toList) := by
  apply ba_ext
  rw [ba_app, ba_app, baOf_data, baOf_data, quoB_esc]
  rfl
theorem okSize (s : ByteArray) (h : okText s = true) : s.size ≤ 200 := by
  simp only [okText, Bool.and_eq_true, decide_eq_true_eq] at h
  exact h.1
set_option maxRecDepth 100000 in
set_option maxHeartbeats 1000000 in
theorem textV_ (v : Va) (w : World) (E : Env w) : Calls Tryz.prog 16 #[v.val] w fun e w' => e = .returned (.tuple #[.string (txtS v).1, .int .i64 (txtS v).2]) ∧ Below w.heap.size w w' := by
  obtain ⟨k, n, s⟩ := v
  have HV := Lib.hid fun x => valid_ k n s x
  have HE := Lib.hid E
  clear E
  cases ho : vld k n s
  · rw [ho] at HV
    have H : Hid (txtS ⟨k, n, s⟩ = (⟨#[]⟩, 2)) := Lib.hid (by unfold txtS Va.ok; rw [if_pos ho])
    clear ho
    go_enter Tryz.func16, Tryz.ntmps16
    go_wp2_with (first
      | (go_at_call 31; (with_reducible refine (HV.out _).mono ?_); rintro e y ⟨rfl, hb⟩; have K := Lib.hid (K1.below ⟨new1 w _, B3.new w _ _ _ 27⟩ hb); clear hb; obtain ⟨HB, ⟨r0, r1, r2, g0, g1, g2, rl⟩⟩ := K.out))
    go_ret2
    exact ⟨by rw [H.out]; rfl, K.out.HB⟩
  · by_cases k0 : k = 0
    · rw [ho] at HV
      have H : Hid (txtS ⟨k, n, s⟩ = (nullB, 0)) := Lib.hid (by unfold txtS Va.ok; rw [if_neg (by simp [ho]), if_pos k0])
      clear ho
      subst k0
      go_enter Tryz.func16, Tryz.ntmps16
      go_wp2_with (first
        | (go_at_call 31; (with_reducible refine (HV.out _).mono ?_); rintro e y ⟨rfl, hb⟩; have K := Lib.hid (K1.below ⟨new1 w _, B3.new w _ _ _ 27⟩ hb); clear hb; obtain ⟨HB, ⟨r0, r1, r2, g0, g1, g2, rl⟩⟩ := K.out))
      go_ret2
      exact ⟨by rw [H.out]; rfl, K.out.HB⟩
    · by_cases k1 : k = 1
      · obtain ⟨n0, n1⟩ := int_in k n s k1 ho
        rw [ho] at HV
        have H : Hid (txtS ⟨k, n, s⟩ = (baOf (Lib.itoa n), 0)) := Lib.hid (by unfold txtS Va.ok; rw [if_neg (by simp [ho]), if_neg k0, if_pos k1])
        clear ho k0
        subst k1
        have HI := Lib.hid fun x hx => itoa_ n (by omega) (by omega) x hx
        go_enter Tryz.func16, Tryz.ntmps16
        go_wp2_with (first
          | (go_at_call 31; (with_reducible refine (HV.out _).mono ?_); rintro e y ⟨rfl, hb⟩; have K := Lib.hid (K1.below ⟨new1 w _, B3.new w _ _ _ 27⟩ hb); clear hb; obtain ⟨HB, ⟨r0, r1, r2, g0, g1, g2, rl⟩⟩ := K.out)
          | (go_at_call 49; (with_reducible refine (HI.out _ (HE.out.below K.out.HB)).mono ?_); rintro e y2 ⟨rfl, hb⟩; have K2 := Lib.hid (K1.below K.out hb); clear hb))
        go_ret2
        exact ⟨by rw [H.out]; rfl, K2.out.HB⟩
      · by_cases k3 : k = 3
        · have HT := Lib.hid fun x => true_ k n s x
          have H : Hid (txtS ⟨k, n, s⟩ = (if eqV k n s 3 1 ⟨#[]⟩ = true then trueB else falseB, 0)) := Lib.hid (by unfold txtS Va.ok; rw [if_neg (by simp [ho]), if_neg k0, if_neg k1, if_pos k3]; rfl)
          rw [ho] at HV
          clear ho k0 k1
          subst k3
          cases hq : eqV 3 n s 3 1 ⟨#[]⟩
          all_goals
            rw [hq] at HT H
            have HF := Lib.hid fun b x => Tryz.strconv_FormatBool b x
            go_enter Tryz.func16, Tryz.ntmps16
            go_wp2_with (first
              | (go_at_call 31; (with_reducible refine (HV.out _).mono ?_); rintro e y ⟨rfl, hb⟩; have K := Lib.hid (K1.below ⟨new1 w _, B3.new w _ _ _ 27⟩ hb); clear hb; obtain ⟨HB, ⟨r0, r1, r2, g0, g1, g2, rl⟩⟩ := K.out)
              | (go_at_call 37; (with_reducible refine (HT.out _).mono ?_); rintro e y2 ⟨rfl, hb⟩; have K2 := Lib.hid (K1.below K.out hb); clear hb)
              | (go_at_call 50; (with_reducible refine (HF.out _ _).mono ?_); rintro e y3 ⟨rfl, rfl⟩))
            go_ret2
            exact ⟨by rw [H.out]; rfl, K2.out.HB⟩
        · have k2 : k = 2 := by
            rcases Classical.em (k = 2) with q | q
            · exact q
            · rw [vldx k n s k0 k1 q k3] at ho; cases ho
          have hok : okText s = true := by
            rw [k2, vld2, Bool.and_eq_true] at ho
            exact ho.2
          have hsz := okSize s hok
          have H : Hid (txtS ⟨k, n, s⟩ = (baOf (quoB s.data.toList), 0)) := Lib.hid (by unfold txtS Va.ok; rw [if_neg (by simp [ho]), if_neg k0, if_neg k1, if_neg k3])
          have HD := Lib.hid fun x hx => dbl_ s x (by omega) hx
          have HQ := Lib.hid (quo_app s)
          have hez : (baOf (esc s.data.toList)).size ≤ 8000000 := by
            have h1 := esc_len s.data.toList
            have h2 : s.data.toList.length = s.size := by simp
            rw [baOf_size]; omega
          rw [ho] at HV
          clear ho k0 k1 k3 hok
          subst k2
          go_enter Tryz.func16, Tryz.ntmps16
          go_wp2_with (first
            | (go_at_call 31; (with_reducible refine (HV.out _).mono ?_); rintro e y ⟨rfl, hb⟩; have K := Lib.hid (K1.below ⟨new1 w _, B3.new w _ _ _ 27⟩ hb); clear hb; obtain ⟨HB, ⟨r0, r1, r2, g0, g1, g2, rl⟩⟩ := K.out)
            | (go_at_call 51; (with_reducible refine (HD.out _ (HE.out.below K.out.HB).gl).mono ?_); rintro e y2 ⟨rfl, hb⟩; have K2 := Lib.hid (K1.below K.out hb); clear hb))
          go_ret2
          exact ⟨by rw [H.out, ← HQ.out]; rfl, K2.out.HB⟩
end
end Go.Proofs.YthomeplakcbfoaaGreatDoor
namespace Go.Proofs.YthomeplakcbfoaaGreatDoor
section
open Go.RowKit

def atoiO (l : Bs) : Option Int := match Lib.atoiAll l with | .ok n => some n | _ => none
theorem atoiO_some {l : Bs} {n : Int} (h : atoiO l = some n) : Lib.atoiAll l = .ok n := by
  unfold atoiO at h
  split at h
  · rename_i m hm
    cases h
    exact hm
  · cases h
theorem atoiO_none {l : Bs} (h : atoiO l = none) : ∀ n, Lib.atoiAll l ≠ .ok n := by
  intro n hn
  unfold atoiO at h
  rw [hn] at h
  cases h
/-- What a string may be Text of. -/
def likV (s : ByteArray) : Va :=
  if s.data.toList = [116, 114, 117, 101] then booV true else if s.data.toList = [102, 97, 108, 115, 101] then booV false
  else if 1 < s.size ∧ s.data.toList.head? = some 39 then txtV (baOf (Lib.replaceAll (s.extract 1 (s.size - 1)).data.toList [39, 39] [39]))
  else match atoiO s.data.toList with | some n => intV n | none => nulV
theorem byte39 {c : UInt8} (h : c = 39) : ((c.toNat : Int) == 39) = true := by rw [h]; rfl
set_option maxRecDepth 100000 in
set_option maxHeartbeats 1000000 in
theorem likely_ (s : ByteArray) (hs : s.size ≤ 4000000) (w : World) (E : Env w) : Calls Tryz.prog 55 #[.string s] w fun e w' => e = .returned (likV s).val ∧ Below w.heap.size w w' := by
  have HT := Lib.hid (toList_dat s)
  have HE := Lib.hid E
  clear E
  by_cases h1 : s.data.toList = [116, 114, 117, 101]
  · have H : Hid (likV s = booV true) := Lib.hid (by unfold likV; rw [if_pos h1])
    have t1 : (s.toList == [116, 114, 117, 101]) = true := by rw [HT.out, h1]; rfl
    clear h1
    go_enter Tryz.func55, Tryz.ntmps55
    go_wp2_with (first
      | (go_at_call 60; (with_reducible refine (boolean_ _ _).mono ?_); rintro e y ⟨rfl, hb⟩; have K := Lib.hid (K1.below ⟨new1 w _, B3.new w _ _ _ 27⟩ hb); clear hb; obtain ⟨HB, ⟨r0, r1, r2, g0, g1, g2, rl⟩⟩ := K.out))
    (try simp only [Exit.inBlock, Exit.then])
    exact ret_one rfl rfl K.out.q rfl ⟨by rw [H.out]; rfl, set3 HB _ (Nat.le_refl _) _ _ _⟩
  · have t1 : (s.toList == [116, 114, 117, 101]) = false := by rw [HT.out, beq_eq_false_iff_ne]; exact h1
    by_cases h2 : s.data.toList = [102, 97, 108, 115, 101]
    · have H : Hid (likV s = booV false) := Lib.hid (by unfold likV; rw [if_neg h1, if_pos h2])
      have t2 : (s.toList == [102, 97, 108, 115, 101]) = true := by rw [HT.out, h2]; rfl
      clear h1 h2
      go_enter Tryz.func55, Tryz.ntmps55
      go_wp2_with (first
        | (go_at_call 60; (with_reducible refine (boolean_ _ _).mono ?_); rintro e y ⟨rfl, hb⟩; have K := Lib.hid (K1.below ⟨new1 w _, B3.new w _ _ _ 27⟩ hb); clear hb; obtain ⟨HB, ⟨r0, r1, r2, g0, g1, g2, rl⟩⟩ := K.out))
      (try simp only [Exit.inBlock, Exit.then])
      exact ret_one rfl rfl K.out.q rfl ⟨by rw [H.out]; rfl, set3 HB _ (Nat.le_refl _) _ _ _⟩
    · have t2 : (s.toList == [102, 97, 108, 115, 101]) = false := by rw [HT.out, beq_eq_false_iff_ne]; exact h2
      by_cases h3 : 1 < s.size ∧ s.data.toList.head? = some 39
      · have H : Hid (likV s = txtV (baOf (Lib.replaceAll (s.extract 1 (s.size - 1)).data.toList [39, 39] [39]))) := Lib.hid (by unfold likV; rw [if_neg h1, if_neg h2, if_pos h3])
        obtain ⟨hl, hq⟩ := h3
        obtain ⟨c, r, hcr, h0, hc⟩ := ne_emp (s := s) (by omega)
        have hc39 : c = 39 := by rw [hcr] at hq; simpa using hq
        have t3 : ((s[0].toNat : Int) == 39) = true := byte39 (hc.trans hc39)
        have hl' : (1 : Int) < s.size := by omega
        have hx : (s.extract 1 (s.size - 1)).size ≤ 4000000 := by simp; omega
        have HH0 := fun x hx2 => half_ (s.extract 1 (s.size - 1)) x hx hx2
        obtain ⟨u, hu⟩ : ∃ u, baOf (Lib.replaceAll (s.extract 1 (s.size - 1)).data.toList [39, 39] [39]) = u := ⟨_, rfl⟩
        rw [hu] at HH0 H
        have HH := Lib.hid HH0
        clear HH0 hu
        clear h1 h2 hq hcr hc hc39 hx
        go_enter Tryz.func55, Tryz.ntmps55
        go_wp2_with (first
          | (go_at_call 51; (with_reducible refine (HH.out _ (HE.out.below (new1 w _)).gl).mono ?_); rintro e y ⟨rfl, hb⟩; have K := Lib.hid (K1.below ⟨new1 w _, B3.new w _ _ _ 27⟩ hb); clear hb; obtain ⟨HB, ⟨r0, r1, r2, g0, g1, g2, rl⟩⟩ := K.out)
          | (go_at_call 81; (with_reducible refine (text_ _ _).mono ?_); rintro e y ⟨rfl, hb⟩; have K := Lib.hid (K1.below (Hid.out (by assumption)) hb); clear hb; obtain ⟨HB, ⟨r0, r1, r2, g0, g1, g2, rl⟩⟩ := K.out))
        (try simp only [Exit.inBlock, Exit.then])
        exact ret_one rfl rfl K.out.q rfl ⟨by rw [H.out]; rfl, set3 HB _ (Nat.le_refl _) _ _ _⟩
      · have HTAIL : Hid (likV s = match atoiO s.data.toList with | some n => intV n | none => nulV) := Lib.hid (by unfold likV; rw [if_neg h1, if_neg h2, if_neg h3])
        have hcase : (1 < s.size ∧ ∃ h0 : 0 < s.size, ((s[0].toNat : Int) == 39) = false) ∨ s.size ≤ 1 := by
          rcases Nat.lt_or_ge 1 s.size with q | q
          · obtain ⟨c, r, hcr, h0, hc⟩ := ne_emp (s := s) (by omega)
            refine .inl ⟨q, h0, ?_⟩
            rw [show (39 : Int) = (((39 : UInt8).toNat : Nat) : Int) from rfl, byte_eq', hc, beq_eq_false_iff_ne]
            intro e
            apply h3
            exact ⟨q, by rw [hcr, e]; rfl⟩
          · exact .inr q
        clear h1 h2 h3
        cases ha : atoiO s.data.toList with
        | some n =>
          rw [ha] at HTAIL
          have HA := Lib.hid fun x => atoi_ok s n (atoiO_some ha) hs x
          clear ha
          rcases hcase with ⟨hl, h0, t3⟩ | hl
          · have hl' : (1 : Int) < s.size := by omega
            go_enter Tryz.func55, Tryz.ntmps55
            go_wp2_with (first
              | (go_at_call 82; (with_reducible refine (HA.out _).mono ?_); rintro e y ⟨rfl, hb⟩; have K := Lib.hid (K1.below ⟨new1 w _, B3.new w _ _ _ 27⟩ hb); clear hb; obtain ⟨HB, ⟨r0, r1, r2, g0, g1, g2, rl⟩⟩ := K.out)
              | (go_at_call 59; (with_reducible refine (integer_ _ _).mono ?_); rintro e y ⟨rfl, hb⟩; have K := Lib.hid (K1.below (Hid.out (by assumption)) hb); clear hb; obtain ⟨HB, ⟨r0, r1, r2, g0, g1, g2, rl⟩⟩ := K.out))
            (try simp only [Exit.inBlock, Exit.then])
            exact ret_one rfl rfl K.out.q rfl ⟨by rw [HTAIL.out]; rfl, set3 HB _ (Nat.le_refl _) _ _ _⟩
          · have hl' : ¬ (1 : Int) < s.size := by omega
            go_enter Tryz.func55, Tryz.ntmps55
            go_wp2_with (first
              | (go_at_call 82; (with_reducible refine (HA.out _).mono ?_); rintro e y ⟨rfl, hb⟩; have K := Lib.hid (K1.below ⟨new1 w _, B3.new w _ _ _ 27⟩ hb); clear hb; obtain ⟨HB, ⟨r0, r1, r2, g0, g1, g2, rl⟩⟩ := K.out)
              | (go_at_call 59; (with_reducible refine (integer_ _ _).mono ?_); rintro e y ⟨rfl, hb⟩; have K := Lib.hid (K1.below (Hid.out (by assumption)) hb); clear hb; obtain ⟨HB, ⟨r0, r1, r2, g0, g1, g2, rl⟩⟩ := K.out))
            (try simp only [Exit.inBlock, Exit.then])
            exact ret_one rfl rfl K.out.q rfl ⟨by rw [HTAIL.out]; rfl, set3 HB _ (Nat.le_refl _) _ _ _⟩
        | none =>
          rw [ha] at HTAIL
          have HA := Lib.hid fun x hx => atoi_no s (atoiO_none ha) hs x hx
          clear ha
          rcases hcase with ⟨hl, h0, t3⟩ | hl
          · have hl' : (1 : Int) < s.size := by omega
            go_enter Tryz.func55, Tryz.ntmps55
            go_wp2_with (first
              | (go_at_call 82; (with_reducible refine (HA.out _ (HE.out.below (new1 w _))).mono ?_); rintro e y ⟨nn, tt, pp, rfl, hb⟩; have K := Lib.hid (K1.below ⟨new1 w _, B3.new w _ _ _ 27⟩ hb); clear hb; obtain ⟨HB, ⟨r0, r1, r2, g0, g1, g2, rl⟩⟩ := K.out))
            (try simp only [Exit.inBlock, Exit.then])
            exact ret_one rfl rfl K.out.q rfl ⟨by rw [HTAIL.out]; rfl, set3 HB _ (Nat.le_refl _) _ _ _⟩
          · have hl' : ¬ (1 : Int) < s.size := by omega
            go_enter Tryz.func55, Tryz.ntmps55
            go_wp2_with (first
              | (go_at_call 82; (with_reducible refine (HA.out _ (HE.out.below (new1 w _))).mono ?_); rintro e y ⟨nn, tt, pp, rfl, hb⟩; have K := Lib.hid (K1.below ⟨new1 w _, B3.new w _ _ _ 27⟩ hb); clear hb; obtain ⟨HB, ⟨r0, r1, r2, g0, g1, g2, rl⟩⟩ := K.out))
            (try simp only [Exit.inBlock, Exit.then])
            exact ret_one rfl rfl K.out.q rfl ⟨by rw [HTAIL.out]; rfl, set3 HB _ (Nat.le_refl _) _ _ _⟩
/-- Parse of a string. -/
def parS (s : ByteArray) : Va × Int := if (txtS (likV s)).2 = 0 ∧ (txtS (likV s)).1 = s then (likV s, 0) else (nulV, 30)
set_option maxRecDepth 100000 in
set_option maxHeartbeats 1000000 in
theorem parse_ (s : ByteArray) (hs : s.size ≤ 4000000) (w : World) (E : Env w) : Calls Tryz.prog 18 #[.string s] w fun e w' => e = .returned (two (parS s)) ∧ Below w.heap.size w w' := by
  have HT := Lib.hid (toList_dat s)
  have HP : Hid (parS s = if (txtS (likV s)).2 = 0 ∧ (txtS (likV s)).1 = s then (likV s, 0) else (nulV, 30)) := Lib.hid rfl
  have HL := Lib.hid fun x hx => likely_ s hs x hx
  have HE := Lib.hid E
  clear E
  obtain ⟨v, hv⟩ : ∃ v, likV s = v := ⟨_, rfl⟩
  rw [hv] at HP HL
  clear hv
  obtain ⟨⟨t, e⟩, ht⟩ : ∃ r, txtS v = r := ⟨_, rfl⟩
  have HX := Lib.hid fun x hx => textV_ v x hx
  rw [ht] at HP HX
  simp only at HP HX
  clear ht
  by_cases he : e = 0
  · by_cases hq : t = s
    · rw [if_pos ⟨he, hq⟩] at HP
      subst he hq
      have hne : (t.toList == t.toList) = true := by simp
      go_enter Tryz.func18, Tryz.ntmps18
      go_wp2_with (first
        | (go_at_call 55; (with_reducible refine (HL.out _ (HE.out.below (new1 w _))).mono ?_); rintro e y ⟨rfl, hb⟩; have K : Hid (KL w (y.alloc _) _) := Lib.hid (KL.push (KL.below ((KL.refl w).push (.int .i64 0) (.int .i64 0) (.string ⟨#[]⟩) 27) hb) (.int .i64 v.k) (.int .i64 v.n) (.string v.s) 27); clear hb; obtain ⟨HB, ⟨v0, v1, v2, -, -, -, vl⟩, ⟨r0, r1, r2, g0, g1, g2, rl⟩, -⟩ := K.out)
        | (go_at_call 16; (with_reducible refine (HX.out _ (HE.out.below K.out.HB)).mono ?_); rintro e y2 ⟨rfl, hb⟩; have K2 := Lib.hid (KL.below K.out hb); clear hb; obtain ⟨HB, ⟨v0, v1, v2, -, -, -, vl⟩, ⟨r0, r1, r2, g0, g1, g2, rl⟩, -⟩ := K2.out))
      (try simp only [Exit.inBlock, Exit.then])
      exact ret_two rfl rfl K2.out.q.2.1 rfl ⟨by rw [HP.out]; rfl, set3 HB _ (Nat.le_refl _) _ _ _⟩
    · rw [if_neg (fun x => hq x.2)] at HP
      subst he
      have hne : (t.toList == s.toList) = false := by
        rw [beq_eq_false_iff_ne]
        intro e
        exact hq (ba_ext (by rw [← toList_dat, ← toList_dat]; exact e))
      clear hq
      go_enter Tryz.func18, Tryz.ntmps18
      go_wp2_with (first
        | (go_at_call 55; (with_reducible refine (HL.out _ (HE.out.below (new1 w _))).mono ?_); rintro e y ⟨rfl, hb⟩; have K : Hid (KL w (y.alloc _) _) := Lib.hid (KL.push (KL.below ((KL.refl w).push (.int .i64 0) (.int .i64 0) (.string ⟨#[]⟩) 27) hb) (.int .i64 v.k) (.int .i64 v.n) (.string v.s) 27); clear hb; obtain ⟨HB, ⟨v0, v1, v2, -, -, -, vl⟩, ⟨r0, r1, r2, g0, g1, g2, rl⟩, -⟩ := K.out)
        | (go_at_call 16; (with_reducible refine (HX.out _ (HE.out.below K.out.HB)).mono ?_); rintro e y2 ⟨rfl, hb⟩; have K2 := Lib.hid (KL.below K.out hb); clear hb; obtain ⟨HB, ⟨v0, v1, v2, -, -, -, vl⟩, ⟨r0, r1, r2, g0, g1, g2, rl⟩, -⟩ := K2.out))
      (try simp only [Exit.inBlock, Exit.then])
      exact ret_two rfl rfl K2.out.q.2.1 rfl ⟨by rw [HP.out]; rfl, set3 HB _ (Nat.le_refl _) _ _ _⟩
  · rw [if_neg (fun x => he x.1)] at HP
    have hne : (e != 0) = true := by simpa using he
    clear he
    go_enter Tryz.func18, Tryz.ntmps18
    go_wp2_with (first
      | (go_at_call 55; (with_reducible refine (HL.out _ (HE.out.below (new1 w _))).mono ?_); rintro e y ⟨rfl, hb⟩; have K : Hid (KL w (y.alloc _) _) := Lib.hid (KL.push (KL.below ((KL.refl w).push (.int .i64 0) (.int .i64 0) (.string ⟨#[]⟩) 27) hb) (.int .i64 v.k) (.int .i64 v.n) (.string v.s) 27); clear hb; obtain ⟨HB, ⟨v0, v1, v2, -, -, -, vl⟩, ⟨r0, r1, r2, g0, g1, g2, rl⟩, -⟩ := K.out)
      | (go_at_call 16; (with_reducible refine (HX.out _ (HE.out.below K.out.HB)).mono ?_); rintro e y2 ⟨rfl, hb⟩; have K2 := Lib.hid (KL.below K.out hb); clear hb; obtain ⟨HB, ⟨v0, v1, v2, -, -, -, vl⟩, ⟨r0, r1, r2, g0, g1, g2, rl⟩, -⟩ := K2.out))
    (try simp only [Exit.inBlock, Exit.then])
    exact ret_two rfl rfl K2.out.q.2.1 rfl ⟨by rw [HP.out]; rfl, set3 HB _ (Nat.le_refl _) _ _ _⟩
end
end Go.Proofs.YthomeplakcbfoaaGreatDoor
namespace Go.Proofs.YthomeplakcbfoaaGreatDoor
section

theorem textL_take : ∀ (n : Nat) (l : Bs) (q : Bs × Nat), l.length ≤ n → textL l = some q → l.take q.2 = esc q.1 ++ [39]
  | _, [], q, _, h => by simp [textL] at h
  | 0, _ :: _, _, hn, _ => by simp at hn
  | n + 1, [c], q, _, h => by
    simp only [textL] at h
    split at h
    · rename_i hc
      cases h
      have e : c = 39 := by simpa using hc
      subst e
      rfl
    · cases h
  | n + 1, c :: d :: r, q, hn, h => by
    simp only [List.length_cons] at hn
    simp only [textL] at h
    split at h
    · rename_i hc
      have e : c = 39 := by simpa using hc
      subst e
      split at h
      · rename_i hd
        have e : d = 39 := by simpa using hd
        subst e
        simp only [Option.map_eq_some_iff] at h
        obtain ⟨a, ha, rfl⟩ := h
        have ih := textL_take n r a (by omega) ha
        rw [esc_one, List.take_succ_cons, List.take_succ_cons, ih]
        rfl
      · cases h
        rfl
    · split at h
      · rename_i hc hq
        simp only [Option.map_eq_some_iff] at h
        obtain ⟨a, ha, rfl⟩ := h
        have ih := textL_take n (d :: r) a (by simp; omega) ha
        have e : esc (c :: a.1) = c :: esc a.1 := by unfold esc; rw [List.flatMap_cons, if_neg hc]; rfl
        rw [e, List.take_succ_cons, ih]
        rfl
      · cases h
theorem many_cons {p : UInt8 → Bool} {c : UInt8} {r : Bs} (h : p c = true) : many p (c :: r) = 1 + many p r := by
  unfold many; rw [List.takeWhile_cons, if_pos h]; simp; omega
theorem many_not {p : UInt8 → Bool} {c : UInt8} {r : Bs} (h : p c = false) : many p (c :: r) = 0 := by
  unfold many; rw [List.takeWhile_cons, if_neg (by simp [h])]; rfl
theorem quot39 : quotB 39 = false := by decide
/-- One piece: bytes that may stand in a string, up to a quotation mark; another one behind it begins the next piece. -/
theorem textL_piece : ∀ (l : Bs), textL l = match l.drop (many quotB l) with
    | [] => none
    | c :: r => if (c == 39) = true then (if r.head? = some 39 then (textL r.tail).map (fun q => (l.take (many quotB l) ++ 39 :: q.1, q.2 + (many quotB l + 2))) else some (l.take (many quotB l), many quotB l + 1)) else none
  | [] => rfl
  | [c] => by
    cases hq : quotB c
    · rw [many_not hq]
      simp only [textL, List.drop_zero, List.take_zero]
      rfl
    · rw [many_cons hq]
      have hc : ¬ (c == 39) = true := by intro e; have : c = 39 := by simpa using e
                                         rw [this, quot39] at hq; cases hq
      simp only [textL]
      rw [if_neg hc]
      rfl
  | c :: d :: r => by
    have ih := textL_piece (d :: r)
    cases hq : quotB c
    · rw [many_not hq]
      simp only [textL, List.drop_zero, List.take_zero, List.nil_append, hq, Bool.false_eq_true, if_false, List.head?_cons, Option.some.injEq, List.tail_cons]
      by_cases hc : (c == 39) = true
      · rw [if_pos hc, if_pos hc]
        have e : c = 39 := by simpa using hc
        by_cases hd : d = 39
        · rw [if_pos (by simpa using hd), if_pos hd]
        · rw [if_neg (by simpa using hd), if_neg hd]
      · rw [if_neg hc, if_neg hc]
    · have hc : ¬ (c == 39) = true := by
        intro e
        have e2 : c = 39 := by simpa using e
        rw [e2, quot39] at hq
        cases hq
      have hdr : (c :: d :: r).drop (1 + many quotB (d :: r)) = (d :: r).drop (many quotB (d :: r)) := by rw [Nat.add_comm, List.drop_succ_cons]
      have htk : (c :: d :: r).take (1 + many quotB (d :: r)) = c :: (d :: r).take (many quotB (d :: r)) := by rw [Nat.add_comm, List.take_succ_cons]
      rw [many_cons hq, hdr, htk]
      simp only [textL, hq, if_true]
      rw [if_neg hc, ih]
      cases (d :: r).drop (many quotB (d :: r)) with
      | nil => rfl
      | cons x t =>
        simp only
        by_cases h1 : (x == 39) = true
        · rw [if_pos h1, if_pos h1]
          by_cases h2 : t.head? = some 39
          · rw [if_pos h2, if_pos h2]
            cases textL t.tail with
            | none => rfl
            | some q => simp; omega
          · rw [if_neg h2, if_neg h2]
            simp; omega
        · rw [if_neg h1, if_neg h1]
          rfl
theorem parS_quo (b : Bs) (h : (b.all fun c => decide (32 ≤ c.toNat) && decide (c.toNat ≤ 126)) = true) : parS (baOf (quoB b)) = if b.length ≤ 200 then (txtV (baOf b), 0) else (nulV, 30) := by
  have hsz : (baOf (quoB b)).size = (esc b).length + 2 := by rw [baOf_size, quoB_esc]; simp
  have hin : ((baOf (quoB b)).extract 1 ((baOf (quoB b)).size - 1)).data.toList = esc b := by
    rw [Lib.extract_data, hsz, baOf_data, quoB_esc]
    simp
  have hl : likV (baOf (quoB b)) = txtV (baOf b) := by
    unfold likV
    rw [if_neg (by rw [baOf_data, quoB_esc]; simp), if_neg (by rw [baOf_data, quoB_esc]; simp), if_pos ⟨by rw [hsz]; omega, by rw [baOf_data, quoB_esc]; rfl⟩, hin, all_half]
  have hall : b.all okByte = true := by
    rw [List.all_eq_true] at h ⊢
    intro c hc
    have := h c hc
    simp only [Bool.and_eq_true, decide_eq_true_eq] at this
    simp only [okByte, Bool.and_eq_true, decide_eq_true_eq]
    omega
  have hok : (txtV (baOf b)).ok = decide (b.length ≤ 200) := by
    unfold Va.ok txtV
    rw [vld2]
    unfold okText
    rw [baOf_data, baOf_size, hall]
    simp
  have ht : txtS (txtV (baOf b)) = if b.length ≤ 200 then (baOf (quoB b), 0) else (⟨#[]⟩, 2) := by
    unfold txtS
    rw [hok]
    by_cases hq : b.length ≤ 200
    · rw [if_pos hq, if_neg (by simp [hq])]
      rfl
    · rw [if_neg hq, if_pos (by simp [hq])]
  unfold parS
  rw [hl, ht]
  by_cases hq : b.length ≤ 200
  · rw [if_pos hq, if_pos hq, if_pos ⟨rfl, rfl⟩]
  · rw [if_neg hq, if_neg hq, if_neg (by simp)]
end
end Go.Proofs.YthomeplakcbfoaaGreatDoor
