/-
  The law of writing: Text and Same of the reference, for any tokens; what is written has just these tokens.
-/
import Derived.Test.YtpmppndhfljcpaaGreatDoorQU
import Derived.Test.YtpmppndhfljcpaaGreatDoorQV
import Derived.Test.YtpmppndhfljcpaaGreatDoorQW
namespace Go.Proofs.YtpmppndhfljcpaaGreatDoor
open Go.RowKit

theorem sameBoth (A B : Option Addr) (c d : Nat) (l m : List Tv) (hl : l.length ≤ 4398046511000) : ∃ q : Bool,
    (∀ w, SlT w A l → SlT w B m → Calls Tryz.prog 32 #[.slice A l.length c, .slice B m.length d] w fun e w' => e = .returned (.bool q) ∧ Below w.heap.size w w') ∧
    (∀ w, SlT w A l → SlT w B m → Calls Tryz.prog 33 #[.slice A l.length c, .slice B m.length d] w fun e w' => e = .returned (.bool q) ∧ Below w.heap.size w w') := by
  rcases Classical.em (SameL l m) with h | h
  · refine ⟨true, fun w ha hb => (lexSame_ A B c d l m w hl ha hb).mono fun e w' hq => ?_, fun w ha hb => (refSame_ A B c d l m w hl ha hb).mono fun e w' hq => ?_⟩ <;>
    · obtain ⟨q, rfl, h1, h2⟩ := hq
      rw [h1.2 h]
      exact ⟨rfl, h2⟩
  · refine ⟨false, fun w ha hb => (lexSame_ A B c d l m w hl ha hb).mono fun e w' hq => ?_, fun w ha hb => (refSame_ A B c d l m w hl ha hb).mono fun e w' hq => ?_⟩ <;>
    · obtain ⟨q, rfl, h1, h2⟩ := hq
      cases q
      · exact ⟨rfl, h2⟩
      · exact absurd (h1.1 rfl) h
set_option maxRecDepth 100000 in
set_option maxHeartbeats 2000000 in
theorem lexText_few (A B : Option Addr) (c d : Nat) (l m : List Tv) (w : World) (E : Env w) (hl : cntT l ≤ 1100000) (hm : cntT m ≤ 1100000) (ha : SlT w A l) (hb : SlT w B m) (h : ¬ (cntT l ≤ 4200 ∧ cntT m ≤ 4200)) :
    Calls Tryz.prog 7 #[.slice A l.length c, .slice B m.length d] w fun e w' => e = .returned (.bool true) ∧ Below w.heap.size w w' := by
  have HE := Lib.hid E
  have HAw := Lib.hid fun x hx => lexAwake_ x hx
  have HA := Lib.hid ha
  have HBm := Lib.hid hb
  have HF1 := Lib.hid fun x hx => few_ A c l x hl hx
  have HF2 := Lib.hid fun x hx => few_ B d m x hm hx
  by_cases h1 : cntT l ≤ 4200
  · have e1 : decide ((cntT l : Int) ≤ 4200) = true := by simp; omega
    have e2 : decide ((cntT m : Int) ≤ 4200) = false := by simp; omega
    rw [e1] at HF1
    rw [e2] at HF2
    clear E ha hb h h1 e1 e2
    go_enter Tryz.func7, Tryz.ntmps7
    go_wp2_with fail
    refine (HF1.out _ HA.out).mono ?_
    rintro e y ⟨rfl, hb⟩
    have B1 := Lib.hid hb
    have S2 := Lib.hid (HBm.out.below hb)
    clear hb
    go_wp2_with fail
    refine (HF2.out _ S2.out).mono ?_
    rintro e y2 ⟨rfl, hb⟩
    have B2 := Lib.hid (B1.out.trans (hb.mono B1.out.size))
    clear hb
    go_wp2_with (first
      | (go_at_call 27; (with_reducible refine (HAw.out _ (HE.out.below B2.out)).mono ?_); rintro e y3 ⟨rfl, hb⟩; have HB := Lib.hid (B2.out.trans (hb.mono B2.out.size)); clear hb))
    go_ret
    exact ⟨rfl, HB.out⟩
  · have e1 : decide ((cntT l : Int) ≤ 4200) = false := by simp; omega
    rw [e1] at HF1
    clear E ha hb h h1 e1
    go_enter Tryz.func7, Tryz.ntmps7
    go_wp2_with fail
    refine (HF1.out _ HA.out).mono ?_
    rintro e y ⟨rfl, hb⟩
    have B1 := Lib.hid hb
    clear hb
    go_wp2_with (first
      | (go_at_call 27; (with_reducible refine (HAw.out _ (HE.out.below B1.out)).mono ?_); rintro e y3 ⟨rfl, hb⟩; have HB := Lib.hid (B1.out.trans (hb.mono B1.out.size)); clear hb))
    go_ret
    exact ⟨rfl, HB.out⟩
set_option maxRecDepth 100000 in
set_option maxHeartbeats 4000000 in
theorem lexText_err (A B : Option Addr) (c d : Nat) (l m : List Tv) (w : World) (E : Env w) (hl : cntT l ≤ 4200) (hm : cntT m ≤ 4200) (hz : ∀ v ∈ l, v.t.size ≤ 4000000) (ha : SlT w A l) (hb : SlT w B m) (er : Int) (her : (er == 0) = false) (hT : textS l = (⟨#[]⟩, er)) :
    Calls Tryz.prog 7 #[.slice A l.length c, .slice B m.length d] w fun e w' => e = .returned (.bool true) ∧ Below w.heap.size w w' := by
  have HE := Lib.hid E
  have HAw := Lib.hid fun x hx => lexAwake_ x hx
  have HA := Lib.hid ha
  have HBm := Lib.hid hb
  have hll := cntT_len l
  have hml := cntT_len m
  have e1 : decide ((cntT l : Int) ≤ 4200) = true := by simp; omega
  have e2 : decide ((cntT m : Int) ≤ 4200) = true := by simp; omega
  have hF1 := fun x hx => few_ A c l x (by omega) hx
  have hF2 := fun x hx => few_ B d m x (by omega) hx
  rw [e1] at hF1
  rw [e2] at hF2
  have HF1 := Lib.hid hF1
  have HF2 := Lib.hid hF2
  have hT1 := fun x hx hy => lexText_ A c l x hx (by omega) hy
  have hT2 := fun x hy => refTextL_ A c l x (by omega) hz hy
  obtain ⟨q, hS1, hS2⟩ := sameBoth A B c d l m (by omega)
  have HS1 := Lib.hid hS1
  have HS2 := Lib.hid hS2
  rw [hT] at hT1 hT2
  have HT1 := Lib.hid hT1
  have HT2 := Lib.hid hT2
  clear E ha hb hl hm hz hT hT1 hT2 hS1 hS2 hF1 hF2 e1 e2
  cases q
  all_goals
    go_enter Tryz.func7, Tryz.ntmps7
    go_wp2_with fail
    refine (HF1.out _ HA.out).mono ?_
    rintro e y ⟨rfl, hb⟩
    have B1 := Lib.hid hb
    have SA1 := Lib.hid (HA.out.below hb)
    have SB1 := Lib.hid (HBm.out.below hb)
    clear hb
    go_wp2_with fail
    refine (HF2.out _ SB1.out).mono ?_
    rintro e y2 ⟨rfl, hb⟩
    have B2 := Lib.hid (B1.out.trans (hb.mono B1.out.size))
    have SA2 := Lib.hid (SA1.out.below hb)
    have SB2 := Lib.hid (SB1.out.below hb)
    clear hb
    go_wp2_with (first
      | (go_at_call 31; (with_reducible refine (HT1.out _ (HE.out.below B2.out) SA2.out).mono ?_); rintro e y3 ⟨rfl, hb⟩; have B3 := Lib.hid (B2.out.trans (hb.mono B2.out.size)); have SA3 := Lib.hid (SA2.out.below hb); have SB3 := Lib.hid (SB2.out.below hb); clear hb)
      | (go_at_call 35; (with_reducible refine (HT2.out _ SA3.out).mono ?_); rintro e y4 ⟨rfl, hb⟩; have B4 := Lib.hid (B3.out.trans (hb.mono B3.out.size)); have SA4 := Lib.hid (SA3.out.below hb); have SB4 := Lib.hid (SB3.out.below hb); clear hb)
      | (go_at_call 32; (with_reducible refine (HS1.out _ SA4.out SB4.out).mono ?_); rintro e y5 ⟨rfl, hb⟩; have B5 := Lib.hid (B4.out.trans (hb.mono B4.out.size)); have SA5 := Lib.hid (SA4.out.below hb); have SB5 := Lib.hid (SB4.out.below hb); clear hb)
      | (go_at_call 33; (with_reducible refine (HS2.out _ SA5.out SB5.out).mono ?_); rintro e y6 ⟨rfl, hb⟩; have B6 := Lib.hid (B5.out.trans (hb.mono B5.out.size)); have SA6 := Lib.hid (SA5.out.below hb); clear hb)
      | (go_at_call 27; (with_reducible refine (HAw.out _ (HE.out.below B6.out)).mono ?_); rintro e y9 ⟨rfl, hb⟩; have HB := Lib.hid (B6.out.trans (hb.mono B6.out.size)); clear hb))
    go_ret
    exact ⟨rfl, HB.out⟩
set_option maxRecDepth 100000 in
set_option maxHeartbeats 4000000 in
theorem lexText_much (A B : Option Addr) (c d : Nat) (l m : List Tv) (w : World) (E : Env w) (hl : cntT l ≤ 4200) (hm : cntT m ≤ 4200) (hz : ∀ v ∈ l, v.t.size ≤ 4000000) (ha : SlT w A l) (hb : SlT w B m) (hT : textS l = (baOf (joinT l), 0)) (h4 : 4000 < l.length) :
    Calls Tryz.prog 7 #[.slice A l.length c, .slice B m.length d] w fun e w' => e = .returned (.bool true) ∧ Below w.heap.size w w' := by
  have HE := Lib.hid E
  have HAw := Lib.hid fun x hx => lexAwake_ x hx
  have HA := Lib.hid ha
  have HBm := Lib.hid hb
  have hll := cntT_len l
  have hml := cntT_len m
  have e1 : decide ((cntT l : Int) ≤ 4200) = true := by simp; omega
  have e2 : decide ((cntT m : Int) ≤ 4200) = true := by simp; omega
  have hF1 := fun x hx => few_ A c l x (by omega) hx
  have hF2 := fun x hx => few_ B d m x (by omega) hx
  rw [e1] at hF1
  rw [e2] at hF2
  have HF1 := Lib.hid hF1
  have HF2 := Lib.hid hF2
  have hT1 := fun x hx hy => lexText_ A c l x hx (by omega) hy
  have hT2 := fun x hy => refTextL_ A c l x (by omega) hz hy
  obtain ⟨q, hS1, hS2⟩ := sameBoth A B c d l m (by omega)
  have HS1 := Lib.hid hS1
  have HS2 := Lib.hid hS2
  have h4' : ¬ (l.length : Int) ≤ 4000 := by omega
  rw [hT] at hT1 hT2
  generalize baOf (joinT l) = tb at *
  have HT1 := Lib.hid hT1
  have HT2 := Lib.hid hT2
  clear E ha hb hl hm hz hT hT1 hT2 hS1 hS2 hF1 hF2 e1 e2
  cases q
  all_goals
    go_enter Tryz.func7, Tryz.ntmps7
    go_wp2_with fail
    refine (HF1.out _ HA.out).mono ?_
    rintro e y ⟨rfl, hb⟩
    have B1 := Lib.hid hb
    have SA1 := Lib.hid (HA.out.below hb)
    have SB1 := Lib.hid (HBm.out.below hb)
    clear hb
    go_wp2_with fail
    refine (HF2.out _ SB1.out).mono ?_
    rintro e y2 ⟨rfl, hb⟩
    have B2 := Lib.hid (B1.out.trans (hb.mono B1.out.size))
    have SA2 := Lib.hid (SA1.out.below hb)
    have SB2 := Lib.hid (SB1.out.below hb)
    clear hb
    go_wp2_with (first
      | (go_at_call 31; (with_reducible refine (HT1.out _ (HE.out.below B2.out) SA2.out).mono ?_); rintro e y3 ⟨rfl, hb⟩; have B3 := Lib.hid (B2.out.trans (hb.mono B2.out.size)); have SA3 := Lib.hid (SA2.out.below hb); have SB3 := Lib.hid (SB2.out.below hb); clear hb)
      | (go_at_call 35; (with_reducible refine (HT2.out _ SA3.out).mono ?_); rintro e y4 ⟨rfl, hb⟩; have B4 := Lib.hid (B3.out.trans (hb.mono B3.out.size)); have SA4 := Lib.hid (SA3.out.below hb); have SB4 := Lib.hid (SB3.out.below hb); clear hb)
      | (go_at_call 32; (with_reducible refine (HS1.out _ SA4.out SB4.out).mono ?_); rintro e y5 ⟨rfl, hb⟩; have B5 := Lib.hid (B4.out.trans (hb.mono B4.out.size)); have SA5 := Lib.hid (SA4.out.below hb); have SB5 := Lib.hid (SB4.out.below hb); clear hb)
      | (go_at_call 33; (with_reducible refine (HS2.out _ SA5.out SB5.out).mono ?_); rintro e y6 ⟨rfl, hb⟩; have B6 := Lib.hid (B5.out.trans (hb.mono B5.out.size)); have SA6 := Lib.hid (SA5.out.below hb); clear hb)
      | (go_at_call 27; (with_reducible refine (HAw.out _ (HE.out.below B6.out)).mono ?_); rintro e y9 ⟨rfl, hb⟩; have HB := Lib.hid (B6.out.trans (hb.mono B6.out.size)); clear hb))
    go_ret
    exact ⟨rfl, HB.out⟩
theorem lexText_back (l : List Tv) (hok : okL l = true) (h4 : l.length ≤ 4000) : ∃ r, lexS (baOf (joinT l)).data.toList = (r, none) ∧ SameL l (tvL (baOf (joinT l)).data.toList r) := by
  obtain ⟨r, hr, hrm⟩ := lexS_join (l.map Tv.tk) (by
    intro x hx
    obtain ⟨v, hv, rfl⟩ := List.mem_map.1 hx
    exact List.all_eq_true.1 hok v hv) (by rw [List.length_map]; exact h4)
  refine ⟨r, hr, ?_⟩
  unfold SameL
  rw [tvL_key, hrm, List.map_map]
  refine List.map_congr_left fun v _ => ?_
  show (v.k, v.t, v.n) = (v.k, baOf v.t.data.toList, v.n)
  rw [baOf_of]
set_option maxRecDepth 100000 in
set_option maxHeartbeats 4000000 in
theorem lexText_ok (A B : Option Addr) (c d : Nat) (l m : List Tv) (w : World) (E : Env w) (hl : cntT l ≤ 4200) (hm : cntT m ≤ 4200) (hz : ∀ v ∈ l, v.t.size ≤ 4000000) (ha : SlT w A l) (hb : SlT w B m) (hok : okL l = true) (hT : textS l = (baOf (joinT l), 0)) (hj : (joinT l).length ≤ 20000) (h4 : l.length ≤ 4000) :
    Calls Tryz.prog 7 #[.slice A l.length c, .slice B m.length d] w fun e w' => e = .returned (.bool true) ∧ Below w.heap.size w w' := by
  have HE := Lib.hid E
  have HAw := Lib.hid fun x hx => lexAwake_ x hx
  have HA := Lib.hid ha
  have HBm := Lib.hid hb
  have hll := cntT_len l
  have hml := cntT_len m
  have e1 : decide ((cntT l : Int) ≤ 4200) = true := by simp; omega
  have e2 : decide ((cntT m : Int) ≤ 4200) = true := by simp; omega
  have hF1 := fun x hx => few_ A c l x (by omega) hx
  have hF2 := fun x hx => few_ B d m x (by omega) hx
  rw [e1] at hF1
  rw [e2] at hF2
  have HF1 := Lib.hid hF1
  have HF2 := Lib.hid hF2
  have hT1 := fun x hx hy => lexText_ A c l x hx (by omega) hy
  have hT2 := fun x hy => refTextL_ A c l x (by omega) hz hy
  obtain ⟨q, hS1, hS2⟩ := sameBoth A B c d l m (by omega)
  have HS1 := Lib.hid hS1
  have HS2 := Lib.hid hS2
  have h4' : (l.length : Int) ≤ 4000 := by omega
  obtain ⟨r, hr, hsm⟩ := lexText_back l hok h4
  have hbz : (baOf (joinT l)).size ≤ 20000 := by rw [baOf_size]; exact hj
  have H5 := Lib.hid fun x hx => lexOk (baOf (joinT l)) x hx hbz r hr
  have hrl : (tvL (baOf (joinT l)).data.toList r).length = r.length := tvL_len _ _
  have H7 : Hid (∀ (b : Option Addr) (k : Nat) (x : World), SlT x A l → SlT x b (tvL (baOf (joinT l)).data.toList r) → Calls Tryz.prog 33 #[.slice A l.length c, .slice b r.length k] x fun e w' => e = .returned (.bool true) ∧ Below x.heap.size x w') :=
    Lib.hid fun b k x hx hy => refSame_true A b _ _ c k _ _ rfl hrl (by omega) hsm x hx hy
  rw [hT] at hT1 hT2
  generalize baOf (joinT l) = tb at *
  have HT1 := Lib.hid hT1
  have HT2 := Lib.hid hT2
  clear E ha hb hl hm hz hT hT1 hT2 hS1 hS2 hF1 hF2 e1 e2 hr hsm hbz hrl hj h4 hok
  cases q
  all_goals
    go_enter Tryz.func7, Tryz.ntmps7
    go_wp2_with fail
    refine (HF1.out _ HA.out).mono ?_
    rintro e y ⟨rfl, hb⟩
    have B1 := Lib.hid hb
    have SA1 := Lib.hid (HA.out.below hb)
    have SB1 := Lib.hid (HBm.out.below hb)
    clear hb
    go_wp2_with fail
    refine (HF2.out _ SB1.out).mono ?_
    rintro e y2 ⟨rfl, hb⟩
    have B2 := Lib.hid (B1.out.trans (hb.mono B1.out.size))
    have SA2 := Lib.hid (SA1.out.below hb)
    have SB2 := Lib.hid (SB1.out.below hb)
    clear hb
    go_wp2_with (first
      | (go_at_call 31; (with_reducible refine (HT1.out _ (HE.out.below B2.out) SA2.out).mono ?_); rintro e y3 ⟨rfl, hb⟩; have B3 := Lib.hid (B2.out.trans (hb.mono B2.out.size)); have SA3 := Lib.hid (SA2.out.below hb); have SB3 := Lib.hid (SB2.out.below hb); clear hb)
      | (go_at_call 35; (with_reducible refine (HT2.out _ SA3.out).mono ?_); rintro e y4 ⟨rfl, hb⟩; have B4 := Lib.hid (B3.out.trans (hb.mono B3.out.size)); have SA4 := Lib.hid (SA3.out.below hb); have SB4 := Lib.hid (SB3.out.below hb); clear hb)
      | (go_at_call 32; (with_reducible refine (HS1.out _ SA4.out SB4.out).mono ?_); rintro e y5 ⟨rfl, hb⟩; have B5 := Lib.hid (B4.out.trans (hb.mono B4.out.size)); have SA5 := Lib.hid (SA4.out.below hb); have SB5 := Lib.hid (SB4.out.below hb); clear hb)
      | (go_at_call 33; (with_reducible refine (HS2.out _ SA5.out SB5.out).mono ?_); rintro e y6 ⟨rfl, hb⟩; have B6 := Lib.hid (B5.out.trans (hb.mono B5.out.size)); have SA6 := Lib.hid (SA5.out.below hb); clear hb)
      | (go_at_call 28; (with_reducible refine (H5.out _ (HE.out.below B6.out)).mono ?_); rintro e y7 ⟨a5, cap5, rfl, hf, hb⟩; have B7 := Lib.hid ((B6.out.trans (hb.mono B6.out.size)).alloc (Nat.le_trans B6.out.size hb.size) (.cells #[.int .i64 0, .string ⟨#[]⟩, .int .i64 0, .int .i64 0] 45)); have SA7 := Lib.hid ((SA6.out.below hb).below (new1 _ (.cells #[.int .i64 0, .string ⟨#[]⟩, .int .i64 0, .int .i64 0] 45))); have N7 := Lib.hid (hf.below (new1 _ (.cells #[.int .i64 0, .string ⟨#[]⟩, .int .i64 0, .int .i64 0] 45))); clear hb hf)
      | (go_at_call 33; (with_reducible refine (H7.out _ _ _ SA7.out N7.out).mono ?_); rintro e y8 ⟨rfl, hb⟩; have B8 := Lib.hid (B7.out.trans (hb.mono B7.out.size)); clear hb)
      | (go_at_call 27; (with_reducible refine (HAw.out _ (HE.out.below B8.out)).mono ?_); rintro e y9 ⟨rfl, hb⟩; have HB := Lib.hid (B8.out.trans (hb.mono B8.out.size)); clear hb))
    go_ret
    exact ⟨rfl, HB.out⟩
theorem lexTextLaw_ (A B : Option Addr) (c d : Nat) (l m : List Tv) (w : World) (E : Env w) (hl : cntT l ≤ 1100000) (hm : cntT m ≤ 1100000) (hz : ∀ v ∈ l, v.t.size ≤ 4000000) (ha : SlT w A l) (hb : SlT w B m) :
    Calls Tryz.prog 7 #[.slice A l.length c, .slice B m.length d] w fun e w' => e = .returned (.bool true) ∧ Below w.heap.size w w' := by
  by_cases h : cntT l ≤ 4200 ∧ cntT m ≤ 4200
  · obtain ⟨h1, h2⟩ := h
    cases hok : okL l with
    | false => exact lexText_err A B c d l m w E h1 h2 hz ha hb 2 rfl (by unfold textS; rw [if_neg (by rw [hok]; decide)])
    | true =>
      by_cases hj : 20000 < (joinT l).length
      · exact lexText_err A B c d l m w E h1 h2 hz ha hb 3 rfl (by unfold textS; rw [if_pos hok, if_pos hj])
      · have hT : textS l = (baOf (joinT l), 0) := by unfold textS; rw [if_pos hok, if_neg hj]
        by_cases h4 : 4000 < l.length
        · exact lexText_much A B c d l m w E h1 h2 hz ha hb hT h4
        · exact lexText_ok A B c d l m w E h1 h2 hz ha hb hok hT (by omega) (by omega)
  · exact lexText_few A B c d l m w E hl hm ha hb h
end Go.Proofs.YtpmppndhfljcpaaGreatDoor
