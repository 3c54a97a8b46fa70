/-
  Of any name and any values Call of both returns one thing; Builtin; the law.
-/
import Derived.Test.YthomeplakcbfoaaGreatDoorCG
import Derived.Test.YthomeplakcbfoaaGreatDoorGs
import Derived.Test.YthomeplakcbfoaaGreatDoorVT
namespace Go.Proofs.YthomeplakcbfoaaGreatDoor
section
open Go.RowKit

/-- A name is known to both, or to none. -/
def NameBoth (op : ByteArray) : Prop :=
  (∃ (ds : List Int) (sn : Bool) (sp : List Va → Va × Int), (∀ x, Calls Tryz.prog 39 #[.string op] x (RetF ds sn sp x)) ∧ argsS op = some ds) ∨
  ((∀ x, Calls Tryz.prog 39 #[.string op] x (RetNoF x)) ∧ argsS op = none)
theorem callAny (op : ByteArray) (l : List Va) (hl : l.length ≤ maxLen) (hs : allOk l = true → l.length ≤ 1000) (hz : ∀ v ∈ l, v.s.size ≤ maxLen) : CallBoth op l ∧ NameBoth op := by
  by_cases h_abs : op.data.toList = [97, 98, 115]
  · obtain rfl : op = ⟨#[97, 98, 115]⟩ := ba_ext h_abs
    exact ⟨both_abs l hl hs hz, .inl ⟨_, _, _, functionOf_int _ _ _ fnN1 rfl, rfl⟩⟩
  by_cases h_sign : op.data.toList = [115, 105, 103, 110]
  · obtain rfl : op = ⟨#[115, 105, 103, 110]⟩ := ba_ext h_sign
    exact ⟨both_sign l hl hs hz, .inl ⟨_, _, _, functionOf_int _ _ _ fnN2 rfl, rfl⟩⟩
  by_cases h_to_text : op.data.toList = [116, 111, 95, 116, 101, 120, 116]
  · obtain rfl : op = ⟨#[116, 111, 95, 116, 101, 120, 116]⟩ := ba_ext h_to_text
    exact ⟨both_to_text l hl hs hz, .inl ⟨_, _, _, functionOf_int _ _ _ fnN3 rfl, rfl⟩⟩
  by_cases h_length : op.data.toList = [108, 101, 110, 103, 116, 104]
  · obtain rfl : op = ⟨#[108, 101, 110, 103, 116, 104]⟩ := ba_ext h_length
    exact ⟨both_length l hl hs hz, .inl ⟨_, _, _, functionOf_txt _ _ _ fnS1 rfl rfl, rfl⟩⟩
  by_cases h_upper : op.data.toList = [117, 112, 112, 101, 114]
  · obtain rfl : op = ⟨#[117, 112, 112, 101, 114]⟩ := ba_ext h_upper
    exact ⟨both_upper l hl hs hz, .inl ⟨_, _, _, functionOf_txt _ _ _ fnS2 rfl rfl, rfl⟩⟩
  by_cases h_lower : op.data.toList = [108, 111, 119, 101, 114]
  · obtain rfl : op = ⟨#[108, 111, 119, 101, 114]⟩ := ba_ext h_lower
    exact ⟨both_lower l hl hs hz, .inl ⟨_, _, _, functionOf_txt _ _ _ fnS3 rfl rfl, rfl⟩⟩
  by_cases h_to_int : op.data.toList = [116, 111, 95, 105, 110, 116]
  · obtain rfl : op = ⟨#[116, 111, 95, 105, 110, 116]⟩ := ba_ext h_to_int
    exact ⟨both_to_int l hl hs hz, .inl ⟨_, _, _, functionOf_txt _ _ _ fnS4 rfl rfl, rfl⟩⟩
  by_cases h_substr : op.data.toList = [115, 117, 98, 115, 116, 114]
  · obtain rfl : op = ⟨#[115, 117, 98, 115, 116, 114]⟩ := ba_ext h_substr
    exact ⟨both_substr l hl hs hz, .inl ⟨_, _, _, functionOf_sub, rfl⟩⟩
  by_cases h_nvl : op.data.toList = [110, 118, 108]
  · obtain rfl : op = ⟨#[110, 118, 108]⟩ := ba_ext h_nvl
    exact ⟨both_nvl l hl hs hz, .inl ⟨_, _, _, functionOf_nul _ _ _ fnL_nvl rfl rfl (ofTwo_nvl2 _ rfl), rfl⟩⟩
  by_cases h_nullif : op.data.toList = [110, 117, 108, 108, 105, 102]
  · obtain rfl : op = ⟨#[110, 117, 108, 108, 105, 102]⟩ := ba_ext h_nullif
    exact ⟨both_nullif l hl hs hz, .inl ⟨_, _, _, functionOf_nul _ _ _ fnL_nullif rfl rfl (ofTwo_nullif _ rfl), rfl⟩⟩
  by_cases h_least : op.data.toList = [108, 101, 97, 115, 116]
  · obtain rfl : op = ⟨#[108, 101, 97, 115, 116]⟩ := ba_ext h_least
    exact ⟨both_least l hl hs hz, .inl ⟨_, _, _, functionOf_outer _ _ functionOf_least, rfl⟩⟩
  by_cases h_greatest : op.data.toList = [103, 114, 101, 97, 116, 101, 115, 116]
  · obtain rfl : op = ⟨#[103, 114, 101, 97, 116, 101, 115, 116]⟩ := ba_ext h_greatest
    exact ⟨both_greatest l hl hs hz, .inl ⟨_, _, _, functionOf_outer _ _ functionOf_greatest, rfl⟩⟩
  have hn : argsS op = none := by
    unfold argsS fnTab
    simp only [List.find?, h_abs, h_sign, h_to_text, h_length, h_upper, h_lower, h_to_int, h_substr, h_nvl, h_nullif, h_least, h_greatest, beq_eq_false_iff_ne.2, ne_eq, not_false_eq_true]
    rfl
  have hf := functionOf_none op (none_int h_abs h_sign h_to_text) (none_txt h_length h_upper h_lower h_to_int) (none_two h_nvl h_nullif h_least h_greatest) (by rw [toList_dat, beq_eq_false_iff_ne]; exact h_substr)
  refine ⟨?_, .inr ⟨hf, hn⟩⟩
  cases hok : allOk l with
  | false => exact ⟨(nulV, 2), fun A c w _ h => call_bad op A c l w hl h hok, fun A c w h => refCall_bad op A c l w hl hz h hok⟩
  | true => exact ⟨(nulV, 13), fun A c w _ h => call_no op hf A c l w hl h hok, fun A c w h => refCall_none op hn A c l w hl hz h hok⟩
theorem builtinBoth {op : ByteArray} (h : NameBoth op) : ∃ b : Bool, (∀ w, Calls Tryz.prog 12 #[.string op] w fun e w' => e = .returned (.bool b) ∧ Below w.heap.size w w') ∧ (∀ w, Calls Tryz.prog 13 #[.string op] w fun e w' => e = .returned (.bool b) ∧ Below w.heap.size w w') := by
  rcases h with ⟨ds, sn, sp, hf, ho⟩ | ⟨hf, ho⟩
  · refine ⟨true, fun w => builtin_yes op hf w, fun w => ?_⟩
    have := refBuiltin_ op w
    rw [ho] at this
    exact this
  · refine ⟨false, fun w => builtin_no op hf w, fun w => ?_⟩
    have := refBuiltin_ op w
    rw [ho] at this
    exact this
theorem eqV_refl (k n : Int) (s : ByteArray) : eqV k n s k n s = true := (eqV_iff _ _ _ _ _ _).2 ⟨rfl, rfl, rfl⟩
set_option maxRecDepth 100000 in
set_option maxHeartbeats 4000000 in
theorem valueCalls_ (op : ByteArray) (A : Option Addr) (c : Nat) (l : List Va) (w : World) (E : Env w) (hl : l.length ≤ 4398046511000) (h : Sl w A l) (hz : ∀ v ∈ l, v.s.size ≤ maxLen) :
    Calls Tryz.prog 3 #[.string op, .slice A l.length c] w fun e w' => e = .returned (.bool true) ∧ Below w.heap.size w w' := by
  have HE := Lib.hid E
  have HA := Lib.hid fun x (hx : Gl x) => awake_ x hx
  have hlm : l.length ≤ maxLen := by simp only [maxLen]; omega
  by_cases hs : allOk l = true → l.length ≤ 600
  · obtain ⟨⟨⟨⟨k1, n1, s1⟩, e1⟩, hc1, hc2⟩, hnb⟩ := callAny op l hlm (fun q => by have := hs q; omega) hz
    obtain ⟨⟨⟨k2, n2, s2⟩, e2⟩, ha1, ha2⟩ := aggBoth op l hlm (fun q => by have := hs q; omega) hz
    obtain ⟨b3, hb1, hb2⟩ := builtinBoth hnb
    obtain ⟨b4, hi1, hi2⟩ := isAggBoth op
    have HC1 := Lib.hid hc1
    have HC2 := Lib.hid hc2
    have HA1 := Lib.hid ha1
    have HA2 := Lib.hid ha2
    have HB1 := Lib.hid hb1
    have HB2 := Lib.hid hb2
    have HI1 := Lib.hid hi1
    have HI2 := Lib.hid hi2
    have q1 := eqV_refl k1 n1 s1
    have q2 := eqV_refl k2 n2 s2
    clear hc1 hc2 ha1 ha2 hb1 hb2 hi1 hi2 hs E
    go_enter Tryz.func3, Tryz.ntmps3
    go_wp2_with (first
      | (go_at_call 6; refine (few_ A c l _ hlm h).mono ?_; rintro e y ⟨⟨bb, rfl⟩, hb⟩; have K : Hid (KL w y []) := Lib.hid ⟨hb, trivial⟩; clear hb)
      | (go_at_call 8; refine (HC1.out A c _ (HE.out.below K.out.HB) (h.below K.out.HB)).mono ?_; rintro e y2 ⟨rfl, hb⟩; have K' := Lib.hid (KL.push (K.out.below hb) (.int .i64 k1) (.int .i64 n1) (.string s1) 27); clear hb K; have K := K'; clear K')
      | (go_at_call 9; refine (HC2.out A c _ (h.below K.out.HB)).mono ?_; rintro e y3 ⟨rfl, hb⟩; have K' := Lib.hid (KL.push (K.out.below hb) (.int .i64 k1) (.int .i64 n1) (.string s1) 27); clear hb K; have K := K'; clear K')
      | (go_at_call 10; refine (HA1.out A c _ (h.below K.out.HB)).mono ?_; rintro e y4 ⟨rfl, hb⟩; have K' := Lib.hid (KL.push (K.out.below hb) (.int .i64 k2) (.int .i64 n2) (.string s2) 27); clear hb K; have K := K'; clear K')
      | (go_at_call 11; refine (HA2.out A c _ (h.below K.out.HB)).mono ?_; rintro e y5 ⟨rfl, hb⟩; have K' := Lib.hid (KL.push (K.out.below hb) (.int .i64 k2) (.int .i64 n2) (.string s2) 27); clear hb K; have K := K'; clear K'; obtain ⟨HB, ⟨x0, x1, x2, _, _, _, xl⟩, ⟨z0, z1, z2, _, _, _, zl⟩, ⟨p0, p1, p2, _, _, _, pl⟩, ⟨r0, r1, r2, _, _, _, rl⟩, _⟩ := K.out)
      | (go_at_call 12; refine (HB1.out _).mono ?_; rintro e y6 ⟨rfl, hb⟩; have K' := Lib.hid (K.out.below hb); clear hb K; have K := K'; clear K')
      | (go_at_call 13; refine (HB2.out _).mono ?_; rintro e y7 ⟨rfl, hb⟩; have K' := Lib.hid (K.out.below hb); clear hb K; have K := K'; clear K')
      | (go_at_call 14; refine (HI1.out _).mono ?_; rintro e y8 ⟨rfl, hb⟩; have K' := Lib.hid (K.out.below hb); clear hb K; have K := K'; clear K')
      | (go_at_call 15; refine (HI2.out _).mono ?_; rintro e y9 ⟨rfl, hb⟩; have K' := Lib.hid (K.out.below hb); clear hb K; have K := K'; clear K')
      | (go_at_call 7; refine (HA.out _ (HE.out.gl.below K.out.HB)).mono ?_; rintro e y10 ⟨rfl, hb⟩; have K' := Lib.hid (K.out.below hb); clear hb K; have K := K'; clear K'))
    all_goals (go_ret; exact ⟨rfl, K.out.HB⟩)
  · obtain ⟨hok, hlen⟩ : allOk l = true ∧ ¬ l.length ≤ 600 := by
      constructor
      · cases q : allOk l with
        | true => rfl
        | false => exact absurd (fun r => by rw [q] at r; cases r) hs
      · intro q; exact hs fun _ => q
    have hs2 : ∀ v ∈ l, v.s.size ≤ 200 := by
      intro v hv
      have hv' : v.ok = true := List.all_eq_true.1 hok v hv
      rcases ok_cases v hv' with rfl | ⟨n, -, -, rfl⟩ | ⟨b, rfl⟩ | ⟨b, rfl⟩
      · exact Nat.zero_le _
      · exact Nat.zero_le _
      · have : vld 2 0 (baOf b) = true := hv'
        rw [vld2, Bool.and_eq_true] at this
        exact okSize _ this.2
      · exact Nat.zero_le _
    have HF : Hid (∀ x, Sl x A l → Calls Tryz.prog 6 #[.slice A l.length c] x fun e w' => e = .returned (.bool false) ∧ Below x.heap.size x w') := Lib.hid fun x hx => by
      refine (few600_ A c l x hl hx hs2).mono ?_
      rintro e y ⟨⟨b, rfl, hb⟩, hB⟩
      refine ⟨?_, hB⟩
      cases b with
      | true => exact absurd (hb rfl) hlen
      | false => rfl
    clear hs hok hlen hs2 E
    go_enter Tryz.func3, Tryz.ntmps3
    go_wp2_with (first
      | (go_at_call 6; refine (HF.out _ h).mono ?_; rintro e y ⟨rfl, hb⟩; have HB := Lib.hid hb; clear hb)
      | (go_at_call 7; refine (HA.out _ (HE.out.gl.below HB.out)).mono ?_; rintro e y10 ⟨rfl, hb⟩; have HZ := Lib.hid (HB.out.trans (hb.mono HB.out.size)); clear hb))
    all_goals (go_ret; exact ⟨rfl, HZ.out⟩)
end
end Go.Proofs.YthomeplakcbfoaaGreatDoor
