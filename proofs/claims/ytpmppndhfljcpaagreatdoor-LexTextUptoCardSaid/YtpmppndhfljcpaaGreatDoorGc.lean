/-
  Contracts of package lex: bytes, places, blanks.
-/
import Derived.Test.YtpmppndhfljcpaaGreatDoorGa
import Derived.Test.YtpmppndhfljcpaaGreatDoorGb
import Derived.Deep.QuietTactic
import Derived.BigQuiet
import Derived.IntWalk
import Derived.Test.YtpmppndhfljcpaaGreatDoorEV
import Derived.Deep.RegionWith
namespace Go.Proofs.YtpmppndhfljcpaaGreatDoor
section
open Go.RowKit

theorem byte_eq (c d : UInt8) : ((c.toNat : Int) == (d.toNat : Int)) = (c == d) := by
  rw [Bool.eq_iff_iff, beq_iff_eq, beq_iff_eq, Int.ofNat_inj]
  exact UInt8.toNat_inj
theorem byte_ne (c d : UInt8) (h : (c.toNat : Int) ≠ (d.toNat : Int)) : (c == d) = false := by
  rw [← byte_eq]; simpa using h
theorem byte_is (c d : UInt8) (h : (c.toNat : Int) = (d.toNat : Int)) : (c == d) = true := by
  rw [← byte_eq]; simpa using h
theorem isLetter_ (c : UInt8) (w : World) : Calls Tryz.prog 94 #[.int .u8 c.toNat] w fun e w' => e = .returned (.bool (smallB c)) ∧ w = w' := by
  by_cases h : (97 : Int) ≤ c.toNat
  · go_enter Tryz.func94, Tryz.ntmps94
    go_wp2
    go_ret
    refine ⟨ret_bool ?_, rfl⟩
    rw [Bool.eq_iff_iff]; simp [smallB]; omega
  · go_enter Tryz.func94, Tryz.ntmps94
    go_wp2
    go_ret
    refine ⟨ret_bool ?_, rfl⟩
    rw [Bool.eq_iff_iff]; simp [smallB]; omega
theorem isDigit_ (c : UInt8) (w : World) : Calls Tryz.prog 138 #[.int .u8 c.toNat] w fun e w' => e = .returned (.bool (digitB c)) ∧ w = w' := by
  by_cases h : (48 : Int) ≤ c.toNat
  · go_enter Tryz.func138, Tryz.ntmps138
    go_wp2
    go_ret
    refine ⟨ret_bool ?_, rfl⟩
    rw [Bool.eq_iff_iff]; simp [digitB]; omega
  · go_enter Tryz.func138, Tryz.ntmps138
    go_wp2
    go_ret
    refine ⟨ret_bool ?_, rfl⟩
    rw [Bool.eq_iff_iff]; simp [digitB]; omega
theorem isNamed_ (c : UInt8) (w : World) : Calls Tryz.prog 96 #[.int .u8 c.toNat] w fun e w' => e = .returned (.bool (namedB c)) ∧ w = w' := by
  have HL := Lib.hid fun x => isLetter_ c x
  have HD := Lib.hid fun x => isDigit_ c x
  have HN : Hid (namedB c = (smallB c || digitB c || c.toNat == 95)) := Lib.hid rfl
  cases h1 : smallB c
  · cases h2 : digitB c
    all_goals
      rw [h1, h2] at HN
      rw [h1] at HL
      rw [h2] at HD
      go_enter Tryz.func96, Tryz.ntmps96
      go_wp2_with (first
        | (go_at_call 94; (with_reducible refine (HL.out _).mono ?_); rintro e y ⟨rfl, rfl⟩)
        | (go_at_call 138; (with_reducible refine (HD.out _).mono ?_); rintro e y ⟨rfl, rfl⟩))
      go_ret
      refine ⟨ret_bool ?_, rfl⟩
      rw [HN.out]
      first | (simp; done) | (rw [Bool.eq_iff_iff]; simp; omega)
  · rw [h1] at HN HL
    go_enter Tryz.func96, Tryz.ntmps96
    go_wp2_with (first
      | (go_at_call 94; (with_reducible refine (HL.out _).mono ?_); rintro e y ⟨rfl, rfl⟩))
    go_ret
    exact ⟨ret_bool (by rw [HN.out]; rfl), rfl⟩
theorem isBlank_ (c : UInt8) (w : World) : Calls Tryz.prog 207 #[.int .u8 c.toNat] w fun e w' => e = .returned (.bool (blankB c)) ∧ w = w' := by
  have HB : Hid (blankB c = ((c == 32) || (c == 9) || (c == 10) || (c == 13))) := Lib.hid rfl
  have e32 := byte_eq c 32
  have e9 := byte_eq c 9
  have e10 := byte_eq c 10
  have e13 := byte_eq c 13
  have HE : Hid (blankB c = (((c.toNat : Int) == 32) || ((c.toNat : Int) == 9) || ((c.toNat : Int) == 10) || ((c.toNat : Int) == 13))) := Lib.hid (by rw [HB.out, ← e32, ← e9, ← e10, ← e13]; rfl)
  clear e32 e9 e10 e13 HB
  cases h32 : ((c.toNat : Int) == 32)
  · cases h9 : ((c.toNat : Int) == 9)
    · cases h10 : ((c.toNat : Int) == 10)
      · rw [h32, h9, h10] at HE
        go_enter Tryz.func207, Tryz.ntmps207
        go_wp2
        go_ret
        exact ⟨ret_bool (by rw [HE.out]; rfl), rfl⟩
      · rw [h32, h9, h10] at HE
        go_enter Tryz.func207, Tryz.ntmps207
        go_wp2
        go_ret
        exact ⟨ret_bool (by rw [HE.out]; rfl), rfl⟩
    · rw [h32, h9] at HE
      go_enter Tryz.func207, Tryz.ntmps207
      go_wp2
      go_ret
      exact ⟨ret_bool (by rw [HE.out]; rfl), rfl⟩
  · rw [h32] at HE
    go_enter Tryz.func207, Tryz.ntmps207
    go_wp2
    go_ret
    exact ⟨ret_bool (by rw [HE.out]; rfl), rfl⟩
theorem isQuoted_ (c : UInt8) (w : World) : Calls Tryz.prog 210 #[.int .u8 c.toNat] w fun e w' => e = .returned (.bool (quotB c)) ∧ w = w' := by
  have e39 := byte_eq c 39
  have HE : Hid (quotB c = (decide ((32 : Int) ≤ c.toNat) && decide ((c.toNat : Int) ≤ 126) && ((c.toNat : Int) != 39))) := Lib.hid (by
    unfold quotB
    rw [bne, bne, ← e39]
    congr 1
    congr 1
    · rw [decide_eq_decide]; omega
    · rw [decide_eq_decide]; omega)
  clear e39
  by_cases h : (32 : Int) ≤ c.toNat
  · by_cases h2 : (c.toNat : Int) ≤ 126
    · go_enter Tryz.func210, Tryz.ntmps210
      go_wp2
      go_ret
      exact ⟨ret_bool (by rw [HE.out]; simp [h, h2]), rfl⟩
    · go_enter Tryz.func210, Tryz.ntmps210
      go_wp2
      go_ret
      exact ⟨ret_bool (by rw [HE.out]; simp; intros; omega), rfl⟩
  · go_enter Tryz.func210, Tryz.ntmps210
    go_wp2
    go_ret
    exact ⟨ret_bool (by rw [HE.out]; simp; intros; omega), rfl⟩
theorem notLine_ (c : UInt8) (w : World) : Calls Tryz.prog 182 #[.int .u8 c.toNat] w fun e w' => e = .returned (.bool (c != 10)) ∧ w = w' := by
  have e10 := byte_eq c 10
  have HE : Hid ((c != 10) = ((c.toNat : Int) != 10)) := Lib.hid (by rw [bne, bne, ← e10]; rfl)
  clear e10
  go_enter Tryz.func182, Tryz.ntmps182
  go_wp2
  go_ret
  exact ⟨ret_bool (by rw [HE.out]), rfl⟩
/-- A function value that says of a byte what p says. -/
def FnB (fv : Value) (p : UInt8 → Bool) : Prop :=
  ∃ f, fv = .func (.func f) #[] #[] ∧ (∀ (args : Array Value) (y : World), (callFunc f args).run Tryz.prog y = .ok (.enter f args) y) ∧ ∀ (c : UInt8) (y : World), Calls Tryz.prog f #[.int .u8 c.toNat] y fun e w' => e = .returned (.bool (p c)) ∧ y = w'
theorem fnNamed : FnB (.func (.func 96) #[] #[]) namedB := ⟨_, rfl, fun args y => by simp [go_sem], isNamed_⟩
theorem fnDigit : FnB (.func (.func 138) #[] #[]) digitB := ⟨_, rfl, fun args y => by simp [go_sem], isDigit_⟩
theorem fnBlank : FnB (.func (.func 207) #[] #[]) blankB := ⟨_, rfl, fun args y => by simp [go_sem], isBlank_⟩
theorem fnQuoted : FnB (.func (.func 210) #[] #[]) quotB := ⟨_, rfl, fun args y => by simp [go_sem], isQuoted_⟩
theorem fnLine : FnB (.func (.func 182) #[] #[]) (fun c => c != 10) := ⟨_, rfl, fun args y => by simp [go_sem], notLine_⟩
end
end Go.Proofs.YtpmppndhfljcpaaGreatDoor
namespace Go.Proofs.YtpmppndhfljcpaaGreatDoor
section
open Go.RowKit

theorem quiet_same {P : Program} {f : FuncId} {args : Array Value} {w : World} {n : Nat} {v : Value} (h : Calls P f args (w.drewN n) fun e w' => e = .returned v ∧ w.drewN n = w') :
    Calls P f args (w.drewN n) fun e w'' => e = .returned v ∧ ∃ m, w'' = w.drewN m := h.mono fun _ _ ⟨he, hm⟩ => ⟨he, n, hm.symm⟩
/-- A reader's cells. -/
abbrev rd (s : ByteArray) (i fr ln st : Nat) : List Value := [.string s, .int .i64 i, .int .i64 fr, .int .i64 ln, .int .i64 st]
theorem column_ (R : Nat) (s : ByteArray) (i fr ln st : Nat) (w : World) (h : BL w R (rd s i fr ln st)) (h1 : st ≤ fr) (h2 : fr ≤ 4000000) :
    Calls Tryz.prog 126 #[.pointer (some ⟨R, 0, none⟩)] w fun e w' => e = .returned (.int .i64 ((fr : Int) - st + 1)) ∧ ∃ n, w' = w.drewN n := by
  obtain ⟨c0, c1, c2, c3, c4, -, -, -, -, -, hl⟩ := h.open5
  go_enter Tryz.func126, Tryz.ntmps126
  go_wp2
  go_quiet (fail)
  go_wp2
  go_ret
  exact ⟨rfl, _, rfl⟩
theorem many_drop (p : UInt8 → Bool) (l : Bs) (k : Nat) (hlt : k < l.length) (hp : p l[k] = true) : many p (l.drop k) = 1 + many p (l.drop (k + 1)) := by
  unfold many
  rw [List.drop_eq_getElem_cons hlt, List.takeWhile_cons, if_pos hp]
  simp; omega
theorem many_stop (p : UInt8 → Bool) (l : Bs) (k : Nat) (hlt : k < l.length) (hp : p l[k] = false) : many p (l.drop k) = 0 := by
  unfold many
  rw [List.drop_eq_getElem_cons hlt, List.takeWhile_cons, if_neg (by simp [hp])]
  rfl
theorem Below.drewN (w : World) (n : Nat) : Below w.heap.size w (w.drewN n) := ⟨rfl, rfl, rfl, Nat.le_refl _, fun _ _ => rfl⟩
/-- How many bytes a reader has read. -/
def atOf (R : Nat) (x : World) : Nat := match x.cell? ⟨R, 1, none⟩ with | some (.int _ n) => n.toNat | _ => 0
theorem atOf_rd {R : Nat} {x : World} {s : ByteArray} {i fr ln st : Nat} (h : BL x R (rd s i fr ln st)) : atOf R x = i := by
  unfold atOf
  rw [h.g 1 _ rfl]
  rfl
theorem wrap_at (k : Nat) (h : k ≤ 5000000) : IntKind.i64.wrap ((k : Int) + 1) = (k : Int) + 1 := IntWalk.i64_in _ (by omega)
set_option maxRecDepth 100000 in
set_option maxHeartbeats 1000000 in
theorem run_ (R : Nat) (s : ByteArray) (i fr ln st : Nat) (fv : Value) (p : UInt8 → Bool) (w : World) (h : BL w R (rd s i fr ln st)) (hs : s.size ≤ 4000000) (hi : i ≤ s.size) (hf : FnB fv p) :
    Calls Tryz.prog 95 #[.pointer (some ⟨R, 0, none⟩), fv] w fun e w' => e = .returned (.string (s.extract i (i + many p (s.data.toList.drop i)))) ∧ KR w w' R (rd s (i + many p (s.data.toList.drop i)) fr ln st) [] := by
  obtain ⟨f, rfl, hcall, hF⟩ := hf
  have K0 := Lib.hid (KR.start h)
  obtain ⟨c0, c1, c2, c3, c4, f0, f1, f2, f3, f4, hl⟩ := h.open5
  have HF := Lib.hid hF
  clear hF h
  go_enter Tryz.func95, Tryz.ntmps95
  go_wp2
  go_loopw [33] (fun q x => ∃ (k : Nat), i ≤ k ∧ k ≤ s.size ∧ i + many p (s.data.toList.drop i) = k + many p (s.data.toList.drop k) ∧ KR w x R (rd s k fr ln st) []) (fun q x => s.size - atOf R x)
  case atStart => exact ⟨i, Nat.le_refl _, hi, rfl, K0.out⟩
  case round =>
    clear K0 c0 c1 c2 c3 c4 f0 f1 f2 f3 f4 hl hi
    obtain ⟨k, hik, hk, hm, hK⟩ := hrel
    have K := Lib.hid hK
    have HM := Lib.hid hm
    clear hK hm
    obtain ⟨c0, c1, c2, c3, c4, f0, f1, f2, f3, f4, hl⟩ := K.out.r.open5
    by_cases hlt : k < s.size
    · have hlt' : (k : Int) < s.size := by omega
      have hidx : (0 : Int) ≤ k := by omega
      have HP := Lib.hid (fun y => HF.out s[k] y)
      cases hp : p s[k]
      · have HS := Lib.hid (many_stop p s.data.toList k (by simpa using hlt) hp)
        rw [hp] at HP
        clear hp
        have hik' : (i : Int) ≤ k := by omega
        have hks : (k : Int) ≤ s.size := by omega
        go_wp2
        go_quiet ((exact quiet_same (HP.out _)))
        go_wp2
        go_quiet (fail)
        go_wp2
        go_ret
        have e : i + many p (s.data.toList.drop i) = k := by rw [HM.out, HS.out]; rfl
        exact ⟨by rw [e]; rfl, by rw [e]; exact (K.out.below (Below.drewN _ _)).below (Below.drewN _ _)⟩
      · have HS := Lib.hid (many_drop p s.data.toList k (by simpa using hlt) hp)
        rw [hp] at HP
        clear hp
        have hw := wrap_at k (by omega)
        go_wp2
        go_quiet ((exact quiet_same (HP.out _)))
        go_wp2
        have K2 := Lib.hid ((K.out.below (Below.drewN wr nq)).setR 1 (.int .i64 (k + 1 : Nat)) (by simp))
        go_roundw
        case rel => exact ⟨k + 1, by omega, by omega, by rw [HM.out, HS.out]; omega, K2.out⟩
        case measure =>
          have e2 := atOf_rd K2.out.r
          rw [atOf_rd K.out.r]
          exact Nat.lt_of_le_of_lt (Nat.le_of_eq (congrArg (s.size - ·) e2)) (show s.size - (k + 1) < s.size - k by omega)
    · obtain rfl : k = s.size := by omega
      have hge : decide ((s.size : Int) < s.size) = false := by simp
      have hik' : (i : Int) ≤ s.size := by omega
      have e : i + many p (s.data.toList.drop i) = s.size := by rw [HM.out, List.drop_of_length_le (by simp)]; rfl
      have HE := Lib.hid e
      clear e
      go_wp2
      go_quiet (fail)
      go_wp2
      go_quiet (fail)
      go_wp2
      go_ret
      exact ⟨by rw [HE.out]; rfl, by rw [HE.out]; exact (K.out.below (Below.drewN _ _)).below (Below.drewN _ _)⟩
end
end Go.Proofs.YtpmppndhfljcpaaGreatDoor
namespace Go.Proofs.YtpmppndhfljcpaaGreatDoor
section
open Go.RowKit

theorem stands_ (R : Nat) (s : ByteArray) (i fr ln st : Nat) (t : ByteArray) (w : World) (h : BL w R (rd s i fr ln st)) (hi : i ≤ s.size) :
    Calls Tryz.prog 181 #[.pointer (some ⟨R, 0, none⟩), .string t] w fun e w' => e = .returned (.bool (t.data.toList.isPrefixOf (s.data.toList.drop i))) ∧ ∃ n, w' = w.drewN n := by
  obtain ⟨c0, c1, c2, c3, c4, -, -, -, -, -, hl⟩ := h.open5
  have hi' : (i : Int) ≤ s.size := by omega
  have h0 : (0 : Int) ≤ i := by omega
  have HP := Lib.hid fun x => Tryz.strings_HasPrefix (s.extract i s.size) t x
  go_enter Tryz.func181, Tryz.ntmps181
  go_wp2
  go_quiet ((go_at_call 209; exact Calls.quiet_of_same (HP.out _)))
  go_wp2
  go_ret
  refine ⟨?_, _, rfl⟩
  refine ret_bool ?_
  rw [Lib.hasPrefix, Lib.extract_to_end]
def AfterR (w : World) (R : Nat) (s : ByteArray) (i fr : Nat) (w' : World) : Prop := ∃ ln st, KR w w' R (rd s i fr ln st) [] ∧ Pos s.data.toList i ln st
set_option maxRecDepth 100000 in
set_option maxHeartbeats 1000000 in
theorem blanks_ (R : Nat) (s : ByteArray) (i fr ln st : Nat) (w : World) (h : BL w R (rd s i fr ln st)) (hs : s.size ≤ 4000000) (hp : Pos s.data.toList i ln st) :
    Calls Tryz.prog 180 #[.pointer (some ⟨R, 0, none⟩)] w fun e w' => e = .returned (.tuple #[]) ∧ AfterR w R s (i + many blankB (s.data.toList.drop i)) fr w' := by
  have hi : i ≤ s.size := by have := hp.2.1; simpa using this
  have hmi : i + many blankB (s.data.toList.drop i) ≤ s.size := by
    have h1 := many_le blankB (s.data.toList.drop i)
    rw [List.length_drop] at h1
    have h2 : s.data.toList.length = s.size := by simp
    omega
  have HR0 := run_ R s i fr ln st _ blankB w h hs hi fnBlank
  have ht : (s.extract i (i + many blankB (s.data.toList.drop i))).data.toList = (s.data.toList.drop i).take (many blankB (s.data.toList.drop i)) := by
    rw [Lib.extract_data, Nat.add_sub_cancel_left]
  have hts : (s.extract i (i + many blankB (s.data.toList.drop i))).size = many blankB (s.data.toList.drop i) := by rw [ByteArray.size_extract]; omega
  have hl := last_ten (s.extract i (i + many blankB (s.data.toList.drop i)))
  generalize s.extract i (i + many blankB (s.data.toList.drop i)) = t at *
  generalize many blankB (s.data.toList.drop i) = n at *
  subst hts
  have HR := Lib.hid HR0
  have HT := Lib.hid ht
  have HP := Lib.hid hp
  have hin : i + t.size ≤ s.data.toList.length := by simpa using hmi
  have HL0 := fun x => Tryz.strings_LastIndexByte t 10 (by omega) x
  have HC := Lib.hid fun x => Tryz.strings_Count_one t 10 x
  clear HR0 ht hp
  rcases hl with ⟨h1, h2⟩ | ⟨e, h1, h2, h3, h4⟩
  · rw [h1] at HL0
    have HL := Lib.hid HL0
    clear HL0 h1
    go_enter Tryz.func180, Tryz.ntmps180
    go_wp2_with (first
      | (go_at_call 95; (with_reducible refine HR.out.mono ?_); rintro e y ⟨rfl, hK⟩; have K := Lib.hid hK; clear hK)
      | (go_at_call 208; (with_reducible refine (HL.out _).mono ?_); rintro e y' ⟨rfl, rfl⟩))
    go_end0
    refine ⟨rfl, ln, st, K.out, HP.out.go t.size hin ?_⟩
    rw [← HT.out]; exact h2
  · rw [h1] at HL0
    have HL := Lib.hid HL0
    have hle : decide ((0 : Int) ≤ e) = true := by simp
    have H3 := Lib.hid h3
    have H4 := Lib.hid h4
    have hc := List.count_le_length (a := (10 : UInt8)) (l := t.data.toList)
    have hcl : t.data.toList.length = t.size := by simp
    have HC : Hid (∀ x, Calls Tryz.prog 159 #[.string t, .string ⟨#[10]⟩] x fun e w' => e = .returned (.int .i64 (t.data.toList.count 10 : Nat)) ∧ w' = x) := HC
    generalize hm : t.data.toList.count 10 = m at *
    have HM := Lib.hid hm
    have hln := HP.out.2.2.2.1
    have hw : IntKind.i64.wrap ((ln : Int) + m) = (ln : Int) + m := IntWalk.i64_in _ (by omega)
    clear HL0 h1 h3 h4 hm hc hcl
    go_enter Tryz.func180, Tryz.ntmps180
    go_wp2_with (first
      | (go_at_call 95; (with_reducible refine HR.out.mono ?_); rintro e y ⟨rfl, hK⟩; have K := Lib.hid hK; clear hK; obtain ⟨c0, c1, c2, c3, c4, f0, f1, f2, f3, f4, hl⟩ := K.out.r.open5)
      | (go_at_call 208; (with_reducible refine (HL.out _).mono ?_); rintro e y' ⟨rfl, rfl⟩))
    go_region_with (first
      | (go_at_call 159; (with_reducible refine (HC.out _).mono ?_); rintro e y ⟨rfl, rfl⟩))
    all_goals
      have K2 := Lib.hid (K.out.setR 3 (.int .i64 ((ln : Int) + m)) (by simp))
      clear K c0 c1 c2 c3 c4 f0 f1 f2 f3 f4 hl
      obtain ⟨c0, c1, c2, c3, c4, f0, f1, f2, f3, f4, hl⟩ := K2.out.r.open5
      go_wp2
      go_end0
      have K3 := (K2.out.setR 4 (.int .i64 ((i : Int) + e + 1)) (by simp)).drew
      refine ⟨rfl, ln + m, i + e + 1, ?_, ?_⟩
      · exact K3
      · rw [← HM.out, HT.out]
        exact HP.out.lines t.size e hin h2 (by rw [← HT.out]; exact H3.out) (by rw [← HT.out]; exact H4.out)
/-- What there is of comments and blanks behind the blanks at place k. -/
def tailS (l : Bs) : Nat := if ([45, 45] : Bs).isPrefixOf l = true then skipL true l else 0
theorem skip_at (l : Bs) (i : Nat) : i + skipL false (l.drop i) = (i + many blankB (l.drop i)) + tailS (l.drop (i + many blankB (l.drop i))) := by
  rw [skip_false, List.drop_drop]; unfold tailS; omega
theorem tail_at (l : Bs) (k : Nat) (h : ([45, 45] : Bs).isPrefixOf (l.drop k) = true) :
    k + tailS (l.drop k) = (k + many (fun c => c != 10) (l.drop k)) + skipL false (l.drop (k + many (fun c => c != 10) (l.drop k))) := by
  unfold tailS; rw [if_pos h, skip_true, List.drop_drop]; omega
theorem pre_pos (l : Bs) (h : ([45, 45] : Bs).isPrefixOf l = true) : 1 ≤ many (fun c => c != 10) l := by
  match l, h with
  | [], h => simp [List.isPrefixOf] at h
  | c :: r, h =>
    have hc : c = 45 := by
      cases r with
      | nil => simp [List.isPrefixOf] at h
      | cons d t => simp only [List.isPrefixOf, Bool.and_eq_true, beq_iff_eq] at h; exact h.1.symm
    rw [hc]
    exact many_pos (by decide)
theorem skip_fits (l : Bs) (i : Nat) (p : UInt8 → Bool) (hi : i ≤ l.length) : i + many p (l.drop i) ≤ l.length := by
  have h1 := many_le p (l.drop i)
  rw [List.length_drop] at h1
  omega
set_option maxRecDepth 100000 in
set_option maxHeartbeats 1000000 in
theorem skip_ (R : Nat) (s : ByteArray) (i fr ln st : Nat) (w : World) (h : BL w R (rd s i fr ln st)) (hs : s.size ≤ 4000000) (hp : Pos s.data.toList i ln st) :
    Calls Tryz.prog 128 #[.pointer (some ⟨R, 0, none⟩)] w fun e w' => e = .returned (.tuple #[]) ∧ AfterR w R s (i + skipL false (s.data.toList.drop i)) fr w' := by
  have HB0 := Lib.hid (blanks_ R s i fr ln st w h hs hp)
  have HS0 := Lib.hid (skip_at s.data.toList i)
  have hl : s.data.toList.length = s.size := by simp
  have HL := Lib.hid hl
  have hi := hp.2.1
  clear hp h hl
  go_enter Tryz.func128, Tryz.ntmps128
  go_wp2_with (first
    | (go_at_call 180; (with_reducible refine HB0.out.mono ?_); rintro e y ⟨rfl, hA⟩; have A := Lib.hid hA; clear hA))
  go_loopw [5] (fun q x => ∃ (k ln st : Nat), i + skipL false (s.data.toList.drop i) = k + tailS (s.data.toList.drop k) ∧ KR w x R (rd s k fr ln st) [] ∧ Pos s.data.toList k ln st) (fun q x => s.size - atOf R x)
  case atStart =>
    obtain ⟨ln', st', hK, hP⟩ := A.out
    exact ⟨_, ln', st', HS0.out, hK, hP⟩
  case round =>
    clear A HB0 HS0
    obtain ⟨k, ln', st', hE, hK, hP⟩ := hrel
    have K := Lib.hid hK
    have HE := Lib.hid hE
    have HP := Lib.hid hP
    clear hK hE hP
    have hk : k ≤ s.size := by have h1 := HP.out.2.1; have h2 := HL.out; omega
    have HST := Lib.hid (stands_ R s k fr ln' st' ⟨#[45, 45]⟩ wr K.out.r hk)
    cases hq : ([45, 45] : Bs).isPrefixOf (s.data.toList.drop k)
    · rw [hq] at HST
      have HT : Hid (tailS (s.data.toList.drop k) = 0) := Lib.hid (by unfold tailS; rw [hq]; rfl)
      clear hq
      go_wp2_with (first
        | (go_at_call 181; (with_reducible refine HST.out.mono ?_); rintro e y ⟨rfl, nq, rfl⟩))
      go_end0
      refine ⟨rfl, ln', st', ?_, ?_⟩
      · rw [HE.out, HT.out]; exact K.out.below (Below.drewN _ _)
      · rw [HE.out, HT.out]; exact HP.out
    · rw [hq] at HST
      have HT := Lib.hid (tail_at s.data.toList k hq)
      have hpp := pre_pos _ hq
      have hfit := skip_fits s.data.toList k (fun c => c != 10) HP.out.2.1
      have HF := Lib.hid (many_not10 (s.data.toList.drop k))
      clear hq
      have HRN := Lib.hid fun nq => run_ R s k fr ln' st' _ (fun c => c != 10) (wr.drewN nq) (K.out.below (Below.drewN _ nq)).r hs hk fnLine
      generalize many (fun c => c != 10) (s.data.toList.drop k) = n at *
      have HSA := Lib.hid (skip_at s.data.toList (k + n))
      have HPN := Lib.hid (HP.out.go n hfit HF.out)
      have HBN := Lib.hid fun x hx => blanks_ R s (k + n) fr ln' st' x hx hs HPN.out
      go_wp2_with (first
        | (go_at_call 181; (with_reducible refine HST.out.mono ?_); rintro e y ⟨rfl, nq, rfl⟩)
        | (go_at_call 95; (with_reducible refine (HRN.out _).mono ?_); rintro e y1 ⟨rfl, hK1⟩; have K1 := Lib.hid hK1; clear hK1)
        | (go_at_call 180; (with_reducible refine (HBN.out _ K1.out.r).mono ?_); rintro e y2 ⟨rfl, hA2⟩; have A2 := Lib.hid hA2; clear hA2))
      obtain ⟨ln2, st2, hK2, hP2⟩ := A2.out
      have K2 : KR w y2 R _ [] := ((K.out.below (Below.drewN _ nq)).turn2 K1.out).turn2 hK2
      go_roundw
      case rel => exact ⟨_, ln2, st2, by rw [HE.out, HT.out]; exact HSA.out, K2, hP2⟩
      case measure =>
        rw [atOf_rd K.out.r, atOf_rd K2.r]
        have := hP2.2.1
        have := HL.out
        omega
end
end Go.Proofs.YtpmppndhfljcpaaGreatDoor
