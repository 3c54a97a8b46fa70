/-
  The reference's reader: how many bytes, strings.
-/
import Derived.Test.YtpmppndhfljcpaaGreatDoorQG
namespace Go.Proofs.YtpmppndhfljcpaaGreatDoor
open Go.RowKit

/-- The reader's cells: its string, place, line, column, the tokens read, the fault. -/
abbrev rr (s : ByteArray) (i : Nat) (ln cl : Int) (o : Value) (fc : Int) (fn : ByteArray) (fl fcl : Int) : List Value := [.string s, .int .i64 i, .int .i64 ln, .int .i64 cl, o, .int .i64 fc, .string fn, .int .i64 fl, .int .i64 fcl]
def pickB (dg : Bool) : UInt8 → Bool := if dg = true then digitB else namedB
theorem sub_cells {s : ByteArray} {k : Nat} (hk : k < s.size) : k < s.data.toList.length ∧ ∀ h : k < s.data.toList.length, s.data.toList[k] = s[k] := ⟨by simpa using hk, fun _ => rfl⟩
set_option maxRecDepth 100000 in
set_option maxHeartbeats 2000000 in
theorem refMany_ (R : Nat) (s : ByteArray) (i : Nat) (ln cl : Int) (o : Value) (fc : Int) (fn : ByteArray) (fl fcl : Int) (dg : Bool) (w : World) (h : BL w R (rr s i ln cl o fc fn fl fcl)) (hs : s.size ≤ 4000000) (hi : i ≤ s.size) :
    Calls Tryz.prog 130 #[.pointer (some ⟨R, 0, none⟩), .bool dg] w fun e w' => e = .returned (.int .i64 (many (pickB dg) (s.data.toList.drop i) : Nat)) ∧ Below w.heap.size w w' := by
  have HSZ : Hid (s.data.toList.length = s.size) := Lib.hid (by simp)
  have HR := Lib.hid h
  clear h
  go_enter Tryz.func130, Tryz.ntmps130
  go_wp2_with fail
  go_loopw [5] (fun n x => ∃ k : Nat, i + k ≤ s.size ∧ n = .int .i64 k ∧ many (pickB dg) (s.data.toList.drop i) = (i + k - i) + many (pickB dg) (s.data.toList.drop (i + k)) ∧ Below w.heap.size w x) (fun n x => s.size - (intOf n).toNat)
  case atStart => exact ⟨0, hi, rfl, by simp, Below.refl _ _⟩
  case round =>
    obtain ⟨k, hk, rfl, hM, hB⟩ := hrel
    have HM := Lib.hid hM
    have HB := Lib.hid hB
    clear hM hB
    obtain ⟨⟨c0, c1, -⟩, -, hl⟩ := (HR.out.below HB.out).open9
    have hn0 : (0 : Int) ≤ (i : Int) + k := by omega
    by_cases hlt : i + k < s.size
    · have hlt' : (i : Int) + k < s.size := by omega
      obtain ⟨hkl, hge⟩ := sub_cells hlt
      have HGE := Lib.hid (hge hkl)
      have HC := Lib.hid fun x => refDigit_ s[i + k] x
      have HN := Lib.hid fun x => refNamed_ s[i + k] x
      have HP : Hid (∀ q : pickB dg s.data.toList[i + k] = true, many (pickB dg) (s.data.toList.drop i) = (i + (k + 1) - i) + many (pickB dg) (s.data.toList.drop (i + (k + 1)))) := Lib.hid fun q => many_more hkl q i HM.out (by omega)
      have HS : Hid (∀ q : pickB dg s.data.toList[i + k] = false, many (pickB dg) (s.data.toList.drop i) = k) := Lib.hid fun q => by
        have e := HM.out
        rw [many_end (p := pickB dg) (l := s.data.toList) (k := i + k) (fun _ => q)] at e
        omega
      rw [HGE.out] at HP HS
      clear hge
      have hw : IntKind.i64.wrap ((i : Int) + k) = (i : Int) + k := IntWalk.i64_in _ (by omega)
      have hw2 : IntKind.i64.wrap ((k : Int) + 1) = (k : Int) + 1 := IntWalk.i64_in _ (by omega)
      have ht : ((i : Int) + k).toNat = i + k := by omega
      cases dg
      · cases h1 : digitB s[i + k]
        · rw [h1] at HC
          cases h2 : namedB s[i + k]
          · rw [h2] at HN
            have HE := Lib.hid (HS.out h2)
            go_wp2
            go_quiet ((first | (go_at_call 131; exact quiet_same (HC.out _)) | (go_at_call 139; exact quiet_same (HN.out _))))
            go_wp2
            go_ret
            exact ⟨ret_int (by rw [HE.out]), HB.out.trans ((Below.drewN _ _).mono HB.out.size)⟩
          · rw [h2] at HN
            have HE := Lib.hid (HP.out h2)
            go_wp2
            go_quiet ((first | (go_at_call 131; exact quiet_same (HC.out _)) | (go_at_call 139; exact quiet_same (HN.out _))))
            go_wp2
            go_roundw
            case rel => exact ⟨k + 1, by omega, by go_num, HE.out, HB.out.trans ((Below.drewN _ _).mono HB.out.size)⟩
            case measure => simp [intOf]; omega
        · rw [h1] at HC
          have h2 : namedB s[i + k] = true := by simp [namedB, h1]
          have HE := Lib.hid (HP.out h2)
          go_wp2
          go_quiet ((first | (go_at_call 131; exact quiet_same (HC.out _)) | (go_at_call 139; exact quiet_same (HN.out _))))
          go_wp2
          go_roundw
          case rel => exact ⟨k + 1, by omega, by go_num, HE.out, HB.out.trans ((Below.drewN _ _).mono HB.out.size)⟩
          case measure => simp [intOf]; omega
      · cases h1 : digitB s[i + k]
        · rw [h1] at HC
          have HE := Lib.hid (HS.out h1)
          go_wp2
          go_quiet ((first | (go_at_call 131; exact quiet_same (HC.out _)) | (go_at_call 139; exact quiet_same (HN.out _))))
          go_wp2
          go_ret
          exact ⟨ret_int (by rw [HE.out]), HB.out.trans ((Below.drewN _ _).mono HB.out.size)⟩
        · rw [h1] at HC
          have HE := Lib.hid (HP.out h1)
          go_wp2
          go_quiet ((first | (go_at_call 131; exact quiet_same (HC.out _)) | (go_at_call 139; exact quiet_same (HN.out _))))
          go_wp2
          go_roundw
          case rel => exact ⟨k + 1, by omega, by go_num, HE.out, HB.out.trans ((Below.drewN _ _).mono HB.out.size)⟩
          case measure => simp [intOf]; omega
    · have hge : ¬ (i : Int) + k < s.size := by omega
      have HE : Hid (many (pickB dg) (s.data.toList.drop i) = k) := Lib.hid (by
        have e := HM.out
        rw [many_end (p := pickB dg) (l := s.data.toList) (k := i + k) (fun q => by have := HSZ.out; omega)] at e
        omega)
      have hw : IntKind.i64.wrap ((i : Int) + k) = (i : Int) + k := IntWalk.i64_in _ (by omega)
      have hd : decide ((i : Int) + k < s.size) = false := by simp; omega
      go_wp2
      go_quiet (fail)
      go_wp2
      go_ret
      exact ⟨ret_int (by rw [HE.out]), HB.out.trans ((Below.drewN _ _).mono HB.out.size)⟩
end Go.Proofs.YtpmppndhfljcpaaGreatDoor
