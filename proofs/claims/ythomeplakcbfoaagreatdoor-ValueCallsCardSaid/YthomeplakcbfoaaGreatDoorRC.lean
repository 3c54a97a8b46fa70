/-
  The reference's size, number, part, cased.
-/
import Derived.Test.YthomeplakcbfoaaGreatDoorGk
import Derived.Test.YthomeplakcbfoaaGreatDoorQE
namespace Go.Proofs.YthomeplakcbfoaaGreatDoor
open Go.RowKit

theorem run_string_own' {B : Nat} {w : World} {a : Option Addr} {n c : Nat} {l : Bs} (h : OwnB B w (.slice a l.length c) l) (hn : l.length = n) : (convert 75 9 (.slice a n c)).run Tryz.prog w = .ok (.string (baOf l)) w := by
  subst hn
  exact run_string_own h
theorem refSize_ (n : Int) (h0 : -9223372036854775807 ≤ n) (h1 : n ≤ 9223372036854775807) (w : World) : Calls Tryz.prog 69 #[.int .i64 n] w fun e w' => e = .returned (.int .i64 (max n (-n))) ∧ w = w' := by
  go_enter Tryz.func69, Tryz.ntmps69
  go_wp2_with fail
  all_goals (go_ret; exact ⟨by congr 2 <;> omega, rfl⟩)
def partR (s : ByteArray) (f m : Int) : ByteArray := if (s.size : Int) < max f 1 ∨ m < 1 then ⟨#[]⟩ else s.extract (max f 1 - 1).toNat (min (s.size : Int) (max f 1 - 1 + min m 200)).toNat
set_option maxRecDepth 100000 in
theorem refPart_ (s : ByteArray) (f m : Int) (hs : s.size ≤ 200) (hf0 : -1099511627776 ≤ f) (hf1 : f ≤ 1099511627776) (hm0 : -1099511627776 ≤ m) (hm1 : m ≤ 1099511627776) (w : World) : Calls Tryz.prog 71 #[.string s, .int .i64 f, .int .i64 m] w fun e w' => e = .returned (.string (partR s f m)) ∧ w = w' := by
  have HP : Hid (partR s f m = if (s.size : Int) < max f 1 ∨ m < 1 then ⟨#[]⟩ else s.extract (max f 1 - 1).toNat (min (s.size : Int) (max f 1 - 1 + min m 200)).toNat) := Lib.hid rfl
  obtain ⟨F, hF⟩ : ∃ F, max f 1 = F := ⟨_, rfl⟩
  have hF1 : 1 ≤ F := by omega
  have hF2 : F ≤ 1099511627776 := by omega
  rw [hF] at HP
  by_cases h1 : (s.size : Int) < F
  · rw [if_pos (.inl h1)] at HP
    go_enter Tryz.func71, Tryz.ntmps71
    go_wp2_with fail
    all_goals (go_ret; exact ⟨by rw [HP.out]; rfl, rfl⟩)
  · by_cases h2 : m < 1
    · rw [if_pos (.inr h2)] at HP
      go_enter Tryz.func71, Tryz.ntmps71
      go_wp2_with fail
      all_goals (go_ret; exact ⟨by rw [HP.out]; rfl, rfl⟩)
    · rw [if_neg (by omega)] at HP
      have h3 : F ≤ s.size := by omega
      have h4 : 1 ≤ m := by omega
      clear h1 h2
      go_enter Tryz.func71, Tryz.ntmps71
      go_wp2_with fail
      all_goals (go_ret; exact ⟨by rw [HP.out, show (F - 1).toNat = F.toNat - 1 by omega]; rfl, rfl⟩)
/-- Letters turned: from 97 on into those from 65 on. -/
def upperB (c : UInt8) : UInt8 := if 97 ≤ c.toNat ∧ c.toNat ≤ 122 then UInt8.ofNat (c.toNat - 32) else c
set_option maxRecDepth 100000 in
set_option maxHeartbeats 1000000 in
theorem upper_ (s : ByteArray) (hs : s.size ≤ 4000000) (w : World) : Calls Tryz.prog 70 #[.string s, .int .u8 97, .int .u8 65] w fun e w' => e = .returned (.string (baOf (s.data.toList.map upperB))) ∧ Below w.heap.size w w' := by
  have HSZ : Hid (s.data.toList.length = s.size) := Lib.hid (by simp)
  go_enter Tryz.func70, Tryz.ntmps70
  go_wp2_with fail
  go_loopw [7, 8] (fun b i x => ∃ k : Nat, k ≤ s.size ∧ i = .int .i64 k ∧ OwnB w.heap.size x b ((s.data.toList.take k).map upperB) ∧ Below w.heap.size w x) (fun b i x => s.size - (intOf i).toNat)
  case atStart => exact ⟨0, Nat.zero_le _, rfl, OwnB.nil _ _, Below.refl _ _⟩
  case round =>
    obtain ⟨k, hk, rfl, hO, hB⟩ := hrel
    have HO := Lib.hid hO
    have HB := Lib.hid hB
    clear hO hB
    obtain ⟨a0, c0, rfl⟩ := HO.out.form
    have hel : ((s.data.toList.take k).map upperB).length ≤ 4000000 := by rw [List.length_map, List.length_take]; omega
    have HEL := Lib.hid hel
    clear hel
    by_cases hlt : k < s.size
    · have hkl : k < s.data.toList.length := by rw [HSZ.out]; exact hlt
      have HE : Hid (s.data.toList[k] = s[k]) := Lib.hid (by rfl)
      have HT : Hid ((s.data.toList.take (k + 1)).map upperB = (s.data.toList.take k).map upperB ++ [upperB s[k]]) := Lib.hid (by rw [List.take_succ_eq_append_getElem hkl, List.map_append, HE.out]; rfl)
      have hsz := HB.out.size
      generalize (s.data.toList.take k).map upperB = L at *
      have hc255 : (s[k].toNat : Int) ≤ 255 := by have := s[k].toNat_lt; omega
      by_cases h1 : 97 ≤ s[k].toNat ∧ s[k].toNat ≤ 122
      · have p1 : (97 : Int) ≤ s[k].toNat := by omega
        have p2 : (s[k].toNat : Int) ≤ 122 := by omega
        have HC : Hid (((upperB s[k]).toNat : Int) = (s[k].toNat : Int) - 97 + 65) := Lib.hid (by unfold upperB; rw [if_pos h1, UInt8.toNat_ofNat']; omega)
        clear h1
        go_wp2_with (first
          | (at_builtin; refine wpList_append_byte rfl (.tmp 33) (.tmp 35) rfl w.heap.size _ L rfl (HO.out.below (new1 _ _)) wr.heap.size (upperB s[k]) rfl (by rw [HC.out]; exact new1_cell _ _ _) (by have := HEL.out; omega) (by simp; omega) ?_))
        intro v1 w1 ho1 hg1
        have HO1 := Lib.hid ho1
        have HB1 := Lib.hid (below_own (HB.out.trans ((new1 _ _).mono hsz)) hg1 HO.out.lt)
        clear ho1 hg1
        go_wp2_with fail
        go_roundw
        case rel => exact ⟨k + 1, by omega, by go_num, by rw [HT.out]; exact HO1.out, HB1.out⟩
        case measure => simp [intOf]; omega
      · have HC : Hid (upperB s[k] = s[k]) := Lib.hid (by unfold upperB; rw [if_neg h1])
        rw [HC.out] at HT
        have hor : (s[k].toNat : Int) < 97 ∨ ((97 : Int) ≤ s[k].toNat ∧ 122 < (s[k].toNat : Int)) := by omega
        clear h1 HC
        rcases hor with p1 | ⟨p1, p2⟩
        all_goals
          go_wp2_with (first
            | (at_builtin; refine wpList_append_byte rfl (.tmp 33) (.tmp 35) rfl w.heap.size _ L rfl (HO.out.below (new1 _ _)) wr.heap.size s[k] rfl (new1_cell _ _ _) (by have := HEL.out; omega) (by simp; omega) ?_))
          intro v1 w1 ho1 hg1
          have HO1 := Lib.hid ho1
          have HB1 := Lib.hid (below_own (HB.out.trans ((new1 _ _).mono hsz)) hg1 HO.out.lt)
          clear ho1 hg1
          go_wp2_with fail
          go_roundw
          case rel => exact ⟨k + 1, by omega, by go_num, by rw [HT.out]; exact HO1.out, HB1.out⟩
          case measure => simp [intOf]; omega
    · have HK : Hid (s.data.toList.take k = s.data.toList) := Lib.hid (List.take_of_length_le (by rw [HSZ.out]; omega))
      go_wp2_with fail
      rw [run_string_own' HO.out (by rw [List.length_map, List.length_take, HSZ.out]; omega), HK.out]
      go_wp2_with fail
      go_ret
      exact ⟨rfl, HB.out⟩
/-- Letters turned: from 65 on into those from 97 on. -/
def lowerB (c : UInt8) : UInt8 := if 65 ≤ c.toNat ∧ c.toNat ≤ 90 then UInt8.ofNat (c.toNat + 32) else c
set_option maxRecDepth 100000 in
set_option maxHeartbeats 1000000 in
theorem lower_ (s : ByteArray) (hs : s.size ≤ 4000000) (w : World) : Calls Tryz.prog 70 #[.string s, .int .u8 65, .int .u8 97] w fun e w' => e = .returned (.string (baOf (s.data.toList.map lowerB))) ∧ Below w.heap.size w w' := by
  have HSZ : Hid (s.data.toList.length = s.size) := Lib.hid (by simp)
  go_enter Tryz.func70, Tryz.ntmps70
  go_wp2_with fail
  go_loopw [7, 8] (fun b i x => ∃ k : Nat, k ≤ s.size ∧ i = .int .i64 k ∧ OwnB w.heap.size x b ((s.data.toList.take k).map lowerB) ∧ Below w.heap.size w x) (fun b i x => s.size - (intOf i).toNat)
  case atStart => exact ⟨0, Nat.zero_le _, rfl, OwnB.nil _ _, Below.refl _ _⟩
  case round =>
    obtain ⟨k, hk, rfl, hO, hB⟩ := hrel
    have HO := Lib.hid hO
    have HB := Lib.hid hB
    clear hO hB
    obtain ⟨a0, c0, rfl⟩ := HO.out.form
    have hel : ((s.data.toList.take k).map lowerB).length ≤ 4000000 := by rw [List.length_map, List.length_take]; omega
    have HEL := Lib.hid hel
    clear hel
    by_cases hlt : k < s.size
    · have hkl : k < s.data.toList.length := by rw [HSZ.out]; exact hlt
      have HE : Hid (s.data.toList[k] = s[k]) := Lib.hid (by rfl)
      have HT : Hid ((s.data.toList.take (k + 1)).map lowerB = (s.data.toList.take k).map lowerB ++ [lowerB s[k]]) := Lib.hid (by rw [List.take_succ_eq_append_getElem hkl, List.map_append, HE.out]; rfl)
      have hsz := HB.out.size
      generalize (s.data.toList.take k).map lowerB = L at *
      have hc255 : (s[k].toNat : Int) ≤ 255 := by have := s[k].toNat_lt; omega
      by_cases h1 : 65 ≤ s[k].toNat ∧ s[k].toNat ≤ 90
      · have p1 : (65 : Int) ≤ s[k].toNat := by omega
        have p2 : (s[k].toNat : Int) ≤ 90 := by omega
        have HC : Hid (((lowerB s[k]).toNat : Int) = (s[k].toNat : Int) - 65 + 97) := Lib.hid (by unfold lowerB; rw [if_pos h1, UInt8.toNat_ofNat']; omega)
        clear h1
        go_wp2_with (first
          | (at_builtin; refine wpList_append_byte rfl (.tmp 33) (.tmp 35) rfl w.heap.size _ L rfl (HO.out.below (new1 _ _)) wr.heap.size (lowerB s[k]) rfl (by rw [HC.out]; exact new1_cell _ _ _) (by have := HEL.out; omega) (by simp; omega) ?_))
        intro v1 w1 ho1 hg1
        have HO1 := Lib.hid ho1
        have HB1 := Lib.hid (below_own (HB.out.trans ((new1 _ _).mono hsz)) hg1 HO.out.lt)
        clear ho1 hg1
        go_wp2_with fail
        go_roundw
        case rel => exact ⟨k + 1, by omega, by go_num, by rw [HT.out]; exact HO1.out, HB1.out⟩
        case measure => simp [intOf]; omega
      · have HC : Hid (lowerB s[k] = s[k]) := Lib.hid (by unfold lowerB; rw [if_neg h1])
        rw [HC.out] at HT
        have hor : (s[k].toNat : Int) < 65 ∨ ((65 : Int) ≤ s[k].toNat ∧ 90 < (s[k].toNat : Int)) := by omega
        clear h1 HC
        rcases hor with p1 | ⟨p1, p2⟩
        all_goals
          go_wp2_with (first
            | (at_builtin; refine wpList_append_byte rfl (.tmp 33) (.tmp 35) rfl w.heap.size _ L rfl (HO.out.below (new1 _ _)) wr.heap.size s[k] rfl (new1_cell _ _ _) (by have := HEL.out; omega) (by simp; omega) ?_))
          intro v1 w1 ho1 hg1
          have HO1 := Lib.hid ho1
          have HB1 := Lib.hid (below_own (HB.out.trans ((new1 _ _).mono hsz)) hg1 HO.out.lt)
          clear ho1 hg1
          go_wp2_with fail
          go_roundw
          case rel => exact ⟨k + 1, by omega, by go_num, by rw [HT.out]; exact HO1.out, HB1.out⟩
          case measure => simp [intOf]; omega
    · have HK : Hid (s.data.toList.take k = s.data.toList) := Lib.hid (List.take_of_length_le (by rw [HSZ.out]; omega))
      go_wp2_with fail
      rw [run_string_own' HO.out (by rw [List.length_map, List.length_take, HSZ.out]; omega), HK.out]
      go_wp2_with fail
      go_ret
      exact ⟨rfl, HB.out⟩
end Go.Proofs.YthomeplakcbfoaaGreatDoor
