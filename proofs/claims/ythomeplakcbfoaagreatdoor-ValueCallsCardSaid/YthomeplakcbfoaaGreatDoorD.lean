/-
  Contracts: tests on slices of values.
-/
import Derived.Test.YthomeplakcbfoaaGreatDoorGa
namespace Go.Proofs.YthomeplakcbfoaaGreatDoor
open Go.RowKit

theorem someNull_ (A : Option Addr) (c : Nat) (l : List Va) (w : World) (hl : l.length ≤ maxLen) (h : Sl w A l) :
    Calls Tryz.prog 41 #[.slice A l.length c] w fun e w' => e = .returned (.bool (hasNull l)) ∧ Below w.heap.size w w' := by
  unfold maxLen at hl
  go_enter Tryz.func41, Tryz.ntmps41
  go_wp2
  go_loopw [7] (fun i x => ∃ k : Nat, k ≤ l.length ∧ i = .int .i64 k ∧ hasNull (l.take k) = false ∧ Below w.heap.size w x) (fun i x => l.length - (intOf i).toNat)
  case atStart => exact ⟨0, Nat.zero_le _, rfl, by simp [hasNull], Below.refl _ _⟩
  case round =>
    obtain ⟨k, hk, rfl, ha, hB⟩ := hrel
    have HA := Lib.hid ha
    have HB := Lib.hid hB
    clear ha hB
    by_cases hlt : k < l.length
    · obtain ⟨b, off, rfl, hb, c0, c1, c2⟩ := (h.below HB.out) k _ (List.getElem?_eq_getElem hlt)
      clear h
      go_wp2
      · go_ret
        exact ⟨ret_bool (hasNull_yes l k hlt ‹_›).symm, HB.out.alloc HB.out.size _⟩
      · go_roundw
        case rel => exact ⟨k + 1, by omega, by go_num, by rw [hasNull_take l k hlt, HA.out, ‹(l[k].k == 0) = false›]; rfl, HB.out.alloc HB.out.size _⟩
        case measure => simp [intOf]; omega
    · go_wp2
      go_ret
      exact ⟨ret_bool (by rw [← HA.out, take_all l k hk hlt]), HB.out⟩

theorem allValid_ (A : Option Addr) (c : Nat) (l : List Va) (w : World) (hl : l.length ≤ maxLen) (h : Sl w A l) :
    Calls Tryz.prog 38 #[.slice A l.length c] w fun e w' => e = .returned (.bool (allOk l)) ∧ Below w.heap.size w w' := by
  unfold maxLen at hl
  go_enter Tryz.func38, Tryz.ntmps38
  go_wp2
  go_loopw [7] (fun i x => ∃ k : Nat, k ≤ l.length ∧ i = .int .i64 k ∧ allOk (l.take k) = true ∧ Below w.heap.size w x) (fun i x => l.length - (intOf i).toNat)
  case atStart => exact ⟨0, Nat.zero_le _, rfl, by simp [allOk], Below.refl _ _⟩
  case round =>
    obtain ⟨k, hk, rfl, ha, hB⟩ := hrel
    have HA := Lib.hid ha
    have HB := Lib.hid hB
    clear ha hB
    by_cases hlt : k < l.length
    · obtain ⟨b, off, rfl, hb, c0, c1, c2⟩ := (h.below HB.out) k _ (List.getElem?_eq_getElem hlt)
      clear h
      cases hv : vld l[k].k l[k].n l[k].s
      · have HV := Lib.hid hv
        go_wp2_with (first | (go_at_call 31; refine (valid_ _ _ _ _).mono ?_; rintro e w1 ⟨rfl, hb1⟩))
        go_ret
        exact ⟨ret_bool (allOk_no l k hlt HV.out).symm, (HB.out.alloc HB.out.size _).trans (hb1.mono (by simp; have := HB.out.size; omega))⟩
      · have HV := Lib.hid hv
        go_wp2_with (first | (go_at_call 31; refine (valid_ _ _ _ _).mono ?_; rintro e w1 ⟨rfl, hb1⟩))
        go_roundw
        case rel => exact ⟨k + 1, by omega, by go_num, by rw [allOk_take l k hlt, HA.out, HV.out]; rfl, (HB.out.alloc HB.out.size _).trans (hb1.mono (by simp; have := HB.out.size; omega))⟩
        case measure => simp [intOf]; omega
    · go_wp2
      go_ret
      exact ⟨ret_bool (by rw [← HA.out, take_all l k hk hlt]), HB.out⟩

theorem oneKind_ (d : Int) (A : Option Addr) (c : Nat) (l : List Va) (w : World) (hl : l.length ≤ maxLen) (h : Sl w A l) :
    Calls Tryz.prog 58 #[.int .i64 d, .slice A l.length c] w fun e w' => e = .returned (.bool (oneK d l)) ∧ Below w.heap.size w w' := by
  unfold maxLen at hl
  go_enter Tryz.func58, Tryz.ntmps58
  go_wp2
  go_loopw [0, 9] (fun q i x => ∃ (k : Nat) (d' : Int), k ≤ l.length ∧ i = .int .i64 k ∧ q = .int .i64 d' ∧ oneK d l = oneK d' (l.drop k) ∧ Below w.heap.size w x) (fun q i x => l.length - (intOf i).toNat)
  case atStart => exact ⟨0, d, Nat.zero_le _, rfl, rfl, by simp, Below.refl _ _⟩
  case round =>
    obtain ⟨k, d', hk, rfl, rfl, ha, hB⟩ := hrel
    have HA := Lib.hid ha
    have HB := Lib.hid hB
    clear ha hB
    by_cases hlt : k < l.length
    · obtain ⟨b, off, rfl, hb, c0, c1, c2⟩ := (h.below HB.out) k _ (List.getElem?_eq_getElem hlt)
      clear h
      have HD := Lib.hid (oneK_drop d' l k hlt)
      cases h0 : l[k].k == 0
      · rw [h0] at HD
        cases h1 : d' == 0
        · rw [h1] at HD
          cases h2 : l[k].k != d'
          · rw [h2] at HD
            go_wp2
            go_roundw
            case rel => exact ⟨k + 1, d', by omega, by go_num, rfl, by rw [HA.out, HD.out]; rfl, HB.out.alloc HB.out.size _⟩
            case measure => simp [intOf]; omega
          · rw [h2] at HD
            go_wp2
            go_ret
            exact ⟨ret_bool (by rw [HA.out, HD.out]; rfl), HB.out.alloc HB.out.size _⟩
        · rw [h1] at HD
          obtain rfl : d' = 0 := by simpa using h1
          clear h1
          go_wp2
          go_roundw
          case rel => exact ⟨k + 1, l[k].k, by omega, by go_num, rfl, by rw [HA.out, HD.out]; rfl, HB.out.alloc HB.out.size _⟩
          case measure => simp [intOf]; omega
      · rw [h0] at HD
        go_wp2
        go_roundw
        case rel => exact ⟨k + 1, d', by omega, by go_num, rfl, by rw [HA.out, HD.out]; rfl, HB.out.alloc HB.out.size _⟩
        case measure => simp [intOf]; omega
    · go_wp2
      go_ret
      exact ⟨ret_bool (by rw [HA.out, List.drop_of_length_le (by omega)]; rfl), HB.out⟩

theorem ref_all (A : Option Addr) (c : Nat) (l : List Va) (w : World) (hl : l.length ≤ maxLen) (hm : ∀ v ∈ l, v.s.size ≤ maxLen) (h : Sl w A l) :
    Calls Tryz.prog 20 #[.slice A l.length c] w fun e w' => e = .returned (.bool (allOk l)) ∧ Below w.heap.size w w' := by
  unfold maxLen at hl
  have hM := Lib.hid hm
  clear hm
  go_enter Tryz.func20, Tryz.ntmps20
  go_wp2
  go_loopw [7] (fun i x => ∃ k : Nat, k ≤ l.length ∧ i = .int .i64 k ∧ allOk (l.take k) = true ∧ Below w.heap.size w x) (fun i x => l.length - (intOf i).toNat)
  case atStart => exact ⟨0, Nat.zero_le _, rfl, by simp [allOk], Below.refl _ _⟩
  case round =>
    obtain ⟨k, hk, rfl, ha, hB⟩ := hrel
    have HA := Lib.hid ha
    have HB := Lib.hid hB
    clear ha hB
    by_cases hlt : k < l.length
    · obtain ⟨b, off, rfl, hb, c0, c1, c2⟩ := (h.below HB.out) k _ (List.getElem?_eq_getElem hlt)
      clear h
      have hmk := hM.out _ (List.getElem_mem hlt)
      cases hv : vld l[k].k l[k].n l[k].s
      · have HV := Lib.hid hv
        go_wp2_with (first | (go_at_call 52; refine (ref_valid _ _ _ _ hmk).mono ?_; rintro e w1 ⟨rfl, hb1⟩))
        go_ret
        exact ⟨ret_bool (allOk_no l k hlt HV.out).symm, (HB.out.alloc HB.out.size _).trans (hb1.mono (by simp; have := HB.out.size; omega))⟩
      · have HV := Lib.hid hv
        go_wp2_with (first | (go_at_call 52; refine (ref_valid _ _ _ _ hmk).mono ?_; rintro e w1 ⟨rfl, hb1⟩))
        go_roundw
        case rel => exact ⟨k + 1, by omega, by go_num, by rw [allOk_take l k hlt, HA.out, HV.out]; rfl, (HB.out.alloc HB.out.size _).trans (hb1.mono (by simp; have := HB.out.size; omega))⟩
        case measure => simp [intOf]; omega
    · go_wp2
      go_ret
      exact ⟨ret_bool (by rw [← HA.out, take_all l k hk hlt]), HB.out⟩

theorem few_ (A : Option Addr) (c : Nat) (l : List Va) (w : World) (hl : l.length ≤ maxLen) (h : Sl w A l) :
    Calls Tryz.prog 6 #[.slice A l.length c] w fun e w' => (∃ b : Bool, e = .returned (.bool b)) ∧ Below w.heap.size w w' := by
  unfold maxLen at hl
  go_enter Tryz.func6, Tryz.ntmps6
  go_wp2
  go_loopw [3, 8] (fun q i x => ∃ (k : Nat) (n : Int), k ≤ l.length ∧ i = .int .i64 k ∧ q = .int .i64 n ∧ Below w.heap.size w x) (fun q i x => l.length - (intOf i).toNat)
  case atStart => exact ⟨0, 0, Nat.zero_le _, rfl, rfl, Below.refl _ _⟩
  case round =>
    obtain ⟨k, n, hk, rfl, rfl, hB⟩ := hrel
    have HB := Lib.hid hB
    clear hB
    by_cases hlt : k < l.length
    · obtain ⟨b, off, rfl, hb, c0, c1, c2⟩ := (h.below HB.out) k _ (List.getElem?_eq_getElem hlt)
      clear h
      go_wp2
      go_roundw
      case rel => exact ⟨k + 1, _, by omega, by go_num, rfl, HB.out.alloc HB.out.size _⟩
      case measure => simp [intOf]; omega
    · go_wp2
      go_ret
      exact ⟨⟨_, rfl⟩, HB.out⟩
end Go.Proofs.YthomeplakcbfoaaGreatDoor
