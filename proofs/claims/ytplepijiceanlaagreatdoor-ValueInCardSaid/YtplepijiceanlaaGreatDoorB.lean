/-
  Contracts: True of package value and of its reference; which strings are texts.
-/
import Derived.Test.YtplepijiceanlaaGreatDoorA
import Derived.Deep.RegionHeld3
namespace Go.Proofs.YtplepijiceanlaaGreatDoor
open Go.RowKit

theorem bcell {W w1 : World} (hb : Below W.heap.size W w1) (b o : Nat) (h : b < W.heap.size) : w1.cell? ⟨b, o, none⟩ = W.cell? ⟨b, o, none⟩ := hb.cell (p := ⟨b, o, none⟩) h

theorem true_ (k n : Int) (s : ByteArray) (w : World) :
    Calls Tryz.prog 17 #[V k n s] w fun e w' => e = .returned (.bool (eqV k n s 3 1 ⟨#[]⟩)) ∧ Below w.heap.size w w' := by
  go_enter Tryz.func17, Tryz.ntmps17
  go_wp2
  go_region_held3 (fun x => (x.cell? ⟨w.heap.size, 0, none⟩ = some (.int .i64 k) ∧ x.cell? ⟨w.heap.size, 1, none⟩ = some (.int .i64 n) ∧ x.cell? ⟨w.heap.size, 2, none⟩ = some (.string s)) ∧ w.heap.size < x.heap.size ∧ Below w.heap.size w x)
    (first | exact ⟨by simp [go_sem], by simp, (new1 _ _).drew⟩ | (obtain ⟨⟨c0, c1, c2⟩, hz, hB⟩ := ‹_ ∧ _›; exact ⟨⟨(bcell hb _ _ hz).trans c0, (bcell hb _ _ hz).trans c1, (bcell hb _ _ hz).trans c2⟩, Nat.lt_of_lt_of_le hz hb.size, hB.trans (hb.mono (Nat.le_of_lt hz))⟩))
    (first | (go_at_call 60; refine (boolean_ _ _).mono ?_; rintro e w1 ⟨rfl, hb⟩))
  rename_i hH
  have hB := Lib.hid hH.2.2
  clear hH
  go_wp2
  go_ret
  exact ⟨rfl, hB.out⟩
theorem ref_true (k n : Int) (s : ByteArray) (w : World) :
    Calls Tryz.prog 18 #[V k n s] w fun e w' => e = .returned (.bool (eqV k n s 3 1 ⟨#[]⟩)) ∧ Below w.heap.size w w' := by
  go_enter Tryz.func18, Tryz.ntmps18
  go_wp2
  go_region_held3 (fun x => (x.cell? ⟨w.heap.size, 0, none⟩ = some (.int .i64 k) ∧ x.cell? ⟨w.heap.size, 1, none⟩ = some (.int .i64 n) ∧ x.cell? ⟨w.heap.size, 2, none⟩ = some (.string s)) ∧ w.heap.size < x.heap.size ∧ Below w.heap.size w x)
    (first | exact ⟨by simp [go_sem], by simp, (new1 _ _).drew⟩ | (obtain ⟨⟨c0, c1, c2⟩, hz, hB⟩ := ‹_ ∧ _›; exact ⟨⟨(bcell hb _ _ hz).trans c0, (bcell hb _ _ hz).trans c1, (bcell hb _ _ hz).trans c2⟩, Nat.lt_of_lt_of_le hz hb.size, hB.trans (hb.mono (Nat.le_of_lt hz))⟩))
    (first | (go_at_call 55; refine (ref_bool _ _).mono ?_; rintro e w1 ⟨rfl, hb⟩))
  rename_i hH
  have hB := Lib.hid hH.2.2
  clear hH
  go_wp2
  go_ret
  exact ⟨rfl, hB.out⟩

theorem ret_bool {a b : Bool} (h : a = b) : Ending.returned (.bool a) = Ending.returned (.bool b) := by rw [h]
theorem all_take (s : ByteArray) (k : Nat) (h : k < s.size) : (s.data.toList.take (k + 1)).all okByte = ((s.data.toList.take k).all okByte && okByte s[k]) := by
  rw [List.take_succ_eq_append_getElem (by simpa using h), List.all_append]
  simp
  rfl
theorem okText_bad (s : ByteArray) (k : Nat) (h : k < s.size) (hb : (s[k].toNat : Int) < 32 ∨ 126 < (s[k].toNat : Int)) : okText s = false := by
  have h1 : s.data.toList.all okByte = false := by
    rw [List.all_eq_false]
    refine ⟨s[k], ?_, ?_⟩
    · show s.data[k] ∈ _
      simp
    · unfold okByte
      simp
      omega
  simp [okText, h1]
theorem okText_good (s : ByteArray) (k : Nat) (hk : k ≤ s.size) (hge : ¬ k < s.size) (ha : (s.data.toList.take k).all okByte = true) (h : s.size ≤ 200) : okText s = true := by
  have : k = s.data.toList.length := by simp; show k = s.size; omega
  rw [this, List.take_length] at ha
  simp only [okText, ha, Bool.and_true, decide_eq_true_eq]
  exact h
theorem okText_long (s : ByteArray) (h : 200 < s.size) : okText s = false := by simp [okText]; omega
theorem okByte_of (c : UInt8) (h1 : (32 : Int) ≤ c.toNat) (h2 : (c.toNat : Int) ≤ 126) : okByte c = true := by simp [okByte]; omega

theorem isText_ (s : ByteArray) (w : World) : Calls Tryz.prog 59 #[.string s] w fun e w' => e = .returned (.bool (okText s)) ∧ w = w' := by
  by_cases hs : 200 < s.size
  · go_enter Tryz.func59, Tryz.ntmps59
    go_wp2
    go_ret
    exact ⟨ret_bool (okText_long s hs).symm, rfl⟩
  · go_enter Tryz.func59, Tryz.ntmps59
    go_wp2
    go_loop [9] (fun i => ∃ k : Nat, k ≤ s.size ∧ i = .int .i64 k ∧ (s.data.toList.take k).all okByte = true) (fun i => s.size - (intOf i).toNat)
    case atStart => exact ⟨0, Nat.zero_le _, rfl, by simp⟩
    case round =>
      obtain ⟨k, hk, rfl, ha⟩ := hrel
      have HA := Lib.hid ha
      clear ha
      by_cases hlt : k < s.size
      · go_wp2
        · go_ret
          exact ⟨ret_bool (okText_bad s k hlt (by omega)).symm, rfl⟩
        · go_round
          case rel => exact ⟨k + 1, by omega, by go_num, by rw [all_take s k hlt, HA.out, okByte_of _ (by omega) (by omega)]; rfl⟩
          case measure => simp [intOf]; omega
        · go_ret
          exact ⟨ret_bool (okText_bad s k hlt (by omega)).symm, rfl⟩
      · go_wp2
        go_ret
        exact ⟨ret_bool (okText_good s k hk hlt HA.out (by omega)).symm, rfl⟩

theorem isString_ (s : ByteArray) (w : World) (hm : s.size ≤ maxLen) : Calls Tryz.prog 53 #[.string s] w fun e w' => e = .returned (.bool (okText s)) ∧ w = w' := by
  unfold maxLen at hm
  go_enter Tryz.func53, Tryz.ntmps53
  go_wp2
  go_loop [3] (fun i => ∃ k : Nat, k ≤ s.size ∧ i = .int .i64 k ∧ (s.data.toList.take k).all okByte = true) (fun i => s.size - (intOf i).toNat)
  case atStart => exact ⟨0, Nat.zero_le _, rfl, by simp⟩
  case round =>
    obtain ⟨k, hk, rfl, ha⟩ := hrel
    have HA := Lib.hid ha
    clear ha
    by_cases hlt : k < s.size
    · go_wp2
      · go_ret
        exact ⟨ret_bool (okText_bad s k hlt (by omega)).symm, rfl⟩
      · go_round
        case rel => exact ⟨k + 1, by omega, by go_num, by rw [all_take s k hlt, HA.out, okByte_of _ (by omega) (by omega)]; rfl⟩
        case measure => simp [intOf]; omega
      · go_ret
        exact ⟨ret_bool (okText_bad s k hlt (by omega)).symm, rfl⟩
    · by_cases hs : 200 < s.size
      · go_wp2
        go_ret
        exact ⟨ret_bool (by rw [okText_long s hs]; simp; omega), rfl⟩
      · go_wp2
        go_ret
        exact ⟨ret_bool (by rw [okText_good s k hk hlt HA.out (by omega)]; simp; omega), rfl⟩
end Go.Proofs.YtplepijiceanlaaGreatDoor
