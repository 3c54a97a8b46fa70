/-
  The law's own comparison of rows of tokens.
-/
import Derived.Test.YtpmppndhfljcpaaGreatDoorQR
namespace Go.Proofs.YtpmppndhfljcpaaGreatDoor
open Go.RowKit

set_option maxRecDepth 100000 in
set_option maxHeartbeats 2000000 in
theorem tokensEq_ (A B : Option Addr) (c d : Nat) (l : List Tv) (w : World) (hl : l.length ≤ 4398046511000) (ha : SlT w A l) (hb : SlT w B l) :
    Calls Tryz.prog 30 #[.slice A l.length c, .slice B l.length d] w fun e w' => e = .returned (.bool true) ∧ Below w.heap.size w w' := by
  have HA := Lib.hid ha
  have HBm := Lib.hid hb
  clear ha hb
  have hne : ((l.length : Int) != (l.length : Int)) = false := by simp
  go_enter Tryz.func30, Tryz.ntmps30
  go_wp2_with fail
  clear hne
  go_loopw [13] (fun i x => ∃ k : Nat, k ≤ l.length ∧ i = .int .i64 k ∧ Below w.heap.size w x) (fun i x => l.length - (intOf i).toNat)
  case atStart => exact ⟨0, Nat.zero_le _, rfl, Below.refl _ _⟩
  case round =>
    obtain ⟨k, hk, rfl, hB⟩ := hrel
    have HB := Lib.hid hB
    clear hB
    by_cases hlt : k < l.length
    · have hlt1 : (k : Int) < l.length := by omega
      obtain ⟨b, off, rfl, hb, c0, c1, c2, c3, c4⟩ := (HA.out.below HB.out) k _ (List.getElem?_eq_getElem hlt)
      obtain ⟨b', off', rfl, hb', d0, d1, d2, d3, d4⟩ := (HBm.out.below HB.out) k _ (List.getElem?_eq_getElem hlt)
      generalize l[k] = v at *
      obtain ⟨vk, vt, vn, vln, vcl⟩ := v
      dsimp only at c0 c1 c2 c3 c4 d0 d1 d2 d3 d4
      go_wp2
      go_quiet (fail)
      go_wp2
      go_roundw
      case rel => exact ⟨k + 1, by omega, by go_num, HB.out.trans ((Below.drewN _ _).mono HB.out.size)⟩
      case measure => simp [intOf]; omega
    · go_wp2_with fail
      go_ret
      exact ⟨rfl, HB.out⟩
end Go.Proofs.YtpmppndhfljcpaaGreatDoor
