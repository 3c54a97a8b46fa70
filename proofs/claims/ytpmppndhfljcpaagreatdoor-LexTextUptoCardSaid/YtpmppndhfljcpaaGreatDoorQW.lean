/-
  The law's own count of tokens.
-/
import Derived.Test.YtpmppndhfljcpaaGreatDoorGj
namespace Go.Proofs.YtpmppndhfljcpaaGreatDoor
open Go.RowKit

def cntT (l : List Tv) : Nat := (l.map fun v => 1 + v.t.size / 20).sum
theorem cntT_take (l : List Tv) (k : Nat) (h : k < l.length) : cntT (l.take (k + 1)) = cntT (l.take k) + (1 + l[k].t.size / 20) := by
  unfold cntT
  rw [List.take_succ_eq_append_getElem h, List.map_append, List.sum_append]
  simp
theorem cntT_app (a b : List Tv) : cntT (a ++ b) = cntT a + cntT b := by unfold cntT; rw [List.map_append, List.sum_append]
theorem cntT_le (l : List Tv) (k : Nat) : cntT (l.take k) ≤ cntT l := by
  have h := cntT_app (l.take k) (l.drop k)
  rw [List.take_append_drop] at h
  omega
theorem cntT_len (l : List Tv) : l.length ≤ cntT l := by
  induction l with
  | nil => simp
  | cons v r ih =>
    have e : cntT (v :: r) = (1 + v.t.size / 20) + cntT r := by unfold cntT; simp
    rw [e, List.length_cons]
    omega
set_option maxRecDepth 100000 in
set_option maxHeartbeats 1000000 in
theorem few_ (A : Option Addr) (c : Nat) (l : List Tv) (w : World) (hl : cntT l ≤ 1100000) (ha : SlT w A l) :
    Calls Tryz.prog 34 #[.slice A l.length c] w fun e w' => e = .returned (.bool (decide ((cntT l : Int) ≤ 4200))) ∧ Below w.heap.size w w' := by
  have HA := Lib.hid ha
  have hll := cntT_len l
  clear ha
  go_enter Tryz.func34, Tryz.ntmps34
  go_wp2_with fail
  go_loopw [3, 8] (fun n i x => ∃ k : Nat, k ≤ l.length ∧ i = .int .i64 k ∧ n = .int .i64 (cntT (l.take k) : Nat) ∧ Below w.heap.size w x) (fun n i x => l.length - (intOf i).toNat)
  case atStart => exact ⟨0, Nat.zero_le _, rfl, rfl, Below.refl _ _⟩
  case round =>
    obtain ⟨k, hk, rfl, rfl, hB⟩ := hrel
    have HB := Lib.hid hB
    clear hB
    have hle := cntT_le l k
    by_cases hlt : k < l.length
    · obtain ⟨bb, off, rfl, hb, c0, c1, c2, c3, c4⟩ := (HA.out.below HB.out) k _ (List.getElem?_eq_getElem hlt)
      have hlt1 : (k : Int) < l.length := by omega
      have ht := cntT_take l k hlt
      have hle2 := cntT_le l (k + 1)
      have HT := Lib.hid ht
      have hq : l[k].t.size / 20 ≤ 1100000 := by omega
      have hz : l[k].t.size ≤ 22000020 := by omega
      generalize l[k] = v at *
      generalize hn : cntT (l.take k) = n at *
      clear ht hle2 hn
      go_wp2_with fail
      go_roundw
      case rel =>
        refine ⟨k + 1, by omega, by go_num, ?_, HB.out.alloc HB.out.size _⟩
        rw [HT.out]
        first | rfl | (congr 1; omega) | (congr 1)
      case measure => simp [intOf]; omega
    · have hall : l.take k = l := List.take_of_length_le (by omega)
      rw [hall]
      clear hall hle
      go_wp2_with fail
      go_ret
      exact ⟨rfl, HB.out⟩
end Go.Proofs.YtpmppndhfljcpaaGreatDoor
