/-
  Contracts: IsRow and SameRow of the reference; SameRow.
-/
import Derived.Test.YtplepijiceanlaaGreatDoorR
import Derived.Deep.QuietTactic
import Derived.BigQuiet
namespace Go.Proofs.YtplepijiceanlaaGreatDoor
open Go.RowKit

theorem refIsRow_ (A : Option Addr) (c : Nat) (l : List Va) (w : World) (hl : l.length ≤ maxLen) (hm : ∀ v ∈ l, v.s.size ≤ maxLen) (h : Sl w A l) :
    Calls Tryz.prog 22 #[.slice A l.length c] w fun e w' => e = .returned (.bool (decide (l.length ≤ 20) && allOk l)) ∧ Below w.heap.size w w' := by
  have HC := Lib.hid (ref_all A c l w hl hm h)
  clear hm
  by_cases h20 : l.length ≤ 20
  · have H : Hid ((decide (l.length ≤ 20) && allOk l) = allOk l) := Lib.hid (by simp [h20])
    go_enter Tryz.func22, Tryz.ntmps22
    go_wp2_with (first
      | (go_at_call 51; refine (HC.out).mono ?_; rintro e y ⟨rfl, hb⟩))
    go_ret
    exact ⟨ret_bool (by rw [H.out]), hb⟩
  · go_enter Tryz.func22, Tryz.ntmps22
    go_wp2
    go_ret
    exact ⟨ret_bool (by simp), Below.refl _ _⟩

def veq (a b : Va) : Bool := eqV a.k a.n a.s b.k b.n b.s
/-- Two rows have the same values. -/
def rowEq (la lb : List Va) : Bool := decide (la.length = lb.length) && (List.range la.length).all fun j => veq (la.getD j nulV) (lb.getD j nulV)
theorem range_all (k : Nat) (p : Nat → Bool) : (List.range (k + 1)).all p = ((List.range k).all p && p k) := by
  rw [List.range_succ, List.all_append]; simp
theorem rowEq_no (la lb : List Va) (k : Nat) (hk : k < la.length) (h : veq (la.getD k nulV) (lb.getD k nulV) = false) : rowEq la lb = false := by
  unfold rowEq
  have : ((List.range la.length).all fun j => veq (la.getD j nulV) (lb.getD j nulV)) = false := by
    rw [List.all_eq_false]; exact ⟨k, List.mem_range.2 hk, by rw [h]; decide⟩
  rw [this]; simp
theorem rowEq_next (la lb : List Va) (k : Nat) (h : ((List.range k).all fun j => veq (la.getD j nulV) (lb.getD j nulV)) = true) (hk : veq (la.getD k nulV) (lb.getD k nulV) = true) : ((List.range (k + 1)).all fun j => veq (la.getD j nulV) (lb.getD j nulV)) = true := by
  rw [range_all, h, hk]; rfl
theorem getD_of (l : List Va) (k : Nat) (h : k < l.length) : l[k]? = some (l.getD k nulV) := by
  simp [h]
set_option maxRecDepth 100000 in
set_option maxHeartbeats 4000000 in
theorem sameRow_ (A B : Option Addr) (ca cb : Nat) (la lb : List Va) (w : World) (hla : la.length ≤ maxLen) (ha : Sl w A la) (hb : Sl w B lb) :
    Calls Tryz.prog 23 #[.slice A la.length ca, .slice B lb.length cb] w fun e w' => e = .returned (.bool (rowEq la lb)) ∧ Below w.heap.size w w' := by
  unfold maxLen at hla
  by_cases hlen : lb.length = la.length
  · rw [hlen]
    have HL := Lib.hid hlen
    have HA := Lib.hid ha
    have HB := Lib.hid hb
    clear hlen ha hb
    go_enter Tryz.func23, Tryz.ntmps23
    go_wp2
    go_loopw [14] (fun i x => ∃ k : Nat, k ≤ la.length ∧ i = .int .i64 k ∧ ((List.range k).all fun j => veq (la.getD j nulV) (lb.getD j nulV)) = true ∧ Below w.heap.size w x) (fun i x => la.length - (intOf i).toNat)
    case atStart => exact ⟨0, Nat.zero_le _, rfl, rfl, Below.refl _ _⟩
    case round =>
      obtain ⟨k, hk, rfl, hq, hB⟩ := hrel
      have HQ := Lib.hid hq
      have HW := Lib.hid hB
      clear hq hB
      by_cases hlt : k < la.length
      · obtain ⟨b1, o1, rfl, l1, c0, c1, c2⟩ := (HA.out.below HW.out) k _ (getD_of la k hlt)
        obtain ⟨b2, o2, rfl, l2, d0, d1, d2⟩ := (HB.out.below HW.out) k _ (getD_of lb k (by rw [HL.out]; exact hlt))
        have HN := Lib.hid (rowEq_no la lb k hlt)
        have HR := Lib.hid (rowEq_next la lb k HQ.out)
        generalize la.getD k nulV = u at *
        generalize lb.getD k nulV = v at *
        cases he : eqV u.k u.n u.s v.k v.n v.s
        · have HF := Lib.hid (HN.out he)
          clear HN HR
          go_wp2
          go_quiet (fail)
          go_wp2
          go_ret
          exact ⟨ret_bool HF.out.symm, below_drewN (HW.out.alloc HW.out.size _) _⟩
        · have HF := Lib.hid (HR.out he)
          clear HN HR
          go_wp2
          go_quiet (fail)
          go_wp2
          go_roundw
          case rel => exact ⟨k + 1, by omega, by go_num, HF.out, below_drewN (HW.out.alloc HW.out.size _) _⟩
          case measure => simp [intOf]; omega
      · go_wp2
        go_ret
        exact ⟨ret_bool (by
          have e : k = la.length := by omega
          rw [e] at HQ
          unfold rowEq
          rw [HQ.out, HL.out]; simp), HW.out⟩
  · have h1 : ¬ la.length = lb.length := fun e => hlen e.symm
    have HN : Hid (rowEq la lb = false) := Lib.hid (by unfold rowEq; simp [h1])
    have h2 : ((la.length : Int) != (lb.length : Int)) = true := by simp; omega
    clear hlen ha hb
    go_enter Tryz.func23, Tryz.ntmps23
    go_wp2
    go_ret
    exact ⟨ret_bool HN.out.symm, Below.refl _ _⟩
set_option maxRecDepth 100000 in
set_option maxHeartbeats 4000000 in
theorem refSameRow_ (A B : Option Addr) (ca cb : Nat) (la lb : List Va) (w : World) (hla : la.length ≤ maxLen) (ha : Sl w A la) (hb : Sl w B lb) :
    Calls Tryz.prog 24 #[.slice A la.length ca, .slice B lb.length cb] w fun e w' => e = .returned (.bool (rowEq la lb)) ∧ Below w.heap.size w w' := by
  unfold maxLen at hla
  by_cases hlen : lb.length = la.length
  · rw [hlen]
    have HL := Lib.hid hlen
    have HA := Lib.hid ha
    have HB := Lib.hid hb
    clear hlen ha hb
    go_enter Tryz.func24, Tryz.ntmps24
    go_wp2
    go_loopw [13] (fun i x => ∃ k : Nat, k ≤ la.length ∧ i = .int .i64 k ∧ ((List.range k).all fun j => veq (la.getD j nulV) (lb.getD j nulV)) = true ∧ Below w.heap.size w x) (fun i x => la.length - (intOf i).toNat)
    case atStart => exact ⟨0, Nat.zero_le _, rfl, rfl, Below.refl _ _⟩
    case round =>
      obtain ⟨k, hk, rfl, hq, hB⟩ := hrel
      have HQ := Lib.hid hq
      have HW := Lib.hid hB
      clear hq hB
      by_cases hlt : k < la.length
      · obtain ⟨b1, o1, rfl, l1, c0, c1, c2⟩ := (HA.out.below HW.out) k _ (getD_of la k hlt)
        obtain ⟨b2, o2, rfl, l2, d0, d1, d2⟩ := (HB.out.below HW.out) k _ (getD_of lb k (by rw [HL.out]; exact hlt))
        have HN := Lib.hid (rowEq_no la lb k hlt)
        have HR := Lib.hid (rowEq_next la lb k HQ.out)
        generalize la.getD k nulV = u at *
        generalize lb.getD k nulV = v at *
        cases he : eqV u.k u.n u.s v.k v.n v.s
        · have HF := Lib.hid (HN.out he)
          clear HN HR
          go_wp2
          go_quiet (fail)
          go_wp2
          go_ret
          exact ⟨ret_bool HF.out.symm, below_drewN HW.out _⟩
        · have HF := Lib.hid (HR.out he)
          clear HN HR
          go_wp2
          go_quiet (fail)
          go_wp2
          go_roundw
          case rel => exact ⟨k + 1, by omega, by go_num, HF.out, below_drewN HW.out _⟩
          case measure => simp [intOf]; omega
      · go_wp2
        go_ret
        exact ⟨ret_bool (by
          have e : k = la.length := by omega
          rw [e] at HQ
          unfold rowEq
          rw [HQ.out, HL.out]; simp), HW.out⟩
  · have h1 : ¬ la.length = lb.length := fun e => hlen e.symm
    have HN : Hid (rowEq la lb = false) := Lib.hid (by unfold rowEq; simp [h1])
    have h2 : ((la.length : Int) != (lb.length : Int)) = true := by simp; omega
    clear hlen ha hb
    go_enter Tryz.func24, Tryz.ntmps24
    go_wp2
    go_ret
    exact ⟨ret_bool HN.out.symm, Below.refl _ _⟩
end Go.Proofs.YtplepijiceanlaaGreatDoor
