/-
  The reference's reader: faults, steps.
-/
import Derived.Test.YtpmppndhfljcpaaGreatDoorQH
import Derived.BigRegion
namespace Go.Proofs.YtpmppndhfljcpaaGreatDoor
open Go.RowKit

set_option maxRecDepth 100000 in
set_option maxHeartbeats 2000000 in
theorem refFault_ (R : Nat) (s : ByteArray) (i : Nat) (ln cl : Int) (o : Value) (fc : Int) (fn : ByteArray) (fl fcl : Int) (c : Int) (nm : ByteArray) (w : World) (h : BL w R (rr s i ln cl o fc fn fl fcl)) :
    Calls Tryz.prog 81 #[.pointer (some ⟨R, 0, none⟩), .int .i64 c, .string nm] w fun e w' => e = .returned (.int .i64 0) ∧ KR w w' R (rr s i ln cl o c nm ln cl) [] := by
  have K0 := Lib.hid (KR.start h)
  obtain ⟨⟨c0, c1, c2, c3, c4, c5, c6, c7, c8⟩, ⟨f0, f1, f2, f3, f4, f5, f6, f7, f8⟩, hl⟩ := h.open9
  clear h
  go_enter Tryz.func81, Tryz.ntmps81
  go_wp2_with fail
  go_region
  go_wp2
  go_ret
  exact ⟨rfl, ((((K0.out.setR 5 (.int .i64 c) (by simp)).setR 6 (.string nm) (by simp)).setR 7 (.int .i64 ln) (by simp)).setR 8 (.int .i64 cl) (by simp)).drew⟩
set_option maxRecDepth 100000 in
set_option maxHeartbeats 2000000 in
theorem refStep_ (R : Nat) (s : ByteArray) (i n : Nat) (o : Value) (fc : Int) (fn : ByteArray) (fl fcl : Int) (w : World) (h : BL w R (rr s i (placeP (s.data.toList.take i)).1 (placeP (s.data.toList.take i)).2 o fc fn fl fcl)) (hs : s.size ≤ 4000000) (hi : i + n ≤ s.size) :
    Calls Tryz.prog 83 #[.pointer (some ⟨R, 0, none⟩), .int .i64 n] w fun e w' => e = .returned (.tuple #[]) ∧ KR w w' R (rr s (i + n) (placeP (s.data.toList.take (i + n))).1 (placeP (s.data.toList.take (i + n))).2 o fc fn fl fcl) [] := by
  have HSZ : Hid (s.data.toList.length = s.size) := Lib.hid (by simp)
  have K0 := Lib.hid (KR.start h)
  clear h
  go_enter Tryz.func83, Tryz.ntmps83
  go_wp2_with fail
  go_loopw [5] (fun v x => ∃ k : Nat, k ≤ n ∧ v = .int .i64 k ∧ KR w x R (rr s (i + k) (placeP (s.data.toList.take (i + k))).1 (placeP (s.data.toList.take (i + k))).2 o fc fn fl fcl) []) (fun v x => n - (intOf v).toNat)
  case atStart => exact ⟨0, Nat.zero_le _, rfl, K0.out⟩
  case round =>
    clear K0
    obtain ⟨k, hk, rfl, hK⟩ := hrel
    have K := Lib.hid hK
    clear hK
    by_cases hlt : k < n
    · have hmi : i + k < s.size := by omega
      have hmm : i + (k + 1) = i + k + 1 := by omega
      generalize hm : i + k = m at *
      have HMM := Lib.hid hmm
      clear hmm hm
      have hb := placeP_bound (s.data.toList.take m)
      have hbl : (s.data.toList.take m).length ≤ 4000000 := by rw [List.length_take, HSZ.out]; omega
      obtain ⟨hkl, hge⟩ := sub_cells (s := s) (k := m) hmi
      have HP := Lib.hid (placeP_snoc s.data.toList m hkl)
      rw [hge hkl] at HP
      generalize placeP (s.data.toList.take m) = p at *
      obtain ⟨ln, cl⟩ := p
      simp only at hb K
      obtain ⟨hb1, hb2, hb3, hb4⟩ := hb
      have hln : ln ≤ 4000001 := by omega
      have hcl : cl ≤ 4000001 := by omega
      clear hb2 hb4 hbl hge
      obtain ⟨⟨c0, c1, c2, c3, c4, c5, c6, c7, c8⟩, ⟨f0, f1, f2, f3, f4, f5, f6, f7, f8⟩, hl⟩ := K.out.r.open9
      have hik : (m : Int) < s.size := by omega
      have hik0 : (m : Int) + 1 ≤ 4000000 := by omega
      go_wp2_with fail
      have K2 : Hid (KR w (wr.setCell ⟨R, 3, none⟩ (.int .i64 (cl + 1))) R (rr s m ln (cl + 1) o fc fn fl fcl) []) := Lib.hid (K.out.setR 3 (.int .i64 (cl + 1)) (by simp))
      clear c0 c1 c2 c3 c4 c5 c6 c7 c8 f0 f1 f2 f3 f4 f5 f6 f7 f8 hl
      generalize wr.setCell ⟨R, 3, none⟩ (.int .i64 (cl + 1)) = w2 at K2 ⊢
      obtain ⟨⟨c0, c1, -⟩, -, hl⟩ := K2.out.r.open9
      by_cases h10 : s[m] = 10
      · have h10' : ((s[m].toNat : Int) == 10) = true := by rw [h10]; rfl
        have H10 := Lib.hid h10
        rw [h10, stepP_ten] at HP
        clear h10
        go_quiet (fail)
        clear c0 c1 hl
        have K3 := Lib.hid (K2.out.below (Below.drewN w2 nq))
        obtain ⟨⟨c0, c1, c2, c3, c4, c5, c6, c7, c8⟩, ⟨f0, f1, f2, f3, f4, f5, f6, f7, f8⟩, hl⟩ := K3.out.r.open9
        go_wp2_with fail
        have K4 := Lib.hid (((K3.out.setR 2 (.int .i64 (ln + 1)) (by simp)).setR 3 (.int .i64 1) (by simp)).setR 1 (.int .i64 (m + 1 : Nat)) (by simp))
        go_roundw
        case rel =>
          refine ⟨k + 1, by omega, by go_num, ?_⟩
          rw [HMM.out, HP.out]
          exact K4.out
        case measure => simp [intOf]; omega
      · have h10' : ((s[m].toNat : Int) == 10) = false := by
          have q : ((s[m].toNat : Int) == ((10 : UInt8).toNat : Int)) = (s[m] == 10) := byte_eq' _ _
          rw [show ((10 : UInt8).toNat : Int) = 10 from rfl] at q
          rw [q]; simpa using h10
        rw [stepP_not _ h10] at HP
        clear h10
        go_quiet (fail)
        clear c0 c1 hl
        have K3 := Lib.hid (K2.out.below (Below.drewN w2 nq))
        obtain ⟨⟨c0, c1, c2, c3, c4, c5, c6, c7, c8⟩, ⟨f0, f1, f2, f3, f4, f5, f6, f7, f8⟩, hl⟩ := K3.out.r.open9
        go_wp2_with fail
        have K4 := Lib.hid (K3.out.setR 1 (.int .i64 (m + 1 : Nat)) (by simp))
        go_roundw
        case rel =>
          refine ⟨k + 1, by omega, by go_num, ?_⟩
          rw [HMM.out, HP.out]
          exact K4.out
        case measure => simp [intOf]; omega
    · obtain rfl : k = n := by omega
      have hd : decide ((k : Int) < k) = false := by simp
      go_wp2_with fail
      go_end0
      exact ⟨rfl, K.out⟩
end Go.Proofs.YtpmppndhfljcpaaGreatDoor
