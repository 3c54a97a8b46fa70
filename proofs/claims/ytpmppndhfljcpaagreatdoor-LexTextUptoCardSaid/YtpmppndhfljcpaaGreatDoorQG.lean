/-
  The reference's signs, numbers, runs of bytes.
-/
import Derived.Test.YtpmppndhfljcpaaGreatDoorQC
import Derived.Test.YtpmppndhfljcpaaGreatDoorQF
import Derived.Test.YtpmppndhfljcpaaGreatDoorGj
import Derived.Deep.QuietTactic
import Derived.BigQuiet
namespace Go.Proofs.YtpmppndhfljcpaaGreatDoor
open Go.RowKit

theorem memB_no (k : Nat) (s : Bs) (l : List Bs) (h : ∀ g ∈ l.take k, g ≠ s) (hk : l.length ≤ k) : l.contains s = false := by
  rw [List.take_of_length_le hk] at h
  rw [List.contains_eq_mem, decide_eq_false_iff_not]
  exact fun hm => h s hm rfl
set_option maxRecDepth 100000 in
set_option maxHeartbeats 1000000 in
theorem refIsSign_ (s : ByteArray) (w : World) : Calls Tryz.prog 134 #[.string s] w fun e w' => e = .returned (.bool (memB signs s.data.toList)) ∧ Below w.heap.size w w' := by
  go_enter Tryz.func134, Tryz.ntmps134
  go_wp2_with fail
  go_loopw [7] (fun i x => ∃ k : Nat, k ≤ 20 ∧ i = .int .i64 k ∧ (∀ g ∈ signs.take k, g ≠ s.data.toList) ∧ StrsAt x w.heap.size signs ∧ Below w.heap.size w x) (fun i x => 20 - (intOf i).toNat)
  case atStart => exact ⟨0, Nat.zero_le _, rfl, by intro g hg; simp at hg, strsAt_new w signs 9, new1 _ _⟩
  case round =>
    obtain ⟨k, hk, rfl, hN, hT, hB⟩ := hrel
    have HN := Lib.hid hN
    have T := Lib.hid hT
    have HB := Lib.hid hB
    clear hN hT hB
    by_cases hlt : k < 20
    · obtain ⟨g, hg⟩ : ∃ g, signs[k]? = some g := ⟨signs[k]'hlt, List.getElem?_eq_getElem hlt⟩
      have c0 := T.out.2 k g hg
      have hb2 := T.out.1
      have HG := Lib.hid hg
      clear hg
      cases hq : (baOf g).toList == s.toList
      · have HQ : Hid (g ≠ s.data.toList) := Lib.hid (by intro e; rw [beq_eq_false_iff_ne, toList_dat, toList_dat, baOf_data] at hq; exact hq e)
        go_wp2_with fail
        go_roundw
        case rel =>
          refine ⟨k + 1, by omega, by go_num, fun g' hg' => ?_, T.out, HB.out⟩
          have hl : k < signs.length := hlt
          rw [List.take_succ_eq_append_getElem hl] at hg'
          rcases List.mem_append.1 hg' with q | q
          · exact HN.out g' q
          · have e := HG.out
            rw [List.getElem?_eq_getElem hl] at e
            injection e with e
            rw [List.mem_singleton.1 q, e]
            exact HQ.out
        case measure => simp [intOf]; omega
      · have HQ : Hid (signs.contains s.data.toList = true) := Lib.hid (by
          rw [beq_iff_eq, toList_dat, toList_dat, baOf_data] at hq
          rw [← hq, List.contains_iff_mem]
          exact List.mem_of_getElem? HG.out)
        go_wp2_with fail
        go_ret
        exact ⟨ret_bool HQ.out.symm, HB.out⟩
    · obtain rfl : k = 20 := by omega
      go_wp2_with fail
      go_ret
      exact ⟨ret_bool (memB_no 20 s.data.toList signs HN.out (by decide)).symm, HB.out⟩
set_option maxRecDepth 100000 in
set_option maxHeartbeats 1000000 in
theorem number_ (s : ByteArray) (w : World) (hs : s.size ≤ 4000000) (hd : s.data.toList.all digitB = true) : Calls Tryz.prog 132 #[.string s] w fun e w' => e = .returned (.int .i64 (numC s.data.toList : Nat)) ∧ w = w' := by
  have HSZ : Hid (s.data.toList.length = s.size) := Lib.hid (by simp)
  have HD := Lib.hid hd
  clear hd
  go_enter Tryz.func132, Tryz.ntmps132
  go_wp2_with fail
  go_loop [3, 4] (fun n i => ∃ k : Nat, k ≤ s.size ∧ i = .int .i64 k ∧ n = .int .i64 (numC (s.data.toList.take k) : Nat)) (fun n i => s.size - (intOf i).toNat)
  case atStart => exact ⟨0, Nat.zero_le _, rfl, rfl⟩
  case round =>
    obtain ⟨k, hk, rfl, rfl⟩ := hrel
    have hle := numC_le (s.data.toList.take k)
    by_cases hlt : k < s.size
    · have hkl : k < s.data.toList.length := by rw [HSZ.out]; exact hlt
      have HT := Lib.hid (numC_take s.data.toList k hkl)
      have HE : Hid (s.data.toList[k] = s[k]) := Lib.hid (by rfl)
      have hdg : digitB s[k] = true := by rw [← HE.out]; exact List.all_eq_true.1 HD.out _ (List.getElem_mem hkl)
      have hc0 : 48 ≤ (s[k].toNat : Int) := by simp [digitB] at hdg; omega
      have hc1 : (s[k].toNat : Int) ≤ 57 := by simp [digitB] at hdg; omega
      clear hdg
      generalize numC (s.data.toList.take k) = n at *
      have hle' : (n : Int) ≤ 1099511627777 := by omega
      clear hle
      go_wp2_with fail
      go_round
      case rel =>
        refine ⟨k + 1, by omega, by go_num, ?_⟩
        rw [HT.out, HE.out]
        unfold stepC
        congr 1
        first | omega | (split <;> omega)
      case measure => simp [intOf]; omega
    · have hall : s.data.toList.take k = s.data.toList := List.take_of_length_le (by rw [HSZ.out]; omega)
      rw [hall]
      clear hall hle
      go_wp2_with fail
      go_ret
      exact ⟨rfl, rfl⟩
end Go.Proofs.YtpmppndhfljcpaaGreatDoor
