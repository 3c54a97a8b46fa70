/-
  The reference's reader: a string.
-/
import Derived.Test.YtpmppndhfljcpaaGreatDoorQH
namespace Go.Proofs.YtpmppndhfljcpaaGreatDoor
open Go.RowKit

def textO (l : Bs) : ByteArray × Nat := match textL l with | none => (⟨#[]⟩, 0) | some q => (baOf q.1, q.2 + 1)
theorem textO_none {l : Bs} (h : textL l = none) : textO l = (⟨#[]⟩, 0) := by unfold textO; rw [h]
theorem textO_some {l : Bs} {b : Bs} {n : Nat} (h : textL l = some (b, n)) : textO l = (baOf b, n + 1) := by unfold textO; rw [h]
theorem head_dropK (s : ByteArray) (k : Nat) (h : k < s.size) : (s.data.toList.drop k).head? = some s[k] := by rw [drop_cons s k h]; rfl
set_option maxRecDepth 100000 in
set_option maxHeartbeats 4000000 in
theorem refText_ (R : Nat) (s : ByteArray) (i : Nat) (ln cl : Int) (o : Value) (fc : Int) (fn : ByteArray) (fl fcl : Int) (w : World) (h : BL w R (rr s i ln cl o fc fn fl fcl)) (hs : s.size ≤ 4000000) (hi : i < s.size) :
    Calls Tryz.prog 133 #[.pointer (some ⟨R, 0, none⟩)] w fun e w' => e = .returned (.tuple #[.string (textO (s.data.toList.drop (i + 1))).1, .int .i64 (textO (s.data.toList.drop (i + 1))).2]) ∧ Below w.heap.size w w' := by
  have HSZ : Hid (s.data.toList.length = s.size) := Lib.hid (by simp)
  obtain ⟨⟨a0, a1, -⟩, -, al⟩ := h.open9
  have HR := Lib.hid h
  clear h
  go_enter Tryz.func133, Tryz.ntmps133
  go_wp2_with fail
  clear a0 a1 al
  go_loopw [4, 5] (fun bv n x => ∃ (k : Nat) (b : Bs), i + 1 ≤ k ∧ k ≤ s.size ∧ n = .int .i64 k ∧ OwnB w.heap.size x bv b ∧ b.length ≤ k ∧ TextAt (s.data.toList.drop (i + 1)) b (s.data.toList.drop k) (k - (i + 1)) ∧ Below w.heap.size w x) (fun bv n x => s.size + 1 - (intOf n).toNat)
  case atStart => exact ⟨i + 1, [], Nat.le_refl _, by omega, by go_num, OwnB.nil _ _, by simp, by rw [Nat.sub_self]; exact TextAt.start _, Below.refl _ _⟩
  case round =>
    obtain ⟨k, b, hk0, hk, rfl, hO, hbl, hT, hB⟩ := hrel
    have HO := Lib.hid hO
    have HT := Lib.hid hT
    have HB := Lib.hid hB
    clear hO hT hB
    obtain ⟨bv, cap, rfl⟩ := HO.out.form
    obtain ⟨⟨c0, c1, -⟩, -, hl⟩ := (HR.out.below HB.out).open9
    have hsz := HB.out.size
    by_cases hlt : k < s.size
    · have hlt' : (k : Int) < s.size := by omega
      have HDR := Lib.hid (drop_cons s k hlt)
      have hw : IntKind.i64.wrap ((k : Int) + 1) = (k : Int) + 1 := IntWalk.i64_in _ (by omega)
      have HW := Lib.hid hw
      clear hw
      by_cases hq : quotB s[k] = true
      · have hq' := hq
        simp only [quotB, Bool.and_eq_true, decide_eq_true_eq] at hq'
        have h32 : (32 : Int) ≤ s[k].toNat := by omega
        have h126 : (s[k].toNat : Int) ≤ 126 := by omega
        have h39 : (s[k] == 39) = false := by simpa using hq'.2
        have h39' := not39 h39
        have HT2 := HT.out
        rw [HDR.out] at HT2
        have HT3 := Lib.hid (HT2.go hq)
        clear hq hq' h39 HT2
        go_wp2_with (first
          | (at_builtin; refine wpList_append_byte rfl (.tmp 64) (.tmp 66) rfl w.heap.size _ b rfl (HO.out.below (new1 _ _)) wr.heap.size s[k] rfl (new1_cell _ _ _) (by omega) (by simp; omega) ?_))
        intro v1 w1 ho1 hg1
        have HO1 := Lib.hid ho1
        have HB1 := Lib.hid (below_own (HB.out.trans ((new1 _ _).mono hsz)) hg1 HO.out.lt)
        clear ho1 hg1
        go_wp2_with fail
        go_roundw
        case rel => exact ⟨k + 1, b ++ [s[k]], by omega, by omega, by go_num, HO1.out, by simp; omega, by rw [show k + 1 - (i + 1) = k - (i + 1) + 1 by omega]; exact HT3.out, HB1.out⟩
        case measure => simp [intOf]; omega
      · have hq' : quotB s[k] = false := by simpa using hq
        by_cases h39 : s[k] = 39
        · have h39' := is39 (c := s[k]) (by simpa using h39)
          have H39 := Lib.hid h39
          have h32 : (32 : Int) ≤ s[k].toNat := by rw [h39]; decide
          have h126 : (s[k].toNat : Int) ≤ 126 := by rw [h39]; decide
          clear hq hq' h39
          by_cases hk1 : k + 1 < s.size
          · have hk1' : (k : Int) + 1 < s.size := by omega
            have hk1n : decide ((k : Int) + 1 = s.size) = false := by simp; omega
            have HW2 : Hid (IntKind.i64.wrap ((k : Int) + 1 - i) = (k : Int) + 1 - i) := Lib.hid (IntWalk.i64_in _ (by omega))
            have ht : ((k : Int) + 1).toNat = k + 1 := by omega
            have h0 : (0 : Int) ≤ (k : Int) + 1 := by omega
            have HDR2 := Lib.hid (drop_cons s (k + 1) hk1)
            have HT2 := HT.out
            rw [HDR.out, H39.out, HDR2.out] at HT2
            by_cases g39 : s[k + 1] = 39
            · have g39' := is39 (c := s[k + 1]) (by simpa using g39)
              have g39n : ((s[k + 1].toNat : Int) != 39) = false := by rw [bne, g39']; rfl
              have HE2 : s[k + 1] = 39 := g39
              rw [HE2] at HT2
              have HT3 := Lib.hid HT2.two
              have HK9 : Hid (s[k] = 39) := H39
              clear HT2 HE2 g39
              go_wp2_with (first
                | (at_builtin; refine wpList_append_byte rfl (.tmp 64) (.tmp 66) rfl w.heap.size _ b rfl (HO.out.below (new1 _ _)) wr.heap.size s[k] rfl (new1_cell _ _ _) (by omega) (by simp; omega) ?_))
              intro v1 w1 ho1 hg1
              rw [HK9.out] at ho1
              have HO1 := Lib.hid ho1
              have HB1 := Lib.hid (below_own (HB.out.trans ((new1 _ _).mono hsz)) hg1 HO.out.lt)
              clear ho1 hg1
              go_wp2_with fail
              go_roundw
              case rel => exact ⟨k + 2, b ++ [39], by omega, by omega, by go_num, HO1.out, by simp; omega, by rw [show k + 2 - (i + 1) = k - (i + 1) + 2 by omega]; exact HT3.out, HB1.out⟩
              case measure => simp [intOf]; omega
            · have g39' := not39 (c := s[k + 1]) (by simpa using g39)
              have g39n : ((s[k + 1].toNat : Int) != 39) = true := by rw [bne, g39']; rfl
              have HE := Lib.hid (textO_some (HT2.stop (by simpa using g39)))
              clear HT2 g39
              have hrun : ∀ nq, (convert 84 9 (.slice bv b.length cap)).run Tryz.prog (wr.drewN nq) = .ok (.string (baOf b)) (wr.drewN nq) := fun nq => run_string_own (HO.out.below (Below.drewN _ _))
              go_wp2_with fail
              have hw1 := HW.out
              have hw3 := HW2.out
              go_quiet (fail)
              clear hw3 hw1
              go_wp2
              go_ret2
              refine ⟨?_, HB.out.trans ((Below.drewN _ _).mono hsz)⟩
              rw [HE.out]
              have e : ((k - (i + 1) + 1 + 1 : Nat) : Int) = (k : Int) + 1 - i := by omega
              rw [e]
              rfl
          · have hk1' : (k : Int) + 1 = s.size := by omega
            have HT2 := HT.out
            rw [HDR.out, H39.out] at HT2
            have HE := Lib.hid (textO_some (HT2.stop (by rw [List.drop_of_length_le (by have := HSZ.out; omega)]; simp)))
            clear HT2
            have hrun : ∀ nq, (convert 84 9 (.slice bv b.length cap)).run Tryz.prog (wr.drewN nq) = .ok (.string (baOf b)) (wr.drewN nq) := fun nq => run_string_own (HO.out.below (Below.drewN _ _))
            go_wp2_with fail
            have hw1 := HW.out
            have hw3 : IntKind.i64.wrap ((k : Int) + 1 - i) = (k : Int) + 1 - i := IntWalk.i64_in _ (by omega)
            go_quiet (fail)
            have HK := Lib.hid hk1'
            clear hk1' hw3 hw1
            go_wp2
            go_ret2
            refine ⟨?_, HB.out.trans ((Below.drewN _ _).mono hsz)⟩
            rw [HE.out]
            have e : ((k - (i + 1) + 1 + 1 : Nat) : Int) = (s.size : Int) - i := by have := HK.out; omega
            rw [e]
            rfl
        · have h39' := not39 (c := s[k]) (by simpa using h39)
          have HT2 := HT.out
          rw [HDR.out] at HT2
          have HE := Lib.hid (textO_none (HT2.bad hq' h39))
          simp only [quotB, Bool.and_eq_false_iff, decide_eq_false_iff_not] at hq'
          by_cases h32 : (s[k].toNat : Int) < 32
          · clear hq hq' h39 HT2
            go_wp2_with fail
            go_ret2
            exact ⟨by rw [HE.out]; rfl, HB.out⟩
          · have h126 : (126 : Int) < s[k].toNat := by
              rcases hq' with (q | q) | q
              · omega
              · omega
              · simp at q; exact absurd q h39
            clear hq hq' h39 HT2
            go_wp2_with fail
            go_ret2
            exact ⟨by rw [HE.out]; rfl, HB.out⟩
    · obtain rfl : k = s.size := by omega
      have hge : decide ((s.size : Int) < s.size) = false := by simp
      have HT2 := HT.out
      rw [show s.data.toList.drop s.size = [] from List.drop_of_length_le (by rw [HSZ.out]; exact Nat.le_refl _)] at HT2
      have HE := Lib.hid (textO_none HT2.none)
      clear HT2
      go_wp2_with fail
      go_ret2
      exact ⟨by rw [HE.out]; rfl, HB.out⟩
end Go.Proofs.YtpmppndhfljcpaaGreatDoor
