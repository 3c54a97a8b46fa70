/-
  The law of likeness holds for every input: a string without the two signs is like itself, every string is like the sign for any string, and a string is like its beginning with that sign behind. No condition of ours.
-/
import Derived.Test.YtplepijiceanlaaGreatDoorWV
import Derived.Test.YtplepijiceanlaaGreatDoorLBe
namespace Go.Proofs.YtplepijiceanlaaGreatDoor
open Go.ChangeShapes Go.WideShapes Go.ChangeAt Go.RowKit
open Go.ChangeMaps (open_string shut_string)

set_option maxRecDepth 100000 in
theorem valueLike_runs : LawRuns 12 Tryz.f12 := by
  intro H enc W base args ds ps hval hA hwt hg
  rw [Tryz.params12] at hA hval
  obtain ⟨v0, v1, d0, d1, p0, p1, rfl, rfl, rfl, h0, h1⟩ := trodAll_two hA
  obtain ⟨s, rfl, rfl, rfl, hs⟩ := open_string Tryz.underlying9 (hval 0 9 v0 rfl rfl) h0
  obtain ⟨t, rfl, rfl, rfl, ht⟩ := open_string Tryz.underlying9 (hval 1 9 v1 rfl rfl) h1
  have hws := List.all_eq_true.1 hwt
  rw [Tryz.params12] at hws
  have w0 : s.size ≤ 140737488351232 := by
    have h := of_decide_eq_true (hws s.data.toList.length (by simp [DataW.weightsEach, DataW.weights]))
    have e : s.data.toList.length = s.size := by simp
    rw [e] at h
    unfold reachBytes at h
    omega
  have w1 : t.size ≤ 140737488351232 := by
    have h := of_decide_eq_true (hws t.data.toList.length (by simp [DataW.weightsEach, DataW.weights]))
    have e : t.data.toList.length = t.size := by simp
    rw [e] at h
    unfold reachBytes at h
    omega
  exact valueLike_ awk s t w0 w1 W hg

set_option maxRecDepth 100000 in
theorem valueLike_holds : Rows.ValueLikeSaid :=
  OpenClaim.holds_of_wide 12 Tryz.f12 rfl rfl rfl rfl rfl rfl rfl ⟨rfl, rfl, rfl, rfl, rfl⟩ rfl rfl rfl rfl rfl (by kernel_rfl) Tryz.func12 (by kernel_rfl)
    (of_decide_eq_true (by kernel_rfl)) (by unfold Func.isWrapper; first | (rw [if_pos (by decide +kernel)]; kernel_rfl) | (rw [if_neg (by decide +kernel)]; exact ⟨rfl, rfl⟩))
    (fun os started H enc _ => law_lifted (s := Rows.valueLikeSpec) (laid := Rows.valueLikeRow.laid) valueLike_runs (by kernel_rfl) Tryz.func12 (by kernel_rfl) rfl rfl
      (fun H ds h => by match ds, h with | [_, _], _ => rfl) os started H enc
      (ChangeSpec.witness_shaped (enc := enc) (C := Tryz.checked) (os := os) (X := fun w _ => laidMetH Tryz.prog Rows.valueLikeRow.laid w) false (World.laidAll Tryz.prog os Rows.valueLikeRow.laid) #[.string ⟨#[]⟩, .string ⟨#[]⟩] 8 (World.laidAll_os _ _ _)
        (World.shaped_of_ZipB (by kernel_rfl) (by kernel_rfl)) (by kernel_rfl) (by kernel_rfl) (by kernel_rfl)
        (by rw [MakeChecks.laidMetH_plain _ _ _ (by kernel_rfl)]; exact laidMet_laidAll _ (by kernel_rfl) (by kernel_rfl))))
theorem valueLike_card_holds : Rows.ValueLikeCardSaid :=
  Claim7.holds_tied_plain_at .later [] [.data, .data, .data, .data, .sentinel, .sentinel, .pinned] true (true, "2df1776b52db89be618cb2cc9767f232203ddef2cbc80537f057adf05aab1a8a") true valueLike_holds (fun _ h => by cases h) (by kernel_rfl) (fun _ h => by cases h) valueLike_row_tie rfl ⟨rfl, rfl⟩ (by kernel_rfl) rfl
    (fun f fn hf hfn => by
      obtain rfl : f = 12 := Option.some.inj ((show Tryz.prog.funcNamed "justiciar/justiciarlaw01.ValueLike" = some 12 by kernel_rfl).symm.trans hf) |>.symm
      obtain rfl : fn = Tryz.f12 := (Option.some.inj (Tryz.func12.symm.trans hfn)).symm
      exact ⟨by kernel_rfl, fun j t ht => by
        rw [Tryz.params12] at ht
        have hm : t ∈ [9, 9] := by simpa using Array.mem_of_getElem? ht
        have hall : ([9, 9].all fun u => !Tryz.prog.wantsStandIn u) = true := by kernel_rfl
        exact (show Tryz.prog.wantsStandIn t = false by simpa using List.all_eq_true.1 hall t hm)⟩)
    (by kernel_rfl)
#print axioms valueLike_card_holds
end Go.Proofs.YtplepijiceanlaaGreatDoor
