/-
  The law of numbers holds for every input: a / b times b and a mod b together are a, a - b is a + (-b), and Order is a total order on values of one kind and null. No condition of ours.
-/
import Derived.Test.YtplepijiceanlaaGreatDoorWV
import Derived.Test.YtplepijiceanlaaGreatDoorNBc
namespace Go.Proofs.YtplepijiceanlaaGreatDoor
open Go.ChangeShapes Go.WideShapes Go.ChangeAt Go.RowKit
open Go.ChangeMaps (open_string shut_string)

set_option maxRecDepth 100000 in
theorem valueNumbers_runs : LawRuns 10 Tryz.f10 := by
  intro H enc W base args ds ps hval hA hwt hg
  rw [Tryz.params10] at hA hval
  obtain ⟨v0, v1, v2, d0, d1, d2, p0, p1, p2, rfl, rfl, rfl, h0, h1, h2⟩ := trodAll_three hA
  obtain ⟨a, rfl, ha⟩ := open_val (hval 0 27 v0 rfl rfl) h0
  obtain ⟨b, rfl, hb⟩ := open_val (hval 1 27 v1 rfl rfl) h1
  obtain ⟨c, rfl, hc⟩ := open_val (hval 2 27 v2 rfl rfl) h2
  exact valueNumbers_ awk a b c ha hb hc W hg

set_option maxRecDepth 100000 in
theorem valueNumbers_holds : Rows.ValueNumbersSaid :=
  OpenClaim.holds_of_wide 10 Tryz.f10 rfl rfl rfl rfl rfl rfl rfl ⟨rfl, rfl, rfl, rfl, rfl⟩ rfl rfl rfl rfl rfl (by kernel_rfl) Tryz.func10 (by kernel_rfl)
    (of_decide_eq_true (by kernel_rfl)) (by unfold Func.isWrapper; first | (rw [if_pos (by decide +kernel)]; kernel_rfl) | (rw [if_neg (by decide +kernel)]; exact ⟨rfl, rfl⟩))
    (fun os started H enc _ => law_lifted (s := Rows.valueNumbersSpec) (laid := Rows.valueNumbersRow.laid) valueNumbers_runs (by kernel_rfl) Tryz.func10 (by kernel_rfl) rfl rfl
      (fun H ds h => by match ds, h with | [_, _, _], _ => rfl) os started H enc
      (ChangeSpec.witness_shaped (enc := enc) (C := Tryz.checked) (os := os) (X := fun w _ => laidMetH Tryz.prog Rows.valueNumbersRow.laid w) false (World.laidAll Tryz.prog os Rows.valueNumbersRow.laid) #[.agg #[.int .i64 0, .int .i64 0, .string ⟨#[]⟩], .agg #[.int .i64 0, .int .i64 0, .string ⟨#[]⟩], .agg #[.int .i64 0, .int .i64 0, .string ⟨#[]⟩]] 8 (World.laidAll_os _ _ _)
        (World.shaped_of_ZipB (by kernel_rfl) (by kernel_rfl)) (by kernel_rfl) (by kernel_rfl) (by kernel_rfl)
        (by rw [MakeChecks.laidMetH_plain _ _ _ (by kernel_rfl)]; exact laidMet_laidAll _ (by kernel_rfl) (by kernel_rfl))))
theorem valueNumbers_card_holds : Rows.ValueNumbersCardSaid :=
  Claim7.holds_tied_plain_at .later [] [.data, .data, .data, .data, .sentinel, .sentinel, .pinned] true (true, "2df1776b52db89be618cb2cc9767f232203ddef2cbc80537f057adf05aab1a8a") true valueNumbers_holds (fun _ h => by cases h) (by kernel_rfl) (fun _ h => by cases h) valueNumbers_row_tie rfl ⟨rfl, rfl⟩ (by kernel_rfl) rfl
    (fun f fn hf hfn => by
      obtain rfl : f = 10 := Option.some.inj ((show Tryz.prog.funcNamed "justiciar/justiciarlaw01.ValueNumbers" = some 10 by kernel_rfl).symm.trans hf) |>.symm
      obtain rfl : fn = Tryz.f10 := (Option.some.inj (Tryz.func10.symm.trans hfn)).symm
      exact ⟨by kernel_rfl, fun j t ht => by
        rw [Tryz.params10] at ht
        have hm : t ∈ [27, 27, 27] := by simpa using Array.mem_of_getElem? ht
        have hall : ([27, 27, 27].all fun u => !Tryz.prog.wantsStandIn u) = true := by kernel_rfl
        exact (show Tryz.prog.wantsStandIn t = false by simpa using List.all_eq_true.1 hall t hm)⟩)
    (by kernel_rfl)
#print axioms valueNumbers_card_holds
end Go.Proofs.YtplepijiceanlaaGreatDoor
