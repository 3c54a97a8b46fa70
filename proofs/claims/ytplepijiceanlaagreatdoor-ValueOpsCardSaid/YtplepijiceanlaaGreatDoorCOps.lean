/-
  The law of operations holds for every input: Unary and Binary return what the reference returns, or the error, for any operation and values. No condition of ours.
-/
import Derived.Test.YtplepijiceanlaaGreatDoorWV
import Derived.Test.YtplepijiceanlaaGreatDoorOB
namespace Go.Proofs.YtplepijiceanlaaGreatDoor
open Go.ChangeShapes Go.WideShapes Go.ChangeAt Go.RowKit
open Go.ChangeMaps (open_string shut_string)

set_option maxRecDepth 100000 in
theorem valueOps_runs : LawRuns 4 Tryz.f4 := by
  intro H enc W base args ds ps hval hA hwt hg
  rw [Tryz.params4] at hA hval
  obtain ⟨v0, v1, v2, d0, d1, d2, p0, p1, p2, rfl, rfl, rfl, h0, h1, h2⟩ := trodAll_three hA
  obtain ⟨op, rfl, rfl, rfl, _⟩ := open_string Tryz.underlying9 (hval 0 9 v0 rfl rfl) h0
  obtain ⟨a, rfl, ha⟩ := open_val (hval 1 27 v1 rfl rfl) h1
  obtain ⟨b, rfl, hb⟩ := open_val (hval 2 27 v2 rfl rfl) h2
  exact valueOps_ awk op a b ha hb W hg

set_option maxRecDepth 100000 in
theorem valueOps_holds : Rows.ValueOpsSaid :=
  OpenClaim.holds_of_wide 4 Tryz.f4 rfl rfl rfl rfl rfl rfl rfl ⟨rfl, rfl, rfl, rfl, rfl⟩ rfl rfl rfl rfl rfl (by kernel_rfl) Tryz.func4 (by kernel_rfl)
    (of_decide_eq_true (by kernel_rfl)) (by unfold Func.isWrapper; first | (rw [if_pos (by decide +kernel)]; kernel_rfl) | (rw [if_neg (by decide +kernel)]; exact ⟨rfl, rfl⟩))
    (fun os started H enc _ => law_lifted (s := Rows.valueOpsSpec) (laid := Rows.valueOpsRow.laid) valueOps_runs (by kernel_rfl) Tryz.func4 (by kernel_rfl) rfl rfl
      (fun H ds h => by match ds, h with | [_, _, _], _ => rfl) os started H enc
      (ChangeSpec.witness_shaped (enc := enc) (C := Tryz.checked) (os := os) (X := fun w _ => laidMetH Tryz.prog Rows.valueOpsRow.laid w) false (World.laidAll Tryz.prog os Rows.valueOpsRow.laid) #[.string ⟨#[]⟩, .agg #[.int .i64 0, .int .i64 0, .string ⟨#[]⟩], .agg #[.int .i64 0, .int .i64 0, .string ⟨#[]⟩]] 8 (World.laidAll_os _ _ _)
        (World.shaped_of_ZipB (by kernel_rfl) (by kernel_rfl)) (by kernel_rfl) (by kernel_rfl) (by kernel_rfl)
        (by rw [MakeChecks.laidMetH_plain _ _ _ (by kernel_rfl)]; exact laidMet_laidAll _ (by kernel_rfl) (by kernel_rfl))))
theorem valueOps_card_holds : Rows.ValueOpsCardSaid :=
  Claim7.holds_tied_plain_at .later [] [.data, .data, .data, .data, .sentinel, .sentinel, .pinned] true (true, "2df1776b52db89be618cb2cc9767f232203ddef2cbc80537f057adf05aab1a8a") true valueOps_holds (fun _ h => by cases h) (by kernel_rfl) (fun _ h => by cases h) valueOps_row_tie rfl ⟨rfl, rfl⟩ (by kernel_rfl) rfl
    (fun f fn hf hfn => by
      obtain rfl : f = 4 := Option.some.inj ((show Tryz.prog.funcNamed "justiciar/justiciarlaw01.ValueOps" = some 4 by kernel_rfl).symm.trans hf) |>.symm
      obtain rfl : fn = Tryz.f4 := (Option.some.inj (Tryz.func4.symm.trans hfn)).symm
      exact ⟨by kernel_rfl, fun j t ht => by
        rw [Tryz.params4] at ht
        have hm : t ∈ [9, 27, 27] := by simpa using Array.mem_of_getElem? ht
        have hall : ([9, 27, 27].all fun u => !Tryz.prog.wantsStandIn u) = true := by kernel_rfl
        exact (show Tryz.prog.wantsStandIn t = false by simpa using List.all_eq_true.1 hall t hm)⟩)
    (by kernel_rfl)
#print axioms valueOps_card_holds
end Go.Proofs.YtplepijiceanlaaGreatDoor
