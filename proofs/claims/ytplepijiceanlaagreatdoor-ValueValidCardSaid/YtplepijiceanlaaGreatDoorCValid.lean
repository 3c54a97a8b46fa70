/-
  The law of valid values holds for every input: Valid, IsRow, Same, SameRow and True return what the reference returns, of any values. No condition of ours.
-/
import Derived.Test.YtplepijiceanlaaGreatDoorWV
import Derived.Test.YtplepijiceanlaaGreatDoorVBd
namespace Go.Proofs.YtplepijiceanlaaGreatDoor
open Go.ChangeShapes Go.WideShapes Go.ChangeAt Go.RowKit
open Go.ChangeMaps (open_string shut_string)

set_option maxRecDepth 100000 in
theorem valueValid_runs : LawRuns 3 Tryz.f3 := by
  intro H enc W base args ds ps hval hA hwt hg
  rw [Tryz.params3] at hA hval
  obtain ⟨v0, v1, d0, d1, p0, p1, rfl, rfl, rfl, h0, h1⟩ := trodAll_two hA
  obtain ⟨A, ca, la, rfl, la1, sa, za⟩ := open_vals Tryz.underlying22 (hval 0 22 v0 rfl rfl) h0
  obtain ⟨B, cb, lb, rfl, lb1, sb, _⟩ := open_vals Tryz.underlying22 (hval 1 22 v1 rfl rfl) h1
  exact valueValid_ awk A B ca cb la lb W hg la1 lb1 sa sb za

set_option maxRecDepth 100000 in
theorem valueValid_holds : Rows.ValueValidSaid :=
  OpenClaim.holds_of_wide 3 Tryz.f3 rfl rfl rfl rfl rfl rfl rfl ⟨rfl, rfl, rfl, rfl, rfl⟩ rfl rfl rfl rfl rfl (by kernel_rfl) Tryz.func3 (by kernel_rfl)
    (of_decide_eq_true (by kernel_rfl)) (by unfold Func.isWrapper; first | (rw [if_pos (by decide +kernel)]; kernel_rfl) | (rw [if_neg (by decide +kernel)]; exact ⟨rfl, rfl⟩))
    (fun os started H enc _ => law_lifted (s := Rows.valueValidSpec) (laid := Rows.valueValidRow.laid) valueValid_runs (by kernel_rfl) Tryz.func3 (by kernel_rfl) rfl rfl
      (fun H ds h => by match ds, h with | [_, _], _ => rfl) os started H enc
      (ChangeSpec.witness_shaped (enc := enc) (C := Tryz.checked) (os := os) (X := fun w _ => laidMetH Tryz.prog Rows.valueValidRow.laid w) false (World.laidAll Tryz.prog os Rows.valueValidRow.laid) #[.slice none 0 0, .slice none 0 0] 8 (World.laidAll_os _ _ _)
        (World.shaped_of_ZipB (by kernel_rfl) (by kernel_rfl)) (by kernel_rfl) (by kernel_rfl) (by kernel_rfl)
        (by rw [MakeChecks.laidMetH_plain _ _ _ (by kernel_rfl)]; exact laidMet_laidAll _ (by kernel_rfl) (by kernel_rfl))))
theorem valueValid_card_holds : Rows.ValueValidCardSaid :=
  Claim7.holds_tied_plain_at .later [] [.data, .data, .data, .data, .sentinel, .sentinel, .pinned] true (true, "2df1776b52db89be618cb2cc9767f232203ddef2cbc80537f057adf05aab1a8a") true valueValid_holds (fun _ h => by cases h) (by kernel_rfl) (fun _ h => by cases h) valueValid_row_tie rfl ⟨rfl, rfl⟩ (by kernel_rfl) rfl
    (fun f fn hf hfn => by
      obtain rfl : f = 3 := Option.some.inj ((show Tryz.prog.funcNamed "justiciar/justiciarlaw01.ValueValid" = some 3 by kernel_rfl).symm.trans hf) |>.symm
      obtain rfl : fn = Tryz.f3 := (Option.some.inj (Tryz.func3.symm.trans hfn)).symm
      exact ⟨by kernel_rfl, fun j t ht => by
        rw [Tryz.params3] at ht
        have hm : t ∈ [22, 22] := by simpa using Array.mem_of_getElem? ht
        have hall : ([22, 22].all fun u => !Tryz.prog.wantsStandIn u) = true := by kernel_rfl
        exact (show Tryz.prog.wantsStandIn t = false by simpa using List.all_eq_true.1 hall t hm)⟩)
    (by kernel_rfl)
#print axioms valueValid_card_holds
end Go.Proofs.YtplepijiceanlaaGreatDoor
