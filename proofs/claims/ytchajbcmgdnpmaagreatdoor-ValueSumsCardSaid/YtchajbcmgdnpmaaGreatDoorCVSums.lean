/-
  The law of sums holds for every input: an aggregate does not depend on the order of values, and those of two lists put together give that of both. No condition of ours.
-/
import Derived.Test.YtchajbcmgdnpmaaGreatDoorGw
import Derived.Test.YtchajbcmgdnpmaaGreatDoorSV
namespace Go.Proofs.YtchajbcmgdnpmaaGreatDoor
open Go.ChangeShapes Go.WideShapes Go.ChangeAt Go.RowKit
open Go.ChangeMaps (open_string shut_string)

set_option maxRecDepth 100000 in
theorem valueSums_runs : LawRuns 5 Tryz.f5 := by
  intro H enc W base args ds ps hval hA hwt hg
  rw [Tryz.params5] at hA hval
  obtain ⟨v0, v1, d0, d1, p0, p1, rfl, rfl, rfl, h0, h1⟩ := trodAll_two hA
  obtain ⟨A, c, l, rfl, _, hS, hz⟩ := open_vals Tryz.underlying22 (hval 0 22 v0 rfl rfl) h0
  obtain ⟨n, rfl, rfl, rfl, hw⟩ := open_int Tryz.underlying37 (hval 1 37 v1 rfl rfl) h1
  obtain ⟨w0, w1⟩ := int_wf hw
  have e0 : IntKind.min .u16 = 0 := rfl
  have e1 : IntKind.max .u16 = 65535 := rfl
  rw [e0] at w0
  rw [e1] at w1
  exact valueSums_ A c l n W hg w0 (by omega) (vals_bound (j := 0) hwt rfl rfl h0) (vals_cap h0) hS hz

set_option maxRecDepth 100000 in
theorem valueSums_holds : Rows.ValueSumsSaid :=
  OpenClaim.holds_of_wide 5 Tryz.f5 rfl rfl rfl rfl rfl rfl rfl ⟨rfl, rfl, rfl, rfl, rfl⟩ rfl rfl rfl rfl rfl (by kernel_rfl) Tryz.func5 (by kernel_rfl)
    (of_decide_eq_true (by kernel_rfl)) (by unfold Func.isWrapper; first | (rw [if_pos (by decide +kernel)]; kernel_rfl) | (rw [if_neg (by decide +kernel)]; exact ⟨rfl, rfl⟩))
    (fun os started H enc _ => law_lifted (s := Rows.valueSumsSpec) (laid := Rows.valueSumsRow.laid) valueSums_runs (by kernel_rfl) Tryz.func5 (by kernel_rfl) rfl rfl rfl
      (fun H ds h => by match ds, h with | [_, _], _ => rfl) os started H enc
      (ChangeSpec.witness_shaped (enc := enc) (C := Tryz.checked) (os := os) (X := fun w _ => laidMetH Tryz.prog Rows.valueSumsRow.laid w) false (World.laidAll Tryz.prog os Rows.valueSumsRow.laid) #[.slice none 0 0, .int .u16 0] 8 (World.laidAll_os _ _ _)
        (World.shaped_of_ZipB (by kernel_rfl) (by kernel_rfl)) (by kernel_rfl) (by kernel_rfl) (by kernel_rfl)
        (by rw [MakeChecks.laidMetH_plain _ _ _ (by kernel_rfl)]; exact laidMet_laidAll _ (by kernel_rfl) (by kernel_rfl))))
theorem valueSums_card_holds : Rows.ValueSumsCardSaid :=
  Claim7.holds_tied_plain_at .later [] [.data, .data, .data, .data, .sentinel, .sentinel, .pinned] true (true, "87ef4b0d36f0652d10ec4de8ee2c6e54823edee1d00af8de75bf57d1c2e996c9") true valueSums_holds (fun _ h => by cases h) (by kernel_rfl) (fun _ h => by cases h) valueSums_row_tie rfl ⟨rfl, rfl⟩ (by kernel_rfl) rfl
    (fun f fn hf hfn => by
      obtain rfl : f = 5 := Option.some.inj ((show Tryz.prog.funcNamed "justiciar/justiciarlaw01.ValueSums" = some 5 by kernel_rfl).symm.trans hf) |>.symm
      obtain rfl : fn = Tryz.f5 := (Option.some.inj (Tryz.func5.symm.trans hfn)).symm
      exact ⟨by kernel_rfl, fun j t ht => by
        rw [Tryz.params5] at ht
        have hm : t ∈ ([22, 37] : List TypeId) := by simpa using Array.mem_of_getElem? ht
        have hall : (([22, 37] : List TypeId).all fun u => !Tryz.prog.wantsStandIn u) = true := by kernel_rfl
        exact (show Tryz.prog.wantsStandIn t = false by simpa using List.all_eq_true.1 hall t hm)⟩)
    (by kernel_rfl)
#print axioms valueSums_card_holds
end Go.Proofs.YtchajbcmgdnpmaaGreatDoor
