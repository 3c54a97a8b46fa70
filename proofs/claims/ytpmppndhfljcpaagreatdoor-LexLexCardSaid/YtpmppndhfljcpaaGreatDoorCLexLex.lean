/-
  The law of reading holds for every input: Lex returns the tokens of any string, or its first fault, as the reference does; what they are written as has the same tokens. No condition of ours.
-/
import Derived.Test.YtpmppndhfljcpaaGreatDoorWR
import Derived.Test.YtpmppndhfljcpaaGreatDoorQU
namespace Go.Proofs.YtpmppndhfljcpaaGreatDoor
open Go.ChangeShapes Go.WideShapes Go.ChangeAt Go.RowKit
open Go.ChangeMaps (open_string shut_string)

set_option maxRecDepth 100000 in
theorem lexLex_runs : LawRuns 6 Tryz.f6 := by
  intro H enc W base args ds ps hval hA hwt hg
  rw [Tryz.params6] at hA hval
  obtain ⟨v0, d0, rfl, rfl, h0⟩ := trodAll_one hA
  obtain ⟨s, rfl, rfl, rfl, hs⟩ := open_string Tryz.underlying9 (hval 0 9 v0 rfl rfl) h0
  exact lexLex_ s W hg

set_option maxRecDepth 100000 in
theorem lexLex_holds : Rows.LexLexSaid :=
  OpenClaim.holds_of_wide 6 Tryz.f6 rfl rfl rfl rfl rfl rfl rfl ⟨rfl, rfl, rfl, rfl, rfl⟩ rfl rfl rfl rfl rfl (by kernel_rfl) Tryz.func6 (by kernel_rfl)
    (of_decide_eq_true (by kernel_rfl)) (by unfold Func.isWrapper; first | (rw [if_pos (by decide +kernel)]; kernel_rfl) | (rw [if_neg (by decide +kernel)]; exact ⟨rfl, rfl⟩))
    (fun os started H enc _ => law_lifted (s := Rows.lexLexSpec) (laid := Rows.lexLexRow.laid) lexLex_runs (by kernel_rfl) Tryz.func6 (by kernel_rfl) rfl rfl rfl
      (fun H ds h => by match ds, h with | [_], _ => rfl) os started H enc
      (ChangeSpec.witness_shaped (enc := enc) (C := Tryz.checked) (os := os) (X := fun w _ => laidMetH Tryz.prog Rows.lexLexRow.laid w) false (World.laidAll Tryz.prog os Rows.lexLexRow.laid) #[.string ⟨#[]⟩] 8 (World.laidAll_os _ _ _)
        (World.shaped_of_ZipB (by kernel_rfl) (by kernel_rfl)) (by kernel_rfl) (by kernel_rfl) (by kernel_rfl)
        (by rw [MakeChecks.laidMetH_plain _ _ _ (by kernel_rfl)]; exact laidMet_laidAll _ (by kernel_rfl) (by kernel_rfl))))
theorem lexLex_card_holds : Rows.LexLexCardSaid :=
  Claim7.holds_tied_plain_at .later [] [.data, .data, .data, .data, .sentinel, .sentinel, .pinned] true (true, "852bfabf5beee16ce778a17195fea0642839aad7caa435aba479ad58a266b7eb") true lexLex_holds (fun _ h => by cases h) (by kernel_rfl) (fun _ h => by cases h) lexLex_row_tie rfl ⟨rfl, rfl⟩ (by kernel_rfl) rfl
    (fun f fn hf hfn => by
      obtain rfl : f = 6 := Option.some.inj ((show Tryz.prog.funcNamed "justiciar/justiciarlaw02.LexLex" = some 6 by kernel_rfl).symm.trans hf) |>.symm
      obtain rfl : fn = Tryz.f6 := (Option.some.inj (Tryz.func6.symm.trans hfn)).symm
      exact ⟨by kernel_rfl, fun j t ht => by
        rw [Tryz.params6] at ht
        have hm : t ∈ ([9] : List TypeId) := by simpa using Array.mem_of_getElem? ht
        have hall : (([9] : List TypeId).all fun u => !Tryz.prog.wantsStandIn u) = true := by kernel_rfl
        exact (show Tryz.prog.wantsStandIn t = false by simpa using List.all_eq_true.1 hall t hm)⟩)
    (by kernel_rfl)
#print axioms lexLex_card_holds
end Go.Proofs.YtpmppndhfljcpaaGreatDoor
