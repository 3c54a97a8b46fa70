/-
  The law of writing: Text returns the string of tokens, or the error, and Same whether two rows are the same, as the reference does; the string has just these tokens. CONDITION: the arguments are together of bulk at most 1048576 (the statement's own).
-/
import Derived.Test.YtpmppndhfljcpaaGreatDoorWU
import Derived.Test.YtpmppndhfljcpaaGreatDoorQX
namespace Go.Proofs.YtpmppndhfljcpaaGreatDoor
open Go.ChangeShapes Go.WideShapes Go.ChangeAt Go.RowKit
open Go.ChangeMaps (open_string shut_string)

set_option maxRecDepth 100000 in
theorem lexText_runs : LawRunsUpto 7 Tryz.f7 := by
  intro H enc W base args ds ps hval hA hwt hg hbulk
  rw [Tryz.params7] at hA hval
  obtain ⟨v0, v1, d0, d1, p0, p1, rfl, rfl, rfl, h0, h1⟩ := trodAll_two hA
  obtain ⟨A, c, l, rfl, hSA, hcl, hzl⟩ := open_toks (hval 0 43 v0 rfl rfl) h0
  obtain ⟨B, d, m, rfl, hSB, hcm, hzm⟩ := open_toks (hval 1 43 v1 rfl rfl) h1
  have hb : Rows.uptoBulk d0 + Rows.uptoBulk d1 ≤ 1048576 := by simpa [Rows.uptoBulkAll] using hbulk
  exact lexTextLaw_ A B c d l m W hg (by omega) (by omega) (fun v hv => by have := hzl v hv; omega) hSA hSB

set_option maxRecDepth 100000 in
theorem lexText_holds : Rows.LexTextUptoSaid :=
  OpenClaim.holds_of_cond 7 Tryz.f7 rfl rfl rfl rfl rfl rfl rfl ⟨rfl, rfl, rfl, rfl, rfl⟩ rfl rfl rfl rfl rfl (by kernel_rfl) Tryz.func7 (by kernel_rfl)
    (of_decide_eq_true (by kernel_rfl)) (by unfold Func.isWrapper; first | (rw [if_pos (by decide +kernel)]; kernel_rfl) | (rw [if_neg (by decide +kernel)]; exact ⟨rfl, rfl⟩))
    (fun os started H enc _ _ => lawUpto_lifted (s := Rows.lexTextSpec) (laid := Rows.lexTextUptoRow.laid) lexText_runs (by kernel_rfl) Tryz.func7 (by kernel_rfl) rfl rfl rfl
      (fun H ds h => by match ds, h with | [_, _], _ => rfl) os started H enc
      (ChangeSpec.witness_shaped (enc := enc) (C := Tryz.checked) (os := os) (X := fun w a => (Rows.OpenSpec.upto Rows.lexTextSpec).pre enc Tryz.checked.prog Tryz.f7 [] false w a ∧ laidMetH Tryz.prog Rows.lexTextUptoRow.laid w) false (World.laidAll Tryz.prog os Rows.lexTextUptoRow.laid) #[.slice none 0 0, .slice none 0 0] 8 (World.laidAll_os _ _ _)
        (World.shaped_of_ZipB (by kernel_rfl) (by kernel_rfl)) (by kernel_rfl) (by kernel_rfl) (by kernel_rfl)
        ⟨(OpenSpec.pre_some (k := Rows.uptoSmall) rfl _ _ _ _).2 ⟨[.nil, .nil], [], [], DataW.Whole_of_whole (x := ([.nil, .nil], [], [])) (fuel := 8) (by kernel_rfl), by kernel_rfl, by kernel_rfl⟩, by rw [MakeChecks.laidMetH_plain _ _ _ (by kernel_rfl)]; exact laidMet_laidAll _ (by kernel_rfl) (by kernel_rfl)⟩))
theorem lexText_card_holds : Rows.LexTextUptoCardSaid :=
  Claim7.holds_tied_plain_at .later [] [.data, .data, .data, .data, .sentinel, .sentinel, .pinned] true (true, "852bfabf5beee16ce778a17195fea0642839aad7caa435aba479ad58a266b7eb") true lexText_holds (fun _ h => by cases h) (by kernel_rfl) (fun _ h => by cases h) lexTextUpto_row_tie rfl ⟨rfl, rfl⟩ (by kernel_rfl) rfl
    (fun f fn hf hfn => by
      obtain rfl : f = 7 := Option.some.inj ((show Tryz.prog.funcNamed "justiciar/justiciarlaw02.LexText" = some 7 by kernel_rfl).symm.trans hf) |>.symm
      obtain rfl : fn = Tryz.f7 := (Option.some.inj (Tryz.func7.symm.trans hfn)).symm
      exact ⟨by kernel_rfl, fun j t ht => by
        rw [Tryz.params7] at ht
        have hm : t ∈ ([43, 43] : List TypeId) := by simpa using Array.mem_of_getElem? ht
        have hall : (([43, 43] : List TypeId).all fun u => !Tryz.prog.wantsStandIn u) = true := by kernel_rfl
        exact (show Tryz.prog.wantsStandIn t = false by simpa using List.all_eq_true.1 hall t hm)⟩)
    (by kernel_rfl)
#print axioms lexText_card_holds
end Go.Proofs.YtpmppndhfljcpaaGreatDoor
