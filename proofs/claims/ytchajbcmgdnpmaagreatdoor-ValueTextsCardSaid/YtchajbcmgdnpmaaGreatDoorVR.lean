/-
  The reference's Parse.
-/
import Derived.Test.YtchajbcmgdnpmaaGreatDoorVQ
namespace Go.Proofs.YtchajbcmgdnpmaaGreatDoor
open Go.RowKit

theorem B3.grown {x y : World} {b : Nat} {c0 c1 c2 : Value} {row : Option Nat} (h : B3 x b c0 c1 c2) (hg : x.grownBy y row) (hne : some b ≠ row) : B3 y b c0 c1 c2 := by
  have hb := hg.block b h.lt hne
  have hl : b < y.heap.size := by
    obtain ⟨o, ho⟩ : ∃ o, x.heap[b]? = some o := ⟨_, Array.getElem?_eq_getElem h.lt⟩
    rw [ho] at hb
    exact (Array.getElem?_eq_some_iff.1 hb).1
  exact ⟨(World.cell?_of_block (w := x) (a := ⟨b, 0, none⟩) hb).trans h.c0, (World.cell?_of_block (w := x) (a := ⟨b, 1, none⟩) hb).trans h.c1, (World.cell?_of_block (w := x) (a := ⟨b, 2, none⟩) hb).trans h.c2,
    (World.frozen?_of_block (w := x) (a := ⟨b, 0, none⟩) hb).trans h.f0, (World.frozen?_of_block (w := x) (a := ⟨b, 1, none⟩) hb).trans h.f1, (World.frozen?_of_block (w := x) (a := ⟨b, 2, none⟩) hb).trans h.f2, hl⟩
theorem KQ.grown {x y : World} {row : Option Nat} (hg : x.grownBy y row) : ∀ {l : List (Nat × Value × Value × Value)}, (∀ k, row = some k → ∀ q ∈ l, q.1 ≠ k) → KQ x l → KQ y l
  | [], _, _ => trivial
  | p :: l, hr, h => ⟨h.1.grown hg (fun e => hr p.1 e.symm p (by simp) rfl), KQ.grown hg (fun k hk q hq => hr k hk q (by simp [hq])) h.2⟩
theorem KL.grownOwn {w x y : World} {l : List (Nat × Value × Value × Value)} {row : Option Nat} (h : KL w x l) (hg : x.grownBy y row) (hw : ∀ k, row = some k → w.heap.size ≤ k) (hr : ∀ k, row = some k → ∀ q ∈ l, q.1 ≠ k) : KL w y l :=
  ⟨h.HB.grown hg h.HB.size hw, h.q.grown hg hr⟩
/-- The two blocks of Parse: its result and its value. -/
theorem two_new (w : World) : KL w ((w.alloc (.cells #[.int .i64 0, .int .i64 0, .string ⟨#[]⟩] 27)).alloc (.cells #[.int .i64 0, .int .i64 0, .string ⟨#[]⟩] 27)) [(w.heap.size + 1, .int .i64 0, .int .i64 0, .string ⟨#[]⟩), (w.heap.size, .int .i64 0, .int .i64 0, .string ⟨#[]⟩)] :=
  (((KL.refl w).push (.int .i64 0) (.int .i64 0) (.string ⟨#[]⟩) 27).push' (w.heap.size + 1) (by simp) (.int .i64 0) (.int .i64 0) (.string ⟨#[]⟩) 27)
theorem nul_ok : nulV.ok = true := by simp [Va.ok, nulV, vld, eqV]
theorem boo_ok (b : Bool) : (booV b).ok = true := by cases b <;> simp [Va.ok, booV, b2i, vld, eqV]
theorem intV_ok (n : Int) (h : inR n = true) : (intV n).ok = true := by
  have e : (⟨#[]⟩ : ByteArray).toList = [] := by rw [toList_dat]
  simp [Va.ok, intV, vld, eqV, h, e]
theorem txt_nul : txtS nulV = (nullB, 0) := by unfold txtS; rw [if_neg (by simp [nul_ok])]; rfl
theorem txt_boo (b : Bool) : txtS (booV b) = (if b = true then trueB else falseB, 0) := by
  unfold txtS
  rw [if_neg (by simp [boo_ok]), if_neg (by cases b <;> decide), if_neg (by cases b <;> decide), if_pos (show (booV b).k = 3 from rfl)]
  have e : tru (booV b) = b := by cases b <;> simp [tru, booV, eqV, b2i]
  rw [e]
theorem txt_int (n : Int) (h : inR n = true) : txtS (intV n) = (baOf (Lib.itoa n), 0) := by unfold txtS; rw [if_neg (by simp [intV_ok n h])]; rfl
set_option maxRecDepth 100000 in
set_option maxHeartbeats 2000000 in
theorem refParse_null (w : World) : Calls Tryz.prog 19 #[.string nullB] w fun e w' => e = .returned (two (nulV, 0)) ∧ Below w.heap.size w w' := by
  have HX := Lib.hid fun x => refTextV_ ⟨0, 0, ⟨#[]⟩⟩ x (by decide)
  rw [show txtS ⟨0, 0, ⟨#[]⟩⟩ = _ from txt_nul] at HX
  have n1 : (nullB.toList == [110, 117, 108, 108]) = true := by rw [toList_dat]; decide
  have n2 : (nullB.toList == [116, 114, 117, 101]) = false := by rw [toList_dat]; decide
  have n3 : (nullB.toList == [102, 97, 108, 115, 101]) = false := by rw [toList_dat]; decide
  go_enter Tryz.func19, Tryz.ntmps19
  go_wp2_with (first
    | (go_at_call 17; (with_reducible refine (HX.out _).mono ?_); rintro e y2 ⟨rfl, hb⟩; have K2 := Lib.hid (KL.below (two_new w) hb); clear hb; obtain ⟨HB, ⟨v0, v1, v2, f0, f1, f2, vl⟩, ⟨r0, r1, r2, g0, g1, g2, rl⟩, -⟩ := K2.out))
  (try simp only [Exit.inBlock, Exit.then])
  exact ret_two rfl rfl K2.out.q.2.1 rfl ⟨by rfl, set3 HB _ (Nat.le_refl _) _ _ _⟩
set_option maxRecDepth 100000 in
set_option maxHeartbeats 2000000 in
theorem refParse_true (w : World) : Calls Tryz.prog 19 #[.string trueB] w fun e w' => e = .returned (two (booV true, 0)) ∧ Below w.heap.size w w' := by
  have HX := Lib.hid fun x => refTextV_ ⟨3, 1, ⟨#[]⟩⟩ x (by decide)
  rw [show txtS ⟨3, 1, ⟨#[]⟩⟩ = _ from txt_boo true] at HX
  have HBo := Lib.hid fun x => ref_bool true x
  have n1 : (trueB.toList == [110, 117, 108, 108]) = false := by rw [toList_dat]; decide
  have n2 : (trueB.toList == [116, 114, 117, 101]) = true := by rw [toList_dat]; decide
  have n3 : (trueB.toList == [102, 97, 108, 115, 101]) = false := by rw [toList_dat]; decide
  go_enter Tryz.func19, Tryz.ntmps19
  go_wp2_with (first
    | (go_at_call 23; (with_reducible refine (HBo.out _).mono ?_); rintro e y ⟨rfl, hb⟩; have K := Lib.hid ((KL.below (two_new w) hb).set (by omega) (by simp) (.int .i64 3) (.int .i64 1) (.string ⟨#[]⟩)); have K0 := Lib.hid (KL.below (two_new w) hb); clear hb; obtain ⟨HB0, ⟨v0, v1, v2, f0, f1, f2, vl⟩, ⟨r0, r1, r2, g0, g1, g2, rl⟩, -⟩ := K0.out)
    | (go_at_call 17; (with_reducible refine (HX.out _).mono ?_); rintro e y2 ⟨rfl, hb⟩; have K2 := Lib.hid (KL.below K.out hb); clear hb; obtain ⟨HB, ⟨v0, v1, v2, f0, f1, f2, vl⟩, ⟨r0, r1, r2, g0, g1, g2, rl⟩, -⟩ := K2.out))
  (try simp only [Exit.inBlock, Exit.then])
  exact ret_two rfl rfl K2.out.q.2.1 rfl ⟨by rfl, set3 HB _ (Nat.le_refl _) _ _ _⟩
set_option maxRecDepth 100000 in
set_option maxHeartbeats 2000000 in
theorem refParse_false (w : World) : Calls Tryz.prog 19 #[.string falseB] w fun e w' => e = .returned (two (booV false, 0)) ∧ Below w.heap.size w w' := by
  have HX := Lib.hid fun x => refTextV_ ⟨3, 0, ⟨#[]⟩⟩ x (by decide)
  rw [show txtS ⟨3, 0, ⟨#[]⟩⟩ = _ from txt_boo false] at HX
  have HBo := Lib.hid fun x => ref_bool false x
  have n1 : (falseB.toList == [110, 117, 108, 108]) = false := by rw [toList_dat]; decide
  have n2 : (falseB.toList == [116, 114, 117, 101]) = false := by rw [toList_dat]; decide
  have n3 : (falseB.toList == [102, 97, 108, 115, 101]) = true := by rw [toList_dat]; decide
  go_enter Tryz.func19, Tryz.ntmps19
  go_wp2_with (first
    | (go_at_call 23; (with_reducible refine (HBo.out _).mono ?_); rintro e y ⟨rfl, hb⟩; have K := Lib.hid ((KL.below (two_new w) hb).set (by omega) (by simp) (.int .i64 3) (.int .i64 0) (.string ⟨#[]⟩)); have K0 := Lib.hid (KL.below (two_new w) hb); clear hb; obtain ⟨HB0, ⟨v0, v1, v2, f0, f1, f2, vl⟩, ⟨r0, r1, r2, g0, g1, g2, rl⟩, -⟩ := K0.out)
    | (go_at_call 17; (with_reducible refine (HX.out _).mono ?_); rintro e y2 ⟨rfl, hb⟩; have K2 := Lib.hid (KL.below K.out hb); clear hb; obtain ⟨HB, ⟨v0, v1, v2, f0, f1, f2, vl⟩, ⟨r0, r1, r2, g0, g1, g2, rl⟩, -⟩ := K2.out))
  (try simp only [Exit.inBlock, Exit.then])
  exact ret_two rfl rfl K2.out.q.2.1 rfl ⟨by rfl, set3 HB _ (Nat.le_refl _) _ _ _⟩
end Go.Proofs.YtchajbcmgdnpmaaGreatDoor
