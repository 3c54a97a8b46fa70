/-
  Contracts: the function of a name at nvl and substr; Builtin; the function substr; Call at substr.
-/
import Derived.Test.YthomeplakcbfoaaGreatDoorBB
namespace Go.Proofs.YthomeplakcbfoaaGreatDoor
open Go.RowKit

abbrev sNvl : ByteArray := ⟨#[110, 118, 108]⟩
abbrev sSubstr : ByteArray := ⟨#[115, 117, 98, 115, 116, 114]⟩
set_option maxRecDepth 100000 in
theorem functionOf_nvl (w : World) : Calls Tryz.prog 39 #[.string sNvl] w fun e w' => (∃ b, e = .returned (.tuple #[.agg #[.slice (some ⟨b, 0, none⟩) 2 2, .bool true, fnP 100], .bool true])) ∧ Below w.heap.size w w' := by
  go_enter Tryz.func39, Tryz.ntmps39
  go_wp2_with (first
            | (go_at_call 65; refine (ofInteger_no _ rfl _).mono ?_; rintro e y ⟨fv, rfl, hb⟩; have K : Hid (KL w y [(w.heap.size, .slice none 0 0, .bool false, .nilFunc)]) := Lib.hid (KL.below ((KL.refl w).push _ _ _ 61) hb); clear hb; obtain ⟨HB, ⟨r0, r1, r2, g0, g1, g2, rl⟩, _⟩ := K.out)
            | (go_at_call 66; refine (ofText_no _ rfl _).mono ?_; rintro e y ⟨fv, rfl, hb⟩; have K := Lib.hid (KL.below (Hid.out (by assumption)) hb); clear hb; obtain ⟨HB, ⟨r0, r1, r2, g0, g1, g2, rl⟩, _⟩ := K.out)
            | (go_at_call 67; refine (ofTwo_nvl _ rfl _).mono ?_; rintro e y ⟨⟨b6, rfl⟩, hb⟩; have K := Lib.hid (KL.alloc (KL.below (Hid.out (by assumption)) hb) (.cells #[.slice (some ⟨b6, 0, none⟩) 2 2, .bool true, fnP 100] 61)); clear hb; obtain ⟨HB, ⟨r0, r1, r2, g0, g1, g2, rl⟩, _⟩ := K.out))
  (try simp only [Exit.inBlock, Exit.then])
  exact ret_fn rfl rfl K.out.q.1 rfl ⟨⟨_, rfl⟩, _root_.Go.Proofs.YthomeplakcbfoaaGreatDoor.set3 HB _ (Nat.le_refl _) _ _ _⟩
set_option maxRecDepth 100000 in
theorem functionOf_substr (w : World) : Calls Tryz.prog 39 #[.string sSubstr] w fun e w' => (∃ bt, e = .returned (.tuple #[.agg #[.slice (some ⟨bt, 0, none⟩) 3 3, .bool false, fnP 68], .bool true]) ∧ w.heap.size < bt ∧ B3 w' bt (.int .i64 2) (.int .i64 1) (.int .i64 1)) ∧ Below w.heap.size w w' := by
  go_enter Tryz.func39, Tryz.ntmps39
  go_wp2_with (first
            | (go_at_call 65; refine (ofInteger_no _ rfl _).mono ?_; rintro e y ⟨fv, rfl, hb⟩; have K : Hid (KL w y [(w.heap.size, .slice none 0 0, .bool false, .nilFunc)]) := Lib.hid (KL.below ((KL.refl w).push _ _ _ 61) hb); clear hb; obtain ⟨HB, ⟨r0, r1, r2, g0, g1, g2, rl⟩, _⟩ := K.out)
            | (go_at_call 66; refine (ofText_no _ rfl _).mono ?_; rintro e y ⟨fv, rfl, hb⟩; have K := Lib.hid (KL.below (Hid.out (by assumption)) hb); clear hb; obtain ⟨HB, ⟨r0, r1, r2, g0, g1, g2, rl⟩, _⟩ := K.out)
            | (go_at_call 67; refine (ofTwo_substr _ rfl _).mono ?_; rintro e y ⟨⟨b6, rfl⟩, hb⟩; have K := Lib.hid (KL.alloc (KL.below (Hid.out (by assumption)) hb) (.cells #[.slice (some ⟨b6, 0, none⟩) 2 2, .bool false, .nilFunc] 61)); have hby := hb.size; have hbt : w.heap.size < y.heap.size + 1 := (by have := rl; omega); have hne : w.heap.size ≠ y.heap.size + 1 := (by omega); have K0 := K; obtain ⟨HB0, ⟨a0, a1, a2, b0, b1, b2, al⟩, _⟩ := K0.out; have K := Lib.hid (KL.push' K.out (y.heap.size + 1) (sz1 _ _) (.int .i64 2) (.int .i64 1) (.int .i64 1) 25); clear hb; obtain ⟨HB, ⟨t0, t1, t2, _, _, _, tl⟩, ⟨r0, r1, r2, g0, g1, g2, rl⟩, _⟩ := K.out))
  (try simp only [Exit.inBlock, Exit.then])
  have Z := (K0.out.q.1.set3 (.slice (some ⟨y.heap.size + 1, 0, none⟩) 3 3) (.bool false) (fnP 68)).alloc (.cells #[.int .i64 2, .int .i64 1, .int .i64 1] 25)
  have hsz : ((((y.alloc (.cells #[.slice (some ⟨b6, 0, none⟩) 2 2, .bool false, .nilFunc] 61)).setCell ⟨w.heap.size, 0, none⟩ (.slice (some ⟨y.heap.size + 1, 0, none⟩) 3 3)).setCell ⟨w.heap.size, 1, none⟩ (.bool false)).setCell ⟨w.heap.size, 2, none⟩ (fnP 68)).heap.size = y.heap.size + 1 := by simp
  exact bodyPost_ret (results_fn rfl _ rfl Z.c0 Z.c1 Z.c2) rfl ⟨⟨_, rfl, hbt, B3.new' _ _ hsz _ _ _ 25⟩, (_root_.Go.Proofs.YthomeplakcbfoaaGreatDoor.set3 HB0 _ (Nat.le_refl _) _ _ _).alloc (by rw [hsz]; omega) _⟩
end Go.Proofs.YthomeplakcbfoaaGreatDoor
