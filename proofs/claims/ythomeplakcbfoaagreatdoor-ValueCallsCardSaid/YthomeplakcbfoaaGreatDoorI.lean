/-
  Contracts: the closures of operations on strings.
-/
import Derived.Test.YthomeplakcbfoaaGreatDoorG
import Derived.Test.YthomeplakcbfoaaGreatDoorJ
namespace Go.Proofs.YthomeplakcbfoaaGreatDoor
open Go.RowKit

def catS (s t : ByteArray) : Va × Int := chkT (s ++ t)
def likeS (s t : ByteArray) : Va × Int := (booV (lk s.data.toList t.data.toList), 0)
/-- From world x on the function value fv calculates sp, of texts. -/
def FnT (x : World) (fv : Value) (sp : ByteArray → ByteArray → Va × Int) : Prop :=
  ∃ f caps, fv = .func (.func f) #[] caps ∧ (∀ (args : Array Value) (y : World), (callFunc f args).run Tryz.prog y = .ok (.enter f args) y) ∧ ∀ y, Below x.heap.size x y → ∀ a b, okText a = true → okText b = true → Calls Tryz.prog f (#[.string a, .string b] ++ caps) y fun e w' => e = .returned (two (sp a b)) ∧ Below y.heap.size y w'

theorem okText_size (s : ByteArray) (h : okText s = true) : s.size ≤ 200 := by
  simp only [okText, Bool.and_eq_true, decide_eq_true_eq] at h
  exact h.1
theorem cat_ (a b : ByteArray) (ha : okText a = true) (hb0 : okText b = true) (w : World) : Calls Tryz.prog 123 #[.string a, .string b] w fun e w' => e = .returned (two (catS a b)) ∧ Below w.heap.size w w' := by
  have h1 := okText_size a ha
  have h2 := okText_size b hb0
  clear ha hb0
  go_enter Tryz.func123, Tryz.ntmps123
  go_wp2_with (first
    | (go_at_call 124; refine (checkedText_ _ _).mono ?_; rintro e y ⟨rfl, hb⟩; have K : Hid (K1 w y w.heap.size (.int .i64 0) (.int .i64 0) (.string ⟨#[]⟩)) := Lib.hid (K1.below ⟨new1 w _, B3.new w _ _ _ 27⟩ hb); clear hb; obtain ⟨HB, ⟨r0, r1, r2, g0, g1, g2, rl⟩⟩ := K.out))
  (try simp only [Exit.inBlock, Exit.then])
  exact ret_two rfl rfl K.out.q rfl ⟨rfl, set3 HB _ (Nat.le_refl _) _ _ _⟩
theorem likeCl_ (a b : ByteArray) (ha : okText a = true) (hb0 : okText b = true) (w : World) : Calls Tryz.prog 125 #[.string a, .string b] w fun e w' => e = .returned (two (likeS a b)) ∧ Below w.heap.size w w' := by
  go_enter Tryz.func125, Tryz.ntmps125
  go_wp2_with (first
    | (go_at_call 126; refine (isLike_ _ _ ha hb0 _).mono ?_; rintro e y ⟨rfl, hb⟩; have K : Hid (K1 w y w.heap.size (.int .i64 0) (.int .i64 0) (.string ⟨#[]⟩)) := Lib.hid (K1.below ⟨new1 w _, B3.new w _ _ _ 27⟩ hb); clear hb; obtain ⟨HB, ⟨r0, r1, r2, g0, g1, g2, rl⟩⟩ := K.out)
    | (go_at_call 60; refine (boolean_ _ _).mono ?_; rintro e y ⟨rfl, hb⟩; have K := Lib.hid (K1.below (Hid.out (by assumption)) hb); clear hb; obtain ⟨HB, ⟨r0, r1, r2, g0, g1, g2, rl⟩⟩ := K.out))
  (try simp only [Exit.inBlock, Exit.then])
  exact ret_two rfl rfl K.out.q rfl ⟨rfl, set3 HB _ (Nat.le_refl _) _ _ _⟩

set_option maxRecDepth 100000 in
theorem texts3_ (a b : Va) (ha : okText a.s = true) (hb : okText b.s = true) (c : Nat) (fv : Value) (sp : ByteArray → ByteArray → Va × Int) (w : World) (hc : w.cell? ⟨c, 0, none⟩ = some fv) (hf : FnT w fv sp) :
    Calls Tryz.prog 127 #[a.val, b.val, .pointer (some ⟨c, 0, none⟩)] w fun e w' => e = .returned (two (sp a.s b.s)) ∧ Below w.heap.size w w' := by
  have hlt : c < w.heap.size := World.block_lt_of_cell? w _ hc
  obtain ⟨f, caps, rfl, hcall, hF⟩ := hf
  have HF := Lib.hid hF
  clear hF
  obtain ⟨k, n, s⟩ := a
  obtain ⟨k', n', s'⟩ := b
  have hc' : (((w.alloc (.cells #[.int .i64 k, .int .i64 n, .string s] 27)).alloc (.cells #[.int .i64 k', .int .i64 n', .string s'] 27)).alloc (.cells #[.int .i64 0, .int .i64 0, .string ⟨#[]⟩] 27)).cell? ⟨c, 0, none⟩ = some (.func (.func f) #[] caps) :=
    (World.cell?_alloc_lt _ _ _ (by simp; omega)).trans ((World.cell?_alloc_lt _ _ _ (by simp; omega)).trans ((World.cell?_alloc_lt _ _ _ hlt).trans hc))
  go_enter Tryz.func127, Tryz.ntmps127
  go_wp2_with fail
  refine (HF.out _ ((new2 _ _ _).alloc (by simp; omega) _) _ _ ha hb).mono ?_
  rintro e y ⟨rfl, hb1⟩
  have K : Hid (K1 w y (w.heap.size + 1 + 1) (.int .i64 0) (.int .i64 0) (.string ⟨#[]⟩)) := Lib.hid (K1.below ⟨(new2 _ _ _).alloc (by simp; omega) _, B3.new' _ _ (sz2 _ _ _) _ _ _ 27⟩ hb1)
  clear hb1
  obtain ⟨HB, ⟨r0, r1, r2, g0, g1, g2, rl⟩⟩ := K.out
  go_wp2
  (try simp only [Exit.inBlock, Exit.then])
  exact ret_two rfl rfl K.out.q rfl ⟨rfl, set3 HB _ (by omega) _ _ _⟩
end Go.Proofs.YthomeplakcbfoaaGreatDoor
