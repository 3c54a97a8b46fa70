/-
  Contracts: the closures of arithmetic, of comparisons, of and and or.
-/
import Derived.Test.YthomeplakcbfoaaGreatDoorF
namespace Go.Proofs.YthomeplakcbfoaaGreatDoor
open Go.RowKit

/-- From world x on the function value fv calculates sp, of integers within their range. -/
def FnI (x : World) (fv : Value) (sp : Int → Int → Va × Int) : Prop :=
  ∃ f caps, fv = .func (.func f) #[] caps ∧ (∀ (args : Array Value) (y : World), (callFunc f args).run Tryz.prog y = .ok (.enter f args) y) ∧ ∀ y, Below x.heap.size x y → ∀ a b, Small a → Small b → Calls Tryz.prog f (#[.int .i64 a, .int .i64 b] ++ caps) y fun e w' => e = .returned (two (sp a b)) ∧ Below y.heap.size y w'
/-- What block L and those above it held in x they hold in y. -/
def Up (L : Nat) (x y : World) : Prop := x.heap.size ≤ y.heap.size ∧ ∀ i, L ≤ i → i < x.heap.size → y.heap[i]? = x.heap[i]?
theorem Up.below {L : Nat} {x y z : World} (h : Up L x y) (hb : Below y.heap.size y z) : Up L x z :=
  ⟨Nat.le_trans h.1 hb.size, fun i hL hi => (hb.block i (Nat.lt_of_lt_of_le hi h.1)).trans (h.2 i hL hi)⟩
theorem Up.refl (L : Nat) (x : World) : Up L x x := ⟨Nat.le_refl _, fun _ _ _ => rfl⟩
theorem ucell {L : Nat} {x y : World} (h : Up L x y) (b o : Nat) (hL : L ≤ b) (hb : b < x.heap.size) : y.cell? ⟨b, o, none⟩ = x.cell? ⟨b, o, none⟩ :=
  World.cell?_of_block (w := x) (a := ⟨b, o, none⟩) (h.2 b hL hb)
/-- The result's block lies below L: it may be written. -/
theorem Up.setCell {L : Nat} {x y : World} (h : Up L x y) {p : Addr} (hp : p.block < L) (u : Value) : Up L x (y.setCell p u) :=
  ⟨by simpa using h.1, fun i hL hi => (Below.heap_setCell _ _ _ _ (by omega)).trans (h.2 i hL hi)⟩
/-- From world x on the function value fv, all of whose memory lies from block L on, calculates sp, of values that meet d. -/
def FnV (L : Nat) (x : World) (fv : Value) (d : Va → Va → Prop) (sp : Va → Va → Va × Int) : Prop :=
  ∃ f caps, fv = .func (.func f) #[] caps ∧ (∀ (args : Array Value) (y : World), (callFunc f args).run Tryz.prog y = .ok (.enter f args) y) ∧ ∀ y, Up L x y → ∀ a b, d a b → Calls Tryz.prog f (#[a.val, b.val] ++ caps) y fun e w' => e = .returned (two (sp a b)) ∧ Below y.heap.size y w'
theorem call121 (args : Array Value) (y : World) : (callFunc 116 args).run Tryz.prog y = .ok (.enter 116 args) y := by simp [go_sem]
theorem divQuo_ (a b : Int) (ha : Small a) (hb : Small b) (c : Nat) (w : World) (hc : w.cell? ⟨c, 0, none⟩ = some (.func (.func 120) #[] #[])) :
    Calls Tryz.prog 146 #[.int .i64 a, .int .i64 b, .pointer (some ⟨c, 0, none⟩)] w fun e w' => e = .returned (two (quoS a b)) ∧ Below w.heap.size w w' := by
  have hlt : c < w.heap.size := World.block_lt_of_cell? w _ hc
  by_cases h0 : b = 0
  · have H : Hid (quoS a b = (nulV, 22)) := Lib.hid (by unfold quoS; rw [if_pos h0])
    subst h0
    go_enter Tryz.func146, Tryz.ntmps146
    go_wp2
    go_returns
    exact ⟨by rw [H.out]; rfl, new1 _ _⟩
  · have H : Hid (quoS a b = (intV (a.tdiv b), 0)) := Lib.hid (by unfold quoS; rw [if_neg h0])
    have hz : (b == 0) = false := by simpa using h0
    have hc' : (w.alloc (.cells #[.int .i64 0, .int .i64 0, .string ⟨#[]⟩] 27)).cell? ⟨c, 0, none⟩ = some (.func (.func 120) #[] #[]) := (World.cell?_alloc_lt w _ _ hlt).trans hc
    go_enter Tryz.func146, Tryz.ntmps146
    go_wp2_with (first
      | (go_at_call 120; refine (quo_ _ _ ha hb h0 _).mono ?_; rintro e y ⟨rfl, rfl⟩)
      | (go_at_call 59; refine (integer_ _ _).mono ?_; rintro e y ⟨rfl, hb1⟩; have K : Hid (K1 w y w.heap.size (.int .i64 0) (.int .i64 0) (.string ⟨#[]⟩)) := Lib.hid (K1.below ⟨new1 w _, B3.new w _ _ _ 27⟩ hb1); clear hb1; obtain ⟨HB, ⟨r0, r1, r2, g0, g1, g2, rl⟩⟩ := K.out))
    (try simp only [Exit.inBlock, Exit.then])
    exact ret_two rfl rfl K.out.q rfl ⟨by rw [H.out]; rfl, set3 HB _ (Nat.le_refl _) _ _ _⟩
theorem divRem_ (a b : Int) (ha : Small a) (hb : Small b) (c : Nat) (w : World) (hc : w.cell? ⟨c, 0, none⟩ = some (.func (.func 121) #[] #[])) :
    Calls Tryz.prog 146 #[.int .i64 a, .int .i64 b, .pointer (some ⟨c, 0, none⟩)] w fun e w' => e = .returned (two (remS a b)) ∧ Below w.heap.size w w' := by
  have hlt : c < w.heap.size := World.block_lt_of_cell? w _ hc
  by_cases h0 : b = 0
  · have H : Hid (remS a b = (nulV, 22)) := Lib.hid (by unfold remS; rw [if_pos h0])
    subst h0
    go_enter Tryz.func146, Tryz.ntmps146
    go_wp2
    go_returns
    exact ⟨by rw [H.out]; rfl, new1 _ _⟩
  · have H : Hid (remS a b = (intV (a.tmod b), 0)) := Lib.hid (by unfold remS; rw [if_neg h0])
    have hz : (b == 0) = false := by simpa using h0
    have hc' : (w.alloc (.cells #[.int .i64 0, .int .i64 0, .string ⟨#[]⟩] 27)).cell? ⟨c, 0, none⟩ = some (.func (.func 121) #[] #[]) := (World.cell?_alloc_lt w _ _ hlt).trans hc
    go_enter Tryz.func146, Tryz.ntmps146
    go_wp2_with (first
      | (go_at_call 121; refine (rem_ _ _ ha hb h0 _).mono ?_; rintro e y ⟨rfl, rfl⟩)
      | (go_at_call 59; refine (integer_ _ _).mono ?_; rintro e y ⟨rfl, hb1⟩; have K : Hid (K1 w y w.heap.size (.int .i64 0) (.int .i64 0) (.string ⟨#[]⟩)) := Lib.hid (K1.below ⟨new1 w _, B3.new w _ _ _ 27⟩ hb1); clear hb1; obtain ⟨HB, ⟨r0, r1, r2, g0, g1, g2, rl⟩⟩ := K.out))
    (try simp only [Exit.inBlock, Exit.then])
    exact ret_two rfl rfl K.out.q rfl ⟨by rw [H.out]; rfl, set3 HB _ (Nat.le_refl _) _ _ _⟩

set_option maxRecDepth 100000 in
theorem arith5_ (a b : Va) (ha : Small a.n) (hb : Small b.n) (c : Nat) (fv : Value) (sp : Int → Int → Va × Int) (w : World) (hc : w.cell? ⟨c, 0, none⟩ = some fv) (hf : FnI w fv sp) :
    Calls Tryz.prog 122 #[a.val, b.val, .pointer (some ⟨c, 0, none⟩)] w fun e w' => e = .returned (two (sp a.n b.n)) ∧ Below w.heap.size w w' := by
  have hlt : c < w.heap.size := World.block_lt_of_cell? w _ hc
  obtain ⟨f, caps, rfl, hcall, hF⟩ := hf
  have HF := Lib.hid hF
  clear hF
  obtain ⟨k, n, s⟩ := a
  obtain ⟨k', n', s'⟩ := b
  have hc' : (((w.alloc (.cells #[.int .i64 k, .int .i64 n, .string s] 27)).alloc (.cells #[.int .i64 k', .int .i64 n', .string s'] 27)).alloc (.cells #[.int .i64 0, .int .i64 0, .string ⟨#[]⟩] 27)).cell? ⟨c, 0, none⟩ = some (.func (.func f) #[] caps) :=
    (World.cell?_alloc_lt _ _ _ (by simp; omega)).trans ((World.cell?_alloc_lt _ _ _ (by simp; omega)).trans ((World.cell?_alloc_lt _ _ _ hlt).trans hc))
  go_enter Tryz.func122, Tryz.ntmps122
  go_wp2_with fail
  refine (HF.out _ ((new2 _ _ _).alloc (by simp; omega) _) _ _ ha hb).mono ?_
  rintro e y ⟨rfl, hb1⟩
  have K : Hid (K1 w y (w.heap.size + 1 + 1) (.int .i64 0) (.int .i64 0) (.string ⟨#[]⟩)) := Lib.hid (K1.below ⟨(new2 _ _ _).alloc (by simp; omega) _, B3.new' _ _ (sz2 _ _ _) _ _ _ 27⟩ hb1)
  clear hb1
  obtain ⟨HB, ⟨r0, r1, r2, g0, g1, g2, rl⟩⟩ := K.out
  go_wp2
  (try simp only [Exit.inBlock, Exit.then])
  exact ret_two rfl rfl K.out.q rfl ⟨rfl, set3 HB _ (by omega) _ _ _⟩

def cmpS (l e g : Bool) (a b : Va) : Va × Int := (booV (if (cmpV a.k a.n a.s b.n b.s == -1) = true then l else if (cmpV a.k a.n a.s b.n b.s == 0) = true then e else g), 0)
set_option maxRecDepth 100000 in
theorem comparison1_ (a b : Va) (l e g : Bool) (c : Nat) (w : World) (c0 : w.cell? ⟨c, 0, none⟩ = some (.bool l)) (c1 : w.cell? ⟨c, 1, none⟩ = some (.bool e)) (c2 : w.cell? ⟨c, 2, none⟩ = some (.bool g)) :
    Calls Tryz.prog 114 #[a.val, b.val, .pointer (some ⟨c, 0, none⟩)] w fun x w' => x = .returned (two (cmpS l e g a b)) ∧ Below w.heap.size w w' := by
  have hlt : c < w.heap.size := World.block_lt_of_cell? w _ c0
  obtain ⟨k, n, s⟩ := a
  obtain ⟨k', n', s'⟩ := b
  have H : Hid (cmpS l e g ⟨k, n, s⟩ ⟨k', n', s'⟩ = (booV (if (cmpV k n s n' s' == -1) = true then l else if (cmpV k n s n' s' == 0) = true then e else g), 0)) := Lib.hid rfl
  have HB3 := Lib.hid ((new2 w (.cells #[.int .i64 k, .int .i64 n, .string s] 27) (.cells #[.int .i64 k', .int .i64 n', .string s'] 27)).alloc (by simp; omega) (.cells #[.int .i64 0, .int .i64 0, .string ⟨#[]⟩] 27))
  cases h1 : cmpV k n s n' s' == -1
  · rw [h1] at H
    cases h2 : cmpV k n s n' s' == 0
    · rw [h2] at H
      go_enter Tryz.func114, Tryz.ntmps114
      go_wp2_with (first
        | (go_at_call 61; refine (compare_ _ _ _ _ _ _ _).mono ?_; rintro e y ⟨rfl, hb⟩; have K : Hid (K1 w y (w.heap.size + 1 + 1) (.int .i64 0) (.int .i64 0) (.string ⟨#[]⟩)) := Lib.hid (K1.below ⟨HB3.out, B3.new' _ _ (sz2 _ _ _) _ _ _ 27⟩ hb); have HC := Lib.hid (HB3.out.trans (hb.mono (by simp; omega))); clear hb; obtain ⟨HB, ⟨r0, r1, r2, g0, g1, g2, rl⟩⟩ := K.out; have q0 := (bcell HC.out c 0 hlt).trans c0; have q1 := (bcell HC.out c 1 hlt).trans c1; have q2 := (bcell HC.out c 2 hlt).trans c2)
        | (go_at_call 60; refine (boolean_ _ _).mono ?_; rintro e y ⟨rfl, hb⟩; have K := Lib.hid (K1.below (Hid.out (by assumption)) hb); clear hb; obtain ⟨HB, ⟨r0, r1, r2, g0, g1, g2, rl⟩⟩ := K.out))
      (try simp only [Exit.inBlock, Exit.then])
      exact ret_two rfl rfl K.out.q rfl ⟨by rw [H.out]; rfl, set3 HB _ (by omega) _ _ _⟩
    · rw [h2] at H
      go_enter Tryz.func114, Tryz.ntmps114
      go_wp2_with (first
        | (go_at_call 61; refine (compare_ _ _ _ _ _ _ _).mono ?_; rintro e y ⟨rfl, hb⟩; have K : Hid (K1 w y (w.heap.size + 1 + 1) (.int .i64 0) (.int .i64 0) (.string ⟨#[]⟩)) := Lib.hid (K1.below ⟨HB3.out, B3.new' _ _ (sz2 _ _ _) _ _ _ 27⟩ hb); have HC := Lib.hid (HB3.out.trans (hb.mono (by simp; omega))); clear hb; obtain ⟨HB, ⟨r0, r1, r2, g0, g1, g2, rl⟩⟩ := K.out; have q0 := (bcell HC.out c 0 hlt).trans c0; have q1 := (bcell HC.out c 1 hlt).trans c1; have q2 := (bcell HC.out c 2 hlt).trans c2)
        | (go_at_call 60; refine (boolean_ _ _).mono ?_; rintro e y ⟨rfl, hb⟩; have K := Lib.hid (K1.below (Hid.out (by assumption)) hb); clear hb; obtain ⟨HB, ⟨r0, r1, r2, g0, g1, g2, rl⟩⟩ := K.out))
      (try simp only [Exit.inBlock, Exit.then])
      exact ret_two rfl rfl K.out.q rfl ⟨by rw [H.out]; rfl, set3 HB _ (by omega) _ _ _⟩
  · rw [h1] at H
    have h2 : (cmpV k n s n' s' == 0) = false := by simp at h1; simp [h1]
    · go_enter Tryz.func114, Tryz.ntmps114
      go_wp2_with (first
        | (go_at_call 61; refine (compare_ _ _ _ _ _ _ _).mono ?_; rintro e y ⟨rfl, hb⟩; have K : Hid (K1 w y (w.heap.size + 1 + 1) (.int .i64 0) (.int .i64 0) (.string ⟨#[]⟩)) := Lib.hid (K1.below ⟨HB3.out, B3.new' _ _ (sz2 _ _ _) _ _ _ 27⟩ hb); have HC := Lib.hid (HB3.out.trans (hb.mono (by simp; omega))); clear hb; obtain ⟨HB, ⟨r0, r1, r2, g0, g1, g2, rl⟩⟩ := K.out; have q0 := (bcell HC.out c 0 hlt).trans c0; have q1 := (bcell HC.out c 1 hlt).trans c1; have q2 := (bcell HC.out c 2 hlt).trans c2)
        | (go_at_call 60; refine (boolean_ _ _).mono ?_; rintro e y ⟨rfl, hb⟩; have K := Lib.hid (K1.below (Hid.out (by assumption)) hb); clear hb; obtain ⟨HB, ⟨r0, r1, r2, g0, g1, g2, rl⟩⟩ := K.out))
      (try simp only [Exit.inBlock, Exit.then])
      exact ret_two rfl rfl K.out.q rfl ⟨by rw [H.out]; rfl, set3 HB _ (by omega) _ _ _⟩
end Go.Proofs.YthomeplakcbfoaaGreatDoor
