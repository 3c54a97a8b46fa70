/-
  The reference: Before, Order, Between, In; the law of In, Between and Order.
-/
import Derived.Test.YtplepijiceanlaaGreatDoorRW
import Derived.Deep.RegionHeld3
import Derived.Laws.AppendOwn
import Derived.Test.YtplepijiceanlaaGreatDoorWS
import Derived.SizedLaws
namespace Go.Proofs.YtplepijiceanlaaGreatDoor
section
open Go.RowKit

theorem ret_two_at {fn : Func} {p q : Tmp} (h : fn.results = #[.cell p 27, .tmp q]) {R : Ending → World → Prop} {a : Act} (hd : a.defers = []) {z : World} {b : Nat} {k n : Int} {s : ByteArray} (K : B3 z b (.int .i64 k) (.int .i64 n) (.string s))
    (hp : a.tmps.getD p undef = .pointer (some ⟨b, 0, none⟩)) (hR : R (.returned (.tuple #[V k n s, a.tmps.getD q undef])) z) : bodyPost Tryz.prog fn R .ret a z :=
  bodyPost_ret (results_two h a.tmps hp K.c0 K.c1 K.c2) hd hR
def befV (a b : Va) : Int := if (a.k == 0) = true then if (b.k == 0) = true then 0 else 1 else if (b.k == 0) = true then -1 else lessV a b
theorem before_ (a b : Va) (w : World) : Calls Tryz.prog 77 #[a.val, b.val] w fun e w' => e = .returned (.int .i64 (befV a b)) ∧ Below w.heap.size w w' := by
  have H : Hid (befV a b = if (a.k == 0) = true then if (b.k == 0) = true then 0 else 1 else if (b.k == 0) = true then -1 else lessV a b) := Lib.hid rfl
  obtain ⟨c, hc⟩ : ∃ c, lessV a b = c := ⟨_, rfl⟩
  have C := Lib.hid (fun x => less_ a b x)
  rw [hc] at H C
  clear hc
  cases ka : a.k == 0
  · cases kb : b.k == 0
    · go_enter Tryz.func77, Tryz.ntmps77
      go_wp2_with (first
        | (go_at_call 74; (with_reducible refine (C.out _).mono ?_); rintro e y ⟨rfl, hb⟩; have HB := Lib.hid ((new2 w _ _).trans (hb.mono (new2 w _ _).size)); clear hb))
      go_ret
      exact ⟨ret_int2 (by rw [H.out, ka, kb]; rfl), HB.out⟩
    · go_enter Tryz.func77, Tryz.ntmps77
      go_wp2_with fail
      go_ret
      exact ⟨ret_int2 (by rw [H.out, ka, kb]; rfl), new2 _ _ _⟩
  · cases kb : b.k == 0
    all_goals
      go_enter Tryz.func77, Tryz.ntmps77
      go_wp2_with fail
      go_ret
      exact ⟨ret_int2 (by rw [H.out, ka, kb]; rfl), new2 _ _ _⟩
theorem bef_ord (a b : Va) (ha : a.ok = true) (hb : b.ok = true) (h : a.k = 0 ∨ b.k = 0 ∨ b.k = a.k) : ordS a b = (befV a b, 0) := by
  unfold befV
  by_cases ka : a.k = 0
  · obtain rfl := nul_of a ha ka
    by_cases kb : b.k = 0
    · obtain rfl := nul_of b hb kb
      rw [o_nn]; rfl
    · rw [o_nx b hb kb, if_pos (by rfl), if_neg (by simp [kb])]
  · by_cases kb : b.k = 0
    · obtain rfl := nul_of b hb kb
      rw [o_xn a ha ka, if_neg (by simp [ka]), if_pos (by rfl)]
    · have e : b.k = a.k := (h.resolve_left ka).resolve_left kb
      rw [o_same a b ha hb ka e, if_neg (by simp [ka]), if_neg (by simp [kb]), less_cmp a b ha hb ka e]
set_option maxRecDepth 100000 in
theorem ro_bad1 (a b : Va) (w : World) (HVa : Hid (∀ x, Calls Tryz.prog 16 #[a.val] x fun e w' => e = .returned (.bool false) ∧ Below x.heap.size x w')) : Calls Tryz.prog 34 #[a.val, b.val] w fun e w' => e = .returned (.tuple #[.int .i64 (0), .int .i64 (2)]) ∧ Below w.heap.size w w' := by
  go_enter Tryz.func34, Tryz.ntmps34
  go_wp2_with (first
    | (go_at_call 16; (with_reducible refine (HVa.out _).mono ?_); rintro e y ⟨rfl, hb⟩; (first | (have K' := Lib.hid (KL.below K.out hb); clear K) | (have K' : Hid (KL w y [(w.heap.size + 1, .int .i64 b.k, .int .i64 b.n, .string b.s), (w.heap.size, .int .i64 a.k, .int .i64 a.n, .string a.s)]) := Lib.hid (KL.below (((KL.refl w).push _ _ _ 27).push' _ (sz1 _ _) _ _ _ 27) hb))); clear hb; have K := K'; clear K'; obtain ⟨HB, ⟨b0, b1, b2, -, -, -, bl⟩, ⟨a0, a1, a2, -, -, -, al⟩, -⟩ := K.out))
  (try simp only [Exit.inBlock, Exit.then])
  go_ret2
  exact ⟨rfl, HB⟩
set_option maxRecDepth 100000 in
theorem ro_bad2 (a b : Va) (w : World) (HVa : Hid (∀ x, Calls Tryz.prog 16 #[a.val] x fun e w' => e = .returned (.bool true) ∧ Below x.heap.size x w')) (HVb : Hid (∀ x, Calls Tryz.prog 16 #[b.val] x fun e w' => e = .returned (.bool false) ∧ Below x.heap.size x w')) : Calls Tryz.prog 34 #[a.val, b.val] w fun e w' => e = .returned (.tuple #[.int .i64 (0), .int .i64 (2)]) ∧ Below w.heap.size w w' := by
  go_enter Tryz.func34, Tryz.ntmps34
  go_wp2_with (first
    | (go_at_call 16; (with_reducible refine (HVa.out _).mono ?_); rintro e y ⟨rfl, hb⟩; (first | (have K' := Lib.hid (KL.below K.out hb); clear K) | (have K' : Hid (KL w y [(w.heap.size + 1, .int .i64 b.k, .int .i64 b.n, .string b.s), (w.heap.size, .int .i64 a.k, .int .i64 a.n, .string a.s)]) := Lib.hid (KL.below (((KL.refl w).push _ _ _ 27).push' _ (sz1 _ _) _ _ _ 27) hb))); clear hb; have K := K'; clear K'; obtain ⟨HB, ⟨b0, b1, b2, -, -, -, bl⟩, ⟨a0, a1, a2, -, -, -, al⟩, -⟩ := K.out)
    | (go_at_call 16; (with_reducible refine (HVb.out _).mono ?_); rintro e y ⟨rfl, hb⟩; (first | (have K' := Lib.hid (KL.below K.out hb); clear K) | (have K' : Hid (KL w y [(w.heap.size + 1, .int .i64 b.k, .int .i64 b.n, .string b.s), (w.heap.size, .int .i64 a.k, .int .i64 a.n, .string a.s)]) := Lib.hid (KL.below (((KL.refl w).push _ _ _ 27).push' _ (sz1 _ _) _ _ _ 27) hb))); clear hb; have K := K'; clear K'; obtain ⟨HB, ⟨b0, b1, b2, -, -, -, bl⟩, ⟨a0, a1, a2, -, -, -, al⟩, -⟩ := K.out))
  (try simp only [Exit.inBlock, Exit.then])
  go_ret2
  exact ⟨rfl, HB⟩
set_option maxRecDepth 100000 in
theorem ro_type (a b : Va) (w : World) (HVa : Hid (∀ x, Calls Tryz.prog 16 #[a.val] x fun e w' => e = .returned (.bool true) ∧ Below x.heap.size x w')) (HVb : Hid (∀ x, Calls Tryz.prog 16 #[b.val] x fun e w' => e = .returned (.bool true) ∧ Below x.heap.size x w')) (ka : (a.k != 0) = true) (kb : (b.k != 0) = true) (hk : (a.k != b.k) = true) : Calls Tryz.prog 34 #[a.val, b.val] w fun e w' => e = .returned (.tuple #[.int .i64 (0), .int .i64 (16)]) ∧ Below w.heap.size w w' := by
  go_enter Tryz.func34, Tryz.ntmps34
  go_wp2_with (first
    | (go_at_call 16; (with_reducible refine (HVa.out _).mono ?_); rintro e y ⟨rfl, hb⟩; (first | (have K' := Lib.hid (KL.below K.out hb); clear K) | (have K' : Hid (KL w y [(w.heap.size + 1, .int .i64 b.k, .int .i64 b.n, .string b.s), (w.heap.size, .int .i64 a.k, .int .i64 a.n, .string a.s)]) := Lib.hid (KL.below (((KL.refl w).push _ _ _ 27).push' _ (sz1 _ _) _ _ _ 27) hb))); clear hb; have K := K'; clear K'; obtain ⟨HB, ⟨b0, b1, b2, -, -, -, bl⟩, ⟨a0, a1, a2, -, -, -, al⟩, -⟩ := K.out)
    | (go_at_call 16; (with_reducible refine (HVb.out _).mono ?_); rintro e y ⟨rfl, hb⟩; (first | (have K' := Lib.hid (KL.below K.out hb); clear K) | (have K' : Hid (KL w y [(w.heap.size + 1, .int .i64 b.k, .int .i64 b.n, .string b.s), (w.heap.size, .int .i64 a.k, .int .i64 a.n, .string a.s)]) := Lib.hid (KL.below (((KL.refl w).push _ _ _ 27).push' _ (sz1 _ _) _ _ _ 27) hb))); clear hb; have K := K'; clear K'; obtain ⟨HB, ⟨b0, b1, b2, -, -, -, bl⟩, ⟨a0, a1, a2, -, -, -, al⟩, -⟩ := K.out))
  (try simp only [Exit.inBlock, Exit.then])
  go_ret2
  exact ⟨rfl, HB⟩
set_option maxRecDepth 100000 in
theorem ro_1 (a b : Va) (w : World) (HVa : Hid (∀ x, Calls Tryz.prog 16 #[a.val] x fun e w' => e = .returned (.bool true) ∧ Below x.heap.size x w')) (HVb : Hid (∀ x, Calls Tryz.prog 16 #[b.val] x fun e w' => e = .returned (.bool true) ∧ Below x.heap.size x w')) (c : Int) (HC : Hid (∀ x, Calls Tryz.prog 77 #[a.val, b.val] x fun e w' => e = .returned (.int .i64 c) ∧ Below x.heap.size x w')) (ka : (a.k != 0) = false) : Calls Tryz.prog 34 #[a.val, b.val] w fun e w' => e = .returned (.tuple #[.int .i64 (c), .int .i64 (0)]) ∧ Below w.heap.size w w' := by
  go_enter Tryz.func34, Tryz.ntmps34
  go_wp2_with (first
    | (go_at_call 16; (with_reducible refine (HVa.out _).mono ?_); rintro e y ⟨rfl, hb⟩; (first | (have K' := Lib.hid (KL.below K.out hb); clear K) | (have K' : Hid (KL w y [(w.heap.size + 1, .int .i64 b.k, .int .i64 b.n, .string b.s), (w.heap.size, .int .i64 a.k, .int .i64 a.n, .string a.s)]) := Lib.hid (KL.below (((KL.refl w).push _ _ _ 27).push' _ (sz1 _ _) _ _ _ 27) hb))); clear hb; have K := K'; clear K'; obtain ⟨HB, ⟨b0, b1, b2, -, -, -, bl⟩, ⟨a0, a1, a2, -, -, -, al⟩, -⟩ := K.out)
    | (go_at_call 16; (with_reducible refine (HVb.out _).mono ?_); rintro e y ⟨rfl, hb⟩; (first | (have K' := Lib.hid (KL.below K.out hb); clear K) | (have K' : Hid (KL w y [(w.heap.size + 1, .int .i64 b.k, .int .i64 b.n, .string b.s), (w.heap.size, .int .i64 a.k, .int .i64 a.n, .string a.s)]) := Lib.hid (KL.below (((KL.refl w).push _ _ _ 27).push' _ (sz1 _ _) _ _ _ 27) hb))); clear hb; have K := K'; clear K'; obtain ⟨HB, ⟨b0, b1, b2, -, -, -, bl⟩, ⟨a0, a1, a2, -, -, -, al⟩, -⟩ := K.out)
    | (go_at_call 77; (with_reducible refine (HC.out _).mono ?_); rintro e y ⟨rfl, hb⟩; (first | (have K' := Lib.hid (KL.below K.out hb); clear K) | (have K' : Hid (KL w y [(w.heap.size + 1, .int .i64 b.k, .int .i64 b.n, .string b.s), (w.heap.size, .int .i64 a.k, .int .i64 a.n, .string a.s)]) := Lib.hid (KL.below (((KL.refl w).push _ _ _ 27).push' _ (sz1 _ _) _ _ _ 27) hb))); clear hb; have K := K'; clear K'; obtain ⟨HB, ⟨b0, b1, b2, -, -, -, bl⟩, ⟨a0, a1, a2, -, -, -, al⟩, -⟩ := K.out))
  (try simp only [Exit.inBlock, Exit.then])
  go_ret2
  exact ⟨rfl, HB⟩
set_option maxRecDepth 100000 in
theorem ro_2 (a b : Va) (w : World) (HVa : Hid (∀ x, Calls Tryz.prog 16 #[a.val] x fun e w' => e = .returned (.bool true) ∧ Below x.heap.size x w')) (HVb : Hid (∀ x, Calls Tryz.prog 16 #[b.val] x fun e w' => e = .returned (.bool true) ∧ Below x.heap.size x w')) (c : Int) (HC : Hid (∀ x, Calls Tryz.prog 77 #[a.val, b.val] x fun e w' => e = .returned (.int .i64 c) ∧ Below x.heap.size x w')) (ka : (a.k != 0) = true) (kb : (b.k != 0) = false) : Calls Tryz.prog 34 #[a.val, b.val] w fun e w' => e = .returned (.tuple #[.int .i64 (c), .int .i64 (0)]) ∧ Below w.heap.size w w' := by
  go_enter Tryz.func34, Tryz.ntmps34
  go_wp2_with (first
    | (go_at_call 16; (with_reducible refine (HVa.out _).mono ?_); rintro e y ⟨rfl, hb⟩; (first | (have K' := Lib.hid (KL.below K.out hb); clear K) | (have K' : Hid (KL w y [(w.heap.size + 1, .int .i64 b.k, .int .i64 b.n, .string b.s), (w.heap.size, .int .i64 a.k, .int .i64 a.n, .string a.s)]) := Lib.hid (KL.below (((KL.refl w).push _ _ _ 27).push' _ (sz1 _ _) _ _ _ 27) hb))); clear hb; have K := K'; clear K'; obtain ⟨HB, ⟨b0, b1, b2, -, -, -, bl⟩, ⟨a0, a1, a2, -, -, -, al⟩, -⟩ := K.out)
    | (go_at_call 16; (with_reducible refine (HVb.out _).mono ?_); rintro e y ⟨rfl, hb⟩; (first | (have K' := Lib.hid (KL.below K.out hb); clear K) | (have K' : Hid (KL w y [(w.heap.size + 1, .int .i64 b.k, .int .i64 b.n, .string b.s), (w.heap.size, .int .i64 a.k, .int .i64 a.n, .string a.s)]) := Lib.hid (KL.below (((KL.refl w).push _ _ _ 27).push' _ (sz1 _ _) _ _ _ 27) hb))); clear hb; have K := K'; clear K'; obtain ⟨HB, ⟨b0, b1, b2, -, -, -, bl⟩, ⟨a0, a1, a2, -, -, -, al⟩, -⟩ := K.out)
    | (go_at_call 77; (with_reducible refine (HC.out _).mono ?_); rintro e y ⟨rfl, hb⟩; (first | (have K' := Lib.hid (KL.below K.out hb); clear K) | (have K' : Hid (KL w y [(w.heap.size + 1, .int .i64 b.k, .int .i64 b.n, .string b.s), (w.heap.size, .int .i64 a.k, .int .i64 a.n, .string a.s)]) := Lib.hid (KL.below (((KL.refl w).push _ _ _ 27).push' _ (sz1 _ _) _ _ _ 27) hb))); clear hb; have K := K'; clear K'; obtain ⟨HB, ⟨b0, b1, b2, -, -, -, bl⟩, ⟨a0, a1, a2, -, -, -, al⟩, -⟩ := K.out))
  (try simp only [Exit.inBlock, Exit.then])
  go_ret2
  exact ⟨rfl, HB⟩
set_option maxRecDepth 100000 in
theorem ro_3 (a b : Va) (w : World) (HVa : Hid (∀ x, Calls Tryz.prog 16 #[a.val] x fun e w' => e = .returned (.bool true) ∧ Below x.heap.size x w')) (HVb : Hid (∀ x, Calls Tryz.prog 16 #[b.val] x fun e w' => e = .returned (.bool true) ∧ Below x.heap.size x w')) (c : Int) (HC : Hid (∀ x, Calls Tryz.prog 77 #[a.val, b.val] x fun e w' => e = .returned (.int .i64 c) ∧ Below x.heap.size x w')) (ka : (a.k != 0) = true) (kb : (b.k != 0) = true) (hk : (a.k != b.k) = false) : Calls Tryz.prog 34 #[a.val, b.val] w fun e w' => e = .returned (.tuple #[.int .i64 (c), .int .i64 (0)]) ∧ Below w.heap.size w w' := by
  go_enter Tryz.func34, Tryz.ntmps34
  go_wp2_with (first
    | (go_at_call 16; (with_reducible refine (HVa.out _).mono ?_); rintro e y ⟨rfl, hb⟩; (first | (have K' := Lib.hid (KL.below K.out hb); clear K) | (have K' : Hid (KL w y [(w.heap.size + 1, .int .i64 b.k, .int .i64 b.n, .string b.s), (w.heap.size, .int .i64 a.k, .int .i64 a.n, .string a.s)]) := Lib.hid (KL.below (((KL.refl w).push _ _ _ 27).push' _ (sz1 _ _) _ _ _ 27) hb))); clear hb; have K := K'; clear K'; obtain ⟨HB, ⟨b0, b1, b2, -, -, -, bl⟩, ⟨a0, a1, a2, -, -, -, al⟩, -⟩ := K.out)
    | (go_at_call 16; (with_reducible refine (HVb.out _).mono ?_); rintro e y ⟨rfl, hb⟩; (first | (have K' := Lib.hid (KL.below K.out hb); clear K) | (have K' : Hid (KL w y [(w.heap.size + 1, .int .i64 b.k, .int .i64 b.n, .string b.s), (w.heap.size, .int .i64 a.k, .int .i64 a.n, .string a.s)]) := Lib.hid (KL.below (((KL.refl w).push _ _ _ 27).push' _ (sz1 _ _) _ _ _ 27) hb))); clear hb; have K := K'; clear K'; obtain ⟨HB, ⟨b0, b1, b2, -, -, -, bl⟩, ⟨a0, a1, a2, -, -, -, al⟩, -⟩ := K.out)
    | (go_at_call 77; (with_reducible refine (HC.out _).mono ?_); rintro e y ⟨rfl, hb⟩; (first | (have K' := Lib.hid (KL.below K.out hb); clear K) | (have K' : Hid (KL w y [(w.heap.size + 1, .int .i64 b.k, .int .i64 b.n, .string b.s), (w.heap.size, .int .i64 a.k, .int .i64 a.n, .string a.s)]) := Lib.hid (KL.below (((KL.refl w).push _ _ _ 27).push' _ (sz1 _ _) _ _ _ 27) hb))); clear hb; have K := K'; clear K'; obtain ⟨HB, ⟨b0, b1, b2, -, -, -, bl⟩, ⟨a0, a1, a2, -, -, -, al⟩, -⟩ := K.out))
  (try simp only [Exit.inBlock, Exit.then])
  go_ret2
  exact ⟨rfl, HB⟩
theorem refOrder_ (a b : Va) (hma : a.s.size ≤ maxLen) (hmb : b.s.size ≤ maxLen) (w : World) : Calls Tryz.prog 34 #[a.val, b.val] w fun e w' => e = .returned (.tuple #[.int .i64 (ordS a b).1, .int .i64 (ordS a b).2]) ∧ Below w.heap.size w w' := by
  cases ha : a.ok
  · rw [show ordS a b = (0, 2) from by unfold ordS; rw [if_pos (by simp [allOk, ha])]]
    exact ro_bad1 a b w (Lib.hid fun x => refValid_at ha hma x)
  cases hb : b.ok
  · rw [show ordS a b = (0, 2) from by unfold ordS; rw [if_pos (by simp [allOk, hb])]]
    exact ro_bad2 a b w (Lib.hid fun x => refValid_at ha hma x) (Lib.hid fun x => refValid_at hb hmb x)
  cases ka : a.k != 0
  · rw [bef_ord a b ha hb (.inl (by simpa using ka))]
    exact ro_1 a b w (Lib.hid fun x => refValid_at ha hma x) (Lib.hid fun x => refValid_at hb hmb x) _ (Lib.hid fun x => before_ a b x) ka
  cases kb : b.k != 0
  · rw [bef_ord a b ha hb (.inr (.inl (by simpa using kb)))]
    exact ro_2 a b w (Lib.hid fun x => refValid_at ha hma x) (Lib.hid fun x => refValid_at hb hmb x) _ (Lib.hid fun x => before_ a b x) ka kb
  cases hk : a.k != b.k
  · rw [bef_ord a b ha hb (.inr (.inr (by simpa using (bne_eq_false_iff_eq.1 hk).symm)))]
    exact ro_3 a b w (Lib.hid fun x => refValid_at ha hma x) (Lib.hid fun x => refValid_at hb hmb x) _ (Lib.hid fun x => before_ a b x) ka kb hk
  · have q1 : a.k ≠ 0 := by simpa using ka
    have q2 : b.k ≠ 0 := by simpa using kb
    have q3 : a.k ≠ b.k := by simpa using hk
    rw [ord_ty a b ha hb (by simp [oneK, q1, q2, Ne.symm q3])]
    exact ro_type a b w (Lib.hid fun x => refValid_at ha hma x) (Lib.hid fun x => refValid_at hb hmb x) ka kb hk
theorem cmp_res {op : ByteArray} (K : opK op = 0) (a b : Va) : (binS op a b).1 = nulV ∨ ∃ q, (binS op a b).1 = booV q := by
  unfold binS
  rw [K]
  repeat' split
  all_goals first | exact .inl rfl | exact .inr ⟨_, rfl⟩
theorem and_tru (x y : Va) (hx : x = nulV ∨ ∃ q, x = booV q) (hy : y = nulV ∨ ∃ q, y = booV q) : binS sAnd x y = (truS sAnd x y, 0) := by
  have o1 : x.ok = true := by rcases hx with rfl | ⟨q, rfl⟩ <;> first | exact ok_nul | exact ok_boo _
  have o2 : y.ok = true := by rcases hy with rfl | ⟨q, rfl⟩ <;> first | exact ok_nul | exact ok_boo _
  have h1 : oneK (opT 1) [x, y] = true := by rcases hx with rfl | ⟨q, rfl⟩ <;> rcases hy with rfl | ⟨p, rfl⟩ <;> rfl
  rw [bin_go2 opAnd.K (by omega) x y o1 o2 h1, if_neg (show ¬ opN 1 = false by decide), ite_self, ← tru_junc sAnd false opAnd.or_ opAnd.an x y]; rfl
set_option maxRecDepth 100000 in
set_option maxHeartbeats 4000000 in
theorem rw_bad1 (a b c : Va) (w : World) (HVa : Hid (∀ x, Calls Tryz.prog 16 #[a.val] x fun e w' => e = .returned (.bool false) ∧ Below x.heap.size x w')) : Calls Tryz.prog 32 #[a.val, b.val, c.val] w fun e w' => e = .returned (two (nulV, 2)) ∧ Below w.heap.size w w' := by
  go_enter Tryz.func32, Tryz.ntmps32
  go_wp2_with (first
    | (go_at_call 16; (with_reducible refine (HVa.out _).mono ?_); rintro e y ⟨rfl, hb⟩; (first | (have K' := Lib.hid (KL.below K.out hb); clear K) | (have K' : Hid (KL w y [(w.heap.size + 1 + 1 + 1, .int .i64 0, .int .i64 0, .string ⟨#[]⟩), (w.heap.size + 1 + 1, .int .i64 c.k, .int .i64 c.n, .string c.s), (w.heap.size + 1, .int .i64 b.k, .int .i64 b.n, .string b.s), (w.heap.size, .int .i64 a.k, .int .i64 a.n, .string a.s)]) := Lib.hid (KL.below (((((KL.refl w).push _ _ _ 27).push' _ (sz1 _ _) _ _ _ 27).push' _ (sz2 _ _ _) _ _ _ 27).push' _ (sz3 _ _ _ _) _ _ _ 27) hb))); clear hb; have K := K'; clear K'; obtain ⟨HB, ⟨r0, r1, r2, rf0, rf1, rf2, rl⟩, ⟨c0, c1, c2, -, -, -, cl⟩, ⟨b0, b1, b2, -, -, -, bl⟩, ⟨a0, a1, a2, -, -, -, al⟩, -⟩ := K.out))
  (try simp only [Exit.inBlock, Exit.then])
  exact ret_two rfl rfl K.out.q.1 rfl ⟨rfl, set3 HB _ (by omega) _ _ _⟩
set_option maxRecDepth 100000 in
set_option maxHeartbeats 4000000 in
theorem rw_bad2 (a b c : Va) (w : World) (HVa : Hid (∀ x, Calls Tryz.prog 16 #[a.val] x fun e w' => e = .returned (.bool true) ∧ Below x.heap.size x w')) (HVb : Hid (∀ x, Calls Tryz.prog 16 #[b.val] x fun e w' => e = .returned (.bool false) ∧ Below x.heap.size x w')) : Calls Tryz.prog 32 #[a.val, b.val, c.val] w fun e w' => e = .returned (two (nulV, 2)) ∧ Below w.heap.size w w' := by
  go_enter Tryz.func32, Tryz.ntmps32
  go_wp2_with (first
    | (go_at_call 16; (with_reducible refine (HVa.out _).mono ?_); rintro e y ⟨rfl, hb⟩; (first | (have K' := Lib.hid (KL.below K.out hb); clear K) | (have K' : Hid (KL w y [(w.heap.size + 1 + 1 + 1, .int .i64 0, .int .i64 0, .string ⟨#[]⟩), (w.heap.size + 1 + 1, .int .i64 c.k, .int .i64 c.n, .string c.s), (w.heap.size + 1, .int .i64 b.k, .int .i64 b.n, .string b.s), (w.heap.size, .int .i64 a.k, .int .i64 a.n, .string a.s)]) := Lib.hid (KL.below (((((KL.refl w).push _ _ _ 27).push' _ (sz1 _ _) _ _ _ 27).push' _ (sz2 _ _ _) _ _ _ 27).push' _ (sz3 _ _ _ _) _ _ _ 27) hb))); clear hb; have K := K'; clear K'; obtain ⟨HB, ⟨r0, r1, r2, rf0, rf1, rf2, rl⟩, ⟨c0, c1, c2, -, -, -, cl⟩, ⟨b0, b1, b2, -, -, -, bl⟩, ⟨a0, a1, a2, -, -, -, al⟩, -⟩ := K.out)
    | (go_at_call 16; (with_reducible refine (HVb.out _).mono ?_); rintro e y ⟨rfl, hb⟩; (first | (have K' := Lib.hid (KL.below K.out hb); clear K) | (have K' : Hid (KL w y [(w.heap.size + 1 + 1 + 1, .int .i64 0, .int .i64 0, .string ⟨#[]⟩), (w.heap.size + 1 + 1, .int .i64 c.k, .int .i64 c.n, .string c.s), (w.heap.size + 1, .int .i64 b.k, .int .i64 b.n, .string b.s), (w.heap.size, .int .i64 a.k, .int .i64 a.n, .string a.s)]) := Lib.hid (KL.below (((((KL.refl w).push _ _ _ 27).push' _ (sz1 _ _) _ _ _ 27).push' _ (sz2 _ _ _) _ _ _ 27).push' _ (sz3 _ _ _ _) _ _ _ 27) hb))); clear hb; have K := K'; clear K'; obtain ⟨HB, ⟨r0, r1, r2, rf0, rf1, rf2, rl⟩, ⟨c0, c1, c2, -, -, -, cl⟩, ⟨b0, b1, b2, -, -, -, bl⟩, ⟨a0, a1, a2, -, -, -, al⟩, -⟩ := K.out))
  (try simp only [Exit.inBlock, Exit.then])
  exact ret_two rfl rfl K.out.q.1 rfl ⟨rfl, set3 HB _ (by omega) _ _ _⟩
set_option maxRecDepth 100000 in
set_option maxHeartbeats 4000000 in
theorem rw_bad3 (a b c : Va) (w : World) (HVa : Hid (∀ x, Calls Tryz.prog 16 #[a.val] x fun e w' => e = .returned (.bool true) ∧ Below x.heap.size x w')) (HVb : Hid (∀ x, Calls Tryz.prog 16 #[b.val] x fun e w' => e = .returned (.bool true) ∧ Below x.heap.size x w')) (HVc : Hid (∀ x, Calls Tryz.prog 16 #[c.val] x fun e w' => e = .returned (.bool false) ∧ Below x.heap.size x w')) : Calls Tryz.prog 32 #[a.val, b.val, c.val] w fun e w' => e = .returned (two (nulV, 2)) ∧ Below w.heap.size w w' := by
  go_enter Tryz.func32, Tryz.ntmps32
  go_wp2_with (first
    | (go_at_call 16; (with_reducible refine (HVa.out _).mono ?_); rintro e y ⟨rfl, hb⟩; (first | (have K' := Lib.hid (KL.below K.out hb); clear K) | (have K' : Hid (KL w y [(w.heap.size + 1 + 1 + 1, .int .i64 0, .int .i64 0, .string ⟨#[]⟩), (w.heap.size + 1 + 1, .int .i64 c.k, .int .i64 c.n, .string c.s), (w.heap.size + 1, .int .i64 b.k, .int .i64 b.n, .string b.s), (w.heap.size, .int .i64 a.k, .int .i64 a.n, .string a.s)]) := Lib.hid (KL.below (((((KL.refl w).push _ _ _ 27).push' _ (sz1 _ _) _ _ _ 27).push' _ (sz2 _ _ _) _ _ _ 27).push' _ (sz3 _ _ _ _) _ _ _ 27) hb))); clear hb; have K := K'; clear K'; obtain ⟨HB, ⟨r0, r1, r2, rf0, rf1, rf2, rl⟩, ⟨c0, c1, c2, -, -, -, cl⟩, ⟨b0, b1, b2, -, -, -, bl⟩, ⟨a0, a1, a2, -, -, -, al⟩, -⟩ := K.out)
    | (go_at_call 16; (with_reducible refine (HVb.out _).mono ?_); rintro e y ⟨rfl, hb⟩; (first | (have K' := Lib.hid (KL.below K.out hb); clear K) | (have K' : Hid (KL w y [(w.heap.size + 1 + 1 + 1, .int .i64 0, .int .i64 0, .string ⟨#[]⟩), (w.heap.size + 1 + 1, .int .i64 c.k, .int .i64 c.n, .string c.s), (w.heap.size + 1, .int .i64 b.k, .int .i64 b.n, .string b.s), (w.heap.size, .int .i64 a.k, .int .i64 a.n, .string a.s)]) := Lib.hid (KL.below (((((KL.refl w).push _ _ _ 27).push' _ (sz1 _ _) _ _ _ 27).push' _ (sz2 _ _ _) _ _ _ 27).push' _ (sz3 _ _ _ _) _ _ _ 27) hb))); clear hb; have K := K'; clear K'; obtain ⟨HB, ⟨r0, r1, r2, rf0, rf1, rf2, rl⟩, ⟨c0, c1, c2, -, -, -, cl⟩, ⟨b0, b1, b2, -, -, -, bl⟩, ⟨a0, a1, a2, -, -, -, al⟩, -⟩ := K.out)
    | (go_at_call 16; (with_reducible refine (HVc.out _).mono ?_); rintro e y ⟨rfl, hb⟩; (first | (have K' := Lib.hid (KL.below K.out hb); clear K) | (have K' : Hid (KL w y [(w.heap.size + 1 + 1 + 1, .int .i64 0, .int .i64 0, .string ⟨#[]⟩), (w.heap.size + 1 + 1, .int .i64 c.k, .int .i64 c.n, .string c.s), (w.heap.size + 1, .int .i64 b.k, .int .i64 b.n, .string b.s), (w.heap.size, .int .i64 a.k, .int .i64 a.n, .string a.s)]) := Lib.hid (KL.below (((((KL.refl w).push _ _ _ 27).push' _ (sz1 _ _) _ _ _ 27).push' _ (sz2 _ _ _) _ _ _ 27).push' _ (sz3 _ _ _ _) _ _ _ 27) hb))); clear hb; have K := K'; clear K'; obtain ⟨HB, ⟨r0, r1, r2, rf0, rf1, rf2, rl⟩, ⟨c0, c1, c2, -, -, -, cl⟩, ⟨b0, b1, b2, -, -, -, bl⟩, ⟨a0, a1, a2, -, -, -, al⟩, -⟩ := K.out))
  (try simp only [Exit.inBlock, Exit.then])
  exact ret_two rfl rfl K.out.q.1 rfl ⟨rfl, set3 HB _ (by omega) _ _ _⟩
set_option maxRecDepth 100000 in
set_option maxHeartbeats 4000000 in
theorem rw_e1 (a b c : Va) (w : World) (HVa : Hid (∀ x, Calls Tryz.prog 16 #[a.val] x fun e w' => e = .returned (.bool true) ∧ Below x.heap.size x w')) (HVb : Hid (∀ x, Calls Tryz.prog 16 #[b.val] x fun e w' => e = .returned (.bool true) ∧ Below x.heap.size x w')) (HVc : Hid (∀ x, Calls Tryz.prog 16 #[c.val] x fun e w' => e = .returned (.bool true) ∧ Below x.heap.size x w')) (p : Va) (ep : Int) (HX : Hid (∀ x, Calls Tryz.prog 28 #[.string sGe, a.val, b.val] x fun e w' => e = .returned (.tuple #[p.val, .int .i64 ep]) ∧ Below x.heap.size x w')) (he : (ep != 0) = true) : Calls Tryz.prog 32 #[a.val, b.val, c.val] w fun e w' => e = .returned (two (nulV, ep)) ∧ Below w.heap.size w w' := by
  go_enter Tryz.func32, Tryz.ntmps32
  go_wp2_with (first
    | (go_at_call 16; (with_reducible refine (HVa.out _).mono ?_); rintro e y ⟨rfl, hb⟩; (first | (have K' := Lib.hid (KL.below K.out hb); clear K) | (have K' : Hid (KL w y [(w.heap.size + 1 + 1 + 1, .int .i64 0, .int .i64 0, .string ⟨#[]⟩), (w.heap.size + 1 + 1, .int .i64 c.k, .int .i64 c.n, .string c.s), (w.heap.size + 1, .int .i64 b.k, .int .i64 b.n, .string b.s), (w.heap.size, .int .i64 a.k, .int .i64 a.n, .string a.s)]) := Lib.hid (KL.below (((((KL.refl w).push _ _ _ 27).push' _ (sz1 _ _) _ _ _ 27).push' _ (sz2 _ _ _) _ _ _ 27).push' _ (sz3 _ _ _ _) _ _ _ 27) hb))); clear hb; have K := K'; clear K'; obtain ⟨HB, ⟨r0, r1, r2, rf0, rf1, rf2, rl⟩, ⟨c0, c1, c2, -, -, -, cl⟩, ⟨b0, b1, b2, -, -, -, bl⟩, ⟨a0, a1, a2, -, -, -, al⟩, -⟩ := K.out)
    | (go_at_call 16; (with_reducible refine (HVb.out _).mono ?_); rintro e y ⟨rfl, hb⟩; (first | (have K' := Lib.hid (KL.below K.out hb); clear K) | (have K' : Hid (KL w y [(w.heap.size + 1 + 1 + 1, .int .i64 0, .int .i64 0, .string ⟨#[]⟩), (w.heap.size + 1 + 1, .int .i64 c.k, .int .i64 c.n, .string c.s), (w.heap.size + 1, .int .i64 b.k, .int .i64 b.n, .string b.s), (w.heap.size, .int .i64 a.k, .int .i64 a.n, .string a.s)]) := Lib.hid (KL.below (((((KL.refl w).push _ _ _ 27).push' _ (sz1 _ _) _ _ _ 27).push' _ (sz2 _ _ _) _ _ _ 27).push' _ (sz3 _ _ _ _) _ _ _ 27) hb))); clear hb; have K := K'; clear K'; obtain ⟨HB, ⟨r0, r1, r2, rf0, rf1, rf2, rl⟩, ⟨c0, c1, c2, -, -, -, cl⟩, ⟨b0, b1, b2, -, -, -, bl⟩, ⟨a0, a1, a2, -, -, -, al⟩, -⟩ := K.out)
    | (go_at_call 16; (with_reducible refine (HVc.out _).mono ?_); rintro e y ⟨rfl, hb⟩; (first | (have K' := Lib.hid (KL.below K.out hb); clear K) | (have K' : Hid (KL w y [(w.heap.size + 1 + 1 + 1, .int .i64 0, .int .i64 0, .string ⟨#[]⟩), (w.heap.size + 1 + 1, .int .i64 c.k, .int .i64 c.n, .string c.s), (w.heap.size + 1, .int .i64 b.k, .int .i64 b.n, .string b.s), (w.heap.size, .int .i64 a.k, .int .i64 a.n, .string a.s)]) := Lib.hid (KL.below (((((KL.refl w).push _ _ _ 27).push' _ (sz1 _ _) _ _ _ 27).push' _ (sz2 _ _ _) _ _ _ 27).push' _ (sz3 _ _ _ _) _ _ _ 27) hb))); clear hb; have K := K'; clear K'; obtain ⟨HB, ⟨r0, r1, r2, rf0, rf1, rf2, rl⟩, ⟨c0, c1, c2, -, -, -, cl⟩, ⟨b0, b1, b2, -, -, -, bl⟩, ⟨a0, a1, a2, -, -, -, al⟩, -⟩ := K.out)
    | (go_at_call 28; (with_reducible refine (HX.out _).mono ?_); rintro e y ⟨rfl, hb⟩; have K' := Lib.hid (KL.below K.out hb); clear hb K; have K := K'; clear K'; obtain ⟨HB, ⟨r0, r1, r2, rf0, rf1, rf2, rl⟩, ⟨c0, c1, c2, -, -, -, cl⟩, ⟨b0, b1, b2, -, -, -, bl⟩, ⟨a0, a1, a2, -, -, -, al⟩, -⟩ := K.out))
  (try simp only [Exit.inBlock, Exit.then])
  have hS := set3 HB (w.heap.size + 1 + 1 + 1) (by omega) (.int .i64 0) (.int .i64 0) (.string ⟨#[]⟩)
  exact ret_two_at rfl rfl ((K.out.q.1.set3 _ _ _).alloc _) rfl ⟨rfl, hS.alloc hS.size _⟩
set_option maxRecDepth 100000 in
set_option maxHeartbeats 4000000 in
theorem rw_e2 (a b c : Va) (w : World) (HVa : Hid (∀ x, Calls Tryz.prog 16 #[a.val] x fun e w' => e = .returned (.bool true) ∧ Below x.heap.size x w')) (HVb : Hid (∀ x, Calls Tryz.prog 16 #[b.val] x fun e w' => e = .returned (.bool true) ∧ Below x.heap.size x w')) (HVc : Hid (∀ x, Calls Tryz.prog 16 #[c.val] x fun e w' => e = .returned (.bool true) ∧ Below x.heap.size x w')) (p : Va) (ep : Int) (HX : Hid (∀ x, Calls Tryz.prog 28 #[.string sGe, a.val, b.val] x fun e w' => e = .returned (.tuple #[p.val, .int .i64 ep]) ∧ Below x.heap.size x w')) (q : Va) (eq : Int) (HY : Hid (∀ x, Calls Tryz.prog 28 #[.string sLe, a.val, c.val] x fun e w' => e = .returned (.tuple #[q.val, .int .i64 eq]) ∧ Below x.heap.size x w')) (he : (ep != 0) = false) (hf : (eq != 0) = true) : Calls Tryz.prog 32 #[a.val, b.val, c.val] w fun e w' => e = .returned (two (nulV, eq)) ∧ Below w.heap.size w w' := by
  go_enter Tryz.func32, Tryz.ntmps32
  go_wp2_with (first
    | (go_at_call 16; (with_reducible refine (HVa.out _).mono ?_); rintro e y ⟨rfl, hb⟩; (first | (have K' := Lib.hid (KL.below K.out hb); clear K) | (have K' : Hid (KL w y [(w.heap.size + 1 + 1 + 1, .int .i64 0, .int .i64 0, .string ⟨#[]⟩), (w.heap.size + 1 + 1, .int .i64 c.k, .int .i64 c.n, .string c.s), (w.heap.size + 1, .int .i64 b.k, .int .i64 b.n, .string b.s), (w.heap.size, .int .i64 a.k, .int .i64 a.n, .string a.s)]) := Lib.hid (KL.below (((((KL.refl w).push _ _ _ 27).push' _ (sz1 _ _) _ _ _ 27).push' _ (sz2 _ _ _) _ _ _ 27).push' _ (sz3 _ _ _ _) _ _ _ 27) hb))); clear hb; have K := K'; clear K'; obtain ⟨HB, ⟨r0, r1, r2, rf0, rf1, rf2, rl⟩, ⟨c0, c1, c2, -, -, -, cl⟩, ⟨b0, b1, b2, -, -, -, bl⟩, ⟨a0, a1, a2, -, -, -, al⟩, -⟩ := K.out)
    | (go_at_call 16; (with_reducible refine (HVb.out _).mono ?_); rintro e y ⟨rfl, hb⟩; (first | (have K' := Lib.hid (KL.below K.out hb); clear K) | (have K' : Hid (KL w y [(w.heap.size + 1 + 1 + 1, .int .i64 0, .int .i64 0, .string ⟨#[]⟩), (w.heap.size + 1 + 1, .int .i64 c.k, .int .i64 c.n, .string c.s), (w.heap.size + 1, .int .i64 b.k, .int .i64 b.n, .string b.s), (w.heap.size, .int .i64 a.k, .int .i64 a.n, .string a.s)]) := Lib.hid (KL.below (((((KL.refl w).push _ _ _ 27).push' _ (sz1 _ _) _ _ _ 27).push' _ (sz2 _ _ _) _ _ _ 27).push' _ (sz3 _ _ _ _) _ _ _ 27) hb))); clear hb; have K := K'; clear K'; obtain ⟨HB, ⟨r0, r1, r2, rf0, rf1, rf2, rl⟩, ⟨c0, c1, c2, -, -, -, cl⟩, ⟨b0, b1, b2, -, -, -, bl⟩, ⟨a0, a1, a2, -, -, -, al⟩, -⟩ := K.out)
    | (go_at_call 16; (with_reducible refine (HVc.out _).mono ?_); rintro e y ⟨rfl, hb⟩; (first | (have K' := Lib.hid (KL.below K.out hb); clear K) | (have K' : Hid (KL w y [(w.heap.size + 1 + 1 + 1, .int .i64 0, .int .i64 0, .string ⟨#[]⟩), (w.heap.size + 1 + 1, .int .i64 c.k, .int .i64 c.n, .string c.s), (w.heap.size + 1, .int .i64 b.k, .int .i64 b.n, .string b.s), (w.heap.size, .int .i64 a.k, .int .i64 a.n, .string a.s)]) := Lib.hid (KL.below (((((KL.refl w).push _ _ _ 27).push' _ (sz1 _ _) _ _ _ 27).push' _ (sz2 _ _ _) _ _ _ 27).push' _ (sz3 _ _ _ _) _ _ _ 27) hb))); clear hb; have K := K'; clear K'; obtain ⟨HB, ⟨r0, r1, r2, rf0, rf1, rf2, rl⟩, ⟨c0, c1, c2, -, -, -, cl⟩, ⟨b0, b1, b2, -, -, -, bl⟩, ⟨a0, a1, a2, -, -, -, al⟩, -⟩ := K.out)
    | (go_at_call 28; (with_reducible refine (HX.out _).mono ?_); rintro e y ⟨rfl, hb⟩; have K' := Lib.hid (KL.below K.out hb); clear hb K; have K := K'; clear K'; obtain ⟨HB, ⟨r0, r1, r2, rf0, rf1, rf2, rl⟩, ⟨c0, c1, c2, -, -, -, cl⟩, ⟨b0, b1, b2, -, -, -, bl⟩, ⟨a0, a1, a2, -, -, -, al⟩, -⟩ := K.out)
    | (go_at_call 28; (with_reducible refine (HY.out _).mono ?_); rintro e y ⟨rfl, hb⟩; have K' := Lib.hid (KL.below (KL.push K.out _ _ _ 27) hb); clear hb K; have K := K'; clear K'; obtain ⟨HB, ⟨x0, x1, x2, -, -, -, xl⟩, ⟨r0, r1, r2, rf0, rf1, rf2, rl⟩, ⟨c0, c1, c2, -, -, -, cl⟩, ⟨b0, b1, b2, -, -, -, bl⟩, ⟨a0, a1, a2, -, -, -, al⟩, -⟩ := K.out))
  (try simp only [Exit.inBlock, Exit.then])
  have hS := set3 HB (w.heap.size + 1 + 1 + 1) (by omega) (.int .i64 0) (.int .i64 0) (.string ⟨#[]⟩)
  exact ret_two_at rfl rfl ((K.out.q.2.1.set3 _ _ _).alloc _) rfl ⟨rfl, hS.alloc hS.size _⟩
set_option maxRecDepth 100000 in
set_option maxHeartbeats 4000000 in
theorem rw_ok (a b c : Va) (w : World) (HVa : Hid (∀ x, Calls Tryz.prog 16 #[a.val] x fun e w' => e = .returned (.bool true) ∧ Below x.heap.size x w')) (HVb : Hid (∀ x, Calls Tryz.prog 16 #[b.val] x fun e w' => e = .returned (.bool true) ∧ Below x.heap.size x w')) (HVc : Hid (∀ x, Calls Tryz.prog 16 #[c.val] x fun e w' => e = .returned (.bool true) ∧ Below x.heap.size x w')) (p : Va) (ep : Int) (HX : Hid (∀ x, Calls Tryz.prog 28 #[.string sGe, a.val, b.val] x fun e w' => e = .returned (.tuple #[p.val, .int .i64 ep]) ∧ Below x.heap.size x w')) (q : Va) (eq : Int) (HY : Hid (∀ x, Calls Tryz.prog 28 #[.string sLe, a.val, c.val] x fun e w' => e = .returned (.tuple #[q.val, .int .i64 eq]) ∧ Below x.heap.size x w')) (t : Va) (HZ : Hid (∀ x, Calls Tryz.prog 70 #[.string sAnd, p.val, q.val] x fun e w' => e = .returned (V t.k t.n t.s) ∧ Below x.heap.size x w')) (he : (ep != 0) = false) (hf : (eq != 0) = false) : Calls Tryz.prog 32 #[a.val, b.val, c.val] w fun e w' => e = .returned (two (t, 0)) ∧ Below w.heap.size w w' := by
  go_enter Tryz.func32, Tryz.ntmps32
  go_wp2_with (first
    | (go_at_call 16; (with_reducible refine (HVa.out _).mono ?_); rintro e y ⟨rfl, hb⟩; (first | (have K' := Lib.hid (KL.below K.out hb); clear K) | (have K' : Hid (KL w y [(w.heap.size + 1 + 1 + 1, .int .i64 0, .int .i64 0, .string ⟨#[]⟩), (w.heap.size + 1 + 1, .int .i64 c.k, .int .i64 c.n, .string c.s), (w.heap.size + 1, .int .i64 b.k, .int .i64 b.n, .string b.s), (w.heap.size, .int .i64 a.k, .int .i64 a.n, .string a.s)]) := Lib.hid (KL.below (((((KL.refl w).push _ _ _ 27).push' _ (sz1 _ _) _ _ _ 27).push' _ (sz2 _ _ _) _ _ _ 27).push' _ (sz3 _ _ _ _) _ _ _ 27) hb))); clear hb; have K := K'; clear K'; obtain ⟨HB, ⟨r0, r1, r2, rf0, rf1, rf2, rl⟩, ⟨c0, c1, c2, -, -, -, cl⟩, ⟨b0, b1, b2, -, -, -, bl⟩, ⟨a0, a1, a2, -, -, -, al⟩, -⟩ := K.out)
    | (go_at_call 16; (with_reducible refine (HVb.out _).mono ?_); rintro e y ⟨rfl, hb⟩; (first | (have K' := Lib.hid (KL.below K.out hb); clear K) | (have K' : Hid (KL w y [(w.heap.size + 1 + 1 + 1, .int .i64 0, .int .i64 0, .string ⟨#[]⟩), (w.heap.size + 1 + 1, .int .i64 c.k, .int .i64 c.n, .string c.s), (w.heap.size + 1, .int .i64 b.k, .int .i64 b.n, .string b.s), (w.heap.size, .int .i64 a.k, .int .i64 a.n, .string a.s)]) := Lib.hid (KL.below (((((KL.refl w).push _ _ _ 27).push' _ (sz1 _ _) _ _ _ 27).push' _ (sz2 _ _ _) _ _ _ 27).push' _ (sz3 _ _ _ _) _ _ _ 27) hb))); clear hb; have K := K'; clear K'; obtain ⟨HB, ⟨r0, r1, r2, rf0, rf1, rf2, rl⟩, ⟨c0, c1, c2, -, -, -, cl⟩, ⟨b0, b1, b2, -, -, -, bl⟩, ⟨a0, a1, a2, -, -, -, al⟩, -⟩ := K.out)
    | (go_at_call 16; (with_reducible refine (HVc.out _).mono ?_); rintro e y ⟨rfl, hb⟩; (first | (have K' := Lib.hid (KL.below K.out hb); clear K) | (have K' : Hid (KL w y [(w.heap.size + 1 + 1 + 1, .int .i64 0, .int .i64 0, .string ⟨#[]⟩), (w.heap.size + 1 + 1, .int .i64 c.k, .int .i64 c.n, .string c.s), (w.heap.size + 1, .int .i64 b.k, .int .i64 b.n, .string b.s), (w.heap.size, .int .i64 a.k, .int .i64 a.n, .string a.s)]) := Lib.hid (KL.below (((((KL.refl w).push _ _ _ 27).push' _ (sz1 _ _) _ _ _ 27).push' _ (sz2 _ _ _) _ _ _ 27).push' _ (sz3 _ _ _ _) _ _ _ 27) hb))); clear hb; have K := K'; clear K'; obtain ⟨HB, ⟨r0, r1, r2, rf0, rf1, rf2, rl⟩, ⟨c0, c1, c2, -, -, -, cl⟩, ⟨b0, b1, b2, -, -, -, bl⟩, ⟨a0, a1, a2, -, -, -, al⟩, -⟩ := K.out)
    | (go_at_call 28; (with_reducible refine (HX.out _).mono ?_); rintro e y ⟨rfl, hb⟩; have K' := Lib.hid (KL.below K.out hb); clear hb K; have K := K'; clear K'; obtain ⟨HB, ⟨r0, r1, r2, rf0, rf1, rf2, rl⟩, ⟨c0, c1, c2, -, -, -, cl⟩, ⟨b0, b1, b2, -, -, -, bl⟩, ⟨a0, a1, a2, -, -, -, al⟩, -⟩ := K.out)
    | (go_at_call 28; (with_reducible refine (HY.out _).mono ?_); rintro e y ⟨rfl, hb⟩; have K' := Lib.hid (KL.below (KL.push K.out _ _ _ 27) hb); clear hb K; have K := K'; clear K'; obtain ⟨HB, ⟨x0, x1, x2, -, -, -, xl⟩, ⟨r0, r1, r2, rf0, rf1, rf2, rl⟩, ⟨c0, c1, c2, -, -, -, cl⟩, ⟨b0, b1, b2, -, -, -, bl⟩, ⟨a0, a1, a2, -, -, -, al⟩, -⟩ := K.out)
    | (go_at_call 70; (with_reducible refine (HZ.out _).mono ?_); rintro e y ⟨rfl, hb⟩; have K' := Lib.hid (KL.below (KL.push K.out _ _ _ 27) hb); clear hb K; have K := K'; clear K'; obtain ⟨HB, ⟨z0, z1, z2, -, -, -, zl⟩, ⟨x0, x1, x2, -, -, -, xl⟩, ⟨r0, r1, r2, rf0, rf1, rf2, rl⟩, ⟨c0, c1, c2, -, -, -, cl⟩, ⟨b0, b1, b2, -, -, -, bl⟩, ⟨a0, a1, a2, -, -, -, al⟩, -⟩ := K.out))
  (try simp only [Exit.inBlock, Exit.then])
  exact ret_two rfl rfl K.out.q.2.2.1 rfl ⟨rfl, set3 HB _ (by omega) _ _ _⟩
theorem refBetween_ (a b c : Va) (hma : a.s.size ≤ maxLen) (hmb : b.s.size ≤ maxLen) (hmc : c.s.size ≤ maxLen) (w : World) : Calls Tryz.prog 32 #[a.val, b.val, c.val] w fun e w' => e = .returned (two (betS a b c)) ∧ Below w.heap.size w w' := by
  have kg : opK sGe = 0 := by decide
  have kl : opK sLe = 0 := by decide
  cases ha : a.ok
  · rw [show betS a b c = (nulV, 2) from by unfold betS; rw [if_pos (by simp [allOk, ha])]]
    exact rw_bad1 a b c w (Lib.hid fun x => refValid_at ha hma x)
  cases hb : b.ok
  · rw [show betS a b c = (nulV, 2) from by unfold betS; rw [if_pos (by simp [allOk, hb])]]
    exact rw_bad2 a b c w (Lib.hid fun x => refValid_at ha hma x) (Lib.hid fun x => refValid_at hb hmb x)
  cases hc : c.ok
  · rw [show betS a b c = (nulV, 2) from by unfold betS; rw [if_pos (by simp [allOk, hc])]]
    exact rw_bad3 a b c w (Lib.hid fun x => refValid_at ha hma x) (Lib.hid fun x => refValid_at hb hmb x) (Lib.hid fun x => refValid_at hc hmc x)
  have v1 := Lib.hid fun x => refValid_at ha hma x
  have v2 := Lib.hid fun x => refValid_at hb hmb x
  have v3 := Lib.hid fun x => refValid_at hc hmc x
  have c1 := Lib.hid fun x => refBinary_ sGe a b hma hmb x
  have c2 := Lib.hid fun x => refBinary_ sLe a c hma hmc x
  have e0 : betS a b c = if ((binS sGe a b).2 != 0) = true then (nulV, (binS sGe a b).2) else
      if ((binS sLe a c).2 != 0) = true then (nulV, (binS sLe a c).2) else binS sAnd (binS sGe a b).1 (binS sLe a c).1 := by
    unfold betS; rw [if_neg (by simp [allOk, ha, hb, hc])]
  rw [e0]
  cases h1 : (binS sGe a b).2 != 0
  · cases h2 : (binS sLe a c).2 != 0
    · rw [if_neg (by simp), if_neg (by simp), and_tru _ _ (cmp_res kg a b) (cmp_res kl a c)]
      exact rw_ok a b c w v1 v2 v3 _ _ c1 _ _ c2 _ (Lib.hid fun x => truths_ sAnd _ _ x) h1 h2
    · rw [if_neg (by simp), if_pos rfl]
      exact rw_e2 a b c w v1 v2 v3 _ _ c1 _ _ c2 h1 h2
  · rw [if_pos rfl]
    exact rw_e1 a b c w v1 v2 v3 _ _ c1 h1
end
end Go.Proofs.YtplepijiceanlaaGreatDoor
namespace Go.Proofs.YtplepijiceanlaaGreatDoor
section
open Go.RowKit

theorem opEq : OpOf sEq 0 false false false false true := opOf [61] _ _ _ _ _ _ (by decide) (by decide) (by decide) (by decide)
/-- One value more of In: what the equality is, and what becomes of the answer so far. -/
theorem eq_step (a v : Va) (ha : a.ok = true) (hv : v.ok = true) : binS sEq a v = if oneK 0 [a, v] = false then (nulV, 16) else if hasNull [a, v] = true then (nulV, 0) else (booV (cmpV a.k a.n a.s v.n v.s == 0), 0) := by
  cases h1 : oneK 0 [a, v]
  · have h2 : oneK (opT (opK sEq)) [a, v] = false := by rw [opEq.K]; exact h1
    rw [if_pos rfl]
    unfold binS
    rw [if_neg (by rw [opEq.K]; omega), if_neg (by simp [allOk, ha, hv]), if_pos h2]
  · rw [bin_go2 opEq.K (by omega) a v ha hv h1]
    cases h2 : hasNull [a, v]
    · have e : (sgn sEq).1 = false ∧ (sgn sEq).2.1 = true ∧ (sgn sEq).2.2 = false := by decide
      simp only [Bool.false_eq_true, if_false, Bool.true_eq_false]
      show cmpS (sgn sEq).1 (sgn sEq).2.1 (sgn sEq).2.2 a v = _
      rw [e.1, e.2.1, e.2.2]
      unfold cmpS
      cases q : cmpV a.k a.n a.s v.n v.s == 0
      · simp
      · have q2 : cmpV a.k a.n a.s v.n v.s = 0 := by simpa using q
        simp [q2]
    · rfl
theorem or_tt (f : Va) (hf : f = booV false ∨ f = nulV) : truS sOr f (booV true) = booV true := by rcases hf with rfl | rfl <;> (unfold truS; rw [opOr.or_]; simp [booV, nulV, eqV])
theorem or_nn (f : Va) (hf : f = booV false ∨ f = nulV) : truS sOr f nulV = nulV := by rcases hf with rfl | rfl <;> (unfold truS; rw [opOr.or_]; simp [booV, nulV, eqV])
theorem or_ff (f : Va) (hf : f = booV false ∨ f = nulV) : truS sOr f (booV false) = f := by rcases hf with rfl | rfl <;> (unfold truS; rw [opOr.or_, opOr.an]; simp [booV, nulV, eqV])
theorem notT (f : Va) (hf : f = booV false ∨ f = nulV) : eqV f.k f.n f.s 3 1 ⟨#[]⟩ = false := by rcases hf with rfl | rfl <;> simp [booV, nulV, eqV]
theorem in_step (a v f p t : Va) (ep : Int) (r : List Va) (ha : a.ok = true) (hv : v.ok = true) (hf : f = booV false ∨ f = nulV) (hp : binS sEq a v = (p, ep)) (ht : truS sOr f p = t) :
    ((ep != 0) = true → (if oneK 0 [a, v] = false then (nulV, 16) else if hasNull [a, v] = true then inL a nulV r else if (cmpV a.k a.n a.s v.n v.s == 0) = true then (booV true, 0) else inL a f r) = (nulV, ep)) ∧
    ((ep != 0) = false → eqV t.k t.n t.s 3 1 ⟨#[]⟩ = true → (if oneK 0 [a, v] = false then (nulV, 16) else if hasNull [a, v] = true then inL a nulV r else if (cmpV a.k a.n a.s v.n v.s == 0) = true then (booV true, 0) else inL a f r) = (t, 0)) ∧
    ((ep != 0) = false → eqV t.k t.n t.s 3 1 ⟨#[]⟩ = false → (t = booV false ∨ t = nulV) ∧ (if oneK 0 [a, v] = false then (nulV, 16) else if hasNull [a, v] = true then inL a nulV r else if (cmpV a.k a.n a.s v.n v.s == 0) = true then (booV true, 0) else inL a f r) = inL a t r) := by
  rw [eq_step a v ha hv] at hp
  cases h1 : oneK 0 [a, v]
  · rw [h1, if_pos rfl] at hp
    cases hp
    exact ⟨fun _ => rfl, fun q => (by cases q), fun q => (by cases q)⟩
  · rw [h1, if_neg (by simp)] at hp
    cases h2 : hasNull [a, v]
    · rw [h2, if_neg (by simp)] at hp
      cases hq : cmpV a.k a.n a.s v.n v.s == 0
      · rw [hq] at hp
        cases hp
        rw [or_ff f hf] at ht
        subst ht
        exact ⟨fun q => (by cases q), fun _ q => (by rw [notT f hf] at q; cases q), fun _ _ => ⟨hf, rfl⟩⟩
      · rw [hq] at hp
        cases hp
        rw [or_tt f hf] at ht
        subst ht
        exact ⟨fun q => (by cases q), fun _ _ => rfl, fun _ q => (by simp [booV, eqV] at q)⟩
    · rw [h2, if_pos rfl] at hp
      cases hp
      rw [or_nn f hf] at ht
      subst ht
      exact ⟨fun q => (by cases q), fun _ q => (by simp [nulV, eqV] at q), fun _ _ => ⟨.inr rfl, rfl⟩⟩
theorem tru_at {op : ByteArray} {a b t : Va} (h : truS op a b = t) (w : World) : Calls Tryz.prog 70 #[.string op, a.val, b.val] w fun e w' => e = .returned t.val ∧ Below w.heap.size w w' := by
  have := truths_ op a b w
  rw [h] at this
  exact this
theorem refBin_at {op : ByteArray} {a b u : Va} {e : Int} (h : binS op a b = (u, e)) (hma : a.s.size ≤ maxLen) (hmb : b.s.size ≤ maxLen) (w : World) : Calls Tryz.prog 28 #[.string op, a.val, b.val] w fun r w' => r = .returned (.tuple #[u.val, .int .i64 e]) ∧ Below w.heap.size w w' := by
  have := refBinary_ op a b hma hmb w
  rw [h] at this
  exact this
set_option maxRecDepth 100000 in
set_option maxHeartbeats 4000000 in
theorem refIn_ (a : Va) (A : Option Addr) (c : Nat) (l : List Va) (w : World) (hl : l.length ≤ maxLen) (hm : ∀ v ∈ l, v.s.size ≤ maxLen) (hma : a.s.size ≤ maxLen) (h : Sl w A l) :
    Calls Tryz.prog 30 #[a.val, .slice A l.length c] w fun e w' => e = .returned (two (inS a l)) ∧ Below w.heap.size w w' := by
  have hl' : l.length ≤ 9223372036854775807 := hl
  have HAll0 := fun x (hx : Below w.heap.size w x) => ref_all A c l x hl hm (h.below hx)
  cases h1 : a.ok
  · have H : Hid (inS a l = (nulV, 2)) := Lib.hid (by unfold inS; rw [if_pos h1])
    have HVa := Lib.hid fun x => refValid_at h1 hma x
    clear HAll0
    go_enter Tryz.func30, Tryz.ntmps30
    go_wp2_with (first
      | (go_at_call 16; (with_reducible refine (HVa.out _).mono ?_); rintro e y ⟨rfl, hb⟩; have K : Hid (KL w y [(w.heap.size + 1, .int .i64 0, .int .i64 0, .string ⟨#[]⟩), (w.heap.size, .int .i64 a.k, .int .i64 a.n, .string a.s)]) := Lib.hid (KL.below (((KL.refl w).push _ _ _ 27).push' _ (sz1 _ _) _ _ _ 27) hb); clear hb; obtain ⟨HB, ⟨r0, r1, r2, rf0, rf1, rf2, rl⟩, ⟨a0, a1, a2, -, -, -, al⟩, -⟩ := K.out))
    (try simp only [Exit.inBlock, Exit.then])
    exact ret_two rfl rfl K.out.q.1 rfl ⟨by rw [H.out]; rfl, _root_.Go.Proofs.YtplepijiceanlaaGreatDoor.set3 HB _ (by omega) _ _ _⟩
  have HVa := Lib.hid fun x => refValid_at h1 hma x
  cases h2 : allOk l
  · have H : Hid (inS a l = (nulV, 2)) := Lib.hid (by unfold inS; rw [if_neg (by simp [h1]), if_pos h2])
    rw [h2] at HAll0
    have HAll := Lib.hid HAll0
    clear HAll0
    go_enter Tryz.func30, Tryz.ntmps30
    go_wp2_with (first
      | (go_at_call 16; (with_reducible refine (HVa.out _).mono ?_); rintro e y ⟨rfl, hb⟩; have K : Hid (KL w y [(w.heap.size + 1, .int .i64 0, .int .i64 0, .string ⟨#[]⟩), (w.heap.size, .int .i64 a.k, .int .i64 a.n, .string a.s)]) := Lib.hid (KL.below (((KL.refl w).push _ _ _ 27).push' _ (sz1 _ _) _ _ _ 27) hb); clear hb; obtain ⟨HB, ⟨r0, r1, r2, rf0, rf1, rf2, rl⟩, ⟨a0, a1, a2, -, -, -, al⟩, -⟩ := K.out)
      | (go_at_call 51; (with_reducible refine (HAll.out _ HB).mono ?_); rintro e y ⟨rfl, hb⟩; have K' := Lib.hid (KL.below K.out hb); clear hb K; have K := K'; clear K'; obtain ⟨HB, ⟨r0, r1, r2, rf0, rf1, rf2, rl⟩, ⟨a0, a1, a2, -, -, -, al⟩, -⟩ := K.out))
    (try simp only [Exit.inBlock, Exit.then])
    exact ret_two rfl rfl K.out.q.1 rfl ⟨by rw [H.out]; rfl, _root_.Go.Proofs.YtplepijiceanlaaGreatDoor.set3 HB _ (by omega) _ _ _⟩
  have H : Hid (inS a l = inL a (booV false) l) := Lib.hid (by unfold inS; rw [if_neg (by simp [h1]), if_neg (by simp [h2])])
  rw [h2] at HAll0
  have HAll := Lib.hid HAll0
  have HL := Lib.hid hl
  have HM := Lib.hid hm
  have SL := Lib.hid h
  have OKA := Lib.hid h1
  have OKL := Lib.hid h2
  clear HAll0 hm h h1 h2 hl
  go_enter Tryz.func30, Tryz.ntmps30
  go_wp2_with (first
    | (go_at_call 16; (with_reducible refine (HVa.out _).mono ?_); rintro e y ⟨rfl, hb⟩; have K : Hid (KL w y [(w.heap.size + 1, .int .i64 0, .int .i64 0, .string ⟨#[]⟩), (w.heap.size, .int .i64 a.k, .int .i64 a.n, .string a.s)]) := Lib.hid (KL.below (((KL.refl w).push _ _ _ 27).push' _ (sz1 _ _) _ _ _ 27) hb); clear hb; obtain ⟨HB, ⟨r0, r1, r2, rf0, rf1, rf2, rl⟩, ⟨a0, a1, a2, -, -, -, al⟩, -⟩ := K.out)
    | (go_at_call 51; (with_reducible refine (HAll.out _ HB).mono ?_); rintro e y ⟨rfl, hb⟩; have K' := Lib.hid (KL.below K.out hb); clear hb K; have K := K'; clear K'; obtain ⟨HB, ⟨r0, r1, r2, rf0, rf1, rf2, rl⟩, ⟨a0, a1, a2, -, -, -, al⟩, -⟩ := K.out)
    | (go_at_call 55; (with_reducible refine (ref_bool _ _).mono ?_); rintro e y ⟨rfl, hb⟩; have hfb : w.heap.size + 1 < y.heap.size := (KL.below K.out hb).q.1.lt; have K' : Hid (KL w (y.alloc (.cells #[.int .i64 3, .int .i64 0, .string ⟨#[]⟩] 27)) ((y.heap.size, .int .i64 3, .int .i64 0, .string ⟨#[]⟩) :: [(w.heap.size + 1, .int .i64 0, .int .i64 0, .string ⟨#[]⟩), (w.heap.size, .int .i64 a.k, .int .i64 a.n, .string a.s)])) := Lib.hid (KL.push (KL.below K.out hb) _ _ _ 27); clear hb K; have K := K'; clear K'; obtain ⟨HB, ⟨f0, f1, f2, e0, e1, e2, fl⟩, ⟨r0, r1, r2, rf0, rf1, rf2, rl⟩, ⟨a0, a1, a2, -, -, -, al⟩, -⟩ := K.out))
  generalize hB0 : y.heap.size = ob at *
  go_loopw [23] (fun i x => ∃ (j : Nat) (f : Va), j ≤ l.length ∧ i = .int .i64 j ∧ (f = booV false ∨ f = nulV) ∧ inL a (booV false) l = inL a f (l.drop j) ∧ KL w x [(ob, .int .i64 f.k, .int .i64 f.n, .string f.s), (w.heap.size + 1, .int .i64 0, .int .i64 0, .string ⟨#[]⟩), (w.heap.size, .int .i64 a.k, .int .i64 a.n, .string a.s)]) (fun i x => l.length - (intOf i).toNat)
  case atStart => exact ⟨0, booV false, Nat.zero_le _, rfl, .inl rfl, by simp, K.out⟩
  case round =>
    clear K HB f0 f1 f2 e0 e1 e2 fl r0 r1 r2 rf0 rf1 rf2 rl a0 a1 a2 al HAll HVa
    obtain ⟨j, f, hj, rfl, hf, hI, hK⟩ := hrel
    have HI := Lib.hid hI
    have HF := Lib.hid hf
    have K := Lib.hid hK
    clear hI hK hf
    by_cases hlt : j < l.length
    · have HD0 := inL_drop a f l j hlt
      obtain ⟨b, off, rfl, hb, c0, c1, c2⟩ := (SL.out.below K.out.HB) j _ (List.getElem?_eq_getElem hlt)
      have hmv : l[j].s.size ≤ maxLen := HM.out _ (List.getElem_mem hlt)
      have hov : l[j].ok = true := List.all_eq_true.1 OKL.out _ (List.getElem_mem hlt)
      clear SL HM OKL
      generalize l[j] = v at *
      obtain ⟨⟨p, ep⟩, hp⟩ : ∃ q, binS sEq a v = q := ⟨_, rfl⟩
      obtain ⟨t, ht⟩ : ∃ t, truS sOr f p = t := ⟨_, rfl⟩
      obtain ⟨s1, s2, s3⟩ := in_step a v f p t ep (l.drop (j + 1)) OKA.out hov HF.out hp ht
      rw [← HD0, ← HI.out] at s1 s2 s3
      have HX := Lib.hid fun x => refBin_at hp hma hmv x
      have HT := Lib.hid fun x => tru_at ht x
      clear HD0 hp ht hov hmv HI HF OKA
      obtain ⟨HB, ⟨f0, f1, f2, e0, e1, e2, fl⟩, ⟨r0, r1, r2, rf0, rf1, rf2, rl⟩, ⟨a0, a1, a2, -, -, -, al⟩, -⟩ := K.out
      cases he : ep != 0
      · cases hq : eqV t.k t.n t.s 3 1 ⟨#[]⟩
        · obtain ⟨g1, g2⟩ := s3 he hq
          have G1 := Lib.hid g1
          have G2 := Lib.hid g2
          clear s1 s2 s3 g1 g2
          go_wp2_with (first
            | (go_at_call 28; (with_reducible refine (HX.out _).mono ?_); rintro e y2 ⟨rfl, hb⟩; have K' := Lib.hid (KL.below (KL.push K.out (.int .i64 v.k) (.int .i64 v.n) (.string v.s) 27) hb); clear hb K HB f0 f1 f2 e0 e1 e2 fl r0 r1 r2 rf0 rf1 rf2 rl a0 a1 a2 al; have K := K'; clear K'; obtain ⟨HB, ⟨v0, v1, v2, -, -, -, vl⟩, ⟨f0, f1, f2, e0, e1, e2, fl⟩, ⟨r0, r1, r2, rf0, rf1, rf2, rl⟩, ⟨a0, a1, a2, -, -, -, al⟩, -⟩ := K.out)
            | (go_at_call 70; (with_reducible refine (HT.out _).mono ?_); rintro e y3 ⟨rfl, hb⟩; have K' := Lib.hid (KL.below (KL.push K.out (.int .i64 p.k) (.int .i64 p.n) (.string p.s) 27) hb); clear hb K HB v0 v1 v2 vl f0 f1 f2 e0 e1 e2 fl r0 r1 r2 rf0 rf1 rf2 rl a0 a1 a2 al; have K := K'; clear K'; obtain ⟨HB, ⟨i0, i1, i2, -, -, -, il⟩, ⟨v0, v1, v2, -, -, -, vl⟩, ⟨f0, f1, f2, e0, e1, e2, fl⟩, ⟨r0, r1, r2, rf0, rf1, rf2, rl⟩, ⟨a0, a1, a2, -, -, -, al⟩, -⟩ := K.out))
          have K2 : Hid (KL w _ [(ob, .int .i64 t.k, .int .i64 t.n, .string t.s), (w.heap.size + 1, .int .i64 0, .int .i64 0, .string ⟨#[]⟩), (w.heap.size, .int .i64 a.k, .int .i64 a.n, .string a.s)]) := Lib.hid (KL.set K.out.tail.tail (by omega) (by simp; omega) (.int .i64 t.k) (.int .i64 t.n) (.string t.s))
          clear K HB i0 i1 i2 il v0 v1 v2 vl f0 f1 f2 e0 e1 e2 fl r0 r1 r2 rf0 rf1 rf2 rl a0 a1 a2 al
          generalize (((y3.setCell ⟨ob, 0, none⟩ (.int .i64 t.k)).setCell ⟨ob, 1, none⟩ (.int .i64 t.n)).setCell ⟨ob, 2, none⟩ (.string t.s)) = z1 at *
          go_region_held3 (fun z => (z.cell? ⟨ob, 0, none⟩ = some (.int .i64 t.k) ∧ z.cell? ⟨ob, 1, none⟩ = some (.int .i64 t.n) ∧ z.cell? ⟨ob, 2, none⟩ = some (.string t.s)) ∧ KL w z [(ob, .int .i64 t.k, .int .i64 t.n, .string t.s), (w.heap.size + 1, .int .i64 0, .int .i64 0, .string ⟨#[]⟩), (w.heap.size, .int .i64 a.k, .int .i64 a.n, .string a.s)])
            (first | exact ⟨⟨K2.out.q.1.c0, K2.out.q.1.c1, K2.out.q.1.c2⟩, KL.below K2.out (Below.refl _ _).drew⟩ | (obtain ⟨_, hk⟩ := ‹_ ∧ _›; have hk2 := KL.below hk hb; exact ⟨⟨hk2.q.1.c0, hk2.q.1.c1, hk2.q.1.c2⟩, hk2⟩))
            (first | (go_at_call 55; refine (ref_bool _ _).mono ?_; rintro e w1 ⟨rfl, hb⟩))
          rename_i hH
          have KZ := Lib.hid hH.2
          clear hH K2
          obtain ⟨HB, ⟨f0, f1, f2, e0, e1, e2, fl⟩, ⟨r0, r1, r2, rf0, rf1, rf2, rl⟩, ⟨a0, a1, a2, -, -, -, al⟩, -⟩ := KZ.out
          go_wp2_with fail
          go_roundw
          case rel => exact ⟨j + 1, t, by omega, by go_num, G1.out, G2.out, KZ.out⟩
          case measure => simp [intOf]; omega
        · have G2 := Lib.hid (s2 he hq)
          clear s1 s2 s3
          go_wp2_with (first
            | (go_at_call 28; (with_reducible refine (HX.out _).mono ?_); rintro e y2 ⟨rfl, hb⟩; have K' := Lib.hid (KL.below (KL.push K.out (.int .i64 v.k) (.int .i64 v.n) (.string v.s) 27) hb); clear hb K HB f0 f1 f2 e0 e1 e2 fl r0 r1 r2 rf0 rf1 rf2 rl a0 a1 a2 al; have K := K'; clear K'; obtain ⟨HB, ⟨v0, v1, v2, -, -, -, vl⟩, ⟨f0, f1, f2, e0, e1, e2, fl⟩, ⟨r0, r1, r2, rf0, rf1, rf2, rl⟩, ⟨a0, a1, a2, -, -, -, al⟩, -⟩ := K.out)
            | (go_at_call 70; (with_reducible refine (HT.out _).mono ?_); rintro e y3 ⟨rfl, hb⟩; have K' := Lib.hid (KL.below (KL.push K.out (.int .i64 p.k) (.int .i64 p.n) (.string p.s) 27) hb); clear hb K HB v0 v1 v2 vl f0 f1 f2 e0 e1 e2 fl r0 r1 r2 rf0 rf1 rf2 rl a0 a1 a2 al; have K := K'; clear K'; obtain ⟨HB, ⟨i0, i1, i2, -, -, -, il⟩, ⟨v0, v1, v2, -, -, -, vl⟩, ⟨f0, f1, f2, e0, e1, e2, fl⟩, ⟨r0, r1, r2, rf0, rf1, rf2, rl⟩, ⟨a0, a1, a2, -, -, -, al⟩, -⟩ := K.out))
          have K2 : Hid (KL w _ [(ob, .int .i64 t.k, .int .i64 t.n, .string t.s), (w.heap.size + 1, .int .i64 0, .int .i64 0, .string ⟨#[]⟩), (w.heap.size, .int .i64 a.k, .int .i64 a.n, .string a.s)]) := Lib.hid (KL.set K.out.tail.tail (by omega) (by simp; omega) (.int .i64 t.k) (.int .i64 t.n) (.string t.s))
          clear K HB i0 i1 i2 il v0 v1 v2 vl f0 f1 f2 e0 e1 e2 fl r0 r1 r2 rf0 rf1 rf2 rl a0 a1 a2 al
          generalize (((y3.setCell ⟨ob, 0, none⟩ (.int .i64 t.k)).setCell ⟨ob, 1, none⟩ (.int .i64 t.n)).setCell ⟨ob, 2, none⟩ (.string t.s)) = z1 at *
          go_region_held3 (fun z => (z.cell? ⟨ob, 0, none⟩ = some (.int .i64 t.k) ∧ z.cell? ⟨ob, 1, none⟩ = some (.int .i64 t.n) ∧ z.cell? ⟨ob, 2, none⟩ = some (.string t.s)) ∧ KL w z [(ob, .int .i64 t.k, .int .i64 t.n, .string t.s), (w.heap.size + 1, .int .i64 0, .int .i64 0, .string ⟨#[]⟩), (w.heap.size, .int .i64 a.k, .int .i64 a.n, .string a.s)])
            (first | exact ⟨⟨K2.out.q.1.c0, K2.out.q.1.c1, K2.out.q.1.c2⟩, KL.below K2.out (Below.refl _ _).drew⟩ | (obtain ⟨_, hk⟩ := ‹_ ∧ _›; have hk2 := KL.below hk hb; exact ⟨⟨hk2.q.1.c0, hk2.q.1.c1, hk2.q.1.c2⟩, hk2⟩))
            (first | (go_at_call 55; refine (ref_bool _ _).mono ?_; rintro e w1 ⟨rfl, hb⟩))
          rename_i hH
          have KZ := Lib.hid hH.2
          clear hH K2
          obtain ⟨HB, ⟨f0, f1, f2, e0, e1, e2, fl⟩, ⟨r0, r1, r2, rf0, rf1, rf2, rl⟩, ⟨a0, a1, a2, -, -, -, al⟩, -⟩ := KZ.out
          go_wp2_with fail
          (try simp only [Exit.inBlock, Exit.then])
          exact ret_two rfl rfl KZ.out.q.2.1 rfl ⟨by (rw [H.out, G2.out] <;> rfl), _root_.Go.Proofs.YtplepijiceanlaaGreatDoor.set3 KZ.out.HB _ (by omega) _ _ _⟩
      · have G2 := Lib.hid (s1 he)
        clear s1 s2 s3
        go_wp2_with (first
          | (go_at_call 28; (with_reducible refine (HX.out _).mono ?_); rintro e y2 ⟨rfl, hb⟩; have K' := Lib.hid (KL.below (KL.push K.out (.int .i64 v.k) (.int .i64 v.n) (.string v.s) 27) hb); clear hb K HB f0 f1 f2 e0 e1 e2 fl r0 r1 r2 rf0 rf1 rf2 rl a0 a1 a2 al; have K := K'; clear K'; obtain ⟨HB, ⟨v0, v1, v2, -, -, -, vl⟩, ⟨f0, f1, f2, e0, e1, e2, fl⟩, ⟨r0, r1, r2, rf0, rf1, rf2, rl⟩, ⟨a0, a1, a2, -, -, -, al⟩, -⟩ := K.out))
        (try simp only [Exit.inBlock, Exit.then])
        have hS := _root_.Go.Proofs.YtplepijiceanlaaGreatDoor.set3 HB (w.heap.size + 1) (by omega) (.int .i64 0) (.int .i64 0) (.string ⟨#[]⟩)
        exact ret_two_at rfl rfl ((K.out.q.2.2.1.set3 _ _ _).alloc _) rfl ⟨by rw [H.out, G2.out]; rfl, hS.alloc hS.size _⟩
    · have HE : Hid (inL a f (l.drop j) = (f, 0)) := Lib.hid (by rw [List.drop_of_length_le (by omega)]; rfl)
      obtain ⟨HB, ⟨f0, f1, f2, e0, e1, e2, fl⟩, ⟨r0, r1, r2, rf0, rf1, rf2, rl⟩, ⟨a0, a1, a2, -, -, -, al⟩, -⟩ := K.out
      go_wp2_with fail
      (try simp only [Exit.inBlock, Exit.then])
      exact ret_two rfl rfl K.out.q.2.1 rfl ⟨by (rw [H.out, HI.out, HE.out] <;> rfl), _root_.Go.Proofs.YtplepijiceanlaaGreatDoor.set3 HB _ (by omega) _ _ _⟩
end
end Go.Proofs.YtplepijiceanlaaGreatDoor
namespace Go.Proofs.YtplepijiceanlaaGreatDoor
section
open Go.RowKit

def flat : List Va → List Value
  | [] => []
  | v :: r => .int .i64 v.k :: .int .i64 v.n :: .string v.s :: flat r
theorem flat_len : ∀ l : List Va, (flat l).length = l.length * 3
  | [] => rfl
  | v :: r => by simp only [flat, List.length_cons, flat_len r]; omega
theorem flat_get : ∀ (l : List Va) (i : Nat) (v : Va), l[i]? = some v → (flat l)[i * 3]? = some (.int .i64 v.k) ∧ (flat l)[i * 3 + 1]? = some (.int .i64 v.n) ∧ (flat l)[i * 3 + 2]? = some (.string v.s)
  | [], i, v, h => by simp at h
  | u :: r, 0, v, h => by
    simp at h
    subst h
    exact ⟨rfl, rfl, rfl⟩
  | u :: r, i + 1, v, h => by
    have h2 := flat_get r i v (by simpa using h)
    have e0 : (i + 1) * 3 = i * 3 + 1 + 1 + 1 := by omega
    have e1 : (i + 1) * 3 + 1 = i * 3 + 1 + 1 + 1 + 1 := by omega
    have e2 : (i + 1) * 3 + 2 = i * 3 + 2 + 1 + 1 + 1 := by omega
    rw [e1, e2, e0]
    simp only [flat, List.getElem?_cons_succ]
    exact h2
theorem flat_one : ∀ (l : List Va) (u : Value), u ∈ flat l → u.oneCell' = true
  | [], u, h => by simp [flat] at h
  | v :: r, u, h => by
    simp only [flat, List.mem_cons] at h
    rcases h with rfl | rfl | rfl | h
    · rfl
    · rfl
    · rfl
    · exact flat_one r u h
theorem flat_src {x : World} {l : List Va} {ad : Addr} (h : Sl x (some ad) l) (j : Nat) (u : Value) (hu : (flat l)[j]? = some u) : x.cell? (ad.add j) = some u := by
  have hj : j < (flat l).length := (List.getElem?_eq_some_iff.1 hu).1
  rw [flat_len] at hj
  have hi : j / 3 < l.length := by omega
  obtain ⟨b, off, e, -, h0, h1, h2⟩ := h (j / 3) _ (List.getElem?_eq_getElem hi)
  obtain ⟨g0, g1, g2⟩ := flat_get l (j / 3) _ (List.getElem?_eq_getElem hi)
  cases e
  have hm : j = j / 3 * 3 ∨ j = j / 3 * 3 + 1 ∨ j = j / 3 * 3 + 2 := by omega
  have ea : ∀ n, (Addr.add ⟨b, off, none⟩ n) = ⟨b, off + n, none⟩ := fun n => by simp [Addr.add]
  rcases hm with e | e | e
  · rw [e] at hu ⊢; rw [g0] at hu; cases hu; rw [ea]; exact h0
  · rw [e] at hu ⊢; rw [g1] at hu; cases hu; rw [ea]; exact h1
  · rw [e] at hu ⊢; rw [g2] at hu; cases hu; rw [ea]; exact h2
theorem own_sl {w' : World} {base n : Nat} {v' : Value} {l : List Va} (hn : 0 < n) (h : w'.ownsRow base 27 3 v' n (flat l)) : ∃ A c, v' = .slice A n c ∧ Sl w' A l := by
  obtain ⟨hl, h | ⟨g, cap, cur, rfl, -, hg, -, -, -, ht⟩⟩ := h
  · omega
  · refine ⟨_, _, rfl, fun i v hv => ⟨g, 0, rfl, ?_, ?_⟩⟩
    · exact (Array.getElem?_eq_some_iff.1 hg).1
    · obtain ⟨g0, g1, g2⟩ := flat_get l i v hv
      have hc : ∀ j u, (flat l)[j]? = some u → w'.cell? ⟨g, 0 + j, none⟩ = some u := by
        intro j u hu
        have hj : j < n * 3 := by rw [← hl]; exact (List.getElem?_eq_some_iff.1 hu).1
        rw [← ht, List.getElem?_take_of_lt hj] at hu
        simp only [World.cell?, hg, Nat.zero_add]
        simpa using hu
      exact ⟨hc _ _ g0, hc _ _ g1, hc _ _ g2⟩
set_option maxRecDepth 100000 in
theorem app_few {x : World} {g : Nat} (hx : x.heap.size = g) (a c : Va) (A : Option Addr) (ca : Nat) (l : List Va) (h : Sl x A l) (hn : l.length ≤ 4398046511000) (ty : TypeId) :
    ∃ A' c' y', (Builtin.append_ #[22, 22] ty #[.slice (some ⟨g, 0, none⟩) 2 2, .slice A l.length ca]).run Tryz.prog (x.alloc (.cells #[.int .i64 a.k, .int .i64 a.n, .string a.s, .int .i64 c.k, .int .i64 c.n, .string c.s] 27)) = .ok (.slice A' (a :: c :: l).length c') y' ∧
      Sl y' A' (a :: c :: l) ∧ Below x.heap.size x y' := by
  subst hx
  obtain ⟨i, hi, z, hz, hsz, hby, hzs⟩ : ∃ i, Tryz.prog.info? 27 = some i ∧ ∃ z, i.zero = some z ∧ i.size = 3 ∧ i.bytes = 32 ∧ z.cells.size = 3 := ⟨_, rfl, _, rfl, rfl, rfl, rfl⟩
  have hb := new1 x (.cells #[.int .i64 a.k, .int .i64 a.n, .string a.s, .int .i64 c.k, .int .i64 c.n, .string c.s] 27)
  have h' := h.below hb
  rcases A with _ | ad
  · have el : l = [] := by
      cases l with
      | nil => rfl
      | cons v r => obtain ⟨b, off, e, -⟩ := h 0 v rfl; cases e
    subst el
    refine ⟨_, 2, _, ?_, sl2v x a c, hb⟩
    simp [Builtin.append_, run_underlying Tryz.underlying22, sizeOf, typeInfo, hi, Builtin.lenOf, Builtin.firstCells, storeCells]
  · have hown : (x.alloc (.cells #[.int .i64 a.k, .int .i64 a.n, .string a.s, .int .i64 c.k, .int .i64 c.n, .string c.s] 27)).ownsRow x.heap.size 27 3 (.slice (some ⟨x.heap.size, 0, none⟩) 2 2) 2 (flat [a, c]) :=
      ⟨rfl, .inr ⟨x.heap.size, 2, _, rfl, Nat.le_refl _, heap_new x _, by omega, by simp [maxLen], rfl, rfl⟩⟩
    obtain ⟨v', w', hr, h2, h3, -⟩ := run_append_own (P := Tryz.prog) _ x.heap.size 22 ty 27 i z 3 32 Tryz.underlying22 hi hz hsz hby hzs (by omega) _ 2 _ hown ad l.length ca (flat l) (flat_len l) (fun j u hu => flat_src h' j u hu) (flat_one l) (by simp [maxLen]; omega) (by omega) (by simp)
    have e : flat [a, c] ++ flat l = flat (a :: c :: l) := rfl
    rw [e] at h2
    obtain ⟨A', c', rfl, hs⟩ := own_sl (by omega) h2
    refine ⟨A', c', w', ?_, hs, Below.grown hb h3 hb.size (fun k hk => ?_)⟩
    · rw [hr]
      have : 2 + l.length = (a :: c :: l).length := by simp; omega
      rw [this]
    · simp [Value.ownBlock] at hk; omega
end
end Go.Proofs.YtplepijiceanlaaGreatDoor
namespace Go.Proofs.YtplepijiceanlaaGreatDoor
section
open Go.RowKit

theorem wpList_app {P : Program} {w : World} {ops : Array Oper} {rest : List Oper} {o : Oper} {a : Act} {Q : Exit → Act → World → Prop} (hgd : o.guard = none) (s x : Operand)
    (ho : o.op = .call { callee := .builtin .append, args := #[s, x], argTypes := #[22, 22] }) (vs vx : Value) (hs : a.eval s = vs) (hx : a.eval x = vx) {v' : Value} {w' : World}
    (hr : (Builtin.append_ #[22, 22] o.type #[vs, vx]).run P w = .ok v' w') (h : wpList P ops Q rest (a.put o.dst v') w') : wpList P ops Q (o :: rest) a w :=
  wpList_plain hgd fun _ hK => by
    unfold Oper.wp execOp
    simp only [ho, resolve, invoke, builtin, Sem.run_bind, Sem.run_pure, Result.andThen_ok, List.map_toArray, List.map_cons, List.map_nil, hs, hx, hr]
    exact hK _ _ h
theorem inAt {a u : Va} {A : Option Addr} {ca : Nat} {l : List Va} {eu : Int} (h : inS a l = (u, eu)) (hl : l.length ≤ maxLen) {x : World} (hs : Sl x A l) : Calls Tryz.prog 29 #[a.val, .slice A l.length ca] x fun e w' => e = .returned (.tuple #[u.val, .int .i64 eu]) ∧ Below x.heap.size x w' := by
  have := in_ a A ca l x hl hs
  rw [h] at this
  exact this
theorem refInAt {a u : Va} {A : Option Addr} {ca : Nat} {l : List Va} {eu : Int} (h : inS a l = (u, eu)) (hl : l.length ≤ maxLen) (hm : ∀ v ∈ l, v.s.size ≤ maxLen) (hma : a.s.size ≤ maxLen) {x : World} (hs : Sl x A l) : Calls Tryz.prog 30 #[a.val, .slice A l.length ca] x fun e w' => e = .returned (.tuple #[u.val, .int .i64 eu]) ∧ Below x.heap.size x w' := by
  have := refIn_ a A ca l x hl hm hma hs
  rw [h] at this
  exact this
theorem betAt {a b c s : Va} {es : Int} (h : betS a b c = (s, es)) (x : World) : Calls Tryz.prog 31 #[a.val, b.val, c.val] x fun e w' => e = .returned (.tuple #[s.val, .int .i64 es]) ∧ Below x.heap.size x w' := by
  have := between_ a b c x
  rw [h] at this
  exact this
theorem refBetAt {a b c s : Va} {es : Int} (h : betS a b c = (s, es)) (h1 : a.s.size ≤ maxLen) (h2 : b.s.size ≤ maxLen) (h3 : c.s.size ≤ maxLen) (x : World) : Calls Tryz.prog 32 #[a.val, b.val, c.val] x fun e w' => e = .returned (.tuple #[s.val, .int .i64 es]) ∧ Below x.heap.size x w' := by
  have := refBetween_ a b c h1 h2 h3 x
  rw [h] at this
  exact this
theorem refOrdAt {a b : Va} {n e : Int} (h : ordS a b = (n, e)) (h1 : a.s.size ≤ maxLen) (h2 : b.s.size ≤ maxLen) (x : World) : Calls Tryz.prog 34 #[a.val, b.val] x fun r w' => r = .returned (.tuple #[.int .i64 n, .int .i64 e]) ∧ Below x.heap.size x w' := by
  have := refOrder_ a b h1 h2 x
  rw [h] at this
  exact this
set_option maxRecDepth 100000 in
set_option maxHeartbeats 40000000 in
/-- The law of In, Between and Order. -/
theorem valueIn_ (hA : Awk) (a : Va) (A : Option Addr) (ca : Nat) (l : List Va) (c : Va) (w : World) (hg : Gl w) (hn : l.length ≤ 4398046511000) (sl : Sl w A l) (hm : ∀ v ∈ l, v.s.size ≤ maxLen) (za : a.s.size ≤ maxLen) (zc : c.s.size ≤ maxLen) :
    Calls Tryz.prog 5 #[a.val, .slice A l.length ca, c.val] w fun e w' => e = .returned (.bool true) ∧ Below w.heap.size w w' := by
  obtain ⟨⟨u, eu⟩, hu⟩ : ∃ q, inS a l = q := ⟨_, rfl⟩
  have hl : l.length ≤ maxLen := by unfold maxLen; omega
  have C29 := Lib.hid (fun x (hx : Below w.heap.size w x) => inAt (ca := ca) hu hl (sl.below hx))
  have C30 := Lib.hid (fun x (hx : Below w.heap.size w x) => refInAt (ca := ca) hu hl hm za (sl.below hx))
  have K0 : Hid (KL w _ _) := Lib.hid (((KL.refl w).push (.int .i64 a.k) (.int .i64 a.n) (.string a.s) 27).push' (w.heap.size + 1) (sz1 _ _) (.int .i64 c.k) (.int .i64 c.n) (.string c.s) 27)
  obtain ⟨A', c', y', hr, hs', hb'⟩ := app_few (sz2 w _ _) a c A ca l (sl.below K0.out.HB) hn 22
  obtain ⟨N, hN⟩ : ∃ N, (a :: c :: l).length = N := ⟨_, rfl⟩
  have HFew := Lib.hid (few_ A' c' (a :: c :: l) y' (by simp [maxLen]; omega) hs')
  rw [hN] at hr HFew
  have hbA := Lib.hid hb'
  have HA := Lib.hid hA
  have HG := Lib.hid hg
  have SL := Lib.hid sl
  have HM := Lib.hid hm
  have ZA := Lib.hid za
  have ZC := Lib.hid zc
  have eu1 := eqV_self u
  clear hu hA hg sl hm za zc hs' hb' hN
  go_enter Tryz.func5, Tryz.ntmps5
  go_wp2_with (first
      | (at_builtin; refine wpList_app rfl (.tmp 19) (.tmp 20) rfl _ _ rfl rfl hr ?_)
      | (go_at_call 13; (with_reducible refine (HFew.out).mono ?_); rintro e y0 ⟨⟨bb, rfl⟩, hy⟩; have K' := Lib.hid (KL.below (KL.below K0.out hbA.out) hy); clear hy; have K := K'; clear K'; obtain ⟨HB, ⟨c0, c1, c2, -, -, -, cl⟩, ⟨a0, a1, a2, -, -, -, al⟩, -⟩ := K.out; cases bb)
      | (go_at_call 29; (with_reducible refine (C29.out _ K.out.HB).mono ?_); rintro e y1 ⟨rfl, hy⟩; have K' := Lib.hid (KL.below K.out hy); clear hy K; clear HB c0 c1 c2 cl a0 a1 a2 al; have K := K'; clear K'; obtain ⟨HB, ⟨c0, c1, c2, -, -, -, cl⟩, ⟨a0, a1, a2, -, -, -, al⟩, -⟩ := K.out)
      | (go_at_call 30; (with_reducible refine (C30.out _ (KL.alloc K.out _).HB).mono ?_); rintro e y2 ⟨rfl, hy⟩; have hw7 : w.heap.size + 1 < y1.heap.size := cl; have K' := Lib.hid (KL.below (KL.push K.out (.int .i64 u.k) (.int .i64 u.n) (.string u.s) 27) hy); clear hy K; clear HB c0 c1 c2 cl a0 a1 a2 al; have K := K'; clear K'; obtain ⟨HB, ⟨x0, x1, x2, xe0, xe1, xe2, xl⟩, ⟨c0, c1, c2, -, -, -, cl⟩, ⟨a0, a1, a2, -, -, -, al⟩, -⟩ := K.out)
      | (go_at_call 14; (with_reducible refine (awk_at HA.out _ (Gl.below HG.out K.out.HB)).mono ?_); rintro e y ⟨rfl, hy⟩; have HE := Lib.hid (K.out.HB.trans (hy.mono K.out.HB.size)); clear hy))
  · go_ret
    exact ⟨rfl, HE.out⟩
  have h79 : y1.heap.size < y2.heap.size := xl
  have K3 : Hid (KL w _ ((y2.heap.size, .int .i64 u.k, .int .i64 u.n, .string u.s) :: [(y1.heap.size, .int .i64 u.k, .int .i64 u.n, .string u.s), (w.heap.size + 1, .int .i64 c.k, .int .i64 c.n, .string c.s), (w.heap.size, .int .i64 a.k, .int .i64 a.n, .string a.s)])) := Lib.hid (KL.push K.out (.int .i64 u.k) (.int .i64 u.n) (.string u.s) 27)
  clear HB x0 x1 x2 xe0 xe1 xe2 xl c0 c1 c2 cl a0 a1 a2 al
  clear K hr HFew hbA K0 C29 C30 eu1
  generalize hg7 : y1.heap.size = g7 at *
  generalize hg9 : y2.heap.size = g9 at *
  clear hg7 hg9
  go_loopw [47] (fun i x => ∃ (j : Nat) (p q : Va), j ≤ l.length ∧ i = .int .i64 j ∧ KL w x [(g9, .int .i64 p.k, .int .i64 p.n, .string p.s), (g7, .int .i64 q.k, .int .i64 q.n, .string q.s), (w.heap.size + 1, .int .i64 c.k, .int .i64 c.n, .string c.s), (w.heap.size, .int .i64 a.k, .int .i64 a.n, .string a.s)]) (fun i x => l.length - (intOf i).toNat)
  case atStart => exact ⟨0, u, u, Nat.zero_le _, rfl, K3.out⟩
  case round =>
    clear K3
    obtain ⟨j, p, q, hj, rfl, hK⟩ := hrel
    have K := Lib.hid hK
    clear hK
    by_cases hlt : j < l.length
    · obtain ⟨b, off, rfl, hb, c0, c1, c2⟩ := (SL.out.below K.out.HB) j _ (List.getElem?_eq_getElem hlt)
      have hmv : l[j].s.size ≤ maxLen := HM.out _ (List.getElem_mem hlt)
      clear SL HM
      generalize l[j] = v at *
      obtain ⟨⟨s, es⟩, hs⟩ : ∃ q, betS a v c = q := ⟨_, rfl⟩
      obtain ⟨⟨n, en⟩, ho⟩ : ∃ q, ordS a v = q := ⟨_, rfl⟩
      have C31 := Lib.hid (fun x => betAt hs x)
      have C32 := Lib.hid (fun x => refBetAt hs ZA.out hmv ZC.out x)
      have C33 := Lib.hid (fun x => ord_at ho x)
      have C34 := Lib.hid (fun x => refOrdAt ho ZA.out hmv x)
      have es1 := eqV_self s
      have hg9 : g9 < wr.heap.size := K.out.q.1.lt
      clear hs ho hmv
      obtain ⟨HB, ⟨y0, y1, y2, ye0, ye1, ye2, yl⟩, ⟨x0, x1, x2, xe0, xe1, xe2, xl⟩, ⟨c0, c1, c2, -, -, -, cl⟩, ⟨a0, a1, a2, -, -, -, al⟩, -⟩ := K.out
      go_wp2_with (first
          | (go_at_call 31; (with_reducible refine (C31.out _).mono ?_); rintro e z1 ⟨rfl, hy⟩; have K' := Lib.hid (KL.below (KL.push K.out (.int .i64 v.k) (.int .i64 v.n) (.string v.s) 27) hy); clear hy K; clear HB y0 y1 y2 ye0 ye1 ye2 yl x0 x1 x2 xe0 xe1 xe2 xl c0 c1 c2 cl a0 a1 a2 al; have K := K'; clear K'; obtain ⟨HB, ⟨v0, v1, v2, -, -, -, vl⟩, ⟨y0, y1, y2, ye0, ye1, ye2, yl⟩, ⟨x0, x1, x2, xe0, xe1, xe2, xl⟩, ⟨c0, c1, c2, -, -, -, cl⟩, ⟨a0, a1, a2, -, -, -, al⟩, -⟩ := K.out)
          | (go_at_call 32; (with_reducible refine (C32.out _).mono ?_); rintro e z2 ⟨rfl, hy⟩; have KP : KL w z1 [(g7, .int .i64 q.k, .int .i64 q.n, .string q.s), (wr.heap.size, .int .i64 v.k, .int .i64 v.n, .string v.s), (g9, .int .i64 p.k, .int .i64 p.n, .string p.s), (w.heap.size + 1, .int .i64 c.k, .int .i64 c.n, .string c.s), (w.heap.size, .int .i64 a.k, .int .i64 a.n, .string a.s)] := ⟨K.out.HB, K.out.q.2.2.1, K.out.q.1, K.out.q.2.1, K.out.q.2.2.2⟩; have K' := Lib.hid (KL.below (KL.set KP (by omega) (by simp; omega) (.int .i64 s.k) (.int .i64 s.n) (.string s.s)) hy); clear hy K; clear HB v0 v1 v2 vl y0 y1 y2 ye0 ye1 ye2 yl x0 x1 x2 xe0 xe1 xe2 xl c0 c1 c2 cl a0 a1 a2 al; have K := K'; clear K'; obtain ⟨HB, ⟨x0, x1, x2, xe0, xe1, xe2, xl⟩, ⟨v0, v1, v2, -, -, -, vl⟩, ⟨y0, y1, y2, ye0, ye1, ye2, yl⟩, ⟨c0, c1, c2, -, -, -, cl⟩, ⟨a0, a1, a2, -, -, -, al⟩, -⟩ := K.out; clear KP)
          | (go_at_call 33; (with_reducible refine (C33.out _).mono ?_); rintro e z3 ⟨rfl, hy⟩; have KP : KL w z2 [(g9, .int .i64 p.k, .int .i64 p.n, .string p.s), (g7, .int .i64 s.k, .int .i64 s.n, .string s.s), (wr.heap.size, .int .i64 v.k, .int .i64 v.n, .string v.s), (w.heap.size + 1, .int .i64 c.k, .int .i64 c.n, .string c.s), (w.heap.size, .int .i64 a.k, .int .i64 a.n, .string a.s)] := ⟨K.out.HB, K.out.q.2.2.1, K.out.q.1, K.out.q.2.1, K.out.q.2.2.2⟩; have K' := Lib.hid (KL.below (KL.set KP (by omega) (by simp; omega) (.int .i64 s.k) (.int .i64 s.n) (.string s.s)) hy); clear hy K; clear HB x0 x1 x2 xe0 xe1 xe2 xl v0 v1 v2 vl y0 y1 y2 ye0 ye1 ye2 yl c0 c1 c2 cl a0 a1 a2 al; have K := K'; clear K'; obtain ⟨HB, ⟨y0, y1, y2, ye0, ye1, ye2, yl⟩, ⟨x0, x1, x2, xe0, xe1, xe2, xl⟩, ⟨v0, v1, v2, -, -, -, vl⟩, ⟨c0, c1, c2, -, -, -, cl⟩, ⟨a0, a1, a2, -, -, -, al⟩, -⟩ := K.out; clear KP)
          | (go_at_call 34; (with_reducible refine (C34.out _).mono ?_); rintro e z4 ⟨rfl, hy⟩; have K' := Lib.hid (KL.below K.out hy); clear hy K; clear HB y0 y1 y2 ye0 ye1 ye2 yl x0 x1 x2 xe0 xe1 xe2 xl v0 v1 v2 vl c0 c1 c2 cl a0 a1 a2 al; have K := K'; clear K'; obtain ⟨HB, ⟨y0, y1, y2, ye0, ye1, ye2, yl⟩, ⟨x0, x1, x2, xe0, xe1, xe2, xl⟩, ⟨v0, v1, v2, -, -, -, vl⟩, ⟨c0, c1, c2, -, -, -, cl⟩, ⟨a0, a1, a2, -, -, -, al⟩, -⟩ := K.out))
      go_roundw
      case rel => exact ⟨j + 1, s, s, by omega, by go_num, ⟨K.out.HB, K.out.q.1, K.out.q.2.1, K.out.q.2.2.2⟩⟩
      case measure => simp [intOf]; omega
    · obtain ⟨HB, ⟨y0, y1, y2, ye0, ye1, ye2, yl⟩, ⟨x0, x1, x2, xe0, xe1, xe2, xl⟩, ⟨c0, c1, c2, -, -, -, cl⟩, ⟨a0, a1, a2, -, -, -, al⟩, -⟩ := K.out
      go_wp2_with (first
          | (go_at_call 14; (with_reducible refine (awk_at HA.out _ (Gl.below HG.out K.out.HB)).mono ?_); rintro e y ⟨rfl, hy⟩; have HE := Lib.hid (K.out.HB.trans (hy.mono K.out.HB.size)); clear hy))
      go_ret
      exact ⟨rfl, HE.out⟩
end
end Go.Proofs.YtplepijiceanlaaGreatDoor
namespace Go.Proofs.YtplepijiceanlaaGreatDoor
section
open Go.ChangeShapes Go.WideShapes Go.ChangeAt Go.RowKit Go.Deep

theorem vals_len {H : Type} {enc : TypeId × Value → H} {W : World} {A : Option Addr} {n c : Nat} {d : DataW H} {p : List MemPlace}
    (h : DataW.Trod enc Tryz.prog W 0 (fun _ => true) true 22 (.slice A n c) d p) : n = 0 ∨ ∃ elems spare, d = .slice elems spare ∧ elems.length = n := by
  obtain ⟨fuel, hf⟩ := h
  rcases open_slice Tryz.underlying22 hf with ⟨hcs, _⟩ | ⟨a, len, cap, m, k, D, Pl, hcs, _, _, _, _, hx, _⟩
  · simp [Value.cells] at hcs
    exact .inl hcs.2.1
  · simp [Value.cells] at hcs
    obtain ⟨rfl, rfl, rfl⟩ := hcs
    exact .inr ⟨_, _, congrArg Prod.fst hx, by simp⟩
theorem vals_bound {H : Type} {enc : TypeId × Value → H} {W : World} {A : Option Addr} {n c : Nat} {d : DataW H} {p : List MemPlace} {ts : List TypeId} {ds : List (DataW H)} (hw : (DataW.weightsEach Tryz.prog ts ds).all (· ≤ reachBytes) = true) {j : Nat}
    (ht : ts[j]? = some 22) (hd : ds[j]? = some d) (h : DataW.Trod enc Tryz.prog W 0 (fun _ => true) true 22 (.slice A n c) d p) : n ≤ 4398046511000 := by
  rcases vals_len h with rfl | ⟨elems, spare, rfl, rfl⟩
  · omega
  · have q := sized_slice hw ht hd Tryz.underlying22
    have e : Tryz.prog.bytesOf 27 = 32 := by kernel_rfl
    rw [e] at q
    unfold reachBytes at q
    omega
end
end Go.Proofs.YtplepijiceanlaaGreatDoor
