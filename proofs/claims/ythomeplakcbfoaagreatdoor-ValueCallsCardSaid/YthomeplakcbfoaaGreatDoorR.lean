/-
  Contracts: Order, IsRow, Between.
-/
import Derived.Test.YthomeplakcbfoaaGreatDoorQ
namespace Go.Proofs.YthomeplakcbfoaaGreatDoor
open Go.RowKit

def ordS (a b : Va) : Int × Int :=
  if allOk [a, b] = false then (0, 2) else if oneK 0 [a, b] = false then (0, 16) else if (a.k == b.k) = true then (cmpV a.k a.n a.s b.n b.s, 0) else if hasNull [a] = true then (1, 0) else (-1, 0)
theorem sl1' (x : World) (b : Nat) (hb : x.heap.size = b) (k n : Int) (s : ByteArray) : Sl (x.alloc (.cells #[.int .i64 k, .int .i64 n, .string s] 27)) (some ⟨b, 0, none⟩) [⟨k, n, s⟩] := by
  rw [← hb]; exact sl1 x k n s
theorem sl3' (x : World) (b : Nat) (hb : x.heap.size = b) (k n : Int) (s : ByteArray) (k' n' : Int) (s' : ByteArray) (k2 n2 : Int) (s2 : ByteArray) : Sl (x.alloc (.cells #[.int .i64 k, .int .i64 n, .string s, .int .i64 k', .int .i64 n', .string s', .int .i64 k2, .int .i64 n2, .string s2] 27)) (some ⟨b, 0, none⟩) [⟨k, n, s⟩, ⟨k', n', s'⟩, ⟨k2, n2, s2⟩] := by
  subst hb
  intro i u hu
  match i, hu with
  | 0, hu => cases hu; exact ⟨x.heap.size, 0, rfl, by simp, by simp, by simp, by simp⟩
  | 1, hu => cases hu; exact ⟨x.heap.size, 0, rfl, by simp, by simp, by simp, by simp⟩
  | 2, hu => cases hu; exact ⟨x.heap.size, 0, rfl, by simp, by simp, by simp, by simp⟩
theorem isRow_ (A : Option Addr) (c : Nat) (l : List Va) (w : World) (hl : l.length ≤ maxLen) (h : Sl w A l) :
    Calls Tryz.prog 32 #[.slice A l.length c] w fun e w' => e = .returned (.bool (decide (l.length ≤ 20) && allOk l)) ∧ Below w.heap.size w w' := by
  by_cases h20 : l.length ≤ 20
  · have H : Hid ((decide (l.length ≤ 20) && allOk l) = allOk l) := Lib.hid (by simp [h20])
    go_enter Tryz.func32, Tryz.ntmps32
    go_wp2_with (first
      | (go_at_call 38; refine (allValid_ A c l _ hl h).mono ?_; rintro e y ⟨rfl, hb⟩))
    go_ret
    exact ⟨ret_bool (by rw [H.out]), hb⟩
  · go_enter Tryz.func32, Tryz.ntmps32
    go_wp2
    go_ret
    exact ⟨rfl, Below.refl _ _⟩

set_option maxRecDepth 100000 in
set_option maxHeartbeats 1000000 in
theorem order_ (a b : Va) (w : World) : Calls Tryz.prog 30 #[a.val, b.val] w fun e w' => e = .returned (.tuple #[.int .i64 (ordS a b).1, .int .i64 (ordS a b).2]) ∧ Below w.heap.size w w' := by
  obtain ⟨k, n, s⟩ := a
  obtain ⟨k', n', s'⟩ := b
  cases h1 : allOk [⟨k, n, s⟩, ⟨k', n', s'⟩]
  · have H : Hid (ordS ⟨k, n, s⟩ ⟨k', n', s'⟩ = (0, 2)) := Lib.hid (by unfold ordS; simp [h1])
    go_enter Tryz.func30, Tryz.ntmps30
    go_wp2_with (first
                | (go_at_call 38; refine (allValid_ _ _ [⟨k, n, s⟩, ⟨k', n', s'⟩] _ (by simp [maxLen]) (sl2' _ _ (by first | rfl | exact sz1 _ _ | exact sz2 _ _ _) _ _ _ _ _ _)).mono ?_; rintro e y ⟨rfl, hb⟩; have K : Hid (K2 w y w.heap.size (.int .i64 k) (.int .i64 n) (.string s) (w.heap.size + 1) (.int .i64 k') (.int .i64 n') (.string s')) := Lib.hid (K2.below (K2.alloc ⟨new2 w _ _, (B3.new w _ _ _ 27).alloc _, B3.new' _ _ (sz1 _ _) _ _ _ 27⟩ _) hb); clear hb; obtain ⟨HB, ⟨v0, v1, v2, _, _, _, vl⟩, ⟨u0, u1, u2, _, _, _, ul⟩⟩ := K.out)
                | (go_at_call 58; refine (oneKind_ _ _ _ [⟨k, n, s⟩, ⟨k', n', s'⟩] _ (by simp [maxLen]) (sl2' _ _ (by first | rfl | exact sz1 _ _ | exact sz2 _ _ _) _ _ _ _ _ _)).mono ?_; rintro e y ⟨rfl, hb⟩; have K := Lib.hid (K2.below (K2.alloc (Hid.out (by assumption)) _) hb); clear hb; obtain ⟨HB, ⟨v0, v1, v2, _, _, _, vl⟩, ⟨u0, u1, u2, _, _, _, ul⟩⟩ := K.out)
                | (go_at_call 61; refine (compare_ _ _ _ _ _ _ _).mono ?_; rintro e y ⟨rfl, hb⟩; have K := Lib.hid (K2.below (Hid.out (by assumption)) hb); clear hb; obtain ⟨HB, ⟨v0, v1, v2, _, _, _, vl⟩, ⟨u0, u1, u2, _, _, _, ul⟩⟩ := K.out)
                | (go_at_call 41; refine (someNull_ _ _ [⟨k, n, s⟩] _ (by simp [maxLen]) (sl1' _ _ rfl _ _ _)).mono ?_; rintro e y ⟨rfl, hb⟩; have K := Lib.hid (K2.below (K2.alloc (Hid.out (by assumption)) _) hb); clear hb; obtain ⟨HB, ⟨v0, v1, v2, _, _, _, vl⟩, ⟨u0, u1, u2, _, _, _, ul⟩⟩ := K.out))
    (try simp only [Exit.inBlock, Exit.then])
    go_ret2
    exact ⟨by rw [H.out]; rfl, HB⟩
  cases h2 : oneK 0 [⟨k, n, s⟩, ⟨k', n', s'⟩]
  · have H : Hid (ordS ⟨k, n, s⟩ ⟨k', n', s'⟩ = (0, 16)) := Lib.hid (by unfold ordS; simp [h1, h2])
    go_enter Tryz.func30, Tryz.ntmps30
    go_wp2_with (first
                | (go_at_call 38; refine (allValid_ _ _ [⟨k, n, s⟩, ⟨k', n', s'⟩] _ (by simp [maxLen]) (sl2' _ _ (by first | rfl | exact sz1 _ _ | exact sz2 _ _ _) _ _ _ _ _ _)).mono ?_; rintro e y ⟨rfl, hb⟩; have K : Hid (K2 w y w.heap.size (.int .i64 k) (.int .i64 n) (.string s) (w.heap.size + 1) (.int .i64 k') (.int .i64 n') (.string s')) := Lib.hid (K2.below (K2.alloc ⟨new2 w _ _, (B3.new w _ _ _ 27).alloc _, B3.new' _ _ (sz1 _ _) _ _ _ 27⟩ _) hb); clear hb; obtain ⟨HB, ⟨v0, v1, v2, _, _, _, vl⟩, ⟨u0, u1, u2, _, _, _, ul⟩⟩ := K.out)
                | (go_at_call 58; refine (oneKind_ _ _ _ [⟨k, n, s⟩, ⟨k', n', s'⟩] _ (by simp [maxLen]) (sl2' _ _ (by first | rfl | exact sz1 _ _ | exact sz2 _ _ _) _ _ _ _ _ _)).mono ?_; rintro e y ⟨rfl, hb⟩; have K := Lib.hid (K2.below (K2.alloc (Hid.out (by assumption)) _) hb); clear hb; obtain ⟨HB, ⟨v0, v1, v2, _, _, _, vl⟩, ⟨u0, u1, u2, _, _, _, ul⟩⟩ := K.out)
                | (go_at_call 61; refine (compare_ _ _ _ _ _ _ _).mono ?_; rintro e y ⟨rfl, hb⟩; have K := Lib.hid (K2.below (Hid.out (by assumption)) hb); clear hb; obtain ⟨HB, ⟨v0, v1, v2, _, _, _, vl⟩, ⟨u0, u1, u2, _, _, _, ul⟩⟩ := K.out)
                | (go_at_call 41; refine (someNull_ _ _ [⟨k, n, s⟩] _ (by simp [maxLen]) (sl1' _ _ rfl _ _ _)).mono ?_; rintro e y ⟨rfl, hb⟩; have K := Lib.hid (K2.below (K2.alloc (Hid.out (by assumption)) _) hb); clear hb; obtain ⟨HB, ⟨v0, v1, v2, _, _, _, vl⟩, ⟨u0, u1, u2, _, _, _, ul⟩⟩ := K.out))
    (try simp only [Exit.inBlock, Exit.then])
    go_ret2
    exact ⟨by rw [H.out]; rfl, HB⟩
  cases h3 : k == k'
  · cases h4 : hasNull [⟨k, n, s⟩]
    · have H : Hid (ordS ⟨k, n, s⟩ ⟨k', n', s'⟩ = (-1, 0)) := Lib.hid (by unfold ordS; simp [h1, h2, h4, show ¬ k = k' from by simpa using h3])
      go_enter Tryz.func30, Tryz.ntmps30
      go_wp2_with (first
                  | (go_at_call 38; refine (allValid_ _ _ [⟨k, n, s⟩, ⟨k', n', s'⟩] _ (by simp [maxLen]) (sl2' _ _ (by first | rfl | exact sz1 _ _ | exact sz2 _ _ _) _ _ _ _ _ _)).mono ?_; rintro e y ⟨rfl, hb⟩; have K : Hid (K2 w y w.heap.size (.int .i64 k) (.int .i64 n) (.string s) (w.heap.size + 1) (.int .i64 k') (.int .i64 n') (.string s')) := Lib.hid (K2.below (K2.alloc ⟨new2 w _ _, (B3.new w _ _ _ 27).alloc _, B3.new' _ _ (sz1 _ _) _ _ _ 27⟩ _) hb); clear hb; obtain ⟨HB, ⟨v0, v1, v2, _, _, _, vl⟩, ⟨u0, u1, u2, _, _, _, ul⟩⟩ := K.out)
                  | (go_at_call 58; refine (oneKind_ _ _ _ [⟨k, n, s⟩, ⟨k', n', s'⟩] _ (by simp [maxLen]) (sl2' _ _ (by first | rfl | exact sz1 _ _ | exact sz2 _ _ _) _ _ _ _ _ _)).mono ?_; rintro e y ⟨rfl, hb⟩; have K := Lib.hid (K2.below (K2.alloc (Hid.out (by assumption)) _) hb); clear hb; obtain ⟨HB, ⟨v0, v1, v2, _, _, _, vl⟩, ⟨u0, u1, u2, _, _, _, ul⟩⟩ := K.out)
                  | (go_at_call 61; refine (compare_ _ _ _ _ _ _ _).mono ?_; rintro e y ⟨rfl, hb⟩; have K := Lib.hid (K2.below (Hid.out (by assumption)) hb); clear hb; obtain ⟨HB, ⟨v0, v1, v2, _, _, _, vl⟩, ⟨u0, u1, u2, _, _, _, ul⟩⟩ := K.out)
                  | (go_at_call 41; refine (someNull_ _ _ [⟨k, n, s⟩] _ (by simp [maxLen]) (sl1' _ _ rfl _ _ _)).mono ?_; rintro e y ⟨rfl, hb⟩; have K := Lib.hid (K2.below (K2.alloc (Hid.out (by assumption)) _) hb); clear hb; obtain ⟨HB, ⟨v0, v1, v2, _, _, _, vl⟩, ⟨u0, u1, u2, _, _, _, ul⟩⟩ := K.out))
      (try simp only [Exit.inBlock, Exit.then])
      go_ret2
      exact ⟨by rw [H.out]; rfl, HB⟩
    · have H : Hid (ordS ⟨k, n, s⟩ ⟨k', n', s'⟩ = (1, 0)) := Lib.hid (by unfold ordS; simp [h1, h2, h4, show ¬ k = k' from by simpa using h3])
      go_enter Tryz.func30, Tryz.ntmps30
      go_wp2_with (first
                  | (go_at_call 38; refine (allValid_ _ _ [⟨k, n, s⟩, ⟨k', n', s'⟩] _ (by simp [maxLen]) (sl2' _ _ (by first | rfl | exact sz1 _ _ | exact sz2 _ _ _) _ _ _ _ _ _)).mono ?_; rintro e y ⟨rfl, hb⟩; have K : Hid (K2 w y w.heap.size (.int .i64 k) (.int .i64 n) (.string s) (w.heap.size + 1) (.int .i64 k') (.int .i64 n') (.string s')) := Lib.hid (K2.below (K2.alloc ⟨new2 w _ _, (B3.new w _ _ _ 27).alloc _, B3.new' _ _ (sz1 _ _) _ _ _ 27⟩ _) hb); clear hb; obtain ⟨HB, ⟨v0, v1, v2, _, _, _, vl⟩, ⟨u0, u1, u2, _, _, _, ul⟩⟩ := K.out)
                  | (go_at_call 58; refine (oneKind_ _ _ _ [⟨k, n, s⟩, ⟨k', n', s'⟩] _ (by simp [maxLen]) (sl2' _ _ (by first | rfl | exact sz1 _ _ | exact sz2 _ _ _) _ _ _ _ _ _)).mono ?_; rintro e y ⟨rfl, hb⟩; have K := Lib.hid (K2.below (K2.alloc (Hid.out (by assumption)) _) hb); clear hb; obtain ⟨HB, ⟨v0, v1, v2, _, _, _, vl⟩, ⟨u0, u1, u2, _, _, _, ul⟩⟩ := K.out)
                  | (go_at_call 61; refine (compare_ _ _ _ _ _ _ _).mono ?_; rintro e y ⟨rfl, hb⟩; have K := Lib.hid (K2.below (Hid.out (by assumption)) hb); clear hb; obtain ⟨HB, ⟨v0, v1, v2, _, _, _, vl⟩, ⟨u0, u1, u2, _, _, _, ul⟩⟩ := K.out)
                  | (go_at_call 41; refine (someNull_ _ _ [⟨k, n, s⟩] _ (by simp [maxLen]) (sl1' _ _ rfl _ _ _)).mono ?_; rintro e y ⟨rfl, hb⟩; have K := Lib.hid (K2.below (K2.alloc (Hid.out (by assumption)) _) hb); clear hb; obtain ⟨HB, ⟨v0, v1, v2, _, _, _, vl⟩, ⟨u0, u1, u2, _, _, _, ul⟩⟩ := K.out))
      (try simp only [Exit.inBlock, Exit.then])
      go_ret2
      exact ⟨by rw [H.out]; rfl, HB⟩
  · obtain rfl : k = k' := by simpa using h3
    have H : Hid (ordS ⟨k, n, s⟩ ⟨k, n', s'⟩ = (cmpV k n s n' s', 0)) := Lib.hid (by unfold ordS; simp [h1, h2])
    clear h3
    go_enter Tryz.func30, Tryz.ntmps30
    go_wp2_with (first
                | (go_at_call 38; refine (allValid_ _ _ [⟨k, n, s⟩, ⟨k, n', s'⟩] _ (by simp [maxLen]) (sl2' _ _ (by first | rfl | exact sz1 _ _ | exact sz2 _ _ _) _ _ _ _ _ _)).mono ?_; rintro e y ⟨rfl, hb⟩; have K : Hid (K2 w y w.heap.size (.int .i64 k) (.int .i64 n) (.string s) (w.heap.size + 1) (.int .i64 k) (.int .i64 n') (.string s')) := Lib.hid (K2.below (K2.alloc ⟨new2 w _ _, (B3.new w _ _ _ 27).alloc _, B3.new' _ _ (sz1 _ _) _ _ _ 27⟩ _) hb); clear hb; obtain ⟨HB, ⟨v0, v1, v2, _, _, _, vl⟩, ⟨u0, u1, u2, _, _, _, ul⟩⟩ := K.out)
                | (go_at_call 58; refine (oneKind_ _ _ _ [⟨k, n, s⟩, ⟨k, n', s'⟩] _ (by simp [maxLen]) (sl2' _ _ (by first | rfl | exact sz1 _ _ | exact sz2 _ _ _) _ _ _ _ _ _)).mono ?_; rintro e y ⟨rfl, hb⟩; have K := Lib.hid (K2.below (K2.alloc (Hid.out (by assumption)) _) hb); clear hb; obtain ⟨HB, ⟨v0, v1, v2, _, _, _, vl⟩, ⟨u0, u1, u2, _, _, _, ul⟩⟩ := K.out)
                | (go_at_call 61; refine (compare_ _ _ _ _ _ _ _).mono ?_; rintro e y ⟨rfl, hb⟩; have K := Lib.hid (K2.below (Hid.out (by assumption)) hb); clear hb; obtain ⟨HB, ⟨v0, v1, v2, _, _, _, vl⟩, ⟨u0, u1, u2, _, _, _, ul⟩⟩ := K.out)
                | (go_at_call 41; refine (someNull_ _ _ [⟨k, n, s⟩] _ (by simp [maxLen]) (sl1' _ _ rfl _ _ _)).mono ?_; rintro e y ⟨rfl, hb⟩; have K := Lib.hid (K2.below (K2.alloc (Hid.out (by assumption)) _) hb); clear hb; obtain ⟨HB, ⟨v0, v1, v2, _, _, _, vl⟩, ⟨u0, u1, u2, _, _, _, ul⟩⟩ := K.out))
    (try simp only [Exit.inBlock, Exit.then])
    go_ret2
    exact ⟨by rw [H.out]; rfl, HB⟩


abbrev sGe : ByteArray := ⟨#[62, 61]⟩
abbrev sLe : ByteArray := ⟨#[60, 61]⟩
abbrev sAnd : ByteArray := ⟨#[97, 110, 100]⟩
def betS (a b c : Va) : Va × Int :=
  if allOk [a, b, c] = false then (nulV, 2) else
    if ((binS sGe a b).2 != 0) = true then (nulV, (binS sGe a b).2) else
      if ((binS sLe a c).2 != 0) = true then (nulV, (binS sLe a c).2) else binS sAnd (binS sGe a b).1 (binS sLe a c).1

set_option maxRecDepth 100000 in
set_option maxHeartbeats 1000000 in
theorem between_ (a b c : Va) (w : World) : Calls Tryz.prog 29 #[a.val, b.val, c.val] w fun e w' => e = .returned (two (betS a b c)) ∧ Below w.heap.size w w' := by
  obtain ⟨k, n, s⟩ := a
  obtain ⟨k', n', s'⟩ := b
  obtain ⟨k2, n2, s2⟩ := c
  cases h1 : allOk [⟨k, n, s⟩, ⟨k', n', s'⟩, ⟨k2, n2, s2⟩]
  · have H : Hid (betS ⟨k, n, s⟩ ⟨k', n', s'⟩ ⟨k2, n2, s2⟩ = (nulV, 2)) := Lib.hid (by unfold betS; rw [if_pos h1])
    go_enter Tryz.func29, Tryz.ntmps29
    go_wp2_with (first
                | (go_at_call 38; refine (allValid_ _ _ [⟨k, n, s⟩, ⟨k', n', s'⟩, ⟨k2, n2, s2⟩] _ (by simp [maxLen]) (sl3' _ _ (by simp) _ _ _ _ _ _ _ _ _)).mono ?_; rintro e y ⟨rfl, hb⟩; have K : Hid (KL w y [(w.heap.size + 1 + 1 + 1, .int .i64 0, .int .i64 0, .string ⟨#[]⟩), (w.heap.size + 1 + 1, .int .i64 k2, .int .i64 n2, .string s2), (w.heap.size + 1, .int .i64 k', .int .i64 n', .string s'), (w.heap.size, .int .i64 k, .int .i64 n, .string s)]) := Lib.hid (KL.below (KL.alloc (((((KL.refl w).push _ _ _ 27).push' _ (sz1 _ _) _ _ _ 27).push' _ (sz2 _ _ _) _ _ _ 27).push' _ (sz3 _ _ _ _) _ _ _ 27) _) hb); clear hb; obtain ⟨HB, ⟨r0, r1, r2, g0, g1, g2, rl⟩, ⟨u0, u1, u2, _, _, _, ul⟩, ⟨v0, v1, v2, _, _, _, vl⟩, ⟨z0, z1, z2, _, _, _, zl⟩, _⟩ := K.out)
                | (go_at_call_of 22 (Value.string ⟨#[62, 61]⟩); refine (binary_ sGe ⟨k, n, s⟩ ⟨k', n', s'⟩ _).mono ?_; rintro e y ⟨rfl, hb⟩; have K := Lib.hid (KL.push (KL.below (Hid.out (by assumption)) hb) (.int .i64 (binS sGe ⟨k, n, s⟩ ⟨k', n', s'⟩).1.k) (.int .i64 (binS sGe ⟨k, n, s⟩ ⟨k', n', s'⟩).1.n) (.string (binS sGe ⟨k, n, s⟩ ⟨k', n', s'⟩).1.s) 27); clear hb; obtain ⟨HB, ⟨l0, l1, l2, _, _, _, ll⟩, ⟨r0, r1, r2, g0, g1, g2, rl⟩, ⟨u0, u1, u2, _, _, _, ul⟩, ⟨v0, v1, v2, _, _, _, vl⟩, ⟨z0, z1, z2, _, _, _, zl⟩, _⟩ := K.out)
                | (go_at_call_of 22 (Value.string ⟨#[60, 61]⟩); refine (binary_ sLe ⟨k, n, s⟩ ⟨k2, n2, s2⟩ _).mono ?_; rintro e y ⟨rfl, hb⟩; have K := Lib.hid (KL.push (KL.below (Hid.out (by assumption)) hb) (.int .i64 (binS sLe ⟨k, n, s⟩ ⟨k2, n2, s2⟩).1.k) (.int .i64 (binS sLe ⟨k, n, s⟩ ⟨k2, n2, s2⟩).1.n) (.string (binS sLe ⟨k, n, s⟩ ⟨k2, n2, s2⟩).1.s) 27); clear hb; obtain ⟨HB, ⟨m0, m1, m2, _, _, _, ml⟩, ⟨l0, l1, l2, _, _, _, ll⟩, ⟨r0, r1, r2, g0, g1, g2, rl⟩, ⟨u0, u1, u2, _, _, _, ul⟩, ⟨v0, v1, v2, _, _, _, vl⟩, ⟨z0, z1, z2, _, _, _, zl⟩, _⟩ := K.out)
                | (go_at_call_of 22 (Value.string ⟨#[97, 110, 100]⟩); refine (binary_ sAnd (binS sGe ⟨k, n, s⟩ ⟨k', n', s'⟩).1 (binS sLe ⟨k, n, s⟩ ⟨k2, n2, s2⟩).1 _).mono ?_; rintro e y ⟨rfl, hb⟩; have K := Lib.hid (KL.below (Hid.out (by assumption)) hb); clear hb; obtain ⟨HB, ⟨m0, m1, m2, _, _, _, ml⟩, ⟨l0, l1, l2, _, _, _, ll⟩, ⟨r0, r1, r2, g0, g1, g2, rl⟩, ⟨u0, u1, u2, _, _, _, ul⟩, ⟨v0, v1, v2, _, _, _, vl⟩, ⟨z0, z1, z2, _, _, _, zl⟩, _⟩ := K.out))
    (try simp only [Exit.inBlock, Exit.then])
    exact ret_two rfl rfl K.out.q.1 rfl ⟨by rw [H.out]; rfl, set3 HB _ (by omega) _ _ _⟩
  cases h2 : (binS sGe ⟨k, n, s⟩ ⟨k', n', s'⟩).2 != 0
  · cases h3 : (binS sLe ⟨k, n, s⟩ ⟨k2, n2, s2⟩).2 != 0
    · have H : Hid (betS ⟨k, n, s⟩ ⟨k', n', s'⟩ ⟨k2, n2, s2⟩ = binS sAnd (binS sGe ⟨k, n, s⟩ ⟨k', n', s'⟩).1 (binS sLe ⟨k, n, s⟩ ⟨k2, n2, s2⟩).1) := Lib.hid (by unfold betS; rw [if_neg (by simp [h1]), if_neg (by simp [h2]), if_neg (by simp [h3])])
      go_enter Tryz.func29, Tryz.ntmps29
      go_wp2_with (first
                  | (go_at_call 38; refine (allValid_ _ _ [⟨k, n, s⟩, ⟨k', n', s'⟩, ⟨k2, n2, s2⟩] _ (by simp [maxLen]) (sl3' _ _ (by simp) _ _ _ _ _ _ _ _ _)).mono ?_; rintro e y ⟨rfl, hb⟩; have K : Hid (KL w y [(w.heap.size + 1 + 1 + 1, .int .i64 0, .int .i64 0, .string ⟨#[]⟩), (w.heap.size + 1 + 1, .int .i64 k2, .int .i64 n2, .string s2), (w.heap.size + 1, .int .i64 k', .int .i64 n', .string s'), (w.heap.size, .int .i64 k, .int .i64 n, .string s)]) := Lib.hid (KL.below (KL.alloc (((((KL.refl w).push _ _ _ 27).push' _ (sz1 _ _) _ _ _ 27).push' _ (sz2 _ _ _) _ _ _ 27).push' _ (sz3 _ _ _ _) _ _ _ 27) _) hb); clear hb; obtain ⟨HB, ⟨r0, r1, r2, g0, g1, g2, rl⟩, ⟨u0, u1, u2, _, _, _, ul⟩, ⟨v0, v1, v2, _, _, _, vl⟩, ⟨z0, z1, z2, _, _, _, zl⟩, _⟩ := K.out)
                  | (go_at_call_of 22 (Value.string ⟨#[62, 61]⟩); refine (binary_ sGe ⟨k, n, s⟩ ⟨k', n', s'⟩ _).mono ?_; rintro e y ⟨rfl, hb⟩; have K := Lib.hid (KL.push (KL.below (Hid.out (by assumption)) hb) (.int .i64 (binS sGe ⟨k, n, s⟩ ⟨k', n', s'⟩).1.k) (.int .i64 (binS sGe ⟨k, n, s⟩ ⟨k', n', s'⟩).1.n) (.string (binS sGe ⟨k, n, s⟩ ⟨k', n', s'⟩).1.s) 27); clear hb; obtain ⟨HB, ⟨l0, l1, l2, _, _, _, ll⟩, ⟨r0, r1, r2, g0, g1, g2, rl⟩, ⟨u0, u1, u2, _, _, _, ul⟩, ⟨v0, v1, v2, _, _, _, vl⟩, ⟨z0, z1, z2, _, _, _, zl⟩, _⟩ := K.out)
                  | (go_at_call_of 22 (Value.string ⟨#[60, 61]⟩); refine (binary_ sLe ⟨k, n, s⟩ ⟨k2, n2, s2⟩ _).mono ?_; rintro e y ⟨rfl, hb⟩; have K := Lib.hid (KL.push (KL.below (Hid.out (by assumption)) hb) (.int .i64 (binS sLe ⟨k, n, s⟩ ⟨k2, n2, s2⟩).1.k) (.int .i64 (binS sLe ⟨k, n, s⟩ ⟨k2, n2, s2⟩).1.n) (.string (binS sLe ⟨k, n, s⟩ ⟨k2, n2, s2⟩).1.s) 27); clear hb; obtain ⟨HB, ⟨m0, m1, m2, _, _, _, ml⟩, ⟨l0, l1, l2, _, _, _, ll⟩, ⟨r0, r1, r2, g0, g1, g2, rl⟩, ⟨u0, u1, u2, _, _, _, ul⟩, ⟨v0, v1, v2, _, _, _, vl⟩, ⟨z0, z1, z2, _, _, _, zl⟩, _⟩ := K.out)
                  | (go_at_call_of 22 (Value.string ⟨#[97, 110, 100]⟩); refine (binary_ sAnd (binS sGe ⟨k, n, s⟩ ⟨k', n', s'⟩).1 (binS sLe ⟨k, n, s⟩ ⟨k2, n2, s2⟩).1 _).mono ?_; rintro e y ⟨rfl, hb⟩; have K := Lib.hid (KL.below (Hid.out (by assumption)) hb); clear hb; obtain ⟨HB, ⟨m0, m1, m2, _, _, _, ml⟩, ⟨l0, l1, l2, _, _, _, ll⟩, ⟨r0, r1, r2, g0, g1, g2, rl⟩, ⟨u0, u1, u2, _, _, _, ul⟩, ⟨v0, v1, v2, _, _, _, vl⟩, ⟨z0, z1, z2, _, _, _, zl⟩, _⟩ := K.out))
      (try simp only [Exit.inBlock, Exit.then])
      exact ret_two rfl rfl K.out.q.2.2.1 rfl ⟨by rw [H.out]; rfl, set3 HB _ (by omega) _ _ _⟩
    · have H : Hid (betS ⟨k, n, s⟩ ⟨k', n', s'⟩ ⟨k2, n2, s2⟩ = (nulV, (binS sLe ⟨k, n, s⟩ ⟨k2, n2, s2⟩).2)) := Lib.hid (by unfold betS; rw [if_neg (by simp [h1]), if_neg (by simp [h2]), if_pos h3])
      go_enter Tryz.func29, Tryz.ntmps29
      go_wp2_with (first
                  | (go_at_call 38; refine (allValid_ _ _ [⟨k, n, s⟩, ⟨k', n', s'⟩, ⟨k2, n2, s2⟩] _ (by simp [maxLen]) (sl3' _ _ (by simp) _ _ _ _ _ _ _ _ _)).mono ?_; rintro e y ⟨rfl, hb⟩; have K : Hid (KL w y [(w.heap.size + 1 + 1 + 1, .int .i64 0, .int .i64 0, .string ⟨#[]⟩), (w.heap.size + 1 + 1, .int .i64 k2, .int .i64 n2, .string s2), (w.heap.size + 1, .int .i64 k', .int .i64 n', .string s'), (w.heap.size, .int .i64 k, .int .i64 n, .string s)]) := Lib.hid (KL.below (KL.alloc (((((KL.refl w).push _ _ _ 27).push' _ (sz1 _ _) _ _ _ 27).push' _ (sz2 _ _ _) _ _ _ 27).push' _ (sz3 _ _ _ _) _ _ _ 27) _) hb); clear hb; obtain ⟨HB, ⟨r0, r1, r2, g0, g1, g2, rl⟩, ⟨u0, u1, u2, _, _, _, ul⟩, ⟨v0, v1, v2, _, _, _, vl⟩, ⟨z0, z1, z2, _, _, _, zl⟩, _⟩ := K.out)
                  | (go_at_call_of 22 (Value.string ⟨#[62, 61]⟩); refine (binary_ sGe ⟨k, n, s⟩ ⟨k', n', s'⟩ _).mono ?_; rintro e y ⟨rfl, hb⟩; have K := Lib.hid (KL.push (KL.below (Hid.out (by assumption)) hb) (.int .i64 (binS sGe ⟨k, n, s⟩ ⟨k', n', s'⟩).1.k) (.int .i64 (binS sGe ⟨k, n, s⟩ ⟨k', n', s'⟩).1.n) (.string (binS sGe ⟨k, n, s⟩ ⟨k', n', s'⟩).1.s) 27); clear hb; obtain ⟨HB, ⟨l0, l1, l2, _, _, _, ll⟩, ⟨r0, r1, r2, g0, g1, g2, rl⟩, ⟨u0, u1, u2, _, _, _, ul⟩, ⟨v0, v1, v2, _, _, _, vl⟩, ⟨z0, z1, z2, _, _, _, zl⟩, _⟩ := K.out)
                  | (go_at_call_of 22 (Value.string ⟨#[60, 61]⟩); refine (binary_ sLe ⟨k, n, s⟩ ⟨k2, n2, s2⟩ _).mono ?_; rintro e y ⟨rfl, hb⟩; have K := Lib.hid (KL.push (KL.below (Hid.out (by assumption)) hb) (.int .i64 (binS sLe ⟨k, n, s⟩ ⟨k2, n2, s2⟩).1.k) (.int .i64 (binS sLe ⟨k, n, s⟩ ⟨k2, n2, s2⟩).1.n) (.string (binS sLe ⟨k, n, s⟩ ⟨k2, n2, s2⟩).1.s) 27); clear hb; obtain ⟨HB, ⟨m0, m1, m2, _, _, _, ml⟩, ⟨l0, l1, l2, _, _, _, ll⟩, ⟨r0, r1, r2, g0, g1, g2, rl⟩, ⟨u0, u1, u2, _, _, _, ul⟩, ⟨v0, v1, v2, _, _, _, vl⟩, ⟨z0, z1, z2, _, _, _, zl⟩, _⟩ := K.out)
                  | (go_at_call_of 22 (Value.string ⟨#[97, 110, 100]⟩); refine (binary_ sAnd (binS sGe ⟨k, n, s⟩ ⟨k', n', s'⟩).1 (binS sLe ⟨k, n, s⟩ ⟨k2, n2, s2⟩).1 _).mono ?_; rintro e y ⟨rfl, hb⟩; have K := Lib.hid (KL.below (Hid.out (by assumption)) hb); clear hb; obtain ⟨HB, ⟨m0, m1, m2, _, _, _, ml⟩, ⟨l0, l1, l2, _, _, _, ll⟩, ⟨r0, r1, r2, g0, g1, g2, rl⟩, ⟨u0, u1, u2, _, _, _, ul⟩, ⟨v0, v1, v2, _, _, _, vl⟩, ⟨z0, z1, z2, _, _, _, zl⟩, _⟩ := K.out))
      (try simp only [Exit.inBlock, Exit.then])
      exact ret_two rfl rfl K.out.q.2.2.1 rfl ⟨by rw [H.out]; rfl, set3 HB _ (by omega) _ _ _⟩
  · have H : Hid (betS ⟨k, n, s⟩ ⟨k', n', s'⟩ ⟨k2, n2, s2⟩ = (nulV, (binS sGe ⟨k, n, s⟩ ⟨k', n', s'⟩).2)) := Lib.hid (by unfold betS; rw [if_neg (by simp [h1]), if_pos h2])
    go_enter Tryz.func29, Tryz.ntmps29
    go_wp2_with (first
                | (go_at_call 38; refine (allValid_ _ _ [⟨k, n, s⟩, ⟨k', n', s'⟩, ⟨k2, n2, s2⟩] _ (by simp [maxLen]) (sl3' _ _ (by simp) _ _ _ _ _ _ _ _ _)).mono ?_; rintro e y ⟨rfl, hb⟩; have K : Hid (KL w y [(w.heap.size + 1 + 1 + 1, .int .i64 0, .int .i64 0, .string ⟨#[]⟩), (w.heap.size + 1 + 1, .int .i64 k2, .int .i64 n2, .string s2), (w.heap.size + 1, .int .i64 k', .int .i64 n', .string s'), (w.heap.size, .int .i64 k, .int .i64 n, .string s)]) := Lib.hid (KL.below (KL.alloc (((((KL.refl w).push _ _ _ 27).push' _ (sz1 _ _) _ _ _ 27).push' _ (sz2 _ _ _) _ _ _ 27).push' _ (sz3 _ _ _ _) _ _ _ 27) _) hb); clear hb; obtain ⟨HB, ⟨r0, r1, r2, g0, g1, g2, rl⟩, ⟨u0, u1, u2, _, _, _, ul⟩, ⟨v0, v1, v2, _, _, _, vl⟩, ⟨z0, z1, z2, _, _, _, zl⟩, _⟩ := K.out)
                | (go_at_call_of 22 (Value.string ⟨#[62, 61]⟩); refine (binary_ sGe ⟨k, n, s⟩ ⟨k', n', s'⟩ _).mono ?_; rintro e y ⟨rfl, hb⟩; have K := Lib.hid (KL.push (KL.below (Hid.out (by assumption)) hb) (.int .i64 (binS sGe ⟨k, n, s⟩ ⟨k', n', s'⟩).1.k) (.int .i64 (binS sGe ⟨k, n, s⟩ ⟨k', n', s'⟩).1.n) (.string (binS sGe ⟨k, n, s⟩ ⟨k', n', s'⟩).1.s) 27); clear hb; obtain ⟨HB, ⟨l0, l1, l2, _, _, _, ll⟩, ⟨r0, r1, r2, g0, g1, g2, rl⟩, ⟨u0, u1, u2, _, _, _, ul⟩, ⟨v0, v1, v2, _, _, _, vl⟩, ⟨z0, z1, z2, _, _, _, zl⟩, _⟩ := K.out)
                | (go_at_call_of 22 (Value.string ⟨#[60, 61]⟩); refine (binary_ sLe ⟨k, n, s⟩ ⟨k2, n2, s2⟩ _).mono ?_; rintro e y ⟨rfl, hb⟩; have K := Lib.hid (KL.push (KL.below (Hid.out (by assumption)) hb) (.int .i64 (binS sLe ⟨k, n, s⟩ ⟨k2, n2, s2⟩).1.k) (.int .i64 (binS sLe ⟨k, n, s⟩ ⟨k2, n2, s2⟩).1.n) (.string (binS sLe ⟨k, n, s⟩ ⟨k2, n2, s2⟩).1.s) 27); clear hb; obtain ⟨HB, ⟨m0, m1, m2, _, _, _, ml⟩, ⟨l0, l1, l2, _, _, _, ll⟩, ⟨r0, r1, r2, g0, g1, g2, rl⟩, ⟨u0, u1, u2, _, _, _, ul⟩, ⟨v0, v1, v2, _, _, _, vl⟩, ⟨z0, z1, z2, _, _, _, zl⟩, _⟩ := K.out)
                | (go_at_call_of 22 (Value.string ⟨#[97, 110, 100]⟩); refine (binary_ sAnd (binS sGe ⟨k, n, s⟩ ⟨k', n', s'⟩).1 (binS sLe ⟨k, n, s⟩ ⟨k2, n2, s2⟩).1 _).mono ?_; rintro e y ⟨rfl, hb⟩; have K := Lib.hid (KL.below (Hid.out (by assumption)) hb); clear hb; obtain ⟨HB, ⟨m0, m1, m2, _, _, _, ml⟩, ⟨l0, l1, l2, _, _, _, ll⟩, ⟨r0, r1, r2, g0, g1, g2, rl⟩, ⟨u0, u1, u2, _, _, _, ul⟩, ⟨v0, v1, v2, _, _, _, vl⟩, ⟨z0, z1, z2, _, _, _, zl⟩, _⟩ := K.out))
    (try simp only [Exit.inBlock, Exit.then])
    exact ret_two rfl rfl K.out.q.2.1 rfl ⟨by rw [H.out]; rfl, set3 HB _ (by omega) _ _ _⟩


end Go.Proofs.YthomeplakcbfoaaGreatDoor
