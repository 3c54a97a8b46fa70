/-
  Contracts: In.
-/
import Derived.Test.YthomeplakcbfoaaGreatDoorR
namespace Go.Proofs.YthomeplakcbfoaaGreatDoor
open Go.RowKit

def inL (a : Va) : Va → List Va → Va × Int
  | f, [] => (f, 0)
  | f, v :: r => if oneK 0 [a, v] = false then (nulV, 16) else if hasNull [a, v] = true then inL a nulV r else if (cmpV a.k a.n a.s v.n v.s == 0) = true then (booV true, 0) else inL a f r
def inS (a : Va) (l : List Va) : Va × Int := if a.ok = false then (nulV, 2) else if allOk l = false then (nulV, 2) else inL a (booV false) l
theorem inL_drop (a f : Va) (l : List Va) (k : Nat) (h : k < l.length) :
    inL a f (l.drop k) = if oneK 0 [a, l[k]] = false then (nulV, 16) else if hasNull [a, l[k]] = true then inL a nulV (l.drop (k + 1)) else if (cmpV a.k a.n a.s l[k].n l[k].s == 0) = true then (booV true, 0) else inL a f (l.drop (k + 1)) := by
  rw [List.drop_eq_getElem_cons h]; rfl

set_option maxRecDepth 100000 in
set_option maxHeartbeats 1600000 in
theorem in_ (a : Va) (A : Option Addr) (c : Nat) (l : List Va) (w : World) (hl : l.length ≤ maxLen) (h : Sl w A l) :
    Calls Tryz.prog 28 #[a.val, .slice A l.length c] w fun e w' => e = .returned (two (inS a l)) ∧ Below w.heap.size w w' := by
  obtain ⟨k, n, s⟩ := a
  have hl' : l.length ≤ 9223372036854775807 := hl
  cases h1 : vld k n s
  · have H : Hid (inS ⟨k, n, s⟩ l = (nulV, 2)) := Lib.hid (by unfold inS; rw [if_pos (by simp [Va.ok, h1])])
    go_enter Tryz.func28, Tryz.ntmps28
    go_wp2_with (first
                | (go_at_call 31; refine (valid_ _ _ _ _).mono ?_; rintro e y ⟨rfl, hb⟩; have K : Hid (KL w y [(w.heap.size + 1, .int .i64 0, .int .i64 0, .string ⟨#[]⟩), (w.heap.size, .int .i64 k, .int .i64 n, .string s)]) := Lib.hid (KL.below (((KL.refl w).push _ _ _ 27).push' _ (sz1 _ _) _ _ _ 27) hb); clear hb; obtain ⟨HB, ⟨r0, r1, r2, g0, g1, g2, rl⟩, ⟨v0, v1, v2, _, _, _, vl⟩, _⟩ := K.out)
                | (go_at_call 38; refine (allValid_ A c l _ hl (h.below HB)).mono ?_; rintro e y ⟨rfl, hb⟩; have K := Lib.hid (KL.below (Hid.out (by assumption)) hb); clear hb; obtain ⟨HB, ⟨r0, r1, r2, g0, g1, g2, rl⟩, ⟨v0, v1, v2, _, _, _, vl⟩, _⟩ := K.out)
                | (go_at_call 60; refine (boolean_ _ _).mono ?_; rintro e y3 ⟨rfl, hb⟩; have K0 : Hid (KL w y3 [(w.heap.size + 1, .int .i64 0, .int .i64 0, .string ⟨#[]⟩), (w.heap.size, .int .i64 k, .int .i64 n, .string s)]) := Lib.hid (KL.below (Hid.out (by assumption)) hb); have hfb : w.heap.size + 1 < y3.heap.size := K0.out.q.1.lt; have K : Hid (KL w (y3.alloc (.cells #[.int .i64 3, .int .i64 0, .string ⟨#[]⟩] 27)) [(y3.heap.size, .int .i64 3, .int .i64 0, .string ⟨#[]⟩), (w.heap.size + 1, .int .i64 0, .int .i64 0, .string ⟨#[]⟩), (w.heap.size, .int .i64 k, .int .i64 n, .string s)]) := Lib.hid (KL.push K0.out _ _ _ 27); clear hb K0; obtain ⟨HB, ⟨f0, f1, f2, h0, h1, h2, fl⟩, ⟨r0, r1, r2, g0, g1, g2, rl⟩, ⟨v0, v1, v2, _, _, _, vl⟩, _⟩ := K.out))
    (try simp only [Exit.inBlock, Exit.then])
    exact ret_two rfl rfl K.out.q.1 rfl ⟨by rw [H.out]; rfl, _root_.Go.Proofs.YthomeplakcbfoaaGreatDoor.set3 HB _ (by omega) _ _ _⟩
  cases h2 : allOk l
  · have H : Hid (inS ⟨k, n, s⟩ l = (nulV, 2)) := Lib.hid (by unfold inS; rw [if_neg (by simp [Va.ok, h1]), if_pos h2])
    go_enter Tryz.func28, Tryz.ntmps28
    go_wp2_with (first
                | (go_at_call 31; refine (valid_ _ _ _ _).mono ?_; rintro e y ⟨rfl, hb⟩; have K : Hid (KL w y [(w.heap.size + 1, .int .i64 0, .int .i64 0, .string ⟨#[]⟩), (w.heap.size, .int .i64 k, .int .i64 n, .string s)]) := Lib.hid (KL.below (((KL.refl w).push _ _ _ 27).push' _ (sz1 _ _) _ _ _ 27) hb); clear hb; obtain ⟨HB, ⟨r0, r1, r2, g0, g1, g2, rl⟩, ⟨v0, v1, v2, _, _, _, vl⟩, _⟩ := K.out)
                | (go_at_call 38; refine (allValid_ A c l _ hl (h.below HB)).mono ?_; rintro e y ⟨rfl, hb⟩; have K := Lib.hid (KL.below (Hid.out (by assumption)) hb); clear hb; obtain ⟨HB, ⟨r0, r1, r2, g0, g1, g2, rl⟩, ⟨v0, v1, v2, _, _, _, vl⟩, _⟩ := K.out)
                | (go_at_call 60; refine (boolean_ _ _).mono ?_; rintro e y3 ⟨rfl, hb⟩; have K0 : Hid (KL w y3 [(w.heap.size + 1, .int .i64 0, .int .i64 0, .string ⟨#[]⟩), (w.heap.size, .int .i64 k, .int .i64 n, .string s)]) := Lib.hid (KL.below (Hid.out (by assumption)) hb); have hfb : w.heap.size + 1 < y3.heap.size := K0.out.q.1.lt; have K : Hid (KL w (y3.alloc (.cells #[.int .i64 3, .int .i64 0, .string ⟨#[]⟩] 27)) [(y3.heap.size, .int .i64 3, .int .i64 0, .string ⟨#[]⟩), (w.heap.size + 1, .int .i64 0, .int .i64 0, .string ⟨#[]⟩), (w.heap.size, .int .i64 k, .int .i64 n, .string s)]) := Lib.hid (KL.push K0.out _ _ _ 27); clear hb K0; obtain ⟨HB, ⟨f0, f1, f2, h0, h1, h2, fl⟩, ⟨r0, r1, r2, g0, g1, g2, rl⟩, ⟨v0, v1, v2, _, _, _, vl⟩, _⟩ := K.out))
    (try simp only [Exit.inBlock, Exit.then])
    exact ret_two rfl rfl K.out.q.1 rfl ⟨by rw [H.out]; rfl, _root_.Go.Proofs.YthomeplakcbfoaaGreatDoor.set3 HB _ (by omega) _ _ _⟩
  have H : Hid (inS ⟨k, n, s⟩ l = inL ⟨k, n, s⟩ (booV false) l) := Lib.hid (by unfold inS; rw [if_neg (by simp [Va.ok, h1]), if_neg (by simp [h2])])
  go_enter Tryz.func28, Tryz.ntmps28
  go_wp2_with (first
              | (go_at_call 31; refine (valid_ _ _ _ _).mono ?_; rintro e y ⟨rfl, hb⟩; have K : Hid (KL w y [(w.heap.size + 1, .int .i64 0, .int .i64 0, .string ⟨#[]⟩), (w.heap.size, .int .i64 k, .int .i64 n, .string s)]) := Lib.hid (KL.below (((KL.refl w).push _ _ _ 27).push' _ (sz1 _ _) _ _ _ 27) hb); clear hb; obtain ⟨HB, ⟨r0, r1, r2, g0, g1, g2, rl⟩, ⟨v0, v1, v2, _, _, _, vl⟩, _⟩ := K.out)
              | (go_at_call 38; refine (allValid_ A c l _ hl (h.below HB)).mono ?_; rintro e y ⟨rfl, hb⟩; have K := Lib.hid (KL.below (Hid.out (by assumption)) hb); clear hb; obtain ⟨HB, ⟨r0, r1, r2, g0, g1, g2, rl⟩, ⟨v0, v1, v2, _, _, _, vl⟩, _⟩ := K.out)
              | (go_at_call 60; refine (boolean_ _ _).mono ?_; rintro e y3 ⟨rfl, hb⟩; have K0 : Hid (KL w y3 [(w.heap.size + 1, .int .i64 0, .int .i64 0, .string ⟨#[]⟩), (w.heap.size, .int .i64 k, .int .i64 n, .string s)]) := Lib.hid (KL.below (Hid.out (by assumption)) hb); have hfb : w.heap.size + 1 < y3.heap.size := K0.out.q.1.lt; have K : Hid (KL w (y3.alloc (.cells #[.int .i64 3, .int .i64 0, .string ⟨#[]⟩] 27)) [(y3.heap.size, .int .i64 3, .int .i64 0, .string ⟨#[]⟩), (w.heap.size + 1, .int .i64 0, .int .i64 0, .string ⟨#[]⟩), (w.heap.size, .int .i64 k, .int .i64 n, .string s)]) := Lib.hid (KL.push K0.out _ _ _ 27); clear hb K0; obtain ⟨HB, ⟨f0, f1, f2, h0, h1, h2, fl⟩, ⟨r0, r1, r2, g0, g1, g2, rl⟩, ⟨v0, v1, v2, _, _, _, vl⟩, _⟩ := K.out))
  go_loopw [21] (fun i x => ∃ (j : Nat) (f : Va), j ≤ l.length ∧ i = .int .i64 j ∧ inL ⟨k, n, s⟩ (booV false) l = inL ⟨k, n, s⟩ f (l.drop j) ∧ KL w x [(y3.heap.size, .int .i64 f.k, .int .i64 f.n, .string f.s), (w.heap.size + 1, .int .i64 0, .int .i64 0, .string ⟨#[]⟩), (w.heap.size, .int .i64 k, .int .i64 n, .string s)]) (fun i x => l.length - (intOf i).toNat)
  case atStart => exact ⟨0, booV false, Nat.zero_le _, rfl, by simp, K.out⟩
  case round =>
    obtain ⟨j, f, hj, rfl, hI, hK⟩ := hrel
    have HI := Lib.hid hI
    have KX := Lib.hid hK
    clear hI hK
    obtain ⟨HB0, ⟨f0, f1, f2, e0, e1, e2, fl⟩, ⟨r0, r1, r2, g0, g1, g2, rl⟩, ⟨v0, v1, v2, _, _, _, vl⟩, _⟩ := KX.out
    by_cases hlt : j < l.length
    · have HD0 := inL_drop ⟨k, n, s⟩ f l j hlt
      obtain ⟨b, off, rfl, hb, c0, c1, c2⟩ := (h.below HB0) j _ (List.getElem?_eq_getElem hlt)
      clear h
      obtain ⟨k', n', s', hv⟩ : ∃ k' n' s', l[j] = ⟨k', n', s'⟩ := ⟨_, _, _, rfl⟩
      rw [hv] at HD0 c0 c1 c2
      clear hv
      simp only at HD0 c0 c1 c2
      have HD := Lib.hid HD0
      clear HD0
      cases q1 : oneK 0 [⟨k, n, s⟩, ⟨k', n', s'⟩]
      · rw [q1] at HD
        go_wp2_with (first
                    | (go_at_call 58; refine (oneKind_ _ _ _ [⟨k, n, s⟩, ⟨k', n', s'⟩] _ (by simp [maxLen]) (sl2' _ _ (by first | rfl | exact sz1 _ _) _ _ _ _ _ _)).mono ?_; rintro e y ⟨rfl, hb⟩; have K := Lib.hid (KL.below (KL.alloc (KL.push KX.out (.int .i64 k') (.int .i64 n') (.string s') 27) _) hb); clear hb; obtain ⟨HB, ⟨p0, p1, p2, _, _, _, pl⟩, ⟨f0, f1, f2, e0, e1, e2, fl⟩, ⟨r0, r1, r2, g0, g1, g2, rl⟩, ⟨v0, v1, v2, _, _, _, vl⟩, _⟩ := K.out)
                    | (go_at_call 41; refine (someNull_ _ _ [⟨k, n, s⟩, ⟨k', n', s'⟩] _ (by simp [maxLen]) (sl2' _ _ (by first | rfl | exact sz1 _ _) _ _ _ _ _ _)).mono ?_; rintro e y ⟨rfl, hb⟩; have K := Lib.hid (KL.below (KL.alloc (Hid.out (by assumption)) _) hb); clear hb; obtain ⟨HB, ⟨p0, p1, p2, _, _, _, pl⟩, ⟨f0, f1, f2, e0, e1, e2, fl⟩, ⟨r0, r1, r2, g0, g1, g2, rl⟩, ⟨v0, v1, v2, _, _, _, vl⟩, _⟩ := K.out)
                    | (go_at_call 61; refine (compare_ _ _ _ _ _ _ _).mono ?_; rintro e y ⟨rfl, hb⟩; have K := Lib.hid (KL.below (Hid.out (by assumption)) hb); clear hb; obtain ⟨HB, ⟨p0, p1, p2, _, _, _, pl⟩, ⟨f0, f1, f2, e0, e1, e2, fl⟩, ⟨r0, r1, r2, g0, g1, g2, rl⟩, ⟨v0, v1, v2, _, _, _, vl⟩, _⟩ := K.out)
                    | (go_at_call 60; refine (boolean_ _ _).mono ?_; rintro e y ⟨rfl, hb⟩; have K := Lib.hid (KL.below (Hid.out (by assumption)) hb); clear hb; obtain ⟨HB, ⟨p0, p1, p2, _, _, _, pl⟩, ⟨f0, f1, f2, e0, e1, e2, fl⟩, ⟨r0, r1, r2, g0, g1, g2, rl⟩, ⟨v0, v1, v2, _, _, _, vl⟩, _⟩ := K.out))
        (try simp only [Exit.inBlock, Exit.then])
        exact ret_two rfl rfl K.out.q.2.2.1 rfl ⟨by rw [H.out, HI.out, HD.out]; rfl, _root_.Go.Proofs.YthomeplakcbfoaaGreatDoor.set3 HB _ (by omega) _ _ _⟩
      · rw [q1] at HD
        cases q2 : hasNull [⟨k, n, s⟩, ⟨k', n', s'⟩]
        · rw [q2] at HD
          cases q3 : cmpV k n s n' s' == 0
          · rw [q3] at HD
            go_wp2_with (first
                        | (go_at_call 58; refine (oneKind_ _ _ _ [⟨k, n, s⟩, ⟨k', n', s'⟩] _ (by simp [maxLen]) (sl2' _ _ (by first | rfl | exact sz1 _ _) _ _ _ _ _ _)).mono ?_; rintro e y ⟨rfl, hb⟩; have K := Lib.hid (KL.below (KL.alloc (KL.push KX.out (.int .i64 k') (.int .i64 n') (.string s') 27) _) hb); clear hb; obtain ⟨HB, ⟨p0, p1, p2, _, _, _, pl⟩, ⟨f0, f1, f2, e0, e1, e2, fl⟩, ⟨r0, r1, r2, g0, g1, g2, rl⟩, ⟨v0, v1, v2, _, _, _, vl⟩, _⟩ := K.out)
                        | (go_at_call 41; refine (someNull_ _ _ [⟨k, n, s⟩, ⟨k', n', s'⟩] _ (by simp [maxLen]) (sl2' _ _ (by first | rfl | exact sz1 _ _) _ _ _ _ _ _)).mono ?_; rintro e y ⟨rfl, hb⟩; have K := Lib.hid (KL.below (KL.alloc (Hid.out (by assumption)) _) hb); clear hb; obtain ⟨HB, ⟨p0, p1, p2, _, _, _, pl⟩, ⟨f0, f1, f2, e0, e1, e2, fl⟩, ⟨r0, r1, r2, g0, g1, g2, rl⟩, ⟨v0, v1, v2, _, _, _, vl⟩, _⟩ := K.out)
                        | (go_at_call 61; refine (compare_ _ _ _ _ _ _ _).mono ?_; rintro e y ⟨rfl, hb⟩; have K := Lib.hid (KL.below (Hid.out (by assumption)) hb); clear hb; obtain ⟨HB, ⟨p0, p1, p2, _, _, _, pl⟩, ⟨f0, f1, f2, e0, e1, e2, fl⟩, ⟨r0, r1, r2, g0, g1, g2, rl⟩, ⟨v0, v1, v2, _, _, _, vl⟩, _⟩ := K.out)
                        | (go_at_call 60; refine (boolean_ _ _).mono ?_; rintro e y ⟨rfl, hb⟩; have K := Lib.hid (KL.below (Hid.out (by assumption)) hb); clear hb; obtain ⟨HB, ⟨p0, p1, p2, _, _, _, pl⟩, ⟨f0, f1, f2, e0, e1, e2, fl⟩, ⟨r0, r1, r2, g0, g1, g2, rl⟩, ⟨v0, v1, v2, _, _, _, vl⟩, _⟩ := K.out))
            go_roundw
            case rel => exact ⟨j + 1, f, by omega, by go_num, by rw [HI.out, HD.out]; rfl, K.out.tail⟩
            case measure => simp [intOf]; omega
          · rw [q3] at HD
            go_wp2_with (first
                        | (go_at_call 58; refine (oneKind_ _ _ _ [⟨k, n, s⟩, ⟨k', n', s'⟩] _ (by simp [maxLen]) (sl2' _ _ (by first | rfl | exact sz1 _ _) _ _ _ _ _ _)).mono ?_; rintro e y ⟨rfl, hb⟩; have K := Lib.hid (KL.below (KL.alloc (KL.push KX.out (.int .i64 k') (.int .i64 n') (.string s') 27) _) hb); clear hb; obtain ⟨HB, ⟨p0, p1, p2, _, _, _, pl⟩, ⟨f0, f1, f2, e0, e1, e2, fl⟩, ⟨r0, r1, r2, g0, g1, g2, rl⟩, ⟨v0, v1, v2, _, _, _, vl⟩, _⟩ := K.out)
                        | (go_at_call 41; refine (someNull_ _ _ [⟨k, n, s⟩, ⟨k', n', s'⟩] _ (by simp [maxLen]) (sl2' _ _ (by first | rfl | exact sz1 _ _) _ _ _ _ _ _)).mono ?_; rintro e y ⟨rfl, hb⟩; have K := Lib.hid (KL.below (KL.alloc (Hid.out (by assumption)) _) hb); clear hb; obtain ⟨HB, ⟨p0, p1, p2, _, _, _, pl⟩, ⟨f0, f1, f2, e0, e1, e2, fl⟩, ⟨r0, r1, r2, g0, g1, g2, rl⟩, ⟨v0, v1, v2, _, _, _, vl⟩, _⟩ := K.out)
                        | (go_at_call 61; refine (compare_ _ _ _ _ _ _ _).mono ?_; rintro e y ⟨rfl, hb⟩; have K := Lib.hid (KL.below (Hid.out (by assumption)) hb); clear hb; obtain ⟨HB, ⟨p0, p1, p2, _, _, _, pl⟩, ⟨f0, f1, f2, e0, e1, e2, fl⟩, ⟨r0, r1, r2, g0, g1, g2, rl⟩, ⟨v0, v1, v2, _, _, _, vl⟩, _⟩ := K.out)
                        | (go_at_call 60; refine (boolean_ _ _).mono ?_; rintro e y ⟨rfl, hb⟩; have K := Lib.hid (KL.below (Hid.out (by assumption)) hb); clear hb; obtain ⟨HB, ⟨p0, p1, p2, _, _, _, pl⟩, ⟨f0, f1, f2, e0, e1, e2, fl⟩, ⟨r0, r1, r2, g0, g1, g2, rl⟩, ⟨v0, v1, v2, _, _, _, vl⟩, _⟩ := K.out))
            (try simp only [Exit.inBlock, Exit.then])
            exact ret_two rfl rfl K.out.q.2.2.1 rfl ⟨by rw [H.out, HI.out, HD.out]; rfl, _root_.Go.Proofs.YthomeplakcbfoaaGreatDoor.set3 HB _ (by omega) _ _ _⟩
        · rw [q2] at HD
          go_wp2_with (first
                      | (go_at_call 58; refine (oneKind_ _ _ _ [⟨k, n, s⟩, ⟨k', n', s'⟩] _ (by simp [maxLen]) (sl2' _ _ (by first | rfl | exact sz1 _ _) _ _ _ _ _ _)).mono ?_; rintro e y ⟨rfl, hb⟩; have K := Lib.hid (KL.below (KL.alloc (KL.push KX.out (.int .i64 k') (.int .i64 n') (.string s') 27) _) hb); clear hb; obtain ⟨HB, ⟨p0, p1, p2, _, _, _, pl⟩, ⟨f0, f1, f2, e0, e1, e2, fl⟩, ⟨r0, r1, r2, g0, g1, g2, rl⟩, ⟨v0, v1, v2, _, _, _, vl⟩, _⟩ := K.out)
                      | (go_at_call 41; refine (someNull_ _ _ [⟨k, n, s⟩, ⟨k', n', s'⟩] _ (by simp [maxLen]) (sl2' _ _ (by first | rfl | exact sz1 _ _) _ _ _ _ _ _)).mono ?_; rintro e y ⟨rfl, hb⟩; have K := Lib.hid (KL.below (KL.alloc (Hid.out (by assumption)) _) hb); clear hb; obtain ⟨HB, ⟨p0, p1, p2, _, _, _, pl⟩, ⟨f0, f1, f2, e0, e1, e2, fl⟩, ⟨r0, r1, r2, g0, g1, g2, rl⟩, ⟨v0, v1, v2, _, _, _, vl⟩, _⟩ := K.out)
                      | (go_at_call 61; refine (compare_ _ _ _ _ _ _ _).mono ?_; rintro e y ⟨rfl, hb⟩; have K := Lib.hid (KL.below (Hid.out (by assumption)) hb); clear hb; obtain ⟨HB, ⟨p0, p1, p2, _, _, _, pl⟩, ⟨f0, f1, f2, e0, e1, e2, fl⟩, ⟨r0, r1, r2, g0, g1, g2, rl⟩, ⟨v0, v1, v2, _, _, _, vl⟩, _⟩ := K.out)
                      | (go_at_call 60; refine (boolean_ _ _).mono ?_; rintro e y ⟨rfl, hb⟩; have K := Lib.hid (KL.below (Hid.out (by assumption)) hb); clear hb; obtain ⟨HB, ⟨p0, p1, p2, _, _, _, pl⟩, ⟨f0, f1, f2, e0, e1, e2, fl⟩, ⟨r0, r1, r2, g0, g1, g2, rl⟩, ⟨v0, v1, v2, _, _, _, vl⟩, _⟩ := K.out))
          go_roundw
          case rel => exact ⟨j + 1, nulV, by omega, by go_num, by rw [HI.out, HD.out]; rfl, K.out.tail.set (by omega) (by simp; omega) _ _ _⟩
          case measure => simp [intOf]; omega
    · have HE : Hid (inL ⟨k, n, s⟩ f (l.drop j) = (f, 0)) := Lib.hid (by rw [List.drop_of_length_le (by omega)]; rfl)
      go_wp2
      (try simp only [Exit.inBlock, Exit.then])
      exact ret_two rfl rfl KX.out.q.2.1 rfl ⟨by rw [H.out, HI.out, HE.out]; rfl, _root_.Go.Proofs.YthomeplakcbfoaaGreatDoor.set3 HB0 _ (by omega) _ _ _⟩

end Go.Proofs.YthomeplakcbfoaaGreatDoor
