/-
  Contracts: sum.
-/
import Derived.Test.YthomeplakcbfoaaGreatDoorU
namespace Go.Proofs.YthomeplakcbfoaaGreatDoor
open Go.RowKit

def sumF : List Va → Bool × Int × Int → Bool × Int × Int
  | [], t => t
  | v :: r, (f, m, s) => if (v.k == 0) = true then sumF r (f, m, s) else sumF r (true, m + (s + v.n).tdiv 1099511627776, (s + v.n).tmod 1099511627776)
def sumR (t : Bool × Int × Int) : Va × Int :=
  if t.1 = false then (nulV, 0) else if 1 < max t.2.1 (-t.2.1) then (nulV, 21) else chkI (t.2.1 * 1099511627776 + t.2.2)
def sumS (l : List Va) : Va × Int := if oneK 1 l = false then (nulV, 16) else sumR (sumF l (false, 0, 0))
theorem sumF_drop (l : List Va) (k : Nat) (h : k < l.length) (f : Bool) (m s : Int) :
    sumF (l.drop k) (f, m, s) = if (l[k].k == 0) = true then sumF (l.drop (k + 1)) (f, m, s) else sumF (l.drop (k + 1)) (true, m + (s + l[k].n).tdiv 1099511627776, (s + l[k].n).tmod 1099511627776) := by
  rw [List.drop_eq_getElem_cons h]; rfl
theorem oneK_mem (d : Int) (hd : d ≠ 0) : ∀ (l : List Va), oneK d l = true → ∀ v ∈ l, v.k = 0 ∨ v.k = d
  | [], _, v, hv => by simp at hv
  | u :: r, h, v, hv => by
    simp only [oneK] at h
    by_cases h0 : u.k = 0
    · simp only [h0, beq_self_eq_true, if_true] at h
      rcases List.mem_cons.1 hv with rfl | hv
      · exact .inl h0
      · exact oneK_mem d hd r h v hv
    · by_cases h1 : u.k = d
      · simp [hd, h1] at h
        rcases List.mem_cons.1 hv with rfl | hv
        · exact .inr h1
        · exact oneK_mem d hd r h v hv
      · simp [h0, hd, h1] at h
theorem sum_small (l : List Va) (h1 : allOk l = true) (h2 : oneK 1 l = true) (k : Nat) (h : k < l.length) (hn : (l[k].k == 0) = false) : Small l[k].n := by
  have hm : l[k] ∈ l := List.getElem_mem h
  have hk : l[k].k = 1 := by
    rcases oneK_mem 1 (by decide) l h2 _ hm with h | h
    · simp [h] at hn
    · exact h
  exact int_in _ _ l[k].s hk (List.all_eq_true.1 h1 _ hm)
theorem step_small (s n : Int) (hs : -1099511627776 < s ∧ s < 1099511627776) (hn : Small n) :
    (-1 ≤ (s + n).tdiv 1099511627776 ∧ (s + n).tdiv 1099511627776 ≤ 1) ∧ (-1099511627776 < (s + n).tmod 1099511627776 ∧ (s + n).tmod 1099511627776 < 1099511627776) := by
  obtain ⟨n1, n2⟩ := hn
  have e := Int.mul_tdiv_add_tmod (s + n) 1099511627776
  have a := Int.tmod_lt_of_pos (s + n) (b := 1099511627776) (by decide)
  have b : -1099511627776 < (s + n).tmod 1099511627776 := by
    have := Int.natAbs_tmod (s + n) 1099511627776
    have := Nat.mod_lt (s + n).natAbs (y := (1099511627776 : Int).natAbs) (by decide)
    omega
  have q : ((s + n).tdiv 1099511627776).natAbs = (s + n).natAbs / 1099511627776 := Int.natAbs_tdiv (s + n) 1099511627776
  omega

set_option maxRecDepth 100000 in
set_option maxHeartbeats 1600000 in
theorem sum_ (A : Option Addr) (c : Nat) (l : List Va) (w : World) (hl : l.length ≤ maxLen) (hok : allOk l = true) (h : Sl w A l) :
    Calls Tryz.prog 73 #[.slice A l.length c] w fun e w' => e = .returned (two (sumS l)) ∧ Below w.heap.size w w' := by
  have hl' : l.length ≤ 9223372036854775807 := hl
  cases h1 : oneK 1 l
  · have H : Hid (sumS l = (nulV, 16)) := Lib.hid (by unfold sumS; rw [if_pos h1])
    go_enter Tryz.func73, Tryz.ntmps73
    go_wp2_with (first
            | (go_at_call 58; refine (oneKind_ 1 A c l _ hl (h.below (new1 w _))).mono ?_; rintro e y ⟨rfl, hb⟩; have K : Hid (KL w y [(w.heap.size, .int .i64 0, .int .i64 0, .string ⟨#[]⟩)]) := Lib.hid (KL.below ((KL.refl w).push _ _ _ 27) hb); clear hb; obtain ⟨HB, ⟨r0, r1, r2, g0, g1, g2, rl⟩, _⟩ := K.out))
    (try simp only [Exit.inBlock, Exit.then])
    exact ret_two rfl rfl K.out.q.1 rfl ⟨by rw [H.out]; rfl, _root_.Go.Proofs.YthomeplakcbfoaaGreatDoor.set3 HB _ (Nat.le_refl _) _ _ _⟩
  have H : Hid (sumS l = sumR (sumF l (false, 0, 0))) := Lib.hid (by unfold sumS; rw [if_neg (by simp [h1])])
  have HS := Lib.hid (sum_small l hok h1)
  clear hok
  go_enter Tryz.func73, Tryz.ntmps73
  go_wp2_with (first
            | (go_at_call 58; refine (oneKind_ 1 A c l _ hl (h.below (new1 w _))).mono ?_; rintro e y ⟨rfl, hb⟩; have K : Hid (KL w y [(w.heap.size, .int .i64 0, .int .i64 0, .string ⟨#[]⟩)]) := Lib.hid (KL.below ((KL.refl w).push _ _ _ 27) hb); clear hb; obtain ⟨HB, ⟨r0, r1, r2, g0, g1, g2, rl⟩, _⟩ := K.out))
  clear h1
  go_loopw [4, 5, 6, 15] (fun q p r i x => ∃ (j : Nat) (f : Bool) (m t : Int), j ≤ l.length ∧ i = .int .i64 j ∧ q = .bool f ∧ p = .int .i64 m ∧ r = .int .i64 t ∧ (-1099511627776 < t ∧ t < 1099511627776) ∧ (-(j : Int) ≤ m ∧ m ≤ j) ∧ sumF l (false, 0, 0) = sumF (l.drop j) (f, m, t) ∧ KL w x [(w.heap.size, .int .i64 0, .int .i64 0, .string ⟨#[]⟩)]) (fun q p r i x => l.length - (intOf i).toNat)
  case atStart => exact ⟨0, false, 0, 0, Nat.zero_le _, rfl, rfl, rfl, rfl, by omega, by omega, by simp, K.out⟩
  case round =>
    obtain ⟨j, f, m, t, hj, rfl, rfl, rfl, rfl, ⟨t1, t2⟩, ⟨m1, m2⟩, hI, hK⟩ := hrel
    have HI := Lib.hid hI
    have KX := Lib.hid hK
    clear hI hK
    obtain ⟨HB, ⟨r0, r1, r2, g0, g1, g2, rl⟩, _⟩ := KX.out
    by_cases hlt : j < l.length
    · have HD0 := sumF_drop l j hlt f m t
      have HS0 := HS.out j hlt
      obtain ⟨b, off, rfl, hb, c0, c1, c2⟩ := (h.below HB) j _ (List.getElem?_eq_getElem hlt)
      clear h
      obtain ⟨k', n', s', hv⟩ : ∃ k' n' s', l[j] = ⟨k', n', s'⟩ := ⟨_, _, _, rfl⟩
      rw [hv] at HD0 c0 c1 c2 HS0
      clear hv
      simp only at HD0 c0 c1 c2 HS0
      have HD := Lib.hid HD0
      clear HD0
      have hnn : hasNull [⟨k', n', s'⟩] = (k' == 0) := by simp [hasNull]
      cases q1 : k' == 0
      · rw [q1] at HD hnn
        obtain ⟨⟨d1, d2⟩, d3, d4⟩ := step_small t n' ⟨t1, t2⟩ (HS0 q1)
        have hn' := HS0 q1
        obtain ⟨n1, n2⟩ := hn'
        clear HS0
        go_wp2_with (first
                    | (go_at_call 41; refine (someNull_ _ _ [⟨k', n', s'⟩] _ (by simp [maxLen]) (sl1' _ _ (by first | rfl | exact sz1 _ _) _ _ _)).mono ?_; rintro e y ⟨rfl, hb⟩; have K := Lib.hid (KL.below (KL.alloc (KL.push KX.out (.int .i64 k') (.int .i64 n') (.string s') 27) _) hb); clear hb; obtain ⟨HB, ⟨v0, v1, v2, _, _, _, vl⟩, ⟨r0, r1, r2, g0, g1, g2, rl⟩, _⟩ := K.out))
        go_roundw
        case rel => exact ⟨j + 1, true, _, _, by omega, by go_num, rfl, rfl, rfl, by omega, by omega, by rw [HI.out, HD.out]; rfl, K.out.tail⟩
        case measure => simp [intOf]; omega
      · rw [q1] at HD hnn
        clear HS0
        go_wp2_with (first
                    | (go_at_call 41; refine (someNull_ _ _ [⟨k', n', s'⟩] _ (by simp [maxLen]) (sl1' _ _ (by first | rfl | exact sz1 _ _) _ _ _)).mono ?_; rintro e y ⟨rfl, hb⟩; have K := Lib.hid (KL.below (KL.alloc (KL.push KX.out (.int .i64 k') (.int .i64 n') (.string s') 27) _) hb); clear hb; obtain ⟨HB, ⟨v0, v1, v2, _, _, _, vl⟩, ⟨r0, r1, r2, g0, g1, g2, rl⟩, _⟩ := K.out))
        go_roundw
        case rel => exact ⟨j + 1, f, m, t, by omega, by go_num, rfl, rfl, rfl, by omega, by omega, by rw [HI.out, HD.out]; rfl, K.out.tail⟩
        case measure => simp [intOf]; omega
    · have HE : Hid (sumF l (false, 0, 0) = (f, m, t)) := Lib.hid (by rw [HI.out, List.drop_of_length_le (by omega)]; rfl)
      have HR : Hid (sumR (f, m, t) = if f = false then (nulV, 0) else if 1 < max m (-m) then (nulV, 21) else chkI (m * 1099511627776 + t)) := Lib.hid rfl
      cases f
      · go_wp2
        (try simp only [Exit.inBlock, Exit.then])
        exact ret_two rfl rfl KX.out.q.1 rfl ⟨by rw [H.out, HE.out, HR.out]; rfl, _root_.Go.Proofs.YthomeplakcbfoaaGreatDoor.set3 HB _ (Nat.le_refl _) _ _ _⟩
      · by_cases hm : 1 < max m (-m)
        · have HR2 : Hid (sumR (true, m, t) = (nulV, 21)) := Lib.hid (by rw [HR.out, if_neg (by simp), if_pos hm])
          go_wp2_with (first
                      | (go_at_call 90; refine (absolute_ _ (by omega) (by omega) _).mono ?_; rintro e y ⟨rfl, rfl⟩)
                      | (go_at_call 102; refine (checkedInteger_ _ _).mono ?_; rintro e y ⟨rfl, hb⟩; have K := Lib.hid (KL.below KX.out hb); clear hb; obtain ⟨HB, ⟨r0, r1, r2, g0, g1, g2, rl⟩, _⟩ := K.out))
          (try simp only [Exit.inBlock, Exit.then])
          exact ret_two rfl rfl KX.out.q.1 rfl ⟨by rw [H.out, HE.out, HR2.out]; rfl, _root_.Go.Proofs.YthomeplakcbfoaaGreatDoor.set3 HB _ (Nat.le_refl _) _ _ _⟩
        · have HR2 : Hid (sumR (true, m, t) = chkI (m * 1099511627776 + t)) := Lib.hid (by rw [HR.out, if_neg (by simp), if_neg hm])
          go_wp2_with (first
                      | (go_at_call 90; refine (absolute_ _ (by omega) (by omega) _).mono ?_; rintro e y ⟨rfl, rfl⟩)
                      | (go_at_call 102; refine (checkedInteger_ _ _).mono ?_; rintro e y ⟨rfl, hb⟩; have K := Lib.hid (KL.below KX.out hb); clear hb; obtain ⟨HB, ⟨r0, r1, r2, g0, g1, g2, rl⟩, _⟩ := K.out))
          (try simp only [Exit.inBlock, Exit.then])
          exact ret_two rfl rfl K.out.q.1 rfl ⟨by rw [H.out, HE.out, HR2.out]; rfl, _root_.Go.Proofs.YthomeplakcbfoaaGreatDoor.set3 HB _ (Nat.le_refl _) _ _ _⟩

end Go.Proofs.YthomeplakcbfoaaGreatDoor
