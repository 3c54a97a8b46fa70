/-
  Text and Parse of values in plain Lean: what the reference's reader reads, and that both readers are the same.
-/
import Derived.Test.YtchajbcmgdnpmaaGreatDoorQF
import Derived.Lib.AtoiAllCases
namespace Go.Proofs.YtchajbcmgdnpmaaGreatDoor
open Go.RowKit

/-- What stands between quotation marks: of two of them one. -/
def hB : Bs → Bs
  | [] => []
  | [c] => [c]
  | c :: d :: r => if (c == 39) = true then c :: hB r else c :: hB (d :: r)
theorem hB_cons (c : UInt8) (r : Bs) : hB (c :: r) = c :: hB (if (c == 39) = true then r.tail else r) := by
  cases r with
  | nil => simp [hB]
  | cons d t =>
    simp only [hB, List.tail_cons]
    by_cases h : (c == 39) = true
    · rw [if_pos h, if_pos h]
    · rw [if_neg h, if_neg h]
theorem esc_cons' (c : UInt8) (r : Bs) : esc (c :: r) = (if (c == 39) = true then [39, 39] else [c]) ++ esc r := by unfold esc; rw [List.flatMap_cons]
theorem hB_esc (b : Bs) : hB (esc b) = b := by
  induction b with
  | nil => rfl
  | cons c r ih =>
    rw [esc_cons']
    by_cases h : (c == 39) = true
    · rw [if_pos h]
      have e : c = 39 := by simpa using h
      subst e
      rw [List.cons_append, hB_cons, if_pos (by rfl)]
      show 39 :: hB ([39] ++ esc r).tail = _
      rw [show ([39] ++ esc r : Bs).tail = esc r from rfl, ih]
    · rw [if_neg h, List.cons_append, hB_cons, if_neg h]
      show c :: hB ([] ++ esc r) = _
      rw [List.nil_append, ih]
/-- The digits that the reference looks at. -/
def win (l : Bs) : Bs := (l.take 16).drop (if l.head? = some 45 then 1 else 0)
def wholeN (l : Bs) : Int := if l.head? = some 45 then -(valD 0 (win l) : Int) else (valD 0 (win l) : Int)
def wholeS (l : Bs) : Int × Bool := if (win l).all digitB = true then (wholeN l, inR (wholeN l) && (Lib.itoa (wholeN l) == l)) else (0, false)
/-- What the reference takes a string for. -/
def refC (s : ByteArray) : Option Va :=
  if s.data.toList = [110, 117, 108, 108] then some nulV
  else if s.data.toList = [116, 114, 117, 101] then some (booV true) else if s.data.toList = [102, 97, 108, 115, 101] then some (booV false)
  else if 1 < s.size ∧ s.data.toList.head? = some 39 then some (txtV (baOf (hB (s.extract 1 (s.size - 1)).data.toList)))
  else if (wholeS s.data.toList).2 = true then some (intV (wholeS s.data.toList).1) else none
def refP (s : ByteArray) : Va × Int := match refC s with
  | none => (nulV, 30)
  | some v => if (txtS v).2 = 0 ∧ (txtS v).1 = s then (v, 0) else (nulV, 30)

theorem dec_len : ∀ (k u : Nat), u < 10 ^ (k + 1) → (Lib.decDigits u).length ≤ k + 1
  | 0, u, h => by rw [dec_one u (by simpa using h)]; simp
  | k + 1, u, h => by
    by_cases h1 : u < 10
    · rw [dec_one u h1]; simp
    · rw [dec_more u h1, List.length_append]
      have := dec_len k (u / 10) (by rw [Nat.pow_succ] at h; omega)
      simp only [List.length_cons, List.length_nil]
      omega
theorem dec_head (u : Nat) : (Lib.decDigits u).head? ≠ some 45 ∧ (Lib.decDigits u).head? ≠ some 43 ∧ (Lib.decDigits u).head? ≠ some 39 ∧ (Lib.decDigits u).head? ≠ some 110 ∧ (Lib.decDigits u).head? ≠ some 116 ∧ (Lib.decDigits u).head? ≠ some 102 := by
  obtain ⟨h1, -, h3⟩ := dec_digits u
  obtain ⟨c, r, e, hc⟩ := head_all h1 h3
  rw [e]
  simp only [List.head?_cons, ne_eq, Option.some.injEq]
  refine ⟨?_, ?_, ?_, ?_, ?_, ?_⟩ <;> (rintro rfl; revert hc; decide)
theorem parseU_dig : ∀ (l : Bs) (a : Nat), l.all digitB = true → valD a l ≤ 1099511627776 → Lib.parseUint10 a l = .ok (valD a l)
  | [], a, _, _ => rfl
  | c :: r, a, h, hv => by
    simp only [List.all_cons, Bool.and_eq_true] at h
    have hle : ∀ (l : Bs) (a : Nat), a ≤ valD a l := by
      intro l
      induction l with
      | nil => intro a; exact Nat.le_refl _
      | cons c r ih => intro a; refine Nat.le_trans ?_ (ih (stepD a c)); unfold stepD; omega
    have h1 := hle r (stepD a c)
    have h2 : valD a (c :: r) = valD (stepD a c) r := rfl
    have h3 : 48 ≤ c.toNat ∧ c.toNat ≤ 57 := by have := h.1; simpa [digitB] using this
    rw [h2] at hv ⊢
    have h4 : stepD a c = a * 10 + (c.toNat - 48) := by unfold stepD; omega
    simp only [Lib.parseUint10]
    rw [if_pos h3, if_neg (by omega), if_neg (by omega), ← h4]
    exact parseU_dig r _ h.2 hv
theorem atoi_itoa (n : Int) (h0 : -1099511627776 ≤ n) (h1 : n ≤ 1099511627776) : Lib.atoiAll (Lib.itoa n) = .ok n := by
  have hm : ∀ u : Nat, u ≤ 1099511627776 → Lib.parseMag (Lib.decDigits u) = .ok u := by
    intro u hu
    obtain ⟨a1, a2, a3⟩ := dec_digits u
    unfold Lib.parseMag
    rw [if_neg (by intro e; rw [e] at a3; simp at a3), parseU_dig _ 0 a1 (by rw [a2]; exact hu), a2]
  unfold Lib.itoa
  by_cases hn : n < 0
  · rw [if_pos hn, Lib.atoiAll_minus, hm _ (by omega)]
    simp only [Lib.signed]
    rw [if_neg (by omega)]
    congr 1
    omega
  · rw [if_neg hn]
    have hq := hm n.toNat (by omega)
    obtain ⟨a1, a2, a3⟩ := dec_digits n.toNat
    obtain ⟨c, r, e, hc⟩ := head_all a1 a3
    rw [e] at hq ⊢
    rw [Lib.atoiAll_plain c r (by intro e2; simp [digitB, e2] at hc) (by intro e2; simp [digitB, e2] at hc), hq]
    simp only [Lib.signless]
    rw [if_neg (by omega)]
    congr 1
    omega
theorem itoa_head (n : Int) : (n < 0 ∧ Lib.itoa n = 45 :: Lib.decDigits n.natAbs) ∨ (0 ≤ n ∧ Lib.itoa n = Lib.decDigits n.toNat) := by
  unfold Lib.itoa
  by_cases hn : n < 0
  · exact .inl ⟨hn, if_pos hn⟩
  · exact .inr ⟨by omega, if_neg hn⟩
theorem itoa_not (n : Int) : (Lib.itoa n).head? ≠ some 39 ∧ (Lib.itoa n).head? ≠ some 110 ∧ (Lib.itoa n).head? ≠ some 116 ∧ (Lib.itoa n).head? ≠ some 102 := by
  rcases itoa_head n with ⟨-, e⟩ | ⟨-, e⟩
  · rw [e]; simp
  · rw [e]; exact (dec_head _).2.2
theorem win_itoa (n : Int) (h0 : -1099511627776 ≤ n) (h1 : n ≤ 1099511627776) : (win (Lib.itoa n)).all digitB = true ∧ wholeN (Lib.itoa n) = n := by
  have hl : ∀ u : Nat, u ≤ 1099511627776 → (Lib.decDigits u).length ≤ 13 := fun u hu => dec_len 12 u (by omega)
  rcases itoa_head n with ⟨hn, e⟩ | ⟨hn, e⟩
  · have hw : win (Lib.itoa n) = Lib.decDigits n.natAbs := by
      unfold win
      have := hl n.natAbs (by omega)
      rw [e, if_pos (by rfl), List.take_of_length_le (by simp; omega)]
      rfl
    obtain ⟨a1, a2, -⟩ := dec_digits n.natAbs
    refine ⟨by rw [hw]; exact a1, ?_⟩
    unfold wholeN
    rw [hw, a2, e, if_pos (by rfl)]
    omega
  · have hw : win (Lib.itoa n) = Lib.decDigits n.toNat := by
      unfold win
      have := hl n.toNat (by omega)
      rw [e, if_neg (dec_head _).1, List.take_of_length_le (by omega)]
      rfl
    obtain ⟨a1, a2, -⟩ := dec_digits n.toNat
    refine ⟨by rw [hw]; exact a1, ?_⟩
    unfold wholeN
    rw [hw, a2, e, if_neg (dec_head _).1]
    omega
theorem whole_itoa (n : Int) (h0 : -1099511627776 ≤ n) (h1 : n ≤ 1099511627776) : wholeS (Lib.itoa n) = (n, true) := by
  obtain ⟨a, b⟩ := win_itoa n h0 h1
  unfold wholeS
  rw [if_pos a, b]
  simp [inR]
  omega
theorem ok_cases (v : Va) (h : v.ok = true) : v = nulV ∨ (∃ n, -1099511627776 ≤ n ∧ n ≤ 1099511627776 ∧ v = intV n) ∨ (∃ b : Bs, v = txtV (baOf b)) ∨ ∃ b, v = booV b := by
  obtain ⟨k, n, s⟩ := v
  have h' : vld k n s = true := h
  by_cases k0 : k = 0
  · subst k0
    rw [vld0, eqV_iff] at h'
    obtain ⟨-, rfl, rfl⟩ := h'
    exact .inl rfl
  · by_cases k1 : k = 1
    · subst k1
      obtain ⟨a, b⟩ := int_in 1 n s rfl h'
      rw [vld1, Bool.and_eq_true] at h'
      have e : s = ⟨#[]⟩ := by
        have := h'.2
        rw [toList_dat] at this
        exact ba_ext (by simpa using this)
      subst e
      exact .inr (.inl ⟨n, a, b, rfl⟩)
    · by_cases k2 : k = 2
      · subst k2
        rw [vld2, Bool.and_eq_true] at h'
        have e : n = 0 := by simpa using h'.1
        subst e
        exact .inr (.inr (.inl ⟨s.data.toList, by rw [baOf_of]; rfl⟩))
      · by_cases k3 : k = 3
        · subst k3
          rw [vld3, Bool.or_eq_true] at h'
          rcases h' with q | q
          · obtain ⟨-, rfl, rfl⟩ := (eqV_iff _ _ _ _ _ _).1 q
            exact .inr (.inr (.inr ⟨false, rfl⟩))
          · obtain ⟨-, rfl, rfl⟩ := (eqV_iff _ _ _ _ _ _).1 q
            exact .inr (.inr (.inr ⟨true, rfl⟩))
        · rw [vldx k n s k0 k1 k2 k3] at h'; cases h'
theorem txt_ok {v : Va} (h : (txtS v).2 = 0) : v.ok = true := by
  cases q : v.ok with
  | true => rfl
  | false => unfold txtS at h; rw [if_pos q] at h; simp at h
theorem quo_in (b : Bs) : 1 < (baOf (quoB b)).size ∧ ((baOf (quoB b)).extract 1 ((baOf (quoB b)).size - 1)).data.toList = esc b := by
  have hsz : (baOf (quoB b)).size = (esc b).length + 2 := by rw [baOf_size, quoB_esc]; simp
  refine ⟨by omega, ?_⟩
  rw [Lib.extract_data, hsz, baOf_data, quoB_esc]
  simp
theorem both_txt (v : Va) (h : v.ok = true) : (txtS v).2 = 0 ∧ likV (txtS v).1 = v ∧ refC (txtS v).1 = some v := by
  have hs : (txtS v).2 = 0 := by
    unfold txtS
    rw [if_neg (by simp [h])]
    split
    · rfl
    · split
      · rfl
      · split <;> rfl
  refine ⟨hs, ?_⟩
  rcases ok_cases v h with rfl | ⟨n, n0, n1, rfl⟩ | ⟨b, rfl⟩ | ⟨b, rfl⟩
  · have e : (txtS nulV).1 = nullB := by unfold txtS; rw [if_neg (by simp [h])]; rfl
    rw [e]
    unfold likV refC
    rw [show nullB.data.toList = [110, 117, 108, 108] from rfl, if_neg (by decide), if_neg (by decide), if_neg (fun x => absurd x.2 (by decide)), if_pos rfl]
    exact ⟨rfl, rfl⟩
  · have e : (txtS (intV n)).1 = baOf (Lib.itoa n) := by unfold txtS; rw [if_neg (by simp [h])]; rfl
    obtain ⟨q1, q2, q3, q4⟩ := itoa_not n
    have hh : ∀ (c : UInt8) (r : Bs), (Lib.itoa n).head? ≠ some c → Lib.itoa n ≠ c :: r := by intro c r hc e; rw [e] at hc; exact hc rfl
    rw [e]
    unfold likV refC
    rw [baOf_data, if_neg (hh _ _ q3), if_neg (hh _ _ q4), if_neg (fun x => q1 x.2), if_neg (hh _ _ q2), if_neg (hh _ _ q3), if_neg (hh _ _ q4), if_neg (fun x => q1 x.2), whole_itoa n n0 n1, if_pos rfl]
    refine ⟨?_, rfl⟩
    unfold atoiO
    rw [atoi_itoa n n0 n1]
  · have e : (txtS (txtV (baOf b))).1 = baOf (quoB b) := by unfold txtS; rw [if_neg (by simp [h])]; rfl
    obtain ⟨q1, q2⟩ := quo_in b
    have hh : ∀ (c : UInt8) (r : Bs), (quoB b).head? ≠ some c → quoB b ≠ c :: r := by intro c r hc e; rw [e] at hc; exact hc rfl
    have q110 : (quoB b).head? ≠ some 110 := by rw [quoB_esc]; simp
    have q116 : (quoB b).head? ≠ some 116 := by rw [quoB_esc]; simp
    have q102 : (quoB b).head? ≠ some 102 := by rw [quoB_esc]; simp
    have q39 : (quoB b).head? = some 39 := by rw [quoB_esc]; rfl
    rw [e]
    unfold likV refC
    rw [baOf_data, if_neg (hh _ _ q116), if_neg (hh _ _ q102), if_pos ⟨q1, q39⟩, if_neg (hh _ _ q110), if_neg (hh _ _ q116), if_neg (hh _ _ q102), if_pos ⟨q1, q39⟩, q2, all_half, hB_esc]
    exact ⟨rfl, rfl⟩
  · cases b
    · have e : (txtS (booV false)).1 = falseB := by unfold txtS; rw [if_neg (by simp [h]), if_neg (by decide), if_neg (by decide), if_pos (show (booV false).k = 3 from rfl), if_neg (by simp [tru, booV, eqV, b2i])]
      rw [e]
      unfold likV refC
      rw [show falseB.data.toList = [102, 97, 108, 115, 101] from rfl, if_neg (by decide), if_pos rfl, if_neg (by decide), if_neg (by decide), if_pos rfl]
      exact ⟨rfl, rfl⟩
    · have e : (txtS (booV true)).1 = trueB := by unfold txtS; rw [if_neg (by simp [h]), if_neg (by decide), if_neg (by decide), if_pos (show (booV true).k = 3 from rfl), if_pos (by simp [tru, booV, eqV, b2i])]
      rw [e]
      unfold likV refC
      rw [show trueB.data.toList = [116, 114, 117, 101] from rfl, if_pos rfl, if_neg (by decide), if_pos rfl]
      exact ⟨rfl, rfl⟩
/-- Both readers read the same. -/
theorem refP_eq (s : ByteArray) : refP s = parS s := by
  by_cases h : ∃ v, txtS v = (s, 0)
  · obtain ⟨v, hv⟩ := h
    have ho : v.ok = true := txt_ok (by rw [hv])
    obtain ⟨-, a, b⟩ := both_txt v ho
    rw [hv] at a b
    simp only at a b
    unfold refP parS
    rw [a, b]
  · have hn : ∀ v, ¬ ((txtS v).2 = 0 ∧ (txtS v).1 = s) := fun v q => h ⟨v, Prod.ext q.2 q.1⟩
    unfold refP parS
    rw [if_neg (hn _)]
    split <;> first | rfl | rw [if_neg (hn _)]
/-- What is written is read so. -/
theorem parS_txt (v : Va) (h : (txtS v).2 = 0) : parS (txtS v).1 = (v, 0) := by
  obtain ⟨a, b, -⟩ := both_txt v (txt_ok h)
  unfold parS
  rw [b, if_pos ⟨a, rfl⟩]
end Go.Proofs.YtchajbcmgdnpmaaGreatDoor
