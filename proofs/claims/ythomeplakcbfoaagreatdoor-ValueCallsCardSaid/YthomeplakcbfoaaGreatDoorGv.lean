/-
  The reference of Text and Parse.
-/
import Derived.Test.YthomeplakcbfoaaGreatDoorQF
import Derived.Lib.AtoiAllCases
namespace Go.Proofs.YthomeplakcbfoaaGreatDoor
section
open Go.RowKit

/-- What stands between quotation marks: of two of them one. -/
def hB : Bs → Bs
  | [] => []
  | [c] => [c]
  | c :: d :: r => if (c == 39) = true then c :: hB r else c :: hB (d :: r)
theorem hB_cons (c : UInt8) (r : Bs) : hB (c :: r) = c :: hB (if (c == 39) = true then r.tail else r) := by
  cases r with
  | nil => simp [hB]
  | cons d t =>
    simp only [hB, List.tail_cons]
    by_cases h : (c == 39) = true
    · rw [if_pos h, if_pos h]
    · rw [if_neg h, if_neg h]
theorem esc_cons' (c : UInt8) (r : Bs) : esc (c :: r) = (if (c == 39) = true then [39, 39] else [c]) ++ esc r := by unfold esc; rw [List.flatMap_cons]
theorem hB_esc (b : Bs) : hB (esc b) = b := by
  induction b with
  | nil => rfl
  | cons c r ih =>
    rw [esc_cons']
    by_cases h : (c == 39) = true
    · rw [if_pos h]
      have e : c = 39 := by simpa using h
      subst e
      rw [List.cons_append, hB_cons, if_pos (by rfl)]
      show 39 :: hB ([39] ++ esc r).tail = _
      rw [show ([39] ++ esc r : Bs).tail = esc r from rfl, ih]
    · rw [if_neg h, List.cons_append, hB_cons, if_neg h]
      show c :: hB ([] ++ esc r) = _
      rw [List.nil_append, ih]
/-- The digits that the reference looks at. -/
def win (l : Bs) : Bs := (l.take 16).drop (if l.head? = some 45 then 1 else 0)
def wholeN (l : Bs) : Int := if l.head? = some 45 then -(valD 0 (win l) : Int) else (valD 0 (win l) : Int)
def wholeS (l : Bs) : Int × Bool := if (win l).all digitB = true then (wholeN l, inR (wholeN l) && (Lib.itoa (wholeN l) == l)) else (0, false)
/-- What the reference takes a string for. -/
def refC (s : ByteArray) : Option Va :=
  if s.data.toList = [110, 117, 108, 108] then some nulV
  else if s.data.toList = [116, 114, 117, 101] then some (booV true) else if s.data.toList = [102, 97, 108, 115, 101] then some (booV false)
  else if 1 < s.size ∧ s.data.toList.head? = some 39 then some (txtV (baOf (hB (s.extract 1 (s.size - 1)).data.toList)))
  else if (wholeS s.data.toList).2 = true then some (intV (wholeS s.data.toList).1) else none
def refP (s : ByteArray) : Va × Int := match refC s with
  | none => (nulV, 30)
  | some v => if (txtS v).2 = 0 ∧ (txtS v).1 = s then (v, 0) else (nulV, 30)

theorem dec_len : ∀ (k u : Nat), u < 10 ^ (k + 1) → (Lib.decDigits u).length ≤ k + 1
  | 0, u, h => by rw [dec_one u (by simpa using h)]; simp
  | k + 1, u, h => by
    by_cases h1 : u < 10
    · rw [dec_one u h1]; simp
    · rw [dec_more u h1, List.length_append]
      have := dec_len k (u / 10) (by rw [Nat.pow_succ] at h; omega)
      simp only [List.length_cons, List.length_nil]
      omega
theorem dec_head (u : Nat) : (Lib.decDigits u).head? ≠ some 45 ∧ (Lib.decDigits u).head? ≠ some 43 ∧ (Lib.decDigits u).head? ≠ some 39 ∧ (Lib.decDigits u).head? ≠ some 110 ∧ (Lib.decDigits u).head? ≠ some 116 ∧ (Lib.decDigits u).head? ≠ some 102 := by
  obtain ⟨h1, -, h3⟩ := dec_digits u
  obtain ⟨c, r, e, hc⟩ := head_all h1 h3
  rw [e]
  simp only [List.head?_cons, ne_eq, Option.some.injEq]
  refine ⟨?_, ?_, ?_, ?_, ?_, ?_⟩ <;> (rintro rfl; revert hc; decide)
theorem parseU_dig : ∀ (l : Bs) (a : Nat), l.all digitB = true → valD a l ≤ 1099511627776 → Lib.parseUint10 a l = .ok (valD a l)
  | [], a, _, _ => rfl
  | c :: r, a, h, hv => by
    simp only [List.all_cons, Bool.and_eq_true] at h
    have hle : ∀ (l : Bs) (a : Nat), a ≤ valD a l := by
      intro l
      induction l with
      | nil => intro a; exact Nat.le_refl _
      | cons c r ih => intro a; refine Nat.le_trans ?_ (ih (stepD a c)); unfold stepD; omega
    have h1 := hle r (stepD a c)
    have h2 : valD a (c :: r) = valD (stepD a c) r := rfl
    have h3 : 48 ≤ c.toNat ∧ c.toNat ≤ 57 := by have := h.1; simpa [digitB] using this
    rw [h2] at hv ⊢
    have h4 : stepD a c = a * 10 + (c.toNat - 48) := by unfold stepD; omega
    simp only [Lib.parseUint10]
    rw [if_pos h3, if_neg (by omega), if_neg (by omega), ← h4]
    exact parseU_dig r _ h.2 hv
theorem atoi_itoa (n : Int) (h0 : -1099511627776 ≤ n) (h1 : n ≤ 1099511627776) : Lib.atoiAll (Lib.itoa n) = .ok n := by
  have hm : ∀ u : Nat, u ≤ 1099511627776 → Lib.parseMag (Lib.decDigits u) = .ok u := by
    intro u hu
    obtain ⟨a1, a2, a3⟩ := dec_digits u
    unfold Lib.parseMag
    rw [if_neg (by intro e; rw [e] at a3; simp at a3), parseU_dig _ 0 a1 (by rw [a2]; exact hu), a2]
  unfold Lib.itoa
  by_cases hn : n < 0
  · rw [if_pos hn, Lib.atoiAll_minus, hm _ (by omega)]
    simp only [Lib.signed]
    rw [if_neg (by omega)]
    congr 1
    omega
  · rw [if_neg hn]
    have hq := hm n.toNat (by omega)
    obtain ⟨a1, a2, a3⟩ := dec_digits n.toNat
    obtain ⟨c, r, e, hc⟩ := head_all a1 a3
    rw [e] at hq ⊢
    rw [Lib.atoiAll_plain c r (by intro e2; simp [digitB, e2] at hc) (by intro e2; simp [digitB, e2] at hc), hq]
    simp only [Lib.signless]
    rw [if_neg (by omega)]
    congr 1
    omega
theorem itoa_head (n : Int) : (n < 0 ∧ Lib.itoa n = 45 :: Lib.decDigits n.natAbs) ∨ (0 ≤ n ∧ Lib.itoa n = Lib.decDigits n.toNat) := by
  unfold Lib.itoa
  by_cases hn : n < 0
  · exact .inl ⟨hn, if_pos hn⟩
  · exact .inr ⟨by omega, if_neg hn⟩
theorem itoa_not (n : Int) : (Lib.itoa n).head? ≠ some 39 ∧ (Lib.itoa n).head? ≠ some 110 ∧ (Lib.itoa n).head? ≠ some 116 ∧ (Lib.itoa n).head? ≠ some 102 := by
  rcases itoa_head n with ⟨-, e⟩ | ⟨-, e⟩
  · rw [e]; simp
  · rw [e]; exact (dec_head _).2.2
theorem win_itoa (n : Int) (h0 : -1099511627776 ≤ n) (h1 : n ≤ 1099511627776) : (win (Lib.itoa n)).all digitB = true ∧ wholeN (Lib.itoa n) = n := by
  have hl : ∀ u : Nat, u ≤ 1099511627776 → (Lib.decDigits u).length ≤ 13 := fun u hu => dec_len 12 u (by omega)
  rcases itoa_head n with ⟨hn, e⟩ | ⟨hn, e⟩
  · have hw : win (Lib.itoa n) = Lib.decDigits n.natAbs := by
      unfold win
      have := hl n.natAbs (by omega)
      rw [e, if_pos (by rfl), List.take_of_length_le (by simp; omega)]
      rfl
    obtain ⟨a1, a2, -⟩ := dec_digits n.natAbs
    refine ⟨by rw [hw]; exact a1, ?_⟩
    unfold wholeN
    rw [hw, a2, e, if_pos (by rfl)]
    omega
  · have hw : win (Lib.itoa n) = Lib.decDigits n.toNat := by
      unfold win
      have := hl n.toNat (by omega)
      rw [e, if_neg (dec_head _).1, List.take_of_length_le (by omega)]
      rfl
    obtain ⟨a1, a2, -⟩ := dec_digits n.toNat
    refine ⟨by rw [hw]; exact a1, ?_⟩
    unfold wholeN
    rw [hw, a2, e, if_neg (dec_head _).1]
    omega
theorem whole_itoa (n : Int) (h0 : -1099511627776 ≤ n) (h1 : n ≤ 1099511627776) : wholeS (Lib.itoa n) = (n, true) := by
  obtain ⟨a, b⟩ := win_itoa n h0 h1
  unfold wholeS
  rw [if_pos a, b]
  simp [inR]
  omega
theorem ok_cases (v : Va) (h : v.ok = true) : v = nulV ∨ (∃ n, -1099511627776 ≤ n ∧ n ≤ 1099511627776 ∧ v = intV n) ∨ (∃ b : Bs, v = txtV (baOf b)) ∨ ∃ b, v = booV b := by
  obtain ⟨k, n, s⟩ := v
  have h' : vld k n s = true := h
  by_cases k0 : k = 0
  · subst k0
    rw [vld0, eqV_iff] at h'
    obtain ⟨-, rfl, rfl⟩ := h'
    exact .inl rfl
  · by_cases k1 : k = 1
    · subst k1
      obtain ⟨a, b⟩ := int_in 1 n s rfl h'
      rw [vld1, Bool.and_eq_true] at h'
      have e : s = ⟨#[]⟩ := by
        have := h'.2
        rw [toList_dat] at this
        exact ba_ext (by simpa using this)
      subst e
      exact .inr (.inl ⟨n, a, b, rfl⟩)
    · by_cases k2 : k = 2
      · subst k2
        rw [vld2, Bool.and_eq_true] at h'
        have e : n = 0 := by simpa using h'.1
        subst e
        exact .inr (.inr (.inl ⟨s.data.toList, by rw [baOf_of]; rfl⟩))
      · by_cases k3 : k = 3
        · subst k3
          rw [vld3, Bool.or_eq_true] at h'
          rcases h' with q | q
          · obtain ⟨-, rfl, rfl⟩ := (eqV_iff _ _ _ _ _ _).1 q
            exact .inr (.inr (.inr ⟨false, rfl⟩))
          · obtain ⟨-, rfl, rfl⟩ := (eqV_iff _ _ _ _ _ _).1 q
            exact .inr (.inr (.inr ⟨true, rfl⟩))
        · rw [vldx k n s k0 k1 k2 k3] at h'; cases h'
theorem txt_ok {v : Va} (h : (txtS v).2 = 0) : v.ok = true := by
  cases q : v.ok with
  | true => rfl
  | false => unfold txtS at h; rw [if_pos q] at h; simp at h
theorem quo_in (b : Bs) : 1 < (baOf (quoB b)).size ∧ ((baOf (quoB b)).extract 1 ((baOf (quoB b)).size - 1)).data.toList = esc b := by
  have hsz : (baOf (quoB b)).size = (esc b).length + 2 := by rw [baOf_size, quoB_esc]; simp
  refine ⟨by omega, ?_⟩
  rw [Lib.extract_data, hsz, baOf_data, quoB_esc]
  simp
theorem both_txt (v : Va) (h : v.ok = true) : (txtS v).2 = 0 ∧ likV (txtS v).1 = v ∧ refC (txtS v).1 = some v := by
  have hs : (txtS v).2 = 0 := by
    unfold txtS
    rw [if_neg (by simp [h])]
    split
    · rfl
    · split
      · rfl
      · split <;> rfl
  refine ⟨hs, ?_⟩
  rcases ok_cases v h with rfl | ⟨n, n0, n1, rfl⟩ | ⟨b, rfl⟩ | ⟨b, rfl⟩
  · have e : (txtS nulV).1 = nullB := by unfold txtS; rw [if_neg (by simp [h])]; rfl
    rw [e]
    unfold likV refC
    rw [show nullB.data.toList = [110, 117, 108, 108] from rfl, if_neg (by decide), if_neg (by decide), if_neg (fun x => absurd x.2 (by decide)), if_pos rfl]
    exact ⟨rfl, rfl⟩
  · have e : (txtS (intV n)).1 = baOf (Lib.itoa n) := by unfold txtS; rw [if_neg (by simp [h])]; rfl
    obtain ⟨q1, q2, q3, q4⟩ := itoa_not n
    have hh : ∀ (c : UInt8) (r : Bs), (Lib.itoa n).head? ≠ some c → Lib.itoa n ≠ c :: r := by intro c r hc e; rw [e] at hc; exact hc rfl
    rw [e]
    unfold likV refC
    rw [baOf_data, if_neg (hh _ _ q3), if_neg (hh _ _ q4), if_neg (fun x => q1 x.2), if_neg (hh _ _ q2), if_neg (hh _ _ q3), if_neg (hh _ _ q4), if_neg (fun x => q1 x.2), whole_itoa n n0 n1, if_pos rfl]
    refine ⟨?_, rfl⟩
    unfold atoiO
    rw [atoi_itoa n n0 n1]
  · have e : (txtS (txtV (baOf b))).1 = baOf (quoB b) := by unfold txtS; rw [if_neg (by simp [h])]; rfl
    obtain ⟨q1, q2⟩ := quo_in b
    have hh : ∀ (c : UInt8) (r : Bs), (quoB b).head? ≠ some c → quoB b ≠ c :: r := by intro c r hc e; rw [e] at hc; exact hc rfl
    have q110 : (quoB b).head? ≠ some 110 := by rw [quoB_esc]; simp
    have q116 : (quoB b).head? ≠ some 116 := by rw [quoB_esc]; simp
    have q102 : (quoB b).head? ≠ some 102 := by rw [quoB_esc]; simp
    have q39 : (quoB b).head? = some 39 := by rw [quoB_esc]; rfl
    rw [e]
    unfold likV refC
    rw [baOf_data, if_neg (hh _ _ q116), if_neg (hh _ _ q102), if_pos ⟨q1, q39⟩, if_neg (hh _ _ q110), if_neg (hh _ _ q116), if_neg (hh _ _ q102), if_pos ⟨q1, q39⟩, q2, all_half, hB_esc]
    exact ⟨rfl, rfl⟩
  · cases b
    · have e : (txtS (booV false)).1 = falseB := by unfold txtS; rw [if_neg (by simp [h]), if_neg (by decide), if_neg (by decide), if_pos (show (booV false).k = 3 from rfl), if_neg (by simp [tru, booV, eqV, b2i])]
      rw [e]
      unfold likV refC
      rw [show falseB.data.toList = [102, 97, 108, 115, 101] from rfl, if_neg (by decide), if_pos rfl, if_neg (by decide), if_neg (by decide), if_pos rfl]
      exact ⟨rfl, rfl⟩
    · have e : (txtS (booV true)).1 = trueB := by unfold txtS; rw [if_neg (by simp [h]), if_neg (by decide), if_neg (by decide), if_pos (show (booV true).k = 3 from rfl), if_pos (by simp [tru, booV, eqV, b2i])]
      rw [e]
      unfold likV refC
      rw [show trueB.data.toList = [116, 114, 117, 101] from rfl, if_pos rfl, if_neg (by decide), if_pos rfl]
      exact ⟨rfl, rfl⟩
/-- Both readers read the same. -/
theorem refP_eq (s : ByteArray) : refP s = parS s := by
  by_cases h : ∃ v, txtS v = (s, 0)
  · obtain ⟨v, hv⟩ := h
    have ho : v.ok = true := txt_ok (by rw [hv])
    obtain ⟨-, a, b⟩ := both_txt v ho
    rw [hv] at a b
    simp only at a b
    unfold refP parS
    rw [a, b]
  · have hn : ∀ v, ¬ ((txtS v).2 = 0 ∧ (txtS v).1 = s) := fun v q => h ⟨v, Prod.ext q.2 q.1⟩
    unfold refP parS
    rw [if_neg (hn _)]
    split <;> first | rfl | rw [if_neg (hn _)]
/-- What is written is read so. -/
theorem parS_txt (v : Va) (h : (txtS v).2 = 0) : parS (txtS v).1 = (v, 0) := by
  obtain ⟨a, b, -⟩ := both_txt v (txt_ok h)
  unfold parS
  rw [b, if_pos ⟨a, rfl⟩]
end
end Go.Proofs.YthomeplakcbfoaaGreatDoor
namespace Go.Proofs.YthomeplakcbfoaaGreatDoor
section
open Go.RowKit

theorem valD_lt : ∀ (l : Bs) (a : Nat), l.all digitB = true → valD a l < (a + 1) * 10 ^ l.length
  | [], a, _ => by simp [valD]
  | c :: r, a, h => by
    simp only [List.all_cons, Bool.and_eq_true] at h
    have h3 : 48 ≤ c.toNat ∧ c.toNat ≤ 57 := by have := h.1; simpa [digitB] using this
    have ih := valD_lt r (stepD a c) h.2
    have h4 : stepD a c + 1 ≤ (a + 1) * 10 := by unfold stepD; omega
    have h5 := Nat.mul_le_mul_right (10 ^ r.length) h4
    have e : valD a (c :: r) = valD (stepD a c) r := rfl
    rw [e, List.length_cons, Nat.pow_succ]
    calc valD (stepD a c) r < (stepD a c + 1) * 10 ^ r.length := ih
      _ ≤ (a + 1) * 10 * 10 ^ r.length := h5
      _ = (a + 1) * (10 ^ r.length * 10) := by rw [Nat.mul_assoc, Nat.mul_comm 10]
/-- Digits up to a place. -/
def seg (l : Bs) (f k : Nat) : Bs := (l.take k).drop f
theorem seg_snoc (l : Bs) (f k : Nat) (hf : f ≤ k) (hk : k < l.length) : seg l f (k + 1) = seg l f k ++ [l[k]] := by
  unfold seg
  rw [List.take_succ_eq_append_getElem hk, List.drop_append_of_le_length (by rw [List.length_take]; omega)]
theorem seg_nil (l : Bs) (f : Nat) : seg l f f = [] := by unfold seg; apply List.drop_of_length_le; rw [List.length_take]; omega
theorem seg_len (l : Bs) (f k : Nat) : (seg l f k).length ≤ k := by unfold seg; rw [List.length_drop, List.length_take]; omega
theorem seg_lt (l : Bs) (f k : Nat) (hk : k ≤ 16) (h : (seg l f k).all digitB = true) : valD 0 (seg l f k) < 10000000000000000 := by
  have h1 := valD_lt _ 0 h
  have h2 := Nat.pow_le_pow_right (n := 10) (by omega) (Nat.le_trans (seg_len l f k) hk)
  omega
def frm (l : Bs) : Nat := if l.head? = some 45 then 1 else 0
theorem win_seg (l : Bs) : win l = seg l (frm l) 16 := rfl
theorem win_end (l : Bs) (k : Nat) (hk : k ≤ 16) (h : k = 16 ∨ l.length ≤ k) : win l = seg l (frm l) k := by
  rcases h with rfl | h
  · rfl
  · rw [win_seg]
    unfold seg
    rw [List.take_of_length_le h, List.take_of_length_le (by omega)]
theorem win_bad (l : Bs) (k : Nat) (hf : frm l ≤ k) (h16 : k < 16) (hk : k < l.length) (h : digitB l[k] = false) : (win l).all digitB = false := by
  rw [win_seg]
  have e : seg l (frm l) 16 = seg l (frm l) (k + 1) ++ (l.drop (k + 1)).take (15 - k) := by
    unfold seg
    have : l.take 16 = l.take (k + 1) ++ (l.drop (k + 1)).take (15 - k) := by
      rw [show 16 = (k + 1) + (15 - k) by omega, List.take_add]
    rw [this, List.drop_append_of_le_length (by rw [List.length_take]; omega)]
  rw [e, seg_snoc l _ k hf hk, List.all_append, List.all_append]
  simp [h]
theorem byteD (c : UInt8) : digitB c = true ↔ 48 ≤ (c.toNat : Int) ∧ (c.toNat : Int) ≤ 57 := by simp [digitB]; omega
set_option maxRecDepth 100000 in
set_option maxHeartbeats 2000000 in
theorem refWhole_ (s : ByteArray) (w : World) (hs : s.size ≤ 4000000) : Calls Tryz.prog 56 #[.string s] w fun e w' => e = .returned (.tuple #[.int .i64 (wholeS s.data.toList).1, .bool (wholeS s.data.toList).2]) ∧ Below w.heap.size w w' := by
  have HSZ : Hid (s.data.toList.length = s.size) := Lib.hid (by simp)
  have HS : Hid (wholeS s.data.toList = if (win s.data.toList).all digitB = true then (wholeN s.data.toList, inR (wholeN s.data.toList) && (Lib.itoa (wholeN s.data.toList) == s.data.toList)) else (0, false)) := Lib.hid rfl
  have HI := Lib.hid fun n x => isInt_ n x
  have HD := Lib.hid fun n h0 h1 x => digits_ n h0 h1 x
  have HHD : (s.size = 0 ∧ frm s.data.toList = 0) ∨ (¬ s.size = 0 ∧ frm s.data.toList = 0 ∧ ∃ h0 : 0 < s.size, s[0] ≠ 45) ∨ (¬ s.size = 0 ∧ frm s.data.toList = 1 ∧ ∃ h0 : 0 < s.size, s[0] = 45) := by
    by_cases h : s.size = 0
    · refine .inl ⟨h, ?_⟩
      have : s.data.toList = [] := List.eq_nil_of_length_eq_zero (by rw [HSZ.out]; exact h)
      unfold frm
      rw [this]
      rfl
    · obtain ⟨c, r, hcr, h0, hc⟩ := ne_emp h
      by_cases h45 : c = 45
      · exact .inr (.inr ⟨h, by unfold frm; rw [hcr, h45]; rfl, h0, by rw [hc, h45]⟩)
      · exact .inr (.inl ⟨h, by unfold frm; rw [hcr]; simp [h45], h0, by rw [hc]; exact h45⟩)
  have HN : Hid (wholeN s.data.toList = if frm s.data.toList = 1 then -(valD 0 (win s.data.toList) : Int) else (valD 0 (win s.data.toList) : Int)) := Lib.hid (by
    unfold wholeN frm
    by_cases q : s.data.toList.head? = some 45
    · rw [if_pos q, if_pos q, if_pos rfl]
    · rw [if_neg q, if_neg q, if_neg (by omega)])
  rcases HHD with ⟨h0, hf⟩ | ⟨h0, hf, hp, hc⟩ | ⟨h0, hf, hp, hc⟩
  · have hse : s = ⟨#[]⟩ := ba_ext (List.eq_nil_of_length_eq_zero (by rw [HSZ.out]; exact h0))
    have hne : (!s.toList.isEmpty) = false := by rw [toList_dat, hse]; rfl
    have HF := Lib.hid hf
    clear hf hse
    go_enter Tryz.func56, Tryz.ntmps56
    go_wp2_with fail
    go_loop [4, 6] (fun n i => ∃ k : Nat, 0 ≤ k ∧ k ≤ 16 ∧ k ≤ s.size ∧ i = .int .i64 k ∧ n = .int .i64 (valD 0 (seg s.data.toList 0 k) : Nat) ∧ (seg s.data.toList 0 k).all digitB = true) (fun n i => 16 - (intOf i).toNat)
    case atStart => exact ⟨0, Nat.le_refl _, by omega, by omega, rfl, by rw [seg_nil]; rfl, by rw [seg_nil]; rfl⟩
    case round =>
      obtain ⟨k, hFk, hk16, hks, rfl, rfl, hall⟩ := hrel
      have HB := Lib.hid (seg_lt s.data.toList 0 k hk16 hall)
      have HA := Lib.hid hall
      clear hall
      by_cases hlt : k < s.size ∧ k < 16
      · exact absurd hlt.1 (by omega)
      · have HW := Lib.hid (win_end s.data.toList k hk16 (by rw [HSZ.out]; omega))
        rw [HW.out, HF.out] at HN HS
        rw [if_pos HA.out] at HS
        have hb := HB.out
        generalize valD 0 (seg s.data.toList 0 k) = n at *
        have hle' : (n : Int) ≤ 9999999999999999 := by omega
        have hle0 : (0 : Int) ≤ n := by omega
        clear hb HB
        have hN := HN.out
        rw [if_neg (by decide)] at hN
        rw [hN] at HS
        clear hN HN
        cases hr : inR (n : Int)
        · have HR := Lib.hid hr
          rw [hr] at HS
          have hlt2 : ¬ ((k : Int) < s.size ∧ (k : Int) < 16) := by omega
          by_cases h1 : k < s.size
          · exact absurd h1 (by omega)
          · have h1' : ¬ (k : Int) < s.size := by omega
            go_wp2_with (first
              | (go_at_call 76; (with_reducible refine (HI.out _ _).mono ?_); rintro e y ⟨rfl, rfl⟩))
            go_ret2
            exact ⟨by rw [HS.out]; rfl, Below.refl _ _⟩
        · have hr2 : -1099511627777 ≤ (n : Int) ∧ (n : Int) ≤ 1099511627777 := by simp [inR] at hr; omega
          rw [hr] at HS
          have HQ : Hid ((Lib.itoa (n : Int) == s.data.toList) = ((baOf (Lib.itoa (n : Int))).toList == s.toList)) := Lib.hid (by rw [toList_dat, toList_dat, baOf_data])
          rw [HQ.out] at HS
          have HD2 := Lib.hid (HD.out (n : Int) hr2.1 hr2.2)
          clear HQ hr2
          by_cases h1 : k < s.size
          · exact absurd h1 (by omega)
          · have h1' : ¬ (k : Int) < s.size := by omega
            go_wp2_with (first
              | (go_at_call 76; (with_reducible refine (HI.out _ _).mono ?_); rintro e y ⟨rfl, rfl⟩)
              | (go_at_call 53; (with_reducible refine (HD2.out _).mono ?_); rintro e y ⟨rfl, hb⟩))
            go_ret2
            exact ⟨by rw [HS.out]; rfl, hb⟩
  · have hne : (!s.toList.isEmpty) = true := by
      rw [toList_dat]
      cases q : s.data.toList with
      | nil => have := HSZ.out; rw [q] at this; exact absurd this.symm h0
      | cons c r => rfl
    have t3 : ((s[0].toNat : Int) == 45) = false := by
      rw [show (45 : Int) = (((45 : UInt8).toNat : Nat) : Int) from rfl, byte_eq', beq_eq_false_iff_ne]
      exact hc
    have hp' : (0 : Int) < s.size := by omega
    have HF := Lib.hid hf
    clear hf hc h0
    go_enter Tryz.func56, Tryz.ntmps56
    go_wp2_with fail
    go_loop [4, 6] (fun n i => ∃ k : Nat, 0 ≤ k ∧ k ≤ 16 ∧ k ≤ s.size ∧ i = .int .i64 k ∧ n = .int .i64 (valD 0 (seg s.data.toList 0 k) : Nat) ∧ (seg s.data.toList 0 k).all digitB = true) (fun n i => 16 - (intOf i).toNat)
    case atStart => exact ⟨0, Nat.le_refl _, by omega, by omega, rfl, by rw [seg_nil]; rfl, by rw [seg_nil]; rfl⟩
    case round =>
      obtain ⟨k, hFk, hk16, hks, rfl, rfl, hall⟩ := hrel
      have HB := Lib.hid (seg_lt s.data.toList 0 k hk16 hall)
      have HA := Lib.hid hall
      clear hall
      by_cases hlt : k < s.size ∧ k < 16
      · obtain ⟨hlt, hl16⟩ := hlt
        have hkl : k < s.data.toList.length := by rw [HSZ.out]; exact hlt
        have HT := Lib.hid (seg_snoc s.data.toList 0 k hFk hkl)
        have HE : Hid (s.data.toList[k] = s[k]) := Lib.hid (by rfl)
        have hlI : (k : Int) < s.size := by omega
        have hlJ : (k : Int) < 16 := by omega
        cases hd : digitB s[k]
        · have HW := Lib.hid (win_bad s.data.toList k (by rw [HF.out]; exact hFk) hl16 hkl (by rw [HE.out]; exact hd))
          rw [HW.out, if_neg (by decide)] at HS
          have hor : (s[k].toNat : Int) < 48 ∨ (48 ≤ (s[k].toNat : Int) ∧ 57 < (s[k].toNat : Int)) := by
            have h1 := mt (byteD s[k]).2 (by rw [hd]; decide)
            omega
          clear hd HT HW
          generalize valD 0 (seg s.data.toList 0 k) = n at *
          rcases hor with hc0 | ⟨hc0, hc1⟩
          · go_wp2_with fail
            go_ret2
            exact ⟨by rw [HS.out]; rfl, Below.refl _ _⟩
          · go_wp2_with fail
            go_ret2
            exact ⟨by rw [HS.out]; rfl, Below.refl _ _⟩
        · obtain ⟨hc0, hc1⟩ := (byteD s[k]).1 hd
          have HV : Hid (valD 0 (seg s.data.toList 0 (k + 1)) = 10 * valD 0 (seg s.data.toList 0 k) + (s[k].toNat - 48)) := Lib.hid (by rw [HT.out, valD_app, HE.out]; rfl)
          have HA2 : Hid ((seg s.data.toList 0 (k + 1)).all digitB = true) := Lib.hid (by rw [HT.out, List.all_append, HA.out, HE.out]; simp [hd])
          clear hd
          have hb := HB.out
          generalize valD 0 (seg s.data.toList 0 k) = n at *
          have hle' : (n : Int) ≤ 9999999999999999 := by omega
          clear hb HB
          go_wp2_with fail
          go_round
          case rel =>
            refine ⟨k + 1, by omega, by omega, by omega, by go_num, ?_, HA2.out⟩
            rw [HV.out]
            congr 1
            omega
          case measure => simp [intOf]; omega
      · have HW := Lib.hid (win_end s.data.toList k hk16 (by rw [HSZ.out]; omega))
        rw [HW.out, HF.out] at HN HS
        rw [if_pos HA.out] at HS
        have hb := HB.out
        generalize valD 0 (seg s.data.toList 0 k) = n at *
        have hle' : (n : Int) ≤ 9999999999999999 := by omega
        have hle0 : (0 : Int) ≤ n := by omega
        clear hb HB
        have hN := HN.out
        rw [if_neg (by decide)] at hN
        rw [hN] at HS
        clear hN HN
        cases hr : inR (n : Int)
        · have HR := Lib.hid hr
          rw [hr] at HS
          have hlt2 : ¬ ((k : Int) < s.size ∧ (k : Int) < 16) := by omega
          by_cases h1 : k < s.size
          · have h1' : (k : Int) < s.size := by omega
            have h2' : ¬ (k : Int) < 16 := by omega
            go_wp2_with (first
              | (go_at_call 76; (with_reducible refine (HI.out _ _).mono ?_); rintro e y ⟨rfl, rfl⟩))
            go_ret2
            exact ⟨by rw [HS.out]; rfl, Below.refl _ _⟩
          · have h1' : ¬ (k : Int) < s.size := by omega
            go_wp2_with (first
              | (go_at_call 76; (with_reducible refine (HI.out _ _).mono ?_); rintro e y ⟨rfl, rfl⟩))
            go_ret2
            exact ⟨by rw [HS.out]; rfl, Below.refl _ _⟩
        · have hr2 : -1099511627777 ≤ (n : Int) ∧ (n : Int) ≤ 1099511627777 := by simp [inR] at hr; omega
          rw [hr] at HS
          have HQ : Hid ((Lib.itoa (n : Int) == s.data.toList) = ((baOf (Lib.itoa (n : Int))).toList == s.toList)) := Lib.hid (by rw [toList_dat, toList_dat, baOf_data])
          rw [HQ.out] at HS
          have HD2 := Lib.hid (HD.out (n : Int) hr2.1 hr2.2)
          clear HQ hr2
          by_cases h1 : k < s.size
          · have h1' : (k : Int) < s.size := by omega
            have h2' : ¬ (k : Int) < 16 := by omega
            go_wp2_with (first
              | (go_at_call 76; (with_reducible refine (HI.out _ _).mono ?_); rintro e y ⟨rfl, rfl⟩)
              | (go_at_call 53; (with_reducible refine (HD2.out _).mono ?_); rintro e y ⟨rfl, hb⟩))
            go_ret2
            exact ⟨by rw [HS.out]; rfl, hb⟩
          · have h1' : ¬ (k : Int) < s.size := by omega
            go_wp2_with (first
              | (go_at_call 76; (with_reducible refine (HI.out _ _).mono ?_); rintro e y ⟨rfl, rfl⟩)
              | (go_at_call 53; (with_reducible refine (HD2.out _).mono ?_); rintro e y ⟨rfl, hb⟩))
            go_ret2
            exact ⟨by rw [HS.out]; rfl, hb⟩
  · have hne : (!s.toList.isEmpty) = true := by
      rw [toList_dat]
      cases q : s.data.toList with
      | nil => have := HSZ.out; rw [q] at this; exact absurd this.symm h0
      | cons c r => rfl
    have t3 : ((s[0].toNat : Int) == 45) = true := by
      rw [show (45 : Int) = (((45 : UInt8).toNat : Nat) : Int) from rfl, byte_eq', beq_iff_eq]
      exact hc
    have hp' : (0 : Int) < s.size := by omega
    have HF := Lib.hid hf
    clear hf hc h0
    go_enter Tryz.func56, Tryz.ntmps56
    go_wp2_with fail
    go_loop [4, 6] (fun n i => ∃ k : Nat, 1 ≤ k ∧ k ≤ 16 ∧ k ≤ s.size ∧ i = .int .i64 k ∧ n = .int .i64 (valD 0 (seg s.data.toList 1 k) : Nat) ∧ (seg s.data.toList 1 k).all digitB = true) (fun n i => 16 - (intOf i).toNat)
    case atStart => exact ⟨1, Nat.le_refl _, by omega, by omega, rfl, by rw [seg_nil]; rfl, by rw [seg_nil]; rfl⟩
    case round =>
      obtain ⟨k, hFk, hk16, hks, rfl, rfl, hall⟩ := hrel
      have HB := Lib.hid (seg_lt s.data.toList 1 k hk16 hall)
      have HA := Lib.hid hall
      clear hall
      by_cases hlt : k < s.size ∧ k < 16
      · obtain ⟨hlt, hl16⟩ := hlt
        have hkl : k < s.data.toList.length := by rw [HSZ.out]; exact hlt
        have HT := Lib.hid (seg_snoc s.data.toList 1 k hFk hkl)
        have HE : Hid (s.data.toList[k] = s[k]) := Lib.hid (by rfl)
        have hlI : (k : Int) < s.size := by omega
        have hlJ : (k : Int) < 16 := by omega
        cases hd : digitB s[k]
        · have HW := Lib.hid (win_bad s.data.toList k (by rw [HF.out]; exact hFk) hl16 hkl (by rw [HE.out]; exact hd))
          rw [HW.out, if_neg (by decide)] at HS
          have hor : (s[k].toNat : Int) < 48 ∨ (48 ≤ (s[k].toNat : Int) ∧ 57 < (s[k].toNat : Int)) := by
            have h1 := mt (byteD s[k]).2 (by rw [hd]; decide)
            omega
          clear hd HT HW
          generalize valD 0 (seg s.data.toList 1 k) = n at *
          rcases hor with hc0 | ⟨hc0, hc1⟩
          · go_wp2_with fail
            go_ret2
            exact ⟨by rw [HS.out]; rfl, Below.refl _ _⟩
          · go_wp2_with fail
            go_ret2
            exact ⟨by rw [HS.out]; rfl, Below.refl _ _⟩
        · obtain ⟨hc0, hc1⟩ := (byteD s[k]).1 hd
          have HV : Hid (valD 0 (seg s.data.toList 1 (k + 1)) = 10 * valD 0 (seg s.data.toList 1 k) + (s[k].toNat - 48)) := Lib.hid (by rw [HT.out, valD_app, HE.out]; rfl)
          have HA2 : Hid ((seg s.data.toList 1 (k + 1)).all digitB = true) := Lib.hid (by rw [HT.out, List.all_append, HA.out, HE.out]; simp [hd])
          clear hd
          have hb := HB.out
          generalize valD 0 (seg s.data.toList 1 k) = n at *
          have hle' : (n : Int) ≤ 9999999999999999 := by omega
          clear hb HB
          go_wp2_with fail
          go_round
          case rel =>
            refine ⟨k + 1, by omega, by omega, by omega, by go_num, ?_, HA2.out⟩
            rw [HV.out]
            congr 1
            omega
          case measure => simp [intOf]; omega
      · have HW := Lib.hid (win_end s.data.toList k hk16 (by rw [HSZ.out]; omega))
        rw [HW.out, HF.out] at HN HS
        rw [if_pos HA.out] at HS
        have hb := HB.out
        generalize valD 0 (seg s.data.toList 1 k) = n at *
        have hle' : (n : Int) ≤ 9999999999999999 := by omega
        have hle0 : (0 : Int) ≤ n := by omega
        clear hb HB
        have hN := HN.out
        rw [if_pos rfl] at hN
        rw [hN] at HS
        clear hN HN
        cases hr : inR (-(n : Int))
        · have HR := Lib.hid hr
          rw [hr] at HS
          have hlt2 : ¬ ((k : Int) < s.size ∧ (k : Int) < 16) := by omega
          by_cases h1 : k < s.size
          · have h1' : (k : Int) < s.size := by omega
            have h2' : ¬ (k : Int) < 16 := by omega
            go_wp2_with (first
              | (go_at_call 76; (with_reducible refine (HI.out _ _).mono ?_); rintro e y ⟨rfl, rfl⟩))
            go_ret2
            exact ⟨by rw [HS.out]; rfl, Below.refl _ _⟩
          · have h1' : ¬ (k : Int) < s.size := by omega
            go_wp2_with (first
              | (go_at_call 76; (with_reducible refine (HI.out _ _).mono ?_); rintro e y ⟨rfl, rfl⟩))
            go_ret2
            exact ⟨by rw [HS.out]; rfl, Below.refl _ _⟩
        · have hr2 : -1099511627777 ≤ (-(n : Int)) ∧ (-(n : Int)) ≤ 1099511627777 := by simp [inR] at hr; omega
          rw [hr] at HS
          have HQ : Hid ((Lib.itoa (-(n : Int)) == s.data.toList) = ((baOf (Lib.itoa (-(n : Int)))).toList == s.toList)) := Lib.hid (by rw [toList_dat, toList_dat, baOf_data])
          rw [HQ.out] at HS
          have HD2 := Lib.hid (HD.out (-(n : Int)) hr2.1 hr2.2)
          clear HQ hr2
          by_cases h1 : k < s.size
          · have h1' : (k : Int) < s.size := by omega
            have h2' : ¬ (k : Int) < 16 := by omega
            go_wp2_with (first
              | (go_at_call 76; (with_reducible refine (HI.out _ _).mono ?_); rintro e y ⟨rfl, rfl⟩)
              | (go_at_call 53; (with_reducible refine (HD2.out _).mono ?_); rintro e y ⟨rfl, hb⟩))
            go_ret2
            exact ⟨by rw [HS.out]; rfl, hb⟩
          · have h1' : ¬ (k : Int) < s.size := by omega
            go_wp2_with (first
              | (go_at_call 76; (with_reducible refine (HI.out _ _).mono ?_); rintro e y ⟨rfl, rfl⟩)
              | (go_at_call 53; (with_reducible refine (HD2.out _).mono ?_); rintro e y ⟨rfl, hb⟩))
            go_ret2
            exact ⟨by rw [HS.out]; rfl, hb⟩
end
end Go.Proofs.YthomeplakcbfoaaGreatDoor
namespace Go.Proofs.YthomeplakcbfoaaGreatDoor
section
open Go.RowKit

theorem B3.grown {x y : World} {b : Nat} {c0 c1 c2 : Value} {row : Option Nat} (h : B3 x b c0 c1 c2) (hg : x.grownBy y row) (hne : some b ≠ row) : B3 y b c0 c1 c2 := by
  have hb := hg.block b h.lt hne
  have hl : b < y.heap.size := by
    obtain ⟨o, ho⟩ : ∃ o, x.heap[b]? = some o := ⟨_, Array.getElem?_eq_getElem h.lt⟩
    rw [ho] at hb
    exact (Array.getElem?_eq_some_iff.1 hb).1
  exact ⟨(World.cell?_of_block (w := x) (a := ⟨b, 0, none⟩) hb).trans h.c0, (World.cell?_of_block (w := x) (a := ⟨b, 1, none⟩) hb).trans h.c1, (World.cell?_of_block (w := x) (a := ⟨b, 2, none⟩) hb).trans h.c2,
    (World.frozen?_of_block (w := x) (a := ⟨b, 0, none⟩) hb).trans h.f0, (World.frozen?_of_block (w := x) (a := ⟨b, 1, none⟩) hb).trans h.f1, (World.frozen?_of_block (w := x) (a := ⟨b, 2, none⟩) hb).trans h.f2, hl⟩
theorem KQ.grown {x y : World} {row : Option Nat} (hg : x.grownBy y row) : ∀ {l : List (Nat × Value × Value × Value)}, (∀ k, row = some k → ∀ q ∈ l, q.1 ≠ k) → KQ x l → KQ y l
  | [], _, _ => trivial
  | p :: l, hr, h => ⟨h.1.grown hg (fun e => hr p.1 e.symm p (by simp) rfl), KQ.grown hg (fun k hk q hq => hr k hk q (by simp [hq])) h.2⟩
theorem KL.grownOwn {w x y : World} {l : List (Nat × Value × Value × Value)} {row : Option Nat} (h : KL w x l) (hg : x.grownBy y row) (hw : ∀ k, row = some k → w.heap.size ≤ k) (hr : ∀ k, row = some k → ∀ q ∈ l, q.1 ≠ k) : KL w y l :=
  ⟨h.HB.grown hg h.HB.size hw, h.q.grown hg hr⟩
/-- The two blocks of Parse: its result and its value. -/
theorem two_new (w : World) : KL w ((w.alloc (.cells #[.int .i64 0, .int .i64 0, .string ⟨#[]⟩] 27)).alloc (.cells #[.int .i64 0, .int .i64 0, .string ⟨#[]⟩] 27)) [(w.heap.size + 1, .int .i64 0, .int .i64 0, .string ⟨#[]⟩), (w.heap.size, .int .i64 0, .int .i64 0, .string ⟨#[]⟩)] :=
  (((KL.refl w).push (.int .i64 0) (.int .i64 0) (.string ⟨#[]⟩) 27).push' (w.heap.size + 1) (by simp) (.int .i64 0) (.int .i64 0) (.string ⟨#[]⟩) 27)
theorem nul_ok : nulV.ok = true := by simp [Va.ok, nulV, vld, eqV]
theorem boo_ok (b : Bool) : (booV b).ok = true := by cases b <;> simp [Va.ok, booV, b2i, vld, eqV]
theorem intV_ok (n : Int) (h : inR n = true) : (intV n).ok = true := by
  have e : (⟨#[]⟩ : ByteArray).toList = [] := by rw [toList_dat]
  simp [Va.ok, intV, vld, eqV, h, e]
theorem txt_nul : txtS nulV = (nullB, 0) := by unfold txtS; rw [if_neg (by simp [nul_ok])]; rfl
theorem txt_boo (b : Bool) : txtS (booV b) = (if b = true then trueB else falseB, 0) := by
  unfold txtS
  rw [if_neg (by simp [boo_ok]), if_neg (by cases b <;> decide), if_neg (by cases b <;> decide), if_pos (show (booV b).k = 3 from rfl)]
  have e : tru (booV b) = b := by cases b <;> simp [tru, booV, eqV, b2i]
  rw [e]
theorem txt_int (n : Int) (h : inR n = true) : txtS (intV n) = (baOf (Lib.itoa n), 0) := by unfold txtS; rw [if_neg (by simp [intV_ok n h])]; rfl
set_option maxRecDepth 100000 in
set_option maxHeartbeats 2000000 in
theorem refParse_null (w : World) : Calls Tryz.prog 19 #[.string nullB] w fun e w' => e = .returned (two (nulV, 0)) ∧ Below w.heap.size w w' := by
  have HX := Lib.hid fun x => refTextV_ ⟨0, 0, ⟨#[]⟩⟩ x (by decide)
  rw [show txtS ⟨0, 0, ⟨#[]⟩⟩ = _ from txt_nul] at HX
  have n1 : (nullB.toList == [110, 117, 108, 108]) = true := by rw [toList_dat]; decide
  have n2 : (nullB.toList == [116, 114, 117, 101]) = false := by rw [toList_dat]; decide
  have n3 : (nullB.toList == [102, 97, 108, 115, 101]) = false := by rw [toList_dat]; decide
  go_enter Tryz.func19, Tryz.ntmps19
  go_wp2_with (first
    | (go_at_call 17; (with_reducible refine (HX.out _).mono ?_); rintro e y2 ⟨rfl, hb⟩; have K2 := Lib.hid (KL.below (two_new w) hb); clear hb; obtain ⟨HB, ⟨v0, v1, v2, f0, f1, f2, vl⟩, ⟨r0, r1, r2, g0, g1, g2, rl⟩, -⟩ := K2.out))
  (try simp only [Exit.inBlock, Exit.then])
  exact ret_two rfl rfl K2.out.q.2.1 rfl ⟨by rfl, set3 HB _ (Nat.le_refl _) _ _ _⟩
set_option maxRecDepth 100000 in
set_option maxHeartbeats 2000000 in
theorem refParse_true (w : World) : Calls Tryz.prog 19 #[.string trueB] w fun e w' => e = .returned (two (booV true, 0)) ∧ Below w.heap.size w w' := by
  have HX := Lib.hid fun x => refTextV_ ⟨3, 1, ⟨#[]⟩⟩ x (by decide)
  rw [show txtS ⟨3, 1, ⟨#[]⟩⟩ = _ from txt_boo true] at HX
  have HBo := Lib.hid fun x => ref_bool true x
  have n1 : (trueB.toList == [110, 117, 108, 108]) = false := by rw [toList_dat]; decide
  have n2 : (trueB.toList == [116, 114, 117, 101]) = true := by rw [toList_dat]; decide
  have n3 : (trueB.toList == [102, 97, 108, 115, 101]) = false := by rw [toList_dat]; decide
  go_enter Tryz.func19, Tryz.ntmps19
  go_wp2_with (first
    | (go_at_call 23; (with_reducible refine (HBo.out _).mono ?_); rintro e y ⟨rfl, hb⟩; have K := Lib.hid ((KL.below (two_new w) hb).set (by omega) (by simp) (.int .i64 3) (.int .i64 1) (.string ⟨#[]⟩)); have K0 := Lib.hid (KL.below (two_new w) hb); clear hb; obtain ⟨HB0, ⟨v0, v1, v2, f0, f1, f2, vl⟩, ⟨r0, r1, r2, g0, g1, g2, rl⟩, -⟩ := K0.out)
    | (go_at_call 17; (with_reducible refine (HX.out _).mono ?_); rintro e y2 ⟨rfl, hb⟩; have K2 := Lib.hid (KL.below K.out hb); clear hb; obtain ⟨HB, ⟨v0, v1, v2, f0, f1, f2, vl⟩, ⟨r0, r1, r2, g0, g1, g2, rl⟩, -⟩ := K2.out))
  (try simp only [Exit.inBlock, Exit.then])
  exact ret_two rfl rfl K2.out.q.2.1 rfl ⟨by rfl, set3 HB _ (Nat.le_refl _) _ _ _⟩
set_option maxRecDepth 100000 in
set_option maxHeartbeats 2000000 in
theorem refParse_false (w : World) : Calls Tryz.prog 19 #[.string falseB] w fun e w' => e = .returned (two (booV false, 0)) ∧ Below w.heap.size w w' := by
  have HX := Lib.hid fun x => refTextV_ ⟨3, 0, ⟨#[]⟩⟩ x (by decide)
  rw [show txtS ⟨3, 0, ⟨#[]⟩⟩ = _ from txt_boo false] at HX
  have HBo := Lib.hid fun x => ref_bool false x
  have n1 : (falseB.toList == [110, 117, 108, 108]) = false := by rw [toList_dat]; decide
  have n2 : (falseB.toList == [116, 114, 117, 101]) = false := by rw [toList_dat]; decide
  have n3 : (falseB.toList == [102, 97, 108, 115, 101]) = true := by rw [toList_dat]; decide
  go_enter Tryz.func19, Tryz.ntmps19
  go_wp2_with (first
    | (go_at_call 23; (with_reducible refine (HBo.out _).mono ?_); rintro e y ⟨rfl, hb⟩; have K := Lib.hid ((KL.below (two_new w) hb).set (by omega) (by simp) (.int .i64 3) (.int .i64 0) (.string ⟨#[]⟩)); have K0 := Lib.hid (KL.below (two_new w) hb); clear hb; obtain ⟨HB0, ⟨v0, v1, v2, f0, f1, f2, vl⟩, ⟨r0, r1, r2, g0, g1, g2, rl⟩, -⟩ := K0.out)
    | (go_at_call 17; (with_reducible refine (HX.out _).mono ?_); rintro e y2 ⟨rfl, hb⟩; have K2 := Lib.hid (KL.below K.out hb); clear hb; obtain ⟨HB, ⟨v0, v1, v2, f0, f1, f2, vl⟩, ⟨r0, r1, r2, g0, g1, g2, rl⟩, -⟩ := K2.out))
  (try simp only [Exit.inBlock, Exit.then])
  exact ret_two rfl rfl K2.out.q.2.1 rfl ⟨by rfl, set3 HB _ (Nat.le_refl _) _ _ _⟩
end
end Go.Proofs.YthomeplakcbfoaaGreatDoor
namespace Go.Proofs.YthomeplakcbfoaaGreatDoor
section
open Go.RowKit

set_option maxRecDepth 100000 in
set_option maxHeartbeats 2000000 in
theorem refParse_int (s : ByteArray) (hs : s.size ≤ 4000000) (w : World) (n1 : (s.toList == [110, 117, 108, 108]) = false) (n2 : (s.toList == [116, 114, 117, 101]) = false) (n3 : (s.toList == [102, 97, 108, 115, 101]) = false)
    (h4 : s.size ≤ 1 ∨ ∃ h0 : 1 < s.size, s[0] ≠ 39) : Calls Tryz.prog 19 #[.string s] w fun e w' => e = .returned (two (if (wholeS s.data.toList).2 = true then (intV (wholeS s.data.toList).1, 0) else (nulV, 30))) ∧ Below w.heap.size w w' := by
  have HW := Lib.hid fun x => refWhole_ s x hs
  have HWS : Hid ((wholeS s.data.toList).2 = true → inR (wholeS s.data.toList).1 = true ∧ baOf (Lib.itoa (wholeS s.data.toList).1) = s) := Lib.hid (by
    unfold wholeS
    split
    · intro h
      simp only [Bool.and_eq_true, beq_iff_eq] at h
      exact ⟨h.1, by rw [h.2, baOf_of]⟩
    · intro h; cases h)
  obtain ⟨⟨n, b⟩, hq⟩ : ∃ r, wholeS s.data.toList = r := ⟨_, rfl⟩
  rw [hq] at HW HWS
  rw [hq]
  clear hq
  simp only at HW HWS ⊢
  have hc : (1 < s.size ∧ ∃ h0 : 0 < s.size, ((s[0].toNat : Int) == 39) = false) ∨ s.size ≤ 1 := by
    rcases h4 with h | ⟨h, h39⟩
    · exact .inr h
    · refine .inl ⟨h, by omega, ?_⟩
      rw [show (39 : Int) = (((39 : UInt8).toNat : Nat) : Int) from rfl, byte_eq', beq_eq_false_iff_ne]
      exact h39
  clear h4
  cases b
  · rw [if_neg (by decide)]
    rcases hc with ⟨h1, hp, h39⟩ | h1
    · have h1' : (2 : Int) ≤ s.size := by omega
      have hp' : (0 : Int) < s.size := by omega
      go_enter Tryz.func19, Tryz.ntmps19
      go_wp2_with (first
        | (go_at_call 56; (with_reducible refine (HW.out _).mono ?_); rintro e y ⟨rfl, hb⟩; have K := Lib.hid (KL.below (two_new w) hb); clear hb; obtain ⟨HB, ⟨v0, v1, v2, f0, f1, f2, vl⟩, ⟨r0, r1, r2, g0, g1, g2, rl⟩, -⟩ := K.out))
      (try simp only [Exit.inBlock, Exit.then])
      exact ret_two rfl rfl K.out.q.2.1 rfl ⟨by rfl, set3 HB _ (Nat.le_refl _) _ _ _⟩
    · have h1' : ¬ (2 : Int) ≤ s.size := by omega
      go_enter Tryz.func19, Tryz.ntmps19
      go_wp2_with (first
        | (go_at_call 56; (with_reducible refine (HW.out _).mono ?_); rintro e y ⟨rfl, hb⟩; have K := Lib.hid (KL.below (two_new w) hb); clear hb; obtain ⟨HB, ⟨v0, v1, v2, f0, f1, f2, vl⟩, ⟨r0, r1, r2, g0, g1, g2, rl⟩, -⟩ := K.out))
      (try simp only [Exit.inBlock, Exit.then])
      exact ret_two rfl rfl K.out.q.2.1 rfl ⟨by rfl, set3 HB _ (Nat.le_refl _) _ _ _⟩
  · rw [if_pos rfl]
    obtain ⟨hr, hs2⟩ := HWS.out rfl
    have HX := Lib.hid fun x => refTextV_ ⟨1, n, ⟨#[]⟩⟩ x (Nat.zero_le _)
    rw [show txtS ⟨1, n, ⟨#[]⟩⟩ = _ from txt_int n hr, hs2] at HX
    have HIn := Lib.hid fun x => ref_int n x
    clear HWS hr hs2
    rcases hc with ⟨h1, hp, h39⟩ | h1
    · have h1' : (2 : Int) ≤ s.size := by omega
      have hp' : (0 : Int) < s.size := by omega
      go_enter Tryz.func19, Tryz.ntmps19
      go_wp2_with (first
        | (go_at_call 56; (with_reducible refine (HW.out _).mono ?_); rintro e y ⟨rfl, hb⟩; have K0 := Lib.hid (KL.below (two_new w) hb); clear hb; obtain ⟨HB, ⟨v0, v1, v2, f0, f1, f2, vl⟩, ⟨r0, r1, r2, g0, g1, g2, rl⟩, -⟩ := K0.out)
        | (go_at_call 25; (with_reducible refine (HIn.out _).mono ?_); rintro e y1 ⟨rfl, hb⟩; have K := Lib.hid ((KL.below K0.out hb).set (by omega) (by simp) (.int .i64 1) (.int .i64 n) (.string ⟨#[]⟩)); have K1 := Lib.hid (KL.below K0.out hb); clear hb; obtain ⟨HB1, ⟨v0, v1, v2, f0, f1, f2, vl⟩, ⟨r0, r1, r2, g0, g1, g2, rl⟩, -⟩ := K1.out)
        | (go_at_call 17; (with_reducible refine (HX.out _).mono ?_); rintro e y2 ⟨rfl, hb⟩; have K2 := Lib.hid (KL.below K.out hb); clear hb; obtain ⟨HB, ⟨v0, v1, v2, f0, f1, f2, vl⟩, ⟨r0, r1, r2, g0, g1, g2, rl⟩, -⟩ := K2.out))
      (try simp only [Exit.inBlock, Exit.then])
      exact ret_two rfl rfl K2.out.q.2.1 rfl ⟨by rfl, set3 HB _ (Nat.le_refl _) _ _ _⟩
    · have h1' : ¬ (2 : Int) ≤ s.size := by omega
      go_enter Tryz.func19, Tryz.ntmps19
      go_wp2_with (first
        | (go_at_call 56; (with_reducible refine (HW.out _).mono ?_); rintro e y ⟨rfl, hb⟩; have K0 := Lib.hid (KL.below (two_new w) hb); clear hb; obtain ⟨HB, ⟨v0, v1, v2, f0, f1, f2, vl⟩, ⟨r0, r1, r2, g0, g1, g2, rl⟩, -⟩ := K0.out)
        | (go_at_call 25; (with_reducible refine (HIn.out _).mono ?_); rintro e y1 ⟨rfl, hb⟩; have K := Lib.hid ((KL.below K0.out hb).set (by omega) (by simp) (.int .i64 1) (.int .i64 n) (.string ⟨#[]⟩)); have K1 := Lib.hid (KL.below K0.out hb); clear hb; obtain ⟨HB1, ⟨v0, v1, v2, f0, f1, f2, vl⟩, ⟨r0, r1, r2, g0, g1, g2, rl⟩, -⟩ := K1.out)
        | (go_at_call 17; (with_reducible refine (HX.out _).mono ?_); rintro e y2 ⟨rfl, hb⟩; have K2 := Lib.hid (KL.below K.out hb); clear hb; obtain ⟨HB, ⟨v0, v1, v2, f0, f1, f2, vl⟩, ⟨r0, r1, r2, g0, g1, g2, rl⟩, -⟩ := K2.out))
      (try simp only [Exit.inBlock, Exit.then])
      exact ret_two rfl rfl K2.out.q.2.1 rfl ⟨by rfl, set3 HB _ (Nat.le_refl _) _ _ _⟩
set_option maxRecDepth 100000 in
set_option maxHeartbeats 2000000 in
theorem refParse_quo (s : ByteArray) (hs : s.size ≤ 4000000) (w : World) (n1 : (s.toList == [110, 117, 108, 108]) = false) (n2 : (s.toList == [116, 114, 117, 101]) = false) (n3 : (s.toList == [102, 97, 108, 115, 101]) = false)
    (h1 : 1 < s.size) (h39 : s[0] = 39) : Calls Tryz.prog 19 #[.string s] w fun e w' => e = .returned (two (if (txtS (txtV (baOf (hB (s.extract 1 (s.size - 1)).data.toList)))).2 = 0 ∧ (txtS (txtV (baOf (hB (s.extract 1 (s.size - 1)).data.toList)))).1 = s then (txtV (baOf (hB (s.extract 1 (s.size - 1)).data.toList)), 0) else (nulV, 30))) ∧ Below w.heap.size w w' := by
  obtain ⟨M, hM⟩ : ∃ M, (s.extract 1 (s.size - 1)).data.toList = M := ⟨_, rfl⟩
  have hML : M.length = s.size - 2 := by rw [← hM]; simp; omega
  have HMG : Hid (∀ k, 1 ≤ k → ∀ h : k < s.size - 1, M.drop (k - 1) = s[k] :: M.drop k) := Lib.hid (by
    intro k hk h
    obtain ⟨j, rfl⟩ : ∃ j, k = j + 1 := ⟨k - 1, by omega⟩
    have hl : j < M.length := by omega
    rw [Nat.add_sub_cancel, List.drop_eq_getElem_cons hl]
    congr 1
    subst hM
    have e : s[j + 1] = s.data.toList[j + 1]'(by simp; omega) := rfl
    rw [e]
    simp only [Lib.extract_data, List.getElem_take, List.getElem_drop]
    congr 1
    omega)
  have HMD : Hid (∀ k, s.size - 1 ≤ k → M.drop (k - 1) = []) := Lib.hid fun k hk => List.drop_of_length_le (by omega)
  rw [hM]
  clear hM hML
  obtain ⟨u, hu⟩ : ∃ u, baOf (hB M) = u := ⟨_, rfl⟩
  have HU := Lib.hid hu
  rw [hu]
  have HSt := Lib.hid fun x => ref_string u x
  have HX := Lib.hid fun (hm : u.size ≤ maxLen) x => refTextV_ ⟨2, 0, u⟩ x hm
  obtain ⟨⟨t, e⟩, ht⟩ : ∃ r, txtS (txtV u) = r := ⟨_, rfl⟩
  rw [show txtS ⟨2, 0, u⟩ = _ from ht] at HX
  rw [ht]
  simp only at HX ⊢
  clear ht hu
  obtain ⟨res, hres⟩ : ∃ r, (if e = 0 ∧ t = s then (txtV u, 0) else (nulV, 30) : Va × Int) = r := ⟨_, rfl⟩
  have HR := Lib.hid hres
  rw [hres]
  clear hres
  have t3 : ((s[0].toNat : Int) == 39) = true := byte39 h39
  have h1' : (2 : Int) ≤ s.size := by omega
  have hp' : (0 : Int) < s.size := by omega
  clear h39
  go_enter Tryz.func19, Tryz.ntmps19
  go_wp2_with fail
  go_loopw [5, 6] (fun b i x => ∃ k : Nat, ∃ B, 1 ≤ k ∧ k ≤ s.size ∧ i = .int .i64 k ∧ OwnB (w.heap.size + 2) x b B ∧ B ++ hB (M.drop (k - 1)) = hB M ∧ B.length ≤ k ∧ KL w x [(w.heap.size + 1, .int .i64 0, .int .i64 0, .string ⟨#[]⟩), (w.heap.size, .int .i64 0, .int .i64 0, .string ⟨#[]⟩)]) (fun b i x => s.size - (intOf i).toNat)
  case atStart => exact ⟨1, [], Nat.le_refl _, by omega, rfl, OwnB.nil _ _, rfl, Nat.zero_le _, two_new w⟩
  case round =>
    obtain ⟨k, B, hk1, hk, rfl, hO, hE, hBl, hK⟩ := hrel
    have HO := Lib.hid hO
    have HE := Lib.hid hE
    have K := Lib.hid hK
    clear hO hE hK
    obtain ⟨a0, c0, rfl⟩ := HO.out.form
    by_cases hlt : k < s.size - 1
    · have hlI : (k : Int) < (s.size : Int) - 1 := by omega
      have hkI : (k : Int) < s.size := by omega
      have hks : k < s.size := by omega
      have HG := Lib.hid (HMG.out k hk1 hlt)
      have hsz := K.out.HB.size
      have hsz2 := K.out.q.1.lt
      by_cases hq : s[k] = 39
      · have hq' := is39q (c := s[k]) (by simpa using hq)
        have HQ := Lib.hid hq
        clear hq
        go_wp2_with (first
          | (at_builtin; refine wpList_append_byte rfl (.tmp 50) (.tmp 54) rfl (w.heap.size + 2) _ B rfl (HO.out.below (new1 _ _)) wr.heap.size s[k] rfl (new1_cell _ _ _) (by omega) (by simp; omega) ?_))
        intro v1 w1 ho1 hg1
        have HO1 := Lib.hid ho1
        have K1 := Lib.hid ((K.out.alloc _).grownOwn hg1 (fun j hj => by have := HO.out.lt j hj; omega) (fun j hj q hq => by have := HO.out.lt j hj; simp only [List.mem_cons, List.not_mem_nil, or_false] at hq; rcases hq with rfl | rfl <;> simp <;> omega))
        clear ho1 hg1
        go_wp2_with fail
        go_roundw
        case rel =>
          refine ⟨k + 2, B ++ [s[k]], by omega, by omega, by go_num, HO1.out, ?_, by simp; omega, K1.out⟩
          rw [← HE.out, HG.out, hB_cons, if_pos (by rw [HQ.out]; rfl), List.tail_drop, show k + 2 - 1 = k + 1 by omega]
          simp
        case measure => simp [intOf]; omega
      · have hq' := not39q (c := s[k]) (by simpa using hq)
        have HQ := Lib.hid hq
        clear hq
        go_wp2_with (first
          | (at_builtin; refine wpList_append_byte rfl (.tmp 50) (.tmp 54) rfl (w.heap.size + 2) _ B rfl (HO.out.below (new1 _ _)) wr.heap.size s[k] rfl (new1_cell _ _ _) (by omega) (by simp; omega) ?_))
        intro v1 w1 ho1 hg1
        have HO1 := Lib.hid ho1
        have K1 := Lib.hid ((K.out.alloc _).grownOwn hg1 (fun j hj => by have := HO.out.lt j hj; omega) (fun j hj q hq => by have := HO.out.lt j hj; simp only [List.mem_cons, List.not_mem_nil, or_false] at hq; rcases hq with rfl | rfl <;> simp <;> omega))
        clear ho1 hg1
        go_wp2_with fail
        go_roundw
        case rel =>
          refine ⟨k + 1, B ++ [s[k]], by omega, by omega, by go_num, HO1.out, ?_, by simp; omega, K1.out⟩
          rw [← HE.out, HG.out, hB_cons, if_neg (by simpa using HQ.out), show k + 1 - 1 = k by omega]
          simp
        case measure => simp [intOf]; omega
    · have hlI : ¬ (k : Int) < (s.size : Int) - 1 := by omega
      have hBE : B = hB M := by
        have := HE.out
        rw [HMD.out k (by omega)] at this
        rw [← this]
        simp [hB]
      have HBU : Hid (baOf B = u) := Lib.hid (by rw [hBE]; exact HU.out)
      have hum : u.size ≤ maxLen := by rw [← HBU.out, baOf_size]; simp only [maxLen]; omega
      clear hBE hlt
      have hsz := K.out.HB.size
      have hsz2 := K.out.q.1.lt
      go_wp2_with fail
      rw [run_string_own HO.out, HBU.out]
      by_cases he : e = 0
      · by_cases hts : t = s
        · rw [if_pos ⟨he, hts⟩] at HR
          subst he hts
          have hne : (t.toList == t.toList) = true := by simp
          go_wp2_with (first
            | (go_at_call 26; (with_reducible refine (HSt.out _).mono ?_); rintro e y1 ⟨rfl, hb⟩; have K1 := Lib.hid ((KL.below K.out hb).set (by omega) (by simp) (.int .i64 2) (.int .i64 0) (.string u)); have K0 := Lib.hid (KL.below K.out hb); clear hb; obtain ⟨HB0, ⟨v0, v1, v2, f0, f1, f2, vl⟩, ⟨r0, r1, r2, g0, g1, g2, rl⟩, -⟩ := K0.out)
            | (go_at_call 17; (with_reducible refine (HX.out hum _).mono ?_); rintro e y2 ⟨rfl, hb⟩; have K3 := Lib.hid (KL.below K1.out hb); clear hb; obtain ⟨HB, ⟨v0, v1, v2, f0, f1, f2, vl⟩, ⟨r0, r1, r2, g0, g1, g2, rl⟩, -⟩ := K3.out))
          (try simp only [Exit.inBlock, Exit.then])
          exact ret_two rfl rfl K3.out.q.2.1 rfl ⟨by rw [← HR.out]; rfl, set3 HB _ (Nat.le_refl _) _ _ _⟩
        · rw [if_neg (fun x => hts x.2)] at HR
          subst he
          have hne : (t.toList == s.toList) = false := by
            rw [beq_eq_false_iff_ne]
            intro e
            exact hts (ba_ext (by rw [← toList_dat, ← toList_dat]; exact e))
          clear hts
          go_wp2_with (first
            | (go_at_call 26; (with_reducible refine (HSt.out _).mono ?_); rintro e y1 ⟨rfl, hb⟩; have K1 := Lib.hid ((KL.below K.out hb).set (by omega) (by simp) (.int .i64 2) (.int .i64 0) (.string u)); have K0 := Lib.hid (KL.below K.out hb); clear hb; obtain ⟨HB0, ⟨v0, v1, v2, f0, f1, f2, vl⟩, ⟨r0, r1, r2, g0, g1, g2, rl⟩, -⟩ := K0.out)
            | (go_at_call 17; (with_reducible refine (HX.out hum _).mono ?_); rintro e y2 ⟨rfl, hb⟩; have K3 := Lib.hid (KL.below K1.out hb); clear hb; obtain ⟨HB, ⟨v0, v1, v2, f0, f1, f2, vl⟩, ⟨r0, r1, r2, g0, g1, g2, rl⟩, -⟩ := K3.out))
          (try simp only [Exit.inBlock, Exit.then])
          exact ret_two rfl rfl K3.out.q.2.1 rfl ⟨by rw [← HR.out]; rfl, set3 HB _ (Nat.le_refl _) _ _ _⟩
      · rw [if_neg (fun x => he x.1)] at HR
        have hne : (e != 0) = true := by simpa using he
        clear he
        go_wp2_with (first
          | (go_at_call 26; (with_reducible refine (HSt.out _).mono ?_); rintro e y1 ⟨rfl, hb⟩; have K1 := Lib.hid ((KL.below K.out hb).set (by omega) (by simp) (.int .i64 2) (.int .i64 0) (.string u)); have K0 := Lib.hid (KL.below K.out hb); clear hb; obtain ⟨HB0, ⟨v0, v1, v2, f0, f1, f2, vl⟩, ⟨r0, r1, r2, g0, g1, g2, rl⟩, -⟩ := K0.out)
          | (go_at_call 17; (with_reducible refine (HX.out hum _).mono ?_); rintro e y2 ⟨rfl, hb⟩; have K3 := Lib.hid (KL.below K1.out hb); clear hb; obtain ⟨HB, ⟨v0, v1, v2, f0, f1, f2, vl⟩, ⟨r0, r1, r2, g0, g1, g2, rl⟩, -⟩ := K3.out))
        (try simp only [Exit.inBlock, Exit.then])
        exact ret_two rfl rfl K3.out.q.2.1 rfl ⟨by rw [← HR.out]; rfl, set3 HB _ (Nat.le_refl _) _ _ _⟩
theorem refParse_ (s : ByteArray) (hs : s.size ≤ 4000000) (w : World) : Calls Tryz.prog 19 #[.string s] w fun e w' => e = .returned (two (parS s)) ∧ Below w.heap.size w w' := by
  rw [← refP_eq]
  have hD : ∀ (l : Bs), s.data.toList ≠ l → (s.toList == l) = false := fun l h => by rw [toList_dat, beq_eq_false_iff_ne]; exact h
  by_cases c1 : s.data.toList = [110, 117, 108, 108]
  · obtain rfl : s = nullB := ba_ext c1
    have e : refP nullB = (nulV, 0) := by
      unfold refP refC
      rw [if_pos c1]
      simp only [txt_nul, and_self, if_true]
    rw [e]
    exact refParse_null w
  · by_cases c2 : s.data.toList = [116, 114, 117, 101]
    · obtain rfl : s = trueB := ba_ext c2
      have e : refP trueB = (booV true, 0) := by
        unfold refP refC
        rw [if_neg c1, if_pos c2]
        simp only [txt_boo, and_self, if_true]
      rw [e]
      exact refParse_true w
    · by_cases c3 : s.data.toList = [102, 97, 108, 115, 101]
      · obtain rfl : s = falseB := ba_ext c3
        have e : refP falseB = (booV false, 0) := by
          unfold refP refC
          rw [if_neg c1, if_neg c2, if_pos c3]
          simp only [txt_boo, and_self, if_true, Bool.false_eq_true, if_false]
        rw [e]
        exact refParse_false w
      · by_cases c4 : 1 < s.size ∧ s.data.toList.head? = some 39
        · have e : refP s = if (txtS (txtV (baOf (hB (s.extract 1 (s.size - 1)).data.toList)))).2 = 0 ∧ (txtS (txtV (baOf (hB (s.extract 1 (s.size - 1)).data.toList)))).1 = s then (txtV (baOf (hB (s.extract 1 (s.size - 1)).data.toList)), 0) else (nulV, 30) := by
            unfold refP refC
            rw [if_neg c1, if_neg c2, if_neg c3, if_pos c4]
          rw [e]
          obtain ⟨c, r, hcr, h0, hc⟩ := ne_emp (s := s) (by omega)
          refine refParse_quo s hs w (hD _ c1) (hD _ c2) (hD _ c3) c4.1 ?_
          have := c4.2
          rw [hcr] at this
          rw [hc]
          simpa using this
        · have e : refP s = if (wholeS s.data.toList).2 = true then (intV (wholeS s.data.toList).1, 0) else (nulV, 30) := by
            unfold refP refC
            rw [if_neg c1, if_neg c2, if_neg c3, if_neg c4]
            cases hq : (wholeS s.data.toList).2
            · rfl
            · have hw : inR (wholeS s.data.toList).1 = true ∧ baOf (Lib.itoa (wholeS s.data.toList).1) = s := by
                revert hq
                unfold wholeS
                split
                · intro h
                  simp only [Bool.and_eq_true, beq_iff_eq] at h
                  exact ⟨h.1, by rw [h.2, baOf_of]⟩
                · intro h; cases h
              simp only [if_true]
              rw [txt_int _ hw.1, if_pos ⟨rfl, hw.2⟩]
          rw [e]
          refine refParse_int s hs w (hD _ c1) (hD _ c2) (hD _ c3) ?_
          by_cases h1 : 1 < s.size
          · refine .inr ⟨h1, ?_⟩
            obtain ⟨c, r, hcr, h0, hc⟩ := ne_emp (s := s) (by omega)
            intro h
            apply c4
            refine ⟨h1, ?_⟩
            rw [hcr]
            rw [hc] at h
            simp [h]
          · exact .inl (by omega)
end
end Go.Proofs.YthomeplakcbfoaaGreatDoor
