/-
  The law of truths, the pure part.
-/
import Derived.Test.YtplepijiceanlaaGreatDoorNB
namespace Go.Proofs.YtplepijiceanlaaGreatDoor
open Go.RowKit

abbrev sOr : ByteArray := ⟨#[111, 114]⟩
abbrev sLt : ByteArray := ⟨#[60]⟩
abbrev sEq : ByteArray := ⟨#[61]⟩
abbrev sGt : ByteArray := ⟨#[62]⟩
theorem kAnd : opK sAnd = 1 := by decide +kernel
theorem kOr : opK sOr = 1 := by decide +kernel
theorem kLt : opK sLt = 0 := by decide +kernel
theorem kEq : opK sEq = 0 := by decide +kernel
theorem kGt : opK sGt = 0 := by decide +kernel
theorem oneK_comm (d : Int) (a b : Va) : oneK d [a, b] = oneK d [b, a] := by
  simp only [oneK]
  by_cases ha : a.k = 0 <;> by_cases hb : b.k = 0 <;> by_cases hd : d = 0 <;> simp [ha, hb, hd]
  · exact eq_comm
  · by_cases h1 : a.k = d <;> by_cases h2 : b.k = d <;> simp [h1, h2]
theorem hasNull_comm (a b : Va) : hasNull [a, b] = hasNull [b, a] := by simp [hasNull, Bool.or_comm]
theorem allOk_comm (a b : Va) : allOk [a, b] = allOk [b, a] := by simp [allOk, Bool.and_comm]
theorem bin_comm (op : ByteArray) (a b : Va) (h : allOk [a, b] = true → oneK (opT (opK op)) [a, b] = true → hasNull [a, b] = false ∨ opN (opK op) = true → opSp op (opK op) a b = opSp op (opK op) b a) : binS op a b = binS op b a := by
  unfold binS
  rw [allOk_comm b a, oneK_comm _ b a, hasNull_comm b a]
  cases h1 : allOk [a, b] <;> cases h2 : oneK (opT (opK op)) [a, b] <;> cases h3 : hasNull [a, b] <;> cases h4 : opN (opK op) <;> simp
  all_goals rw [h h1 h2 (by simp [h3, h4])]
theorem junc_comm (d : Bool) (a b : Va) : juncS d a b = juncS d b a := by
  unfold juncS
  rw [hasNull_comm b a]
  cases eqV a.k a.n a.s 3 (b2i d) ⟨#[]⟩ <;> cases eqV b.k b.n b.s 3 (b2i d) ⟨#[]⟩ <;> simp
theorem mul_comm' (a b : Int) : mulS a b = mulS b a := by
  unfold mulS
  by_cases ha : a = 0
  · subst ha
    rw [if_neg (by simp)]
    by_cases hb : b = 0
    · subst hb; rw [if_neg (by simp)]
    · rw [if_neg (by
        rintro ⟨_, h⟩
        have : 0 ≤ (1099511627776 : Int) / max b (-b) := Int.ediv_nonneg (by decide) (by omega)
        simp at h; omega)]
      simp
  · by_cases hb : b = 0
    · subst hb
      rw [if_neg (by
        rintro ⟨_, h⟩
        have : 0 ≤ (1099511627776 : Int) / max a (-a) := Int.ediv_nonneg (by decide) (by omega)
        simp at h; omega), if_neg (by simp)]
      simp
    · have e1 : (1099511627776 / max a (-a) < max b (-b)) ↔ 1099511627776 < max b (-b) * max a (-a) := Int.ediv_lt_iff_lt_mul (by omega)
      have e2 : (1099511627776 / max b (-b) < max a (-a)) ↔ 1099511627776 < max a (-a) * max b (-b) := Int.ediv_lt_iff_lt_mul (by omega)
      by_cases h : 1099511627776 < max b (-b) * max a (-a)
      · rw [if_pos ⟨ha, e1.2 h⟩, if_pos ⟨hb, e2.2 (by rw [Int.mul_comm]; exact h)⟩]
      · rw [if_neg (fun q => h (e1.1 q.2)), if_neg (fun q => h (by rw [Int.mul_comm]; exact e2.1 q.2)), Int.mul_comm]
/-- The operations of the first test. -/
def comOps : List ByteArray := [sAnd, sOr, sAdd, sMul]
theorem com_of (a b : Va) : ∀ op ∈ comOps, binS op a b = binS op b a := by
  intro op hop
  refine bin_comm op a b fun _ _ _ => ?_
  simp only [comOps, List.mem_cons, List.mem_nil_iff, or_false] at hop
  rcases hop with rfl | rfl | rfl | rfl
  · rw [kAnd]; exact junc_comm _ _ _
  · rw [kOr]; exact junc_comm _ _ _
  · rw [kAdd]; simp only [opSp, arSp, iAdd, Option.getD_some, arI, addS]; rw [Int.add_comm]
  · rw [kMul]; simp only [opSp, arSp, iMul, Option.getD_some, arI]; exact mul_comm' _ _

theorem bo_cases (a : Va) (ha : a.ok = true) (h : a.k = 0 ∨ a.k = 3) : a = nulV ∨ a = booV false ∨ a = booV true := by
  rcases ok_cases a ha with rfl | ⟨n, rfl, hn⟩ | ⟨t, rfl, ht⟩ | ⟨y, rfl⟩
  · exact .inl rfl
  · simp [intV] at h
  · simp [txtV] at h
  · cases y
    · exact .inr (.inl rfl)
    · exact .inr (.inr rfl)
theorem oneK3 (a b : Va) (h : oneK 3 [a, b] = true) : (a.k = 0 ∨ a.k = 3) ∧ (b.k = 0 ∨ b.k = 3) := by
  simp only [oneK] at h
  by_cases ha : a.k = 0 <;> by_cases hb : b.k = 0 <;> simp [ha, hb] at h ⊢
  · exact h
  · exact h
  · exact h
/-- What the second test asks of one pair of operations. -/
def Morgan (op dual : ByteArray) (a b : Va) : Prop :=
  (binS op a b).2 ≠ 0 ∨ ∃ x na nb y : Va, binS op a b = (x, 0) ∧ unS 3 x = (y, 0) ∧ unS 3 a = (na, 0) ∧ unS 3 b = (nb, 0) ∧ binS dual na nb = (y, 0) ∧ unS 3 na = (a, 0)
theorem morgan_of (op dual : ByteArray) (hop : (op = sAnd ∧ dual = sOr) ∨ (op = sOr ∧ dual = sAnd)) (a b : Va) (ha : a.ok = true) (hb : b.ok = true) : Morgan op dual a b := by
  have hK : opK op = 1 := by rcases hop with ⟨rfl, rfl⟩ | ⟨rfl, rfl⟩ <;> decide +kernel
  cases h : oneK 3 [a, b]
  · exact .inl (by rw [bin_ty op 1 hK (by decide) a b ha hb h]; decide)
  · obtain ⟨h1, h2⟩ := oneK3 a b h
    have q : (binS op a b).2 = 0 ∧ (unS 3 (binS op a b).1).2 = 0 ∧ (unS 3 a).2 = 0 ∧ (unS 3 b).2 = 0 ∧ binS dual (unS 3 a).1 (unS 3 b).1 = unS 3 (binS op a b).1 ∧ unS 3 (unS 3 a).1 = (a, 0) := by
      rcases bo_cases a ha h1 with rfl | rfl | rfl <;> rcases bo_cases b hb h2 with rfl | rfl | rfl <;> rcases hop with ⟨rfl, rfl⟩ | ⟨rfl, rfl⟩
      all_goals exact ⟨by kernel_rfl, by kernel_rfl, by kernel_rfl, by kernel_rfl, by kernel_rfl, by kernel_rfl⟩
    obtain ⟨q1, q2, q3, q4, q5, q6⟩ := q
    refine .inr ⟨(binS op a b).1, (unS 3 a).1, (unS 3 b).1, (unS 3 (binS op a b).1).1, Prod.ext rfl q1, Prod.ext rfl q2, Prod.ext rfl q3, Prod.ext rfl q4, q5.trans (Prod.ext rfl q2), q6⟩

/-- How many of the first k say yes. -/
def cntB (t : Nat → Bool) : Nat → Int
  | 0 => 0
  | k + 1 => cntB t k + (if t k = true then 1 else 0)
theorem cntB_bd (t : Nat → Bool) : ∀ k : Nat, 0 ≤ cntB t k ∧ cntB t k ≤ k
  | 0 => by simp [cntB]
  | k + 1 => by
    have ih := cntB_bd t k
    simp only [cntB]
    split <;> omega
def triOps : List ByteArray := [sLt, sEq, sGt]
def triR (a b : Va) (k : Nat) : Va × Int := binS (triOps.getD k ByteArray.empty) a b
theorem tri_of (a b : Va) (ha : a.ok = true) (hb : b.ok = true) :
    (binS sLt a b = (nulV, 16)) ∨ (hasNull [a, b] = true ∧ binS sLt a b = (nulV, 0) ∧ binS sEq a b = (nulV, 0) ∧ binS sGt a b = (nulV, 0)) ∨
      (hasNull [a, b] = false ∧ ∃ c : Int, (c = -1 ∨ c = 0 ∨ c = 1) ∧ binS sLt a b = (booV (c == -1), 0) ∧ binS sEq a b = (booV (c == 0), 0) ∧ binS sGt a b = (booV (c == 1), 0)) := by
  cases h2 : oneK 0 [a, b]
  · exact .inl (bin_ty sLt 0 kLt (by decide) a b ha hb h2)
  · cases h3 : hasNull [a, b]
    · refine .inr (.inr ⟨rfl, cmpV a.k a.n a.s b.n b.s, ?_, ?_, ?_, ?_⟩)
      · have := cmpV_bd a.k a.n b.n a.s b.s
        omega
      all_goals
        have hc := cmpV_bd a.k a.n b.n a.s b.s
      · rw [bin_go sLt 0 kLt (by decide) a b ha hb h2 (.inl h3)]
        have e : sgn sLt = (true, false, false) := by decide +kernel
        simp only [opSp, cmpSp, e, cmpS]
        generalize cmpV a.k a.n a.s b.n b.s = c at *
        have : c = -1 ∨ c = 0 ∨ c = 1 := by omega
        rcases this with rfl | rfl | rfl <;> rfl
      · rw [bin_go sEq 0 kEq (by decide) a b ha hb h2 (.inl h3)]
        have e : sgn sEq = (false, true, false) := by decide +kernel
        simp only [opSp, cmpSp, e, cmpS]
        generalize cmpV a.k a.n a.s b.n b.s = c at *
        have : c = -1 ∨ c = 0 ∨ c = 1 := by omega
        rcases this with rfl | rfl | rfl <;> rfl
      · rw [bin_go sGt 0 kGt (by decide) a b ha hb h2 (.inl h3)]
        have e : sgn sGt = (false, false, true) := by decide +kernel
        simp only [opSp, cmpSp, e, cmpS]
        generalize cmpV a.k a.n a.s b.n b.s = c at *
        have : c = -1 ∨ c = 0 ∨ c = 1 := by omega
        rcases this with rfl | rfl | rfl <;> rfl
    · exact .inr (.inl ⟨rfl, bin_nul sLt 0 kLt (by decide) a b ha hb h2 h3 rfl, bin_nul sEq 0 kEq (by decide) a b ha hb h2 h3 rfl, bin_nul sGt 0 kGt (by decide) a b ha hb h2 h3 rfl⟩)
/-- What the third test counts. -/
theorem tri_count (a b : Va) (ha : a.ok = true) (hb : b.ok = true) :
    (triR a b 0).2 ≠ 0 ∨ ((∀ k, k < 3 → (triR a b k).2 = 0) ∧
      cntB (fun k => tru (triR a b k).1) 3 = (if hasNull [a, b] = true then 0 else 1) ∧ cntB (fun k => (triR a b k).1.k == 0) 3 = (if hasNull [a, b] = true then 3 else 0)) := by
  have e0 : triR a b 0 = binS sLt a b := rfl
  have e1 : triR a b 1 = binS sEq a b := rfl
  have e2 : triR a b 2 = binS sGt a b := rfl
  rcases tri_of a b ha hb with h | ⟨hn, h0, h1, h2⟩ | ⟨hn, c, hc, h0, h1, h2⟩
  · exact .inl (by rw [e0, h]; decide)
  · rw [h0] at e0; rw [h1] at e1; rw [h2] at e2
    refine .inr ⟨?_, ?_, ?_⟩
    · intro k hk
      match k, hk with
      | 0, _ => rw [e0]
      | 1, _ => rw [e1]
      | 2, _ => rw [e2]
    · simp only [cntB, e0, e1, e2, hn, if_true]; decide +kernel
    · simp only [cntB, e0, e1, e2, hn, if_true]; decide +kernel
  · rw [h0] at e0; rw [h1] at e1; rw [h2] at e2
    refine .inr ⟨?_, ?_, ?_⟩
    · intro k hk
      match k, hk with
      | 0, _ => rw [e0]
      | 1, _ => rw [e1]
      | 2, _ => rw [e2]
    · simp only [cntB, e0, e1, e2, hn]
      rcases hc with rfl | rfl | rfl <;> decide +kernel
    · simp only [cntB, e0, e1, e2, hn]
      rcases hc with rfl | rfl | rfl <;> decide +kernel
end Go.Proofs.YtplepijiceanlaaGreatDoor
