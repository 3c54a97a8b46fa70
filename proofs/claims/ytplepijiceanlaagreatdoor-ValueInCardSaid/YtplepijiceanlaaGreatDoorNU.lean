/-
  The law of numbers, the pure part: what operations and the order give of values that are valid. Nothing of the program is named here but through its specification.
-/
import Derived.Test.YtplepijiceanlaaGreatDoorR
namespace Go.Proofs.YtplepijiceanlaaGreatDoor
open Go.RowKit

abbrev sDiv : ByteArray := ⟨#[47]⟩
abbrev sMod : ByteArray := ⟨#[109, 111, 100]⟩
abbrev sMul : ByteArray := ⟨#[42]⟩
abbrev sAdd : ByteArray := ⟨#[43]⟩
abbrev sSub : ByteArray := ⟨#[45]⟩
theorem nil_of_isEmpty {s : ByteArray} (h : s.toList.isEmpty = true) : s = ⟨#[]⟩ := by
  apply toList_eq
  rw [toList_nil]
  cases hs : s.toList with
  | nil => rfl
  | cons a l => rw [hs] at h; cases h
/-- A value that is valid is null, an integer, a string or a bool. -/
theorem ok_cases (v : Va) (h : v.ok = true) : v = nulV ∨ (∃ n, v = intV n ∧ Small n) ∨ (∃ s, v = txtV s ∧ okText s = true) ∨ ∃ b, v = booV b := by
  obtain ⟨k, n, s⟩ := v
  simp only [Va.ok, vld, Bool.or_eq_true, Bool.and_eq_true, eqV_iff, beq_iff_eq] at h
  rcases h with (((⟨rfl, rfl, rfl⟩ | ⟨⟨rfl, hn⟩, hs⟩) | ⟨⟨rfl, rfl⟩, hs⟩) | ⟨rfl, rfl, rfl⟩) | ⟨rfl, rfl, rfl⟩
  · exact .inl rfl
  · refine .inr (.inl ⟨n, by rw [nil_of_isEmpty hs]; rfl, ?_⟩)
    simp only [inR, Bool.and_eq_true, decide_eq_true_eq] at hn
    exact hn
  · exact .inr (.inr (.inl ⟨s, rfl, hs⟩))
  · exact .inr (.inr (.inr ⟨false, rfl⟩))
  · exact .inr (.inr (.inr ⟨true, rfl⟩))
theorem ok_nul : nulV.ok = true := by simp [Va.ok, nulV, vld, eqV]
theorem ok_int (n : Int) (h : Small n) : (intV n).ok = true := by
  simp [Va.ok, intV, vld, inR, h.1, h.2]
theorem ok_txt (s : ByteArray) (h : okText s = true) : (txtV s).ok = true := by simp [Va.ok, txtV, vld, h]
theorem ok_boo (b : Bool) : (booV b).ok = true := by cases b <;> simp [Va.ok, booV, vld, eqV]
theorem allOk2 (a b : Va) (ha : a.ok = true) (hb : b.ok = true) : allOk [a, b] = true := by simp [allOk, ha, hb]

theorem bin_go (op : ByteArray) (j : Nat) (hK : opK op = j) (h4 : j ≠ 4) (a b : Va) (ha : a.ok = true) (hb : b.ok = true) (h2 : oneK (opT j) [a, b] = true) (h3 : hasNull [a, b] = false ∨ opN j = true) : binS op a b = opSp op j a b := by
  subst hK
  unfold binS
  rw [if_neg h4, if_neg (by simp [allOk2 a b ha hb]), if_neg (by simp [h2])]
  rcases h3 with h3 | h3
  · rw [if_neg (by simp [h3])]
  · split
    · rw [if_neg (by simp [h3])]
    · rfl
theorem bin_nul (op : ByteArray) (j : Nat) (hK : opK op = j) (h4 : j ≠ 4) (a b : Va) (ha : a.ok = true) (hb : b.ok = true) (h2 : oneK (opT j) [a, b] = true) (h3 : hasNull [a, b] = true) (hN : opN j = false) : binS op a b = (nulV, 0) := by
  subst hK
  unfold binS
  rw [if_neg h4, if_neg (by simp [allOk2 a b ha hb]), if_neg (by simp [h2]), if_pos h3, if_pos hN]
theorem bin_ty (op : ByteArray) (j : Nat) (hK : opK op = j) (h4 : j ≠ 4) (a b : Va) (ha : a.ok = true) (hb : b.ok = true) (h2 : oneK (opT j) [a, b] = false) : binS op a b = (nulV, 16) := by
  subst hK
  unfold binS
  rw [if_neg h4, if_neg (by simp [allOk2 a b ha hb]), if_pos h2]
theorem bin_int (op : ByteArray) (i : Nat) (hK : opK op = 2) (hi : findT arTab op = some i) (m n : Int) (hm : Small m) (hn : Small n) : binS op (intV m) (intV n) = arI i m n := by
  rw [bin_go op 2 hK (by decide) _ _ (ok_int m hm) (ok_int n hn) (by simp [oneK, intV, opT]) (.inl (by simp [hasNull, intV]))]
  simp [opSp, arSp, hi, intV]
theorem kDiv : opK sDiv = 2 := by decide +kernel
theorem kMod : opK sMod = 2 := by decide +kernel
theorem kMul : opK sMul = 2 := by decide +kernel
theorem kAdd : opK sAdd = 2 := by decide +kernel
theorem kSub : opK sSub = 2 := by decide +kernel
theorem iDiv : findT arTab sDiv = some 3 := by decide +kernel
theorem iMod : findT arTab sMod = some 4 := by decide +kernel
theorem iMul : findT arTab sMul = some 2 := by decide +kernel
theorem iAdd : findT arTab sAdd = some 0 := by decide +kernel
theorem iSub : findT arTab sSub = some 1 := by decide +kernel
theorem chkI_of (n : Int) (h : Small n) : chkI n = (intV n, 0) := by
  unfold chkI; rw [if_pos (by simp [inR, h.1, h.2])]
theorem eqV_self (v : Va) : eqV v.k v.n v.s v.k v.n v.s = true := by rw [eqV_iff]; exact ⟨rfl, rfl, rfl⟩
/-- In what way two values that are valid meet an operation of integers. -/
theorem ar_cases (a b : Va) (ha : a.ok = true) (hb : b.ok = true) :
    (oneK 1 [a, b] = false) ∨ (oneK 1 [a, b] = true ∧ hasNull [a, b] = true) ∨ ∃ m n, a = intV m ∧ b = intV n ∧ Small m ∧ Small n := by
  rcases ok_cases a ha with rfl | ⟨m, rfl, hm⟩ | ⟨s, rfl, _⟩ | ⟨x, rfl⟩ <;> rcases ok_cases b hb with rfl | ⟨n, rfl, hn⟩ | ⟨t, rfl, _⟩ | ⟨y, rfl⟩
  all_goals first
    | exact .inr (.inr ⟨_, _, rfl, rfl, hm, hn⟩)
    | (refine .inl ?_; simp [oneK, nulV, intV, txtV, booV]; done)
    | (refine .inr (.inl ⟨?_, ?_⟩) <;> simp [oneK, hasNull, nulV, intV]; done)

theorem num1 (a b : Va) (ha : a.ok = true) (hb : b.ok = true) (q m p s : Va × Int) (hq : binS sDiv a b = q) (hm : binS sMod a b = m) (hp : binS sMul q.1 b = p) (hs : binS sAdd p.1 m.1 = s)
    (e : q.2 = 0) (f : m.2 = 0) (g : p.2 = 0) (h : s.2 = 0) (k : q.1.k ≠ 0) : eqV s.1.k s.1.n s.1.s a.k a.n a.s = true := by
  rcases ar_cases a b ha hb with h2 | ⟨h2, h3⟩ | ⟨x, y, rfl, rfl, hx, hy⟩
  · rw [bin_ty sDiv 2 kDiv (by decide) a b ha hb h2] at hq; subst hq; cases e
  · rw [bin_nul sDiv 2 kDiv (by decide) a b ha hb h2 h3 rfl] at hq; subst hq; exact absurd rfl k
  · rw [bin_int sDiv 3 kDiv iDiv x y hx hy] at hq
    rw [bin_int sMod 4 kMod iMod x y hx hy] at hm
    simp only [arI, quoS, remS] at hq hm
    by_cases hy0 : y = 0
    · rw [if_pos hy0] at hq; subst hq; cases e
    rw [if_neg hy0] at hq hm
    subst hq; subst hm
    have hid : x.tdiv y * y + x.tmod y = x := by rw [Int.mul_comm]; exact Int.mul_tdiv_add_tmod x y
    have hq1 : (x.tdiv y).natAbs ≤ x.natAbs := by rw [Int.natAbs_tdiv]; exact Nat.div_le_self _ _
    have hm1 : (x.tmod y).natAbs ≤ x.natAbs := by rw [Int.natAbs_tmod]; exact Nat.mod_le _ _
    have hp1 : (x.tdiv y * y).natAbs ≤ x.natAbs := by
      rw [Int.natAbs_mul, Int.natAbs_tdiv]; exact Nat.div_mul_le_self _ _
    have sq : Small (x.tdiv y) := by unfold Small at *; omega
    have sm : Small (x.tmod y) := by unfold Small at *; omega
    have sp : Small (x.tdiv y * y) := by unfold Small at *; generalize x.tdiv y * y = z at *; omega
    rw [bin_int sMul 2 kMul iMul _ y sq hy] at hp
    simp only [arI, mulS] at hp
    split at hp
    · subst hp; cases g
    · subst hp
      simp only at hs
      rw [bin_int sAdd 0 kAdd iAdd _ _ sp sm] at hs
      simp only [arI, addS] at hs
      rw [hid, chkI_of x hx] at hs
      subst hs
      exact eqV_self (intV x)
theorem num2 (a b : Va) (ha : a.ok = true) (hb : b.ok = true) (n : Va × Int) (hn : unS 1 b = n) (e : n.2 = 0) : binS sSub a b = binS sAdd a n.1 := by
  rcases ok_cases b hb with rfl | ⟨y, rfl, hy⟩ | ⟨t, rfl, ht⟩ | ⟨y, rfl⟩
  · have : unS 1 nulV = (nulV, 0) := by unfold unS; rw [if_neg (by simp [ok_nul]), if_neg (by simp [oneK, nulV]), if_pos (by simp [hasNull, nulV])]
    rw [this] at hn; subst hn
    cases h2 : oneK 1 [a, nulV]
    · rw [bin_ty sSub 2 kSub (by decide) a nulV ha hb h2, bin_ty sAdd 2 kAdd (by decide) a nulV ha hb h2]
    · have h3 : hasNull [a, nulV] = true := by simp [hasNull, nulV]
      rw [bin_nul sSub 2 kSub (by decide) a nulV ha hb h2 h3 rfl, bin_nul sAdd 2 kAdd (by decide) a nulV ha hb h2 h3 rfl]
  · have : unS 1 (intV y) = (intV (-y), 0) := by unfold unS; rw [if_neg (by simp [ok_int y hy]), if_neg (by simp [oneK, intV]), if_neg (by simp [hasNull, intV]), if_pos (by decide)]; rfl
    rw [this] at hn; subst hn
    have hy' : Small (-y) := by unfold Small at *; omega
    show binS sSub a (intV y) = binS sAdd a (intV (-y))
    rcases ok_cases a ha with rfl | ⟨x, rfl, hx⟩ | ⟨s, rfl, hs⟩ | ⟨x, rfl⟩
    · rw [bin_nul sSub 2 kSub (by decide) nulV _ ha hb (by simp [oneK, nulV, intV, opT]) (by simp [hasNull, nulV]) rfl, bin_nul sAdd 2 kAdd (by decide) nulV _ ha (ok_int _ hy') (by simp [oneK, nulV, intV, opT]) (by simp [hasNull, nulV]) rfl]
    · rw [bin_int sSub 1 kSub iSub x y hx hy, bin_int sAdd 0 kAdd iAdd x (-y) hx hy']
      simp only [arI, subS, addS]
      rw [Int.sub_eq_add_neg]
    · rw [bin_ty sSub 2 kSub (by decide) _ _ ha hb (by simp [oneK, txtV, opT]), bin_ty sAdd 2 kAdd (by decide) _ _ ha (ok_int _ hy') (by simp [oneK, txtV, opT])]
    · rw [bin_ty sSub 2 kSub (by decide) _ _ ha hb (by simp [oneK, booV, opT]), bin_ty sAdd 2 kAdd (by decide) _ _ ha (ok_int _ hy') (by simp [oneK, booV, opT])]
  · have : unS 1 (txtV t) = (nulV, 16) := by unfold unS; rw [if_neg (by simp [ok_txt t ht]), if_pos (by simp [oneK, txtV])]
    rw [this] at hn; subst hn; cases e
  · have : unS 1 (booV y) = (nulV, 16) := by unfold unS; rw [if_neg (by simp [ok_boo y]), if_pos (by simp [oneK, booV])]
    rw [this] at hn; subst hn; cases e

/-- compareBytes is an order. -/
theorem cb_anti : ∀ a b : List UInt8, Lib.compareBytes a b = - Lib.compareBytes b a
  | [], [] => rfl
  | [], _ :: _ => rfl
  | _ :: _, [] => rfl
  | x :: a, y :: b => by
    have ih := cb_anti a b
    simp only [Lib.compareBytes]
    by_cases h1 : x < y
    · have h2 : ¬ y < x := by rw [UInt8.lt_iff_toNat_lt] at *; omega
      simp [h1, h2]
    · by_cases h2 : y < x
      · simp [h1, h2]
      · simp only [h1, h2, if_false]; exact ih
theorem cb_zero : ∀ a b : List UInt8, Lib.compareBytes a b = 0 ↔ a = b
  | [], [] => by simp [Lib.compareBytes]
  | [], _ :: _ => by simp [Lib.compareBytes]
  | _ :: _, [] => by simp [Lib.compareBytes]
  | x :: a, y :: b => by
    have ih := cb_zero a b
    simp only [Lib.compareBytes]
    by_cases h1 : x < y
    · have h3 : x ≠ y := by rintro rfl; rw [UInt8.lt_iff_toNat_lt] at h1; omega
      simp [h1, h3]
    · by_cases h2 : y < x
      · have h3 : x ≠ y := by rintro rfl; rw [UInt8.lt_iff_toNat_lt] at h2; omega
        simp [h1, h2, h3]
      · have h3 : x = y := by rw [UInt8.lt_iff_toNat_lt] at *; exact UInt8.toNat_inj.1 (by omega)
        simp [h3, ih]
theorem cb_trans : ∀ a b c : List UInt8, Lib.compareBytes a b ≤ 0 → Lib.compareBytes b c ≤ 0 → Lib.compareBytes a c ≤ 0
  | [], _, [], _, _ => by simp [Lib.compareBytes]
  | [], _, _ :: _, _, _ => by simp [Lib.compareBytes]
  | _ :: _, [], _, h, _ => by simp [Lib.compareBytes] at h
  | _ :: _, _ :: _, [], _, h => by simp [Lib.compareBytes] at h
  | x :: a, y :: b, z :: c, h, k => by
    have ih := cb_trans a b c
    simp only [Lib.compareBytes] at h k ⊢
    by_cases h1 : x < y
    · by_cases k1 : y < z
      · have : x < z := by rw [UInt8.lt_iff_toNat_lt] at *; omega
        simp [this]
      · by_cases k2 : z < y
        · simp [k1, k2] at k
        · have : x < z := by rw [UInt8.lt_iff_toNat_lt] at *; omega
          simp [this]
    · by_cases h2 : y < x
      · simp [h1, h2] at h
      · by_cases k1 : y < z
        · have : x < z := by rw [UInt8.lt_iff_toNat_lt] at *; omega
          simp [this]
        · by_cases k2 : z < y
          · simp [k1, k2] at k
          · have g1 : ¬ x < z := by rw [UInt8.lt_iff_toNat_lt] at *; omega
            have g2 : ¬ z < x := by rw [UInt8.lt_iff_toNat_lt] at *; omega
            simp only [h1, h2, k1, k2, g1, g2, if_false] at h k ⊢
            exact ih h k
theorem ci_anti (a b : Int) : Lib.compareInt a b = - Lib.compareInt b a := by unfold Lib.compareInt; repeat' split <;> omega
theorem ci_zero (a b : Int) : Lib.compareInt a b = 0 ↔ a = b := by unfold Lib.compareInt; repeat' split <;> omega
theorem ci_trans (a b c : Int) (h : Lib.compareInt a b ≤ 0) (k : Lib.compareInt b c ≤ 0) : Lib.compareInt a c ≤ 0 := by
  unfold Lib.compareInt at *; repeat' split at * <;> omega

theorem ord_go (a b : Va) (ha : a.ok = true) (hb : b.ok = true) (h2 : oneK 0 [a, b] = true) : ordS a b = if (a.k == b.k) = true then (cmpV a.k a.n a.s b.n b.s, 0) else if hasNull [a] = true then (1, 0) else (-1, 0) := by
  unfold ordS
  rw [if_neg (by simp [allOk2 a b ha hb]), if_neg (by simp [h2])]
theorem ord_ty (a b : Va) (ha : a.ok = true) (hb : b.ok = true) (h2 : oneK 0 [a, b] = false) : ordS a b = (0, 16) := by
  unfold ordS
  rw [if_neg (by simp [allOk2 a b ha hb]), if_pos h2]
theorem o_nn : ordS nulV nulV = (0, 0) := by rw [ord_go _ _ ok_nul ok_nul (by simp [oneK, nulV])]; decide +kernel
theorem o_nx (b : Va) (hb : b.ok = true) (hk : b.k ≠ 0) : ordS nulV b = (1, 0) := by
  rw [ord_go _ _ ok_nul hb (by simp [oneK, nulV, hk]), if_neg (by simp [nulV]; exact fun h => hk h.symm), if_pos (by simp [hasNull, nulV])]
theorem o_xn (a : Va) (ha : a.ok = true) (hk : a.k ≠ 0) : ordS a nulV = (-1, 0) := by
  rw [ord_go _ _ ha ok_nul (by simp [oneK, nulV, hk]), if_neg (by simp [nulV, hk]), if_neg (by simp [hasNull, hk])]
def OrdFit (a b c : Va) : Prop := (ordS a b).1 = -(ordS b a).1 ∧ (((ordS a b).1 == 0) = eqV a.k a.n a.s b.k b.n b.s) ∧ ((ordS a b).1 ≤ 0 → (ordS b c).1 ≤ 0 → (ordS a c).1 ≤ 0)
theorem nul_of (a : Va) (ha : a.ok = true) (k : a.k = 0) : a = nulV := by
  rcases ok_cases a ha with rfl | ⟨n, rfl, hn⟩ | ⟨t, rfl, ht⟩ | ⟨y, rfl⟩
  · rfl
  all_goals cases k
theorem o_same (a b : Va) (ha : a.ok = true) (hb : b.ok = true) (h0 : a.k ≠ 0) (h : b.k = a.k) : ordS a b = (cmpV a.k a.n a.s b.n b.s, 0) := by
  rw [ord_go a b ha hb (by simp [oneK, h0, h]), if_pos (by simp [h])]
theorem o_kind (a b : Va) (ha : a.ok = true) (hb : b.ok = true) (h1 : a.k ≠ 0) (h2 : b.k ≠ 0) (h : (ordS a b).2 = 0) : b.k = a.k := by
  by_cases h3 : b.k = a.k
  · exact h3
  · rw [ord_ty a b ha hb (by simp [oneK, h1, h2, h3])] at h
    cases h
theorem cmpV_anti (k n n' : Int) (s s' : ByteArray) : cmpV k n s n' s' = - cmpV k n' s' n s := by
  unfold cmpV; split
  · exact cb_anti _ _
  · exact ci_anti _ _
theorem cmpV_trans (k n n' n'' : Int) (s s' s'' : ByteArray) (h : cmpV k n s n' s' ≤ 0) (h' : cmpV k n' s' n'' s'' ≤ 0) : cmpV k n s n'' s'' ≤ 0 := by
  unfold cmpV at *
  by_cases hk : (k == 2) = true
  · rw [if_pos hk] at *; exact cb_trans _ _ _ h h'
  · rw [if_neg hk] at *; exact ci_trans _ _ _ h h'
theorem b2i_inj (x y : Bool) : b2i x = b2i y ↔ x = y := by cases x <;> cases y <;> simp
theorem cmpV_zero (a b : Va) (ha : a.ok = true) (hb : b.ok = true) (h0 : a.k ≠ 0) (h : b.k = a.k) : (cmpV a.k a.n a.s b.n b.s == 0) = eqV a.k a.n a.s b.k b.n b.s := by
  rw [Bool.eq_iff_iff, beq_iff_eq, eqV_iff]
  rcases ok_cases a ha with rfl | ⟨m, rfl, hm⟩ | ⟨s, rfl, hs⟩ | ⟨x, rfl⟩ <;> rcases ok_cases b hb with rfl | ⟨n, rfl, hn⟩ | ⟨t, rfl, ht⟩ | ⟨y, rfl⟩
  all_goals first
    | (exact absurd rfl h0)
    | (exfalso; revert h; simp [nulV, intV, txtV, booV]; done)
    | skip
  · simp [cmpV, intV, ci_zero]
  · have e : cmpV (txtV s).k (txtV s).n (txtV s).s (txtV t).n (txtV t).s = Lib.compareBytes s.data.toList t.data.toList := by simp [cmpV, txtV]
    rw [e, cb_zero]
    constructor
    · intro e; exact ⟨rfl, rfl, toList_eq (by rw [ByteArray.toList_eq, ByteArray.toList_eq]; exact e)⟩
    · rintro ⟨-, -, rfl⟩; rfl
  · simp [cmpV, booV, ci_zero]
theorem num3 (a b c : Va) (ha : a.ok = true) (hb : b.ok = true) (hc : c.ok = true) (h1 : (ordS a b).2 = 0) (h3 : (ordS b c).2 = 0) (h4 : (ordS a c).2 = 0) : OrdFit a b c := by
  unfold OrdFit
  by_cases ka : a.k = 0
  · obtain rfl := nul_of a ha ka
    by_cases kb : b.k = 0
    · obtain rfl := nul_of b hb kb
      rw [o_nn]
      exact ⟨rfl, by decide +kernel, fun _ h => h⟩
    · rw [o_nx b hb kb, o_xn b hb kb]
      refine ⟨by decide, ?_, fun h => absurd h (by decide)⟩
      rw [eqV_ne (fun h => kb (h.symm.trans ka))]; rfl
  · by_cases kb : b.k = 0
    · obtain rfl := nul_of b hb kb
      rw [o_nx a ha ka, o_xn a ha ka]
      refine ⟨rfl, ?_, fun _ h => ?_⟩
      · rw [eqV_ne (fun h => ka (h.trans kb))]; rfl
      · by_cases kc : c.k = 0
        · obtain rfl := nul_of c hc kc
          rw [o_xn a ha ka]; decide
        · rw [o_nx c hc kc] at h; exact absurd h (by decide)
    · have e1 := o_kind a b ha hb ka kb h1
      rw [o_same a b ha hb ka e1, o_same b a hb ha kb e1.symm]
      refine ⟨by rw [e1]; exact cmpV_anti _ _ _ _ _, cmpV_zero a b ha hb ka e1, fun h h' => ?_⟩
      by_cases kc : c.k = 0
      · obtain rfl := nul_of c hc kc
        rw [o_xn a ha ka]; decide
      · have e2 := o_kind b c hb hc kb kc h3
        rw [o_same b c hb hc kb e2] at h'
        rw [o_same a c ha hc ka (e2.trans e1)]
        rw [e1] at h'
        exact cmpV_trans _ _ _ _ _ _ _ h h'
end Go.Proofs.YtplepijiceanlaaGreatDoor
