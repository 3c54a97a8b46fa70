/-
  Contracts: Binary.
-/
import Derived.Test.YthomeplakcbfoaaGreatDoorP
namespace Go.Proofs.YthomeplakcbfoaaGreatDoor
open Go.RowKit

/-- What an operation between two gives. -/
def binS (op : ByteArray) (a b : Va) : Va × Int :=
  if opK op = 4 then (nulV, 2) else if allOk [a, b] = false then (nulV, 2) else if oneK (opT (opK op)) [a, b] = false then (nulV, 16) else
    if hasNull [a, b] = true then if opN (opK op) = false then (nulV, 0) else opSp op (opK op) a b else opSp op (opK op) a b

theorem oneK2 (d : Int) (a b : Va) (h : oneK d [a, b] = true) (hd : d ≠ 0) (hn : hasNull [a, b] = false) : a.k = d ∧ b.k = d := by
  simp only [hasNull, List.any_cons, List.any_nil, Bool.or_false, Bool.or_eq_false_iff, beq_eq_false_iff_ne] at hn
  obtain ⟨h1, h2⟩ := hn
  simp [oneK, h1, h2, hd] at h
  exact h
theorem vld_int (k n : Int) (s : ByteArray) (hk : k = 1) (h : vld k n s = true) : Small n := int_in k n s hk h
theorem vld_text (k n : Int) (s : ByteArray) (hk : k = 2) (h : vld k n s = true) : okText s = true := by
  subst hk
  rw [vld2, Bool.and_eq_true] at h
  exact h.2
theorem opK_cases (op : ByteArray) : opK op = 0 ∨ opK op = 1 ∨ opK op = 2 ∨ opK op = 3 ∨ opK op = 4 := by
  unfold opK
  repeat' split
  all_goals simp
theorem opD_of (op : ByteArray) (a b : Va) (h1 : allOk [a, b] = true) (h2 : oneK (opT (opK op)) [a, b] = true) (h3 : hasNull [a, b] = false ∨ opN (opK op) = true) : opD (opK op) a b := by
  simp only [allOk, List.all_cons, List.all_nil, Bool.and_true, Bool.and_eq_true, Va.ok] at h1
  rcases opK_cases op with h | h | h | h | h <;> rw [h] at h2 h3 ⊢
  · trivial
  · trivial
  · simp [opN] at h3
    obtain ⟨ha, hb⟩ := oneK2 1 a b h2 (by decide) h3
    exact ⟨vld_int _ _ _ ha h1.1, vld_int _ _ _ hb h1.2⟩
  · simp [opN] at h3
    obtain ⟨ha, hb⟩ := oneK2 2 a b h2 (by decide) h3
    exact ⟨vld_text _ _ _ ha h1.1, vld_text _ _ _ hb h1.2⟩
  · trivial

theorem sl2' (x : World) (b : Nat) (hb : x.heap.size = b) (k n : Int) (s : ByteArray) (k' n' : Int) (s' : ByteArray) : Sl (x.alloc (.cells #[.int .i64 k, .int .i64 n, .string s, .int .i64 k', .int .i64 n', .string s'] 27)) (some ⟨b, 0, none⟩) [⟨k, n, s⟩, ⟨k', n', s'⟩] := by
  rw [← hb]; exact sl2 x k n s k' n' s'
/-- The blocks of Binary: both operands, the result, the operation. -/
structure K4 (w : World) (L : Nat) (y0 x : World) (a b : Va) (bo : Nat) (t : Int) (nn : Bool) (fv : Value) : Prop where
  HB : Below w.heap.size w x
  U : Up L y0 x
  qa : B3 x w.heap.size (.int .i64 a.k) (.int .i64 a.n) (.string a.s)
  qb : B3 x (w.heap.size + 1) (.int .i64 b.k) (.int .i64 b.n) (.string b.s)
  qr : B3 x (w.heap.size + 1 + 1) (.int .i64 0) (.int .i64 0) (.string ⟨#[]⟩)
  qo : B3 x bo (.int .i64 t) (.bool nn) fv
theorem K4.below {w : World} {L : Nat} {y0 x z : World} {a b : Va} {bo : Nat} {t : Int} {nn : Bool} {fv : Value} (h : K4 w L y0 x a b bo t nn fv) (hb : Below x.heap.size x z) : K4 w L y0 z a b bo t nn fv :=
  ⟨h.HB.trans (hb.mono h.HB.size), h.U.below hb, h.qa.below hb, h.qb.below hb, h.qr.below hb, h.qo.below hb⟩
theorem K4.alloc {w : World} {L : Nat} {y0 x : World} {a b : Va} {bo : Nat} {t : Int} {nn : Bool} {fv : Value} (h : K4 w L y0 x a b bo t nn fv) (o : Obj) : K4 w L y0 (x.alloc o) a b bo t nn fv := h.below ((Below.refl _ _).alloc (Nat.le_refl _) o)

set_option maxRecDepth 100000 in
set_option maxHeartbeats 1000000 in
theorem binary_ (op : ByteArray) (a b : Va) (w : World) : Calls Tryz.prog 22 #[.string op, a.val, b.val] w fun e w' => e = .returned (two (binS op a b)) ∧ Below w.heap.size w w' := by
  obtain ⟨k, n, s⟩ := a
  obtain ⟨k', n', s'⟩ := b
  by_cases hk : opK op = 4
  · have H : Hid (binS op ⟨k, n, s⟩ ⟨k', n', s'⟩ = (nulV, 2)) := Lib.hid (by unfold binS; rw [if_pos hk])
    have HK := Lib.hid hk
    clear hk
    go_enter Tryz.func22, Tryz.ntmps22
    go_wp2_with (first
            | (go_at_call 57; refine (operationOf_ _ _).mono ?_; rintro e y ⟨hf, _, hb⟩; obtain rfl := hf HK.out; have KX : K3 w (((w.alloc (.cells #[.int .i64 k, .int .i64 n, .string s] 27)).alloc (.cells #[.int .i64 k', .int .i64 n', .string s'] 27)).alloc (.cells #[.int .i64 0, .int .i64 0, .string ⟨#[]⟩] 27)) w.heap.size (.int .i64 k) (.int .i64 n) (.string s) (w.heap.size + 1) (.int .i64 k') (.int .i64 n') (.string s') (w.heap.size + 1 + 1) (.int .i64 0) (.int .i64 0) (.string ⟨#[]⟩) := ⟨(new2 w _ _).alloc (by simp; omega) _, ((B3.new w _ _ _ 27).alloc _).alloc _, (B3.new' _ _ (sz1 _ _) _ _ _ 27).alloc _, B3.new' _ _ (sz2 _ _ _) _ _ _ 27⟩; have K := Lib.hid (K3.alloc (KX.below hb) (.cells #[.int .i64 0, .bool false, .nilFunc] 80)); clear hb KX hf; obtain ⟨HB, ⟨v0, v1, v2, _, _, _, vl⟩, ⟨u0, u1, u2, _, _, _, ul⟩, ⟨r0, r1, r2, g0, g1, g2, rl⟩⟩ := K.out))
    (try simp only [Exit.inBlock, Exit.then])
    exact ret_two rfl rfl K.out.p rfl ⟨by rw [H.out]; rfl, set3 HB _ (by omega) _ _ _⟩
  · have HK := Lib.hid hk
    cases h1 : allOk [⟨k, n, s⟩, ⟨k', n', s'⟩]
    · have H : Hid (binS op ⟨k, n, s⟩ ⟨k', n', s'⟩ = (nulV, 2)) := Lib.hid (by unfold binS; rw [if_neg hk, if_pos h1])
      clear hk
      go_enter Tryz.func22, Tryz.ntmps22
      go_wp2_with (first
                  | (go_at_call 57; refine (operationOf_ _ _).mono ?_; rintro e y ⟨_, hf, hb⟩; obtain ⟨f, caps, rfl, hV⟩ := hf HK.out; have KX : K3 w (((w.alloc (.cells #[.int .i64 k, .int .i64 n, .string s] 27)).alloc (.cells #[.int .i64 k', .int .i64 n', .string s'] 27)).alloc (.cells #[.int .i64 0, .int .i64 0, .string ⟨#[]⟩] 27)) w.heap.size (.int .i64 k) (.int .i64 n) (.string s) (w.heap.size + 1) (.int .i64 k') (.int .i64 n') (.string s') (w.heap.size + 1 + 1) (.int .i64 0) (.int .i64 0) (.string ⟨#[]⟩) := ⟨(new2 w _ _).alloc (by simp; omega) _, ((B3.new w _ _ _ 27).alloc _).alloc _, (B3.new' _ _ (sz1 _ _) _ _ _ 27).alloc _, B3.new' _ _ (sz2 _ _ _) _ _ _ 27⟩; have KY := KX.below hb; have K : Hid (K4 w (w.heap.size + 1 + 1 + 1 + 1) y (y.alloc (.cells #[.int .i64 (opT (opK op)), .bool (opN (opK op)), .func (.func f) #[] caps] 80)) ⟨k, n, s⟩ ⟨k', n', s'⟩ y.heap.size (opT (opK op)) (opN (opK op)) (.func (.func f) #[] caps)) := Lib.hid ⟨KY.HB.alloc KY.HB.size _, (Up.refl _ _).below (new1 _ _), KY.q.alloc _, KY.q'.alloc _, KY.p.alloc _, B3.new _ _ _ _ 80⟩; obtain ⟨f', caps', hfe, hcall, hF⟩ := hV; cases hfe; have HV := Lib.hid hF; clear hb hF KX KY hf; obtain ⟨HB, _, ⟨v0, v1, v2, _, _, _, vl⟩, ⟨u0, u1, u2, _, _, _, ul⟩, ⟨r0, r1, r2, g0, g1, g2, rl⟩, ⟨o0, o1, o2, p0, p1, p2, ol⟩⟩ := K.out)
                  | (go_at_call 38; refine (allValid_ _ _ [⟨k, n, s⟩, ⟨k', n', s'⟩] _ (by simp [maxLen]) (sl2' _ _ (by first | rfl | exact sz1 _ _) _ _ _ _ _ _)).mono ?_; rintro e y2 ⟨rfl, hb⟩; have K := Lib.hid (K4.below (K4.alloc (Hid.out (by assumption)) _) hb); clear hb; obtain ⟨HB, _, ⟨v0, v1, v2, _, _, _, vl⟩, ⟨u0, u1, u2, _, _, _, ul⟩, ⟨r0, r1, r2, g0, g1, g2, rl⟩, ⟨o0, o1, o2, p0, p1, p2, ol⟩⟩ := K.out)
                  | (go_at_call 58; refine (oneKind_ _ _ _ [⟨k, n, s⟩, ⟨k', n', s'⟩] _ (by simp [maxLen]) (sl2' _ _ (by first | rfl | exact sz1 _ _) _ _ _ _ _ _)).mono ?_; rintro e y2 ⟨rfl, hb⟩; have K := Lib.hid (K4.below (K4.alloc (Hid.out (by assumption)) _) hb); clear hb; obtain ⟨HB, _, ⟨v0, v1, v2, _, _, _, vl⟩, ⟨u0, u1, u2, _, _, _, ul⟩, ⟨r0, r1, r2, g0, g1, g2, rl⟩, ⟨o0, o1, o2, p0, p1, p2, ol⟩⟩ := K.out)
                  | (go_at_call 41; refine (someNull_ _ _ [⟨k, n, s⟩, ⟨k', n', s'⟩] _ (by simp [maxLen]) (sl2' _ _ (by first | rfl | exact sz1 _ _) _ _ _ _ _ _)).mono ?_; rintro e y2 ⟨rfl, hb⟩; have K := Lib.hid (K4.below (K4.alloc (Hid.out (by assumption)) _) hb); clear hb; obtain ⟨HB, _, ⟨v0, v1, v2, _, _, _, vl⟩, ⟨u0, u1, u2, _, _, _, ul⟩, ⟨r0, r1, r2, g0, g1, g2, rl⟩, ⟨o0, o1, o2, p0, p1, p2, ol⟩⟩ := K.out))
      (try simp only [Exit.inBlock, Exit.then])
      exact ret_two rfl rfl K.out.qr rfl ⟨by rw [H.out]; rfl, set3 HB _ (by omega) _ _ _⟩
    cases h2 : oneK (opT (opK op)) [⟨k, n, s⟩, ⟨k', n', s'⟩]
    · have H : Hid (binS op ⟨k, n, s⟩ ⟨k', n', s'⟩ = (nulV, 16)) := Lib.hid (by unfold binS; rw [if_neg hk, if_neg (by simp [h1]), if_pos h2])
      clear hk
      go_enter Tryz.func22, Tryz.ntmps22
      go_wp2_with (first
                  | (go_at_call 57; refine (operationOf_ _ _).mono ?_; rintro e y ⟨_, hf, hb⟩; obtain ⟨f, caps, rfl, hV⟩ := hf HK.out; have KX : K3 w (((w.alloc (.cells #[.int .i64 k, .int .i64 n, .string s] 27)).alloc (.cells #[.int .i64 k', .int .i64 n', .string s'] 27)).alloc (.cells #[.int .i64 0, .int .i64 0, .string ⟨#[]⟩] 27)) w.heap.size (.int .i64 k) (.int .i64 n) (.string s) (w.heap.size + 1) (.int .i64 k') (.int .i64 n') (.string s') (w.heap.size + 1 + 1) (.int .i64 0) (.int .i64 0) (.string ⟨#[]⟩) := ⟨(new2 w _ _).alloc (by simp; omega) _, ((B3.new w _ _ _ 27).alloc _).alloc _, (B3.new' _ _ (sz1 _ _) _ _ _ 27).alloc _, B3.new' _ _ (sz2 _ _ _) _ _ _ 27⟩; have KY := KX.below hb; have K : Hid (K4 w (w.heap.size + 1 + 1 + 1 + 1) y (y.alloc (.cells #[.int .i64 (opT (opK op)), .bool (opN (opK op)), .func (.func f) #[] caps] 80)) ⟨k, n, s⟩ ⟨k', n', s'⟩ y.heap.size (opT (opK op)) (opN (opK op)) (.func (.func f) #[] caps)) := Lib.hid ⟨KY.HB.alloc KY.HB.size _, (Up.refl _ _).below (new1 _ _), KY.q.alloc _, KY.q'.alloc _, KY.p.alloc _, B3.new _ _ _ _ 80⟩; obtain ⟨f', caps', hfe, hcall, hF⟩ := hV; cases hfe; have HV := Lib.hid hF; clear hb hF KX KY hf; obtain ⟨HB, _, ⟨v0, v1, v2, _, _, _, vl⟩, ⟨u0, u1, u2, _, _, _, ul⟩, ⟨r0, r1, r2, g0, g1, g2, rl⟩, ⟨o0, o1, o2, p0, p1, p2, ol⟩⟩ := K.out)
                  | (go_at_call 38; refine (allValid_ _ _ [⟨k, n, s⟩, ⟨k', n', s'⟩] _ (by simp [maxLen]) (sl2' _ _ (by first | rfl | exact sz1 _ _) _ _ _ _ _ _)).mono ?_; rintro e y2 ⟨rfl, hb⟩; have K := Lib.hid (K4.below (K4.alloc (Hid.out (by assumption)) _) hb); clear hb; obtain ⟨HB, _, ⟨v0, v1, v2, _, _, _, vl⟩, ⟨u0, u1, u2, _, _, _, ul⟩, ⟨r0, r1, r2, g0, g1, g2, rl⟩, ⟨o0, o1, o2, p0, p1, p2, ol⟩⟩ := K.out)
                  | (go_at_call 58; refine (oneKind_ _ _ _ [⟨k, n, s⟩, ⟨k', n', s'⟩] _ (by simp [maxLen]) (sl2' _ _ (by first | rfl | exact sz1 _ _) _ _ _ _ _ _)).mono ?_; rintro e y2 ⟨rfl, hb⟩; have K := Lib.hid (K4.below (K4.alloc (Hid.out (by assumption)) _) hb); clear hb; obtain ⟨HB, _, ⟨v0, v1, v2, _, _, _, vl⟩, ⟨u0, u1, u2, _, _, _, ul⟩, ⟨r0, r1, r2, g0, g1, g2, rl⟩, ⟨o0, o1, o2, p0, p1, p2, ol⟩⟩ := K.out)
                  | (go_at_call 41; refine (someNull_ _ _ [⟨k, n, s⟩, ⟨k', n', s'⟩] _ (by simp [maxLen]) (sl2' _ _ (by first | rfl | exact sz1 _ _) _ _ _ _ _ _)).mono ?_; rintro e y2 ⟨rfl, hb⟩; have K := Lib.hid (K4.below (K4.alloc (Hid.out (by assumption)) _) hb); clear hb; obtain ⟨HB, _, ⟨v0, v1, v2, _, _, _, vl⟩, ⟨u0, u1, u2, _, _, _, ul⟩, ⟨r0, r1, r2, g0, g1, g2, rl⟩, ⟨o0, o1, o2, p0, p1, p2, ol⟩⟩ := K.out))
      (try simp only [Exit.inBlock, Exit.then])
      exact ret_two rfl rfl K.out.qr rfl ⟨by rw [H.out]; rfl, set3 HB _ (by omega) _ _ _⟩
    cases h3 : hasNull [⟨k, n, s⟩, ⟨k', n', s'⟩]
    · have H : Hid (binS op ⟨k, n, s⟩ ⟨k', n', s'⟩ = opSp op (opK op) ⟨k, n, s⟩ ⟨k', n', s'⟩) := Lib.hid (by unfold binS; rw [if_neg hk, if_neg (by simp [h1]), if_neg (by simp [h2]), if_neg (by simp [h3])])
      have HD := Lib.hid (opD_of op _ _ h1 h2 (.inl h3))
      clear hk
      go_enter Tryz.func22, Tryz.ntmps22
      go_wp2_with (first
                  | (go_at_call 57; refine (operationOf_ _ _).mono ?_; rintro e y ⟨_, hf, hb⟩; obtain ⟨f, caps, rfl, hV⟩ := hf HK.out; have KX : K3 w (((w.alloc (.cells #[.int .i64 k, .int .i64 n, .string s] 27)).alloc (.cells #[.int .i64 k', .int .i64 n', .string s'] 27)).alloc (.cells #[.int .i64 0, .int .i64 0, .string ⟨#[]⟩] 27)) w.heap.size (.int .i64 k) (.int .i64 n) (.string s) (w.heap.size + 1) (.int .i64 k') (.int .i64 n') (.string s') (w.heap.size + 1 + 1) (.int .i64 0) (.int .i64 0) (.string ⟨#[]⟩) := ⟨(new2 w _ _).alloc (by simp; omega) _, ((B3.new w _ _ _ 27).alloc _).alloc _, (B3.new' _ _ (sz1 _ _) _ _ _ 27).alloc _, B3.new' _ _ (sz2 _ _ _) _ _ _ 27⟩; have KY := KX.below hb; have K : Hid (K4 w (w.heap.size + 1 + 1 + 1 + 1) y (y.alloc (.cells #[.int .i64 (opT (opK op)), .bool (opN (opK op)), .func (.func f) #[] caps] 80)) ⟨k, n, s⟩ ⟨k', n', s'⟩ y.heap.size (opT (opK op)) (opN (opK op)) (.func (.func f) #[] caps)) := Lib.hid ⟨KY.HB.alloc KY.HB.size _, (Up.refl _ _).below (new1 _ _), KY.q.alloc _, KY.q'.alloc _, KY.p.alloc _, B3.new _ _ _ _ 80⟩; obtain ⟨f', caps', hfe, hcall, hF⟩ := hV; cases hfe; have HV := Lib.hid hF; clear hb hF KX KY hf; obtain ⟨HB, _, ⟨v0, v1, v2, _, _, _, vl⟩, ⟨u0, u1, u2, _, _, _, ul⟩, ⟨r0, r1, r2, g0, g1, g2, rl⟩, ⟨o0, o1, o2, p0, p1, p2, ol⟩⟩ := K.out)
                  | (go_at_call 38; refine (allValid_ _ _ [⟨k, n, s⟩, ⟨k', n', s'⟩] _ (by simp [maxLen]) (sl2' _ _ (by first | rfl | exact sz1 _ _) _ _ _ _ _ _)).mono ?_; rintro e y2 ⟨rfl, hb⟩; have K := Lib.hid (K4.below (K4.alloc (Hid.out (by assumption)) _) hb); clear hb; obtain ⟨HB, _, ⟨v0, v1, v2, _, _, _, vl⟩, ⟨u0, u1, u2, _, _, _, ul⟩, ⟨r0, r1, r2, g0, g1, g2, rl⟩, ⟨o0, o1, o2, p0, p1, p2, ol⟩⟩ := K.out)
                  | (go_at_call 58; refine (oneKind_ _ _ _ [⟨k, n, s⟩, ⟨k', n', s'⟩] _ (by simp [maxLen]) (sl2' _ _ (by first | rfl | exact sz1 _ _) _ _ _ _ _ _)).mono ?_; rintro e y2 ⟨rfl, hb⟩; have K := Lib.hid (K4.below (K4.alloc (Hid.out (by assumption)) _) hb); clear hb; obtain ⟨HB, _, ⟨v0, v1, v2, _, _, _, vl⟩, ⟨u0, u1, u2, _, _, _, ul⟩, ⟨r0, r1, r2, g0, g1, g2, rl⟩, ⟨o0, o1, o2, p0, p1, p2, ol⟩⟩ := K.out)
                  | (go_at_call 41; refine (someNull_ _ _ [⟨k, n, s⟩, ⟨k', n', s'⟩] _ (by simp [maxLen]) (sl2' _ _ (by first | rfl | exact sz1 _ _) _ _ _ _ _ _)).mono ?_; rintro e y2 ⟨rfl, hb⟩; have K := Lib.hid (K4.below (K4.alloc (Hid.out (by assumption)) _) hb); clear hb; obtain ⟨HB, _, ⟨v0, v1, v2, _, _, _, vl⟩, ⟨u0, u1, u2, _, _, _, ul⟩, ⟨r0, r1, r2, g0, g1, g2, rl⟩, ⟨o0, o1, o2, p0, p1, p2, ol⟩⟩ := K.out))
      go_wp2_with fail
      refine (HV.out _ (Up.mono K.out.U (by simp)) ⟨k, n, s⟩ ⟨k', n', s'⟩ HD.out).mono ?_
      rintro e y3 ⟨rfl, hb⟩
      have K := Lib.hid (K4.below (Hid.out (by assumption)) hb)
      clear hb
      obtain ⟨HB, _, ⟨v0, v1, v2, _, _, _, vl⟩, ⟨u0, u1, u2, _, _, _, ul⟩, ⟨r0, r1, r2, g0, g1, g2, rl⟩, ⟨o0, o1, o2, p0, p1, p2, ol⟩⟩ := K.out
      go_wp2
      (try simp only [Exit.inBlock, Exit.then])
      exact ret_two rfl rfl K.out.qr rfl ⟨by rw [H.out]; rfl, set3 HB _ (by omega) _ _ _⟩
    cases h4 : opN (opK op)
    · have H : Hid (binS op ⟨k, n, s⟩ ⟨k', n', s'⟩ = (nulV, 0)) := Lib.hid (by unfold binS; rw [if_neg hk, if_neg (by simp [h1]), if_neg (by simp [h2]), if_pos h3, if_pos h4])
      clear hk
      go_enter Tryz.func22, Tryz.ntmps22
      go_wp2_with (first
                  | (go_at_call 57; refine (operationOf_ _ _).mono ?_; rintro e y ⟨_, hf, hb⟩; obtain ⟨f, caps, rfl, hV⟩ := hf HK.out; have KX : K3 w (((w.alloc (.cells #[.int .i64 k, .int .i64 n, .string s] 27)).alloc (.cells #[.int .i64 k', .int .i64 n', .string s'] 27)).alloc (.cells #[.int .i64 0, .int .i64 0, .string ⟨#[]⟩] 27)) w.heap.size (.int .i64 k) (.int .i64 n) (.string s) (w.heap.size + 1) (.int .i64 k') (.int .i64 n') (.string s') (w.heap.size + 1 + 1) (.int .i64 0) (.int .i64 0) (.string ⟨#[]⟩) := ⟨(new2 w _ _).alloc (by simp; omega) _, ((B3.new w _ _ _ 27).alloc _).alloc _, (B3.new' _ _ (sz1 _ _) _ _ _ 27).alloc _, B3.new' _ _ (sz2 _ _ _) _ _ _ 27⟩; have KY := KX.below hb; have K : Hid (K4 w (w.heap.size + 1 + 1 + 1 + 1) y (y.alloc (.cells #[.int .i64 (opT (opK op)), .bool false, .func (.func f) #[] caps] 80)) ⟨k, n, s⟩ ⟨k', n', s'⟩ y.heap.size (opT (opK op)) false (.func (.func f) #[] caps)) := Lib.hid ⟨KY.HB.alloc KY.HB.size _, (Up.refl _ _).below (new1 _ _), KY.q.alloc _, KY.q'.alloc _, KY.p.alloc _, B3.new _ _ _ _ 80⟩; obtain ⟨f', caps', hfe, hcall, hF⟩ := hV; cases hfe; have HV := Lib.hid hF; clear hb hF KX KY hf; obtain ⟨HB, _, ⟨v0, v1, v2, _, _, _, vl⟩, ⟨u0, u1, u2, _, _, _, ul⟩, ⟨r0, r1, r2, g0, g1, g2, rl⟩, ⟨o0, o1, o2, p0, p1, p2, ol⟩⟩ := K.out)
                  | (go_at_call 38; refine (allValid_ _ _ [⟨k, n, s⟩, ⟨k', n', s'⟩] _ (by simp [maxLen]) (sl2' _ _ (by first | rfl | exact sz1 _ _) _ _ _ _ _ _)).mono ?_; rintro e y2 ⟨rfl, hb⟩; have K := Lib.hid (K4.below (K4.alloc (Hid.out (by assumption)) _) hb); clear hb; obtain ⟨HB, _, ⟨v0, v1, v2, _, _, _, vl⟩, ⟨u0, u1, u2, _, _, _, ul⟩, ⟨r0, r1, r2, g0, g1, g2, rl⟩, ⟨o0, o1, o2, p0, p1, p2, ol⟩⟩ := K.out)
                  | (go_at_call 58; refine (oneKind_ _ _ _ [⟨k, n, s⟩, ⟨k', n', s'⟩] _ (by simp [maxLen]) (sl2' _ _ (by first | rfl | exact sz1 _ _) _ _ _ _ _ _)).mono ?_; rintro e y2 ⟨rfl, hb⟩; have K := Lib.hid (K4.below (K4.alloc (Hid.out (by assumption)) _) hb); clear hb; obtain ⟨HB, _, ⟨v0, v1, v2, _, _, _, vl⟩, ⟨u0, u1, u2, _, _, _, ul⟩, ⟨r0, r1, r2, g0, g1, g2, rl⟩, ⟨o0, o1, o2, p0, p1, p2, ol⟩⟩ := K.out)
                  | (go_at_call 41; refine (someNull_ _ _ [⟨k, n, s⟩, ⟨k', n', s'⟩] _ (by simp [maxLen]) (sl2' _ _ (by first | rfl | exact sz1 _ _) _ _ _ _ _ _)).mono ?_; rintro e y2 ⟨rfl, hb⟩; have K := Lib.hid (K4.below (K4.alloc (Hid.out (by assumption)) _) hb); clear hb; obtain ⟨HB, _, ⟨v0, v1, v2, _, _, _, vl⟩, ⟨u0, u1, u2, _, _, _, ul⟩, ⟨r0, r1, r2, g0, g1, g2, rl⟩, ⟨o0, o1, o2, p0, p1, p2, ol⟩⟩ := K.out))
      (try simp only [Exit.inBlock, Exit.then])
      exact ret_two rfl rfl K.out.qr rfl ⟨by rw [H.out]; rfl, set3 HB _ (by omega) _ _ _⟩
    · have H : Hid (binS op ⟨k, n, s⟩ ⟨k', n', s'⟩ = opSp op (opK op) ⟨k, n, s⟩ ⟨k', n', s'⟩) := Lib.hid (by unfold binS; rw [if_neg hk, if_neg (by simp [h1]), if_neg (by simp [h2]), if_pos h3, if_neg (by simp [h4])])
      have HD := Lib.hid (opD_of op _ _ h1 h2 (.inr h4))
      clear hk
      go_enter Tryz.func22, Tryz.ntmps22
      go_wp2_with (first
                  | (go_at_call 57; refine (operationOf_ _ _).mono ?_; rintro e y ⟨_, hf, hb⟩; obtain ⟨f, caps, rfl, hV⟩ := hf HK.out; have KX : K3 w (((w.alloc (.cells #[.int .i64 k, .int .i64 n, .string s] 27)).alloc (.cells #[.int .i64 k', .int .i64 n', .string s'] 27)).alloc (.cells #[.int .i64 0, .int .i64 0, .string ⟨#[]⟩] 27)) w.heap.size (.int .i64 k) (.int .i64 n) (.string s) (w.heap.size + 1) (.int .i64 k') (.int .i64 n') (.string s') (w.heap.size + 1 + 1) (.int .i64 0) (.int .i64 0) (.string ⟨#[]⟩) := ⟨(new2 w _ _).alloc (by simp; omega) _, ((B3.new w _ _ _ 27).alloc _).alloc _, (B3.new' _ _ (sz1 _ _) _ _ _ 27).alloc _, B3.new' _ _ (sz2 _ _ _) _ _ _ 27⟩; have KY := KX.below hb; have K : Hid (K4 w (w.heap.size + 1 + 1 + 1 + 1) y (y.alloc (.cells #[.int .i64 (opT (opK op)), .bool true, .func (.func f) #[] caps] 80)) ⟨k, n, s⟩ ⟨k', n', s'⟩ y.heap.size (opT (opK op)) true (.func (.func f) #[] caps)) := Lib.hid ⟨KY.HB.alloc KY.HB.size _, (Up.refl _ _).below (new1 _ _), KY.q.alloc _, KY.q'.alloc _, KY.p.alloc _, B3.new _ _ _ _ 80⟩; obtain ⟨f', caps', hfe, hcall, hF⟩ := hV; cases hfe; have HV := Lib.hid hF; clear hb hF KX KY hf; obtain ⟨HB, _, ⟨v0, v1, v2, _, _, _, vl⟩, ⟨u0, u1, u2, _, _, _, ul⟩, ⟨r0, r1, r2, g0, g1, g2, rl⟩, ⟨o0, o1, o2, p0, p1, p2, ol⟩⟩ := K.out)
                  | (go_at_call 38; refine (allValid_ _ _ [⟨k, n, s⟩, ⟨k', n', s'⟩] _ (by simp [maxLen]) (sl2' _ _ (by first | rfl | exact sz1 _ _) _ _ _ _ _ _)).mono ?_; rintro e y2 ⟨rfl, hb⟩; have K := Lib.hid (K4.below (K4.alloc (Hid.out (by assumption)) _) hb); clear hb; obtain ⟨HB, _, ⟨v0, v1, v2, _, _, _, vl⟩, ⟨u0, u1, u2, _, _, _, ul⟩, ⟨r0, r1, r2, g0, g1, g2, rl⟩, ⟨o0, o1, o2, p0, p1, p2, ol⟩⟩ := K.out)
                  | (go_at_call 58; refine (oneKind_ _ _ _ [⟨k, n, s⟩, ⟨k', n', s'⟩] _ (by simp [maxLen]) (sl2' _ _ (by first | rfl | exact sz1 _ _) _ _ _ _ _ _)).mono ?_; rintro e y2 ⟨rfl, hb⟩; have K := Lib.hid (K4.below (K4.alloc (Hid.out (by assumption)) _) hb); clear hb; obtain ⟨HB, _, ⟨v0, v1, v2, _, _, _, vl⟩, ⟨u0, u1, u2, _, _, _, ul⟩, ⟨r0, r1, r2, g0, g1, g2, rl⟩, ⟨o0, o1, o2, p0, p1, p2, ol⟩⟩ := K.out)
                  | (go_at_call 41; refine (someNull_ _ _ [⟨k, n, s⟩, ⟨k', n', s'⟩] _ (by simp [maxLen]) (sl2' _ _ (by first | rfl | exact sz1 _ _) _ _ _ _ _ _)).mono ?_; rintro e y2 ⟨rfl, hb⟩; have K := Lib.hid (K4.below (K4.alloc (Hid.out (by assumption)) _) hb); clear hb; obtain ⟨HB, _, ⟨v0, v1, v2, _, _, _, vl⟩, ⟨u0, u1, u2, _, _, _, ul⟩, ⟨r0, r1, r2, g0, g1, g2, rl⟩, ⟨o0, o1, o2, p0, p1, p2, ol⟩⟩ := K.out))
      go_wp2_with fail
      refine (HV.out _ (Up.mono K.out.U (by simp)) ⟨k, n, s⟩ ⟨k', n', s'⟩ HD.out).mono ?_
      rintro e y3 ⟨rfl, hb⟩
      have K := Lib.hid (K4.below (Hid.out (by assumption)) hb)
      clear hb
      obtain ⟨HB, _, ⟨v0, v1, v2, _, _, _, vl⟩, ⟨u0, u1, u2, _, _, _, ul⟩, ⟨r0, r1, r2, g0, g1, g2, rl⟩, ⟨o0, o1, o2, p0, p1, p2, ol⟩⟩ := K.out
      go_wp2
      (try simp only [Exit.inBlock, Exit.then])
      exact ret_two rfl rfl K.out.qr rfl ⟨by rw [H.out]; rfl, set3 HB _ (by omega) _ _ _⟩
end Go.Proofs.YthomeplakcbfoaaGreatDoor
