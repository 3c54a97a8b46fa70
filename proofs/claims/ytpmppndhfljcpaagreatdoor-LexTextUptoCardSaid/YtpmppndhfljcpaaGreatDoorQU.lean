/-
  The law of reading: the reference reads what Lex reads, and what is written is read so.
-/
import Derived.Test.YtpmppndhfljcpaaGreatDoorQP
import Derived.Test.YtpmppndhfljcpaaGreatDoorQT
namespace Go.Proofs.YtpmppndhfljcpaaGreatDoor
open Go.RowKit

theorem refLexOk (s : ByteArray) (w : World) (hsz : s.size ≤ 20000) (A : List (Tk × Nat)) (hL : lexS s.data.toList = (A, none)) :
    Calls Tryz.prog 29 #[.string s] w fun e w' => ∃ a cap, e = .returned (.tuple #[.slice a A.length cap, flV 0 ⟨#[]⟩ 0 0]) ∧ SlT w' a (tvL s.data.toList A) ∧ Below w.heap.size w w' := by
  refine (refLex_ s w (by omega)).mono fun e w' hq => ?_
  unfold LexEnds at hq
  rw [if_neg (by omega), hL] at hq
  obtain ⟨hb, v, rfl, hr⟩ := hq
  obtain ⟨a, cap, rfl, hS⟩ := hr.slT
  exact ⟨a, cap, rfl, hS, hb⟩
/-- Both read no tokens, and have the same fault. -/
theorem lex_fault (s : ByteArray) (hs : s.size ≤ 30000) (h : 20000 < s.size ∨ ∃ A q, lexS s.data.toList = (A, some q)) : ∃ c nm ln cl, (c != 0) = true ∧
    (∀ w, Env w → Calls Tryz.prog 28 #[.string s] w fun e w' => e = .returned (.tuple #[.slice none 0 0, flV c nm ln cl]) ∧ Below w.heap.size w w') ∧
    (∀ w, Calls Tryz.prog 29 #[.string s] w fun e w' => e = .returned (.tuple #[.slice none 0 0, flV c nm ln cl]) ∧ Below w.heap.size w w') := by
  by_cases h2 : 20000 < s.size
  · refine ⟨3, ⟨#[]⟩, 0, 0, rfl, fun w E => ?_, fun w => ?_⟩
    · refine (lex_ s w E (by omega)).mono fun e w' hq => ?_
      unfold LexEnds at hq
      rw [if_pos h2] at hq
      exact ⟨hq.2, hq.1⟩
    · refine (refLex_ s w (by omega)).mono fun e w' hq => ?_
      unfold LexEnds at hq
      rw [if_pos h2] at hq
      exact ⟨hq.2, hq.1⟩
  · rcases h with h | ⟨A, ⟨c, nm, i⟩, hL⟩
    · exact absurd h h2
    · have hc := (lexC_fault _ s.data.toList 0 0 (c, nm, i) (by show (lexS s.data.toList).2 = _; rw [hL])).1
      refine ⟨c, baOf nm, (placeP (s.data.toList.take i)).1, (placeP (s.data.toList.take i)).2, by rcases hc with h | h | h <;> (simp only at h; subst h; rfl), fun w E => ?_, fun w => ?_⟩
      · refine (lex_ s w E (by omega)).mono fun e w' hq => ?_
        unfold LexEnds at hq
        rw [if_neg h2, hL] at hq
        exact ⟨hq.2, hq.1⟩
      · refine (refLex_ s w (by omega)).mono fun e w' hq => ?_
        unfold LexEnds at hq
        rw [if_neg h2, hL] at hq
        exact ⟨hq.2, hq.1⟩
theorem tvL_tk (s : Bs) (A : List (Tk × Nat)) : (tvL s A).map Tv.tk = A.map (·.1) := by
  unfold tvL
  rw [List.map_map]
  exact List.map_congr_left fun q _ => rfl
theorem okL_tvL (s : Bs) (A : List (Tk × Nat)) (h : lexS s = (A, none)) : okL (tvL s A) = true := by
  have h1 : ∀ p ∈ A, okT p.1 = true := by
    have := lexC_okT (s.length + 1) s 0 0
    have e : (lexC (s.length + 1) s 0 0).1 = A := by show (lexS s).1 = A; rw [h]
    rwa [e] at this
  unfold okL tvL
  rw [List.all_map, List.all_eq_true]
  exact fun q hq => h1 q hq
theorem refSame_true (a b : Option Addr) (n m c d : Nat) (l k : List Tv) (hn : l.length = n) (hm : k.length = m) (hl : n ≤ 4398046511000) (h : SameL l k) (w : World) (h1 : SlT w a l) (h2 : SlT w b k) :
    Calls Tryz.prog 33 #[.slice a n c, .slice b m d] w fun e w' => e = .returned (.bool true) ∧ Below w.heap.size w w' := by
  subst hn
  subst hm
  refine (refSame_ a b c d l k w hl h1 h2).mono fun e' w' hq => ?_
  obtain ⟨q, rfl, h3, h4⟩ := hq
  rw [h3.2 h]
  exact ⟨rfl, h4⟩
set_option maxRecDepth 100000 in
set_option maxHeartbeats 2000000 in
theorem lexLex_long (s : ByteArray) (w : World) (E : Env w) (h : (30000 : Int) < s.size) : Calls Tryz.prog 6 #[.string s] w fun e w' => e = .returned (.bool true) ∧ Below w.heap.size w w' := by
  have HAw := Lib.hid (lexAwake_ w E)
  clear E
  go_enter Tryz.func6, Tryz.ntmps6
  go_wp2_with (first
    | (go_at_call 27; (with_reducible refine HAw.out.mono ?_); rintro e y ⟨rfl, hb⟩; have HB := Lib.hid hb; clear hb))
  go_ret
  exact ⟨rfl, HB.out⟩
set_option maxRecDepth 100000 in
set_option maxHeartbeats 4000000 in
theorem lexLex_bad (s : ByteArray) (w : World) (E : Env w) (hs : (s.size : Int) ≤ 30000) (h : 20000 < s.size ∨ ∃ A q, lexS s.data.toList = (A, some q)) : Calls Tryz.prog 6 #[.string s] w fun e w' => e = .returned (.bool true) ∧ Below w.heap.size w w' := by
  obtain ⟨c, nm, ln, cl, hc, h1, h2⟩ := lex_fault s (by omega) h
  have HE := Lib.hid E
  have HAw := Lib.hid fun x hx => lexAwake_ x hx
  have H1 := Lib.hid h1
  have H2 := Lib.hid h2
  have H3 : Hid (∀ x, Calls Tryz.prog 30 #[.slice none 0 0, .slice none 0 0] x fun e w' => e = .returned (.bool true) ∧ Below x.heap.size x w') := Lib.hid fun x => tokensEq_ none none 0 0 [] x (by simp) (SlT.nil _ _) (SlT.nil _ _)
  clear E h h1 h2
  go_enter Tryz.func6, Tryz.ntmps6
  go_upto_region 4 with (first
    | (go_at_call 28; (with_reducible refine (H1.out _ HE.out).mono ?_); rintro e y ⟨rfl, hb⟩; have K1 := Lib.hid (((KG.refl w).below hb).push' y.heap.size rfl (flC c nm ln cl) 45); clear hb))
  go_upto_region 5 with (first
    | (go_at_call 29; (with_reducible refine (H2.out _).mono ?_); rintro e y2 ⟨rfl, hb⟩; have K2 := Lib.hid ((K1.out.below hb).push' y2.heap.size rfl (flC c nm ln cl) 45); clear hb))
  clear K1
  go_wp2_with (first
    | (go_at_call 30; (with_reducible refine (H3.out _).mono ?_); rintro e y3 ⟨rfl, hb⟩; have K3 := Lib.hid (K2.out.below hb); clear hb; obtain ⟨t0, t1, t2, t3, g0, g1, g2, g3, gl⟩ := K3.out.q.1.1.open4; obtain ⟨r0, r1, r2, r3, e0, e1, e2, e3, el⟩ := K3.out.q.2.1.1.open4)
    | (go_at_call 27; (with_reducible refine (HAw.out _ (HE.out.below K3.out.HB)).mono ?_); rintro e y4 ⟨rfl, hb⟩; have HB := Lib.hid (K3.out.below hb).HB; clear hb))
  go_ret
  exact ⟨rfl, HB.out⟩
set_option maxRecDepth 100000 in
set_option maxHeartbeats 4000000 in
theorem lexLex_good (s : ByteArray) (w : World) (E : Env w) (hs : s.size ≤ 20000) (A : List (Tk × Nat)) (hL : lexS s.data.toList = (A, none)) : Calls Tryz.prog 6 #[.string s] w fun e w' => e = .returned (.bool true) ∧ Below w.heap.size w w' := by
  have HE := Lib.hid E
  have hs' : (s.size : Int) ≤ 30000 := by omega
  have HAw := Lib.hid fun x hx => lexAwake_ x hx
  have H1 := Lib.hid fun x hx => lexOk s x hx hs A hL
  have H2 := Lib.hid fun x => refLexOk s x hs A hL
  have hcount := lexS_count _ _ hL
  have HN := Lib.hid hcount
  have HTL := Lib.hid (tvL_len s.data.toList A)
  have H3 : Hid (∀ (a b : Option Addr) (c d : Nat) (x : World), SlT x a (tvL s.data.toList A) → SlT x b (tvL s.data.toList A) → Calls Tryz.prog 30 #[.slice a A.length c, .slice b A.length d] x fun e w' => e = .returned (.bool true) ∧ Below x.heap.size x w') :=
    Lib.hid fun a b c d x ha hb => by have := tokensEq_ a b c d _ x (by rw [tvL_len]; omega) ha hb; rwa [tvL_len] at this
  have H4 : Hid (∀ (a : Option Addr) (c : Nat) (x : World), Env x → SlT x a (tvL s.data.toList A) → Calls Tryz.prog 31 #[.slice a A.length c] x fun e w' => e = .returned (.tuple #[.string (textS (tvL s.data.toList A)).1, .int .i64 (textS (tvL s.data.toList A)).2]) ∧ Below x.heap.size x w') :=
    Lib.hid fun a c x hx ha => by have := lexText_ a c _ x hx (by rw [tvL_len]; omega) ha; rwa [tvL_len] at this
  have hokl := okL_tvL _ _ hL
  have hjn : joinT (tvL s.data.toList A) = joinW (A.map fun q : Tk × Nat => q.1) := by unfold joinT; rw [tvL_tk]
  by_cases hlong : 20000 < (joinT (tvL s.data.toList A)).length
  · have ht : textS (tvL s.data.toList A) = (⟨#[]⟩, 3) := by unfold textS; rw [if_pos hokl, if_pos hlong]
    rw [ht] at H4
    clear E hL ht hlong hjn hokl hcount
    go_enter Tryz.func6, Tryz.ntmps6
    go_upto_region 4 with (first
      | (go_at_call 28; (with_reducible refine (H1.out _ HE.out).mono ?_); rintro e y ⟨a, cap, rfl, hf, hb⟩; have K1 := Lib.hid (((KG.refl w).below hb).push' y.heap.size rfl (flC 0 ⟨#[]⟩ 0 0) 45); have F1 := Lib.hid (hf.below (new1 _ (.cells #[.int .i64 0, .string ⟨#[]⟩, .int .i64 0, .int .i64 0] 45))); clear hb hf))
    go_upto_region 5 with (first
      | (go_at_call 29; (with_reducible refine (H2.out _).mono ?_); rintro e y2 ⟨a2, cap2, rfl, hf, hb⟩; have K2 := Lib.hid ((K1.out.below hb).push' y2.heap.size rfl (flC 0 ⟨#[]⟩ 0 0) 45); have F1b := Lib.hid ((F1.out.below hb).below (new1 _ (.cells #[.int .i64 0, .string ⟨#[]⟩, .int .i64 0, .int .i64 0] 45))); have F2 := Lib.hid (hf.below (new1 _ (.cells #[.int .i64 0, .string ⟨#[]⟩, .int .i64 0, .int .i64 0] 45))); clear hb hf))
    clear K1 F1
    go_wp2_with (first
      | (go_at_call 30; (with_reducible refine (H3.out _ _ _ _ _ F1b.out F2.out).mono ?_); rintro e y3 ⟨rfl, hb⟩; have K3 := Lib.hid (K2.out.below hb); have S3 := Lib.hid (F1b.out.below hb); clear hb; obtain ⟨t0, t1, t2, t3, g0, g1, g2, g3, gl⟩ := K3.out.q.1.1.open4; obtain ⟨r0, r1, r2, r3, e0, e1, e2, e3, el⟩ := K3.out.q.2.1.1.open4)
      | (go_at_call 31; (with_reducible refine (H4.out _ _ _ (HE.out.below K3.out.HB) S3.out).mono ?_); rintro e y4 ⟨rfl, hb⟩; have K4 := Lib.hid (K3.out.below hb); have S4 := Lib.hid (S3.out.below hb); clear hb)
      | (go_at_call 27; (with_reducible refine (HAw.out _ (HE.out.below K4.out.HB)).mono ?_); rintro e y9 ⟨rfl, hb⟩; have HB := Lib.hid (K4.out.HB.trans (hb.mono K4.out.HB.size)); clear hb))
    go_ret
    exact ⟨rfl, HB.out⟩
  · have ht : textS (tvL s.data.toList A) = (baOf (joinW (A.map fun q : Tk × Nat => q.1)), 0) := by unfold textS; rw [if_pos hokl, if_neg hlong, hjn]
    rw [ht] at H4
    obtain ⟨r, hr, hrm⟩ := lexS_join (A.map fun q : Tk × Nat => q.1) (by
      have h1 : ∀ p ∈ A, okT p.1 = true := by
        have := lexC_okT (s.data.toList.length + 1) s.data.toList 0 0
        have e : (lexC (s.data.toList.length + 1) s.data.toList 0 0).1 = A := by show (lexS s.data.toList).1 = A; rw [hL]
        rwa [e] at this
      intro x hx
      obtain ⟨q, hq, rfl⟩ := List.mem_map.1 hx
      exact h1 q hq) (by rw [List.length_map]; exact hcount)
    have hzz : (baOf (joinW (A.map fun q : Tk × Nat => q.1))).size ≤ 20000 := by rw [baOf_size, ← hjn]; omega
    have hrl : r.length = A.length := by have := congrArg List.length hrm; simpa using this
    have H5 := Lib.hid fun x hx => lexOk (baOf (joinW (A.map fun q : Tk × Nat => q.1))) x hx hzz r hr
    have hsame : SameL (tvL s.data.toList A) (tvL (baOf (joinW (A.map fun q : Tk × Nat => q.1))).data.toList r) := by
      unfold SameL
      rw [tvL_key, tvL_key, hrm]
    have H6 : Hid (∀ (a b : Option Addr) (c d : Nat) (x : World), SlT x a (tvL s.data.toList A) → SlT x b (tvL (baOf (joinW (A.map fun q : Tk × Nat => q.1))).data.toList r) → Calls Tryz.prog 32 #[.slice a A.length c, .slice b r.length d] x fun e w' => e = .returned (.bool true) ∧ Below x.heap.size x w') :=
      Lib.hid fun a b c d x ha hb => same_true a b _ _ c d _ _ (tvL_len _ _) (tvL_len _ _) (by omega) hsame x ha hb
    have H7 : Hid (∀ (a b : Option Addr) (c d : Nat) (x : World), SlT x a (tvL s.data.toList A) → SlT x b (tvL (baOf (joinW (A.map fun q : Tk × Nat => q.1))).data.toList r) → Calls Tryz.prog 33 #[.slice a A.length c, .slice b r.length d] x fun e w' => e = .returned (.bool true) ∧ Below x.heap.size x w') :=
      Lib.hid fun a b c d x ha hb => refSame_true a b _ _ c d _ _ (tvL_len _ _) (tvL_len _ _) (by omega) hsame x ha hb
    clear E hL ht hlong hjn hokl hcount hr hrm hsame hzz hrl
    generalize baOf (joinW (A.map fun q : Tk × Nat => q.1)) = tb at *
    go_enter Tryz.func6, Tryz.ntmps6
    go_upto_region 4 with (first
      | (go_at_call 28; (with_reducible refine (H1.out _ HE.out).mono ?_); rintro e y ⟨a, cap, rfl, hf, hb⟩; have K1 := Lib.hid (((KG.refl w).below hb).push' y.heap.size rfl (flC 0 ⟨#[]⟩ 0 0) 45); have F1 := Lib.hid (hf.below (new1 _ (.cells #[.int .i64 0, .string ⟨#[]⟩, .int .i64 0, .int .i64 0] 45))); clear hb hf))
    go_upto_region 5 with (first
      | (go_at_call 29; (with_reducible refine (H2.out _).mono ?_); rintro e y2 ⟨a2, cap2, rfl, hf, hb⟩; have K2 := Lib.hid ((K1.out.below hb).push' y2.heap.size rfl (flC 0 ⟨#[]⟩ 0 0) 45); have F1b := Lib.hid ((F1.out.below hb).below (new1 _ (.cells #[.int .i64 0, .string ⟨#[]⟩, .int .i64 0, .int .i64 0] 45))); have F2 := Lib.hid (hf.below (new1 _ (.cells #[.int .i64 0, .string ⟨#[]⟩, .int .i64 0, .int .i64 0] 45))); clear hb hf))
    clear K1 F1
    go_wp2_with (first
      | (go_at_call 30; (with_reducible refine (H3.out _ _ _ _ _ F1b.out F2.out).mono ?_); rintro e y3 ⟨rfl, hb⟩; have K3 := Lib.hid (K2.out.below hb); have S3 := Lib.hid (F1b.out.below hb); clear hb; obtain ⟨t0, t1, t2, t3, g0, g1, g2, g3, gl⟩ := K3.out.q.1.1.open4; obtain ⟨r0, r1, r2, r3, e0, e1, e2, e3, el⟩ := K3.out.q.2.1.1.open4)
      | (go_at_call 31; (with_reducible refine (H4.out _ _ _ (HE.out.below K3.out.HB) S3.out).mono ?_); rintro e y4 ⟨rfl, hb⟩; have K4 := Lib.hid (K3.out.below hb); have S4 := Lib.hid (S3.out.below hb); clear hb)
      | (go_at_call 28; (with_reducible refine (H5.out _ (HE.out.below K4.out.HB)).mono ?_); rintro e y5 ⟨a5, cap5, rfl, hf, hb⟩; have K5 := Lib.hid ((K4.out.below hb).push' y5.heap.size rfl (flC 0 ⟨#[]⟩ 0 0) 45); have S5 := Lib.hid ((S4.out.below hb).below (new1 _ (.cells #[.int .i64 0, .string ⟨#[]⟩, .int .i64 0, .int .i64 0] 45))); have N5 := Lib.hid (hf.below (new1 _ (.cells #[.int .i64 0, .string ⟨#[]⟩, .int .i64 0, .int .i64 0] 45))); clear hb hf)
      | (go_at_call 32; (with_reducible refine (H6.out _ _ _ _ _ S5.out N5.out).mono ?_); rintro e y6 ⟨rfl, hb⟩; have K6 := Lib.hid (K5.out.below hb); have S6 := Lib.hid (S5.out.below hb); have N6 := Lib.hid (N5.out.below hb); clear hb)
      | (go_at_call 33; (with_reducible refine (H7.out _ _ _ _ _ S6.out N6.out).mono ?_); rintro e y7 ⟨rfl, hb⟩; have K7 := Lib.hid (K6.out.below hb); clear hb)
      | (go_at_call 27; (with_reducible refine (HAw.out _ (HE.out.below K7.out.HB)).mono ?_); rintro e y9 ⟨rfl, hb⟩; have HB := Lib.hid (K7.out.HB.trans (hb.mono K7.out.HB.size)); clear hb))
    go_ret
    exact ⟨rfl, HB.out⟩
theorem lexLex_ (s : ByteArray) (w : World) (E : Env w) : Calls Tryz.prog 6 #[.string s] w fun e w' => e = .returned (.bool true) ∧ Below w.heap.size w w' := by
  by_cases h : (30000 : Int) < s.size
  · exact lexLex_long s w E h
  by_cases h2 : 20000 < s.size
  · exact lexLex_bad s w E (by omega) (.inl h2)
  cases hL : lexS s.data.toList with
  | mk A o =>
    cases o with
    | none => exact lexLex_good s w E (by omega) A hL
    | some q => exact lexLex_bad s w E (by omega) (.inr ⟨A, q, hL⟩)
end Go.Proofs.YtpmppndhfljcpaaGreatDoor
