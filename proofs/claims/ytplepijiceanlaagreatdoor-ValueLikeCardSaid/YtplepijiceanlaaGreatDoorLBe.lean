/-
  The law of likeness: its walk, statement by statement.
-/
import Derived.Test.YtplepijiceanlaaGreatDoorLBf
namespace Go.Proofs.YtplepijiceanlaaGreatDoor
open Go.RowKit
set_option maxRecDepth 100000 in
set_option maxHeartbeats 40000000 in
theorem vl4 (w x : World) (s t : ByteArray) (u2 u3 u4 u5 u6 u7 u8 u9 u10 u11 u12 u13 u14 u15 u16 u17 u18 u19 u20 u21 u22 u23 u24 u25 u26 u27 u28 u29 u30 u31 u32 u33 u34 u35 u36 u37 u38 u39 u40 u41 u42 u43 u44 u45 u46 u47 u48 u49 u50 u51 u52 u53 u54 u55 u56 u57 u58 u59 u60 u61 u62 u63 u64 u65 u66 u67 u68 u69 u70 u71 u72 u73 u74 u75 u76 u77 u78 u79 u80 u81 u82 u83 u84 u85 u86 u87 u88 u89 u90 u91 u92 u93 u94 u95 u96 : Value) (hA : Awk) (hg : Gl w) (zs : s.size ≤ maxLen) (zt : t.size ≤ maxLen) (hz : s.size + t.size ≤ 1000) (ht : okText (s ++ t) = true) (hK : KL w x []) :
    Code.wp Tryz.prog (tailC 4 (Tryz.f12.body.getD .skip)) (Ends12 w) ⟨List.toArray (.string s :: .string t :: u2 :: u3 :: u4 :: u5 :: u6 :: u7 :: u8 :: u9 :: u10 :: u11 :: u12 :: u13 :: u14 :: u15 :: u16 :: u17 :: u18 :: u19 :: u20 :: u21 :: u22 :: u23 :: u24 :: u25 :: u26 :: u27 :: u28 :: u29 :: u30 :: u31 :: u32 :: u33 :: u34 :: u35 :: u36 :: u37 :: u38 :: u39 :: u40 :: u41 :: u42 :: u43 :: u44 :: u45 :: u46 :: u47 :: u48 :: u49 :: u50 :: u51 :: u52 :: u53 :: u54 :: u55 :: u56 :: u57 :: u58 :: u59 :: u60 :: u61 :: u62 :: u63 :: u64 :: u65 :: u66 :: u67 :: u68 :: u69 :: u70 :: u71 :: u72 :: u73 :: u74 :: u75 :: u76 :: u77 :: u78 :: u79 :: u80 :: u81 :: u82 :: u83 :: u84 :: u85 :: u86 :: u87 :: u88 :: u89 :: u90 :: u91 :: u92 :: u93 :: u94 :: u95 :: u96 :: []), []⟩ x := by
  have K := Lib.hid hK
  clear hK
  conv => arg 2; whnf
  refine wp_seq_k (fun Kont hKont => ?_)
  have HK := Lib.hid hKont
  clear hKont
  have HA := Lib.hid hA
  have HG := Lib.hid hg
  clear hA hg
  have ZS := Lib.hid zs
  have ZT := Lib.hid zt
  have HZ := Lib.hid hz
  clear zs zt
  have HT := Lib.hid ht
  clear ht
  have hm := ZS.out
  unfold maxLen at hm
  go_wp2_with fail
  go_loopw [7] (fun i z => ∃ k : Nat, k ≤ s.size ∧ i = .int .i64 k ∧ (∀ c ∈ s.data.toList.take k, c ≠ 37) ∧ KL w z []) (fun i z => s.size - (intOf i).toNat)
  case atStart => exact ⟨0, by omega, rfl, by simp, K.out⟩
  case round =>
    obtain ⟨k, hk, rfl, hn, hK⟩ := hrel
    clear K
    have K := Lib.hid hK
    have HN := Lib.hid hn
    clear hK hn
    by_cases hlt : k < s.size
    · cases h37 : ((s[k].toNat : Int) == 37)
      · cases h95 : ((s[k].toNat : Int) == 95)
        · go_wp2_with fail
          go_roundw
          case rel => exact ⟨k + 1, by omega, by go_num, no_next s k hlt HN.out (by intro q; rw [q] at h37; exact absurd h37 (by decide)), K.out⟩
          case measure => simp [intOf]; omega
        · go_wp2_with (first
            | (go_at_call 14; (with_reducible refine (awk_at HA.out _ (Gl.below HG.out K.out.HB)).mono ?_); rintro e y ⟨rfl, hy⟩; have HE := Lib.hid (K.out.HB.trans (hy.mono K.out.HB.size)); clear hy))
          go_ret
          exact ⟨rfl, HE.out⟩
      · go_wp2_with (first
          | (go_at_call 14; (with_reducible refine (awk_at HA.out _ (Gl.below HG.out K.out.HB)).mono ?_); rintro e y ⟨rfl, hy⟩; have HE := Lib.hid (K.out.HB.trans (hy.mono K.out.HB.size)); clear hy))
        go_ret
        exact ⟨rfl, HE.out⟩
    · have HN2 : Hid (∀ c ∈ s.data.toList, c ≠ 37) := Lib.hid (by
        have h := HN.out
        rw [List.take_of_length_le (by have e : s.data.toList.length = s.size := by simp
                                       omega)] at h
        exact h)
      go_wp2_with fail
      exact HK.out _ _ (vl5 _ _ _ _ _ _ _ _ _ _ _ _ _ _ _ _ _ _ _ _ _ _ _ _ _ _ _ _ _ _ _ _ _ _ _ _ _ _ _ _ _ _ _ _ _ _ _ _ _ _ _ _ _ _ _ _ _ _ _ _ _ _ _ _ _ _ _ _ _ _ _ _ _ _ _ _ _ _ _ _ _ _ _ _ _ _ _ _ _ _ _ _ _ _ _ _ _ _ _ HA.out HG.out ZS.out ZT.out HZ.out HT.out HN2.out K.out)
set_option maxRecDepth 100000 in
set_option maxHeartbeats 40000000 in
theorem vl3 (w x : World) (s t : ByteArray) (pr : Nat) (u2 u3 u4 u7 u8 u9 u10 u11 u12 u13 u14 u15 u16 u17 u18 u19 u20 u21 u22 u23 u24 u25 u26 u27 u28 u29 u30 u31 u32 u33 u34 u35 u36 u37 u38 u39 u40 u41 u42 u43 u44 u45 u46 u47 u48 u49 u50 u51 u52 u53 u54 u55 u56 u57 u58 u59 u60 u61 u62 u63 u64 u65 u66 u67 u68 u69 u70 u71 u72 u73 u74 u75 u76 u77 u78 u79 u80 u81 u82 u83 u84 u85 u86 u87 u88 u89 u90 u91 u92 u93 u94 u95 u96 : Value) (hA : Awk) (hg : Gl w) (zs : s.size ≤ maxLen) (zt : t.size ≤ maxLen) (hz : s.size + t.size ≤ 1000) (ht : okText (s ++ t) = true) (hK : KL w x [(pr, .int .i64 3, .int .i64 1, .string ⟨#[]⟩)]) :
    Code.wp Tryz.prog (tailC 3 (Tryz.f12.body.getD .skip)) (Ends12 w) ⟨List.toArray (.string s :: .string t :: u2 :: u3 :: u4 :: .pointer (some ⟨pr, 0, none⟩) :: .int .i64 0 :: u7 :: u8 :: u9 :: u10 :: u11 :: u12 :: u13 :: u14 :: u15 :: u16 :: u17 :: u18 :: u19 :: u20 :: u21 :: u22 :: u23 :: u24 :: u25 :: u26 :: u27 :: u28 :: u29 :: u30 :: u31 :: u32 :: u33 :: u34 :: u35 :: u36 :: u37 :: u38 :: u39 :: u40 :: u41 :: u42 :: u43 :: u44 :: u45 :: u46 :: u47 :: u48 :: u49 :: u50 :: u51 :: u52 :: u53 :: u54 :: u55 :: u56 :: u57 :: u58 :: u59 :: u60 :: u61 :: u62 :: u63 :: u64 :: u65 :: u66 :: u67 :: u68 :: u69 :: u70 :: u71 :: u72 :: u73 :: u74 :: u75 :: u76 :: u77 :: u78 :: u79 :: u80 :: u81 :: u82 :: u83 :: u84 :: u85 :: u86 :: u87 :: u88 :: u89 :: u90 :: u91 :: u92 :: u93 :: u94 :: u95 :: u96 :: []), []⟩ x := by
  have K := Lib.hid hK
  clear hK
  conv => arg 2; whnf
  refine wp_seq_k (fun Kont hKont => ?_)
  have HK := Lib.hid hKont
  clear hKont
  have HA := Lib.hid hA
  have HG := Lib.hid hg
  clear hA hg
  have ZS := Lib.hid zs
  have ZT := Lib.hid zt
  have HZ := Lib.hid hz
  clear zs zt
  have HT := Lib.hid ht
  clear ht
  obtain ⟨HB, ⟨r0, r1, r2, -, -, -, rl⟩, -⟩ := K.out
  go_wp2_with (first
    | (go_at_call 17; (with_reducible refine (ex_true _).mono ?_); rintro e y ⟨rfl, hy⟩; have K' := Lib.hid (KL.below K.out hy); clear hy K HB r0 r1 r2 rl; have K := K'; clear K'))
  exact HK.out _ _ (vl4 _ _ _ _ _ _ _ _ _ _ _ _ _ _ _ _ _ _ _ _ _ _ _ _ _ _ _ _ _ _ _ _ _ _ _ _ _ _ _ _ _ _ _ _ _ _ _ _ _ _ _ _ _ _ _ _ _ _ _ _ _ _ _ _ _ _ _ _ _ _ _ _ _ _ _ _ _ _ _ _ _ _ _ _ _ _ _ _ _ _ _ _ _ _ _ _ _ _ _ HA.out HG.out ZS.out ZT.out HZ.out HT.out (KL.tl K.out))
set_option maxRecDepth 100000 in
set_option maxHeartbeats 40000000 in
theorem vl2 (w x : World) (s t : ByteArray) (u2 u3 u4 u5 u6 u7 u8 u9 u10 u11 u12 u13 u14 u15 u16 u17 u18 u19 u20 u21 u22 u23 u24 u25 u26 u27 u28 u29 u30 u31 u32 u33 u34 u35 u36 u37 u38 u39 u40 u41 u42 u43 u44 u45 u46 u47 u48 u49 u50 u51 u52 u53 u54 u55 u56 u57 u58 u59 u60 u61 u62 u63 u64 u65 u66 u67 u68 u69 u70 u71 u72 u73 u74 u75 u76 u77 u78 u79 u80 u81 u82 u83 u84 u85 u86 u87 u88 u89 u90 u91 u92 u93 u94 u95 u96 : Value) (hA : Awk) (hg : Gl w) (zs : s.size ≤ maxLen) (zt : t.size ≤ maxLen) (hz : s.size + t.size ≤ 1000) (ht : okText (s ++ t) = true) (hK : KL w x []) :
    Code.wp Tryz.prog (tailC 2 (Tryz.f12.body.getD .skip)) (Ends12 w) ⟨List.toArray (.string s :: .string t :: u2 :: u3 :: u4 :: u5 :: u6 :: u7 :: u8 :: u9 :: u10 :: u11 :: u12 :: u13 :: u14 :: u15 :: u16 :: u17 :: u18 :: u19 :: u20 :: u21 :: u22 :: u23 :: u24 :: u25 :: u26 :: u27 :: u28 :: u29 :: u30 :: u31 :: u32 :: u33 :: u34 :: u35 :: u36 :: u37 :: u38 :: u39 :: u40 :: u41 :: u42 :: u43 :: u44 :: u45 :: u46 :: u47 :: u48 :: u49 :: u50 :: u51 :: u52 :: u53 :: u54 :: u55 :: u56 :: u57 :: u58 :: u59 :: u60 :: u61 :: u62 :: u63 :: u64 :: u65 :: u66 :: u67 :: u68 :: u69 :: u70 :: u71 :: u72 :: u73 :: u74 :: u75 :: u76 :: u77 :: u78 :: u79 :: u80 :: u81 :: u82 :: u83 :: u84 :: u85 :: u86 :: u87 :: u88 :: u89 :: u90 :: u91 :: u92 :: u93 :: u94 :: u95 :: u96 :: []), []⟩ x := by
  have K := Lib.hid hK
  clear hK
  conv => arg 2; whnf
  refine wp_seq_k (fun Kont hKont => ?_)
  have HK := Lib.hid hKont
  clear hKont
  have HA := Lib.hid hA
  have HG := Lib.hid hg
  clear hA hg
  have ZS := Lib.hid zs
  have ZT := Lib.hid zt
  have HZ := Lib.hid hz
  clear zs zt
  have HT := Lib.hid ht
  have hL := Lib.hid (like_yes s sPct (okText_app s t ht).1 okText_pct (lk_pct _))
  clear ht
  go_wp2_with (first
    | (go_at_call 54; (with_reducible refine (ref_string _ _).mono ?_); rintro e y ⟨rfl, hy⟩; have K' := Lib.hid (KL.below K.out hy); clear hy K; have K := K'; clear K')
    | (go_at_call 27; (with_reducible refine (hL.out _).mono ?_); rintro e y ⟨rfl, hy⟩; have K' := Lib.hid (KL.push (KL.below K.out hy) (.int .i64 3) (.int .i64 1) (.string ⟨#[]⟩) 27); clear hy K; have K := K'; clear K'; obtain ⟨HB, ⟨r0, r1, r2, -, -, -, rl⟩, -⟩ := K.out))
  clear HB r0 r1 r2 rl
  exact HK.out _ _ (vl3 _ _ _ _ _ _ _ _ _ _ _ _ _ _ _ _ _ _ _ _ _ _ _ _ _ _ _ _ _ _ _ _ _ _ _ _ _ _ _ _ _ _ _ _ _ _ _ _ _ _ _ _ _ _ _ _ _ _ _ _ _ _ _ _ _ _ _ _ _ _ _ _ _ _ _ _ _ _ _ _ _ _ _ _ _ _ _ _ _ _ _ _ _ _ _ _ _ _ HA.out HG.out ZS.out ZT.out HZ.out HT.out K.out)
set_option maxRecDepth 100000 in
set_option maxHeartbeats 40000000 in
theorem vl1 (w x : World) (s t : ByteArray) (u2 u3 u4 u5 u6 u7 u8 u9 u10 u11 u12 u13 u14 u15 u16 u17 u18 u19 u20 u21 u22 u23 u24 u25 u26 u27 u28 u29 u30 u31 u32 u33 u34 u35 u36 u37 u38 u39 u40 u41 u42 u43 u44 u45 u46 u47 u48 u49 u50 u51 u52 u53 u54 u55 u56 u57 u58 u59 u60 u61 u62 u63 u64 u65 u66 u67 u68 u69 u70 u71 u72 u73 u74 u75 u76 u77 u78 u79 u80 u81 u82 u83 u84 u85 u86 u87 u88 u89 u90 u91 u92 u93 u94 u95 u96 : Value) (hA : Awk) (hg : Gl w) (zs : s.size ≤ 140737488351232) (zt : t.size ≤ 140737488351232) (hK : KL w x []) :
    Code.wp Tryz.prog (tailC 1 (Tryz.f12.body.getD .skip)) (Ends12 w) ⟨List.toArray (.string s :: .string t :: u2 :: u3 :: u4 :: u5 :: u6 :: u7 :: u8 :: u9 :: u10 :: u11 :: u12 :: u13 :: u14 :: u15 :: u16 :: u17 :: u18 :: u19 :: u20 :: u21 :: u22 :: u23 :: u24 :: u25 :: u26 :: u27 :: u28 :: u29 :: u30 :: u31 :: u32 :: u33 :: u34 :: u35 :: u36 :: u37 :: u38 :: u39 :: u40 :: u41 :: u42 :: u43 :: u44 :: u45 :: u46 :: u47 :: u48 :: u49 :: u50 :: u51 :: u52 :: u53 :: u54 :: u55 :: u56 :: u57 :: u58 :: u59 :: u60 :: u61 :: u62 :: u63 :: u64 :: u65 :: u66 :: u67 :: u68 :: u69 :: u70 :: u71 :: u72 :: u73 :: u74 :: u75 :: u76 :: u77 :: u78 :: u79 :: u80 :: u81 :: u82 :: u83 :: u84 :: u85 :: u86 :: u87 :: u88 :: u89 :: u90 :: u91 :: u92 :: u93 :: u94 :: u95 :: u96 :: []), []⟩ x := by
  have K := Lib.hid hK
  clear hK
  conv => arg 2; whnf
  refine wp_seq_k (fun Kont hKont => ?_)
  have HK := Lib.hid hKont
  clear hKont
  have HA := Lib.hid hA
  have HG := Lib.hid hg
  clear hA hg
  have ZS : Hid (s.size ≤ maxLen) := Lib.hid (by unfold maxLen; omega)
  have ZT : Hid (t.size ≤ maxLen) := Lib.hid (by unfold maxLen; omega)
  by_cases hz : s.size + t.size ≤ 1000
  · cases ht : okText (s ++ t)
    · have HT := Lib.hid ht
      clear ht
      have HC := Lib.hid (fun v => isString_ (s ++ t) v (by rw [ByteArray.size_append]; unfold maxLen; omega))
      go_wp2_with (first
        | (go_at_call 53; (with_reducible refine (HC.out _).mono ?_); rintro e y ⟨rfl, rfl⟩; rw [HT.out])
        | (go_at_call 14; (with_reducible refine (awk_at HA.out _ (Gl.below HG.out K.out.HB)).mono ?_); rintro e y ⟨rfl, hy⟩; have HE := Lib.hid (K.out.HB.trans (hy.mono K.out.HB.size)); clear hy))
      go_ret
      exact ⟨rfl, HE.out⟩
    · have HT := Lib.hid ht
      clear ht
      have HC := Lib.hid (fun v => isString_ (s ++ t) v (by rw [ByteArray.size_append]; unfold maxLen; omega))
      go_wp2_with (first
        | (go_at_call 53; (with_reducible refine (HC.out _).mono ?_); rintro e y ⟨rfl, rfl⟩; rw [HT.out]))
      exact HK.out _ _ (vl2 _ _ _ _ _ _ _ _ _ _ _ _ _ _ _ _ _ _ _ _ _ _ _ _ _ _ _ _ _ _ _ _ _ _ _ _ _ _ _ _ _ _ _ _ _ _ _ _ _ _ _ _ _ _ _ _ _ _ _ _ _ _ _ _ _ _ _ _ _ _ _ _ _ _ _ _ _ _ _ _ _ _ _ _ _ _ _ _ _ _ _ _ _ _ _ _ _ _ _ HA.out HG.out ZS.out ZT.out hz HT.out K.out)
  · go_wp2_with (first
      | (go_at_call 14; (with_reducible refine (awk_at HA.out _ (Gl.below HG.out K.out.HB)).mono ?_); rintro e y ⟨rfl, hy⟩; have HE := Lib.hid (K.out.HB.trans (hy.mono K.out.HB.size)); clear hy))
    go_ret
    exact ⟨rfl, HE.out⟩
set_option maxRecDepth 100000 in
set_option maxHeartbeats 40000000 in
/-- The law of likeness. -/
theorem valueLike_ (hA : Awk) (s t : ByteArray) (zs : s.size ≤ 140737488351232) (zt : t.size ≤ 140737488351232) (w : World) (hg : Gl w) : Calls Tryz.prog 12 #[.string s, .string t] w fun e w' => e = .returned (.bool true) ∧ Below w.heap.size w w' := by
  have HA := Lib.hid hA
  have HG := Lib.hid hg
  have ZS := Lib.hid zs
  have ZT := Lib.hid zt
  clear hA hg zs zt
  go_enter Tryz.func12, Tryz.ntmps12
  refine wp_seq_k (fun Kont hKont => ?_)
  have HK := Lib.hid hKont
  clear hKont
  go_wp2_with fail
  exact HK.out _ _ (vl1 _ _ _ _ _ _ _ _ _ _ _ _ _ _ _ _ _ _ _ _ _ _ _ _ _ _ _ _ _ _ _ _ _ _ _ _ _ _ _ _ _ _ _ _ _ _ _ _ _ _ _ _ _ _ _ _ _ _ _ _ _ _ _ _ _ _ _ _ _ _ _ _ _ _ _ _ _ _ _ _ _ _ _ _ _ _ _ _ _ _ _ _ _ _ _ _ _ _ _ HA.out HG.out ZS.out ZT.out (KL.refl w))
end Go.Proofs.YtplepijiceanlaaGreatDoor
