/-
  The law of likeness: its walk, statement by statement.
-/
import Derived.Test.YtplepijiceanlaaGreatDoorLB
namespace Go.Proofs.YtplepijiceanlaaGreatDoor
open Go.RowKit
set_option maxRecDepth 100000 in
set_option maxHeartbeats 40000000 in
theorem vl9 (w x : World) (s t : ByteArray) (pr : Nat) (u2 u3 u4 u5 u6 u7 u8 u9 u12 u13 u14 u15 u16 u17 u18 u19 u20 u21 u22 u23 u24 u25 u26 u27 u28 u29 u30 u31 u32 u33 u34 u35 u36 u37 u38 u39 u40 u41 u42 u43 u44 u45 u46 u47 u48 u49 u50 u51 u52 u53 u54 u55 u56 u57 u58 u59 u60 u61 u62 u63 u64 u65 u66 u67 u68 u69 u70 u71 u72 u73 u74 u75 u76 u77 u78 u79 u80 u81 u82 u83 u84 u85 u86 u87 u88 u89 u90 u91 u92 u93 u94 u95 u96 : Value) (hA : Awk) (hg : Gl w) (hK : KL w x [(pr, .int .i64 3, .int .i64 1, .string ⟨#[]⟩)]) :
    Code.wp Tryz.prog (tailC 9 (Tryz.f12.body.getD .skip)) (Ends12 w) ⟨List.toArray (.string s :: .string t :: u2 :: u3 :: u4 :: u5 :: u6 :: u7 :: u8 :: u9 :: .pointer (some ⟨pr, 0, none⟩) :: .int .i64 0 :: u12 :: u13 :: u14 :: u15 :: u16 :: u17 :: u18 :: u19 :: u20 :: u21 :: u22 :: u23 :: u24 :: u25 :: u26 :: u27 :: u28 :: u29 :: u30 :: u31 :: u32 :: u33 :: u34 :: u35 :: u36 :: u37 :: u38 :: u39 :: u40 :: u41 :: u42 :: u43 :: u44 :: u45 :: u46 :: u47 :: u48 :: u49 :: u50 :: u51 :: u52 :: u53 :: u54 :: u55 :: u56 :: u57 :: u58 :: u59 :: u60 :: u61 :: u62 :: u63 :: u64 :: u65 :: u66 :: u67 :: u68 :: u69 :: u70 :: u71 :: u72 :: u73 :: u74 :: u75 :: u76 :: u77 :: u78 :: u79 :: u80 :: u81 :: u82 :: u83 :: u84 :: u85 :: u86 :: u87 :: u88 :: u89 :: u90 :: u91 :: u92 :: u93 :: u94 :: u95 :: u96 :: []), []⟩ x := by
  have K := Lib.hid hK
  clear hK
  conv => arg 2; whnf
  have HA := Lib.hid hA
  have HG := Lib.hid hg
  clear hA hg
  obtain ⟨HB, ⟨r0, r1, r2, -, -, -, rl⟩, -⟩ := K.out
  go_wp2_with (first
    | (go_at_call 17; (with_reducible refine (ex_true _).mono ?_); rintro e y ⟨rfl, hy⟩; have K' := Lib.hid (KL.below K.out hy); clear hy K HB r0 r1 r2 rl; have K := K'; clear K')
    | (go_at_call 14; (with_reducible refine (awk_at HA.out _ (Gl.below HG.out K.out.HB)).mono ?_); rintro e y ⟨rfl, hy⟩; have HE := Lib.hid (K.out.HB.trans (hy.mono K.out.HB.size)); clear hy))
  go_ret
  exact ⟨rfl, HE.out⟩
set_option maxRecDepth 100000 in
set_option maxHeartbeats 40000000 in
theorem vl8 (w x : World) (s t : ByteArray) (u2 u3 u4 u5 u6 u7 u8 u9 u10 u11 u12 u13 u14 u15 u16 u17 u18 u19 u20 u21 u22 u23 u24 u25 u26 u27 u28 u29 u30 u31 u32 u33 u34 u35 u36 u37 u38 u39 u40 u41 u42 u43 u44 u45 u46 u47 u48 u49 u50 u51 u52 u53 u54 u55 u56 u57 u58 u59 u60 u61 u62 u63 u64 u65 u66 u67 u68 u69 u70 u71 u72 u73 u74 u75 u76 u77 u78 u79 u80 u81 u82 u83 u84 u85 u86 u87 u88 u89 u90 u91 u92 u93 u94 u95 u96 : Value) (hA : Awk) (hg : Gl w) (ht : okText (s ++ t) = true) (hn : ∀ c ∈ s.data.toList, c ≠ 37) (h2 : s.size + 1 ≤ 200) (hz : s.size + t.size ≤ 1000) (hK : KL w x []) :
    Code.wp Tryz.prog (tailC 8 (Tryz.f12.body.getD .skip)) (Ends12 w) ⟨List.toArray (.string s :: .string t :: u2 :: u3 :: u4 :: u5 :: u6 :: u7 :: u8 :: u9 :: u10 :: u11 :: u12 :: u13 :: u14 :: u15 :: u16 :: u17 :: u18 :: u19 :: u20 :: u21 :: u22 :: u23 :: u24 :: u25 :: u26 :: u27 :: u28 :: u29 :: u30 :: u31 :: u32 :: u33 :: u34 :: u35 :: u36 :: u37 :: u38 :: u39 :: u40 :: u41 :: u42 :: u43 :: u44 :: u45 :: u46 :: u47 :: u48 :: u49 :: u50 :: u51 :: u52 :: u53 :: u54 :: u55 :: u56 :: u57 :: u58 :: u59 :: u60 :: u61 :: u62 :: u63 :: u64 :: u65 :: u66 :: u67 :: u68 :: u69 :: u70 :: u71 :: u72 :: u73 :: u74 :: u75 :: u76 :: u77 :: u78 :: u79 :: u80 :: u81 :: u82 :: u83 :: u84 :: u85 :: u86 :: u87 :: u88 :: u89 :: u90 :: u91 :: u92 :: u93 :: u94 :: u95 :: u96 :: []), []⟩ x := by
  have K := Lib.hid hK
  clear hK
  conv => arg 2; whnf
  refine wp_seq_k (fun Kont hKont => ?_)
  have HK := Lib.hid hKont
  clear hKont
  have HA := Lib.hid hA
  have HG := Lib.hid hg
  clear hA hg
  have hL := Lib.hid (like_yes (s ++ t) (s ++ sPct) ht (okText_more s (okText_app s t ht).1 h2) (by rw [data_append, data_append]; exact lk_pre _ _ hn))
  clear ht hn
  go_wp2_with (first
    | (go_at_call 54; (with_reducible refine (ref_string _ _).mono ?_); rintro e y ⟨rfl, hy⟩; have K' := Lib.hid (KL.below K.out hy); clear hy K; have K := K'; clear K')
    | (go_at_call 27; (with_reducible refine (hL.out _).mono ?_); rintro e y ⟨rfl, hy⟩; have K' := Lib.hid (KL.push (KL.below K.out hy) (.int .i64 3) (.int .i64 1) (.string ⟨#[]⟩) 27); clear hy K; have K := K'; clear K'; obtain ⟨HB, ⟨r0, r1, r2, -, -, -, rl⟩, -⟩ := K.out))
  clear HB r0 r1 r2 rl
  exact HK.out _ _ (vl9 _ _ _ _ _ _ _ _ _ _ _ _ _ _ _ _ _ _ _ _ _ _ _ _ _ _ _ _ _ _ _ _ _ _ _ _ _ _ _ _ _ _ _ _ _ _ _ _ _ _ _ _ _ _ _ _ _ _ _ _ _ _ _ _ _ _ _ _ _ _ _ _ _ _ _ _ _ _ _ _ _ _ _ _ _ _ _ _ _ _ _ _ _ _ _ _ _ _ HA.out HG.out K.out)
set_option maxRecDepth 100000 in
set_option maxHeartbeats 40000000 in
theorem vl7 (w x : World) (s t : ByteArray) (u2 u3 u4 u5 u6 u7 u8 u9 u10 u11 u12 u13 u14 u15 u16 u17 u18 u19 u20 u21 u22 u23 u24 u25 u26 u27 u28 u29 u30 u31 u32 u33 u34 u35 u36 u37 u38 u39 u40 u41 u42 u43 u44 u45 u46 u47 u48 u49 u50 u51 u52 u53 u54 u55 u56 u57 u58 u59 u60 u61 u62 u63 u64 u65 u66 u67 u68 u69 u70 u71 u72 u73 u74 u75 u76 u77 u78 u79 u80 u81 u82 u83 u84 u85 u86 u87 u88 u89 u90 u91 u92 u93 u94 u95 u96 : Value) (hA : Awk) (hg : Gl w) (zs : s.size ≤ maxLen) (zt : t.size ≤ maxLen) (hz : s.size + t.size ≤ 1000) (ht : okText (s ++ t) = true) (hn : ∀ c ∈ s.data.toList, c ≠ 37) (hK : KL w x []) :
    Code.wp Tryz.prog (tailC 7 (Tryz.f12.body.getD .skip)) (Ends12 w) ⟨List.toArray (.string s :: .string t :: u2 :: u3 :: u4 :: u5 :: u6 :: u7 :: u8 :: u9 :: u10 :: u11 :: u12 :: u13 :: u14 :: u15 :: u16 :: u17 :: u18 :: u19 :: u20 :: u21 :: u22 :: u23 :: u24 :: u25 :: u26 :: u27 :: u28 :: u29 :: u30 :: u31 :: u32 :: u33 :: u34 :: u35 :: u36 :: u37 :: u38 :: u39 :: u40 :: u41 :: u42 :: u43 :: u44 :: u45 :: u46 :: u47 :: u48 :: u49 :: u50 :: u51 :: u52 :: u53 :: u54 :: u55 :: u56 :: u57 :: u58 :: u59 :: u60 :: u61 :: u62 :: u63 :: u64 :: u65 :: u66 :: u67 :: u68 :: u69 :: u70 :: u71 :: u72 :: u73 :: u74 :: u75 :: u76 :: u77 :: u78 :: u79 :: u80 :: u81 :: u82 :: u83 :: u84 :: u85 :: u86 :: u87 :: u88 :: u89 :: u90 :: u91 :: u92 :: u93 :: u94 :: u95 :: u96 :: []), []⟩ x := by
  have K := Lib.hid hK
  clear hK
  conv => arg 2; whnf
  refine wp_seq_k (fun Kont hKont => ?_)
  have HK := Lib.hid hKont
  clear hKont
  have HA := Lib.hid hA
  have HG := Lib.hid hg
  clear hA hg
  have ZS := Lib.hid zs
  have ZT := Lib.hid zt
  have HZ := Lib.hid hz
  clear zs zt
  have HT := Lib.hid ht
  have HN := Lib.hid hn
  clear ht hn
  by_cases h2 : s.size + 1 ≤ 200
  · go_wp2_with fail
    exact HK.out _ _ (vl8 _ _ _ _ _ _ _ _ _ _ _ _ _ _ _ _ _ _ _ _ _ _ _ _ _ _ _ _ _ _ _ _ _ _ _ _ _ _ _ _ _ _ _ _ _ _ _ _ _ _ _ _ _ _ _ _ _ _ _ _ _ _ _ _ _ _ _ _ _ _ _ _ _ _ _ _ _ _ _ _ _ _ _ _ _ _ _ _ _ _ _ _ _ _ _ _ _ _ _ HA.out HG.out HT.out HN.out h2 HZ.out K.out)
  · go_wp2_with (first
      | (go_at_call 14; (with_reducible refine (awk_at HA.out _ (Gl.below HG.out K.out.HB)).mono ?_); rintro e y ⟨rfl, hy⟩; have HE := Lib.hid (K.out.HB.trans (hy.mono K.out.HB.size)); clear hy))
    go_ret
    exact ⟨rfl, HE.out⟩
set_option maxRecDepth 100000 in
set_option maxHeartbeats 40000000 in
theorem vl6 (w x : World) (s t : ByteArray) (pr : Nat) (u2 u3 u4 u5 u6 u7 u10 u11 u12 u13 u14 u15 u16 u17 u18 u19 u20 u21 u22 u23 u24 u25 u26 u27 u28 u29 u30 u31 u32 u33 u34 u35 u36 u37 u38 u39 u40 u41 u42 u43 u44 u45 u46 u47 u48 u49 u50 u51 u52 u53 u54 u55 u56 u57 u58 u59 u60 u61 u62 u63 u64 u65 u66 u67 u68 u69 u70 u71 u72 u73 u74 u75 u76 u77 u78 u79 u80 u81 u82 u83 u84 u85 u86 u87 u88 u89 u90 u91 u92 u93 u94 u95 u96 : Value) (hA : Awk) (hg : Gl w) (zs : s.size ≤ maxLen) (zt : t.size ≤ maxLen) (hz : s.size + t.size ≤ 1000) (ht : okText (s ++ t) = true) (hn : ∀ c ∈ s.data.toList, c ≠ 37) (hK : KL w x [(pr, .int .i64 3, .int .i64 1, .string ⟨#[]⟩)]) :
    Code.wp Tryz.prog (tailC 6 (Tryz.f12.body.getD .skip)) (Ends12 w) ⟨List.toArray (.string s :: .string t :: u2 :: u3 :: u4 :: u5 :: u6 :: u7 :: .pointer (some ⟨pr, 0, none⟩) :: .int .i64 0 :: u10 :: u11 :: u12 :: u13 :: u14 :: u15 :: u16 :: u17 :: u18 :: u19 :: u20 :: u21 :: u22 :: u23 :: u24 :: u25 :: u26 :: u27 :: u28 :: u29 :: u30 :: u31 :: u32 :: u33 :: u34 :: u35 :: u36 :: u37 :: u38 :: u39 :: u40 :: u41 :: u42 :: u43 :: u44 :: u45 :: u46 :: u47 :: u48 :: u49 :: u50 :: u51 :: u52 :: u53 :: u54 :: u55 :: u56 :: u57 :: u58 :: u59 :: u60 :: u61 :: u62 :: u63 :: u64 :: u65 :: u66 :: u67 :: u68 :: u69 :: u70 :: u71 :: u72 :: u73 :: u74 :: u75 :: u76 :: u77 :: u78 :: u79 :: u80 :: u81 :: u82 :: u83 :: u84 :: u85 :: u86 :: u87 :: u88 :: u89 :: u90 :: u91 :: u92 :: u93 :: u94 :: u95 :: u96 :: []), []⟩ x := by
  have K := Lib.hid hK
  clear hK
  conv => arg 2; whnf
  refine wp_seq_k (fun Kont hKont => ?_)
  have HK := Lib.hid hKont
  clear hKont
  have HA := Lib.hid hA
  have HG := Lib.hid hg
  clear hA hg
  have ZS := Lib.hid zs
  have ZT := Lib.hid zt
  have HZ := Lib.hid hz
  clear zs zt
  have HT := Lib.hid ht
  have HN := Lib.hid hn
  clear ht hn
  obtain ⟨HB, ⟨r0, r1, r2, -, -, -, rl⟩, -⟩ := K.out
  go_wp2_with (first
    | (go_at_call 17; (with_reducible refine (ex_true _).mono ?_); rintro e y ⟨rfl, hy⟩; have K' := Lib.hid (KL.below K.out hy); clear hy K HB r0 r1 r2 rl; have K := K'; clear K'))
  exact HK.out _ _ (vl7 _ _ _ _ _ _ _ _ _ _ _ _ _ _ _ _ _ _ _ _ _ _ _ _ _ _ _ _ _ _ _ _ _ _ _ _ _ _ _ _ _ _ _ _ _ _ _ _ _ _ _ _ _ _ _ _ _ _ _ _ _ _ _ _ _ _ _ _ _ _ _ _ _ _ _ _ _ _ _ _ _ _ _ _ _ _ _ _ _ _ _ _ _ _ _ _ _ _ _ HA.out HG.out ZS.out ZT.out HZ.out HT.out HN.out (KL.tl K.out))
set_option maxRecDepth 100000 in
set_option maxHeartbeats 40000000 in
theorem vl5 (w x : World) (s t : ByteArray) (u2 u3 u4 u5 u6 u7 u8 u9 u10 u11 u12 u13 u14 u15 u16 u17 u18 u19 u20 u21 u22 u23 u24 u25 u26 u27 u28 u29 u30 u31 u32 u33 u34 u35 u36 u37 u38 u39 u40 u41 u42 u43 u44 u45 u46 u47 u48 u49 u50 u51 u52 u53 u54 u55 u56 u57 u58 u59 u60 u61 u62 u63 u64 u65 u66 u67 u68 u69 u70 u71 u72 u73 u74 u75 u76 u77 u78 u79 u80 u81 u82 u83 u84 u85 u86 u87 u88 u89 u90 u91 u92 u93 u94 u95 u96 : Value) (hA : Awk) (hg : Gl w) (zs : s.size ≤ maxLen) (zt : t.size ≤ maxLen) (hz : s.size + t.size ≤ 1000) (ht : okText (s ++ t) = true) (hn : ∀ c ∈ s.data.toList, c ≠ 37) (hK : KL w x []) :
    Code.wp Tryz.prog (tailC 5 (Tryz.f12.body.getD .skip)) (Ends12 w) ⟨List.toArray (.string s :: .string t :: u2 :: u3 :: u4 :: u5 :: u6 :: u7 :: u8 :: u9 :: u10 :: u11 :: u12 :: u13 :: u14 :: u15 :: u16 :: u17 :: u18 :: u19 :: u20 :: u21 :: u22 :: u23 :: u24 :: u25 :: u26 :: u27 :: u28 :: u29 :: u30 :: u31 :: u32 :: u33 :: u34 :: u35 :: u36 :: u37 :: u38 :: u39 :: u40 :: u41 :: u42 :: u43 :: u44 :: u45 :: u46 :: u47 :: u48 :: u49 :: u50 :: u51 :: u52 :: u53 :: u54 :: u55 :: u56 :: u57 :: u58 :: u59 :: u60 :: u61 :: u62 :: u63 :: u64 :: u65 :: u66 :: u67 :: u68 :: u69 :: u70 :: u71 :: u72 :: u73 :: u74 :: u75 :: u76 :: u77 :: u78 :: u79 :: u80 :: u81 :: u82 :: u83 :: u84 :: u85 :: u86 :: u87 :: u88 :: u89 :: u90 :: u91 :: u92 :: u93 :: u94 :: u95 :: u96 :: []), []⟩ x := by
  have K := Lib.hid hK
  clear hK
  conv => arg 2; whnf
  refine wp_seq_k (fun Kont hKont => ?_)
  have HK := Lib.hid hKont
  clear hKont
  have HA := Lib.hid hA
  have HG := Lib.hid hg
  clear hA hg
  have ZS := Lib.hid zs
  have ZT := Lib.hid zt
  have HZ := Lib.hid hz
  clear zs zt
  have HT := Lib.hid ht
  have HN := Lib.hid hn
  have hL := Lib.hid (like_yes s s (okText_app s t ht).1 (okText_app s t ht).1 (lk_self _ hn))
  clear ht hn
  go_wp2_with (first
    | (go_at_call 54; (with_reducible refine (ref_string _ _).mono ?_); rintro e y ⟨rfl, hy⟩; have K' := Lib.hid (KL.below K.out hy); clear hy K; have K := K'; clear K')
    | (go_at_call 27; (with_reducible refine (hL.out _).mono ?_); rintro e y ⟨rfl, hy⟩; have K' := Lib.hid (KL.push (KL.below K.out hy) (.int .i64 3) (.int .i64 1) (.string ⟨#[]⟩) 27); clear hy K; have K := K'; clear K'; obtain ⟨HB, ⟨r0, r1, r2, -, -, -, rl⟩, -⟩ := K.out))
  clear HB r0 r1 r2 rl
  exact HK.out _ _ (vl6 _ _ _ _ _ _ _ _ _ _ _ _ _ _ _ _ _ _ _ _ _ _ _ _ _ _ _ _ _ _ _ _ _ _ _ _ _ _ _ _ _ _ _ _ _ _ _ _ _ _ _ _ _ _ _ _ _ _ _ _ _ _ _ _ _ _ _ _ _ _ _ _ _ _ _ _ _ _ _ _ _ _ _ _ _ _ _ _ _ _ _ _ _ _ _ _ _ _ HA.out HG.out ZS.out ZT.out HZ.out HT.out HN.out K.out)
end Go.Proofs.YtplepijiceanlaaGreatDoor
