/-
  The law of numbers: its walk, statement by statement.
-/
import Derived.Test.YtplepijiceanlaaGreatDoorNB
namespace Go.Proofs.YtplepijiceanlaaGreatDoor
open Go.RowKit
set_option maxRecDepth 100000 in
set_option maxHeartbeats 40000000 in
theorem nb11 (w x : World) (pa pb pc : Nat) (a b c : Va) (x1 x2 x3 x4 e1 e2 e3 e4 : Int) (u0 u1 u2 u7 u8 u9 u10 u11 u12 u13 u14 u15 u16 u17 u18 u19 u20 u29 u30 u31 u32 u33 u34 u35 u36 u37 u38 u39 u40 u41 u42 u43 u44 u45 u46 u47 u48 u49 u50 u51 u52 u53 u54 u55 u56 u57 u58 u59 u60 u61 u62 u63 u64 u65 u66 u67 u68 u69 u70 u71 u72 u73 u74 u75 u76 u77 u78 u79 u80 u81 u82 u83 u84 u85 u86 u87 u88 u89 u90 u91 u92 u93 u94 u95 u96 u97 u98 u99 u100 u101 u102 u103 u104 u105 u106 u107 u108 u109 u110 u111 u112 u113 u114 u115 u116 u117 u118 u119 u120 u121 u122 u123 u124 u125 u126 u127 u128 u129 u130 u131 u132 u133 u134 u135 u136 u137 u138 u139 u140 u141 u142 u143 u144 u145 u146 u147 u148 u149 u150 u151 u152 u153 u154 u155 u156 u157 u158 u159 u160 u161 u162 u163 u164 u165 u166 u167 u168 u169 u170 u171 u172 u173 u174 u175 u176 u177 u178 u179 u180 u181 u182 u183 u184 u185 u186 u187 u188 u189 u190 : Value) (hA : Awk) (hg : Gl w) (hf : Fit4 a b x1 x2 x3 x4 e1 e3 e4) (q1 : (e1 != 0) = false) (q3 : (e3 != 0) = false) (q4 : (e4 != 0) = false) (hK : KL w x [(pc, .int .i64 c.k, .int .i64 c.n, .string c.s), (pb, .int .i64 b.k, .int .i64 b.n, .string b.s), (pa, .int .i64 a.k, .int .i64 a.n, .string a.s)]) :
    Code.wp Tryz.prog (tailC 11 (Tryz.f10.body.getD .skip)) (Ends10 w) ⟨List.toArray (u0 :: u1 :: u2 :: .pointer (some ⟨pa, 0, none⟩) :: .pointer (some ⟨pb, 0, none⟩) :: .pointer (some ⟨pc, 0, none⟩) :: .bool false :: u7 :: u8 :: u9 :: u10 :: u11 :: u12 :: u13 :: u14 :: u15 :: u16 :: u17 :: u18 :: u19 :: u20 :: .int .i64 x1 :: .int .i64 e1 :: .int .i64 x2 :: .int .i64 e2 :: .int .i64 x3 :: .int .i64 e3 :: .int .i64 x4 :: .int .i64 e4 :: u29 :: u30 :: u31 :: u32 :: u33 :: u34 :: u35 :: u36 :: u37 :: u38 :: u39 :: u40 :: u41 :: u42 :: u43 :: u44 :: u45 :: u46 :: u47 :: u48 :: u49 :: u50 :: u51 :: u52 :: u53 :: u54 :: u55 :: u56 :: u57 :: u58 :: u59 :: u60 :: u61 :: u62 :: u63 :: u64 :: u65 :: u66 :: u67 :: u68 :: u69 :: u70 :: u71 :: u72 :: u73 :: u74 :: u75 :: u76 :: u77 :: u78 :: u79 :: u80 :: u81 :: u82 :: u83 :: u84 :: u85 :: u86 :: u87 :: u88 :: u89 :: u90 :: u91 :: u92 :: u93 :: u94 :: u95 :: u96 :: u97 :: u98 :: u99 :: u100 :: u101 :: u102 :: u103 :: u104 :: u105 :: u106 :: u107 :: u108 :: u109 :: u110 :: u111 :: u112 :: u113 :: u114 :: u115 :: u116 :: u117 :: u118 :: u119 :: u120 :: u121 :: u122 :: u123 :: u124 :: u125 :: u126 :: u127 :: u128 :: u129 :: u130 :: u131 :: u132 :: u133 :: u134 :: u135 :: u136 :: u137 :: u138 :: u139 :: u140 :: u141 :: u142 :: u143 :: u144 :: u145 :: u146 :: u147 :: u148 :: u149 :: u150 :: u151 :: u152 :: u153 :: u154 :: u155 :: u156 :: u157 :: u158 :: u159 :: u160 :: u161 :: u162 :: u163 :: u164 :: u165 :: u166 :: u167 :: u168 :: u169 :: u170 :: u171 :: u172 :: u173 :: u174 :: u175 :: u176 :: u177 :: u178 :: u179 :: u180 :: u181 :: u182 :: u183 :: u184 :: u185 :: u186 :: u187 :: u188 :: u189 :: u190 :: []), []⟩ x := by
  have K := Lib.hid hK
  clear hK
  have HA := Lib.hid hA
  have HG := Lib.hid hg
  clear hA hg
  have HF := Lib.hid (fit4_cases hf q1 q3 q4)
  clear hf q1 q3 q4
  conv => arg 2; whnf
  rcases HF.out with ⟨rfl, rfl, hE⟩ | ⟨⟨rfl, rfl, hE⟩ | ⟨rfl, rfl, hE⟩, h3 | ⟨h3, h4⟩⟩
  all_goals
    clear HF
    have HE0 := Lib.hid hE
    (try have h5 : decide (0 < x4) = false := decide_eq_false (by omega))
    obtain ⟨HB, ⟨c0, c1, c2, -, -, -, cl⟩, ⟨b0, b1, b2, -, -, -, bl⟩, ⟨a0, a1, a2, -, -, -, al⟩, -⟩ := K.out
    go_wp2_with (first
      | (go_at_call 14; (with_reducible refine (awk_at HA.out _ (Gl.below HG.out K.out.HB)).mono ?_); rintro e y ⟨rfl, hy⟩; have HE := Lib.hid (K.out.HB.trans (hy.mono K.out.HB.size)); clear hy))
    go_ret
    exact ⟨rfl, HE.out⟩
set_option maxRecDepth 100000 in
set_option maxHeartbeats 40000000 in
theorem nb10 (w x : World) (pa pb pc : Nat) (a b c : Va) (x1 x2 x3 x4 e1 e2 e3 e4 : Int) (u0 u1 u2 u7 u8 u9 u10 u11 u12 u13 u14 u15 u16 u17 u18 u19 u20 u29 u30 u31 u32 u33 u34 u35 u36 u37 u38 u39 u40 u41 u42 u43 u44 u45 u46 u47 u48 u49 u50 u51 u52 u53 u54 u55 u56 u57 u58 u59 u60 u61 u62 u63 u64 u65 u66 u67 u68 u69 u70 u71 u72 u73 u74 u75 u76 u77 u78 u79 u80 u81 u82 u83 u84 u85 u86 u87 u88 u89 u90 u91 u92 u93 u94 u95 u96 u97 u98 u99 u100 u101 u102 u103 u104 u105 u106 u107 u108 u109 u110 u111 u112 u113 u114 u115 u116 u117 u118 u119 u120 u121 u122 u123 u124 u125 u126 u127 u128 u129 u130 u131 u132 u133 u134 u135 u136 u137 u138 u139 u140 u141 u142 u143 u144 u145 u146 u147 u148 u149 u150 u151 u152 u153 u154 u155 u156 u157 u158 u159 u160 u161 u162 u163 u164 u165 u166 u167 u168 u169 u170 u171 u172 u173 u174 u175 u176 u177 u178 u179 u180 u181 u182 u183 u184 u185 u186 u187 u188 u189 u190 : Value) (hA : Awk) (hg : Gl w) (hf : Fit4 a b x1 x2 x3 x4 e1 e3 e4) (hK : KL w x [(pc, .int .i64 c.k, .int .i64 c.n, .string c.s), (pb, .int .i64 b.k, .int .i64 b.n, .string b.s), (pa, .int .i64 a.k, .int .i64 a.n, .string a.s)]) :
    Code.wp Tryz.prog (tailC 10 (Tryz.f10.body.getD .skip)) (Ends10 w) ⟨List.toArray (u0 :: u1 :: u2 :: .pointer (some ⟨pa, 0, none⟩) :: .pointer (some ⟨pb, 0, none⟩) :: .pointer (some ⟨pc, 0, none⟩) :: .bool false :: u7 :: u8 :: u9 :: u10 :: u11 :: u12 :: u13 :: u14 :: u15 :: u16 :: u17 :: u18 :: u19 :: u20 :: .int .i64 x1 :: .int .i64 e1 :: .int .i64 x2 :: .int .i64 e2 :: .int .i64 x3 :: .int .i64 e3 :: .int .i64 x4 :: .int .i64 e4 :: u29 :: u30 :: u31 :: u32 :: u33 :: u34 :: u35 :: u36 :: u37 :: u38 :: u39 :: u40 :: u41 :: u42 :: u43 :: u44 :: u45 :: u46 :: u47 :: u48 :: u49 :: u50 :: u51 :: u52 :: u53 :: u54 :: u55 :: u56 :: u57 :: u58 :: u59 :: u60 :: u61 :: u62 :: u63 :: u64 :: u65 :: u66 :: u67 :: u68 :: u69 :: u70 :: u71 :: u72 :: u73 :: u74 :: u75 :: u76 :: u77 :: u78 :: u79 :: u80 :: u81 :: u82 :: u83 :: u84 :: u85 :: u86 :: u87 :: u88 :: u89 :: u90 :: u91 :: u92 :: u93 :: u94 :: u95 :: u96 :: u97 :: u98 :: u99 :: u100 :: u101 :: u102 :: u103 :: u104 :: u105 :: u106 :: u107 :: u108 :: u109 :: u110 :: u111 :: u112 :: u113 :: u114 :: u115 :: u116 :: u117 :: u118 :: u119 :: u120 :: u121 :: u122 :: u123 :: u124 :: u125 :: u126 :: u127 :: u128 :: u129 :: u130 :: u131 :: u132 :: u133 :: u134 :: u135 :: u136 :: u137 :: u138 :: u139 :: u140 :: u141 :: u142 :: u143 :: u144 :: u145 :: u146 :: u147 :: u148 :: u149 :: u150 :: u151 :: u152 :: u153 :: u154 :: u155 :: u156 :: u157 :: u158 :: u159 :: u160 :: u161 :: u162 :: u163 :: u164 :: u165 :: u166 :: u167 :: u168 :: u169 :: u170 :: u171 :: u172 :: u173 :: u174 :: u175 :: u176 :: u177 :: u178 :: u179 :: u180 :: u181 :: u182 :: u183 :: u184 :: u185 :: u186 :: u187 :: u188 :: u189 :: u190 :: []), []⟩ x := by
  have K := Lib.hid hK
  clear hK
  conv => arg 2; whnf
  refine wp_seq_k (fun Kont hKont => ?_)
  have HK := Lib.hid hKont
  clear hKont
  have HA := Lib.hid hA
  have HG := Lib.hid hg
  have HF := Lib.hid hf
  clear hA hg hf
  cases q1 : e1 != 0
  · cases q2 : e2 != 0
    · cases q3 : e3 != 0
      · cases q4 : e4 != 0
        · go_wp2_with fail
          exact HK.out _ _ (nb11 _ _ _ _ _ _ _ _ _ _ _ _ _ _ _ _ _ _ _ _ _ _ _ _ _ _ _ _ _ _ _ _ _ _ _ _ _ _ _ _ _ _ _ _ _ _ _ _ _ _ _ _ _ _ _ _ _ _ _ _ _ _ _ _ _ _ _ _ _ _ _ _ _ _ _ _ _ _ _ _ _ _ _ _ _ _ _ _ _ _ _ _ _ _ _ _ _ _ _ _ _ _ _ _ _ _ _ _ _ _ _ _ _ _ _ _ _ _ _ _ _ _ _ _ _ _ _ _ _ _ _ _ _ _ _ _ _ _ _ _ _ _ _ _ _ _ _ _ _ _ _ _ _ _ _ _ _ _ _ _ _ _ _ _ _ _ _ _ _ _ _ _ _ _ _ _ _ _ _ _ _ _ _ _ _ _ _ _ _ _ _ _ _ _ _ HA.out HG.out HF.out q1 q3 q4 K.out)
        · go_wp2_with (first
            | (go_at_call 14; (with_reducible refine (awk_at HA.out _ (Gl.below HG.out K.out.HB)).mono ?_); rintro e y ⟨rfl, hy⟩; have HE := Lib.hid (K.out.HB.trans (hy.mono K.out.HB.size)); clear hy))
          go_ret
          exact ⟨rfl, HE.out⟩
      · go_wp2_with (first
          | (go_at_call 14; (with_reducible refine (awk_at HA.out _ (Gl.below HG.out K.out.HB)).mono ?_); rintro e y ⟨rfl, hy⟩; have HE := Lib.hid (K.out.HB.trans (hy.mono K.out.HB.size)); clear hy))
        go_ret
        exact ⟨rfl, HE.out⟩
    · go_wp2_with (first
        | (go_at_call 14; (with_reducible refine (awk_at HA.out _ (Gl.below HG.out K.out.HB)).mono ?_); rintro e y ⟨rfl, hy⟩; have HE := Lib.hid (K.out.HB.trans (hy.mono K.out.HB.size)); clear hy))
      go_ret
      exact ⟨rfl, HE.out⟩
  · go_wp2_with (first
      | (go_at_call 14; (with_reducible refine (awk_at HA.out _ (Gl.below HG.out K.out.HB)).mono ?_); rintro e y ⟨rfl, hy⟩; have HE := Lib.hid (K.out.HB.trans (hy.mono K.out.HB.size)); clear hy))
    go_ret
    exact ⟨rfl, HE.out⟩
end Go.Proofs.YtplepijiceanlaaGreatDoor
