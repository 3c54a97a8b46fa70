/-
  The law of numbers: its walk, statement by statement.
-/
import Derived.Test.YtplepijiceanlaaGreatDoorNBd
namespace Go.Proofs.YtplepijiceanlaaGreatDoor
open Go.RowKit
set_option maxRecDepth 100000 in
set_option maxHeartbeats 40000000 in
theorem nb3 (w x : World) (pa pb pc pq : Nat) (a b c q : Va) (e : Int) (u0 u1 u2 u9 u10 u11 u12 u13 u14 u15 u16 u17 u18 u19 u20 u21 u22 u23 u24 u25 u26 u27 u28 u29 u30 u31 u32 u33 u34 u35 u36 u37 u38 u39 u40 u41 u42 u43 u44 u45 u46 u47 u48 u49 u50 u51 u52 u53 u54 u55 u56 u57 u58 u59 u60 u61 u62 u63 u64 u65 u66 u67 u68 u69 u70 u71 u72 u73 u74 u75 u76 u77 u78 u79 u80 u81 u82 u83 u84 u85 u86 u87 u88 u89 u90 u91 u92 u93 u94 u95 u96 u97 u98 u99 u100 u101 u102 u103 u104 u105 u106 u107 u108 u109 u110 u111 u112 u113 u114 u115 u116 u117 u118 u119 u120 u121 u122 u123 u124 u125 u126 u127 u128 u129 u130 u131 u132 u133 u134 u135 u136 u137 u138 u139 u140 u141 u142 u143 u144 u145 u146 u147 u148 u149 u150 u151 u152 u153 u154 u155 u156 u157 u158 u159 u160 u161 u162 u163 u164 u165 u166 u167 u168 u169 u170 u171 u172 u173 u174 u175 u176 u177 u178 u179 u180 u181 u182 u183 u184 u185 u186 u187 u188 u189 u190 : Value) (hA : Awk) (hg : Gl w) (ha : a.ok = true) (hb : b.ok = true) (hc : c.ok = true) (hq : binS sDiv a b = (q, e)) (hK : KL w x [(pq, .int .i64 q.k, .int .i64 q.n, .string q.s), (pc, .int .i64 c.k, .int .i64 c.n, .string c.s), (pb, .int .i64 b.k, .int .i64 b.n, .string b.s), (pa, .int .i64 a.k, .int .i64 a.n, .string a.s)]) :
    Code.wp Tryz.prog (tailC 3 (Tryz.f10.body.getD .skip)) (Ends10 w) ⟨List.toArray (u0 :: u1 :: u2 :: .pointer (some ⟨pa, 0, none⟩) :: .pointer (some ⟨pb, 0, none⟩) :: .pointer (some ⟨pc, 0, none⟩) :: .bool false :: .pointer (some ⟨pq, 0, none⟩) :: .int .i64 e :: u9 :: u10 :: u11 :: u12 :: u13 :: u14 :: u15 :: u16 :: u17 :: u18 :: u19 :: u20 :: u21 :: u22 :: u23 :: u24 :: u25 :: u26 :: u27 :: u28 :: u29 :: u30 :: u31 :: u32 :: u33 :: u34 :: u35 :: u36 :: u37 :: u38 :: u39 :: u40 :: u41 :: u42 :: u43 :: u44 :: u45 :: u46 :: u47 :: u48 :: u49 :: u50 :: u51 :: u52 :: u53 :: u54 :: u55 :: u56 :: u57 :: u58 :: u59 :: u60 :: u61 :: u62 :: u63 :: u64 :: u65 :: u66 :: u67 :: u68 :: u69 :: u70 :: u71 :: u72 :: u73 :: u74 :: u75 :: u76 :: u77 :: u78 :: u79 :: u80 :: u81 :: u82 :: u83 :: u84 :: u85 :: u86 :: u87 :: u88 :: u89 :: u90 :: u91 :: u92 :: u93 :: u94 :: u95 :: u96 :: u97 :: u98 :: u99 :: u100 :: u101 :: u102 :: u103 :: u104 :: u105 :: u106 :: u107 :: u108 :: u109 :: u110 :: u111 :: u112 :: u113 :: u114 :: u115 :: u116 :: u117 :: u118 :: u119 :: u120 :: u121 :: u122 :: u123 :: u124 :: u125 :: u126 :: u127 :: u128 :: u129 :: u130 :: u131 :: u132 :: u133 :: u134 :: u135 :: u136 :: u137 :: u138 :: u139 :: u140 :: u141 :: u142 :: u143 :: u144 :: u145 :: u146 :: u147 :: u148 :: u149 :: u150 :: u151 :: u152 :: u153 :: u154 :: u155 :: u156 :: u157 :: u158 :: u159 :: u160 :: u161 :: u162 :: u163 :: u164 :: u165 :: u166 :: u167 :: u168 :: u169 :: u170 :: u171 :: u172 :: u173 :: u174 :: u175 :: u176 :: u177 :: u178 :: u179 :: u180 :: u181 :: u182 :: u183 :: u184 :: u185 :: u186 :: u187 :: u188 :: u189 :: u190 :: []), []⟩ x := by
  have K := Lib.hid hK
  clear hK
  conv => arg 2; whnf
  refine wp_seq_k (fun Kont hKont => ?_)
  have HK := Lib.hid hKont
  clear hKont
  have HA := Lib.hid hA
  have HG := Lib.hid hg
  have HV := Lib.hid (And.intro ha (And.intro hb hc))
  obtain ⟨⟨m, f⟩, hm⟩ : ∃ z, binS sMod a b = z := ⟨_, rfl⟩
  have HM := Lib.hid hm
  have HD : Hid (DivFit a b q m e f) := Lib.hid (fun he hf p s hp hs hg hh hk => num1 a b ha hb (q, e) (m, f) p s hq hm hp hs (by simpa using he) (by simpa using hf) (by simpa using hg) (by simpa using hh) (by simpa using hk))
  clear hA hg ha hb hc hq hm
  obtain ⟨HB, ⟨q0, q1, q2, -, -, -, ql⟩, ⟨c0, c1, c2, -, -, -, cl⟩, ⟨b0, b1, b2, -, -, -, bl⟩, ⟨a0, a1, a2, -, -, -, al⟩, -⟩ := K.out
  go_wp2_with (first
    | (go_at_call 27; (with_reducible refine (bin_at HM.out _).mono ?_); rintro e y' ⟨rfl, hy⟩; have K' := Lib.hid (KL.push (KL.below K.out hy) (.int .i64 m.k) (.int .i64 m.n) (.string m.s) 27); clear hy K HB q0 q1 q2 ql c0 c1 c2 cl b0 b1 b2 bl a0 a1 a2 al; have K := K'; clear K'; obtain ⟨HB, ⟨m0, m1, m2, -, -, -, ml⟩, ⟨q0, q1, q2, -, -, -, ql⟩, ⟨c0, c1, c2, -, -, -, cl⟩, ⟨b0, b1, b2, -, -, -, bl⟩, ⟨a0, a1, a2, -, -, -, al⟩, -⟩ := K.out))
  clear HB m0 m1 m2 ml q0 q1 q2 ql c0 c1 c2 cl b0 b1 b2 bl a0 a1 a2 al
  exact HK.out _ _ (nb4 _ _ _ _ _ _ _ _ _ _ _ _ _ _ _ _ _ _ _ _ _ _ _ _ _ _ _ _ _ _ _ _ _ _ _ _ _ _ _ _ _ _ _ _ _ _ _ _ _ _ _ _ _ _ _ _ _ _ _ _ _ _ _ _ _ _ _ _ _ _ _ _ _ _ _ _ _ _ _ _ _ _ _ _ _ _ _ _ _ _ _ _ _ _ _ _ _ _ _ _ _ _ _ _ _ _ _ _ _ _ _ _ _ _ _ _ _ _ _ _ _ _ _ _ _ _ _ _ _ _ _ _ _ _ _ _ _ _ _ _ _ _ _ _ _ _ _ _ _ _ _ _ _ _ _ _ _ _ _ _ _ _ _ _ _ _ _ _ _ _ _ _ _ _ _ _ _ _ _ _ _ _ _ _ _ _ _ _ _ _ _ _ _ _ _ _ _ HA.out HG.out HV.out.1 HV.out.2.1 HV.out.2.2 HD.out K.out)
set_option maxRecDepth 100000 in
set_option maxHeartbeats 40000000 in
theorem nb2 (w x : World) (pa pb pc : Nat) (a b c : Va) (u0 u1 u2 u7 u8 u9 u10 u11 u12 u13 u14 u15 u16 u17 u18 u19 u20 u21 u22 u23 u24 u25 u26 u27 u28 u29 u30 u31 u32 u33 u34 u35 u36 u37 u38 u39 u40 u41 u42 u43 u44 u45 u46 u47 u48 u49 u50 u51 u52 u53 u54 u55 u56 u57 u58 u59 u60 u61 u62 u63 u64 u65 u66 u67 u68 u69 u70 u71 u72 u73 u74 u75 u76 u77 u78 u79 u80 u81 u82 u83 u84 u85 u86 u87 u88 u89 u90 u91 u92 u93 u94 u95 u96 u97 u98 u99 u100 u101 u102 u103 u104 u105 u106 u107 u108 u109 u110 u111 u112 u113 u114 u115 u116 u117 u118 u119 u120 u121 u122 u123 u124 u125 u126 u127 u128 u129 u130 u131 u132 u133 u134 u135 u136 u137 u138 u139 u140 u141 u142 u143 u144 u145 u146 u147 u148 u149 u150 u151 u152 u153 u154 u155 u156 u157 u158 u159 u160 u161 u162 u163 u164 u165 u166 u167 u168 u169 u170 u171 u172 u173 u174 u175 u176 u177 u178 u179 u180 u181 u182 u183 u184 u185 u186 u187 u188 u189 u190 : Value) (hA : Awk) (hg : Gl w) (ha : a.ok = true) (hb : b.ok = true) (hc : c.ok = true) (hK : KL w x [(pc, .int .i64 c.k, .int .i64 c.n, .string c.s), (pb, .int .i64 b.k, .int .i64 b.n, .string b.s), (pa, .int .i64 a.k, .int .i64 a.n, .string a.s)]) :
    Code.wp Tryz.prog (tailC 2 (Tryz.f10.body.getD .skip)) (Ends10 w) ⟨List.toArray (u0 :: u1 :: u2 :: .pointer (some ⟨pa, 0, none⟩) :: .pointer (some ⟨pb, 0, none⟩) :: .pointer (some ⟨pc, 0, none⟩) :: .bool false :: u7 :: u8 :: u9 :: u10 :: u11 :: u12 :: u13 :: u14 :: u15 :: u16 :: u17 :: u18 :: u19 :: u20 :: u21 :: u22 :: u23 :: u24 :: u25 :: u26 :: u27 :: u28 :: u29 :: u30 :: u31 :: u32 :: u33 :: u34 :: u35 :: u36 :: u37 :: u38 :: u39 :: u40 :: u41 :: u42 :: u43 :: u44 :: u45 :: u46 :: u47 :: u48 :: u49 :: u50 :: u51 :: u52 :: u53 :: u54 :: u55 :: u56 :: u57 :: u58 :: u59 :: u60 :: u61 :: u62 :: u63 :: u64 :: u65 :: u66 :: u67 :: u68 :: u69 :: u70 :: u71 :: u72 :: u73 :: u74 :: u75 :: u76 :: u77 :: u78 :: u79 :: u80 :: u81 :: u82 :: u83 :: u84 :: u85 :: u86 :: u87 :: u88 :: u89 :: u90 :: u91 :: u92 :: u93 :: u94 :: u95 :: u96 :: u97 :: u98 :: u99 :: u100 :: u101 :: u102 :: u103 :: u104 :: u105 :: u106 :: u107 :: u108 :: u109 :: u110 :: u111 :: u112 :: u113 :: u114 :: u115 :: u116 :: u117 :: u118 :: u119 :: u120 :: u121 :: u122 :: u123 :: u124 :: u125 :: u126 :: u127 :: u128 :: u129 :: u130 :: u131 :: u132 :: u133 :: u134 :: u135 :: u136 :: u137 :: u138 :: u139 :: u140 :: u141 :: u142 :: u143 :: u144 :: u145 :: u146 :: u147 :: u148 :: u149 :: u150 :: u151 :: u152 :: u153 :: u154 :: u155 :: u156 :: u157 :: u158 :: u159 :: u160 :: u161 :: u162 :: u163 :: u164 :: u165 :: u166 :: u167 :: u168 :: u169 :: u170 :: u171 :: u172 :: u173 :: u174 :: u175 :: u176 :: u177 :: u178 :: u179 :: u180 :: u181 :: u182 :: u183 :: u184 :: u185 :: u186 :: u187 :: u188 :: u189 :: u190 :: []), []⟩ x := by
  have K := Lib.hid hK
  clear hK
  conv => arg 2; whnf
  refine wp_seq_k (fun Kont hKont => ?_)
  have HK := Lib.hid hKont
  clear hKont
  have HA := Lib.hid hA
  have HG := Lib.hid hg
  have HV := Lib.hid (And.intro ha (And.intro hb hc))
  obtain ⟨⟨q, e⟩, hq⟩ : ∃ z, binS sDiv a b = z := ⟨_, rfl⟩
  have HQ := Lib.hid hq
  clear hA hg ha hb hc hq
  obtain ⟨HB, ⟨c0, c1, c2, -, -, -, cl⟩, ⟨b0, b1, b2, -, -, -, bl⟩, ⟨a0, a1, a2, -, -, -, al⟩, -⟩ := K.out
  go_wp2_with (first
    | (go_at_call 27; (with_reducible refine (bin_at HQ.out _).mono ?_); rintro e y' ⟨rfl, hy⟩; have K' := Lib.hid (KL.push (KL.below K.out hy) (.int .i64 q.k) (.int .i64 q.n) (.string q.s) 27); clear hy K HB c0 c1 c2 cl b0 b1 b2 bl a0 a1 a2 al; have K := K'; clear K'; obtain ⟨HB, ⟨q0, q1, q2, -, -, -, ql⟩, ⟨c0, c1, c2, -, -, -, cl⟩, ⟨b0, b1, b2, -, -, -, bl⟩, ⟨a0, a1, a2, -, -, -, al⟩, -⟩ := K.out))
  clear HB q0 q1 q2 ql c0 c1 c2 cl b0 b1 b2 bl a0 a1 a2 al
  exact HK.out _ _ (nb3 _ _ _ _ _ _ _ _ _ _ _ _ _ _ _ _ _ _ _ _ _ _ _ _ _ _ _ _ _ _ _ _ _ _ _ _ _ _ _ _ _ _ _ _ _ _ _ _ _ _ _ _ _ _ _ _ _ _ _ _ _ _ _ _ _ _ _ _ _ _ _ _ _ _ _ _ _ _ _ _ _ _ _ _ _ _ _ _ _ _ _ _ _ _ _ _ _ _ _ _ _ _ _ _ _ _ _ _ _ _ _ _ _ _ _ _ _ _ _ _ _ _ _ _ _ _ _ _ _ _ _ _ _ _ _ _ _ _ _ _ _ _ _ _ _ _ _ _ _ _ _ _ _ _ _ _ _ _ _ _ _ _ _ _ _ _ _ _ _ _ _ _ _ _ _ _ _ _ _ _ _ _ _ _ _ _ _ _ _ _ _ _ _ _ _ _ HA.out HG.out HV.out.1 HV.out.2.1 HV.out.2.2 HQ.out K.out)
set_option maxRecDepth 100000 in
set_option maxHeartbeats 40000000 in
theorem nb1 (w x : World) (pa pb pc : Nat) (a b c : Va) (u0 u1 u2 u7 u8 u9 u10 u11 u12 u13 u14 u15 u16 u17 u18 u19 u20 u21 u22 u23 u24 u25 u26 u27 u28 u29 u30 u31 u32 u33 u34 u35 u36 u37 u38 u39 u40 u41 u42 u43 u44 u45 u46 u47 u48 u49 u50 u51 u52 u53 u54 u55 u56 u57 u58 u59 u60 u61 u62 u63 u64 u65 u66 u67 u68 u69 u70 u71 u72 u73 u74 u75 u76 u77 u78 u79 u80 u81 u82 u83 u84 u85 u86 u87 u88 u89 u90 u91 u92 u93 u94 u95 u96 u97 u98 u99 u100 u101 u102 u103 u104 u105 u106 u107 u108 u109 u110 u111 u112 u113 u114 u115 u116 u117 u118 u119 u120 u121 u122 u123 u124 u125 u126 u127 u128 u129 u130 u131 u132 u133 u134 u135 u136 u137 u138 u139 u140 u141 u142 u143 u144 u145 u146 u147 u148 u149 u150 u151 u152 u153 u154 u155 u156 u157 u158 u159 u160 u161 u162 u163 u164 u165 u166 u167 u168 u169 u170 u171 u172 u173 u174 u175 u176 u177 u178 u179 u180 u181 u182 u183 u184 u185 u186 u187 u188 u189 u190 : Value) (hA : Awk) (hg : Gl w) (za : a.s.size ≤ maxLen) (zb : b.s.size ≤ maxLen) (zc : c.s.size ≤ maxLen) (hK : KL w x [(pc, .int .i64 c.k, .int .i64 c.n, .string c.s), (pb, .int .i64 b.k, .int .i64 b.n, .string b.s), (pa, .int .i64 a.k, .int .i64 a.n, .string a.s)]) :
    Code.wp Tryz.prog (tailC 1 (Tryz.f10.body.getD .skip)) (Ends10 w) ⟨List.toArray (u0 :: u1 :: u2 :: .pointer (some ⟨pa, 0, none⟩) :: .pointer (some ⟨pb, 0, none⟩) :: .pointer (some ⟨pc, 0, none⟩) :: .bool false :: u7 :: u8 :: u9 :: u10 :: u11 :: u12 :: u13 :: u14 :: u15 :: u16 :: u17 :: u18 :: u19 :: u20 :: u21 :: u22 :: u23 :: u24 :: u25 :: u26 :: u27 :: u28 :: u29 :: u30 :: u31 :: u32 :: u33 :: u34 :: u35 :: u36 :: u37 :: u38 :: u39 :: u40 :: u41 :: u42 :: u43 :: u44 :: u45 :: u46 :: u47 :: u48 :: u49 :: u50 :: u51 :: u52 :: u53 :: u54 :: u55 :: u56 :: u57 :: u58 :: u59 :: u60 :: u61 :: u62 :: u63 :: u64 :: u65 :: u66 :: u67 :: u68 :: u69 :: u70 :: u71 :: u72 :: u73 :: u74 :: u75 :: u76 :: u77 :: u78 :: u79 :: u80 :: u81 :: u82 :: u83 :: u84 :: u85 :: u86 :: u87 :: u88 :: u89 :: u90 :: u91 :: u92 :: u93 :: u94 :: u95 :: u96 :: u97 :: u98 :: u99 :: u100 :: u101 :: u102 :: u103 :: u104 :: u105 :: u106 :: u107 :: u108 :: u109 :: u110 :: u111 :: u112 :: u113 :: u114 :: u115 :: u116 :: u117 :: u118 :: u119 :: u120 :: u121 :: u122 :: u123 :: u124 :: u125 :: u126 :: u127 :: u128 :: u129 :: u130 :: u131 :: u132 :: u133 :: u134 :: u135 :: u136 :: u137 :: u138 :: u139 :: u140 :: u141 :: u142 :: u143 :: u144 :: u145 :: u146 :: u147 :: u148 :: u149 :: u150 :: u151 :: u152 :: u153 :: u154 :: u155 :: u156 :: u157 :: u158 :: u159 :: u160 :: u161 :: u162 :: u163 :: u164 :: u165 :: u166 :: u167 :: u168 :: u169 :: u170 :: u171 :: u172 :: u173 :: u174 :: u175 :: u176 :: u177 :: u178 :: u179 :: u180 :: u181 :: u182 :: u183 :: u184 :: u185 :: u186 :: u187 :: u188 :: u189 :: u190 :: []), []⟩ x := by
  have K := Lib.hid hK
  clear hK
  conv => arg 2; whnf
  refine wp_seq_k (fun Kont hKont => ?_)
  have HK := Lib.hid hKont
  clear hKont
  have HA := Lib.hid hA
  have HG := Lib.hid hg
  have ZA := Lib.hid za
  have ZB := Lib.hid zb
  have ZC := Lib.hid zc
  clear hA hg za zb zc
  cases va : vld a.k a.n a.s
  · obtain ⟨HB, ⟨c0, c1, c2, -, -, -, cl⟩, ⟨b0, b1, b2, -, -, -, bl⟩, ⟨a0, a1, a2, -, -, -, al⟩, -⟩ := K.out
    go_wp2_with (first
        | (go_at_call 13; (with_reducible refine (few3 _ a b c).mono ?_); rintro e y' ⟨⟨bb, rfl⟩, hy⟩; have K' := Lib.hid (KL.below (KL.alloc K.out _) hy); clear hy K HB c0 c1 c2 cl b0 b1 b2 bl a0 a1 a2 al; have K := K'; clear K'; obtain ⟨HB, ⟨c0, c1, c2, -, -, -, cl⟩, ⟨b0, b1, b2, -, -, -, bl⟩, ⟨a0, a1, a2, -, -, -, al⟩, -⟩ := K.out; cases bb)
        | (go_at_call_of 16 (Value.agg #[.int .i64 a.k, .int .i64 a.n, .string a.s]); (with_reducible refine (ref_valid _ _ _ _ ZA.out).mono ?_); rintro e y' ⟨rfl, hy⟩; have K' := Lib.hid (KL.below K.out hy); clear hy K HB c0 c1 c2 cl b0 b1 b2 bl a0 a1 a2 al; have K := K'; clear K'; obtain ⟨HB, ⟨c0, c1, c2, -, -, -, cl⟩, ⟨b0, b1, b2, -, -, -, bl⟩, ⟨a0, a1, a2, -, -, -, al⟩, -⟩ := K.out)
        | (go_at_call_of 16 (Value.agg #[.int .i64 b.k, .int .i64 b.n, .string b.s]); (with_reducible refine (ref_valid _ _ _ _ ZB.out).mono ?_); rintro e y' ⟨rfl, hy⟩; have K' := Lib.hid (KL.below K.out hy); clear hy K HB c0 c1 c2 cl b0 b1 b2 bl a0 a1 a2 al; have K := K'; clear K'; obtain ⟨HB, ⟨c0, c1, c2, -, -, -, cl⟩, ⟨b0, b1, b2, -, -, -, bl⟩, ⟨a0, a1, a2, -, -, -, al⟩, -⟩ := K.out)
        | (go_at_call_of 16 (Value.agg #[.int .i64 c.k, .int .i64 c.n, .string c.s]); (with_reducible refine (ref_valid _ _ _ _ ZC.out).mono ?_); rintro e y' ⟨rfl, hy⟩; have K' := Lib.hid (KL.below K.out hy); clear hy K HB c0 c1 c2 cl b0 b1 b2 bl a0 a1 a2 al; have K := K'; clear K'; obtain ⟨HB, ⟨c0, c1, c2, -, -, -, cl⟩, ⟨b0, b1, b2, -, -, -, bl⟩, ⟨a0, a1, a2, -, -, -, al⟩, -⟩ := K.out)
        | (go_at_call 14; (with_reducible refine (awk_at HA.out _ (Gl.below HG.out K.out.HB)).mono ?_); rintro e y ⟨rfl, hy⟩; have HE := Lib.hid (K.out.HB.trans (hy.mono K.out.HB.size)); clear hy))
    all_goals (go_ret; exact ⟨rfl, HE.out⟩)
  cases vb : vld b.k b.n b.s
  · obtain ⟨HB, ⟨c0, c1, c2, -, -, -, cl⟩, ⟨b0, b1, b2, -, -, -, bl⟩, ⟨a0, a1, a2, -, -, -, al⟩, -⟩ := K.out
    go_wp2_with (first
        | (go_at_call 13; (with_reducible refine (few3 _ a b c).mono ?_); rintro e y' ⟨⟨bb, rfl⟩, hy⟩; have K' := Lib.hid (KL.below (KL.alloc K.out _) hy); clear hy K HB c0 c1 c2 cl b0 b1 b2 bl a0 a1 a2 al; have K := K'; clear K'; obtain ⟨HB, ⟨c0, c1, c2, -, -, -, cl⟩, ⟨b0, b1, b2, -, -, -, bl⟩, ⟨a0, a1, a2, -, -, -, al⟩, -⟩ := K.out; cases bb)
        | (go_at_call_of 16 (Value.agg #[.int .i64 a.k, .int .i64 a.n, .string a.s]); (with_reducible refine (ref_valid _ _ _ _ ZA.out).mono ?_); rintro e y' ⟨rfl, hy⟩; have K' := Lib.hid (KL.below K.out hy); clear hy K HB c0 c1 c2 cl b0 b1 b2 bl a0 a1 a2 al; have K := K'; clear K'; obtain ⟨HB, ⟨c0, c1, c2, -, -, -, cl⟩, ⟨b0, b1, b2, -, -, -, bl⟩, ⟨a0, a1, a2, -, -, -, al⟩, -⟩ := K.out)
        | (go_at_call_of 16 (Value.agg #[.int .i64 b.k, .int .i64 b.n, .string b.s]); (with_reducible refine (ref_valid _ _ _ _ ZB.out).mono ?_); rintro e y' ⟨rfl, hy⟩; have K' := Lib.hid (KL.below K.out hy); clear hy K HB c0 c1 c2 cl b0 b1 b2 bl a0 a1 a2 al; have K := K'; clear K'; obtain ⟨HB, ⟨c0, c1, c2, -, -, -, cl⟩, ⟨b0, b1, b2, -, -, -, bl⟩, ⟨a0, a1, a2, -, -, -, al⟩, -⟩ := K.out)
        | (go_at_call_of 16 (Value.agg #[.int .i64 c.k, .int .i64 c.n, .string c.s]); (with_reducible refine (ref_valid _ _ _ _ ZC.out).mono ?_); rintro e y' ⟨rfl, hy⟩; have K' := Lib.hid (KL.below K.out hy); clear hy K HB c0 c1 c2 cl b0 b1 b2 bl a0 a1 a2 al; have K := K'; clear K'; obtain ⟨HB, ⟨c0, c1, c2, -, -, -, cl⟩, ⟨b0, b1, b2, -, -, -, bl⟩, ⟨a0, a1, a2, -, -, -, al⟩, -⟩ := K.out)
        | (go_at_call 14; (with_reducible refine (awk_at HA.out _ (Gl.below HG.out K.out.HB)).mono ?_); rintro e y ⟨rfl, hy⟩; have HE := Lib.hid (K.out.HB.trans (hy.mono K.out.HB.size)); clear hy))
    all_goals (go_ret; exact ⟨rfl, HE.out⟩)
  cases vc : vld c.k c.n c.s
  · obtain ⟨HB, ⟨c0, c1, c2, -, -, -, cl⟩, ⟨b0, b1, b2, -, -, -, bl⟩, ⟨a0, a1, a2, -, -, -, al⟩, -⟩ := K.out
    go_wp2_with (first
        | (go_at_call 13; (with_reducible refine (few3 _ a b c).mono ?_); rintro e y' ⟨⟨bb, rfl⟩, hy⟩; have K' := Lib.hid (KL.below (KL.alloc K.out _) hy); clear hy K HB c0 c1 c2 cl b0 b1 b2 bl a0 a1 a2 al; have K := K'; clear K'; obtain ⟨HB, ⟨c0, c1, c2, -, -, -, cl⟩, ⟨b0, b1, b2, -, -, -, bl⟩, ⟨a0, a1, a2, -, -, -, al⟩, -⟩ := K.out; cases bb)
        | (go_at_call_of 16 (Value.agg #[.int .i64 a.k, .int .i64 a.n, .string a.s]); (with_reducible refine (ref_valid _ _ _ _ ZA.out).mono ?_); rintro e y' ⟨rfl, hy⟩; have K' := Lib.hid (KL.below K.out hy); clear hy K HB c0 c1 c2 cl b0 b1 b2 bl a0 a1 a2 al; have K := K'; clear K'; obtain ⟨HB, ⟨c0, c1, c2, -, -, -, cl⟩, ⟨b0, b1, b2, -, -, -, bl⟩, ⟨a0, a1, a2, -, -, -, al⟩, -⟩ := K.out)
        | (go_at_call_of 16 (Value.agg #[.int .i64 b.k, .int .i64 b.n, .string b.s]); (with_reducible refine (ref_valid _ _ _ _ ZB.out).mono ?_); rintro e y' ⟨rfl, hy⟩; have K' := Lib.hid (KL.below K.out hy); clear hy K HB c0 c1 c2 cl b0 b1 b2 bl a0 a1 a2 al; have K := K'; clear K'; obtain ⟨HB, ⟨c0, c1, c2, -, -, -, cl⟩, ⟨b0, b1, b2, -, -, -, bl⟩, ⟨a0, a1, a2, -, -, -, al⟩, -⟩ := K.out)
        | (go_at_call_of 16 (Value.agg #[.int .i64 c.k, .int .i64 c.n, .string c.s]); (with_reducible refine (ref_valid _ _ _ _ ZC.out).mono ?_); rintro e y' ⟨rfl, hy⟩; have K' := Lib.hid (KL.below K.out hy); clear hy K HB c0 c1 c2 cl b0 b1 b2 bl a0 a1 a2 al; have K := K'; clear K'; obtain ⟨HB, ⟨c0, c1, c2, -, -, -, cl⟩, ⟨b0, b1, b2, -, -, -, bl⟩, ⟨a0, a1, a2, -, -, -, al⟩, -⟩ := K.out)
        | (go_at_call 14; (with_reducible refine (awk_at HA.out _ (Gl.below HG.out K.out.HB)).mono ?_); rintro e y ⟨rfl, hy⟩; have HE := Lib.hid (K.out.HB.trans (hy.mono K.out.HB.size)); clear hy))
    all_goals (go_ret; exact ⟨rfl, HE.out⟩)
  have VA : Hid (a.ok = true) := Lib.hid va
  have VB : Hid (b.ok = true) := Lib.hid vb
  have VC : Hid (c.ok = true) := Lib.hid vc
  obtain ⟨HB, ⟨c0, c1, c2, -, -, -, cl⟩, ⟨b0, b1, b2, -, -, -, bl⟩, ⟨a0, a1, a2, -, -, -, al⟩, -⟩ := K.out
  go_wp2_with (first
      | (go_at_call 13; (with_reducible refine (few3 _ a b c).mono ?_); rintro e y' ⟨⟨bb, rfl⟩, hy⟩; have K' := Lib.hid (KL.below (KL.alloc K.out _) hy); clear hy K HB c0 c1 c2 cl b0 b1 b2 bl a0 a1 a2 al; have K := K'; clear K'; obtain ⟨HB, ⟨c0, c1, c2, -, -, -, cl⟩, ⟨b0, b1, b2, -, -, -, bl⟩, ⟨a0, a1, a2, -, -, -, al⟩, -⟩ := K.out; cases bb)
      | (go_at_call_of 16 (Value.agg #[.int .i64 a.k, .int .i64 a.n, .string a.s]); (with_reducible refine (ref_valid _ _ _ _ ZA.out).mono ?_); rintro e y' ⟨rfl, hy⟩; have K' := Lib.hid (KL.below K.out hy); clear hy K HB c0 c1 c2 cl b0 b1 b2 bl a0 a1 a2 al; have K := K'; clear K'; obtain ⟨HB, ⟨c0, c1, c2, -, -, -, cl⟩, ⟨b0, b1, b2, -, -, -, bl⟩, ⟨a0, a1, a2, -, -, -, al⟩, -⟩ := K.out)
      | (go_at_call_of 16 (Value.agg #[.int .i64 b.k, .int .i64 b.n, .string b.s]); (with_reducible refine (ref_valid _ _ _ _ ZB.out).mono ?_); rintro e y' ⟨rfl, hy⟩; have K' := Lib.hid (KL.below K.out hy); clear hy K HB c0 c1 c2 cl b0 b1 b2 bl a0 a1 a2 al; have K := K'; clear K'; obtain ⟨HB, ⟨c0, c1, c2, -, -, -, cl⟩, ⟨b0, b1, b2, -, -, -, bl⟩, ⟨a0, a1, a2, -, -, -, al⟩, -⟩ := K.out)
      | (go_at_call_of 16 (Value.agg #[.int .i64 c.k, .int .i64 c.n, .string c.s]); (with_reducible refine (ref_valid _ _ _ _ ZC.out).mono ?_); rintro e y' ⟨rfl, hy⟩; have K' := Lib.hid (KL.below K.out hy); clear hy K HB c0 c1 c2 cl b0 b1 b2 bl a0 a1 a2 al; have K := K'; clear K'; obtain ⟨HB, ⟨c0, c1, c2, -, -, -, cl⟩, ⟨b0, b1, b2, -, -, -, bl⟩, ⟨a0, a1, a2, -, -, -, al⟩, -⟩ := K.out)
      | (go_at_call 14; (with_reducible refine (awk_at HA.out _ (Gl.below HG.out K.out.HB)).mono ?_); rintro e y ⟨rfl, hy⟩; have HE := Lib.hid (K.out.HB.trans (hy.mono K.out.HB.size)); clear hy))
  all_goals first
    | (go_ret; exact ⟨rfl, HE.out⟩)
    | (clear HB c0 c1 c2 cl b0 b1 b2 bl a0 a1 a2 al; exact HK.out _ _ (nb2 _ _ _ _ _ _ _ _ _ _ _ _ _ _ _ _ _ _ _ _ _ _ _ _ _ _ _ _ _ _ _ _ _ _ _ _ _ _ _ _ _ _ _ _ _ _ _ _ _ _ _ _ _ _ _ _ _ _ _ _ _ _ _ _ _ _ _ _ _ _ _ _ _ _ _ _ _ _ _ _ _ _ _ _ _ _ _ _ _ _ _ _ _ _ _ _ _ _ _ _ _ _ _ _ _ _ _ _ _ _ _ _ _ _ _ _ _ _ _ _ _ _ _ _ _ _ _ _ _ _ _ _ _ _ _ _ _ _ _ _ _ _ _ _ _ _ _ _ _ _ _ _ _ _ _ _ _ _ _ _ _ _ _ _ _ _ _ _ _ _ _ _ _ _ _ _ _ _ _ _ _ _ _ _ _ _ _ _ _ _ _ _ _ _ _ HA.out HG.out VA.out VB.out VC.out K.out))
set_option maxRecDepth 100000 in
set_option maxHeartbeats 40000000 in
/-- The law of numbers. -/
theorem valueNumbers_ (hA : Awk) (a b c : Va) (za : a.s.size ≤ maxLen) (zb : b.s.size ≤ maxLen) (zc : c.s.size ≤ maxLen) (w : World) (hg : Gl w) : Calls Tryz.prog 10 #[a.val, b.val, c.val] w fun e w' => e = .returned (.bool true) ∧ Below w.heap.size w w' := by
  have HA := Lib.hid hA
  have HG := Lib.hid hg
  have ZA := Lib.hid za
  have ZB := Lib.hid zb
  have ZC := Lib.hid zc
  clear hA hg za zb zc
  go_enter Tryz.func10, Tryz.ntmps10
  refine wp_seq_k (fun Kont hKont => ?_)
  have HK := Lib.hid hKont
  clear hKont
  go_wp2_with fail
  exact HK.out _ _ (nb1 _ _ _ _ _ _ _ _ _ _ _ _ _ _ _ _ _ _ _ _ _ _ _ _ _ _ _ _ _ _ _ _ _ _ _ _ _ _ _ _ _ _ _ _ _ _ _ _ _ _ _ _ _ _ _ _ _ _ _ _ _ _ _ _ _ _ _ _ _ _ _ _ _ _ _ _ _ _ _ _ _ _ _ _ _ _ _ _ _ _ _ _ _ _ _ _ _ _ _ _ _ _ _ _ _ _ _ _ _ _ _ _ _ _ _ _ _ _ _ _ _ _ _ _ _ _ _ _ _ _ _ _ _ _ _ _ _ _ _ _ _ _ _ _ _ _ _ _ _ _ _ _ _ _ _ _ _ _ _ _ _ _ _ _ _ _ _ _ _ _ _ _ _ _ _ _ _ _ _ _ _ _ _ _ _ _ _ _ _ _ _ _ _ _ _ HA.out HG.out ZA.out ZB.out ZC.out ((((KL.refl w).push _ _ _ 27).push' _ (sz1 _ _) _ _ _ 27).push' _ (sz2 _ _ _) _ _ _ 27))
end Go.Proofs.YtplepijiceanlaaGreatDoor
