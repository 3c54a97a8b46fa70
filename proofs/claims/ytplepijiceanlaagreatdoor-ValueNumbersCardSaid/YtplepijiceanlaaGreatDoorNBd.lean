/-
  The law of numbers: its walk, statement by statement.
-/
import Derived.Test.YtplepijiceanlaaGreatDoorNBe
namespace Go.Proofs.YtplepijiceanlaaGreatDoor
open Go.RowKit
set_option maxRecDepth 100000 in
set_option maxHeartbeats 40000000 in
theorem nb5 (w x : World) (pa pb pc : Nat) (a b c : Va) (u0 u1 u2 u7 u8 u9 u10 u11 u12 u13 u14 u15 u16 u17 u18 u19 u20 u21 u22 u23 u24 u25 u26 u27 u28 u29 u30 u31 u32 u33 u34 u35 u36 u37 u38 u39 u40 u41 u42 u43 u44 u45 u46 u47 u48 u49 u50 u51 u52 u53 u54 u55 u56 u57 u58 u59 u60 u61 u62 u63 u64 u65 u66 u67 u68 u69 u70 u71 u72 u73 u74 u75 u76 u77 u78 u79 u80 u81 u82 u83 u84 u85 u86 u87 u88 u89 u90 u91 u92 u93 u94 u95 u96 u97 u98 u99 u100 u101 u102 u103 u104 u105 u106 u107 u108 u109 u110 u111 u112 u113 u114 u115 u116 u117 u118 u119 u120 u121 u122 u123 u124 u125 u126 u127 u128 u129 u130 u131 u132 u133 u134 u135 u136 u137 u138 u139 u140 u141 u142 u143 u144 u145 u146 u147 u148 u149 u150 u151 u152 u153 u154 u155 u156 u157 u158 u159 u160 u161 u162 u163 u164 u165 u166 u167 u168 u169 u170 u171 u172 u173 u174 u175 u176 u177 u178 u179 u180 u181 u182 u183 u184 u185 u186 u187 u188 u189 u190 : Value) (hA : Awk) (hg : Gl w) (ha : a.ok = true) (hb : b.ok = true) (hc : c.ok = true) (hK : KL w x [(pc, .int .i64 c.k, .int .i64 c.n, .string c.s), (pb, .int .i64 b.k, .int .i64 b.n, .string b.s), (pa, .int .i64 a.k, .int .i64 a.n, .string a.s)]) :
    Code.wp Tryz.prog (tailC 5 (Tryz.f10.body.getD .skip)) (Ends10 w) ⟨List.toArray (u0 :: u1 :: u2 :: .pointer (some ⟨pa, 0, none⟩) :: .pointer (some ⟨pb, 0, none⟩) :: .pointer (some ⟨pc, 0, none⟩) :: .bool false :: u7 :: u8 :: u9 :: u10 :: u11 :: u12 :: u13 :: u14 :: u15 :: u16 :: u17 :: u18 :: u19 :: u20 :: u21 :: u22 :: u23 :: u24 :: u25 :: u26 :: u27 :: u28 :: u29 :: u30 :: u31 :: u32 :: u33 :: u34 :: u35 :: u36 :: u37 :: u38 :: u39 :: u40 :: u41 :: u42 :: u43 :: u44 :: u45 :: u46 :: u47 :: u48 :: u49 :: u50 :: u51 :: u52 :: u53 :: u54 :: u55 :: u56 :: u57 :: u58 :: u59 :: u60 :: u61 :: u62 :: u63 :: u64 :: u65 :: u66 :: u67 :: u68 :: u69 :: u70 :: u71 :: u72 :: u73 :: u74 :: u75 :: u76 :: u77 :: u78 :: u79 :: u80 :: u81 :: u82 :: u83 :: u84 :: u85 :: u86 :: u87 :: u88 :: u89 :: u90 :: u91 :: u92 :: u93 :: u94 :: u95 :: u96 :: u97 :: u98 :: u99 :: u100 :: u101 :: u102 :: u103 :: u104 :: u105 :: u106 :: u107 :: u108 :: u109 :: u110 :: u111 :: u112 :: u113 :: u114 :: u115 :: u116 :: u117 :: u118 :: u119 :: u120 :: u121 :: u122 :: u123 :: u124 :: u125 :: u126 :: u127 :: u128 :: u129 :: u130 :: u131 :: u132 :: u133 :: u134 :: u135 :: u136 :: u137 :: u138 :: u139 :: u140 :: u141 :: u142 :: u143 :: u144 :: u145 :: u146 :: u147 :: u148 :: u149 :: u150 :: u151 :: u152 :: u153 :: u154 :: u155 :: u156 :: u157 :: u158 :: u159 :: u160 :: u161 :: u162 :: u163 :: u164 :: u165 :: u166 :: u167 :: u168 :: u169 :: u170 :: u171 :: u172 :: u173 :: u174 :: u175 :: u176 :: u177 :: u178 :: u179 :: u180 :: u181 :: u182 :: u183 :: u184 :: u185 :: u186 :: u187 :: u188 :: u189 :: u190 :: []), []⟩ x := by
  have K := Lib.hid hK
  clear hK
  conv => arg 2; whnf
  refine wp_seq_k (fun Kont hKont => ?_)
  have HK := Lib.hid hKont
  clear hKont
  have HA := Lib.hid hA
  have HG := Lib.hid hg
  have HV := Lib.hid (And.intro ha (And.intro hb hc))
  clear hA hg
  obtain ⟨⟨n, g⟩, hn⟩ : ∃ z, unS 1 b = z := ⟨_, rfl⟩
  have HN := Lib.hid hn
  cases hg0 : g == 0
  · clear hn ha hb hc
    obtain ⟨HB, ⟨c0, c1, c2, -, -, -, cl⟩, ⟨b0, b1, b2, -, -, -, bl⟩, ⟨a0, a1, a2, -, -, -, al⟩, -⟩ := K.out
    go_wp2_with (first
      | (go_at_call 25; (with_reducible refine (un_at (op := sSub) rfl HN.out _).mono ?_); rintro e y' ⟨rfl, hy⟩; have K' := Lib.hid (KL.push (KL.below K.out hy) (.int .i64 n.k) (.int .i64 n.n) (.string n.s) 27); clear hy K HB c0 c1 c2 cl b0 b1 b2 bl a0 a1 a2 al; have K := K'; clear K'; obtain ⟨HB, ⟨n0, n1, n2, -, -, -, nl⟩, ⟨c0, c1, c2, -, -, -, cl⟩, ⟨b0, b1, b2, -, -, -, bl⟩, ⟨a0, a1, a2, -, -, -, al⟩, -⟩ := K.out))
    clear HB n0 n1 n2 nl c0 c1 c2 cl b0 b1 b2 bl a0 a1 a2 al
    exact HK.out _ _ (nb6 _ _ _ _ _ _ _ _ _ _ _ _ _ _ _ _ _ _ _ _ _ _ _ _ _ _ _ _ _ _ _ _ _ _ _ _ _ _ _ _ _ _ _ _ _ _ _ _ _ _ _ _ _ _ _ _ _ _ _ _ _ _ _ _ _ _ _ _ _ _ _ _ _ _ _ _ _ _ _ _ _ _ _ _ _ _ _ _ _ _ _ _ _ _ _ _ _ _ _ _ _ _ _ _ _ _ _ _ _ _ _ _ _ _ _ _ _ _ _ _ _ _ _ _ _ _ _ _ _ _ _ _ _ _ _ _ _ _ _ _ _ _ _ _ _ _ _ _ _ _ _ _ _ _ _ _ _ _ _ _ _ _ _ _ _ _ _ _ _ _ _ _ _ _ _ _ _ _ _ _ _ _ _ _ _ _ _ _ _ _ _ _ _ _ _ HA.out HG.out HV.out.1 HV.out.2.1 HV.out.2.2 (KL.tl K.out))
  · obtain ⟨⟨z, h⟩, hz⟩ : ∃ z, binS sSub a b = z := ⟨_, rfl⟩
    have hz' : binS sAdd a n = (z, h) := (num2 a b ha hb (n, g) hn (by simpa using hg0)).symm.trans hz
    have HX := Lib.hid hz
    have HY := Lib.hid hz'
    have hE := eqV_self z
    clear hn ha hb hc hz hz'
    obtain ⟨HB, ⟨c0, c1, c2, -, -, -, cl⟩, ⟨b0, b1, b2, -, -, -, bl⟩, ⟨a0, a1, a2, -, -, -, al⟩, -⟩ := K.out
    go_wp2_with (first
      | (go_at_call 25; (with_reducible refine (un_at (op := sSub) rfl HN.out _).mono ?_); rintro e y' ⟨rfl, hy⟩; have K' := Lib.hid (KL.push (KL.below K.out hy) (.int .i64 n.k) (.int .i64 n.n) (.string n.s) 27); clear hy K HB c0 c1 c2 cl b0 b1 b2 bl a0 a1 a2 al; have K := K'; clear K'; obtain ⟨HB, ⟨n0, n1, n2, -, -, -, nl⟩, ⟨c0, c1, c2, -, -, -, cl⟩, ⟨b0, b1, b2, -, -, -, bl⟩, ⟨a0, a1, a2, -, -, -, al⟩, -⟩ := K.out)
      | (go_at_call_of 27 (Value.string ⟨#[45]⟩); (with_reducible refine (bin_at HX.out _).mono ?_); rintro e y' ⟨rfl, hy⟩; have K' := Lib.hid (KL.push (KL.below K.out hy) (.int .i64 z.k) (.int .i64 z.n) (.string z.s) 27); clear hy K HB n0 n1 n2 nl c0 c1 c2 cl b0 b1 b2 bl a0 a1 a2 al; have K := K'; clear K'; obtain ⟨HB, ⟨x0, x1, x2, -, -, -, xl⟩, ⟨n0, n1, n2, -, -, -, nl⟩, ⟨c0, c1, c2, -, -, -, cl⟩, ⟨b0, b1, b2, -, -, -, bl⟩, ⟨a0, a1, a2, -, -, -, al⟩, -⟩ := K.out)
      | (go_at_call_of 27 (Value.string ⟨#[43]⟩); (with_reducible refine (bin_at HY.out _).mono ?_); rintro e y' ⟨rfl, hy⟩; have K' := Lib.hid (KL.push (KL.below K.out hy) (.int .i64 z.k) (.int .i64 z.n) (.string z.s) 27); clear hy K HB x0 x1 x2 xl n0 n1 n2 nl c0 c1 c2 cl b0 b1 b2 bl a0 a1 a2 al; have K := K'; clear K'; obtain ⟨HB, ⟨y0, y1, y2, -, -, -, yl⟩, ⟨x0, x1, x2, -, -, -, xl⟩, ⟨n0, n1, n2, -, -, -, nl⟩, ⟨c0, c1, c2, -, -, -, cl⟩, ⟨b0, b1, b2, -, -, -, bl⟩, ⟨a0, a1, a2, -, -, -, al⟩, -⟩ := K.out))
    clear HB y0 y1 y2 yl x0 x1 x2 xl n0 n1 n2 nl c0 c1 c2 cl b0 b1 b2 bl a0 a1 a2 al
    exact HK.out _ _ (nb6 _ _ _ _ _ _ _ _ _ _ _ _ _ _ _ _ _ _ _ _ _ _ _ _ _ _ _ _ _ _ _ _ _ _ _ _ _ _ _ _ _ _ _ _ _ _ _ _ _ _ _ _ _ _ _ _ _ _ _ _ _ _ _ _ _ _ _ _ _ _ _ _ _ _ _ _ _ _ _ _ _ _ _ _ _ _ _ _ _ _ _ _ _ _ _ _ _ _ _ _ _ _ _ _ _ _ _ _ _ _ _ _ _ _ _ _ _ _ _ _ _ _ _ _ _ _ _ _ _ _ _ _ _ _ _ _ _ _ _ _ _ _ _ _ _ _ _ _ _ _ _ _ _ _ _ _ _ _ _ _ _ _ _ _ _ _ _ _ _ _ _ _ _ _ _ _ _ _ _ _ _ _ _ _ _ _ _ _ _ _ _ _ _ _ _ HA.out HG.out HV.out.1 HV.out.2.1 HV.out.2.2 (KL.tl (KL.tl (KL.tl K.out))))
set_option maxRecDepth 100000 in
set_option maxHeartbeats 40000000 in
theorem nb4 (w x : World) (pa pb pc pq pm : Nat) (a b c q m : Va) (e f : Int) (u0 u1 u2 u11 u12 u13 u14 u15 u16 u17 u18 u19 u20 u21 u22 u23 u24 u25 u26 u27 u28 u29 u30 u31 u32 u33 u34 u35 u36 u37 u38 u39 u40 u41 u42 u43 u44 u45 u46 u47 u48 u49 u50 u51 u52 u53 u54 u55 u56 u57 u58 u59 u60 u61 u62 u63 u64 u65 u66 u67 u68 u69 u70 u71 u72 u73 u74 u75 u76 u77 u78 u79 u80 u81 u82 u83 u84 u85 u86 u87 u88 u89 u90 u91 u92 u93 u94 u95 u96 u97 u98 u99 u100 u101 u102 u103 u104 u105 u106 u107 u108 u109 u110 u111 u112 u113 u114 u115 u116 u117 u118 u119 u120 u121 u122 u123 u124 u125 u126 u127 u128 u129 u130 u131 u132 u133 u134 u135 u136 u137 u138 u139 u140 u141 u142 u143 u144 u145 u146 u147 u148 u149 u150 u151 u152 u153 u154 u155 u156 u157 u158 u159 u160 u161 u162 u163 u164 u165 u166 u167 u168 u169 u170 u171 u172 u173 u174 u175 u176 u177 u178 u179 u180 u181 u182 u183 u184 u185 u186 u187 u188 u189 u190 : Value) (hA : Awk) (hg : Gl w) (ha : a.ok = true) (hb : b.ok = true) (hc : c.ok = true) (hD : DivFit a b q m e f) (hK : KL w x [(pm, .int .i64 m.k, .int .i64 m.n, .string m.s), (pq, .int .i64 q.k, .int .i64 q.n, .string q.s), (pc, .int .i64 c.k, .int .i64 c.n, .string c.s), (pb, .int .i64 b.k, .int .i64 b.n, .string b.s), (pa, .int .i64 a.k, .int .i64 a.n, .string a.s)]) :
    Code.wp Tryz.prog (tailC 4 (Tryz.f10.body.getD .skip)) (Ends10 w) ⟨List.toArray (u0 :: u1 :: u2 :: .pointer (some ⟨pa, 0, none⟩) :: .pointer (some ⟨pb, 0, none⟩) :: .pointer (some ⟨pc, 0, none⟩) :: .bool false :: .pointer (some ⟨pq, 0, none⟩) :: .int .i64 e :: .pointer (some ⟨pm, 0, none⟩) :: .int .i64 f :: u11 :: u12 :: u13 :: u14 :: u15 :: u16 :: u17 :: u18 :: u19 :: u20 :: u21 :: u22 :: u23 :: u24 :: u25 :: u26 :: u27 :: u28 :: u29 :: u30 :: u31 :: u32 :: u33 :: u34 :: u35 :: u36 :: u37 :: u38 :: u39 :: u40 :: u41 :: u42 :: u43 :: u44 :: u45 :: u46 :: u47 :: u48 :: u49 :: u50 :: u51 :: u52 :: u53 :: u54 :: u55 :: u56 :: u57 :: u58 :: u59 :: u60 :: u61 :: u62 :: u63 :: u64 :: u65 :: u66 :: u67 :: u68 :: u69 :: u70 :: u71 :: u72 :: u73 :: u74 :: u75 :: u76 :: u77 :: u78 :: u79 :: u80 :: u81 :: u82 :: u83 :: u84 :: u85 :: u86 :: u87 :: u88 :: u89 :: u90 :: u91 :: u92 :: u93 :: u94 :: u95 :: u96 :: u97 :: u98 :: u99 :: u100 :: u101 :: u102 :: u103 :: u104 :: u105 :: u106 :: u107 :: u108 :: u109 :: u110 :: u111 :: u112 :: u113 :: u114 :: u115 :: u116 :: u117 :: u118 :: u119 :: u120 :: u121 :: u122 :: u123 :: u124 :: u125 :: u126 :: u127 :: u128 :: u129 :: u130 :: u131 :: u132 :: u133 :: u134 :: u135 :: u136 :: u137 :: u138 :: u139 :: u140 :: u141 :: u142 :: u143 :: u144 :: u145 :: u146 :: u147 :: u148 :: u149 :: u150 :: u151 :: u152 :: u153 :: u154 :: u155 :: u156 :: u157 :: u158 :: u159 :: u160 :: u161 :: u162 :: u163 :: u164 :: u165 :: u166 :: u167 :: u168 :: u169 :: u170 :: u171 :: u172 :: u173 :: u174 :: u175 :: u176 :: u177 :: u178 :: u179 :: u180 :: u181 :: u182 :: u183 :: u184 :: u185 :: u186 :: u187 :: u188 :: u189 :: u190 :: []), []⟩ x := by
  have K := Lib.hid hK
  clear hK
  conv => arg 2; whnf
  refine wp_seq_k (fun Kont hKont => ?_)
  have HK := Lib.hid hKont
  clear hKont
  have HA := Lib.hid hA
  have HG := Lib.hid hg
  have HV := Lib.hid (And.intro ha (And.intro hb hc))
  clear hA hg
  cases he : e == 0
  · clear ha hb hc hD
    go_wp2_with fail
    exact HK.out _ _ (nb5 _ _ _ _ _ _ _ _ _ _ _ _ _ _ _ _ _ _ _ _ _ _ _ _ _ _ _ _ _ _ _ _ _ _ _ _ _ _ _ _ _ _ _ _ _ _ _ _ _ _ _ _ _ _ _ _ _ _ _ _ _ _ _ _ _ _ _ _ _ _ _ _ _ _ _ _ _ _ _ _ _ _ _ _ _ _ _ _ _ _ _ _ _ _ _ _ _ _ _ _ _ _ _ _ _ _ _ _ _ _ _ _ _ _ _ _ _ _ _ _ _ _ _ _ _ _ _ _ _ _ _ _ _ _ _ _ _ _ _ _ _ _ _ _ _ _ _ _ _ _ _ _ _ _ _ _ _ _ _ _ _ _ _ _ _ _ _ _ _ _ _ _ _ _ _ _ _ _ _ _ _ _ _ _ _ _ _ _ _ _ _ _ _ _ _ HA.out HG.out HV.out.1 HV.out.2.1 HV.out.2.2 (KL.tl (KL.tl K.out)))
  cases hf : f == 0
  · clear ha hb hc hD
    go_wp2_with fail
    exact HK.out _ _ (nb5 _ _ _ _ _ _ _ _ _ _ _ _ _ _ _ _ _ _ _ _ _ _ _ _ _ _ _ _ _ _ _ _ _ _ _ _ _ _ _ _ _ _ _ _ _ _ _ _ _ _ _ _ _ _ _ _ _ _ _ _ _ _ _ _ _ _ _ _ _ _ _ _ _ _ _ _ _ _ _ _ _ _ _ _ _ _ _ _ _ _ _ _ _ _ _ _ _ _ _ _ _ _ _ _ _ _ _ _ _ _ _ _ _ _ _ _ _ _ _ _ _ _ _ _ _ _ _ _ _ _ _ _ _ _ _ _ _ _ _ _ _ _ _ _ _ _ _ _ _ _ _ _ _ _ _ _ _ _ _ _ _ _ _ _ _ _ _ _ _ _ _ _ _ _ _ _ _ _ _ _ _ _ _ _ _ _ _ _ _ _ _ _ _ _ _ HA.out HG.out HV.out.1 HV.out.2.1 HV.out.2.2 (KL.tl (KL.tl K.out)))
  obtain ⟨⟨p, g⟩, hp⟩ : ∃ z, binS sMul q b = z := ⟨_, rfl⟩
  obtain ⟨⟨s, h⟩, hs⟩ : ∃ z, binS sAdd p m = z := ⟨_, rfl⟩
  have HP := Lib.hid hp
  have HS := Lib.hid hs
  cases hg0 : g == 0
  · clear hp hs ha hb hc hD
    obtain ⟨HB, ⟨m0, m1, m2, -, -, -, ml⟩, ⟨q0, q1, q2, -, -, -, ql⟩, ⟨c0, c1, c2, -, -, -, cl⟩, ⟨b0, b1, b2, -, -, -, bl⟩, ⟨a0, a1, a2, -, -, -, al⟩, -⟩ := K.out
    go_wp2_with (first
      | (go_at_call_of 27 (Value.string ⟨#[42]⟩); (with_reducible refine (bin_at HP.out _).mono ?_); rintro e y' ⟨rfl, hy⟩; have K' := Lib.hid (KL.push (KL.below K.out hy) (.int .i64 p.k) (.int .i64 p.n) (.string p.s) 27); clear hy K HB m0 m1 m2 ml q0 q1 q2 ql c0 c1 c2 cl b0 b1 b2 bl a0 a1 a2 al; have K := K'; clear K'; obtain ⟨HB, ⟨p0, p1, p2, -, -, -, pl⟩, ⟨m0, m1, m2, -, -, -, ml⟩, ⟨q0, q1, q2, -, -, -, ql⟩, ⟨c0, c1, c2, -, -, -, cl⟩, ⟨b0, b1, b2, -, -, -, bl⟩, ⟨a0, a1, a2, -, -, -, al⟩, -⟩ := K.out)
      | (go_at_call_of 27 (Value.string ⟨#[43]⟩); (with_reducible refine (bin_at HS.out _).mono ?_); rintro e y' ⟨rfl, hy⟩; have K' := Lib.hid (KL.push (KL.below K.out hy) (.int .i64 s.k) (.int .i64 s.n) (.string s.s) 27); clear hy K HB p0 p1 p2 pl m0 m1 m2 ml q0 q1 q2 ql c0 c1 c2 cl b0 b1 b2 bl a0 a1 a2 al; have K := K'; clear K'; obtain ⟨HB, ⟨t0, t1, t2, -, -, -, tl⟩, ⟨p0, p1, p2, -, -, -, pl⟩, ⟨m0, m1, m2, -, -, -, ml⟩, ⟨q0, q1, q2, -, -, -, ql⟩, ⟨c0, c1, c2, -, -, -, cl⟩, ⟨b0, b1, b2, -, -, -, bl⟩, ⟨a0, a1, a2, -, -, -, al⟩, -⟩ := K.out))
    clear HB t0 t1 t2 tl p0 p1 p2 pl m0 m1 m2 ml q0 q1 q2 ql c0 c1 c2 cl b0 b1 b2 bl a0 a1 a2 al
    exact HK.out _ _ (nb5 _ _ _ _ _ _ _ _ _ _ _ _ _ _ _ _ _ _ _ _ _ _ _ _ _ _ _ _ _ _ _ _ _ _ _ _ _ _ _ _ _ _ _ _ _ _ _ _ _ _ _ _ _ _ _ _ _ _ _ _ _ _ _ _ _ _ _ _ _ _ _ _ _ _ _ _ _ _ _ _ _ _ _ _ _ _ _ _ _ _ _ _ _ _ _ _ _ _ _ _ _ _ _ _ _ _ _ _ _ _ _ _ _ _ _ _ _ _ _ _ _ _ _ _ _ _ _ _ _ _ _ _ _ _ _ _ _ _ _ _ _ _ _ _ _ _ _ _ _ _ _ _ _ _ _ _ _ _ _ _ _ _ _ _ _ _ _ _ _ _ _ _ _ _ _ _ _ _ _ _ _ _ _ _ _ _ _ _ _ _ _ _ _ _ _ HA.out HG.out HV.out.1 HV.out.2.1 HV.out.2.2 (KL.tl (KL.tl (KL.tl (KL.tl K.out)))))
  cases hh : h == 0
  · clear hp hs ha hb hc hD
    obtain ⟨HB, ⟨m0, m1, m2, -, -, -, ml⟩, ⟨q0, q1, q2, -, -, -, ql⟩, ⟨c0, c1, c2, -, -, -, cl⟩, ⟨b0, b1, b2, -, -, -, bl⟩, ⟨a0, a1, a2, -, -, -, al⟩, -⟩ := K.out
    go_wp2_with (first
      | (go_at_call_of 27 (Value.string ⟨#[42]⟩); (with_reducible refine (bin_at HP.out _).mono ?_); rintro e y' ⟨rfl, hy⟩; have K' := Lib.hid (KL.push (KL.below K.out hy) (.int .i64 p.k) (.int .i64 p.n) (.string p.s) 27); clear hy K HB m0 m1 m2 ml q0 q1 q2 ql c0 c1 c2 cl b0 b1 b2 bl a0 a1 a2 al; have K := K'; clear K'; obtain ⟨HB, ⟨p0, p1, p2, -, -, -, pl⟩, ⟨m0, m1, m2, -, -, -, ml⟩, ⟨q0, q1, q2, -, -, -, ql⟩, ⟨c0, c1, c2, -, -, -, cl⟩, ⟨b0, b1, b2, -, -, -, bl⟩, ⟨a0, a1, a2, -, -, -, al⟩, -⟩ := K.out)
      | (go_at_call_of 27 (Value.string ⟨#[43]⟩); (with_reducible refine (bin_at HS.out _).mono ?_); rintro e y' ⟨rfl, hy⟩; have K' := Lib.hid (KL.push (KL.below K.out hy) (.int .i64 s.k) (.int .i64 s.n) (.string s.s) 27); clear hy K HB p0 p1 p2 pl m0 m1 m2 ml q0 q1 q2 ql c0 c1 c2 cl b0 b1 b2 bl a0 a1 a2 al; have K := K'; clear K'; obtain ⟨HB, ⟨t0, t1, t2, -, -, -, tl⟩, ⟨p0, p1, p2, -, -, -, pl⟩, ⟨m0, m1, m2, -, -, -, ml⟩, ⟨q0, q1, q2, -, -, -, ql⟩, ⟨c0, c1, c2, -, -, -, cl⟩, ⟨b0, b1, b2, -, -, -, bl⟩, ⟨a0, a1, a2, -, -, -, al⟩, -⟩ := K.out))
    clear HB t0 t1 t2 tl p0 p1 p2 pl m0 m1 m2 ml q0 q1 q2 ql c0 c1 c2 cl b0 b1 b2 bl a0 a1 a2 al
    exact HK.out _ _ (nb5 _ _ _ _ _ _ _ _ _ _ _ _ _ _ _ _ _ _ _ _ _ _ _ _ _ _ _ _ _ _ _ _ _ _ _ _ _ _ _ _ _ _ _ _ _ _ _ _ _ _ _ _ _ _ _ _ _ _ _ _ _ _ _ _ _ _ _ _ _ _ _ _ _ _ _ _ _ _ _ _ _ _ _ _ _ _ _ _ _ _ _ _ _ _ _ _ _ _ _ _ _ _ _ _ _ _ _ _ _ _ _ _ _ _ _ _ _ _ _ _ _ _ _ _ _ _ _ _ _ _ _ _ _ _ _ _ _ _ _ _ _ _ _ _ _ _ _ _ _ _ _ _ _ _ _ _ _ _ _ _ _ _ _ _ _ _ _ _ _ _ _ _ _ _ _ _ _ _ _ _ _ _ _ _ _ _ _ _ _ _ _ _ _ _ _ HA.out HG.out HV.out.1 HV.out.2.1 HV.out.2.2 (KL.tl (KL.tl (KL.tl (KL.tl K.out)))))
  cases hk : q.k != 0
  · clear hp hs ha hb hc hD
    obtain ⟨HB, ⟨m0, m1, m2, -, -, -, ml⟩, ⟨q0, q1, q2, -, -, -, ql⟩, ⟨c0, c1, c2, -, -, -, cl⟩, ⟨b0, b1, b2, -, -, -, bl⟩, ⟨a0, a1, a2, -, -, -, al⟩, -⟩ := K.out
    go_wp2_with (first
      | (go_at_call_of 27 (Value.string ⟨#[42]⟩); (with_reducible refine (bin_at HP.out _).mono ?_); rintro e y' ⟨rfl, hy⟩; have K' := Lib.hid (KL.push (KL.below K.out hy) (.int .i64 p.k) (.int .i64 p.n) (.string p.s) 27); clear hy K HB m0 m1 m2 ml q0 q1 q2 ql c0 c1 c2 cl b0 b1 b2 bl a0 a1 a2 al; have K := K'; clear K'; obtain ⟨HB, ⟨p0, p1, p2, -, -, -, pl⟩, ⟨m0, m1, m2, -, -, -, ml⟩, ⟨q0, q1, q2, -, -, -, ql⟩, ⟨c0, c1, c2, -, -, -, cl⟩, ⟨b0, b1, b2, -, -, -, bl⟩, ⟨a0, a1, a2, -, -, -, al⟩, -⟩ := K.out)
      | (go_at_call_of 27 (Value.string ⟨#[43]⟩); (with_reducible refine (bin_at HS.out _).mono ?_); rintro e y' ⟨rfl, hy⟩; have K' := Lib.hid (KL.push (KL.below K.out hy) (.int .i64 s.k) (.int .i64 s.n) (.string s.s) 27); clear hy K HB p0 p1 p2 pl m0 m1 m2 ml q0 q1 q2 ql c0 c1 c2 cl b0 b1 b2 bl a0 a1 a2 al; have K := K'; clear K'; obtain ⟨HB, ⟨t0, t1, t2, -, -, -, tl⟩, ⟨p0, p1, p2, -, -, -, pl⟩, ⟨m0, m1, m2, -, -, -, ml⟩, ⟨q0, q1, q2, -, -, -, ql⟩, ⟨c0, c1, c2, -, -, -, cl⟩, ⟨b0, b1, b2, -, -, -, bl⟩, ⟨a0, a1, a2, -, -, -, al⟩, -⟩ := K.out))
    clear HB t0 t1 t2 tl p0 p1 p2 pl m0 m1 m2 ml q0 q1 q2 ql c0 c1 c2 cl b0 b1 b2 bl a0 a1 a2 al
    exact HK.out _ _ (nb5 _ _ _ _ _ _ _ _ _ _ _ _ _ _ _ _ _ _ _ _ _ _ _ _ _ _ _ _ _ _ _ _ _ _ _ _ _ _ _ _ _ _ _ _ _ _ _ _ _ _ _ _ _ _ _ _ _ _ _ _ _ _ _ _ _ _ _ _ _ _ _ _ _ _ _ _ _ _ _ _ _ _ _ _ _ _ _ _ _ _ _ _ _ _ _ _ _ _ _ _ _ _ _ _ _ _ _ _ _ _ _ _ _ _ _ _ _ _ _ _ _ _ _ _ _ _ _ _ _ _ _ _ _ _ _ _ _ _ _ _ _ _ _ _ _ _ _ _ _ _ _ _ _ _ _ _ _ _ _ _ _ _ _ _ _ _ _ _ _ _ _ _ _ _ _ _ _ _ _ _ _ _ _ _ _ _ _ _ _ _ _ _ _ _ _ HA.out HG.out HV.out.1 HV.out.2.1 HV.out.2.2 (KL.tl (KL.tl (KL.tl (KL.tl K.out)))))
  have hE := hD he hf _ _ hp hs hg0 hh hk
  clear hp hs ha hb hc hD
  obtain ⟨HB, ⟨m0, m1, m2, -, -, -, ml⟩, ⟨q0, q1, q2, -, -, -, ql⟩, ⟨c0, c1, c2, -, -, -, cl⟩, ⟨b0, b1, b2, -, -, -, bl⟩, ⟨a0, a1, a2, -, -, -, al⟩, -⟩ := K.out
  go_wp2_with (first
    | (go_at_call_of 27 (Value.string ⟨#[42]⟩); (with_reducible refine (bin_at HP.out _).mono ?_); rintro e y' ⟨rfl, hy⟩; have K' := Lib.hid (KL.push (KL.below K.out hy) (.int .i64 p.k) (.int .i64 p.n) (.string p.s) 27); clear hy K HB m0 m1 m2 ml q0 q1 q2 ql c0 c1 c2 cl b0 b1 b2 bl a0 a1 a2 al; have K := K'; clear K'; obtain ⟨HB, ⟨p0, p1, p2, -, -, -, pl⟩, ⟨m0, m1, m2, -, -, -, ml⟩, ⟨q0, q1, q2, -, -, -, ql⟩, ⟨c0, c1, c2, -, -, -, cl⟩, ⟨b0, b1, b2, -, -, -, bl⟩, ⟨a0, a1, a2, -, -, -, al⟩, -⟩ := K.out)
    | (go_at_call_of 27 (Value.string ⟨#[43]⟩); (with_reducible refine (bin_at HS.out _).mono ?_); rintro e y' ⟨rfl, hy⟩; have K' := Lib.hid (KL.push (KL.below K.out hy) (.int .i64 s.k) (.int .i64 s.n) (.string s.s) 27); clear hy K HB p0 p1 p2 pl m0 m1 m2 ml q0 q1 q2 ql c0 c1 c2 cl b0 b1 b2 bl a0 a1 a2 al; have K := K'; clear K'; obtain ⟨HB, ⟨t0, t1, t2, -, -, -, tl⟩, ⟨p0, p1, p2, -, -, -, pl⟩, ⟨m0, m1, m2, -, -, -, ml⟩, ⟨q0, q1, q2, -, -, -, ql⟩, ⟨c0, c1, c2, -, -, -, cl⟩, ⟨b0, b1, b2, -, -, -, bl⟩, ⟨a0, a1, a2, -, -, -, al⟩, -⟩ := K.out))
  clear HB t0 t1 t2 tl p0 p1 p2 pl m0 m1 m2 ml q0 q1 q2 ql c0 c1 c2 cl b0 b1 b2 bl a0 a1 a2 al
  exact HK.out _ _ (nb5 _ _ _ _ _ _ _ _ _ _ _ _ _ _ _ _ _ _ _ _ _ _ _ _ _ _ _ _ _ _ _ _ _ _ _ _ _ _ _ _ _ _ _ _ _ _ _ _ _ _ _ _ _ _ _ _ _ _ _ _ _ _ _ _ _ _ _ _ _ _ _ _ _ _ _ _ _ _ _ _ _ _ _ _ _ _ _ _ _ _ _ _ _ _ _ _ _ _ _ _ _ _ _ _ _ _ _ _ _ _ _ _ _ _ _ _ _ _ _ _ _ _ _ _ _ _ _ _ _ _ _ _ _ _ _ _ _ _ _ _ _ _ _ _ _ _ _ _ _ _ _ _ _ _ _ _ _ _ _ _ _ _ _ _ _ _ _ _ _ _ _ _ _ _ _ _ _ _ _ _ _ _ _ _ _ _ _ _ _ _ _ _ _ _ _ HA.out HG.out HV.out.1 HV.out.2.1 HV.out.2.2 (KL.tl (KL.tl (KL.tl (KL.tl K.out)))))
end Go.Proofs.YtplepijiceanlaaGreatDoor
