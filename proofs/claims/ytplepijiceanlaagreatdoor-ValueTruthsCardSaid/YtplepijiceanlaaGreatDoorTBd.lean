/-
  The law of truths: its walk, statement by statement.
-/
import Derived.Test.YtplepijiceanlaaGreatDoorTBe
namespace Go.Proofs.YtplepijiceanlaaGreatDoor
open Go.RowKit
set_option maxRecDepth 100000 in
set_option maxHeartbeats 40000000 in
theorem vt4 (w x : World) (pa pb : Nat) (a b : Va) (u0 u1 u4 u5 u6 u7 u8 u9 u10 u11 u12 u13 u14 u15 u16 u17 u18 u19 u20 u21 u22 u23 u24 u25 u26 u27 u28 u29 u30 u31 u32 u33 u34 u35 u36 u37 u38 u39 u40 u41 u42 u43 u44 u45 u46 u47 u48 u49 u50 u51 u52 u53 u54 u55 u56 u57 u58 u59 u60 u61 u62 u63 u64 u65 u66 u67 u68 u69 u70 u71 u72 u73 u74 u75 u76 u77 u78 u79 u80 u81 u82 u83 u84 u85 u86 u87 u88 u89 u90 u91 u92 u93 u94 u95 u96 u97 u98 u99 u100 u101 u102 u103 u104 u105 u106 u107 u108 u109 u110 u111 u112 u113 u114 u115 u116 u117 u118 u119 u120 u121 u122 u123 u124 u125 u126 u127 u128 u129 u130 u131 u132 u133 u134 u135 u136 u137 u138 u139 u140 u141 u142 u143 u144 u145 u146 u147 u148 u149 u150 u151 u152 u153 u154 u155 u156 u157 u158 u159 u160 u161 u162 u163 u164 u165 u166 u167 u168 u169 u170 u171 u172 u173 u174 u175 u176 u177 u178 u179 u180 u181 u182 : Value) (hA : Awk) (hg : Gl w) (ha : a.ok = true) (hb : b.ok = true) (hK : KL w x [(pb, .int .i64 b.k, .int .i64 b.n, .string b.s), (pa, .int .i64 a.k, .int .i64 a.n, .string a.s)]) :
    Code.wp Tryz.prog (tailC 4 (Tryz.f9.body.getD .skip)) (Ends9 w) ⟨List.toArray (u0 :: u1 :: .pointer (some ⟨pa, 0, none⟩) :: .pointer (some ⟨pb, 0, none⟩) :: u4 :: u5 :: u6 :: u7 :: u8 :: u9 :: u10 :: u11 :: u12 :: u13 :: u14 :: u15 :: u16 :: u17 :: u18 :: u19 :: u20 :: u21 :: u22 :: u23 :: u24 :: u25 :: u26 :: u27 :: u28 :: u29 :: u30 :: u31 :: u32 :: u33 :: u34 :: u35 :: u36 :: u37 :: u38 :: u39 :: u40 :: u41 :: u42 :: u43 :: u44 :: u45 :: u46 :: u47 :: u48 :: u49 :: u50 :: u51 :: u52 :: u53 :: u54 :: u55 :: u56 :: u57 :: u58 :: u59 :: u60 :: u61 :: u62 :: u63 :: u64 :: u65 :: u66 :: u67 :: u68 :: u69 :: u70 :: u71 :: u72 :: u73 :: u74 :: u75 :: u76 :: u77 :: u78 :: u79 :: u80 :: u81 :: u82 :: u83 :: u84 :: u85 :: u86 :: u87 :: u88 :: u89 :: u90 :: u91 :: u92 :: u93 :: u94 :: u95 :: u96 :: u97 :: u98 :: u99 :: u100 :: u101 :: u102 :: u103 :: u104 :: u105 :: u106 :: u107 :: u108 :: u109 :: u110 :: u111 :: u112 :: u113 :: u114 :: u115 :: u116 :: u117 :: u118 :: u119 :: u120 :: u121 :: u122 :: u123 :: u124 :: u125 :: u126 :: u127 :: u128 :: u129 :: u130 :: u131 :: u132 :: u133 :: u134 :: u135 :: u136 :: u137 :: u138 :: u139 :: u140 :: u141 :: u142 :: u143 :: u144 :: u145 :: u146 :: u147 :: u148 :: u149 :: u150 :: u151 :: u152 :: u153 :: u154 :: u155 :: u156 :: u157 :: u158 :: u159 :: u160 :: u161 :: u162 :: u163 :: u164 :: u165 :: u166 :: u167 :: u168 :: u169 :: u170 :: u171 :: u172 :: u173 :: u174 :: u175 :: u176 :: u177 :: u178 :: u179 :: u180 :: u181 :: u182 :: []), []⟩ x := by
  have K := Lib.hid hK
  clear hK
  conv => arg 2; whnf
  refine wp_seq_k (fun Kont hKont => ?_)
  have HK := Lib.hid hKont
  clear hKont
  have HA := Lib.hid hA
  have HG := Lib.hid hg
  have HV := Lib.hid (And.intro ha hb)
  clear hA hg ha hb
  go_wp2_with fail
  exact HK.out _ _ (vt5 _ _ _ _ _ _ _ _ _ _ _ _ _ _ _ _ _ _ _ _ _ _ _ _ _ _ _ _ _ _ _ _ _ _ _ _ _ _ _ _ _ _ _ _ _ _ _ _ _ _ _ _ _ _ _ _ _ _ _ _ _ _ _ _ _ _ _ _ _ _ _ _ _ _ _ _ _ _ _ _ _ _ _ _ _ _ _ _ _ _ _ _ _ _ _ _ _ _ _ _ _ _ _ _ _ _ _ _ _ _ _ _ _ _ _ _ _ _ _ _ _ _ _ _ _ _ _ _ _ _ _ _ _ _ _ _ _ _ _ _ _ _ _ _ _ _ _ _ _ _ _ _ _ _ _ _ _ _ _ _ _ _ _ _ _ _ _ _ _ _ _ _ _ _ _ _ _ _ _ _ _ _ _ _ _ HA.out HG.out HV.out.1 HV.out.2 K.out)
set_option maxRecDepth 100000 in
set_option maxHeartbeats 40000000 in
theorem vt3 (w x : World) (pa pb : Nat) (a b : Va) (u0 u1 u4 u5 u6 u7 u8 u9 u10 u11 u12 u13 u14 u15 u16 u17 u18 u19 u20 u21 u22 u23 u24 u25 u26 u27 u28 u29 u30 u31 u32 u33 u34 u35 u36 u37 u38 u39 u40 u41 u42 u43 u44 u45 u46 u47 u48 u49 u50 u51 u52 u53 u54 u55 u56 u57 u58 u59 u60 u61 u62 u63 u64 u65 u66 u67 u68 u69 u70 u71 u72 u73 u74 u75 u76 u77 u78 u79 u80 u81 u82 u83 u84 u85 u86 u87 u88 u89 u90 u91 u92 u93 u94 u95 u96 u97 u98 u99 u100 u101 u102 u103 u104 u105 u106 u107 u108 u109 u110 u111 u112 u113 u114 u115 u116 u117 u118 u119 u120 u121 u122 u123 u124 u125 u126 u127 u128 u129 u130 u131 u132 u133 u134 u135 u136 u137 u138 u139 u140 u141 u142 u143 u144 u145 u146 u147 u148 u149 u150 u151 u152 u153 u154 u155 u156 u157 u158 u159 u160 u161 u162 u163 u164 u165 u166 u167 u168 u169 u170 u171 u172 u173 u174 u175 u176 u177 u178 u179 u180 u181 u182 : Value) (hA : Awk) (hg : Gl w) (ha : a.ok = true) (hb : b.ok = true) (hK : KL w x [(pb, .int .i64 b.k, .int .i64 b.n, .string b.s), (pa, .int .i64 a.k, .int .i64 a.n, .string a.s)]) :
    Code.wp Tryz.prog (tailC 3 (Tryz.f9.body.getD .skip)) (Ends9 w) ⟨List.toArray (u0 :: u1 :: .pointer (some ⟨pa, 0, none⟩) :: .pointer (some ⟨pb, 0, none⟩) :: u4 :: u5 :: u6 :: u7 :: u8 :: u9 :: u10 :: u11 :: u12 :: u13 :: u14 :: u15 :: u16 :: u17 :: u18 :: u19 :: u20 :: u21 :: u22 :: u23 :: u24 :: u25 :: u26 :: u27 :: u28 :: u29 :: u30 :: u31 :: u32 :: u33 :: u34 :: u35 :: u36 :: u37 :: u38 :: u39 :: u40 :: u41 :: u42 :: u43 :: u44 :: u45 :: u46 :: u47 :: u48 :: u49 :: u50 :: u51 :: u52 :: u53 :: u54 :: u55 :: u56 :: u57 :: u58 :: u59 :: u60 :: u61 :: u62 :: u63 :: u64 :: u65 :: u66 :: u67 :: u68 :: u69 :: u70 :: u71 :: u72 :: u73 :: u74 :: u75 :: u76 :: u77 :: u78 :: u79 :: u80 :: u81 :: u82 :: u83 :: u84 :: u85 :: u86 :: u87 :: u88 :: u89 :: u90 :: u91 :: u92 :: u93 :: u94 :: u95 :: u96 :: u97 :: u98 :: u99 :: u100 :: u101 :: u102 :: u103 :: u104 :: u105 :: u106 :: u107 :: u108 :: u109 :: u110 :: u111 :: u112 :: u113 :: u114 :: u115 :: u116 :: u117 :: u118 :: u119 :: u120 :: u121 :: u122 :: u123 :: u124 :: u125 :: u126 :: u127 :: u128 :: u129 :: u130 :: u131 :: u132 :: u133 :: u134 :: u135 :: u136 :: u137 :: u138 :: u139 :: u140 :: u141 :: u142 :: u143 :: u144 :: u145 :: u146 :: u147 :: u148 :: u149 :: u150 :: u151 :: u152 :: u153 :: u154 :: u155 :: u156 :: u157 :: u158 :: u159 :: u160 :: u161 :: u162 :: u163 :: u164 :: u165 :: u166 :: u167 :: u168 :: u169 :: u170 :: u171 :: u172 :: u173 :: u174 :: u175 :: u176 :: u177 :: u178 :: u179 :: u180 :: u181 :: u182 :: []), []⟩ x := by
  have K := Lib.hid hK
  clear hK
  conv => arg 2; whnf
  refine wp_seq_k (fun Kont hKont => ?_)
  have HK := Lib.hid hKont
  clear hKont
  have HA := Lib.hid hA
  have HG := Lib.hid hg
  have HV := Lib.hid (And.intro ha hb)
  clear hA hg ha hb
  go_wp2_with fail
  go_loopw [80] (fun i z => ∃ k : Nat, k ≤ 2 ∧ i = .int .i64 k ∧ KO w z [(x.heap.size, mgOps)] [(pb, .int .i64 b.k, .int .i64 b.n, .string b.s), (pa, .int .i64 a.k, .int .i64 a.n, .string a.s)]) (fun i z => 2 - (intOf i).toNat)
  case atStart => exact ⟨0, by omega, rfl, KL.alloc K.out _, KO_new1 x mgOps _⟩
  case round =>
    obtain ⟨k, hk, rfl, hK⟩ := hrel
    clear K
    have K := Lib.hid hK
    clear hK
    by_cases hlt : k < 2
    · obtain ⟨hg0, hc⟩ := K.out.O _ (List.mem_singleton.2 rfl)
      have hc0 := hc (k * 2) (by simp only [mgOps, List.length_cons, List.length_nil]; omega)
      have hc1 := hc (k * 2 + 1) (by simp only [mgOps, List.length_cons, List.length_nil]; omega)
      clear hc
      simp only at hc0 hc1 hg0
      have hm := mg_pair k hlt
      obtain ⟨op, hop⟩ : ∃ op, mgOps.getD (k * 2) ByteArray.empty = op := ⟨_, rfl⟩
      obtain ⟨dual, hdual⟩ : ∃ op, mgOps.getD (k * 2 + 1) ByteArray.empty = op := ⟨_, rfl⟩
      rw [hop, hdual] at hm
      rw [hop] at hc0
      rw [hdual] at hc1
      clear hop hdual
      rcases morgan_of op dual hm a b HV.out.1 HV.out.2 with hM | ⟨xv, na, nb, y, m1, m2, m3, m4, m5, m6⟩
      · obtain ⟨⟨xv, e⟩, hb1⟩ : ∃ z, binS op a b = z := ⟨_, rfl⟩
        rw [hb1] at hM
        have he : (e != 0) = true := by simpa using hM
        have HB1 := Lib.hid hb1
        clear hM hb1 hm
        obtain ⟨HB, ⟨b0, b1, b2, -, -, -, bl⟩, ⟨a0, a1, a2, -, -, -, al⟩, -⟩ := K.out.L
        go_wp2_with (first
          | (go_at_call 27; (with_reducible refine (bin_at HB1.out _).mono ?_); rintro e y' ⟨rfl, hy⟩; have K' := Lib.hid (KO.push (KO.below (KO.alloc K.out _) hy) (.int .i64 xv.k) (.int .i64 xv.n) (.string xv.s) 27); clear hy K HB b0 b1 b2 bl a0 a1 a2 al; have K := K'; clear K'; obtain ⟨HB, ⟨x0, x1, x2, -, -, -, xl⟩, ⟨b0, b1, b2, -, -, -, bl⟩, ⟨a0, a1, a2, -, -, -, al⟩, -⟩ := K.out.L))
        clear HB x0 x1 x2 xl b0 b1 b2 bl a0 a1 a2 al
        go_roundw
        case rel => exact ⟨k + 1, by omega, by go_num, KO.tl K.out⟩
        case measure => simp [intOf]; omega
      · have M1 := Lib.hid m1
        have M2 := Lib.hid m2
        have M3 := Lib.hid m3
        have M4 := Lib.hid m4
        have M5 := Lib.hid m5
        have M6 := Lib.hid m6
        have hE1 := eqV_self y
        have hE2 := eqV_self a
        clear m1 m2 m3 m4 m5 m6 hm
        obtain ⟨HB, ⟨b0, b1, b2, -, -, -, bl⟩, ⟨a0, a1, a2, -, -, -, al⟩, -⟩ := K.out.L
        go_wp2_with (first
          | (go_at_call 27; (with_reducible refine (bin_at M1.out _).mono ?_); rintro e y' ⟨rfl, hy⟩; have K' := Lib.hid (KO.push (KO.below (KO.alloc2 K.out op dual _) hy) (.int .i64 xv.k) (.int .i64 xv.n) (.string xv.s) 27); clear hy K HB b0 b1 b2 bl a0 a1 a2 al; have K := K'; clear K'; obtain ⟨HB, ⟨x0, x1, x2, -, -, -, xl⟩, ⟨b0, b1, b2, -, -, -, bl⟩, ⟨a0, a1, a2, -, -, -, al⟩, -⟩ := K.out.L)
          | (go_at_call 25; (with_reducible refine (un_at (op := sNot) rfl M2.out _).mono ?_); rintro e y' ⟨rfl, hy⟩; have K' := Lib.hid (KO.push (KO.below K.out hy) (.int .i64 y.k) (.int .i64 y.n) (.string y.s) 27); clear hy K HB x0 x1 x2 xl b0 b1 b2 bl a0 a1 a2 al; have K := K'; clear K'; obtain ⟨HB, ⟨y0, y1, y2, -, -, -, yl⟩, ⟨x0, x1, x2, -, -, -, xl⟩, ⟨b0, b1, b2, -, -, -, bl⟩, ⟨a0, a1, a2, -, -, -, al⟩, -⟩ := K.out.L)
          | (go_at_call 25; (with_reducible refine (un_at (op := sNot) rfl M3.out _).mono ?_); rintro e y' ⟨rfl, hy⟩; have K' := Lib.hid (KO.push (KO.below K.out hy) (.int .i64 na.k) (.int .i64 na.n) (.string na.s) 27); clear hy K HB y0 y1 y2 yl x0 x1 x2 xl b0 b1 b2 bl a0 a1 a2 al; have K := K'; clear K'; obtain ⟨HB, ⟨na0, na1, na2, -, -, -, nal⟩, ⟨y0, y1, y2, -, -, -, yl⟩, ⟨x0, x1, x2, -, -, -, xl⟩, ⟨b0, b1, b2, -, -, -, bl⟩, ⟨a0, a1, a2, -, -, -, al⟩, -⟩ := K.out.L)
          | (go_at_call 25; (with_reducible refine (un_at (op := sNot) rfl M4.out _).mono ?_); rintro e y' ⟨rfl, hy⟩; have K' := Lib.hid (KO.push (KO.below K.out hy) (.int .i64 nb.k) (.int .i64 nb.n) (.string nb.s) 27); clear hy K HB na0 na1 na2 nal y0 y1 y2 yl x0 x1 x2 xl b0 b1 b2 bl a0 a1 a2 al; have K := K'; clear K'; obtain ⟨HB, ⟨nb0, nb1, nb2, -, -, -, nbl⟩, ⟨na0, na1, na2, -, -, -, nal⟩, ⟨y0, y1, y2, -, -, -, yl⟩, ⟨x0, x1, x2, -, -, -, xl⟩, ⟨b0, b1, b2, -, -, -, bl⟩, ⟨a0, a1, a2, -, -, -, al⟩, -⟩ := K.out.L; obtain ⟨dg, dc⟩ := K.out.O _ (List.mem_cons_self ..); have dc1 := dc 1 (by simp only [List.length_cons, List.length_nil]; omega); simp only [List.getD_cons_succ, List.getD_cons_zero] at dc1 dg; clear dc)
          | (go_at_call 27; (with_reducible refine (bin_at M5.out _).mono ?_); rintro e y' ⟨rfl, hy⟩; have K' := Lib.hid (KO.push (KO.below K.out hy) (.int .i64 y.k) (.int .i64 y.n) (.string y.s) 27); clear hy K HB nb0 nb1 nb2 nbl na0 na1 na2 nal y0 y1 y2 yl x0 x1 x2 xl b0 b1 b2 bl a0 a1 a2 al; have K := K'; clear K'; obtain ⟨HB, ⟨z0, z1, z2, -, -, -, zl⟩, ⟨nb0, nb1, nb2, -, -, -, nbl⟩, ⟨na0, na1, na2, -, -, -, nal⟩, ⟨y0, y1, y2, -, -, -, yl⟩, ⟨x0, x1, x2, -, -, -, xl⟩, ⟨b0, b1, b2, -, -, -, bl⟩, ⟨a0, a1, a2, -, -, -, al⟩, -⟩ := K.out.L)
          | (go_at_call 25; (with_reducible refine (un_at (op := sNot) rfl M6.out _).mono ?_); rintro e y' ⟨rfl, hy⟩; have K' := Lib.hid (KO.push (KO.below K.out hy) (.int .i64 a.k) (.int .i64 a.n) (.string a.s) 27); clear hy K HB z0 z1 z2 zl nb0 nb1 nb2 nbl na0 na1 na2 nal y0 y1 y2 yl x0 x1 x2 xl b0 b1 b2 bl a0 a1 a2 al; have K := K'; clear K'; obtain ⟨HB, ⟨t0, t1, t2, -, -, -, tl⟩, ⟨z0, z1, z2, -, -, -, zl⟩, ⟨nb0, nb1, nb2, -, -, -, nbl⟩, ⟨na0, na1, na2, -, -, -, nal⟩, ⟨y0, y1, y2, -, -, -, yl⟩, ⟨x0, x1, x2, -, -, -, xl⟩, ⟨b0, b1, b2, -, -, -, bl⟩, ⟨a0, a1, a2, -, -, -, al⟩, -⟩ := K.out.L))
        clear HB t0 t1 t2 tl z0 z1 z2 zl nb0 nb1 nb2 nbl na0 na1 na2 nal y0 y1 y2 yl x0 x1 x2 xl b0 b1 b2 bl a0 a1 a2 al
        go_roundw
        case rel => exact ⟨k + 1, by omega, by go_num, KO.less (KO.tl (KO.tl (KO.tl (KO.tl (KO.tl (KO.tl K.out))))))⟩
        case measure => simp [intOf]; omega
    · go_wp2_with fail
      exact HK.out _ _ (vt4 _ _ _ _ _ _ _ _ _ _ _ _ _ _ _ _ _ _ _ _ _ _ _ _ _ _ _ _ _ _ _ _ _ _ _ _ _ _ _ _ _ _ _ _ _ _ _ _ _ _ _ _ _ _ _ _ _ _ _ _ _ _ _ _ _ _ _ _ _ _ _ _ _ _ _ _ _ _ _ _ _ _ _ _ _ _ _ _ _ _ _ _ _ _ _ _ _ _ _ _ _ _ _ _ _ _ _ _ _ _ _ _ _ _ _ _ _ _ _ _ _ _ _ _ _ _ _ _ _ _ _ _ _ _ _ _ _ _ _ _ _ _ _ _ _ _ _ _ _ _ _ _ _ _ _ _ _ _ _ _ _ _ _ _ _ _ _ _ _ _ _ _ _ _ _ _ _ _ _ _ _ _ _ _ _ _ _ HA.out HG.out HV.out.1 HV.out.2 K.out.L)
end Go.Proofs.YtplepijiceanlaaGreatDoor
