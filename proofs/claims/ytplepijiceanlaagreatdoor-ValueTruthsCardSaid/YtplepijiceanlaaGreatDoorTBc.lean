/-
  The law of truths: its walk, statement by statement.
-/
import Derived.Test.YtplepijiceanlaaGreatDoorTBd
namespace Go.Proofs.YtplepijiceanlaaGreatDoor
open Go.RowKit
set_option maxRecDepth 100000 in
set_option maxHeartbeats 40000000 in
theorem vt2 (w x : World) (pa pb : Nat) (a b : Va) (u0 u1 u4 u5 u6 u7 u8 u9 u10 u11 u12 u13 u14 u15 u16 u17 u18 u19 u20 u21 u22 u23 u24 u25 u26 u27 u28 u29 u30 u31 u32 u33 u34 u35 u36 u37 u38 u39 u40 u41 u42 u43 u44 u45 u46 u47 u48 u49 u50 u51 u52 u53 u54 u55 u56 u57 u58 u59 u60 u61 u62 u63 u64 u65 u66 u67 u68 u69 u70 u71 u72 u73 u74 u75 u76 u77 u78 u79 u80 u81 u82 u83 u84 u85 u86 u87 u88 u89 u90 u91 u92 u93 u94 u95 u96 u97 u98 u99 u100 u101 u102 u103 u104 u105 u106 u107 u108 u109 u110 u111 u112 u113 u114 u115 u116 u117 u118 u119 u120 u121 u122 u123 u124 u125 u126 u127 u128 u129 u130 u131 u132 u133 u134 u135 u136 u137 u138 u139 u140 u141 u142 u143 u144 u145 u146 u147 u148 u149 u150 u151 u152 u153 u154 u155 u156 u157 u158 u159 u160 u161 u162 u163 u164 u165 u166 u167 u168 u169 u170 u171 u172 u173 u174 u175 u176 u177 u178 u179 u180 u181 u182 : Value) (hA : Awk) (hg : Gl w) (ha : a.ok = true) (hb : b.ok = true) (hK : KL w x [(pb, .int .i64 b.k, .int .i64 b.n, .string b.s), (pa, .int .i64 a.k, .int .i64 a.n, .string a.s)]) :
    Code.wp Tryz.prog (tailC 2 (Tryz.f9.body.getD .skip)) (Ends9 w) ⟨List.toArray (u0 :: u1 :: .pointer (some ⟨pa, 0, none⟩) :: .pointer (some ⟨pb, 0, none⟩) :: u4 :: u5 :: u6 :: u7 :: u8 :: u9 :: u10 :: u11 :: u12 :: u13 :: u14 :: u15 :: u16 :: u17 :: u18 :: u19 :: u20 :: u21 :: u22 :: u23 :: u24 :: u25 :: u26 :: u27 :: u28 :: u29 :: u30 :: u31 :: u32 :: u33 :: u34 :: u35 :: u36 :: u37 :: u38 :: u39 :: u40 :: u41 :: u42 :: u43 :: u44 :: u45 :: u46 :: u47 :: u48 :: u49 :: u50 :: u51 :: u52 :: u53 :: u54 :: u55 :: u56 :: u57 :: u58 :: u59 :: u60 :: u61 :: u62 :: u63 :: u64 :: u65 :: u66 :: u67 :: u68 :: u69 :: u70 :: u71 :: u72 :: u73 :: u74 :: u75 :: u76 :: u77 :: u78 :: u79 :: u80 :: u81 :: u82 :: u83 :: u84 :: u85 :: u86 :: u87 :: u88 :: u89 :: u90 :: u91 :: u92 :: u93 :: u94 :: u95 :: u96 :: u97 :: u98 :: u99 :: u100 :: u101 :: u102 :: u103 :: u104 :: u105 :: u106 :: u107 :: u108 :: u109 :: u110 :: u111 :: u112 :: u113 :: u114 :: u115 :: u116 :: u117 :: u118 :: u119 :: u120 :: u121 :: u122 :: u123 :: u124 :: u125 :: u126 :: u127 :: u128 :: u129 :: u130 :: u131 :: u132 :: u133 :: u134 :: u135 :: u136 :: u137 :: u138 :: u139 :: u140 :: u141 :: u142 :: u143 :: u144 :: u145 :: u146 :: u147 :: u148 :: u149 :: u150 :: u151 :: u152 :: u153 :: u154 :: u155 :: u156 :: u157 :: u158 :: u159 :: u160 :: u161 :: u162 :: u163 :: u164 :: u165 :: u166 :: u167 :: u168 :: u169 :: u170 :: u171 :: u172 :: u173 :: u174 :: u175 :: u176 :: u177 :: u178 :: u179 :: u180 :: u181 :: u182 :: []), []⟩ x := by
  have K := Lib.hid hK
  clear hK
  conv => arg 2; whnf
  refine wp_seq_k (fun Kont hKont => ?_)
  have HK := Lib.hid hKont
  clear hKont
  have HA := Lib.hid hA
  have HG := Lib.hid hg
  have HV := Lib.hid (And.intro ha hb)
  clear hA hg ha hb
  go_wp2_with fail
  go_loopw [49] (fun i z => ∃ k : Nat, k ≤ 4 ∧ i = .int .i64 k ∧ KO w z [(x.heap.size, comOps)] [(pb, .int .i64 b.k, .int .i64 b.n, .string b.s), (pa, .int .i64 a.k, .int .i64 a.n, .string a.s)]) (fun i z => 4 - (intOf i).toNat)
  case atStart => exact ⟨0, by omega, rfl, KL.alloc K.out _, KO_new1 x comOps _⟩
  case round =>
    obtain ⟨k, hk, rfl, hK⟩ := hrel
    clear K
    have K := Lib.hid hK
    clear hK
    by_cases hlt : k < 4
    · obtain ⟨hg0, hc⟩ := K.out.O _ (List.mem_singleton.2 rfl)
      have hl : k < comOps.length := by simpa [comOps] using hlt
      have hc := hc k hl
      simp only at hc hg0
      have hm := com_of a b (comOps.getD k ByteArray.empty) (com_mem k hl)
      obtain ⟨op, hop⟩ : ∃ op, comOps.getD k ByteArray.empty = op := ⟨_, rfl⟩
      rw [hop] at hm hc
      obtain ⟨⟨v, e⟩, hb1⟩ : ∃ z, binS op a b = z := ⟨_, rfl⟩
      have hb2 := hm.symm.trans hb1
      have HB1 := Lib.hid hb1
      have HB2 := Lib.hid hb2
      have hE := eqV_self v
      clear hop hm hb1 hb2 hl
      obtain ⟨HB, ⟨b0, b1, b2, -, -, -, bl⟩, ⟨a0, a1, a2, -, -, -, al⟩, -⟩ := K.out.L
      go_wp2_with (first
        | (go_at_call 27; (with_reducible refine (bin_at HB1.out _).mono ?_); rintro e y' ⟨rfl, hy⟩; have K' := Lib.hid (KO.push (KO.below K.out hy) (.int .i64 v.k) (.int .i64 v.n) (.string v.s) 27); clear hy K HB b0 b1 b2 bl a0 a1 a2 al; have K := K'; clear K'; obtain ⟨HB, ⟨v0, v1, v2, -, -, -, vl⟩, ⟨b0, b1, b2, -, -, -, bl⟩, ⟨a0, a1, a2, -, -, -, al⟩, -⟩ := K.out.L)
        | (go_at_call 27; (with_reducible refine (bin_at HB2.out _).mono ?_); rintro e y' ⟨rfl, hy⟩; have K' := Lib.hid (KO.push (KO.below K.out hy) (.int .i64 v.k) (.int .i64 v.n) (.string v.s) 27); clear hy K HB v0 v1 v2 vl b0 b1 b2 bl a0 a1 a2 al; have K := K'; clear K'; obtain ⟨HB, ⟨v20, v21, v22, -, -, -, v2l⟩, ⟨v0, v1, v2, -, -, -, vl⟩, ⟨b0, b1, b2, -, -, -, bl⟩, ⟨a0, a1, a2, -, -, -, al⟩, -⟩ := K.out.L))
      clear HB v20 v21 v22 v2l v0 v1 v2 vl b0 b1 b2 bl a0 a1 a2 al
      go_roundw
      case rel => exact ⟨k + 1, by omega, by go_num, KO.tl (KO.tl K.out)⟩
      case measure => simp [intOf]; omega
    · go_wp2_with fail
      exact HK.out _ _ (vt3 _ _ _ _ _ _ _ _ _ _ _ _ _ _ _ _ _ _ _ _ _ _ _ _ _ _ _ _ _ _ _ _ _ _ _ _ _ _ _ _ _ _ _ _ _ _ _ _ _ _ _ _ _ _ _ _ _ _ _ _ _ _ _ _ _ _ _ _ _ _ _ _ _ _ _ _ _ _ _ _ _ _ _ _ _ _ _ _ _ _ _ _ _ _ _ _ _ _ _ _ _ _ _ _ _ _ _ _ _ _ _ _ _ _ _ _ _ _ _ _ _ _ _ _ _ _ _ _ _ _ _ _ _ _ _ _ _ _ _ _ _ _ _ _ _ _ _ _ _ _ _ _ _ _ _ _ _ _ _ _ _ _ _ _ _ _ _ _ _ _ _ _ _ _ _ _ _ _ _ _ _ _ _ _ _ _ _ HA.out HG.out HV.out.1 HV.out.2 K.out.L)
set_option maxRecDepth 100000 in
set_option maxHeartbeats 40000000 in
theorem vt1 (w x : World) (pa pb : Nat) (a b : Va) (u0 u1 u4 u5 u6 u7 u8 u9 u10 u11 u12 u13 u14 u15 u16 u17 u18 u19 u20 u21 u22 u23 u24 u25 u26 u27 u28 u29 u30 u31 u32 u33 u34 u35 u36 u37 u38 u39 u40 u41 u42 u43 u44 u45 u46 u47 u48 u49 u50 u51 u52 u53 u54 u55 u56 u57 u58 u59 u60 u61 u62 u63 u64 u65 u66 u67 u68 u69 u70 u71 u72 u73 u74 u75 u76 u77 u78 u79 u80 u81 u82 u83 u84 u85 u86 u87 u88 u89 u90 u91 u92 u93 u94 u95 u96 u97 u98 u99 u100 u101 u102 u103 u104 u105 u106 u107 u108 u109 u110 u111 u112 u113 u114 u115 u116 u117 u118 u119 u120 u121 u122 u123 u124 u125 u126 u127 u128 u129 u130 u131 u132 u133 u134 u135 u136 u137 u138 u139 u140 u141 u142 u143 u144 u145 u146 u147 u148 u149 u150 u151 u152 u153 u154 u155 u156 u157 u158 u159 u160 u161 u162 u163 u164 u165 u166 u167 u168 u169 u170 u171 u172 u173 u174 u175 u176 u177 u178 u179 u180 u181 u182 : Value) (hA : Awk) (hg : Gl w) (za : a.s.size ≤ maxLen) (zb : b.s.size ≤ maxLen) (hK : KL w x [(pb, .int .i64 b.k, .int .i64 b.n, .string b.s), (pa, .int .i64 a.k, .int .i64 a.n, .string a.s)]) :
    Code.wp Tryz.prog (tailC 1 (Tryz.f9.body.getD .skip)) (Ends9 w) ⟨List.toArray (u0 :: u1 :: .pointer (some ⟨pa, 0, none⟩) :: .pointer (some ⟨pb, 0, none⟩) :: u4 :: u5 :: u6 :: u7 :: u8 :: u9 :: u10 :: u11 :: u12 :: u13 :: u14 :: u15 :: u16 :: u17 :: u18 :: u19 :: u20 :: u21 :: u22 :: u23 :: u24 :: u25 :: u26 :: u27 :: u28 :: u29 :: u30 :: u31 :: u32 :: u33 :: u34 :: u35 :: u36 :: u37 :: u38 :: u39 :: u40 :: u41 :: u42 :: u43 :: u44 :: u45 :: u46 :: u47 :: u48 :: u49 :: u50 :: u51 :: u52 :: u53 :: u54 :: u55 :: u56 :: u57 :: u58 :: u59 :: u60 :: u61 :: u62 :: u63 :: u64 :: u65 :: u66 :: u67 :: u68 :: u69 :: u70 :: u71 :: u72 :: u73 :: u74 :: u75 :: u76 :: u77 :: u78 :: u79 :: u80 :: u81 :: u82 :: u83 :: u84 :: u85 :: u86 :: u87 :: u88 :: u89 :: u90 :: u91 :: u92 :: u93 :: u94 :: u95 :: u96 :: u97 :: u98 :: u99 :: u100 :: u101 :: u102 :: u103 :: u104 :: u105 :: u106 :: u107 :: u108 :: u109 :: u110 :: u111 :: u112 :: u113 :: u114 :: u115 :: u116 :: u117 :: u118 :: u119 :: u120 :: u121 :: u122 :: u123 :: u124 :: u125 :: u126 :: u127 :: u128 :: u129 :: u130 :: u131 :: u132 :: u133 :: u134 :: u135 :: u136 :: u137 :: u138 :: u139 :: u140 :: u141 :: u142 :: u143 :: u144 :: u145 :: u146 :: u147 :: u148 :: u149 :: u150 :: u151 :: u152 :: u153 :: u154 :: u155 :: u156 :: u157 :: u158 :: u159 :: u160 :: u161 :: u162 :: u163 :: u164 :: u165 :: u166 :: u167 :: u168 :: u169 :: u170 :: u171 :: u172 :: u173 :: u174 :: u175 :: u176 :: u177 :: u178 :: u179 :: u180 :: u181 :: u182 :: []), []⟩ x := by
  have K := Lib.hid hK
  clear hK
  conv => arg 2; whnf
  refine wp_seq_k (fun Kont hKont => ?_)
  have HK := Lib.hid hKont
  clear hKont
  have HA := Lib.hid hA
  have HG := Lib.hid hg
  have ZA := Lib.hid za
  have ZB := Lib.hid zb
  clear hA hg za zb
  cases va : vld a.k a.n a.s
  · obtain ⟨HB, ⟨b0, b1, b2, -, -, -, bl⟩, ⟨a0, a1, a2, -, -, -, al⟩, -⟩ := K.out
    go_wp2_with (first
        | (go_at_call 13; (with_reducible refine (few2 _ a b).mono ?_); rintro e y' ⟨⟨bb, rfl⟩, hy⟩; have K' := Lib.hid (KL.below (KL.alloc K.out _) hy); clear hy K HB b0 b1 b2 bl a0 a1 a2 al; have K := K'; clear K'; obtain ⟨HB, ⟨b0, b1, b2, -, -, -, bl⟩, ⟨a0, a1, a2, -, -, -, al⟩, -⟩ := K.out; cases bb)
        | (go_at_call_of 16 (Value.agg #[.int .i64 a.k, .int .i64 a.n, .string a.s]); (with_reducible refine (ref_valid _ _ _ _ ZA.out).mono ?_); rintro e y' ⟨rfl, hy⟩; have K' := Lib.hid (KL.below K.out hy); clear hy K HB b0 b1 b2 bl a0 a1 a2 al; have K := K'; clear K'; obtain ⟨HB, ⟨b0, b1, b2, -, -, -, bl⟩, ⟨a0, a1, a2, -, -, -, al⟩, -⟩ := K.out)
        | (go_at_call_of 16 (Value.agg #[.int .i64 b.k, .int .i64 b.n, .string b.s]); (with_reducible refine (ref_valid _ _ _ _ ZB.out).mono ?_); rintro e y' ⟨rfl, hy⟩; have K' := Lib.hid (KL.below K.out hy); clear hy K HB b0 b1 b2 bl a0 a1 a2 al; have K := K'; clear K'; obtain ⟨HB, ⟨b0, b1, b2, -, -, -, bl⟩, ⟨a0, a1, a2, -, -, -, al⟩, -⟩ := K.out)
        | (go_at_call 14; (with_reducible refine (awk_at HA.out _ (Gl.below HG.out K.out.HB)).mono ?_); rintro e y ⟨rfl, hy⟩; have HE := Lib.hid (K.out.HB.trans (hy.mono K.out.HB.size)); clear hy))
    all_goals (go_ret; exact ⟨rfl, HE.out⟩)
  cases vb : vld b.k b.n b.s
  · obtain ⟨HB, ⟨b0, b1, b2, -, -, -, bl⟩, ⟨a0, a1, a2, -, -, -, al⟩, -⟩ := K.out
    go_wp2_with (first
        | (go_at_call 13; (with_reducible refine (few2 _ a b).mono ?_); rintro e y' ⟨⟨bb, rfl⟩, hy⟩; have K' := Lib.hid (KL.below (KL.alloc K.out _) hy); clear hy K HB b0 b1 b2 bl a0 a1 a2 al; have K := K'; clear K'; obtain ⟨HB, ⟨b0, b1, b2, -, -, -, bl⟩, ⟨a0, a1, a2, -, -, -, al⟩, -⟩ := K.out; cases bb)
        | (go_at_call_of 16 (Value.agg #[.int .i64 a.k, .int .i64 a.n, .string a.s]); (with_reducible refine (ref_valid _ _ _ _ ZA.out).mono ?_); rintro e y' ⟨rfl, hy⟩; have K' := Lib.hid (KL.below K.out hy); clear hy K HB b0 b1 b2 bl a0 a1 a2 al; have K := K'; clear K'; obtain ⟨HB, ⟨b0, b1, b2, -, -, -, bl⟩, ⟨a0, a1, a2, -, -, -, al⟩, -⟩ := K.out)
        | (go_at_call_of 16 (Value.agg #[.int .i64 b.k, .int .i64 b.n, .string b.s]); (with_reducible refine (ref_valid _ _ _ _ ZB.out).mono ?_); rintro e y' ⟨rfl, hy⟩; have K' := Lib.hid (KL.below K.out hy); clear hy K HB b0 b1 b2 bl a0 a1 a2 al; have K := K'; clear K'; obtain ⟨HB, ⟨b0, b1, b2, -, -, -, bl⟩, ⟨a0, a1, a2, -, -, -, al⟩, -⟩ := K.out)
        | (go_at_call 14; (with_reducible refine (awk_at HA.out _ (Gl.below HG.out K.out.HB)).mono ?_); rintro e y ⟨rfl, hy⟩; have HE := Lib.hid (K.out.HB.trans (hy.mono K.out.HB.size)); clear hy))
    all_goals (go_ret; exact ⟨rfl, HE.out⟩)
  have VA : Hid (a.ok = true) := Lib.hid va
  have VB : Hid (b.ok = true) := Lib.hid vb
  obtain ⟨HB, ⟨b0, b1, b2, -, -, -, bl⟩, ⟨a0, a1, a2, -, -, -, al⟩, -⟩ := K.out
  go_wp2_with (first
      | (go_at_call 13; (with_reducible refine (few2 _ a b).mono ?_); rintro e y' ⟨⟨bb, rfl⟩, hy⟩; have K' := Lib.hid (KL.below (KL.alloc K.out _) hy); clear hy K HB b0 b1 b2 bl a0 a1 a2 al; have K := K'; clear K'; obtain ⟨HB, ⟨b0, b1, b2, -, -, -, bl⟩, ⟨a0, a1, a2, -, -, -, al⟩, -⟩ := K.out; cases bb)
      | (go_at_call_of 16 (Value.agg #[.int .i64 a.k, .int .i64 a.n, .string a.s]); (with_reducible refine (ref_valid _ _ _ _ ZA.out).mono ?_); rintro e y' ⟨rfl, hy⟩; have K' := Lib.hid (KL.below K.out hy); clear hy K HB b0 b1 b2 bl a0 a1 a2 al; have K := K'; clear K'; obtain ⟨HB, ⟨b0, b1, b2, -, -, -, bl⟩, ⟨a0, a1, a2, -, -, -, al⟩, -⟩ := K.out)
      | (go_at_call_of 16 (Value.agg #[.int .i64 b.k, .int .i64 b.n, .string b.s]); (with_reducible refine (ref_valid _ _ _ _ ZB.out).mono ?_); rintro e y' ⟨rfl, hy⟩; have K' := Lib.hid (KL.below K.out hy); clear hy K HB b0 b1 b2 bl a0 a1 a2 al; have K := K'; clear K'; obtain ⟨HB, ⟨b0, b1, b2, -, -, -, bl⟩, ⟨a0, a1, a2, -, -, -, al⟩, -⟩ := K.out)
      | (go_at_call 14; (with_reducible refine (awk_at HA.out _ (Gl.below HG.out K.out.HB)).mono ?_); rintro e y ⟨rfl, hy⟩; have HE := Lib.hid (K.out.HB.trans (hy.mono K.out.HB.size)); clear hy))
  all_goals first
    | (go_ret; exact ⟨rfl, HE.out⟩)
    | (clear HB b0 b1 b2 bl a0 a1 a2 al; exact HK.out _ _ (vt2 _ _ _ _ _ _ _ _ _ _ _ _ _ _ _ _ _ _ _ _ _ _ _ _ _ _ _ _ _ _ _ _ _ _ _ _ _ _ _ _ _ _ _ _ _ _ _ _ _ _ _ _ _ _ _ _ _ _ _ _ _ _ _ _ _ _ _ _ _ _ _ _ _ _ _ _ _ _ _ _ _ _ _ _ _ _ _ _ _ _ _ _ _ _ _ _ _ _ _ _ _ _ _ _ _ _ _ _ _ _ _ _ _ _ _ _ _ _ _ _ _ _ _ _ _ _ _ _ _ _ _ _ _ _ _ _ _ _ _ _ _ _ _ _ _ _ _ _ _ _ _ _ _ _ _ _ _ _ _ _ _ _ _ _ _ _ _ _ _ _ _ _ _ _ _ _ _ _ _ _ _ _ _ _ _ _ _ HA.out HG.out VA.out VB.out K.out))
set_option maxRecDepth 100000 in
set_option maxHeartbeats 40000000 in
/-- The law of truths. -/
theorem valueTruths_ (hA : Awk) (a b : Va) (za : a.s.size ≤ maxLen) (zb : b.s.size ≤ maxLen) (w : World) (hg : Gl w) : Calls Tryz.prog 9 #[a.val, b.val] w fun e w' => e = .returned (.bool true) ∧ Below w.heap.size w w' := by
  have HA := Lib.hid hA
  have HG := Lib.hid hg
  have ZA := Lib.hid za
  have ZB := Lib.hid zb
  clear hA hg za zb
  go_enter Tryz.func9, Tryz.ntmps9
  refine wp_seq_k (fun Kont hKont => ?_)
  have HK := Lib.hid hKont
  clear hKont
  go_wp2_with fail
  exact HK.out _ _ (vt1 _ _ _ _ _ _ _ _ _ _ _ _ _ _ _ _ _ _ _ _ _ _ _ _ _ _ _ _ _ _ _ _ _ _ _ _ _ _ _ _ _ _ _ _ _ _ _ _ _ _ _ _ _ _ _ _ _ _ _ _ _ _ _ _ _ _ _ _ _ _ _ _ _ _ _ _ _ _ _ _ _ _ _ _ _ _ _ _ _ _ _ _ _ _ _ _ _ _ _ _ _ _ _ _ _ _ _ _ _ _ _ _ _ _ _ _ _ _ _ _ _ _ _ _ _ _ _ _ _ _ _ _ _ _ _ _ _ _ _ _ _ _ _ _ _ _ _ _ _ _ _ _ _ _ _ _ _ _ _ _ _ _ _ _ _ _ _ _ _ _ _ _ _ _ _ _ _ _ _ _ _ _ _ _ _ _ _ HA.out HG.out ZA.out ZB.out (((KL.refl w).push _ _ _ 27).push' _ (sz1 _ _) _ _ _ 27))
end Go.Proofs.YtplepijiceanlaaGreatDoor
