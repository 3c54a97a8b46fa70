/-
  The law of truths: its walk, statement by statement.
-/
import Derived.Test.YtplepijiceanlaaGreatDoorTBf
namespace Go.Proofs.YtplepijiceanlaaGreatDoor
open Go.RowKit
set_option maxRecDepth 100000 in
set_option maxHeartbeats 40000000 in
theorem vt5 (w x : World) (pa pb : Nat) (a b : Va) (u0 u1 u4 u5 u6 u7 u8 u9 u10 u11 u12 u13 u14 u15 u16 u17 u18 u19 u20 u21 u22 u23 u24 u27 u28 u29 u30 u31 u32 u33 u34 u35 u36 u37 u38 u39 u40 u41 u42 u43 u44 u45 u46 u47 u48 u49 u50 u51 u52 u53 u54 u55 u56 u57 u58 u59 u60 u61 u62 u63 u64 u65 u66 u67 u68 u69 u70 u71 u72 u73 u74 u75 u76 u77 u78 u79 u80 u81 u82 u83 u84 u85 u86 u87 u88 u89 u90 u91 u92 u93 u94 u95 u96 u97 u98 u99 u100 u101 u102 u103 u104 u105 u106 u107 u108 u109 u110 u111 u112 u113 u114 u115 u116 u117 u118 u119 u120 u121 u122 u123 u124 u125 u126 u127 u128 u129 u130 u131 u132 u133 u134 u135 u136 u137 u138 u139 u140 u141 u142 u143 u144 u145 u146 u147 u148 u149 u150 u151 u152 u153 u154 u155 u156 u157 u158 u159 u160 u161 u162 u163 u164 u165 u166 u167 u168 u169 u170 u171 u172 u173 u174 u175 u176 u177 u178 u179 u180 u181 u182 : Value) (hA : Awk) (hg : Gl w) (ha : a.ok = true) (hb : b.ok = true) (hK : KL w x [(pb, .int .i64 b.k, .int .i64 b.n, .string b.s), (pa, .int .i64 a.k, .int .i64 a.n, .string a.s)]) :
    Code.wp Tryz.prog (tailC 5 (Tryz.f9.body.getD .skip)) (Ends9 w) ⟨List.toArray (u0 :: u1 :: .pointer (some ⟨pa, 0, none⟩) :: .pointer (some ⟨pb, 0, none⟩) :: u4 :: u5 :: u6 :: u7 :: u8 :: u9 :: u10 :: u11 :: u12 :: u13 :: u14 :: u15 :: u16 :: u17 :: u18 :: u19 :: u20 :: u21 :: u22 :: u23 :: u24 :: .int .i64 0 :: .int .i64 0 :: u27 :: u28 :: u29 :: u30 :: u31 :: u32 :: u33 :: u34 :: u35 :: u36 :: u37 :: u38 :: u39 :: u40 :: u41 :: u42 :: u43 :: u44 :: u45 :: u46 :: u47 :: u48 :: u49 :: u50 :: u51 :: u52 :: u53 :: u54 :: u55 :: u56 :: u57 :: u58 :: u59 :: u60 :: u61 :: u62 :: u63 :: u64 :: u65 :: u66 :: u67 :: u68 :: u69 :: u70 :: u71 :: u72 :: u73 :: u74 :: u75 :: u76 :: u77 :: u78 :: u79 :: u80 :: u81 :: u82 :: u83 :: u84 :: u85 :: u86 :: u87 :: u88 :: u89 :: u90 :: u91 :: u92 :: u93 :: u94 :: u95 :: u96 :: u97 :: u98 :: u99 :: u100 :: u101 :: u102 :: u103 :: u104 :: u105 :: u106 :: u107 :: u108 :: u109 :: u110 :: u111 :: u112 :: u113 :: u114 :: u115 :: u116 :: u117 :: u118 :: u119 :: u120 :: u121 :: u122 :: u123 :: u124 :: u125 :: u126 :: u127 :: u128 :: u129 :: u130 :: u131 :: u132 :: u133 :: u134 :: u135 :: u136 :: u137 :: u138 :: u139 :: u140 :: u141 :: u142 :: u143 :: u144 :: u145 :: u146 :: u147 :: u148 :: u149 :: u150 :: u151 :: u152 :: u153 :: u154 :: u155 :: u156 :: u157 :: u158 :: u159 :: u160 :: u161 :: u162 :: u163 :: u164 :: u165 :: u166 :: u167 :: u168 :: u169 :: u170 :: u171 :: u172 :: u173 :: u174 :: u175 :: u176 :: u177 :: u178 :: u179 :: u180 :: u181 :: u182 :: []), []⟩ x := by
  have K := Lib.hid hK
  clear hK
  conv => arg 2; whnf
  refine wp_seq_k (fun Kont hKont => ?_)
  have HK := Lib.hid hKont
  clear hKont
  have HA := Lib.hid hA
  have HG := Lib.hid hg
  have HV := Lib.hid (And.intro ha hb)
  clear hA hg ha hb
  have HC := Lib.hid (tri_count a b HV.out.1 HV.out.2)
  go_wp2_with fail
  go_loopw [25, 26, 137] (fun m u i z => ∃ k : Nat, k ≤ 3 ∧ ((triR a b 0).2 ≠ 0 → k = 0) ∧ i = .int .i64 k ∧ m = .int .i64 (cntB (fun j => tru (triR a b j).1) k) ∧ u = .int .i64 (cntB (fun j => (triR a b j).1.k == 0) k) ∧ KO w z [(x.heap.size, triOps)] [(pb, .int .i64 b.k, .int .i64 b.n, .string b.s), (pa, .int .i64 a.k, .int .i64 a.n, .string a.s)]) (fun m u i z => 3 - (intOf i).toNat)
  case atStart => exact ⟨0, by omega, fun _ => rfl, rfl, rfl, rfl, KL.alloc K.out _, KO_new1 x triOps _⟩
  case round =>
    obtain ⟨k, hk, hz, rfl, rfl, rfl, hK⟩ := hrel
    clear K
    have K := Lib.hid hK
    have HZ := Lib.hid hz
    clear hK hz
    have hmb := cntB_bd (fun j => tru (triR a b j).1) k
    have hub := cntB_bd (fun j => (triR a b j).1.k == 0) k
    by_cases hlt : k < 3
    · have hms : cntB (fun j => tru (triR a b j).1) (k + 1) = cntB (fun j => tru (triR a b j).1) k + (if tru (triR a b k).1 = true then 1 else 0) := rfl
      have hus : cntB (fun j => (triR a b j).1.k == 0) (k + 1) = cntB (fun j => (triR a b j).1.k == 0) k + (if ((triR a b k).1.k == 0) = true then 1 else 0) := rfl
      obtain ⟨hg0, hc⟩ := K.out.O _ (List.mem_singleton.2 rfl)
      have hc := hc k (by simpa [triOps] using hlt)
      simp only at hc hg0
      have HR := Lib.hid (show triR a b k = binS (triOps.getD k ByteArray.empty) a b from rfl)
      obtain ⟨op, hop⟩ : ∃ op, triOps.getD k ByteArray.empty = op := ⟨_, rfl⟩
      rw [hop] at hc HR
      obtain ⟨⟨v, e⟩, hb1⟩ : ∃ z, binS op a b = z := ⟨_, rfl⟩
      rw [hb1] at HR
      rw [HR.out] at hms hus
      have HZ0 : Hid ((triR a b 0).2 ≠ 0 → e ≠ 0) := Lib.hid (fun h => by have := HZ.out h; subst this; rw [HR.out] at h; exact h)
      have HB1 := Lib.hid hb1
      generalize hM : cntB (fun j => tru (triR a b j).1) k = M at *
      generalize hU : cntB (fun j => (triR a b j).1.k == 0) k = U at *
      have HMS := Lib.hid hms
      have HUS := Lib.hid hus
      clear hop hb1 hms hus hM hU
      cases he : e != 0
      · have HF2 : Hid ((triR a b 0).2 ≠ 0 → k + 1 = 0) := Lib.hid (fun h => absurd (show e = 0 by simpa using he) (HZ0.out h))
        cases ht0 : eqV v.k v.n v.s 3 1 ⟨#[]⟩
        · cases hk0 : v.k == 0
          · have SM := Lib.hid (show cntB (fun j => tru (triR a b j).1) (k + 1) = M from by rw [HMS.out]; simp [tru, ht0])
            have SU := Lib.hid (show cntB (fun j => (triR a b j).1.k == 0) (k + 1) = U from by rw [HUS.out]; simp [hk0])
            have HT := Lib.hid ht0
            clear ht0
            obtain ⟨HB, ⟨b0, b1, b2, -, -, -, bl⟩, ⟨a0, a1, a2, -, -, -, al⟩, -⟩ := K.out.L
            go_wp2_with (first
              | (go_at_call 27; (with_reducible refine (bin_at HB1.out _).mono ?_); rintro e y' ⟨rfl, hy⟩; have K' := Lib.hid (KO.push (KO.below K.out hy) (.int .i64 v.k) (.int .i64 v.n) (.string v.s) 27); clear hy K HB b0 b1 b2 bl a0 a1 a2 al; have K := K'; clear K'; obtain ⟨HB, ⟨v0, v1, v2, -, -, -, vl⟩, ⟨b0, b1, b2, -, -, -, bl⟩, ⟨a0, a1, a2, -, -, -, al⟩, -⟩ := K.out.L)
              | (go_at_call 17; (with_reducible refine (true_at HT.out _).mono ?_); rintro e y' ⟨rfl, hy⟩; have K' := Lib.hid (KO.below K.out hy); clear hy K HB v0 v1 v2 vl b0 b1 b2 bl a0 a1 a2 al; have K := K'; clear K'; obtain ⟨HB, ⟨v0, v1, v2, -, -, -, vl⟩, ⟨b0, b1, b2, -, -, -, bl⟩, ⟨a0, a1, a2, -, -, -, al⟩, -⟩ := K.out.L))
            clear HB v0 v1 v2 vl b0 b1 b2 bl a0 a1 a2 al
            go_roundw
            case rel => exact ⟨k + 1, by omega, HF2.out, by go_num, by rw [SM.out], by rw [SU.out], KO.tl K.out⟩
            case measure => simp [intOf]; omega
          · have SM := Lib.hid (show cntB (fun j => tru (triR a b j).1) (k + 1) = M from by rw [HMS.out]; simp [tru, ht0])
            have SU := Lib.hid (show cntB (fun j => (triR a b j).1.k == 0) (k + 1) = U + 1 from by rw [HUS.out]; simp [hk0])
            have HT := Lib.hid ht0
            clear ht0
            obtain ⟨HB, ⟨b0, b1, b2, -, -, -, bl⟩, ⟨a0, a1, a2, -, -, -, al⟩, -⟩ := K.out.L
            go_wp2_with (first
              | (go_at_call 27; (with_reducible refine (bin_at HB1.out _).mono ?_); rintro e y' ⟨rfl, hy⟩; have K' := Lib.hid (KO.push (KO.below K.out hy) (.int .i64 v.k) (.int .i64 v.n) (.string v.s) 27); clear hy K HB b0 b1 b2 bl a0 a1 a2 al; have K := K'; clear K'; obtain ⟨HB, ⟨v0, v1, v2, -, -, -, vl⟩, ⟨b0, b1, b2, -, -, -, bl⟩, ⟨a0, a1, a2, -, -, -, al⟩, -⟩ := K.out.L)
              | (go_at_call 17; (with_reducible refine (true_at HT.out _).mono ?_); rintro e y' ⟨rfl, hy⟩; have K' := Lib.hid (KO.below K.out hy); clear hy K HB v0 v1 v2 vl b0 b1 b2 bl a0 a1 a2 al; have K := K'; clear K'; obtain ⟨HB, ⟨v0, v1, v2, -, -, -, vl⟩, ⟨b0, b1, b2, -, -, -, bl⟩, ⟨a0, a1, a2, -, -, -, al⟩, -⟩ := K.out.L))
            clear HB v0 v1 v2 vl b0 b1 b2 bl a0 a1 a2 al
            go_roundw
            case rel => exact ⟨k + 1, by omega, HF2.out, by go_num, by rw [SM.out], by rw [SU.out], KO.tl K.out⟩
            case measure => simp [intOf]; omega
        · cases hk0 : v.k == 0
          · have SM := Lib.hid (show cntB (fun j => tru (triR a b j).1) (k + 1) = M + 1 from by rw [HMS.out]; simp [tru, ht0])
            have SU := Lib.hid (show cntB (fun j => (triR a b j).1.k == 0) (k + 1) = U from by rw [HUS.out]; simp [hk0])
            have HT := Lib.hid ht0
            clear ht0
            obtain ⟨HB, ⟨b0, b1, b2, -, -, -, bl⟩, ⟨a0, a1, a2, -, -, -, al⟩, -⟩ := K.out.L
            go_wp2_with (first
              | (go_at_call 27; (with_reducible refine (bin_at HB1.out _).mono ?_); rintro e y' ⟨rfl, hy⟩; have K' := Lib.hid (KO.push (KO.below K.out hy) (.int .i64 v.k) (.int .i64 v.n) (.string v.s) 27); clear hy K HB b0 b1 b2 bl a0 a1 a2 al; have K := K'; clear K'; obtain ⟨HB, ⟨v0, v1, v2, -, -, -, vl⟩, ⟨b0, b1, b2, -, -, -, bl⟩, ⟨a0, a1, a2, -, -, -, al⟩, -⟩ := K.out.L)
              | (go_at_call 17; (with_reducible refine (true_at HT.out _).mono ?_); rintro e y' ⟨rfl, hy⟩; have K' := Lib.hid (KO.below K.out hy); clear hy K HB v0 v1 v2 vl b0 b1 b2 bl a0 a1 a2 al; have K := K'; clear K'; obtain ⟨HB, ⟨v0, v1, v2, -, -, -, vl⟩, ⟨b0, b1, b2, -, -, -, bl⟩, ⟨a0, a1, a2, -, -, -, al⟩, -⟩ := K.out.L))
            clear HB v0 v1 v2 vl b0 b1 b2 bl a0 a1 a2 al
            go_roundw
            case rel => exact ⟨k + 1, by omega, HF2.out, by go_num, by rw [SM.out], by rw [SU.out], KO.tl K.out⟩
            case measure => simp [intOf]; omega
          · have SM := Lib.hid (show cntB (fun j => tru (triR a b j).1) (k + 1) = M + 1 from by rw [HMS.out]; simp [tru, ht0])
            have SU := Lib.hid (show cntB (fun j => (triR a b j).1.k == 0) (k + 1) = U + 1 from by rw [HUS.out]; simp [hk0])
            have HT := Lib.hid ht0
            clear ht0
            obtain ⟨HB, ⟨b0, b1, b2, -, -, -, bl⟩, ⟨a0, a1, a2, -, -, -, al⟩, -⟩ := K.out.L
            go_wp2_with (first
              | (go_at_call 27; (with_reducible refine (bin_at HB1.out _).mono ?_); rintro e y' ⟨rfl, hy⟩; have K' := Lib.hid (KO.push (KO.below K.out hy) (.int .i64 v.k) (.int .i64 v.n) (.string v.s) 27); clear hy K HB b0 b1 b2 bl a0 a1 a2 al; have K := K'; clear K'; obtain ⟨HB, ⟨v0, v1, v2, -, -, -, vl⟩, ⟨b0, b1, b2, -, -, -, bl⟩, ⟨a0, a1, a2, -, -, -, al⟩, -⟩ := K.out.L)
              | (go_at_call 17; (with_reducible refine (true_at HT.out _).mono ?_); rintro e y' ⟨rfl, hy⟩; have K' := Lib.hid (KO.below K.out hy); clear hy K HB v0 v1 v2 vl b0 b1 b2 bl a0 a1 a2 al; have K := K'; clear K'; obtain ⟨HB, ⟨v0, v1, v2, -, -, -, vl⟩, ⟨b0, b1, b2, -, -, -, bl⟩, ⟨a0, a1, a2, -, -, -, al⟩, -⟩ := K.out.L))
            clear HB v0 v1 v2 vl b0 b1 b2 bl a0 a1 a2 al
            go_roundw
            case rel => exact ⟨k + 1, by omega, HF2.out, by go_num, by rw [SM.out], by rw [SU.out], KO.tl K.out⟩
            case measure => simp [intOf]; omega
      · obtain ⟨HB, ⟨b0, b1, b2, -, -, -, bl⟩, ⟨a0, a1, a2, -, -, -, al⟩, -⟩ := K.out.L
        go_wp2_with (first
          | (go_at_call 27; (with_reducible refine (bin_at HB1.out _).mono ?_); rintro e y' ⟨rfl, hy⟩; have K' := Lib.hid (KO.push (KO.below K.out hy) (.int .i64 v.k) (.int .i64 v.n) (.string v.s) 27); clear hy K HB b0 b1 b2 bl a0 a1 a2 al; have K := K'; clear K'; obtain ⟨HB, ⟨v0, v1, v2, -, -, -, vl⟩, ⟨b0, b1, b2, -, -, -, bl⟩, ⟨a0, a1, a2, -, -, -, al⟩, -⟩ := K.out.L)
          | (go_at_call 14; (with_reducible refine (awk_at HA.out _ (Gl.below HG.out K.out.L.HB)).mono ?_); rintro e y ⟨rfl, hy⟩; have HE := Lib.hid (K.out.L.HB.trans (hy.mono K.out.L.HB.size)); clear hy))
        go_ret
        exact ⟨rfl, HE.out⟩
    · have HK3 : Hid (k = 3) := Lib.hid (by omega)
      have h0 : ¬ (triR a b 0).2 ≠ 0 := fun h => absurd ((HZ.out h).symm.trans HK3.out) (by decide)
      obtain ⟨-, q1, q2⟩ := HC.out.resolve_left h0
      have HQ1 : Hid (cntB (fun j => tru (triR a b j).1) k = if hasNull [a, b] = true then 0 else 1) := Lib.hid (by rw [HK3.out]; exact q1)
      have HQ2 : Hid (cntB (fun j => (triR a b j).1.k == 0) k = if hasNull [a, b] = true then 3 else 0) := Lib.hid (by rw [HK3.out]; exact q2)
      clear q1 q2 hmb hub h0
      generalize cntB (fun j => tru (triR a b j).1) k = M at *
      generalize cntB (fun j => (triR a b j).1.k == 0) k = U at *
      go_wp2_with fail
      exact HK.out _ _ (vt6 _ _ _ _ _ _ _ _ _ _ _ _ _ _ _ _ _ _ _ _ _ _ _ _ _ _ _ _ _ _ _ _ _ _ _ _ _ _ _ _ _ _ _ _ _ _ _ _ _ _ _ _ _ _ _ _ _ _ _ _ _ _ _ _ _ _ _ _ _ _ _ _ _ _ _ _ _ _ _ _ _ _ _ _ _ _ _ _ _ _ _ _ _ _ _ _ _ _ _ _ _ _ _ _ _ _ _ _ _ _ _ _ _ _ _ _ _ _ _ _ _ _ _ _ _ _ _ _ _ _ _ _ _ _ _ _ _ _ _ _ _ _ _ _ _ _ _ _ _ _ _ _ _ _ _ _ _ _ _ _ _ _ _ _ _ _ _ _ _ _ _ _ _ _ _ _ _ _ _ _ _ _ _ _ _ _ _ HA.out HG.out HQ1.out HQ2.out K.out.L)
end Go.Proofs.YtplepijiceanlaaGreatDoor
