/-
  Contracts of package lex: a token, case by case.
-/
import Derived.Test.YtpmppndhfljcpaaGreatDoorGf
namespace Go.Proofs.YtpmppndhfljcpaaGreatDoor
open Go.RowKit

set_option maxRecDepth 100000 in
set_option maxHeartbeats 4000000 in
theorem token_textBad (R : Nat) (s : ByteArray) (i fr ln st : Nat) (w : World) (h : BL w R (rd s i fr ln st)) (hs : s.size ≤ 4000000) (hi : i < s.size) (hst : st ≤ i) (hc : smallB s[i] = false) (hd : digitB s[i] = false) (h39 : ((s[i].toNat : Int) == 39) = true) (nm : Bs) (t : ByteArray) (ht : t = baOf nm) (hbad : tokR (s.data.toList.drop i) = .bad 21 nm)
    (HN0 : ∀ x, KR w x R (rd s i i ln st) [] → Calls Tryz.prog 185 #[.pointer (some ⟨R, 0, none⟩)] x fun e w' => e = raised 144 t ∧ Left x R s i ln st w') :
    Calls Tryz.prog 129 #[.pointer (some ⟨R, 0, none⟩)] w (TokenEnds w R s i ln st) := by
  have K0 := Lib.hid (KR.start h)
  have HC := Lib.hid fun x (hx : BL x R (rd s i i ln st)) => column_ R s i i ln st x hx hst (by omega)
  have HLt := Lib.hid fun x => isLetter_ s[i] x
  rw [hc] at HLt
  have HDg := Lib.hid fun x => isDigit_ s[i] x
  rw [hd] at HDg
  clear hc hd
  have HN := Lib.hid HN0
  clear HN0
  have HT := Lib.hid ht
  have HBAD := Lib.hid hbad
  clear ht hbad
  have hidx : (0 : Int) ≤ i := by omega
  have hilt : (i : Int) < s.size := by omega
  obtain ⟨c0, c1, c2, c3, c4, f0, f1, f2, f3, f4, hl⟩ := h.open5
  clear h
  go_enter Tryz.func129, Tryz.ntmps129
  go_upto_region 2 with fail
  go_cut [3] (fun s3 wx => s3 = .pointer (some ⟨w.heap.size + 1, 0, none⟩) ∧ KR w wx R (rd s i i ln st) [(w.heap.size + 1, tkC 0 ⟨#[]⟩ 0 ln ((i : Int) - st + 1)), (w.heap.size, tkC 0 ⟨#[]⟩ 0 0 0)])
  case first =>
    have K1 := Lib.hid (K0.out.setFrom.push' w.heap.size (by simp) (tkC 0 ⟨#[]⟩ 0 0 0) 95)
    have HSZ : Hid (((w.setCell ⟨R, 2, none⟩ (.int .i64 i)).alloc (.cells #[.int .i64 0, .string ⟨#[]⟩, .int .i64 0, .int .i64 0, .int .i64 0] 95)).heap.size = w.heap.size + 1) := Lib.hid (by simp)
    go_region_with ((first | (go_at_call 126; refine (HC.out _ ?_).mono ?_; (first | exact K1.out.drew.r | exact (K1.out.drew.push _ _).r); rintro e y ⟨rfl, nn, rfl⟩)))
    all_goals go_wp2_with fail
    all_goals go_meet
    all_goals refine ⟨rfl, ?_⟩
    all_goals first
      | with_reducible exact K1.out.made1 HSZ.out _ _ _ _ _ _
      | with_reducible exact K1.out.made2 HSZ.out _ _ _ _ _ _ _ _ _ _ _
  case rest =>
    obtain ⟨rfl, hK⟩ := hcut
    have K := Lib.hid hK
    clear hK K0 c0 c1 c2 c3 c4 f0 f1 f2 f3 f4 hl
    obtain ⟨c0, c1, c2, c3, c4, f0, f1, f2, f3, f4, hl⟩ := K.out.r.open5
    obtain ⟨t0, t1, t2, t3, t4, g0, g1, g2, g3, g4, gl⟩ := K.out.q.1.1.open5
    go_wp2_with fail
    go_quiet (fail)
    have KB := Lib.hid (K.out.below (Below.drewN wc nq))
    clear c0 c1 c2 c3 c4 f0 f1 f2 f3 f4 hl t0 t1 t2 t3 t4 g0 g1 g2 g3 g4 gl K
    go_wp2_with (first
      | (go_at_call 94; (with_reducible refine (HLt.out _).mono ?_); rintro e y ⟨rfl, rfl⟩)
      | (go_at_call 138; (with_reducible refine (HDg.out _).mono ?_); rintro e y ⟨rfl, rfl⟩))
    refine (HN.out _ KB.out.tail.tail).mono ?_
    rintro e y ⟨rfl, j, hK1⟩
    have KC := (KB.out.turn2 hK1).tail.tail
    exact ⟨rfl, te_excess HBAD.out HT.out rfl ⟨j, KC⟩⟩

set_option maxRecDepth 100000 in
set_option maxHeartbeats 4000000 in
theorem token_sign (R : Nat) (s : ByteArray) (i fr ln st : Nat) (w : World) (h : BL w R (rd s i fr ln st)) (hs : s.size ≤ 4000000) (hi : i < s.size) (hst : st ≤ i) (hc : smallB s[i] = false) (hd : digitB s[i] = false) (h39 : ((s[i].toNat : Int) == 39) = false) (t : ByteArray) (j : Nat) (ht : t.size ≤ 4000000) (hw : Well s i 5 t 0 j)
    (HN0 : ∀ x, KR w x R (rd s i i ln st) [] → Calls Tryz.prog 186 #[.pointer (some ⟨R, 0, none⟩)] x fun e w' => e = .returned (.string t) ∧ KR x w' R (rd s j i ln st) []) :
    Calls Tryz.prog 129 #[.pointer (some ⟨R, 0, none⟩)] w (TokenEnds w R s i ln st) := by
  have K0 := Lib.hid (KR.start h)
  have HC := Lib.hid fun x (hx : BL x R (rd s i i ln st)) => column_ R s i i ln st x hx hst (by omega)
  have HLt := Lib.hid fun x => isLetter_ s[i] x
  rw [hc] at HLt
  have HDg := Lib.hid fun x => isDigit_ s[i] x
  rw [hd] at HDg
  have HN := Lib.hid HN0
  clear HN0
  have HCL := Lib.hid fun x => sclone_ t x ht
  have HW := Lib.hid hw
  clear hw
  clear hc hd
  have hidx : (0 : Int) ≤ i := by omega
  have hilt : (i : Int) < s.size := by omega
  obtain ⟨c0, c1, c2, c3, c4, f0, f1, f2, f3, f4, hl⟩ := h.open5
  clear h
  go_enter Tryz.func129, Tryz.ntmps129
  go_upto_region 2 with fail
  go_cut [3] (fun s3 wx => s3 = .pointer (some ⟨w.heap.size + 1, 0, none⟩) ∧ KR w wx R (rd s i i ln st) [(w.heap.size + 1, tkC 0 ⟨#[]⟩ 0 ln ((i : Int) - st + 1)), (w.heap.size, tkC 0 ⟨#[]⟩ 0 0 0)])
  case first =>
    have K1 := Lib.hid (K0.out.setFrom.push' w.heap.size (by simp) (tkC 0 ⟨#[]⟩ 0 0 0) 95)
    have HSZ : Hid (((w.setCell ⟨R, 2, none⟩ (.int .i64 i)).alloc (.cells #[.int .i64 0, .string ⟨#[]⟩, .int .i64 0, .int .i64 0, .int .i64 0] 95)).heap.size = w.heap.size + 1) := Lib.hid (by simp)
    go_region_with ((first | (go_at_call 126; refine (HC.out _ ?_).mono ?_; (first | exact K1.out.drew.r | exact (K1.out.drew.push _ _).r); rintro e y ⟨rfl, nn, rfl⟩)))
    all_goals go_wp2_with fail
    all_goals go_meet
    all_goals refine ⟨rfl, ?_⟩
    all_goals first
      | with_reducible exact K1.out.made1 HSZ.out _ _ _ _ _ _
      | with_reducible exact K1.out.made2 HSZ.out _ _ _ _ _ _ _ _ _ _ _
  case rest =>
    obtain ⟨rfl, hK⟩ := hcut
    have K := Lib.hid hK
    clear hK K0 c0 c1 c2 c3 c4 f0 f1 f2 f3 f4 hl
    obtain ⟨c0, c1, c2, c3, c4, f0, f1, f2, f3, f4, hl⟩ := K.out.r.open5
    obtain ⟨t0, t1, t2, t3, t4, g0, g1, g2, g3, g4, gl⟩ := K.out.q.1.1.open5
    go_wp2_with fail
    go_quiet (fail)
    have KB := Lib.hid (K.out.below (Below.drewN wc nq))
    clear c0 c1 c2 c3 c4 f0 f1 f2 f3 f4 hl t0 t1 t2 t3 t4 g0 g1 g2 g3 g4 gl K
    go_wp2_with (first
      | (go_at_call 94; (with_reducible refine (HLt.out _).mono ?_); rintro e y ⟨rfl, rfl⟩)
      | (go_at_call 138; (with_reducible refine (HDg.out _).mono ?_); rintro e y ⟨rfl, rfl⟩))
    refine (HN.out _ KB.out.tail.tail).mono ?_
    rintro e y ⟨rfl, hK1⟩
    have KC := Lib.hid (KB.out.turn2 hK1)
    clear hK1 KB
    obtain ⟨t0, t1, t2, t3, t4, g0, g1, g2, g3, g4, gl⟩ := KC.out.q.1.1.open5
    obtain ⟨r0, r1, r2, r3, r4, e0, e1, e2, e3, e4, el⟩ := KC.out.q.2.1.1.open5
    go_wp2_with fail
    have K2 := Lib.hid ((KC.out.set 0 (.int .i64 5) (by simp)).set 1 (.string t) (by simp))
    clear KC t0 t1 t2 t3 t4 g0 g1 g2 g3 g4 gl r0 r1 r2 r3 r4 e0 e1 e2 e3 e4 el
    obtain ⟨t0, t1, t2, t3, t4, g0, g1, g2, g3, g4, gl⟩ := K2.out.q.1.1.open5
    obtain ⟨r0, r1, r2, r3, r4, e0, e1, e2, e3, e4, el⟩ := K2.out.q.2.1.1.open5
    refine (HCL.out _).mono ?_
    rintro e y2 ⟨rfl, hb⟩
    have K3 := Lib.hid (K2.out.below hb)
    clear hb K2 t0 t1 t2 t3 t4 g0 g1 g2 g3 g4 gl r0 r1 r2 r3 r4 e0 e1 e2 e3 e4 el
    obtain ⟨t0, t1, t2, t3, t4, g0, g1, g2, g3, g4, gl⟩ := K3.out.q.1.1.open5
    obtain ⟨r0, r1, r2, r3, r4, e0, e1, e2, e3, e4, el⟩ := K3.out.q.2.1.1.open5
    go_wp2_with fail
    (try simp only [Exit.inBlock, Exit.then])
    have K4 := ((K3.out.set 1 (.string t) (by simp)).fill2 (.int .i64 5) (.string t) (.int .i64 0) (.int .i64 ln) (.int .i64 ((i : Int) - st + 1)))
    exact ret_tok rfl rfl K4.q.2.1.1 rfl (HW.out.ends rfl K4.tail.tail)

set_option maxRecDepth 100000 in
set_option maxHeartbeats 4000000 in
theorem token_signBad (R : Nat) (s : ByteArray) (i fr ln st : Nat) (w : World) (h : BL w R (rd s i fr ln st)) (hs : s.size ≤ 4000000) (hi : i < s.size) (hst : st ≤ i) (hc : smallB s[i] = false) (hd : digitB s[i] = false) (h39 : ((s[i].toNat : Int) == 39) = false) (nm : Bs) (t : ByteArray) (ht : t = baOf nm) (hbad : tokR (s.data.toList.drop i) = .bad 10 nm)
    (HN0 : ∀ x, KR w x R (rd s i i ln st) [] → Calls Tryz.prog 186 #[.pointer (some ⟨R, 0, none⟩)] x fun e w' => e = raised 143 t ∧ Left x R s i ln st w') :
    Calls Tryz.prog 129 #[.pointer (some ⟨R, 0, none⟩)] w (TokenEnds w R s i ln st) := by
  have K0 := Lib.hid (KR.start h)
  have HC := Lib.hid fun x (hx : BL x R (rd s i i ln st)) => column_ R s i i ln st x hx hst (by omega)
  have HLt := Lib.hid fun x => isLetter_ s[i] x
  rw [hc] at HLt
  have HDg := Lib.hid fun x => isDigit_ s[i] x
  rw [hd] at HDg
  clear hc hd
  have HN := Lib.hid HN0
  clear HN0
  have HT := Lib.hid ht
  have HBAD := Lib.hid hbad
  clear ht hbad
  have hidx : (0 : Int) ≤ i := by omega
  have hilt : (i : Int) < s.size := by omega
  obtain ⟨c0, c1, c2, c3, c4, f0, f1, f2, f3, f4, hl⟩ := h.open5
  clear h
  go_enter Tryz.func129, Tryz.ntmps129
  go_upto_region 2 with fail
  go_cut [3] (fun s3 wx => s3 = .pointer (some ⟨w.heap.size + 1, 0, none⟩) ∧ KR w wx R (rd s i i ln st) [(w.heap.size + 1, tkC 0 ⟨#[]⟩ 0 ln ((i : Int) - st + 1)), (w.heap.size, tkC 0 ⟨#[]⟩ 0 0 0)])
  case first =>
    have K1 := Lib.hid (K0.out.setFrom.push' w.heap.size (by simp) (tkC 0 ⟨#[]⟩ 0 0 0) 95)
    have HSZ : Hid (((w.setCell ⟨R, 2, none⟩ (.int .i64 i)).alloc (.cells #[.int .i64 0, .string ⟨#[]⟩, .int .i64 0, .int .i64 0, .int .i64 0] 95)).heap.size = w.heap.size + 1) := Lib.hid (by simp)
    go_region_with ((first | (go_at_call 126; refine (HC.out _ ?_).mono ?_; (first | exact K1.out.drew.r | exact (K1.out.drew.push _ _).r); rintro e y ⟨rfl, nn, rfl⟩)))
    all_goals go_wp2_with fail
    all_goals go_meet
    all_goals refine ⟨rfl, ?_⟩
    all_goals first
      | with_reducible exact K1.out.made1 HSZ.out _ _ _ _ _ _
      | with_reducible exact K1.out.made2 HSZ.out _ _ _ _ _ _ _ _ _ _ _
  case rest =>
    obtain ⟨rfl, hK⟩ := hcut
    have K := Lib.hid hK
    clear hK K0 c0 c1 c2 c3 c4 f0 f1 f2 f3 f4 hl
    obtain ⟨c0, c1, c2, c3, c4, f0, f1, f2, f3, f4, hl⟩ := K.out.r.open5
    obtain ⟨t0, t1, t2, t3, t4, g0, g1, g2, g3, g4, gl⟩ := K.out.q.1.1.open5
    go_wp2_with fail
    go_quiet (fail)
    have KB := Lib.hid (K.out.below (Below.drewN wc nq))
    clear c0 c1 c2 c3 c4 f0 f1 f2 f3 f4 hl t0 t1 t2 t3 t4 g0 g1 g2 g3 g4 gl K
    go_wp2_with (first
      | (go_at_call 94; (with_reducible refine (HLt.out _).mono ?_); rintro e y ⟨rfl, rfl⟩)
      | (go_at_call 138; (with_reducible refine (HDg.out _).mono ?_); rintro e y ⟨rfl, rfl⟩))
    refine (HN.out _ KB.out.tail.tail).mono ?_
    rintro e y ⟨rfl, j, hK1⟩
    have KC := (KB.out.turn2 hK1).tail.tail
    exact ⟨rfl, te_stray HBAD.out HT.out rfl ⟨j, KC⟩⟩

end Go.Proofs.YtpmppndhfljcpaaGreatDoor
