/-
  The reference's reader: a token that is a string.
-/
import Derived.Test.YtpmppndhfljcpaaGreatDoorQL
namespace Go.Proofs.YtpmppndhfljcpaaGreatDoor
open Go.RowKit

set_option maxRecDepth 100000 in
set_option maxHeartbeats 4000000 in
theorem refTok_text (R T : Nat) (s : ByteArray) (i : Nat) (ln cl : Int) (o : Value) (fc : Int) (fn : ByteArray) (fl fcl : Int) (w : World) (hr : BL w R (rr s i ln cl o fc fn fl fcl)) (ht : BL w T (tkC 0 ⟨#[]⟩ 0 ln cl)) (hne : R ≠ T) (hs : s.size ≤ 4000000) (hi : i < s.size) (hc : smallB s[i] = false) (hd : digitB s[i] = false) (h39 : (s[i] == 39) = true) :
    Calls Tryz.prog 80 #[.pointer (some ⟨R, 0, none⟩), .pointer (some ⟨T, 0, none⟩)] w (RefTok w R T s i ln cl o fc fn fl fcl) := by
  have HSZ : Hid (s.data.toList.length = s.size) := Lib.hid (by simp)
  have K0 := Lib.hid (KW.start hr ht hne)
  have HTR : Hid (tokR (s.data.toList.drop i) = match textL (s.data.toList.drop (i + 1)) with | none => .bad 10 [39] | some q => if 200 < q.1.length then .bad 21 [39] else .tok ⟨4, q.1, 0⟩ (q.2 + 1)) := Lib.hid (by
    rw [drop_cons s i hi, tokR_cons, if_neg (by rw [hc]; decide), if_neg (by rw [hd]; decide), if_pos h39]
    cases textL (s.data.toList.drop (i + 1)) <;> rfl)
  have HL := Lib.hid fun x => refSmall_ s[i] x
  rw [hc] at HL
  have HDG := Lib.hid fun x => refDigit_ s[i] x
  rw [hd] at HDG
  have HM := Lib.hid fun x hx => refText_ R s i ln cl o fc fn fl fcl x hx hs hi
  have HF := Lib.hid fun c nm x hx => refFault_ R s i ln cl o fc fn fl fcl c nm x hx
  have h39' := is39 h39
  have hidx : (0 : Int) ≤ i := by omega
  have hilt : (i : Int) < s.size := by omega
  have HNE := Lib.hid hne
  obtain ⟨⟨c0, c1, -⟩, -, hl⟩ := hr.open9
  clear hr ht hc hne hd h39
  cases htx : textL (s.data.toList.drop (i + 1)) with
  | none =>
    have HT2 : Hid (tokR (s.data.toList.drop i) = .bad 10 [39]) := Lib.hid (by rw [HTR.out, htx])
    rw [textO_none htx] at HM
    clear htx
    go_enter Tryz.func80, Tryz.ntmps80
    go_wp2_with fail
    go_quiet (fail)
    have KB := Lib.hid (K0.out.below (Below.drewN w nq))
    clear c0 c1 hl K0
    obtain ⟨t0, t1, t2, t3, t4, g0, g1, g2, g3, g4, gl⟩ := KB.out.t.open5
    go_wp2_with (first
      | (go_at_call 93; (with_reducible refine (HL.out _).mono ?_); rintro e y ⟨rfl, rfl⟩)
      | (go_at_call 131; (with_reducible refine (HDG.out _).mono ?_); rintro e y ⟨rfl, rfl⟩)
      | (go_at_call 133; (with_reducible refine (HM.out _ KB.out.r).mono ?_); rintro e y ⟨rfl, hb⟩; have KC := Lib.hid (KB.out.below hb); clear hb; clear t0 t1 t2 t3 t4 g0 g1 g2 g3 g4 gl; obtain ⟨t0, t1, t2, t3, t4, g0, g1, g2, g3, g4, gl⟩ := KC.out.t.open5; have K2 := Lib.hid ((KC.out.setT 0 (.int .i64 4) (by simp)).setT 1 (.string ⟨#[]⟩) (by simp)))
      | (go_at_call 81; (with_reducible refine (HF.out _ _ _ K2.out.r).mono ?_); rintro e y2 ⟨rfl, hk⟩; have K4 := Lib.hid (K2.out.turnR hk); clear hk))
    go_ret
    exact refTok_bad HT2.out rfl K4.out
  | some q =>
    obtain ⟨b, n⟩ := q
    rw [textO_some htx] at HM
    have hbz : (baOf b).size = b.length := baOf_size b
    have HBZ := Lib.hid hbz
    clear hbz
    have hn0 : ((n + 1 : Nat) : Int) ≠ 0 := by omega
    by_cases h200 : 200 < b.length
    · have HT2 : Hid (tokR (s.data.toList.drop i) = .bad 21 [39]) := Lib.hid (by rw [HTR.out, htx]; exact if_pos h200)
      have h200' : (200 : Int) < (baOf b).size := by rw [HBZ.out]; omega
      clear htx
      go_enter Tryz.func80, Tryz.ntmps80
      go_wp2_with fail
      go_quiet (fail)
      have KB := Lib.hid (K0.out.below (Below.drewN w nq))
      clear c0 c1 hl K0
      go_wp2_with (first
        | (go_at_call 93; (with_reducible refine (HL.out _).mono ?_); rintro e y ⟨rfl, rfl⟩)
        | (go_at_call 131; (with_reducible refine (HDG.out _).mono ?_); rintro e y ⟨rfl, rfl⟩)
        | (go_at_call 133; (with_reducible refine (HM.out _ KB.out.r).mono ?_); rintro e y ⟨rfl, hb⟩; have KC := Lib.hid (KB.out.below hb); clear hb; obtain ⟨t0, t1, t2, t3, t4, g0, g1, g2, g3, g4, gl⟩ := KC.out.t.open5; have K2 := Lib.hid ((KC.out.setT 0 (.int .i64 4) (by simp)).setT 1 (.string (baOf b)) (by simp)))
        | (go_at_call 81; (with_reducible refine (HF.out _ _ _ K2.out.r).mono ?_); rintro e y2 ⟨rfl, hk⟩; have K4 := Lib.hid (K2.out.turnR hk); clear hk))
      go_ret
      exact refTok_bad HT2.out rfl K4.out
    · have HT2 : Hid (tokR (s.data.toList.drop i) = .tok ⟨4, b, 0⟩ (n + 1)) := Lib.hid (by rw [HTR.out, htx]; exact if_neg h200)
      have h200' : ¬ (200 : Int) < (baOf b).size := by rw [HBZ.out]; omega
      clear htx
      go_enter Tryz.func80, Tryz.ntmps80
      go_wp2_with fail
      go_quiet (fail)
      have KB := Lib.hid (K0.out.below (Below.drewN w nq))
      clear c0 c1 hl K0
      go_wp2_with (first
        | (go_at_call 93; (with_reducible refine (HL.out _).mono ?_); rintro e y ⟨rfl, rfl⟩)
        | (go_at_call 131; (with_reducible refine (HDG.out _).mono ?_); rintro e y ⟨rfl, rfl⟩)
        | (go_at_call 133; (with_reducible refine (HM.out _ KB.out.r).mono ?_); rintro e y ⟨rfl, hb⟩; have KC := Lib.hid (KB.out.below hb); clear hb; obtain ⟨t0, t1, t2, t3, t4, g0, g1, g2, g3, g4, gl⟩ := KC.out.t.open5; have K2 := Lib.hid ((KC.out.setT 0 (.int .i64 4) (by simp)).setT 1 (.string (baOf b)) (by simp))))
      go_ret
      exact refTok_ok HT2.out rfl K2.out
end Go.Proofs.YtpmppndhfljcpaaGreatDoor
