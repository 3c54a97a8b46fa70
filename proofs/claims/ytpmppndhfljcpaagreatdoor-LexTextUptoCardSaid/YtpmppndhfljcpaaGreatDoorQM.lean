/-
  The reference's reader: a token that is an integer.
-/
import Derived.Test.YtpmppndhfljcpaaGreatDoorQL
import Derived.StillTailTactics
namespace Go.Proofs.YtpmppndhfljcpaaGreatDoor
open Go.RowKit

theorem take_all_many (p : UInt8 → Bool) (l : Bs) : (l.take (many p l)).all p = true := by
  rw [many_take, List.all_eq_true]
  exact fun c hc => mem_takeWhile hc
set_option maxRecDepth 100000 in
set_option maxHeartbeats 4000000 in
theorem refTok_int (R T : Nat) (s : ByteArray) (i : Nat) (ln cl : Int) (o : Value) (fc : Int) (fn : ByteArray) (fl fcl : Int) (w : World) (hr : BL w R (rr s i ln cl o fc fn fl fcl)) (ht : BL w T (tkC 0 ⟨#[]⟩ 0 ln cl)) (hne : R ≠ T) (hs : s.size ≤ 4000000) (hi : i < s.size) (hc : smallB s[i] = false) (hd : digitB s[i] = true) :
    Calls Tryz.prog 80 #[.pointer (some ⟨R, 0, none⟩), .pointer (some ⟨T, 0, none⟩)] w (RefTok w R T s i ln cl o fc fn fl fcl) := by
  have HSZ : Hid (s.data.toList.length = s.size) := Lib.hid (by simp)
  have K0 := Lib.hid (KW.start hr ht hne)
  have HTR : Hid (tokR (s.data.toList.drop i) = if 1099511627776 < valD 0 ((s.data.toList.drop i).take (many digitB (s.data.toList.drop i))) then .bad 21 ((s.data.toList.drop i).take (min (many digitB (s.data.toList.drop i)) 40)) else .tok ⟨3, [], valD 0 ((s.data.toList.drop i).take (many digitB (s.data.toList.drop i)))⟩ (many digitB (s.data.toList.drop i))) := Lib.hid (by
    rw [drop_cons s i hi, tokR_cons, if_neg (by rw [hc]; decide), if_pos hd])
  have hfit := skip_fits s.data.toList i digitB (by rw [HSZ.out]; omega)
  have hall := take_all_many digitB (s.data.toList.drop i)
  have HL := Lib.hid fun x => refSmall_ s[i] x
  rw [hc] at HL
  have HDG := Lib.hid fun x => refDigit_ s[i] x
  rw [hd] at HDG
  have HM := Lib.hid fun x hx => refMany_ R s i ln cl o fc fn fl fcl true x hx hs (by omega)
  have HF := Lib.hid fun c nm x hx => refFault_ R s i ln cl o fc fn fl fcl c nm x hx
  rw [show pickB true = digitB from rfl] at HM
  generalize hn : many digitB (s.data.toList.drop i) = n at *
  have HX := Lib.hid (ext_ba s i n)
  rw [HSZ.out] at hfit
  have hsx : (s.extract i (i + n)).size = n := by simp; omega
  have HNum := Lib.hid fun x => number_ (s.extract i (i + n)) x (by rw [hsx]; omega) (by rw [HX.out]; exact hall)
  have HV := Lib.hid (numC_val (s.extract i (i + n)).data.toList)
  have hidx : (0 : Int) ≤ i := by omega
  have hilt : (i : Int) < s.size := by omega
  have hin : (i : Int) + n ≤ s.size := by omega
  have hni : (i : Int) ≤ (i : Int) + n := by omega
  have HNE := Lib.hid hne
  generalize hv : numC (s.extract i (i + n)).data.toList = v at HNum HV
  have HV2 : Hid (v = min (valD 0 ((s.data.toList.drop i).take n)) 1099511627777) := Lib.hid (by rw [HV.out, HX.out]; rfl)
  obtain ⟨⟨c0, c1, -⟩, -, hl⟩ := hr.open9
  clear hr ht hc hn hne hv HV hall hsx hd
  go_enter Tryz.func80, Tryz.ntmps80
  go_wp2_with fail
  go_quiet (fail)
  have KB := Lib.hid (K0.out.below (Below.drewN w nq))
  clear c0 c1 hl K0
  go_wp2_with (first
    | (go_at_call 93; (with_reducible refine (HL.out _).mono ?_); rintro e y ⟨rfl, rfl⟩)
    | (go_at_call 131; (with_reducible refine (HDG.out _).mono ?_); rintro e y ⟨rfl, rfl⟩)
    | (go_at_call 130; (with_reducible refine (HM.out _ KB.out.r).mono ?_); rintro e y ⟨rfl, hb⟩; have KC := Lib.hid (KB.out.below hb); clear hb))
  have hrt : ¬ R = T := HNE.out
  have htr : ¬ T = R := fun e => HNE.out e.symm
  obtain ⟨⟨c0, c1, -⟩, -, hl⟩ := KC.out.r.open9
  obtain ⟨t0, t1, t2, t3, t4, g0, g1, g2, g3, g4, gl⟩ := KC.out.t.open5
  have hw : IntKind.i64.wrap ((i : Int) + n) = (i : Int) + n := IntWalk.i64_in _ (by omega)
  have ht : ((i : Int) + n).toNat = i + n := by omega
  have hin0 : (0 : Int) ≤ (i : Int) + n := by omega
  go_cut [90] (fun s90 wx => KW w wx R (rr s i ln cl o fc fn fl fcl) T (tkC 3 ⟨#[]⟩ v ln cl) [])
  case first =>
    go_region_with ((first | (go_at_call 132; refine (HNum.out _).mono ?_; rintro e y5 ⟨rfl, rfl⟩)))
    all_goals go_wp2_with fail
    all_goals go_meet
    all_goals exact ((KC.out.drew.setT 0 (.int .i64 3) (by simp)).setT 2 (.int .i64 v) (by simp))
  case rest =>
    have K2 := Lib.hid hcut
    clear hcut c0 c1 hl t0 t1 t2 t3 t4 g0 g1 g2 g3 g4 gl KC KB hw ht hin0
    obtain ⟨t0, t1, t2, t3, t4, g0, g1, g2, g3, g4, gl⟩ := K2.out.t.open5
    by_cases hv : 1099511627776 < v
    · have hv' : (1099511627776 : Int) < v := by omega
      have HT2 : Hid (tokR (s.data.toList.drop i) = .bad 21 ((s.data.toList.drop i).take (min n 40))) := Lib.hid (by rw [HTR.out, if_pos (by have := HV2.out; omega)])
      clear hv
      obtain ⟨⟨c0, c1, -⟩, -, hl⟩ := K2.out.r.open9
      obtain ⟨m, hm⟩ : ∃ m, m = min n 40 := ⟨_, rfl⟩
      have HX2 : Hid (s.extract i (i + m) = baOf ((s.data.toList.drop i).take (min n 40))) := Lib.hid (by rw [ext_ba, hm])
      have hmn : min (n : Int) 40 = (m : Int) := by omega
      have hmle : m ≤ n := by omega
      have hw : IntKind.i64.wrap ((i : Int) + m) = (i : Int) + m := IntWalk.i64_in _ (by omega)
      have ht : ((i : Int) + m).toNat = i + m := by omega
      have hin0 : (0 : Int) ≤ (i : Int) + m := by omega
      have hin1 : (i : Int) + m ≤ s.size := by omega
      have hin2 : (i : Int) ≤ (i : Int) + m := by omega
      clear hm
      go_wp2_with fail
      refine wp_region_still_tail 17 (by kernel_rfl) (by kernel_rfl) ?_
      simp only [List.take_succ_cons, List.take_zero, List.drop_succ_cons, List.drop_zero]
      change wpStill _ _ (World.drew wc) (fun a' => wpList _ _ _ _ a' (World.drew wc)) _ _
      repeat still_step
      refine wpStill_nil ?_
      have K3 := Lib.hid K2.out.drew
      clear hmn hw ht hin0 hin1 hin2 c0 c1 hl t0 t1 t2 t3 t4 g0 g1 g2 g3 g4 gl K2
      generalize wc.drew = w3 at K3 ⊢
      go_wp2_with (first
        | (go_at_call 81; (with_reducible refine (HF.out _ _ _ K3.out.r).mono ?_); rintro e y2 ⟨rfl, hk⟩; have K4 := Lib.hid (K3.out.turnR hk); clear hk))
      go_ret
      rw [HX2.out] at K4
      exact refTok_bad HT2.out rfl K4.out
    · have hv' : ¬ (1099511627776 : Int) < v := by omega
      have HT2 : Hid (tokR (s.data.toList.drop i) = .tok ⟨3, [], v⟩ n) := Lib.hid (by
        have e : v = valD 0 ((s.data.toList.drop i).take n) := by have := HV2.out; omega
        rw [HTR.out, if_neg (by rw [← e]; exact hv), ← e])
      clear hv
      go_wp2_with fail
      go_ret
      exact refTok_ok HT2.out rfl K2.out
end Go.Proofs.YtpmppndhfljcpaaGreatDoor
