/-
  The reference's reader: a token that is a name or a word.
-/
import Derived.Test.YtpmppndhfljcpaaGreatDoorQI
import Derived.Test.YtpmppndhfljcpaaGreatDoorQK
namespace Go.Proofs.YtpmppndhfljcpaaGreatDoor
open Go.RowKit

/-- What the reader's token leaves. -/
def RefTok (w : World) (R T : Nat) (s : ByteArray) (i : Nat) (ln cl : Int) (o : Value) (fc : Int) (fn : ByteArray) (fl fcl : Int) (e : Ending) (w' : World) : Prop :=
  match tokR (s.data.toList.drop i) with
  | .tok x len => e = .returned (.int .i64 len) ∧ KW w w' R (rr s i ln cl o fc fn fl fcl) T (tkC x.k (baOf x.t) x.n ln cl) []
  | .bad c nm => e = .returned (.int .i64 0) ∧ ∃ ds, KW w w' R (rr s i ln cl o c (baOf nm) ln cl) T ds []
theorem refTok_ok {w : World} {R T : Nat} {s : ByteArray} {i : Nat} {ln cl : Int} {o : Value} {fc : Int} {fn : ByteArray} {fl fcl : Int} {e : Ending} {w' : World} {x : Tk} {len : Nat} (h : tokR (s.data.toList.drop i) = .tok x len) (he : e = .returned (.int .i64 len)) (K : KW w w' R (rr s i ln cl o fc fn fl fcl) T (tkC x.k (baOf x.t) x.n ln cl) []) : RefTok w R T s i ln cl o fc fn fl fcl e w' := by
  unfold RefTok
  rw [h]
  exact ⟨he, K⟩
theorem refTok_bad {w : World} {R T : Nat} {s : ByteArray} {i : Nat} {ln cl : Int} {o : Value} {fc : Int} {fn : ByteArray} {fl fcl : Int} {e : Ending} {w' : World} {c : Int} {nm : Bs} {ds : List Value} (h : tokR (s.data.toList.drop i) = .bad c nm) (he : e = .returned (.int .i64 0)) (K : KW w w' R (rr s i ln cl o c (baOf nm) ln cl) T ds []) : RefTok w R T s i ln cl o fc fn fl fcl e w' := by
  unfold RefTok
  rw [h]
  exact ⟨he, ds, K⟩
set_option maxRecDepth 100000 in
set_option maxHeartbeats 4000000 in
theorem refTok_name (R T : Nat) (s : ByteArray) (i : Nat) (ln cl : Int) (o : Value) (fc : Int) (fn : ByteArray) (fl fcl : Int) (w : World) (hr : BL w R (rr s i ln cl o fc fn fl fcl)) (ht : BL w T (tkC 0 ⟨#[]⟩ 0 ln cl)) (hne : R ≠ T) (hs : s.size ≤ 4000000) (hi : i < s.size) (hc : smallB s[i] = true) :
    Calls Tryz.prog 80 #[.pointer (some ⟨R, 0, none⟩), .pointer (some ⟨T, 0, none⟩)] w (RefTok w R T s i ln cl o fc fn fl fcl) := by
  have HSZ : Hid (s.data.toList.length = s.size) := Lib.hid (by simp)
  have K0 := Lib.hid (KW.start hr ht hne)
  have HTR : Hid (tokR (s.data.toList.drop i) = if 30 < many namedB (s.data.toList.drop i) then .bad 21 ((s.data.toList.drop i).take 30) else .tok ⟨if words.contains ((s.data.toList.drop i).take (many namedB (s.data.toList.drop i))) = true then 2 else 1, (s.data.toList.drop i).take (many namedB (s.data.toList.drop i)), 0⟩ (many namedB (s.data.toList.drop i))) := Lib.hid (by
    rw [drop_cons s i hi, tokR_cons, if_pos hc])
  have hfit := skip_fits s.data.toList i namedB (by rw [HSZ.out]; omega)
  have HL := Lib.hid fun x => refSmall_ s[i] x
  rw [hc] at HL
  have HM := Lib.hid fun x hx => refMany_ R s i ln cl o fc fn fl fcl false x hx hs (by omega)
  have HF := Lib.hid fun c nm x hx => refFault_ R s i ln cl o fc fn fl fcl c nm x hx
  rw [show pickB false = namedB from rfl] at HM
  generalize hn : many namedB (s.data.toList.drop i) = n at *
  have HX := Lib.hid (ext_ba s i n)
  rw [HSZ.out] at hfit
  have hidx : (0 : Int) ≤ i := by omega
  have hilt : (i : Int) < s.size := by omega
  have hin : (i : Int) + n ≤ s.size := by omega
  have hni : (i : Int) ≤ (i : Int) + n := by omega
  have HNE := Lib.hid hne
  obtain ⟨⟨c0, c1, -⟩, -, hl⟩ := hr.open9
  clear hr ht hc hn hne
  go_enter Tryz.func80, Tryz.ntmps80
  go_wp2_with fail
  go_quiet (fail)
  have KB := Lib.hid (K0.out.below (Below.drewN w nq))
  clear c0 c1 hl K0
  go_wp2_with (first
    | (go_at_call 93; (with_reducible refine (HL.out _).mono ?_); rintro e y ⟨rfl, rfl⟩)
    | (go_at_call 130; (with_reducible refine (HM.out _ KB.out.r).mono ?_); rintro e y ⟨rfl, hb⟩; have KC := Lib.hid (KB.out.below hb); clear hb))
  have hrt : ¬ R = T := HNE.out
  have htr : ¬ T = R := fun e => HNE.out e.symm
  obtain ⟨⟨c0, c1, -⟩, -, hl⟩ := KC.out.r.open9
  obtain ⟨t0, t1, t2, t3, t4, g0, g1, g2, g3, g4, gl⟩ := KC.out.t.open5
  go_region
  have K2 : Hid (KW w (((y.setCell ⟨T, 0, none⟩ (.int .i64 1)).setCell ⟨T, 1, none⟩ (.string (s.extract i (i + n)))).drew) R (rr s i ln cl o fc fn fl fcl) T (tkC 1 (s.extract i (i + n)) 0 ln cl) []) := Lib.hid (((KC.out.setT 0 (.int .i64 1) (by simp)).setT 1 (.string (s.extract i (i + n))) (by simp)).drew)
  generalize (((y.setCell ⟨T, 0, none⟩ (.int .i64 1)).setCell ⟨T, 1, none⟩ (.string (s.extract i (i + n)))).drew) = w2 at K2 ⊢
  clear c0 c1 hl t0 t1 t2 t3 t4 g0 g1 g2 g3 g4 gl KC KB
  obtain ⟨t0, t1, t2, t3, t4, g0, g1, g2, g3, g4, gl⟩ := K2.out.t.open5
  have hsx : (s.extract i (i + n)).size = n := by simp; omega
  by_cases h30 : 30 < n
  · have HE : Hid ((s.extract i (i + n)).extract 0 30 = baOf ((s.data.toList.drop i).take 30)) := Lib.hid (by
      apply ba_ext
      have e := ext_data (s.extract i (i + n)) 0 30
      rw [Nat.zero_add] at e
      rw [e, ext_data, List.drop_zero, List.take_take, baOf_data, Nat.min_eq_left (by omega)])
    have h30' : (30 : Int) < n := by omega
    have HT2 : Hid (tokR (s.data.toList.drop i) = .bad 21 ((s.data.toList.drop i).take 30)) := Lib.hid (by rw [HTR.out, if_pos h30])
    have hx30 : (30 : Int) ≤ (s.extract i (i + n)).size := by rw [hsx]; omega
    go_wp2_with (first
      | (go_at_call 81; (with_reducible refine (HF.out _ _ _ K2.out.r).mono ?_); rintro e y2 ⟨rfl, hk⟩; have K3 := Lib.hid (K2.out.turnR hk); clear hk))
    go_ret
    rw [HE.out] at K3
    exact refTok_bad HT2.out rfl K3.out
  · have h30' : ¬ (30 : Int) < n := by omega
    have HW := Lib.hid fun x => refWord_ (s.extract i (i + n)) x (by rw [hsx]; omega)
    have HWs : Hid (memB words (s.extract i (i + n)).data.toList = words.contains ((s.data.toList.drop i).take n)) := Lib.hid (by rw [HX.out]; rfl)
    cases hw : memB words (s.extract i (i + n)).data.toList
    · rw [hw] at HW HWs
      have HT2 : Hid (tokR (s.data.toList.drop i) = .tok ⟨1, (s.data.toList.drop i).take n, 0⟩ n) := Lib.hid (by rw [HTR.out, if_neg h30, if_neg (by rw [← HWs.out]; simp)])
      clear hw
      go_wp2_with (first
        | (go_at_call 37; (with_reducible refine (HW.out _).mono ?_); rintro e y2 ⟨rfl, hb⟩; have K3 := Lib.hid (K2.out.below hb); clear hb))
      go_ret
      rw [HX.out] at K3
      exact refTok_ok HT2.out rfl K3.out
    · rw [hw] at HW HWs
      have HT2 : Hid (tokR (s.data.toList.drop i) = .tok ⟨2, (s.data.toList.drop i).take n, 0⟩ n) := Lib.hid (by rw [HTR.out, if_neg h30, if_pos HWs.out.symm])
      clear hw
      go_wp2_with (first
        | (go_at_call 37; (with_reducible refine (HW.out _).mono ?_); rintro e y2 ⟨rfl, hb⟩; have K3 := Lib.hid (K2.out.below hb); clear hb; clear t0 t1 t2 t3 t4 g0 g1 g2 g3 g4 gl; obtain ⟨t0, t1, t2, t3, t4, g0, g1, g2, g3, g4, gl⟩ := K3.out.t.open5))
      have K4 := Lib.hid (K3.out.setT 0 (.int .i64 2) (by simp))
      go_ret
      rw [HX.out] at K4
      exact refTok_ok HT2.out rfl K4.out
end Go.Proofs.YtpmppndhfljcpaaGreatDoor
