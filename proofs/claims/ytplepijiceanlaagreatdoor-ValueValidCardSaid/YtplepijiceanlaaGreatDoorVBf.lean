/-
  The law of valid values: its walk, statement by statement.
-/
import Derived.Test.YtplepijiceanlaaGreatDoorVB
import Derived.Deep.RegionHeld3
import Derived.Deep.RegionWith
namespace Go.Proofs.YtplepijiceanlaaGreatDoor
open Go.RowKit
set_option maxRecDepth 100000 in
set_option maxHeartbeats 40000000 in
theorem vv3 (w x : World) (A B : Option Addr) (ca cb : Nat) (la lb : List Va) (u2 u3 u4 u5 u6 u7 u8 u9 u10 u11 u12 u13 u14 u15 u16 u17 u18 u19 u20 u21 u22 u23 u24 u25 u26 u27 u28 u29 u30 u31 u32 u33 u34 u35 u36 u37 u38 u39 u40 u41 u42 u43 u44 u45 u46 u47 u48 u49 u50 u51 u52 u53 u54 u55 u56 u57 u58 u59 u60 u61 u62 u63 u64 u65 u66 u67 u68 u69 u70 u71 u72 u73 : Value) (hA : Awk) (hg : Gl w) (hla : la.length ≤ maxLen) (hlb : lb.length ≤ maxLen) (sa : Sl w A la) (sb : Sl w B lb) (za : ∀ v ∈ la, v.s.size ≤ maxLen) (hK : KL w x []) :
    Code.wp Tryz.prog (tailC 3 (Tryz.f3.body.getD .skip)) (Ends3 w) ⟨List.toArray (.slice A la.length ca :: .slice B lb.length cb :: u2 :: u3 :: u4 :: u5 :: u6 :: u7 :: u8 :: u9 :: u10 :: u11 :: u12 :: u13 :: u14 :: u15 :: u16 :: u17 :: u18 :: u19 :: u20 :: u21 :: u22 :: u23 :: u24 :: u25 :: u26 :: u27 :: u28 :: u29 :: u30 :: u31 :: u32 :: u33 :: u34 :: u35 :: u36 :: u37 :: u38 :: u39 :: u40 :: u41 :: u42 :: u43 :: u44 :: u45 :: u46 :: u47 :: u48 :: u49 :: u50 :: u51 :: u52 :: u53 :: u54 :: u55 :: u56 :: u57 :: u58 :: u59 :: u60 :: u61 :: u62 :: u63 :: u64 :: u65 :: u66 :: u67 :: u68 :: u69 :: u70 :: u71 :: u72 :: u73 :: []), []⟩ x := by
  have K := Lib.hid hK
  clear hK
  conv => arg 2; whnf
  have HA := Lib.hid hA
  have HG := Lib.hid hg
  have LA := Lib.hid hla
  have LB := Lib.hid hlb
  have SA := Lib.hid sa
  have SB := Lib.hid sb
  have ZA := Lib.hid za
  clear hA hg sa sb za
  obtain ⟨r, hr⟩ : ∃ r : Bool, (decide (la.length ≤ 20) && allOk la) = r := ⟨_, rfl⟩
  obtain ⟨m, hm⟩ : ∃ m : Bool, rowEq la lb = m := ⟨_, rfl⟩
  have I1 := fun (x : World) (h : Below w.heap.size w x) => isRow_ A ca la x LA.out (SA.out.below h)
  have I2 := fun (x : World) (h : Below w.heap.size w x) => refIsRow_ A ca la x LA.out ZA.out (SA.out.below h)
  have I3 := fun (x : World) (h : Below w.heap.size w x) => sameRow_ A B ca cb la lb x LA.out (SA.out.below h) (SB.out.below h)
  have I4 := fun (x : World) (h : Below w.heap.size w x) => refSameRow_ A B ca cb la lb x LA.out (SA.out.below h) (SB.out.below h)
  rw [hr] at I1 I2
  rw [hm] at I3 I4
  have I1 := Lib.hid I1
  have I2 := Lib.hid I2
  have I3 := Lib.hid I3
  have I4 := Lib.hid I4
  clear hr hm hla hlb
  have er : (r == r) = true := by simp
  have em : (m == m) = true := by simp
  go_wp2_with (first
    | (go_at_call 21; (with_reducible refine (I1.out _ K.out.HB).mono ?_); rintro e y ⟨rfl, hy⟩; have K' := Lib.hid (KL.below K.out hy); clear hy K; have K := K'; clear K')
    | (go_at_call 22; (with_reducible refine (I2.out _ K.out.HB).mono ?_); rintro e y ⟨rfl, hy⟩; have K' := Lib.hid (KL.below K.out hy); clear hy K; have K := K'; clear K')
    | (go_at_call 23; (with_reducible refine (I3.out _ K.out.HB).mono ?_); rintro e y ⟨rfl, hy⟩; have K' := Lib.hid (KL.below K.out hy); clear hy K; have K := K'; clear K')
    | (go_at_call 24; (with_reducible refine (I4.out _ K.out.HB).mono ?_); rintro e y ⟨rfl, hy⟩; have K' := Lib.hid (KL.below K.out hy); clear hy K; have K := K'; clear K')
    | (go_at_call 14; (with_reducible refine (awk_at HA.out _ (Gl.below HG.out K.out.HB)).mono ?_); rintro e y ⟨rfl, hy⟩; have HE := Lib.hid (K.out.HB.trans (hy.mono K.out.HB.size)); clear hy))
  go_ret
  exact ⟨rfl, HE.out⟩
end Go.Proofs.YtplepijiceanlaaGreatDoor
