/-
  The law of valid values: its walk, statement by statement.
-/
import Derived.Test.YtplepijiceanlaaGreatDoorVBe
import Derived.Deep.RegionHeld3
import Derived.Deep.RegionWith
namespace Go.Proofs.YtplepijiceanlaaGreatDoor
open Go.RowKit
set_option maxRecDepth 100000 in
set_option maxHeartbeats 40000000 in
theorem vv1 (w x : World) (A B : Option Addr) (ca cb : Nat) (la lb : List Va) (u2 u3 u4 u5 u6 u7 u8 u9 u10 u11 u12 u13 u14 u15 u16 u17 u18 u19 u20 u21 u22 u23 u24 u25 u26 u27 u28 u29 u30 u31 u32 u33 u34 u35 u36 u37 u38 u39 u40 u41 u42 u43 u44 u45 u46 u47 u48 u49 u50 u51 u52 u53 u54 u55 u56 u57 u58 u59 u60 u61 u62 u63 u64 u65 u66 u67 u68 u69 u70 u71 u72 u73 : Value) (hA : Awk) (hg : Gl w) (hla : la.length ≤ maxLen) (hlb : lb.length ≤ maxLen) (sa : Sl w A la) (sb : Sl w B lb) (za : ∀ v ∈ la, v.s.size ≤ maxLen) (hK : KL w x []) :
    Code.wp Tryz.prog (tailC 1 (Tryz.f3.body.getD .skip)) (Ends3 w) ⟨List.toArray (.slice A la.length ca :: .slice B lb.length cb :: u2 :: u3 :: u4 :: u5 :: u6 :: u7 :: u8 :: u9 :: u10 :: u11 :: u12 :: u13 :: u14 :: u15 :: u16 :: u17 :: u18 :: u19 :: u20 :: u21 :: u22 :: u23 :: u24 :: u25 :: u26 :: u27 :: u28 :: u29 :: u30 :: u31 :: u32 :: u33 :: u34 :: u35 :: u36 :: u37 :: u38 :: u39 :: u40 :: u41 :: u42 :: u43 :: u44 :: u45 :: u46 :: u47 :: u48 :: u49 :: u50 :: u51 :: u52 :: u53 :: u54 :: u55 :: u56 :: u57 :: u58 :: u59 :: u60 :: u61 :: u62 :: u63 :: u64 :: u65 :: u66 :: u67 :: u68 :: u69 :: u70 :: u71 :: u72 :: u73 :: []), []⟩ x := by
  have K := Lib.hid hK
  clear hK
  conv => arg 2; whnf
  refine wp_seq_k (fun Kont hKont => ?_)
  have HK := Lib.hid hKont
  clear hKont
  have HA := Lib.hid hA
  have HG := Lib.hid hg
  have LA := Lib.hid hla
  have LB := Lib.hid hlb
  have SA := Lib.hid sa
  have SB := Lib.hid sb
  have ZA := Lib.hid za
  clear hA hg sa sb za
  clear hla hlb
  go_wp2_with (first
    | (go_at_call 13; (with_reducible refine (few_ A _ _ _ LA.out (SA.out.below K.out.HB)).mono ?_); rintro e y ⟨⟨bb, rfl⟩, hy⟩; have K' := Lib.hid (KL.below K.out hy); clear hy K; have K := K'; clear K'; cases bb)
    | (go_at_call 13; (with_reducible refine (few_ B _ _ _ LB.out (SB.out.below K.out.HB)).mono ?_); rintro e y ⟨⟨bb, rfl⟩, hy⟩; have K' := Lib.hid (KL.below K.out hy); clear hy K; have K := K'; clear K'; cases bb)
    | (go_at_call 14; (with_reducible refine (awk_at HA.out _ (Gl.below HG.out K.out.HB)).mono ?_); rintro e y ⟨rfl, hy⟩; have HE := Lib.hid (K.out.HB.trans (hy.mono K.out.HB.size)); clear hy))
  all_goals first
    | (go_ret; exact ⟨rfl, HE.out⟩)
    | exact HK.out _ _ (vv2 _ _ _ _ _ _ _ _ _ _ _ _ _ _ _ _ _ _ _ _ _ _ _ _ _ _ _ _ _ _ _ _ _ _ _ _ _ _ _ _ _ _ _ _ _ _ _ _ _ _ _ _ _ _ _ _ _ _ _ _ _ _ _ _ _ _ _ _ _ _ _ _ _ _ _ _ _ _ _ _ HA.out HG.out LA.out LB.out SA.out SB.out ZA.out K.out)
set_option maxRecDepth 100000 in
set_option maxHeartbeats 40000000 in
/-- The law of valid values. -/
theorem valueValid_ (hA : Awk) (A B : Option Addr) (ca cb : Nat) (la lb : List Va) (w : World) (hg : Gl w) (hla : la.length ≤ maxLen) (hlb : lb.length ≤ maxLen) (sa : Sl w A la) (sb : Sl w B lb) (za : ∀ v ∈ la, v.s.size ≤ maxLen) :
    Calls Tryz.prog 3 #[.slice A la.length ca, .slice B lb.length cb] w fun e w' => e = .returned (.bool true) ∧ Below w.heap.size w w' := by
  have HA := Lib.hid hA
  have HG := Lib.hid hg
  have LA := Lib.hid hla
  have LB := Lib.hid hlb
  have SA := Lib.hid sa
  have SB := Lib.hid sb
  have ZA := Lib.hid za
  clear hA hg sa sb za
  clear hla hlb
  go_enter Tryz.func3, Tryz.ntmps3
  refine wp_seq_k (fun Kont hKont => ?_)
  have HK := Lib.hid hKont
  clear hKont
  go_wp2_with fail
  exact HK.out _ _ (vv1 _ _ _ _ _ _ _ _ _ _ _ _ _ _ _ _ _ _ _ _ _ _ _ _ _ _ _ _ _ _ _ _ _ _ _ _ _ _ _ _ _ _ _ _ _ _ _ _ _ _ _ _ _ _ _ _ _ _ _ _ _ _ _ _ _ _ _ _ _ _ _ _ _ _ _ _ _ _ _ _ HA.out HG.out LA.out LB.out SA.out SB.out ZA.out (KL.refl w))
end Go.Proofs.YtplepijiceanlaaGreatDoor
