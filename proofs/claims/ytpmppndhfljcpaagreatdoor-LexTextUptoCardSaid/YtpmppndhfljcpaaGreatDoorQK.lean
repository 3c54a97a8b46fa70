/-
  The reference's reader: blanks and comments.
-/
import Derived.Test.YtpmppndhfljcpaaGreatDoorQJ
namespace Go.Proofs.YtpmppndhfljcpaaGreatDoor
open Go.RowKit

abbrev rp (s : ByteArray) (i : Nat) (o : Value) (fc : Int) (fn : ByteArray) (fl fcl : Int) : List Value := rr s i (placeP (s.data.toList.take i)).1 (placeP (s.data.toList.take i)).2 o fc fn fl fcl
theorem refStep1_ (R : Nat) (s : ByteArray) (i : Nat) (o : Value) (fc : Int) (fn : ByteArray) (fl fcl : Int) (w : World) (h : BL w R (rp s i o fc fn fl fcl)) (hs : s.size ≤ 4000000) (hi : i < s.size) :
    Calls Tryz.prog 83 #[.pointer (some ⟨R, 0, none⟩), .int .i64 1] w fun e w' => e = .returned (.tuple #[]) ∧ KR w w' R (rp s (i + 1) o fc fn fl fcl) [] := refStep_ R s i 1 o fc fn fl fcl w h hs (by omega)
theorem eqI {c : UInt8} (d : UInt8) (h : c = d) : ((c.toNat : Int) == (d.toNat : Int)) = true := by rw [h]; simp
theorem neI {c : UInt8} (d : UInt8) (h : c ≠ d) : ((c.toNat : Int) == (d.toNat : Int)) = false := by rw [byte_eq']; simpa using h
theorem atOf_rr {R : Nat} {x : World} {s : ByteArray} {i : Nat} {ln cl : Int} {o : Value} {fc : Int} {fn : ByteArray} {fl fcl : Int} (h : BL x R (rr s i ln cl o fc fn fl fcl)) : atOf R x = i := by
  unfold atOf
  rw [h.g 1 _ rfl]
  simp
set_option maxRecDepth 100000 in
set_option maxHeartbeats 4000000 in
theorem refSkip_ (R : Nat) (s : ByteArray) (i : Nat) (o : Value) (fc : Int) (fn : ByteArray) (fl fcl : Int) (w : World) (h : BL w R (rp s i o fc fn fl fcl)) (hs : s.size ≤ 4000000) (hi : i ≤ s.size) :
    Calls Tryz.prog 79 #[.pointer (some ⟨R, 0, none⟩)] w fun e w' => e = .returned (.tuple #[]) ∧ KR w w' R (rp s (i + skipL false (s.data.toList.drop i)) o fc fn fl fcl) [] := by
  have HSZ : Hid (s.data.toList.length = s.size) := Lib.hid (by simp)
  have K0 := Lib.hid (KR.start h)
  clear h
  go_enter Tryz.func79, Tryz.ntmps79
  go_wp2_with fail
  go_loopw [2] (fun v x => ∃ p : Nat, p ≤ s.size ∧ i + skipL false (s.data.toList.drop i) = p + skipL false (s.data.toList.drop p) ∧ KR w x R (rp s p o fc fn fl fcl) []) (fun v x => s.size - atOf R x)
  case atStart => exact ⟨i, hi, rfl, K0.out⟩
  case round =>
    clear K0
    obtain ⟨p, hp, hE, hK⟩ := hrel
    have HE := Lib.hid hE
    have K := Lib.hid hK
    clear hE hK
    have HA := Lib.hid (atOf_rr K.out.r)
    obtain ⟨⟨c0, c1, -⟩, -, hl⟩ := K.out.r.open9
    by_cases hlt : p < s.size
    · have hlt' : (p : Int) < s.size := by omega
      have HDR := Lib.hid (drop_cons s p hlt)
      have HST := Lib.hid fun x hx => refStep1_ R s p o fc fn fl fcl x hx hs hlt
      by_cases hbl : blankB s[p] = true
      · have HE2 : Hid (i + skipL false (s.data.toList.drop i) = p + 1 + skipL false (s.data.toList.drop (p + 1))) := Lib.hid (by rw [HE.out, HDR.out, skip_blank _ hbl]; omega)
        simp only [blankB, Bool.or_eq_true, beq_iff_eq] at hbl
        rcases hbl with ((h1 | h1) | h1) | h1
        · have hc : (s[p].toNat : Int) = 32 := by rw [h1]; rfl
          clear h1
          go_wp2
          go_quiet (fail)
          go_wp2
          go_quiet (fail)
          go_wp2_with (first
            | (go_at_call 83; (with_reducible refine (HST.out _ (K.out.below (Below.drewN _ _)).r).mono ?_); rintro e y ⟨rfl, hk⟩; have K2 := Lib.hid ((K.out.below (Below.drewN _ _)).turn2 hk); clear hk))
          go_roundw
          case rel => exact ⟨p + 1, by omega, HE2.out, K2.out⟩
          case measure => rw [atOf_rr K2.out.r, HA.out]; omega
        · have hc : (s[p].toNat : Int) = 9 := by rw [h1]; rfl
          clear h1
          go_wp2
          go_quiet (fail)
          go_wp2
          go_quiet (fail)
          go_wp2_with (first
            | (go_at_call 83; (with_reducible refine (HST.out _ (K.out.below (Below.drewN _ _)).r).mono ?_); rintro e y ⟨rfl, hk⟩; have K2 := Lib.hid ((K.out.below (Below.drewN _ _)).turn2 hk); clear hk))
          go_roundw
          case rel => exact ⟨p + 1, by omega, HE2.out, K2.out⟩
          case measure => rw [atOf_rr K2.out.r, HA.out]; omega
        · have hc : (s[p].toNat : Int) = 10 := by rw [h1]; rfl
          clear h1
          go_wp2
          go_quiet (fail)
          go_wp2
          go_quiet (fail)
          go_wp2_with (first
            | (go_at_call 83; (with_reducible refine (HST.out _ (K.out.below (Below.drewN _ _)).r).mono ?_); rintro e y ⟨rfl, hk⟩; have K2 := Lib.hid ((K.out.below (Below.drewN _ _)).turn2 hk); clear hk))
          go_roundw
          case rel => exact ⟨p + 1, by omega, HE2.out, K2.out⟩
          case measure => rw [atOf_rr K2.out.r, HA.out]; omega
        · have hc : (s[p].toNat : Int) = 13 := by rw [h1]; rfl
          clear h1
          go_wp2
          go_quiet (fail)
          go_wp2
          go_quiet (fail)
          go_wp2_with (first
            | (go_at_call 83; (with_reducible refine (HST.out _ (K.out.below (Below.drewN _ _)).r).mono ?_); rintro e y ⟨rfl, hk⟩; have K2 := Lib.hid ((K.out.below (Below.drewN _ _)).turn2 hk); clear hk))
          go_roundw
          case rel => exact ⟨p + 1, by omega, HE2.out, K2.out⟩
          case measure => rw [atOf_rr K2.out.r, HA.out]; omega
      · have hbl' : blankB s[p] = false := by simpa using hbl
        have n32 : ((s[p].toNat : Int) == 32) = false := neI 32 (fun e => by rw [e] at hbl'; cases hbl')
        have n9 : ((s[p].toNat : Int) == 9) = false := neI 9 (fun e => by rw [e] at hbl'; cases hbl')
        have n10 : ((s[p].toNat : Int) == 10) = false := neI 10 (fun e => by rw [e] at hbl'; cases hbl')
        have n13 : ((s[p].toNat : Int) == 13) = false := neI 13 (fun e => by rw [e] at hbl'; cases hbl')
        have HBL := Lib.hid hbl'
        clear hbl hbl'
        by_cases h45 : s[p] = 45
        · have e45 : ((s[p].toNat : Int) == 45) = true := eqI 45 h45
          have H45 := Lib.hid h45
          clear h45
          have hw : IntKind.i64.wrap ((p : Int) + 1) = (p : Int) + 1 := IntWalk.i64_in _ (by omega)
          by_cases hp1 : p + 1 < s.size
          · have hp1' : (p : Int) + 1 < s.size := by omega
            have ht : ((p : Int) + 1).toNat = p + 1 := by omega
            have hp0 : (0 : Int) ≤ (p : Int) + 1 := by omega
            have HDR2 := Lib.hid (drop_cons s (p + 1) hp1)
            by_cases g45 : s[p + 1] = 45
            · have k45 : ((s[p + 1].toNat : Int) == 45) = true := eqI 45 g45
              have G45 := Lib.hid g45
              clear g45
              have HME := Lib.hid (pre_pos (s.data.toList.drop p) (by rw [HDR.out, HDR2.out, H45.out, G45.out]; rfl))
              have HE2 : Hid (i + skipL false (s.data.toList.drop i) = p + (many (fun c => c != 10) (s.data.toList.drop p) + skipL false (s.data.toList.drop (p + many (fun c => c != 10) (s.data.toList.drop p))))) := Lib.hid (by
                have e : s.data.toList.drop p = 45 :: 45 :: s.data.toList.drop (p + 1 + 1) := by rw [HDR.out, HDR2.out, H45.out, G45.out]
                rw [HE.out, ← List.drop_drop, e, ← skip_dash])
              have KX : Hid (∀ a b, KR w ((wr.drewN a).drewN b) R (rp s p o fc fn fl fcl) []) := Lib.hid fun a b => (K.out.below (Below.drewN _ _)).below (Below.drewN _ _)
              clear HST
              go_wp2
              go_quiet (fail)
              go_wp2
              go_quiet (fail)
              go_wp2
              go_quiet (fail)
              go_wp2
              have HN := Lib.hid hlt
              go_loopw [89] (fun v x => ∃ q : Nat, p ≤ q ∧ q ≤ s.size ∧ many (fun c => c != 10) (s.data.toList.drop p) = (q - p) + many (fun c => c != 10) (s.data.toList.drop q) ∧ KR w x R (rp s q o fc fn fl fcl) []) (fun v x => s.size - atOf R x)
              case atStart => exact ⟨p, Nat.le_refl _, hp, by omega, KX.out _ _⟩
              case round =>
                obtain ⟨q, hq0, hq, hM, hK⟩ := hrel
                have HM := Lib.hid hM
                have K2 := Lib.hid hK
                clear hM hK KX c0 c1 hl n32 n9 n10 n13 e45 k45
                have HA2 := Lib.hid (atOf_rr K2.out.r)
                obtain ⟨⟨c0, c1, -⟩, -, hl⟩ := K2.out.r.open9
                by_cases hlq : q < s.size
                · have hlq' : (q : Int) < s.size := by omega
                  obtain ⟨hkl, hge⟩ := sub_cells hlq
                  have HST := Lib.hid fun x hx => refStep1_ R s q o fc fn fl fcl x hx hs hlq
                  by_cases h10 : s[q] = 10
                  · have e10a : ((s[q].toNat : Int) == 10) = true := eqI 10 h10
                    have e10 : ((s[q].toNat : Int) != 10) = false := by rw [bne, e10a]; rfl
                    have HE3 : Hid (i + skipL false (s.data.toList.drop i) = q + skipL false (s.data.toList.drop q)) := Lib.hid (by
                      have e1 := HM.out
                      rw [many_end (p := fun c => c != 10) (l := s.data.toList) (k := q) (fun h => by rw [hge h, h10]; rfl)] at e1
                      have e2 := HE2.out
                      rw [e1, show p + (q - p + 0) = q by omega] at e2
                      omega)
                    have hqp : p < q := by
                      have e1 := HM.out
                      rw [many_end (p := fun c => c != 10) (l := s.data.toList) (k := q) (fun h => by rw [hge h, h10]; rfl)] at e1
                      have := HME.out
                      omega
                    clear h10 hge
                    go_wp2
                    go_quiet (fail)
                    go_wp2
                    go_roundw
                    case rel => exact ⟨q, hq, HE3.out, K2.out.below (Below.drewN _ _)⟩
                    case measure => rw [atOf_rr (K2.out.below (Below.drewN _ _)).r, HA.out]; omega
                  · have e10a : ((s[q].toNat : Int) == 10) = false := neI 10 h10
                    have e10 : ((s[q].toNat : Int) != 10) = true := by rw [bne, e10a]; rfl
                    have HM2 := Lib.hid (many_more hkl (by rw [hge hkl]; simpa using h10) p HM.out hq0)
                    clear h10 hge
                    go_wp2
                    go_quiet (fail)
                    go_wp2_with (first
                      | (go_at_call 83; (with_reducible refine (HST.out _ (K2.out.below (Below.drewN _ _)).r).mono ?_); rintro e y ⟨rfl, hk⟩; have K3 := Lib.hid ((K2.out.below (Below.drewN _ _)).turn2 hk); clear hk))
                    go_roundw
                    case rel => exact ⟨q + 1, by omega, by omega, HM2.out, K3.out⟩
                    case measure => rw [atOf_rr K3.out.r, HA2.out]; omega
                · obtain rfl : q = s.size := by omega
                  have hge : decide ((s.size : Int) < s.size) = false := by simp
                  have e0 : many (fun c => c != 10) (s.data.toList.drop s.size) = 0 := many_end (fun h => by have := HSZ.out; omega)
                  have HE3 : Hid (i + skipL false (s.data.toList.drop i) = s.size + skipL false (s.data.toList.drop s.size)) := Lib.hid (by
                    have e1 := HM.out
                    rw [e0] at e1
                    have e2 := HE2.out
                    rw [e1, show p + (s.size - p + 0) = s.size by omega] at e2
                    omega)
                  have hqp : p < s.size := HN.out
                  clear e0
                  go_wp2
                  go_quiet (fail)
                  go_wp2
                  go_roundw
                  case rel => exact ⟨s.size, Nat.le_refl _, HE3.out, K2.out.below (Below.drewN _ _)⟩
                  case measure => rw [atOf_rr (K2.out.below (Below.drewN _ _)).r, HA.out]; omega
            · have k45 : ((s[p + 1].toNat : Int) == 45) = false := neI 45 g45
              have HE2 : Hid (i + skipL false (s.data.toList.drop i) = p) := Lib.hid (by rw [HE.out, HDR.out, skip_stop _ HBL.out (.inr (by rw [HDR2.out]; simpa using g45))]; rfl)
              clear g45
              go_wp2
              go_quiet (fail)
              go_wp2
              go_quiet (fail)
              go_wp2
              go_quiet (fail)
              go_wp2
              (try simp only [Exit.inBlock, Exit.then]); refine bodyPost_ret (results_none rfl _ _ _) rfl ?_
              exact ⟨rfl, by rw [HE2.out]; exact (K.out.below (Below.drewN _ _)).below (Below.drewN _ _)⟩
          · have hp1' : decide ((p : Int) + 1 < s.size) = false := by simp; omega
            have HE2 : Hid (i + skipL false (s.data.toList.drop i) = p) := Lib.hid (by rw [HE.out, HDR.out, skip_stop _ HBL.out (.inr (by rw [List.drop_of_length_le (by have := HSZ.out; omega)]; simp))]; rfl)
            go_wp2
            go_quiet (fail)
            go_wp2
            go_quiet (fail)
            go_wp2
            go_quiet (fail)
            go_wp2
            (try simp only [Exit.inBlock, Exit.then]); refine bodyPost_ret (results_none rfl _ _ _) rfl ?_
            exact ⟨rfl, by rw [HE2.out]; exact (K.out.below (Below.drewN _ _)).below (Below.drewN _ _)⟩
        · have e45 : ((s[p].toNat : Int) == 45) = false := neI 45 h45
          have HE2 : Hid (i + skipL false (s.data.toList.drop i) = p) := Lib.hid (by rw [HE.out, HDR.out, skip_stop _ HBL.out (.inl h45)]; rfl)
          clear h45
          go_wp2
          go_quiet (fail)
          go_wp2
          go_quiet (fail)
          go_wp2
          go_quiet (fail)
          go_wp2
          (try simp only [Exit.inBlock, Exit.then]); refine bodyPost_ret (results_none rfl _ _ _) rfl ?_
          exact ⟨rfl, by rw [HE2.out]; exact (K.out.below (Below.drewN _ _)).below (Below.drewN _ _)⟩
    · obtain rfl : p = s.size := by omega
      have hge : decide ((s.size : Int) < s.size) = false := by simp
      have HE2 : Hid (i + skipL false (s.data.toList.drop i) = s.size) := Lib.hid (by
        rw [HE.out, show s.data.toList.drop s.size = [] from List.drop_of_length_le (by rw [HSZ.out]; exact Nat.le_refl _)]
        rfl)
      go_wp2
      go_quiet (fail)
      go_wp2
      go_end0
      exact ⟨rfl, by rw [HE2.out]; exact K.out.below (Below.drewN _ _)⟩
end Go.Proofs.YtpmppndhfljcpaaGreatDoor
