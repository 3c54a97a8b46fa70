/-
  The reference's reader: a token that is a sign.
-/
import Derived.Test.YtpmppndhfljcpaaGreatDoorQL
import Derived.Deep.RegionHeld3
namespace Go.Proofs.YtpmppndhfljcpaaGreatDoor
open Go.RowKit

theorem wkR {w z : World} {R T : Nat} {s : ByteArray} {i : Nat} {ln cl : Int} {o : Value} {fc : Int} {fn : ByteArray} {fl fcl : Int} {ds : List Value} {l : List (Nat × List Value)} (h : KW w z R (rr s i ln cl o fc fn fl fcl) T ds l) : (z.cell? ⟨R, 0, none⟩ = some (.string s) ∧ z.cell? ⟨R, 1, none⟩ = some (.int .i64 i)) ∧ KW w z R (rr s i ln cl o fc fn fl fcl) T ds l :=
  ⟨⟨h.r.g 0 _ rfl, h.r.g 1 _ rfl⟩, h⟩
theorem tokR_sign (s : ByteArray) (i : Nat) (hi : i < s.size) (hc : smallB s[i] = false) (hd : digitB s[i] = false) (h39 : (s[i] == 39) = false) : tokR (s.data.toList.drop i) = signR ((s.data.toList.drop i).take 2) s[i] := by
  rw [drop_cons s i hi, tokR_cons, if_neg (by rw [hc]; decide), if_neg (by rw [hd]; decide), if_neg (by rw [h39]; decide)]
theorem signR_two {two : Bs} {c : UInt8} (h : memB signs two = true) : signR two c = .tok ⟨5, two, 0⟩ two.length := if_pos h
theorem signR_one {two : Bs} {c : UInt8} (h : memB signs two = false ∨ two = [c]) (h1 : memB signs [c] = true) : signR two c = .tok ⟨5, [c], 0⟩ 1 := by
  have h1' : signs.contains [c] = true := h1
  unfold signR
  rcases h with h | h
  · have h' : signs.contains two = false := h
    rw [h', h1']
    rfl
  · subst h
    rw [h1']
    rfl
theorem signR_none {two : Bs} {c : UInt8} (h : memB signs two = false ∨ two = [c]) (h1 : memB signs [c] = false) : signR two c = .bad 10 [c] := by
  have h1' : signs.contains [c] = false := h1
  have h2 : signs.contains two = false := by
    rcases h with h | h
    · exact h
    · rw [h]; exact h1
  unfold signR
  rw [h1', h2]
  rfl
theorem take2_end (s : ByteArray) (i : Nat) (hi : i < s.size) (h : ¬ i + 2 ≤ s.size) : (s.data.toList.drop i).take 2 = [s[i]] := by
  rw [drop_cons s i hi, List.drop_of_length_le (by simp; show s.size ≤ i + 1; omega)]
  rfl
theorem take1_at (s : ByteArray) (i : Nat) (hi : i < s.size) : (s.data.toList.drop i).take 1 = [s[i]] := by
  rw [drop_cons s i hi]
  rfl
/-- The round of n bytes, behind which n - 1 are tried. -/
def SignAt (s : ByteArray) (i n : Nat) : Prop := (n = 2 ∨ memB signs ((s.data.toList.drop i).take 2) = false ∨ ¬ i + 2 ≤ s.size) ∧ (n = 0 → memB signs ((s.data.toList.drop i).take 1) = false)
theorem signAt_next {s : ByteArray} {i n : Nat} (h : SignAt s i n) (hi : i < s.size) (h1 : 1 ≤ n) (h2 : n ≤ 2) (hm : memB signs ((s.data.toList.drop i).take n) = false ∨ ¬ i + n ≤ s.size) : SignAt s i (n - 1) := by
  obtain rfl | rfl : n = 2 ∨ n = 1 := by omega
  · exact ⟨.inr hm, fun h => by cases h⟩
  · refine ⟨.inr ?_, fun _ => ?_⟩
    · rcases h.1 with q | q
      · cases q
      · exact q
    · rcases hm with q | q
      · exact q
      · omega
theorem signAt_tok {s : ByteArray} {i n : Nat} (h : SignAt s i n) (hi : i < s.size) (h1 : 1 ≤ n) (h2 : n ≤ 2) (hn : i + n ≤ s.size) (hm : memB signs ((s.data.toList.drop i).take n) = true) : signR ((s.data.toList.drop i).take 2) s[i] = .tok ⟨5, (s.data.toList.drop i).take n, 0⟩ n := by
  have hl : s.data.toList.length = s.size := by simp
  obtain rfl | rfl : n = 2 ∨ n = 1 := by omega
  · rw [signR_two hm, List.length_take, List.length_drop, hl, Nat.min_eq_left (by omega)]
  · rw [take1_at s i hi] at hm ⊢
    refine signR_one ?_ hm
    rcases h.1 with q | q | q
    · cases q
    · exact .inl q
    · exact .inr (take2_end s i hi q)
set_option maxRecDepth 100000 in
set_option maxHeartbeats 4000000 in
theorem refTok_sign (R T : Nat) (s : ByteArray) (i : Nat) (ln cl : Int) (o : Value) (fc : Int) (fn : ByteArray) (fl fcl : Int) (w : World) (hr : BL w R (rr s i ln cl o fc fn fl fcl)) (ht : BL w T (tkC 0 ⟨#[]⟩ 0 ln cl)) (hne : R ≠ T) (hs : s.size ≤ 4000000) (hi : i < s.size) (hc : smallB s[i] = false) (hd : digitB s[i] = false) (h39 : (s[i] == 39) = false) :
    Calls Tryz.prog 80 #[.pointer (some ⟨R, 0, none⟩), .pointer (some ⟨T, 0, none⟩)] w (RefTok w R T s i ln cl o fc fn fl fcl) := by
  have HSZ : Hid (s.data.toList.length = s.size) := Lib.hid (by simp)
  have K0 := Lib.hid (KW.start hr ht hne)
  have HTR := Lib.hid (tokR_sign s i hi hc hd h39)
  have HL := Lib.hid fun x => refSmall_ s[i] x
  rw [hc] at HL
  have HDG := Lib.hid fun x => refDigit_ s[i] x
  rw [hd] at HDG
  have HF := Lib.hid fun c nm x hx => refFault_ R s i ln cl o fc fn fl fcl c nm x hx
  have HIS := Lib.hid fun n x => refIsSign_ (s.extract i (i + n)) x
  have h39' := not39 h39
  have hidx : (0 : Int) ≤ i := by omega
  have hilt : (i : Int) < s.size := by omega
  have HNE := Lib.hid hne
  obtain ⟨⟨c0, c1, -⟩, -, hl⟩ := hr.open9
  clear hr ht hc hne hd h39
  go_enter Tryz.func80, Tryz.ntmps80
  go_wp2_with fail
  go_quiet (fail)
  have KB := Lib.hid (K0.out.below (Below.drewN w nq))
  clear c0 c1 hl K0
  go_wp2_with (first
    | (go_at_call 93; (with_reducible refine (HL.out _).mono ?_); rintro e y ⟨rfl, rfl⟩)
    | (go_at_call 131; (with_reducible refine (HDG.out _).mono ?_); rintro e y ⟨rfl, rfl⟩))
  go_loopw [10] (fun v x => ∃ n : Nat, n ≤ 2 ∧ v = .int .i64 n ∧ SignAt s i n ∧ KW w x R (rr s i ln cl o fc fn fl fcl) T (tkC 0 ⟨#[]⟩ 0 ln cl) []) (fun v x => (intOf v).toNat)
  case atStart => exact ⟨2, Nat.le_refl _, rfl, ⟨.inl rfl, fun h => by cases h⟩, KB.out⟩
  case round =>
    clear KB
    obtain ⟨n, hn, rfl, hS, hK⟩ := hrel
    have HS := Lib.hid hS
    have K := Lib.hid hK
    clear hS hK
    obtain ⟨⟨c0, c1, -⟩, -, hl⟩ := K.out.r.open9
    by_cases hn0 : n = 0
    · subst hn0
      have HT2 : Hid (tokR (s.data.toList.drop i) = .bad 10 [s[i]]) := Lib.hid (by
        have h1 := HS.out.2 rfl
        rw [take1_at s i hi] at h1
        rw [HTR.out]
        refine signR_none ?_ h1
        rcases HS.out.1 with q | q | q
        · cases q
        · exact .inl q
        · exact .inr (take2_end s i hi q))
      go_wp2_with fail
      have hrun : (convert 84 9 (.slice (some ⟨wr.heap.size, 0, none⟩) 1 1)).run Tryz.prog (wr.alloc (.cells #[.int .u8 s[i].toNat] 5)) = .ok (.string (baOf [s[i]])) (wr.alloc (.cells #[.int .u8 s[i].toNat] 5)) := run_string_own (OwnB.new wr [s[i]] (by simp))
      rw [hrun]
      clear hrun
      have K1 := Lib.hid (K.out.below (new1 wr (.cells #[.int .u8 s[i].toNat] 5)))
      go_wp2_with (first
        | (go_at_call 81; (with_reducible refine (HF.out _ _ _ K1.out.r).mono ?_); rintro e y2 ⟨rfl, hk⟩; have K4 := Lib.hid (K1.out.turnR hk); clear hk))
      go_ret
      exact refTok_bad HT2.out rfl K4.out
    · have hn1 : (1 : Int) ≤ n := by omega
      have hw : IntKind.i64.wrap ((i : Int) + n) = (i : Int) + n := IntWalk.i64_in _ (by omega)
      by_cases hin : i + n ≤ s.size
      · have hin' : (i : Int) + n ≤ s.size := by omega
        have hin0 : (0 : Int) ≤ (i : Int) + n := by omega
        have hin2 : (i : Int) ≤ (i : Int) + n := by omega
        have ht : ((i : Int) + n).toNat = i + n := by omega
        have HI := Lib.hid fun x => HIS.out n x
        have HX := Lib.hid (ext_ba s i n)
        cases hm : memB signs (s.extract i (i + n)).data.toList
        · rw [hm] at HI
          go_wp2_with fail
          go_region_held3 (fun z => (z.cell? ⟨R, 0, none⟩ = some (.string s) ∧ z.cell? ⟨R, 1, none⟩ = some (.int .i64 i)) ∧ KW w z R (rr s i ln cl o fc fn fl fcl) T (tkC 0 ⟨#[]⟩ 0 ln cl) [])
            (first | exact wkR K.out.drew | (obtain ⟨_, hk⟩ := ‹_ ∧ _›; exact wkR (hk.below hb)))
            (first | (go_at_call 134; refine (HI.out _).mono ?_; rintro e w1 ⟨rfl, hb⟩))
          all_goals
            rename_i hH
            have K2 := Lib.hid hH.2
            clear hH
            go_wp2_with fail
            go_roundw
            case rel =>
              refine ⟨n - 1, by omega, ?_, signAt_next HS.out hi (by omega) hn (.inl (by rw [HX.out] at hm; exact hm)), K2.out⟩
              congr 1
              omega
            case measure => simp [intOf]; omega
        · rw [hm] at HI
          have HT2 : Hid (tokR (s.data.toList.drop i) = .tok ⟨5, (s.data.toList.drop i).take n, 0⟩ n) := Lib.hid (by
            rw [HX.out] at hm
            rw [HTR.out]
            exact signAt_tok HS.out hi (by omega) hn hin hm)
          clear hm
          go_wp2_with fail
          go_region_held3 (fun z => (z.cell? ⟨R, 0, none⟩ = some (.string s) ∧ z.cell? ⟨R, 1, none⟩ = some (.int .i64 i)) ∧ KW w z R (rr s i ln cl o fc fn fl fcl) T (tkC 0 ⟨#[]⟩ 0 ln cl) [])
            (first | exact wkR K.out.drew | (obtain ⟨_, hk⟩ := ‹_ ∧ _›; exact wkR (hk.below hb)))
            (first | (go_at_call 134; refine (HI.out _).mono ?_; rintro e w1 ⟨rfl, hb⟩))
          all_goals
            rename_i zz hH
            have K2 := Lib.hid hH.2
            clear hH c0 c1 hl
            have hrt : ¬ R = T := HNE.out
            have htr : ¬ T = R := fun e => HNE.out e.symm
            obtain ⟨⟨c0, c1, -⟩, -, hl⟩ := K2.out.r.open9
            obtain ⟨t0, t1, t2, t3, t4, g0, g1, g2, g3, g4, gl⟩ := K2.out.t.open5
            go_wp2_with fail
            go_region
            have K3 := Lib.hid (((K2.out.setT 0 (.int .i64 5) (by simp)).setT 1 (.string (s.extract i (i + n))) (by simp)).drew)
            go_wp2_with fail
            go_ret
            refine refTok_ok HT2.out rfl ?_
            show KW w _ R _ T (tkC 5 (baOf ((s.data.toList.drop i).take n)) 0 ln cl) []
            rw [← HX.out]
            exact K3.out
      · have hin' : decide ((i : Int) + n ≤ s.size) = false := by simp; omega
        go_wp2
        go_quiet (fail)
        go_wp2
        have K2 := Lib.hid (K.out.below (Below.drewN wr nq))
        go_roundw
        case rel =>
          refine ⟨n - 1, by omega, ?_, signAt_next HS.out hi (by omega) hn (.inr hin), K2.out⟩
          congr 1
          omega
        case measure => simp [intOf]; omega
end Go.Proofs.YtpmppndhfljcpaaGreatDoor
