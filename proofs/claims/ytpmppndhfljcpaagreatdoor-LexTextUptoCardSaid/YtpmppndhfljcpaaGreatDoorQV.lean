/-
  The reference's string of tokens; the law's own count of them.
-/
import Derived.Test.YtpmppndhfljcpaaGreatDoorQP
import Derived.Test.YtpmppndhfljcpaaGreatDoorQS
namespace Go.Proofs.YtpmppndhfljcpaaGreatDoor
open Go.RowKit

theorem joinT_len (l : List Tv) (k : Nat) (hk : k ≤ l.length) (h : okL (l.take k) = true) : (joinT (l.take k)).length ≤ 403 * k := by
  induction k with
  | zero => simp [joinT, joinW]
  | succ n ih =>
    have hn : n < l.length := by omega
    rw [okL_take l n hn, Bool.and_eq_true] at h
    have h1 := ih (by omega) h.1
    have h2 := writ_short l[n].tk h.2
    rw [joinT_take l n hn, List.length_append, List.length_append]
    split <;> simp <;> omega
set_option maxRecDepth 100000 in
set_option maxHeartbeats 4000000 in
theorem refTextL_ (A : Option Addr) (c : Nat) (l : List Tv) (w : World) (hl : l.length ≤ 1100000) (hz : ∀ v ∈ l, v.t.size ≤ 4000000) (ha : SlT w A l) :
    Calls Tryz.prog 35 #[.slice A l.length c] w fun e w' => e = .returned (.tuple #[.string (textS l).1, .int .i64 (textS l).2]) ∧ Below w.heap.size w w' := by
  have HA := Lib.hid ha
  have HZ := Lib.hid hz
  clear ha hz
  go_enter Tryz.func35, Tryz.ntmps35
  go_wp2_with fail
  go_loopw [4, 9] (fun bv i x => ∃ k : Nat, k ≤ l.length ∧ i = .int .i64 k ∧ okL (l.take k) = true ∧ OwnB w.heap.size x bv (joinT (l.take k)) ∧ Below w.heap.size w x) (fun bv i x => l.length - (intOf i).toNat)
  case atStart => exact ⟨0, Nat.zero_le _, rfl, rfl, OwnB.nil _ _, Below.refl _ _⟩
  case round =>
    obtain ⟨k, hk, rfl, hOk, hO, hB⟩ := hrel
    have hjl := joinT_len l k hk hOk
    have HOk := Lib.hid hOk
    have HO := Lib.hid hO
    have HB := Lib.hid hB
    clear hOk hO hB
    obtain ⟨bv, cap, rfl⟩ := HO.out.form
    by_cases hlt : k < l.length
    · obtain ⟨bb, off, rfl, hb, c0, c1, c2, c3, c4⟩ := (HA.out.below HB.out) k _ (List.getElem?_eq_getElem hlt)
      have hlt1 : (k : Int) < l.length := by omega
      have HOkT := Lib.hid (okL_take l k hlt)
      have HOkN := Lib.hid (okL_no l k hlt)
      have HJ := Lib.hid (joinT_take l k hlt)
      have HVZ := Lib.hid (HZ.out l[k] (List.getElem_mem hlt))
      generalize l[k] = v at *
      have K0 : Hid (KG w (wr.alloc (.cells (tkC v.k v.t v.n v.ln v.cl).toArray 95)) [(wr.heap.size, tkC v.k v.t v.n v.ln v.cl)]) := Lib.hid (KG.push' (show KG w wr [] from ⟨HB.out, trivial⟩) wr.heap.size rfl (tkC v.k v.t v.n v.ln v.cl) 95)
      have HO0 := Lib.hid (HO.out.below (new1 wr (.cells (tkC v.k v.t v.n v.ln v.cl).toArray 95)))
      have HI := Lib.hid fun x => refIs_ v HVZ.out x
      have hwl : wr.heap.size < (wr.alloc (.cells (tkC v.k v.t v.n v.ln v.cl).toArray 95)).heap.size := by simp
      have HWL : Hid (∀ b, (Value.slice bv (joinT (l.take k)).length cap).ownBlock = some b → b < wr.heap.size) := Lib.hid fun b hb => (World.ownsRow.lt HO.out b hb).2
      cases hok : okT v.tk
      · rw [hok] at HI
        have HT : Hid (textS l = (⟨#[]⟩, 2)) := Lib.hid (by unfold textS; rw [if_neg (by rw [HOkN.out hok]; decide)])
        go_wp2_with (first
          | (go_at_call 91; (with_reducible refine (HI.out _).mono ?_); rintro e y ⟨rfl, hb⟩; have K1 := Lib.hid (K0.out.below hb); clear hb))
        go_ret2
        exact ⟨by rw [HT.out]; rfl, K1.out.HB⟩
      · rw [hok] at HI
        have HW := Lib.hid fun x => refWritten_ v hok x
        have HOk2 : Hid (okL (l.take (k + 1)) = true) := Lib.hid (by rw [HOkT.out, HOk.out, hok]; rfl)
        have HS := Lib.hid (writ_short v.tk hok)
        generalize hJ0 : joinT (l.take k) = J at *
        clear hJ0
        cases hk0 : k == 0
        · have hpos : (0 : Int) < k := by simp at hk0; omega
          rw [hk0] at HJ
          go_wp2_with (first
            | (go_at_call 91; (with_reducible refine (HI.out _).mono ?_); rintro e y ⟨rfl, hb⟩; have K1 := Lib.hid (K0.out.below hb); have HO1 := Lib.hid (HO0.out.below hb); clear hb)
            | (at_builtin; refine wpList_append_byte rfl (.tmp 19) (.tmp 20) rfl w.heap.size _ J rfl (HO1.out.below (new1 _ _)) y.heap.size 32 rfl (new1_cell _ _ _) (by omega) (by have := K1.out.HB.size; simp; omega) ?_))
          intro v1 w1 ho1 hg1
          have HO2 := Lib.hid ho1
          have K2 := Lib.hid ((K1.out.below (new1 _ _)).grownOwn hg1 HO1.out.lt (fun b hb q hq => by
            have h1 := HWL.out b hb
            simp only [List.mem_cons, List.not_mem_nil, or_false] at hq
            rw [hq]
            dsimp only
            omega))
          clear ho1 hg1
          obtain ⟨t0, t1, t2, t3, t4, g0, g1, g2, g3, g4, gl⟩ := K2.out.q.1.1.open5
          obtain ⟨bv2, cap2, rfl⟩ := HO2.out.form
          have HO2b : Hid (OwnB w.heap.size w1 (.slice bv2 (J.length + 1) cap2) (J ++ [32])) := Lib.hid (by
            have h := HO2.out
            have e : (J ++ [(32 : UInt8)]).length = J.length + 1 := by simp
            rw [e] at h
            exact h)
          clear HO2
          go_wp2_with (first
            | (go_at_call 82; (with_reducible refine (HW.out _).mono ?_); rintro e y3 ⟨rfl, hb⟩; have K3 := Lib.hid (K2.out.below hb); have HO3 := Lib.hid (HO2b.out.below hb); clear hb)
            | (at_builtin; refine wpList_append_str rfl (.tmp 22) (.tmp 24) rfl w.heap.size _ (J ++ [32]) rfl HO3.out (baOf (writ v.tk)) rfl (by rw [baOf_size, List.length_append]; have := HS.out; simp; omega) K3.out.HB.size ?_))
          intro v2 w2 ho2 hg2
          have HO4 := Lib.hid ho2
          have HB4 := Lib.hid (below_own K3.out.HB hg2 HO3.out.lt)
          clear ho2 hg2
          go_wp2_with fail
          go_roundw
          case rel =>
            refine ⟨k + 1, by omega, by go_num, HOk2.out, ?_, HB4.out⟩
            rw [HJ.out]
            exact HO4.out
          case measure => simp [intOf]; omega
        · have hpos : ¬ (0 : Int) < k := by simp at hk0; omega
          rw [hk0] at HJ
          go_wp2_with (first
            | (go_at_call 91; (with_reducible refine (HI.out _).mono ?_); rintro e y ⟨rfl, hb⟩; have K1 := Lib.hid (K0.out.below hb); have HO1 := Lib.hid (HO0.out.below hb); clear hb; obtain ⟨t0, t1, t2, t3, t4, g0, g1, g2, g3, g4, gl⟩ := K1.out.q.1.1.open5)
            | (go_at_call 82; (with_reducible refine (HW.out _).mono ?_); rintro e y3 ⟨rfl, hb⟩; have K3 := Lib.hid (K1.out.below hb); have HO3 := Lib.hid (HO1.out.below hb); clear hb)
            | (at_builtin; refine wpList_append_str rfl (.tmp 22) (.tmp 24) rfl w.heap.size _ J rfl HO3.out (baOf (writ v.tk)) rfl (by rw [baOf_size]; have := HS.out; omega) K3.out.HB.size ?_))
          intro v2 w2 ho2 hg2
          have HO4 := Lib.hid ho2
          have HB4 := Lib.hid (below_own K3.out.HB hg2 HO3.out.lt)
          clear ho2 hg2
          go_wp2_with fail
          go_roundw
          case rel =>
            refine ⟨k + 1, by omega, by go_num, HOk2.out, ?_, HB4.out⟩
            rw [HJ.out]
            exact HO4.out
          case measure => simp [intOf]; omega
    · have hall : l.take k = l := List.take_of_length_le (by omega)
      rw [hall] at HO HOk hjl ⊢
      clear hall
      by_cases h2 : 20000 < (joinT l).length
      · have h2' : (20000 : Int) < (joinT l).length := by omega
        have HT : Hid (textS l = (⟨#[]⟩, 3)) := Lib.hid (by unfold textS; rw [if_pos HOk.out, if_pos h2])
        clear h2
        go_wp2_with fail
        go_ret2
        exact ⟨by rw [HT.out]; rfl, HB.out⟩
      · have h2' : ¬ (20000 : Int) < (joinT l).length := by omega
        have HT : Hid (textS l = (baOf (joinT l), 0)) := Lib.hid (by unfold textS; rw [if_pos HOk.out, if_neg h2])
        clear h2
        go_wp2_with fail
        rw [run_string_own HO.out]
        go_wp2_with fail
        go_ret2
        exact ⟨by rw [HT.out]; rfl, HB.out⟩
end Go.Proofs.YtpmppndhfljcpaaGreatDoor
