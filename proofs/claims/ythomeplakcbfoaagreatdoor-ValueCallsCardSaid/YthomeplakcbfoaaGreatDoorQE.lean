/-
  The reference's quoted strings.
-/
import Derived.Test.YthomeplakcbfoaaGreatDoorQD
namespace Go.Proofs.YthomeplakcbfoaaGreatDoor
open Go.RowKit

theorem below_own {w x y : World} {v : Value} (hb : Below w.heap.size w x) (hg : x.grownBy y v.ownBlock) (hlt : ∀ b, v.ownBlock = some b → w.heap.size ≤ b) : Below w.heap.size w y := hb.grown hg hb.size hlt
theorem new1_cell (x : World) (v : Value) (t : TypeId) : (x.alloc (.cells #[v] t)).cell? ⟨x.heap.size, 0, none⟩ = some v := (World.cell?_alloc_new x #[v] t 0).trans rfl
theorem esc_take (l : Bs) (k : Nat) (h : k < l.length) : esc (l.take (k + 1)) = esc (l.take k) ++ (if (l[k] == 39) = true then [39, 39] else [l[k]]) := by
  rw [List.take_succ_eq_append_getElem h, esc_app]
  congr 1
  simp [esc]
set_option maxRecDepth 100000 in
set_option maxHeartbeats 1000000 in
theorem refQuoted_ (s : ByteArray) (hs : s.size ≤ 4000000) (w : World) : Calls Tryz.prog 54 #[.string s] w fun e w' => e = .returned (.string (baOf (quoB s.data.toList))) ∧ Below w.heap.size w w' := by
  have HSZ : Hid (s.data.toList.length = s.size) := Lib.hid (by simp)
  have HO : Hid (OwnB w.heap.size (w.alloc (.cells #[.int .u8 39] 5)) (.slice (some ⟨w.heap.size, 0, none⟩) 1 1) [39]) := Lib.hid (OwnB.new w [39] (by decide))
  go_enter Tryz.func54, Tryz.ntmps54
  go_wp2_with fail
  go_loopw [3, 4] (fun b i x => ∃ k : Nat, k ≤ s.size ∧ i = .int .i64 k ∧ OwnB w.heap.size x b (39 :: esc (s.data.toList.take k)) ∧ Below w.heap.size w x) (fun b i x => s.size - (intOf i).toNat)
  case atStart => exact ⟨0, Nat.zero_le _, rfl, HO.out, new1 _ _⟩
  case round =>
    obtain ⟨k, hk, rfl, hO, hB⟩ := hrel
    have HO2 := Lib.hid hO
    have HB := Lib.hid hB
    clear hO hB HO
    obtain ⟨a0, c0, rfl⟩ := HO2.out.form
    have hel : (39 :: esc (s.data.toList.take k)).length ≤ 8000001 := by
      have h1 := esc_len (s.data.toList.take k)
      have h2 : (s.data.toList.take k).length ≤ k := List.length_take_le _ _
      simp only [List.length_cons]
      omega
    have HEL := Lib.hid hel
    generalize hL : 39 :: esc (s.data.toList.take k) = L at *
    have HL := Lib.hid hL
    clear hL hel
    by_cases hlt : k < s.size
    · have hkl : k < s.data.toList.length := by rw [HSZ.out]; exact hlt
      have HT := Lib.hid (esc_take s.data.toList k hkl)
      have HE : Hid (s.data.toList[k] = s[k]) := Lib.hid (by rfl)
      have hsz := HB.out.size
      by_cases h39 : s[k] = 39
      · have h39' := is39q (c := s[k]) (by simpa using h39)
        have H39 := Lib.hid h39
        clear h39
        go_wp2_with (first
          | (at_builtin; refine wpList_append_byte rfl (.tmp 12) (.tmp 16) rfl w.heap.size _ L rfl (HO2.out.below (new1 _ _)) wr.heap.size s[k] rfl (new1_cell _ _ _) (by have := HEL.out; omega) (by simp; omega) ?_))
        intro v1 w1 ho1 hg1
        have HO1 := Lib.hid ho1
        have HB1 := Lib.hid (below_own (HB.out.trans ((new1 _ _).mono hsz)) hg1 HO2.out.lt)
        have hsz1 := HB1.out.size
        clear ho1 hg1
        obtain ⟨a1, c1, rfl⟩ := HO1.out.form
        go_wp2_with (first
          | (at_builtin; refine wpList_append_byte rfl (.tmp 22) (.tmp 23) rfl w.heap.size _ (L ++ [s[k]]) rfl (HO1.out.below (new1 _ _)) w1.heap.size 39 rfl (new1_cell _ _ _) (by have := HEL.out; simp; omega) (by simp; omega) ?_))
        intro v2 w2 ho2 hg2
        have HO4 := Lib.hid ho2
        have HB2 := Lib.hid (below_own (HB1.out.trans ((new1 _ _).mono hsz1)) hg2 (fun b hb => HO1.out.lt b (by rw [← hb]; cases a1 <;> rfl)))
        clear ho2 hg2
        go_wp2_with fail
        go_roundw
        case rel =>
          refine ⟨k + 1, by omega, by go_num, ?_, HB2.out⟩
          have e : 39 :: esc (s.data.toList.take (k + 1)) = L ++ [s[k]] ++ [39] := by
            rw [HT.out, HE.out, H39.out, ← HL.out]
            simp
          rw [e, List.append_assoc]
          exact HO4.out
        case measure => simp [intOf]; omega
      · have h39' := not39q (c := s[k]) (by simpa using h39)
        have H39 := Lib.hid h39
        clear h39
        go_wp2_with (first
          | (at_builtin; refine wpList_append_byte rfl (.tmp 12) (.tmp 16) rfl w.heap.size _ L rfl (HO2.out.below (new1 _ _)) wr.heap.size s[k] rfl (new1_cell _ _ _) (by have := HEL.out; omega) (by simp; omega) ?_))
        intro v1 w1 ho1 hg1
        have HO1 := Lib.hid ho1
        have HB1 := Lib.hid (below_own (HB.out.trans ((new1 _ _).mono hsz)) hg1 HO2.out.lt)
        clear ho1 hg1
        go_wp2_with fail
        go_roundw
        case rel =>
          refine ⟨k + 1, by omega, by go_num, ?_, HB1.out⟩
          have e : 39 :: esc (s.data.toList.take (k + 1)) = L ++ [s[k]] := by
            rw [HT.out, HE.out, if_neg (by simpa using H39.out), ← HL.out]
            simp
          rw [e]
          exact HO1.out
        case measure => simp [intOf]; omega
    · have hsz := HB.out.size
      have HK : Hid (s.data.toList.take k = s.data.toList) := Lib.hid (List.take_of_length_le (by rw [HSZ.out]; omega))
      go_wp2_with (first
        | (at_builtin; refine wpList_append_byte rfl (.tmp 25) (.tmp 26) rfl w.heap.size _ L rfl (HO2.out.below (new1 _ _)) wr.heap.size 39 rfl (new1_cell _ _ _) (by have := HEL.out; omega) (by simp; omega) ?_))
      intro v1 w1 ho1 hg1
      have HO1 := Lib.hid ho1
      have HB1 := Lib.hid (below_own (HB.out.trans ((new1 _ _).mono hsz)) hg1 HO2.out.lt)
      clear ho1 hg1
      go_wp2_with fail
      rw [run_string_own HO1.out]
      go_wp2_with fail
      go_ret
      refine ⟨ret_str ?_, HB1.out⟩
      rw [quoB_esc, ← HL.out, HK.out]
      rfl
end Go.Proofs.YthomeplakcbfoaaGreatDoor
