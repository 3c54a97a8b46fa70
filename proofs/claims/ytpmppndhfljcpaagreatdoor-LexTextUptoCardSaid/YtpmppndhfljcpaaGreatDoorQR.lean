/-
  Rows of tokens that are the same: by the reference, and with their positions.
-/
import Derived.Test.YtpmppndhfljcpaaGreatDoorGj
import Derived.Deep.QuietTactic
import Derived.BigQuiet
namespace Go.Proofs.YtpmppndhfljcpaaGreatDoor
open Go.RowKit

theorem bne_int {a b : Int} (h : (a == b) = true) : (a != b) = false := by rw [bne, h]; rfl
theorem bne_int' {a b : Int} (h : (a == b) = false) : (a != b) = true := by rw [bne, h]; rfl
set_option maxRecDepth 100000 in
set_option maxHeartbeats 2000000 in
theorem refSame_ (A B : Option Addr) (c d : Nat) (l m : List Tv) (w : World) (hl : l.length ≤ 4398046511000) (ha : SlT w A l) (hb : SlT w B m) :
    Calls Tryz.prog 33 #[.slice A l.length c, .slice B m.length d] w fun e w' => ∃ q : Bool, e = .returned (.bool q) ∧ (q = true ↔ SameL l m) ∧ Below w.heap.size w w' := by
  have HA := Lib.hid ha
  have HBm := Lib.hid hb
  clear ha hb
  cases hne : ((l.length : Int) != (m.length : Int))
  case true =>
    have hlen : ¬ l.length = m.length := by intro e; rw [e] at hne; simp at hne
    go_enter Tryz.func33, Tryz.ntmps33
    go_wp2_with fail
    go_ret
    exact ⟨_, rfl, by simp; intro h; exact hlen (sameL_len h), Below.refl _ _⟩
  case false =>
    have HLEN : Hid (l.length = m.length) := Lib.hid (by simp at hne; omega)
    go_enter Tryz.func33, Tryz.ntmps33
    go_wp2_with fail
    clear hne
    go_loopw [13] (fun i x => ∃ k : Nat, k ≤ l.length ∧ i = .int .i64 k ∧ SameL (l.take k) (m.take k) ∧ Below w.heap.size w x) (fun i x => l.length - (intOf i).toNat)
    case atStart => exact ⟨0, Nat.zero_le _, rfl, rfl, Below.refl _ _⟩
    case round =>
      obtain ⟨k, hk, rfl, hS, hB⟩ := hrel
      have HB := Lib.hid hB
      have HS := Lib.hid hS
      clear hB hS
      by_cases hlt : k < l.length
      · have hltm : k < m.length := by have := HLEN.out; omega
        have hlt1 : (k : Int) < l.length := by omega
        have hlt2 : (k : Int) < m.length := by omega
        obtain ⟨b, off, rfl, hb, c0, c1, c2, c3, c4⟩ := (HA.out.below HB.out) k _ (List.getElem?_eq_getElem hlt)
        obtain ⟨b', off', rfl, hb', d0, d1, d2, d3, d4⟩ := (HBm.out.below HB.out) k _ (List.getElem?_eq_getElem hltm)
        have HT := Lib.hid (sameL_take HS.out hlt hltm)
        have HI : Hid (l[k].key = m[k].key ↔ (l[k].k == m[k].k) = true ∧ (l[k].t.toList == m[k].t.toList) = true ∧ (l[k].n == m[k].n) = true) := Lib.hid (by
          simp only [Tv.key, Prod.mk.injEq, beq_iff_eq]
          exact ⟨fun ⟨a, b, c⟩ => ⟨a, by rw [b], c⟩, fun ⟨a, b, c⟩ => ⟨a, toList_eq b, c⟩⟩)
        cases h1 : l[k].k == m[k].k
        · have h1' := bne_int' h1
          have HNK : Hid (¬ SameL l m) := Lib.hid fun h => by have := (HI.out.1 (HT.out.1 (sameL_sub h (k + 1)))).1; rw [h1] at this; cases this
          go_wp2
          go_quiet (fail)
          go_wp2
          go_ret
          exact ⟨_, rfl, by simp; exact HNK.out, HB.out.trans ((Below.drewN _ _).mono HB.out.size)⟩
        · have h1' := bne_int h1
          cases h2 : l[k].t.toList == m[k].t.toList
          · have h2' : (l[k].t.toList != m[k].t.toList) = true := by rw [bne, h2]; rfl
            have HNK : Hid (¬ SameL l m) := Lib.hid fun h => by have := (HI.out.1 (HT.out.1 (sameL_sub h (k + 1)))).2.1; rw [h2] at this; cases this
            go_wp2
            go_quiet (fail)
            go_wp2
            go_ret
            exact ⟨_, rfl, by simp; exact HNK.out, HB.out.trans ((Below.drewN _ _).mono HB.out.size)⟩
          · have h2' : (l[k].t.toList != m[k].t.toList) = false := by rw [bne, h2]; rfl
            cases h3 : l[k].n == m[k].n
            · have h3' := bne_int' h3
              have HNK : Hid (¬ SameL l m) := Lib.hid fun h => by have := (HI.out.1 (HT.out.1 (sameL_sub h (k + 1)))).2.2; rw [h3] at this; cases this
              go_wp2
              go_quiet (fail)
              go_wp2
              go_ret
              exact ⟨_, rfl, by simp; exact HNK.out, HB.out.trans ((Below.drewN _ _).mono HB.out.size)⟩
            · have h3' := bne_int h3
              have HK : Hid (SameL (l.take (k + 1)) (m.take (k + 1))) := Lib.hid (HT.out.2 (HI.out.2 ⟨h1, h2, h3⟩))
              go_wp2
              go_quiet (fail)
              go_wp2
              go_roundw
              case rel => exact ⟨k + 1, by omega, by go_num, HK.out, HB.out.trans ((Below.drewN _ _).mono HB.out.size)⟩
              case measure => simp [intOf]; omega
      · go_wp2_with fail
        go_ret
        refine ⟨_, rfl, ?_, HB.out⟩
        have e1 : l.take k = l := List.take_of_length_le (by omega)
        have e2 : m.take k = m := List.take_of_length_le (by have := HLEN.out; omega)
        have := HS.out
        rw [e1, e2] at this
        simp [this]
end Go.Proofs.YtpmppndhfljcpaaGreatDoor
