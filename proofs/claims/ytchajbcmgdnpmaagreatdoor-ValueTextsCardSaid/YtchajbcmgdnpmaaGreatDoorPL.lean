/-
  Contract of the closure of like that sets a place and those behind a percent sign.
-/
import Derived.Test.YtchajbcmgdnpmaaGreatDoorF
import Derived.Test.YtchajbcmgdnpmaaGreatDoorRS
namespace Go.Proofs.YtchajbcmgdnpmaaGreatDoor
open Go.RowKit

/-- From place i on a pattern has percent signs alone, up to j. -/
def Star (p : ByteArray) (i j : Nat) : Prop := i ≤ j ∧ ∀ k (h : k < p.size), i ≤ k → k < j → p[k].toNat = 37
set_option maxHeartbeats 1000000 in
theorem reach_ (p : ByteArray) (hp : p.size ≤ 200) (i0 : Nat) (hi0 : i0 ≤ p.size) (a g c : Nat) (t : TypeId) (B : Nat → Bool) (w : World)
    (h1 : w.cell? ⟨a, 0, none⟩ = some (.slice (some ⟨g, 0, none⟩) (p.size + 1) (p.size + 1))) (h2 : w.cell? ⟨c, 0, none⟩ = some (.string p)) (hr : w.rowIs g t (p.size + 1) (fun j => .bool (B j))) (hag : a ≠ g) (hcg : c ≠ g) :
    Calls Tryz.prog 147 #[.int .i64 i0, .pointer (some ⟨a, 0, none⟩), .pointer (some ⟨c, 0, none⟩)] w fun e x => e = .returned (.tuple #[]) ∧
      ∃ B' : Nat → Bool, x.rowIs g t (p.size + 1) (fun j => .bool (B' j)) ∧ (∀ j, j ≤ p.size → (B' j = true ↔ B j = true ∨ Star p i0 j)) ∧ Only g w x := by
  have c0 := hr.cell (i := i0) (by omega)
  have f0 := hr.frozen i0
  have HR := Lib.hid hr
  have H1 := Lib.hid h1
  have H2 := Lib.hid h2
  have HA := Lib.hid hag
  have HC := Lib.hid hcg
  clear hr hag hcg
  go_enter Tryz.func147, Tryz.ntmps147
  go_wp2
  go_loopw [0] (fun s x => ∃ (i : Nat) (B' : Nat → Bool), i0 ≤ i ∧ i ≤ p.size ∧ s = .int .i64 i ∧ x.rowIs g t (p.size + 1) (fun j => .bool (B' j)) ∧ (∀ j, j ≤ p.size → (B' j = true ↔ B j = true ∨ (i0 ≤ j ∧ j ≤ i))) ∧ (∀ k (h : k < p.size), i0 ≤ k → k < i → p[k].toNat = 37) ∧ Only g w x) (fun s x => p.size - (intOf s).toNat)
  case atStart =>
    refine ⟨i0, fun j => if j = i0 then true else B j, Nat.le_refl _, by omega, rfl, (HR.out.set i0 (.bool true)).congr (fun j _ => ?_), fun j hj => ?_, fun k h x y => by omega, (Only.refl g w).setCell i0 _⟩
    · by_cases e : j = i0 <;> simp [e]
    · by_cases e : j = i0
      · simp [e]
      · simp [e]; omega
  case round =>
    obtain ⟨i, B', hi1, hi2, rfl, hrow, hB, hS, hO⟩ := hrel
    have HRow := Lib.hid hrow
    have HB := Lib.hid hB
    have HS := Lib.hid hS
    have HO := Lib.hid hO
    clear hrow hB hS hO
    have k1 := (HO.out.cell (o := 0) HA.out).trans H1.out
    have k2 := (HO.out.cell (o := 0) HC.out).trans H2.out
    have e0 : ∀ B2 : Nat → Bool, (∀ j, j ≤ p.size → (B2 j = true ↔ B j = true ∨ (i0 ≤ j ∧ j ≤ i))) → (i < p.size → ∀ h : i < p.size, p[i].toNat ≠ 37) → ∀ j, j ≤ p.size → (B2 j = true ↔ B j = true ∨ Star p i0 j) := by
      intro B2 hB2 hn j hj
      rw [hB2 j hj]
      constructor
      · rintro (h | ⟨h, h'⟩)
        · exact Or.inl h
        · exact Or.inr ⟨h, fun k hk x y => HS.out k hk x (by omega)⟩
      · rintro (h | ⟨h, h'⟩)
        · exact Or.inl h
        · refine Or.inr ⟨h, ?_⟩
          by_cases q : j ≤ i
          · exact q
          · exfalso
            exact hn (by omega) (by omega) (h' i (by omega) hi1 (by omega))
    have E0 := Lib.hid e0
    clear e0
    by_cases hlt : i < p.size
    · by_cases hq : p[i].toNat = 37
      · have hq' : (p[i].toNat : Int) = 37 := by omega
        have c1 := HRow.out.cell (i := i + 1) (by omega)
        have f1 := HRow.out.frozen (i + 1)
        have HQ := Lib.hid hq
        clear hq
        go_wp2
        go_roundw
        case rel =>
          refine ⟨i + 1, fun j => if j = i + 1 then true else B' j, by omega, by omega, by go_num, (HRow.out.set (i + 1) (.bool true)).congr (fun j _ => ?_), fun j hj => ?_, fun k h x y => ?_, HO.out.setCell (i + 1) _⟩
          · by_cases e : j = i + 1 <;> simp [e]
          · by_cases e : j = i + 1
            · simp [e]; omega
            · have := HB.out j hj
              simp only [e, if_false, this]
              constructor
              · rintro (h | h)
                · exact Or.inl h
                · exact Or.inr (by omega)
              · rintro (h | h)
                · exact Or.inl h
                · exact Or.inr (by omega)
          · by_cases e : k = i
            · subst e; exact HQ.out
            · exact HS.out k h x (by omega)
        case measure => simp [intOf]; omega
      · have hq' : ((p[i].toNat : Int) == 37) = false := by simpa using (by omega : ¬ (p[i].toNat : Int) = 37)
        have HQ := Lib.hid hq
        clear hq
        go_wp2
        go_end0
        exact ⟨rfl, B', HRow.out, E0.out B' HB.out (fun _ _ => HQ.out), HO.out⟩
    · go_wp2
      go_end0
      exact ⟨rfl, B', HRow.out, E0.out B' HB.out (fun h => absurd h hlt), HO.out⟩
end Go.Proofs.YtchajbcmgdnpmaaGreatDoor
