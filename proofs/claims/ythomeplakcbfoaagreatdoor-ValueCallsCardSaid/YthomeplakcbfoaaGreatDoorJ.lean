/-
  Contracts: like.
-/
import Derived.Test.YthomeplakcbfoaaGreatDoorGp
import Derived.Deep.DeepCutAuto
import Derived.Laws.EntriesVeiled
import Derived.BigFrame
namespace Go.Proofs.YthomeplakcbfoaaGreatDoor
open Go.RowKit

theorem call161 (args : Array Value) (y : World) : (callFunc 147 args).run Tryz.prog y = .ok (.enter 147 args) y := by simp [go_sem]
theorem zeroB4 (w : World) : (zeroValue 4).run Tryz.prog w = .ok (.bool false) w := by kernel_rfl
theorem okText_lt {s : ByteArray} (h : okText s = true) {i : Nat} (hi : i < s.size) : (s[i]'hi).toNat < 128 := by
  simp only [okText, Bool.and_eq_true, decide_eq_true_eq, List.all_eq_true] at h
  have h1 := h.2 (s[i]'hi) (by
    have : s.data.toList[i]? = some (s[i]'hi) := by
      rw [List.getElem?_eq_getElem (by simpa using hi)]
      rfl
    exact List.mem_of_getElem? this)
  simp [okByte] at h1
  omega
theorem fires_no {p : ByteArray} {B : Nat → Bool} {ch k j : Nat} (h : B k = false ∨ ¬ Fires p ch k j) : (∃ k', k' < k ∧ B k' = true ∧ Fires p ch k' j) ↔ ∃ k', k' < k + 1 ∧ B k' = true ∧ Fires p ch k' j := by
  constructor
  · rintro ⟨k', h1, h2⟩
    exact ⟨k', by omega, h2⟩
  · rintro ⟨k', h1, h2, h3⟩
    by_cases e : k' = k
    · subst e
      rcases h with h | h
      · rw [h] at h2; cases h2
      · exact absurd h3 h
    · exact ⟨k', by omega, h2, h3⟩
theorem fires_yes {p : ByteArray} {B : Nat → Bool} {ch k j : Nat} {S : Prop} (hb : B k = true) (h : Fires p ch k j ↔ S) : ((∃ k', k' < k ∧ B k' = true ∧ Fires p ch k' j) ∨ S) ↔ ∃ k', k' < k + 1 ∧ B k' = true ∧ Fires p ch k' j := by
  constructor
  · rintro (⟨k', h1, h2⟩ | hs)
    · exact ⟨k', by omega, h2⟩
    · exact ⟨k, by omega, hb, h.2 hs⟩
  · rintro ⟨k', h1, h2, h3⟩
    by_cases e : k' = k
    · subst e; exact Or.inr (h.1 h3)
    · exact Or.inl ⟨k', by omega, h2, h3⟩
theorem fires_pc {p : ByteArray} {B : Nat → Bool} {ch k j : Nat} (hk : k < p.size) (hb : B k = true) (h : p[k].toNat = 37) : ((∃ k', k' < k ∧ B k' = true ∧ Fires p ch k' j) ∨ Star p k j) ↔ ∃ k', k' < k + 1 ∧ B k' = true ∧ Fires p ch k' j :=
  fires_yes hb ⟨fun ⟨_, q⟩ => q.elim (fun q => q.2) (fun q => absurd h q.1), fun q => ⟨hk, Or.inl ⟨h, q⟩⟩⟩
theorem fires_one {p : ByteArray} {B : Nat → Bool} {ch k j : Nat} (hk : k < p.size) (hb : B k = true) (h : ¬ p[k].toNat = 37) (hm : p[k].toNat = 95 ∨ p[k].toNat = ch) : ((∃ k', k' < k ∧ B k' = true ∧ Fires p ch k' j) ∨ Star p (k + 1) j) ↔ ∃ k', k' < k + 1 ∧ B k' = true ∧ Fires p ch k' j :=
  fires_yes hb ⟨fun ⟨_, q⟩ => q.elim (fun q => absurd q.1 h) (fun q => q.2.2), fun q => ⟨hk, Or.inr ⟨h, hm, q⟩⟩⟩
set_option maxRecDepth 100000 in
set_option maxHeartbeats 4000000 in
theorem isLike_ (s p : ByteArray) (hs : okText s = true) (hp : okText p = true) (w : World) :
    Calls Tryz.prog 126 #[.string s, .string p] w fun e w' => e = .returned (.bool (lk s.data.toList p.data.toList)) ∧ Below w.heap.size w w' := by
  have hp2 : p.size ≤ 200 := by simp [okText] at hp; exact hp.1
  have hmk := make_bools p.size hp2
  go_enter Tryz.func126, Tryz.ntmps126
  go_upto_region 1 with fail
  go_cut [5, 6] (fun s5 s6 x => ∃ a g1 g2, s5 = .pointer (some ⟨a, 0, none⟩) ∧ s6 = .slice (some ⟨g2, 0, none⟩) (p.size + 1) (p.size + 1) ∧ Lik w x p a g1 g2 (fun _ => false) (fun _ => false))
  case first =>
    go_region
    all_goals go_wp2_with fail
    all_goals go_meet
    · have q := at4 w (.cells #[.string p] 9) (.cells (madeCells #[.bool false] (p.size + 1)) 4) (.cells (madeCells #[.bool false] (p.size + 1)) 4) (.cells #[.slice (some ⟨w.heap.size + 1, 0, none⟩) (p.size + 1) (p.size + 1)] 148); exact ⟨w.heap.size + 1 + 1 + 1, w.heap.size + 1, w.heap.size + 1 + 1, rfl, rfl, Lik.start (Below.drew q.1) q.2.1 q.2.2.2.2 q.2.2.1 q.2.2.2.1 (by omega) (by omega) (by omega) (by omega) (by omega) (by omega)⟩
    · have q := at4 w (.cells #[.string p] 9) (.cells (madeCells #[.bool false] (p.size + 1)) 4) (.cells #[.slice (some ⟨w.heap.size + 1, 0, none⟩) (p.size + 1) (p.size + 1)] 148) (.cells (madeCells #[.bool false] (p.size + 1)) 4); exact ⟨w.heap.size + 1 + 1, w.heap.size + 1, w.heap.size + 1 + 1 + 1, rfl, rfl, Lik.start (Below.drew q.1) q.2.1 q.2.2.2.1 q.2.2.1 q.2.2.2.2 (by omega) (by omega) (by omega) (by omega) (by omega) (by omega)⟩
    · have q := at4 w (.cells #[.string p] 9) (.cells (madeCells #[.bool false] (p.size + 1)) 4) (.cells (madeCells #[.bool false] (p.size + 1)) 4) (.cells #[.slice (some ⟨w.heap.size + 1 + 1, 0, none⟩) (p.size + 1) (p.size + 1)] 148); exact ⟨w.heap.size + 1 + 1 + 1, w.heap.size + 1 + 1, w.heap.size + 1, rfl, rfl, Lik.start (Below.drew q.1) q.2.1 q.2.2.2.2 q.2.2.2.1 q.2.2.1 (by omega) (by omega) (by omega) (by omega) (by omega) (by omega)⟩
    · have q := at4 w (.cells #[.string p] 9) (.cells (madeCells #[.bool false] (p.size + 1)) 4) (.cells #[.slice (some ⟨w.heap.size + 1 + 1 + 1, 0, none⟩) (p.size + 1) (p.size + 1)] 148) (.cells (madeCells #[.bool false] (p.size + 1)) 4); exact ⟨w.heap.size + 1 + 1, w.heap.size + 1 + 1 + 1, w.heap.size + 1, rfl, rfl, Lik.start (Below.drew q.1) q.2.1 q.2.2.2.1 q.2.2.2.2 q.2.2.1 (by omega) (by omega) (by omega) (by omega) (by omega) (by omega)⟩
    · have q := at4 w (.cells #[.string p] 9) (.cells #[.slice (some ⟨w.heap.size + 1 + 1, 0, none⟩) (p.size + 1) (p.size + 1)] 148) (.cells (madeCells #[.bool false] (p.size + 1)) 4) (.cells (madeCells #[.bool false] (p.size + 1)) 4); exact ⟨w.heap.size + 1, w.heap.size + 1 + 1, w.heap.size + 1 + 1 + 1, rfl, rfl, Lik.start (Below.drew q.1) q.2.1 q.2.2.1 q.2.2.2.1 q.2.2.2.2 (by omega) (by omega) (by omega) (by omega) (by omega) (by omega)⟩
    · have q := at4 w (.cells #[.string p] 9) (.cells #[.slice (some ⟨w.heap.size + 1 + 1 + 1, 0, none⟩) (p.size + 1) (p.size + 1)] 148) (.cells (madeCells #[.bool false] (p.size + 1)) 4) (.cells (madeCells #[.bool false] (p.size + 1)) 4); exact ⟨w.heap.size + 1, w.heap.size + 1 + 1 + 1, w.heap.size + 1 + 1, rfl, rfl, Lik.start (Below.drew q.1) q.2.1 q.2.2.1 q.2.2.2.2 q.2.2.2.1 (by omega) (by omega) (by omega) (by omega) (by omega) (by omega)⟩
  case rest =>
    obtain ⟨a, g1, g2, rfl, rfl, hK⟩ := hcut
    have K := Lib.hid hK
    clear hK hmk
    have R3 := Lib.hid (reach_ p hp2 0 (by omega) a g1 w.heap.size 4 _ wc K.out.ca K.out.cp K.out.r1 K.out.a1 (by have := K.out.l1; omega))
    go_wp2_with fail
    refine R3.out.mono ?_
    rintro e x ⟨rfl, B0, hr, hB, hO⟩
    have Kx := K.out.only hO hr
    have hl1 := Kx.lta
    have hl2 := Kx.r1.lt
    have hl3 := Kx.r2.lt
    have hl4 := Kx.ltp
    have K1 : Hid (Lik w (x.iter s 0) p a g1 g2 B0 (fun _ => false)) := Lib.hid (Kx.alloc (.stringIter s 0))
    have I1 := Lib.hid (World.iter_heap x s 0)
    clear Kx
    have A0 := Lib.hid (after_start (p := p) (B := B0) (fun j hj => by simpa using hB j hj))
    clear K R3 hr hB hO
    go_wp2_with fail
    generalize hit : x.heap.size = it at *
    have HIT := Lib.hid hit
    clear hit
    go_loopw [6] (fun s6 y => ∃ (i g1 g2 : Nat) (B B2 : Nat → Bool), i ≤ s.size ∧ s6 = .slice (some ⟨g2, 0, none⟩) (p.size + 1) (p.size + 1) ∧ y.heap[it]? = some (.stringIter s i) ∧ After p (s.data.toList.take i) B ∧ Lik w y p a g1 g2 B B2 ∧ it ≠ g1 ∧ it ≠ g2) (fun s6 y => s.size - itPos y it)
    case atStart => exact ⟨0, g1, g2, B0, _, by omega, rfl, I1.out, A0.out, K1.out, by omega, by omega⟩
    case round =>
      clear I1 A0 K1 hl2 hl3 B0
      obtain ⟨i, g1, g2, B, B2, hi, rfl, hI, hA, hK, hg1, hg2⟩ := hrel
      have K := Lib.hid hK
      have A := Lib.hid hA
      have I := Lib.hid hI
      clear hK hA hI
      by_cases hlt : i < s.size
      · have hch : (s[i]'hlt).toNat < 128 := okText_lt hs hlt
        have hnx := fun ty => run_next_at (P := Tryz.prog) I.out ty hlt hch
        have L1 := Lib.hid (K.out.iter s (i + 1) (b := it) (by omega) (by omega) hg1 hg2)
        have L2 := Lib.hid L1.out.swap
        have L3 := Lib.hid L2.out.clear
        have I3 : Hid ((((setIter wr it s (i + 1)).setCell ⟨a, 0, none⟩ (.slice (some ⟨g2, 0, none⟩) (p.size + 1) (p.size + 1))).setCells g2 0 (List.replicate (p.size + 1) (.bool false))).heap[it]? = some (.stringIter s (i + 1))) :=
          Lib.hid ((heap_setCells hg2 _ _ _).trans ((Below.heap_setCell _ _ _ _ (by show it ≠ a; omega)).trans (setIter_same (Array.getElem?_eq_some_iff.1 I.out).1 s (i + 1))))
        have c1 := L1.out.ca
        have f1 := L1.out.fa
        have c2 := L2.out.ca
        have c3 := L3.out.cp
        have hcl := fun ty => Lib.run_clear_slice (P := Tryz.prog) _ 148 4 ty (.bool false) Tryz.underlying148 zeroB4 rfl rfl g2 0 (p.size + 1) (p.size + 1) (by omega) (fun j hj => by rw [Nat.zero_add, L2.out.r1.cell hj]; rfl) (fun j _ => L2.out.r1.frozen (0 + j))
        obtain ⟨ch, hchar⟩ : ∃ ch : Nat, (s[i]'hlt).toNat = ch := ⟨_, rfl⟩
        rw [hchar] at hnx
        have HC := Lib.hid hchar
        clear hchar
        go_wp2_with (simp only [hcl])
        have hit2 : it < (((setIter wr it s (i + 1)).setCell ⟨a, 0, none⟩ (.slice (some ⟨g2, 0, none⟩) (p.size + 1) (p.size + 1))).setCells g2 0 (List.replicate (p.size + 1) (.bool false))).heap.size := (Array.getElem?_eq_some_iff.1 I3.out).1
        have hx1 := L3.out.lta
        have hx2 := L3.out.r1.lt
        have hx3 := L3.out.r2.lt
        have hx4 := L3.out.ltp
        have HI0 := I
        clear hnx c1 f1 c2 c3 hcl L1 L2 I
        generalize (((setIter wr it s (i + 1)).setCell ⟨a, 0, none⟩ (.slice (some ⟨g2, 0, none⟩) (p.size + 1) (p.size + 1))).setCells g2 0 (List.replicate (p.size + 1) (.bool false))) = z3 at *
        have L4 : Hid (Lik w (z3.iter p 0) p a g2 g1 (fun _ => false) B) := Lib.hid (L3.out.alloc (.stringIter p 0))
        have I4 : Hid ((z3.iter p 0).heap[it]? = some (.stringIter s (i + 1))) := Lib.hid ((Below.heap_alloc _ _ _ hit2).trans I3.out)
        have J4 := Lib.hid (World.iter_heap z3 p 0)
        clear L3 I3
        generalize hi2 : z3.heap.size = it2 at *
        have HIT2 := Lib.hid hi2
        clear hi2
        go_loopw [] (fun y => ∃ (k : Nat) (B' : Nat → Bool), k ≤ p.size ∧ y.heap[it2]? = some (.stringIter p k) ∧ y.heap[it]? = some (.stringIter s (i + 1)) ∧ Lik w y p a g2 g1 B' B ∧ ∀ j, j ≤ p.size → (B' j = true ↔ ∃ k', k' < k ∧ B k' = true ∧ Fires p ch k' j)) (fun y => p.size - itPos y it2)
        case atStart => exact ⟨0, _, by omega, J4.out, I4.out, L4.out, fun j hj => by simp⟩
        case round =>
          clear J4 I4 L4
          obtain ⟨k, B', hk, hJ, hI, hL, hF⟩ := hrel
          have J := Lib.hid hJ
          have I := Lib.hid hI
          have L := Lib.hid hL
          have F := Lib.hid hF
          clear hJ hI hL hF
          by_cases hlk : k < p.size
          · have hpk : (p[k]'hlk).toNat < 128 := okText_lt hp hlk
            have hnx := fun ty => run_next_at (P := Tryz.prog) J.out ty hlk hpk
            obtain ⟨sg, hsg⟩ : ∃ sg : Nat, (p[k]'hlk).toNat = sg := ⟨_, rfl⟩
            rw [hsg] at hnx
            have HS := Lib.hid hsg
            clear hsg hpk
            have hn1 := L.out.lta
            have hn2 := L.out.r1.lt
            have hn3 := L.out.r2.lt
            have it2a : it2 ≠ a := by omega
            have M := Lib.hid (L.out.iter p (k + 1) (b := it2) (by omega) it2a (by omega) (by omega))
            have J' : Hid ((setIter wr it2 p (k + 1)).heap[it2]? = some (.stringIter p (k + 1))) := Lib.hid (setIter_same (Array.getElem?_eq_some_iff.1 J.out).1 p (k + 1))
            have I' : Hid ((setIter wr it2 p (k + 1)).heap[it]? = some (.stringIter s (i + 1))) := Lib.hid ((setIter_other _ (by omega) _ _).trans I.out)
            have b1 := M.out.r2.cell (i := k) (by omega)
            have m1 := M.out.ca
            cases hbk : B k
            · rw [hbk] at b1
              have HBk := Lib.hid hbk
              clear hbk
              go_wp2_with fail
              go_roundw
              case rel => exact ⟨k + 1, B', by omega, J'.out, I'.out, M.out, fun j hj => by rw [F.out j hj]; exact fires_no (Or.inl HBk.out)⟩
              case measure => rw [itPos_of J'.out, itPos_of J.out]; omega
            · rw [hbk] at b1
              have HBk := Lib.hid hbk
              clear hbk
              by_cases h37 : sg = 37
              · subst h37
                have R := Lib.hid (reach_ p hp2 k (by omega) a g2 w.heap.size 4 _ (setIter wr it2 p (k + 1)) M.out.ca M.out.cp M.out.r1 M.out.a1 (by have := M.out.l1; omega))
                go_wp2_with fail
                refine R.out.mono ?_
                rintro e z ⟨rfl, B'', hr, hB, hO⟩
                have M2 := Lib.hid (M.out.only hO hr)
                have J2 := Lib.hid ((hO.block it2 (by omega)).trans J'.out)
                have I2 := Lib.hid ((hO.block it (by omega)).trans I'.out)
                have F2 := Lib.hid hB
                clear R hr hB hO
                go_wp2_with fail
                go_roundw
                case rel => exact ⟨k + 1, B'', by omega, J2.out, I2.out, M2.out, fun j hj => by rw [F2.out j hj, F.out j hj]; exact fires_pc hlk HBk.out HS.out⟩
                case measure => rw [itPos_of J2.out, itPos_of J.out]; omega
              · have q37 : ((sg : Int) == 37) = false := by simpa using (by omega : ¬ (sg : Int) = 37)
                have H37 := Lib.hid h37
                clear h37
                by_cases h95 : sg = 95
                · subst h95
                  have R := Lib.hid (reach_ p hp2 (k + 1) (by omega) a g2 w.heap.size 4 _ (setIter wr it2 p (k + 1)) M.out.ca M.out.cp M.out.r1 M.out.a1 (by have := M.out.l1; omega))
                  go_wp2_with fail
                  refine R.out.mono ?_
                  rintro e z ⟨rfl, B'', hr, hB, hO⟩
                  have M2 := Lib.hid (M.out.only hO hr)
                  have J2 := Lib.hid ((hO.block it2 (by omega)).trans J'.out)
                  have I2 := Lib.hid ((hO.block it (by omega)).trans I'.out)
                  have F2 := Lib.hid hB
                  clear R hr hB hO
                  go_wp2_with fail
                  go_roundw
                  case rel => exact ⟨k + 1, B'', by omega, J2.out, I2.out, M2.out, fun j hj => by rw [F2.out j hj, F.out j hj]; exact fires_one hlk HBk.out (by rw [HS.out]; exact H37.out) (Or.inl HS.out)⟩
                  case measure => rw [itPos_of J2.out, itPos_of J.out]; omega
                · have q95 : ((sg : Int) == 95) = false := by simpa using (by omega : ¬ (sg : Int) = 95)
                  have H95 := Lib.hid h95
                  clear h95
                  by_cases hc : sg = ch
                  · subst hc
                    have R := Lib.hid (reach_ p hp2 (k + 1) (by omega) a g2 w.heap.size 4 _ (setIter wr it2 p (k + 1)) M.out.ca M.out.cp M.out.r1 M.out.a1 (by have := M.out.l1; omega))
                    go_wp2_with fail
                    refine R.out.mono ?_
                    rintro e z ⟨rfl, B'', hr, hB, hO⟩
                    have M2 := Lib.hid (M.out.only hO hr)
                    have J2 := Lib.hid ((hO.block it2 (by omega)).trans J'.out)
                    have I2 := Lib.hid ((hO.block it (by omega)).trans I'.out)
                    have F2 := Lib.hid hB
                    clear R hr hB hO
                    go_wp2_with fail
                    go_roundw
                    case rel => exact ⟨k + 1, B'', by omega, J2.out, I2.out, M2.out, fun j hj => by rw [F2.out j hj, F.out j hj]; exact fires_one hlk HBk.out (by rw [HS.out]; exact H37.out) (Or.inr HS.out)⟩
                    case measure => rw [itPos_of J2.out, itPos_of J.out]; omega
                  · have qc : ((sg : Int) == (ch : Int)) = false := by simpa using (by omega : ¬ (sg : Int) = (ch : Int))
                    have Hc := Lib.hid hc
                    clear hc
                    go_wp2_with fail
                    go_roundw
                    case rel => exact ⟨k + 1, B', by omega, J'.out, I'.out, M.out, fun j hj => by rw [F.out j hj]; exact fires_no (Or.inr (fun ⟨_, h⟩ => by rw [HS.out] at h; exact h.elim (fun h => H37.out h.1) (fun h => h.2.1.elim H95.out Hc.out)))⟩
                    case measure => rw [itPos_of J'.out, itPos_of J.out]; omega
          · have hnx := fun ty => run_next_at_end (P := Tryz.prog) J.out ty hlk
            go_wp2_with fail
            go_roundw
            case rel =>
              obtain rfl : k = p.size := by omega
              refine ⟨i + 1, g2, g1, B', B, by omega, rfl, I.out, ?_, L.out, hg2, hg1⟩
              have e : s.data.toList.take (i + 1) = s.data.toList.take i ++ [s[i]'hlt] := by
                rw [List.take_add_one, List.getElem?_eq_getElem (by simpa using hlt)]
                rfl
              rw [e]
              refine after_step (s[i]'hlt) A.out (fun j hj => ?_)
              rw [HC.out]
              exact F.out j hj
            case measure => rw [itPos_of I.out, itPos_of HI0.out]; omega
      · have hnx := fun ty => run_next_at_end (P := Tryz.prog) I.out ty hlt
        have e1 := K.out.ca
        have e2 := K.out.cp
        have e3 := K.out.r1.cell (i := p.size) (by omega)
        go_wp2_with fail
        go_ret
        have h' : After p s.data.toList B := by
          have h := A.out
          rwa [List.take_of_length_le (by simp; omega)] at h
        exact ⟨congrArg (fun b => Ending.returned (Value.bool b)) (after_end (p := p) (B := B) (u := s.data.toList) h').symm, K.out.HB⟩
end Go.Proofs.YthomeplakcbfoaaGreatDoor
