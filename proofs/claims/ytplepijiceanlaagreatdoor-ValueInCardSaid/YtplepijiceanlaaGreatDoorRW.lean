/-
  Contracts of the reference: Like and Binary.
-/
import Derived.Test.YtplepijiceanlaaGreatDoorLB
import Derived.Test.YtplepijiceanlaaGreatDoorJ
import Derived.BigQuiet
import Derived.Test.YtplepijiceanlaaGreatDoorRV
namespace Go.Proofs.YtplepijiceanlaaGreatDoor
section
open Go.RowKit

theorem lk_cc (a c : UInt8) (s p : List UInt8) : lk (a :: s) (c :: p) = if (c == 37) = true then lk (a :: s) p || lk s (c :: p) else (c == 95 || c == a) && lk s p := by rw [lk]
theorem lk_nc (c : UInt8) (p : List UInt8) : lk [] (c :: p) = (c == 37 && lk [] p) := by rw [lk]
theorem lk_nil_snoc : ∀ (q : List UInt8) (c : UInt8), lk [] (q ++ [c]) = (c == 37 && lk [] q)
  | [], c => by simp [lk]
  | d :: q, c => by
    rw [List.cons_append, lk, lk_nil_snoc q c, lk]
    cases d == 37 <;> cases c == 37 <;> simp
theorem lk_some_nil (a : UInt8) (u : List UInt8) : lk (a :: u) [] = false := by simp [lk]
theorem lk_last : ∀ (u : List UInt8) (a : UInt8), lk (u ++ [a]) [] = false
  | [], a => by simp [lk]
  | b :: u, a => by simp [lk]
theorem lk_snoc : ∀ (n : Nat) (u q : List UInt8) (a c : UInt8), u.length + q.length = n →
    lk (u ++ [a]) (q ++ [c]) = if (c == 37) = true then lk (u ++ [a]) q || lk u (q ++ [c]) else (c == 95 || c == a) && lk u q := by
  intro n
  induction n using Nat.strongRecOn with
  | _ n ih =>
    intro u q a c hn
    match u, q, hn with
    | [], [], _ =>
      simp only [List.nil_append]
      rw [lk_cc, lk_nc, lk_some_nil]
    | b :: u, [], _ =>
      simp only [List.nil_append, List.cons_append]
      by_cases hc : c = 37
      · subst hc
        rw [lk_pct (b :: (u ++ [a])), lk_pct (b :: u)]
        simp
      · have h37 : (c == 37) = false := by simpa using hc
        rw [lk_cc, h37, lk_some_nil, lk_last]
        simp [lk_some_nil]
    | [], d :: q, hn =>
      have i1 := ih (0 + q.length) (by simp at hn; omega) [] q a c (by simp)
      simp only [List.nil_append, List.cons_append] at i1 ⊢
      rw [lk_cc a d [] (q ++ [c]), i1, lk_nc d (q ++ [c]), lk_nil_snoc, lk_cc a d [] q, lk_nc d q]
      cases d == 37 <;> cases c == 37 <;> cases lk [] q <;> cases lk [a] q <;> cases (d == 95 || d == a) <;> cases (c == 95 || c == a) <;> rfl
    | b :: u, d :: q, hn =>
      have i1 := ih ((b :: u).length + q.length) (by simp at hn ⊢; omega) (b :: u) q a c rfl
      have i2 := ih (u.length + (d :: q).length) (by simp at hn ⊢; omega) u (d :: q) a c rfl
      have i3 := ih (u.length + q.length) (by simp at hn; omega) u q a c rfl
      simp only [List.cons_append] at i1 i2 i3 ⊢
      rw [lk_cc b d (u ++ [a]) (q ++ [c]), i1, i2, i3, lk_cc b d (u ++ [a]) q, lk_cc b d u (q ++ [c]), lk_cc b d u q]
      cases d == 37 <;> cases c == 37 <;> cases (d == 95 || d == b) <;> cases (c == 95 || c == a) <;> simp <;> cases lk (b :: (u ++ [a])) q <;> cases lk (u ++ [a]) (d :: q) <;> cases lk (b :: u) (q ++ [c]) <;> cases lk u (d :: (q ++ [c])) <;> rfl
theorem lk_more : ∀ (u q : List UInt8), lk u q = true → lk u (q ++ [37]) = true := by
  intro u q h
  rcases List.eq_nil_or_concat u with rfl | ⟨u', a, rfl⟩
  · rw [lk_nil_snoc, h]; rfl
  · rw [List.concat_eq_append] at h ⊢
    rw [lk_snoc _ u' q a 37 rfl]
    simp [h]
/-- The beginning of i bytes against the pattern's beginning of j bytes. -/
def mm (s p : ByteArray) (i j : Nat) : Bool := lk (s.data.toList.take i) (p.data.toList.take j)
theorem take_s (s : ByteArray) (i : Nat) (h : i < s.size) : s.data.toList.take (i + 1) = s.data.toList.take i ++ [s[i]] := by
  rw [List.take_succ_eq_append_getElem (by simpa using h)]; rfl
theorem mm_step (s p : ByteArray) (i j : Nat) (hi : i < s.size) (hj : j < p.size) :
    mm s p (i + 1) (j + 1) = if (p[j] == 37) = true then mm s p (i + 1) j || mm s p i (j + 1) else (p[j] == 95 || p[j] == s[i]) && mm s p i j := by
  unfold mm
  rw [take_s s i hi, take_s p j hj]
  exact lk_snoc _ _ _ _ _ rfl
theorem mm_more (s p : ByteArray) (i j : Nat) (hj : j < p.size) (h : p[j] = 37) (hm : mm s p i j = true) : mm s p i (j + 1) = true := by
  unfold mm at *
  rw [take_s p j hj, h]
  exact lk_more _ _ hm
theorem mm_zero (s p : ByteArray) (i : Nat) (hi : i < s.size) : mm s p (i + 1) 0 = false := by
  unfold mm
  rw [take_s s i hi]
  exact lk_last _ _
theorem mm_first (s p : ByteArray) (j : Nat) (hj : j < p.size) : mm s p 0 (j + 1) = (p[j] == 37 && mm s p 0 j) := by
  unfold mm
  rw [take_s p j hj, List.take_zero, lk_nil_snoc]
theorem mm_00 (s p : ByteArray) : mm s p 0 0 = true := by simp [mm, lk]
theorem mm_end (s p : ByteArray) : mm s p s.size p.size = lk s.data.toList p.data.toList := by
  unfold mm
  rw [List.take_of_length_le (by simp), List.take_of_length_le (by simp)]
end
end Go.Proofs.YtplepijiceanlaaGreatDoor
namespace Go.Proofs.YtplepijiceanlaaGreatDoor
section
open Go.RowKit

theorem mm_pre (s p : ByteArray) (k : Nat) (hk : k ≤ p.size) (h : ∀ j (hj : j < p.size), j < k → p[j].toNat = 37) : ∀ j, j ≤ k → mm s p 0 j = true
  | 0, _ => mm_00 s p
  | j + 1, hj => by
    have e : p[j] = 37 := UInt8.toNat_inj.1 (h j (by omega) (by omega))
    rw [mm_first s p j (by omega), mm_pre s p k hk h j (by omega), e]; rfl
theorem mm_post (s p : ByteArray) (k : Nat) (h : ∀ hk : k < p.size, p[k].toNat ≠ 37) : ∀ j, k < j → j ≤ p.size → mm s p 0 j = false
  | 0, h1, _ => by omega
  | j + 1, h1, h2 => by
    rw [mm_first s p j (by omega)]
    by_cases e : j = k
    · subst e
      have q : p[j] ≠ 37 := fun q => h (by omega) (by rw [q]; rfl)
      simp [q]
    · rw [mm_post s p k h j (by omega) (by omega)]; simp
theorem mm_row0 (s p : ByteArray) (k : Nat) (hk : k ≤ p.size) (h : ∀ j (hj : j < p.size), j < k → p[j].toNat = 37) (h2 : ∀ hk : k < p.size, p[k].toNat ≠ 37) (j : Nat) (hj : j ≤ p.size) : decide (j ≤ k) = mm s p 0 j := by
  by_cases e : j ≤ k
  · rw [mm_pre s p k hk h j e]; simp [e]
  · rw [mm_post s p k h2 j (by omega) hj]; simp [e]
theorem mm_pct (s p : ByteArray) (i k : Nat) (hi : i < s.size) (hk : k < p.size) (h : p[k].toNat = 37) : mm s p (i + 1) (k + 1) = (mm s p i (k + 1) || mm s p (i + 1) k || mm s p i k) := by
  have e : p[k] = 37 := UInt8.toNat_inj.1 h
  have m := mm_more s p i k hk e
  rw [mm_step s p i k hi hk, e]
  cases h1 : mm s p i k <;> simp [Bool.or_comm]
  exact Or.inl (m h1)
theorem mm_one (s p : ByteArray) (i k : Nat) (hi : i < s.size) (hk : k < p.size) (h : p[k].toNat ≠ 37) (h2 : p[k].toNat = 95 ∨ p[k].toNat = s[i].toNat) : mm s p (i + 1) (k + 1) = mm s p i k := by
  have e : (p[k] == 37) = false := by
    have : p[k] ≠ 37 := fun q => h (by rw [q]; rfl)
    simpa using this
  have e2 : (p[k] == 95 || p[k] == s[i]) = true := by
    rcases h2 with q | q
    · have : p[k] = 95 := UInt8.toNat_inj.1 q
      simp [this]
    · have : p[k] = s[i] := UInt8.toNat_inj.1 q
      simp [this]
  rw [mm_step s p i k hi hk, e, e2]
  simp
theorem mm_none (s p : ByteArray) (i k : Nat) (hi : i < s.size) (hk : k < p.size) (h : p[k].toNat ≠ 37) (h2 : p[k].toNat ≠ 95) (h3 : p[k].toNat ≠ s[i].toNat) : mm s p (i + 1) (k + 1) = false := by
  have e : (p[k] == 37) = false := by
    have : p[k] ≠ 37 := fun q => h (by rw [q]; rfl)
    simpa using this
  have e2 : (p[k] == 95 || p[k] == s[i]) = false := by
    have a : p[k] ≠ 95 := fun q => h2 (by rw [q]; rfl)
    have b : p[k] ≠ s[i] := fun q => h3 (by rw [q])
    simp [a, b]
  rw [mm_step s p i k hi hk, e, e2]
  simp
theorem madeRow (n : Nat) (x : World) : (x.alloc (.cells (madeCells #[.bool false] (n + 1)) 4)).rowIs x.heap.size 4 (n + 1) (fun _ => .bool false) :=
  ⟨_, heap_new x _, size_madeCells _ _, fun i hi => by simp [madeCells, hi, Nat.mod_one]⟩
/-- Since w: a row of places. -/
structure Pl (w x : World) (p : ByteArray) (g : Nat) (B : Nat → Bool) : Prop where
  HB : Below w.heap.size w x
  r : x.rowIs g 4 (p.size + 1) (fun j => .bool (B j))
  l : w.heap.size ≤ g
variable {w x y : World} {p : ByteArray} {g it : Nat} {B B' : Nat → Bool}
theorem Pl.first (p : ByteArray) (w : World) : Pl w (w.alloc (.cells ((madeCells #[.bool false] (p.size + 1)).setIfInBounds 0 (.bool true)) 4)) p w.heap.size (fun j => decide (j ≤ 0)) :=
  ⟨(Below.refl _ w).alloc (Nat.le_refl _) _, ⟨_, heap_new w _, by simp [size_madeCells], fun i hi => by
    rw [Array.getElem?_setIfInBounds]
    by_cases e : i = 0
    · subst e; simp [size_madeCells]
    · have e2 : ¬ 0 = i := fun q => e q.symm
      simp [e, e2, madeCells, hi, Nat.mod_one]⟩, Nat.le_refl _⟩
theorem Pl.made {y : World} (p : ByteArray) (hB : Below w.heap.size w y) : Pl w (y.alloc (.cells (madeCells #[.bool false] (p.size + 1)) 4)) p y.heap.size (fun _ => false) :=
  ⟨hB.alloc hB.size _, madeRow p.size y, hB.size⟩
theorem Pl.alloc (h : Pl w x p g B) (o : Obj) : Pl w (x.alloc o) p g B := ⟨h.HB.alloc h.HB.size o, h.r.of_block (Below.heap_alloc _ _ _ h.r.lt), h.l⟩
theorem Pl.drewN (h : Pl w x p g B) (n : Nat) : Pl w (x.drewN n) p g B := ⟨below_drewN h.HB n, h.r.of_block rfl, h.l⟩
theorem heap_drewN_ (x : World) (n k : Nat) : (x.drewN n).heap[k]? = x.heap[k]? := rfl
theorem Pl.iter (h : Pl w x p g B) (s : ByteArray) (pos : Nat) (h1 : w.heap.size ≤ it) (h2 : it ≠ g) : Pl w (setIter x it s pos) p g B :=
  ⟨Below.setIter h.HB h1 s pos, h.r.of_block (setIter_other _ (Ne.symm h2) _ _), h.l⟩
theorem Pl.set (h : Pl w x p g B) (k : Nat) (b : Bool) : Pl w (x.setCell ⟨g, k, none⟩ (.bool b)) p g (fun j => if j = k then b else B j) :=
  ⟨h.HB.setCell h.l _, (h.r.set k (.bool b)).congr (fun j _ => by by_cases e : j = k <;> simp [e]), h.l⟩
theorem Pl.other (h : Pl w x p g B) {g2 : Nat} (k : Nat) (v : Value) (h1 : w.heap.size ≤ g2) (hne : g2 ≠ g) : Pl w (x.setCell ⟨g2, k, none⟩ v) p g B :=
  ⟨h.HB.setCell h1 _, h.r.setOther (Ne.symm hne) _, h.l⟩
theorem pl_next (m C : Nat → Bool) (k n : Nat) (h : ∀ j, j ≤ n → C j = if j ≤ k then m j else false) (b : Bool) (hb : b = m (k + 1)) (j : Nat) (hj : j ≤ n) : (if j = k + 1 then b else C j) = if j ≤ k + 1 then m j else false := by
  by_cases e : j = k + 1
  · subst e; simp [hb]
  · rw [if_neg e, h j hj]
    have : j ≤ k + 1 ↔ j ≤ k := by omega
    simp only [this]
theorem pl_same (C : Nat → Bool) (k j : Nat) : (if j = k + 1 then C (k + 1) else C j) = C j := by
  by_cases e : j = k + 1
  · subst e; simp
  · simp [e]
theorem heap_setCell_ne (x : World) (g k o : Nat) (v : Value) (h : k ≠ g) : (x.setCell ⟨g, o, none⟩ v).heap[k]? = x.heap[k]? := Below.heap_setCell _ _ _ _ h
set_option maxRecDepth 100000 in
set_option maxHeartbeats 4000000 in
theorem refLike_ (s p : ByteArray) (hs : okText s = true) (hp : okText p = true) (w : World) :
    Calls Tryz.prog 71 #[.string s, .string p] w fun e w' => e = .returned (.bool (lk s.data.toList p.data.toList)) ∧ Below w.heap.size w w' := by
  have hp2 : p.size ≤ 200 := by simp [okText] at hp; exact hp.1
  have hs2 : s.size ≤ 200 := by simp [okText] at hs; exact hs.1
  have hmk := make_bools p.size hp2
  have M0 := Lib.hid (Pl.made (w := w) (y := w) p (Below.refl _ w))
  have c0 := M0.out.r.cell (i := 0) (by omega)
  have f0 := M0.out.r.frozen 0
  go_enter Tryz.func71, Tryz.ntmps71
  go_wp2_with fail
  have M1 := Lib.hid (M0.out.set 0 true)
  clear M0 c0 f0
  go_loopw [6] (fun s6 y => ∃ k : Nat, k ≤ p.size ∧ s6 = .int .i64 k ∧ Pl w y p w.heap.size (fun j => decide (j ≤ k)) ∧ ∀ j (hj : j < p.size), j < k → p[j].toNat = 37) (fun s6 y => p.size - (intOf s6).toNat)
  case atStart => exact ⟨0, by omega, rfl, Pl.first p w, fun j _ h => by omega⟩
  case round =>
    clear M1
    obtain ⟨k, hk, rfl, hK, hA⟩ := hrel
    have K := Lib.hid hK
    have A := Lib.hid hA
    clear hK hA
    by_cases hlt : k < p.size
    · by_cases hq : p[k].toNat = 37
      · have hq' : (p[k].toNat : Int) = 37 := by omega
        have c1 := K.out.r.cell (i := k + 1) (by omega)
        have f1 := K.out.r.frozen (k + 1)
        have HQ := Lib.hid hq
        clear hq
        go_wp2_with fail
        go_roundw
        case rel =>
          have K2 := K.out.set (k + 1) true
          refine ⟨k + 1, by omega, by go_num, ⟨K2.HB, K2.r.congr (fun j _ => ?_), K2.l⟩, fun j hj h => ?_⟩
          · by_cases e : j = k + 1
            · simp [e]
            · have : (j ≤ k + 1) ↔ (j ≤ k) := by omega
              simp [e, this]
          · by_cases e : j = k
            · subst e; exact HQ.out
            · exact A.out j hj (by omega)
        case measure => simp [intOf]; omega
      · have hq' : ((p[k].toNat : Int) == 37) = false := by simpa using (by omega : ¬ (p[k].toNat : Int) = 37)
        have R0 := Lib.hid (mm_row0 s p k hk A.out (fun _ => hq))
        clear hq
        go_wp2_with fail
        have N0 : Hid (∀ j, j ≤ p.size → (fun j => decide (j ≤ k)) j = mm s p 0 j) := Lib.hid R0.out
        have G0 : Hid (w.heap.size < wr.heap.size) := Lib.hid K.out.r.lt
        clear A R0
        go_loopw [5, 7] (fun s5 s7 y => ∃ (i g : Nat) (B : Nat → Bool), i ≤ s.size ∧ s7 = .int .i64 i ∧ s5 = .slice (some ⟨g, 0, none⟩) (p.size + 1) (p.size + 1) ∧ Pl w y p g B ∧ ∀ j, j ≤ p.size → B j = mm s p i j) (fun s5 s7 y => s.size - (intOf s7).toNat)
        case atStart => exact ⟨0, _, _, by omega, rfl, rfl, K.out, N0.out⟩
        case round =>
          clear N0 G0 K
          obtain ⟨i, g, B, hi, rfl, rfl, hK, hA⟩ := hrel
          have K := Lib.hid hK
          have A := Lib.hid hA
          clear hK hA
          by_cases hl : i < s.size
          · have N := Lib.hid (Pl.made (w := w) p K.out.HB)
            have K1 := Lib.hid (K.out.alloc (.cells (madeCells #[.bool false] (p.size + 1)) 4))
            go_wp2_with fail
            have ZS : Hid ((wr.alloc (.cells (madeCells #[.bool false] (p.size + 1)) 4)).heap.size = wr.heap.size + 1) := Lib.hid (sz1 wr _)
            generalize hW : wr.alloc (.cells (madeCells #[.bool false] (p.size + 1)) 4) = z at *
            have GL : Hid (g < wr.heap.size) := Lib.hid K.out.r.lt
            clear hW hmk K
            generalize hgn : wr.heap.size = gn at *
            clear hgn
            have K2 := Lib.hid (K1.out.alloc (.stringIter p 0))
            have N2 := Lib.hid (N.out.alloc (.stringIter p 0))
            have I2 : Hid ((z.iter p 0).heap[gn + 1]? = some (.stringIter p 0)) := Lib.hid (ZS.out ▸ World.iter_heap z p 0)
            clear K1 N
            go_loopw [] (fun y => ∃ (k : Nat) (C : Nat → Bool), k ≤ p.size ∧ y.heap[gn + 1]? = some (.stringIter p k) ∧ Pl w y p g B ∧ Pl w y p gn C ∧ ∀ j, j ≤ p.size → C j = if j ≤ k then mm s p (i + 1) j else false) (fun y => p.size - itPos y (gn + 1))
            case atStart => exact ⟨0, _, by omega, I2.out, K2.out, N2.out, fun j hj => by
              by_cases e : j ≤ 0
              · obtain rfl : j = 0 := by omega
                rw [if_pos e, mm_zero s p i hl]
              · rw [if_neg e]⟩
            case round =>
              clear I2 K2 N2
              obtain ⟨k2, C, hk2, hJ, hK, hN, hC⟩ := hrel
              have J := Lib.hid hJ
              have K := Lib.hid hK
              have N := Lib.hid hN
              have C0 := Lib.hid hC
              clear hJ hK hN hC
              by_cases hlk : k2 < p.size
              · have hpk : (p[k2]'hlk).toNat < 128 := okText_lt hp hlk
                have hnx := fun ty => run_next_at (P := Tryz.prog) J.out ty hlk hpk
                have K2 := Lib.hid (K.out.iter p (k2 + 1) (it := gn + 1) (by have := N.out.l; omega) (by have := GL.out; omega))
                have N2 := Lib.hid (N.out.iter p (k2 + 1) (it := gn + 1) (by have := N.out.l; omega) (by omega))
                have J2 : Hid ((setIter wr (gn + 1) p (k2 + 1)).heap[gn + 1]? = some (.stringIter p (k2 + 1))) := Lib.hid (setIter_same (Array.getElem?_eq_some_iff.1 J.out).1 p (k2 + 1))
                have hB1 := K2.out.r.cell (i := k2 + 1) (by omega)
                have hB0 := K2.out.r.cell (i := k2) (by omega)
                have hC0 := N2.out.r.cell (i := k2) (by omega)
                have hC1 := N2.out.r.cell (i := k2 + 1) (by omega)
                have hF1 := N2.out.r.frozen (k2 + 1)
                by_cases h37 : (p[k2]'hlk).toNat = 37
                · have q37 : ((p[k2]'hlk).toNat : Int) = 37 := by omega
                  have H37 := Lib.hid (mm_pct s p i k2 hl hlk h37)
                  have V : Hid ((B (k2 + 1) || C k2 || B k2) = mm s p (i + 1) (k2 + 1)) := Lib.hid (by rw [H37.out, A.out (k2 + 1) (by omega), A.out k2 (by omega), C0.out k2 (by omega), if_pos (Nat.le_refl k2)])
                  have F : Hid (∀ b, b = mm s p (i + 1) (k2 + 1) → ∀ j, j ≤ p.size → (if j = k2 + 1 then b else C j) = if j ≤ k2 + 1 then mm s p (i + 1) j else false) := Lib.hid (pl_next (fun j => mm s p (i + 1) j) C k2 p.size C0.out)
                  clear h37 H37 hpk
                  cases hb1 : B (k2 + 1) <;> cases hc0 : C k2 <;> cases hb0 : B k2
                  all_goals
                    rw [hb1] at hB1
                    rw [hc0] at hC0
                    rw [hb0] at hB0
                    rw [hb1, hc0, hb0] at V
                    have HH := Lib.hid (And.intro hb1 (And.intro hc0 hb0))
                    clear hb1 hc0 hb0
                    go_wp2_with fail
                    go_roundw
                    case rel => exact ⟨k2 + 1, _, by omega, (heap_setCell_ne _ _ _ _ _ (by omega)).trans J2.out, K2.out.other _ _ (by have := N.out.l; omega) (by have := GL.out; omega), N2.out.set (k2 + 1) _, F.out _ V.out⟩
                    case measure => rw [itPos_of ((heap_setCell_ne _ _ _ _ _ (by omega)).trans J2.out), itPos_of J.out]; omega
                · have q37 : (((p[k2]'hlk).toNat : Int) == 37) = false := by simpa using (by omega : ¬ ((p[k2]'hlk).toNat : Int) = 37)
                  have F : Hid (∀ b, b = mm s p (i + 1) (k2 + 1) → ∀ j, j ≤ p.size → (if j = k2 + 1 then b else C j) = if j ≤ k2 + 1 then mm s p (i + 1) j else false) := Lib.hid (pl_next (fun j => mm s p (i + 1) j) C k2 p.size C0.out)
                  by_cases h95 : (p[k2]'hlk).toNat = 95
                  · have V : Hid (B k2 = mm s p (i + 1) (k2 + 1)) := Lib.hid ((A.out k2 (by omega)).trans (mm_one s p i k2 hl hlk h37 (Or.inl h95)).symm)
                    have q95 : ((p[k2]'hlk).toNat : Int) = 95 := by omega
                    have hd : decide (((p[k2]'hlk).toNat : Int) = 95) = true := by simpa using q95
                    clear h37 h95 hpk
                    cases hb0 : B k2
                    all_goals
                      rw [hb0] at hB0
                      rw [hb0] at V
                      have HH := Lib.hid hb0
                      clear hb0
                      go_upto_region 16 with fail
                      go_quiet (fail)
                      go_wp2_with fail
                      go_roundw
                      case rel => exact ⟨k2 + 1, _, by omega, (heap_setCell_ne _ _ _ _ _ (by omega)).trans ((heap_drewN_ _ _ _).trans J2.out), (K2.out.drewN _).other _ _ (by have := N.out.l; omega) (by have := GL.out; omega), (N2.out.drewN _).set (k2 + 1) _, F.out _ V.out⟩
                      case measure => rw [itPos_of ((heap_setCell_ne _ _ _ _ _ (by omega)).trans ((heap_drewN_ _ _ _).trans J2.out)), itPos_of J.out]; omega
                  · have q95 : (((p[k2]'hlk).toNat : Int) == 95) = false := by simpa using (by omega : ¬ ((p[k2]'hlk).toNat : Int) = 95)
                    have hd : decide (((p[k2]'hlk).toNat : Int) = 95) = false := by simpa using (by omega : ¬ ((p[k2]'hlk).toNat : Int) = 95)
                    by_cases hc : (p[k2]'hlk).toNat = (s[i]'hl).toNat
                    · have V : Hid (B k2 = mm s p (i + 1) (k2 + 1)) := Lib.hid ((A.out k2 (by omega)).trans (mm_one s p i k2 hl hlk h37 (Or.inr hc)).symm)
                      have qc : (((p[k2]'hlk).toNat : Int) == ((s[i]'hl).toNat : Int)) = true := by simpa using (by omega : ((p[k2]'hlk).toNat : Int) = ((s[i]'hl).toNat : Int))
                      clear h37 h95 hpk hc
                      cases hb0 : B k2
                      all_goals
                        rw [hb0] at hB0
                        rw [hb0] at V
                        have HH := Lib.hid hb0
                        clear hb0
                        go_upto_region 16 with fail
                        go_quiet (fail)
                        go_wp2_with fail
                        go_roundw
                        case rel => exact ⟨k2 + 1, _, by omega, (heap_setCell_ne _ _ _ _ _ (by omega)).trans ((heap_drewN_ _ _ _).trans J2.out), (K2.out.drewN _).other _ _ (by have := N.out.l; omega) (by have := GL.out; omega), (N2.out.drewN _).set (k2 + 1) _, F.out _ V.out⟩
                        case measure => rw [itPos_of ((heap_setCell_ne _ _ _ _ _ (by omega)).trans ((heap_drewN_ _ _ _).trans J2.out)), itPos_of J.out]; omega
                    · have V : Hid (C (k2 + 1) = mm s p (i + 1) (k2 + 1)) := Lib.hid (by rw [C0.out (k2 + 1) (by omega), if_neg (by omega), mm_none s p i k2 hl hlk h37 h95 hc])
                      have qc : (((p[k2]'hlk).toNat : Int) == ((s[i]'hl).toNat : Int)) = false := by simpa using (by omega : ¬ ((p[k2]'hlk).toNat : Int) = ((s[i]'hl).toNat : Int))
                      clear h37 h95 hpk hc
                      go_upto_region 16 with fail
                      go_quiet (fail)
                      go_wp2_with fail
                      go_roundw
                      case rel => exact ⟨k2 + 1, C, by omega, J2.out, K2.out.drewN _, N2.out.drewN _, fun j hj => (pl_same C k2 j).symm.trans (F.out _ V.out j hj)⟩
                      case measure => rw [itPos_of ((heap_drewN_ _ _ _).trans J2.out), itPos_of J.out]; omega
              · have hnx := fun ty => run_next_at_end (P := Tryz.prog) J.out ty hlk
                go_wp2_with fail
                go_roundw
                case rel =>
                  obtain rfl : k2 = p.size := by omega
                  refine ⟨i + 1, gn, C, by omega, by go_num, rfl, N.out, fun j hj => ?_⟩
                  rw [C0.out j hj, if_pos hj]
                case measure => simp [intOf]; omega
          · have e3 := K.out.r.cell (i := p.size) (by omega)
            go_wp2_with fail
            go_ret
            obtain rfl : i = s.size := by omega
            exact ⟨congrArg (fun b => Ending.returned (Value.bool b)) ((A.out p.size (by omega)).trans (mm_end s p)), K.out.HB⟩
    · have R0 := Lib.hid (mm_row0 s p k hk A.out (fun h => absurd h hlt))
      go_wp2_with fail
      have N0 : Hid (∀ j, j ≤ p.size → (fun j => decide (j ≤ k)) j = mm s p 0 j) := Lib.hid R0.out
      have G0 : Hid (w.heap.size < wr.heap.size) := Lib.hid K.out.r.lt
      clear A R0
      go_loopw [5, 7] (fun s5 s7 y => ∃ (i g : Nat) (B : Nat → Bool), i ≤ s.size ∧ s7 = .int .i64 i ∧ s5 = .slice (some ⟨g, 0, none⟩) (p.size + 1) (p.size + 1) ∧ Pl w y p g B ∧ ∀ j, j ≤ p.size → B j = mm s p i j) (fun s5 s7 y => s.size - (intOf s7).toNat)
      case atStart => exact ⟨0, _, _, by omega, rfl, rfl, K.out, N0.out⟩
      case round =>
        clear N0 G0 K
        obtain ⟨i, g, B, hi, rfl, rfl, hK, hA⟩ := hrel
        have K := Lib.hid hK
        have A := Lib.hid hA
        clear hK hA
        by_cases hl : i < s.size
        · have N := Lib.hid (Pl.made (w := w) p K.out.HB)
          have K1 := Lib.hid (K.out.alloc (.cells (madeCells #[.bool false] (p.size + 1)) 4))
          go_wp2_with fail
          have ZS : Hid ((wr.alloc (.cells (madeCells #[.bool false] (p.size + 1)) 4)).heap.size = wr.heap.size + 1) := Lib.hid (sz1 wr _)
          generalize hW : wr.alloc (.cells (madeCells #[.bool false] (p.size + 1)) 4) = z at *
          have GL : Hid (g < wr.heap.size) := Lib.hid K.out.r.lt
          clear hW hmk K
          generalize hgn : wr.heap.size = gn at *
          clear hgn
          have K2 := Lib.hid (K1.out.alloc (.stringIter p 0))
          have N2 := Lib.hid (N.out.alloc (.stringIter p 0))
          have I2 : Hid ((z.iter p 0).heap[gn + 1]? = some (.stringIter p 0)) := Lib.hid (ZS.out ▸ World.iter_heap z p 0)
          clear K1 N
          go_loopw [] (fun y => ∃ (k : Nat) (C : Nat → Bool), k ≤ p.size ∧ y.heap[gn + 1]? = some (.stringIter p k) ∧ Pl w y p g B ∧ Pl w y p gn C ∧ ∀ j, j ≤ p.size → C j = if j ≤ k then mm s p (i + 1) j else false) (fun y => p.size - itPos y (gn + 1))
          case atStart => exact ⟨0, _, by omega, I2.out, K2.out, N2.out, fun j hj => by
            by_cases e : j ≤ 0
            · obtain rfl : j = 0 := by omega
              rw [if_pos e, mm_zero s p i hl]
            · rw [if_neg e]⟩
          case round =>
            clear I2 K2 N2
            obtain ⟨k2, C, hk2, hJ, hK, hN, hC⟩ := hrel
            have J := Lib.hid hJ
            have K := Lib.hid hK
            have N := Lib.hid hN
            have C0 := Lib.hid hC
            clear hJ hK hN hC
            by_cases hlk : k2 < p.size
            · have hpk : (p[k2]'hlk).toNat < 128 := okText_lt hp hlk
              have hnx := fun ty => run_next_at (P := Tryz.prog) J.out ty hlk hpk
              have K2 := Lib.hid (K.out.iter p (k2 + 1) (it := gn + 1) (by have := N.out.l; omega) (by have := GL.out; omega))
              have N2 := Lib.hid (N.out.iter p (k2 + 1) (it := gn + 1) (by have := N.out.l; omega) (by omega))
              have J2 : Hid ((setIter wr (gn + 1) p (k2 + 1)).heap[gn + 1]? = some (.stringIter p (k2 + 1))) := Lib.hid (setIter_same (Array.getElem?_eq_some_iff.1 J.out).1 p (k2 + 1))
              have hB1 := K2.out.r.cell (i := k2 + 1) (by omega)
              have hB0 := K2.out.r.cell (i := k2) (by omega)
              have hC0 := N2.out.r.cell (i := k2) (by omega)
              have hC1 := N2.out.r.cell (i := k2 + 1) (by omega)
              have hF1 := N2.out.r.frozen (k2 + 1)
              by_cases h37 : (p[k2]'hlk).toNat = 37
              · have q37 : ((p[k2]'hlk).toNat : Int) = 37 := by omega
                have H37 := Lib.hid (mm_pct s p i k2 hl hlk h37)
                have V : Hid ((B (k2 + 1) || C k2 || B k2) = mm s p (i + 1) (k2 + 1)) := Lib.hid (by rw [H37.out, A.out (k2 + 1) (by omega), A.out k2 (by omega), C0.out k2 (by omega), if_pos (Nat.le_refl k2)])
                have F : Hid (∀ b, b = mm s p (i + 1) (k2 + 1) → ∀ j, j ≤ p.size → (if j = k2 + 1 then b else C j) = if j ≤ k2 + 1 then mm s p (i + 1) j else false) := Lib.hid (pl_next (fun j => mm s p (i + 1) j) C k2 p.size C0.out)
                clear h37 H37 hpk
                cases hb1 : B (k2 + 1) <;> cases hc0 : C k2 <;> cases hb0 : B k2
                all_goals
                  rw [hb1] at hB1
                  rw [hc0] at hC0
                  rw [hb0] at hB0
                  rw [hb1, hc0, hb0] at V
                  have HH := Lib.hid (And.intro hb1 (And.intro hc0 hb0))
                  clear hb1 hc0 hb0
                  go_wp2_with fail
                  go_roundw
                  case rel => exact ⟨k2 + 1, _, by omega, (heap_setCell_ne _ _ _ _ _ (by omega)).trans J2.out, K2.out.other _ _ (by have := N.out.l; omega) (by have := GL.out; omega), N2.out.set (k2 + 1) _, F.out _ V.out⟩
                  case measure => rw [itPos_of ((heap_setCell_ne _ _ _ _ _ (by omega)).trans J2.out), itPos_of J.out]; omega
              · have q37 : (((p[k2]'hlk).toNat : Int) == 37) = false := by simpa using (by omega : ¬ ((p[k2]'hlk).toNat : Int) = 37)
                have F : Hid (∀ b, b = mm s p (i + 1) (k2 + 1) → ∀ j, j ≤ p.size → (if j = k2 + 1 then b else C j) = if j ≤ k2 + 1 then mm s p (i + 1) j else false) := Lib.hid (pl_next (fun j => mm s p (i + 1) j) C k2 p.size C0.out)
                by_cases h95 : (p[k2]'hlk).toNat = 95
                · have V : Hid (B k2 = mm s p (i + 1) (k2 + 1)) := Lib.hid ((A.out k2 (by omega)).trans (mm_one s p i k2 hl hlk h37 (Or.inl h95)).symm)
                  have q95 : ((p[k2]'hlk).toNat : Int) = 95 := by omega
                  have hd : decide (((p[k2]'hlk).toNat : Int) = 95) = true := by simpa using q95
                  clear h37 h95 hpk
                  cases hb0 : B k2
                  all_goals
                    rw [hb0] at hB0
                    rw [hb0] at V
                    have HH := Lib.hid hb0
                    clear hb0
                    go_upto_region 16 with fail
                    go_quiet (fail)
                    go_wp2_with fail
                    go_roundw
                    case rel => exact ⟨k2 + 1, _, by omega, (heap_setCell_ne _ _ _ _ _ (by omega)).trans ((heap_drewN_ _ _ _).trans J2.out), (K2.out.drewN _).other _ _ (by have := N.out.l; omega) (by have := GL.out; omega), (N2.out.drewN _).set (k2 + 1) _, F.out _ V.out⟩
                    case measure => rw [itPos_of ((heap_setCell_ne _ _ _ _ _ (by omega)).trans ((heap_drewN_ _ _ _).trans J2.out)), itPos_of J.out]; omega
                · have q95 : (((p[k2]'hlk).toNat : Int) == 95) = false := by simpa using (by omega : ¬ ((p[k2]'hlk).toNat : Int) = 95)
                  have hd : decide (((p[k2]'hlk).toNat : Int) = 95) = false := by simpa using (by omega : ¬ ((p[k2]'hlk).toNat : Int) = 95)
                  by_cases hc : (p[k2]'hlk).toNat = (s[i]'hl).toNat
                  · have V : Hid (B k2 = mm s p (i + 1) (k2 + 1)) := Lib.hid ((A.out k2 (by omega)).trans (mm_one s p i k2 hl hlk h37 (Or.inr hc)).symm)
                    have qc : (((p[k2]'hlk).toNat : Int) == ((s[i]'hl).toNat : Int)) = true := by simpa using (by omega : ((p[k2]'hlk).toNat : Int) = ((s[i]'hl).toNat : Int))
                    clear h37 h95 hpk hc
                    cases hb0 : B k2
                    all_goals
                      rw [hb0] at hB0
                      rw [hb0] at V
                      have HH := Lib.hid hb0
                      clear hb0
                      go_upto_region 16 with fail
                      go_quiet (fail)
                      go_wp2_with fail
                      go_roundw
                      case rel => exact ⟨k2 + 1, _, by omega, (heap_setCell_ne _ _ _ _ _ (by omega)).trans ((heap_drewN_ _ _ _).trans J2.out), (K2.out.drewN _).other _ _ (by have := N.out.l; omega) (by have := GL.out; omega), (N2.out.drewN _).set (k2 + 1) _, F.out _ V.out⟩
                      case measure => rw [itPos_of ((heap_setCell_ne _ _ _ _ _ (by omega)).trans ((heap_drewN_ _ _ _).trans J2.out)), itPos_of J.out]; omega
                  · have V : Hid (C (k2 + 1) = mm s p (i + 1) (k2 + 1)) := Lib.hid (by rw [C0.out (k2 + 1) (by omega), if_neg (by omega), mm_none s p i k2 hl hlk h37 h95 hc])
                    have qc : (((p[k2]'hlk).toNat : Int) == ((s[i]'hl).toNat : Int)) = false := by simpa using (by omega : ¬ ((p[k2]'hlk).toNat : Int) = ((s[i]'hl).toNat : Int))
                    clear h37 h95 hpk hc
                    go_upto_region 16 with fail
                    go_quiet (fail)
                    go_wp2_with fail
                    go_roundw
                    case rel => exact ⟨k2 + 1, C, by omega, J2.out, K2.out.drewN _, N2.out.drewN _, fun j hj => (pl_same C k2 j).symm.trans (F.out _ V.out j hj)⟩
                    case measure => rw [itPos_of ((heap_drewN_ _ _ _).trans J2.out), itPos_of J.out]; omega
            · have hnx := fun ty => run_next_at_end (P := Tryz.prog) J.out ty hlk
              go_wp2_with fail
              go_roundw
              case rel =>
                obtain rfl : k2 = p.size := by omega
                refine ⟨i + 1, gn, C, by omega, by go_num, rfl, N.out, fun j hj => ?_⟩
                rw [C0.out j hj, if_pos hj]
              case measure => simp [intOf]; omega
        · have e3 := K.out.r.cell (i := p.size) (by omega)
          go_wp2_with fail
          go_ret
          obtain rfl : i = s.size := by omega
          exact ⟨congrArg (fun b => Ending.returned (Value.bool b)) ((A.out p.size (by omega)).trans (mm_end s p)), K.out.HB⟩
end
end Go.Proofs.YtplepijiceanlaaGreatDoor
namespace Go.Proofs.YtplepijiceanlaaGreatDoor
section
open Go.RowKit

set_option maxRecDepth 100000 in
set_option maxHeartbeats 4000000 in
theorem rb_no (op : ByteArray) (k n : Int) (s : ByteArray) (k' n' : Int) (s' : ByteArray) (w : World) (HK : Hid (∀ x, Calls Tryz.prog 68 #[.string op] x fun e w' => e = .returned (.bool false) ∧ Below x.heap.size x w')) :
    Calls Tryz.prog 28 #[.string op, V k n s, V k' n' s'] w fun e w' => e = .returned (two (nulV, 2)) ∧ Below w.heap.size w w' := by
  go_enter Tryz.func28, Tryz.ntmps28
  go_wp2_with (first
    | (go_at_call 68; (with_reducible refine (HK.out _).mono ?_); rintro e y ⟨rfl, hb⟩; have K : Hid (KL w y [(w.heap.size + 1 + 1, .int .i64 0, .int .i64 0, .string ⟨#[]⟩), (w.heap.size + 1, .int .i64 k', .int .i64 n', .string s'), (w.heap.size, .int .i64 k, .int .i64 n, .string s)]) := Lib.hid (KL.below ((((KL.refl w).push _ _ _ 27).push' _ (sz1 _ _) _ _ _ 27).push' _ (sz2 _ _ _) _ _ _ 27) hb); clear hb; obtain ⟨HB, ⟨r0, r1, r2, rf0, rf1, rf2, rl⟩, ⟨b0, b1, b2, -, -, -, bl⟩, ⟨a0, a1, a2, -, -, -, al⟩, -⟩ := K.out))
  (try simp only [Exit.inBlock, Exit.then])
  exact ret_two rfl rfl K.out.q.1 rfl ⟨rfl, set3 HB _ (by omega) _ _ _⟩
set_option maxRecDepth 100000 in
set_option maxHeartbeats 4000000 in
theorem rb_bad1 (op : ByteArray) (k n : Int) (s : ByteArray) (k' n' : Int) (s' : ByteArray) (w : World) (HK : Hid (∀ x, Calls Tryz.prog 68 #[.string op] x fun e w' => e = .returned (.bool true) ∧ Below x.heap.size x w')) (HVa : Hid (∀ x, Calls Tryz.prog 16 #[V k n s] x fun e w' => e = .returned (.bool false) ∧ Below x.heap.size x w')) :
    Calls Tryz.prog 28 #[.string op, V k n s, V k' n' s'] w fun e w' => e = .returned (two (nulV, 2)) ∧ Below w.heap.size w w' := by
  go_enter Tryz.func28, Tryz.ntmps28
  go_wp2_with (first
    | (go_at_call 68; (with_reducible refine (HK.out _).mono ?_); rintro e y ⟨rfl, hb⟩; have K : Hid (KL w y [(w.heap.size + 1 + 1, .int .i64 0, .int .i64 0, .string ⟨#[]⟩), (w.heap.size + 1, .int .i64 k', .int .i64 n', .string s'), (w.heap.size, .int .i64 k, .int .i64 n, .string s)]) := Lib.hid (KL.below ((((KL.refl w).push _ _ _ 27).push' _ (sz1 _ _) _ _ _ 27).push' _ (sz2 _ _ _) _ _ _ 27) hb); clear hb; obtain ⟨HB, ⟨r0, r1, r2, rf0, rf1, rf2, rl⟩, ⟨b0, b1, b2, -, -, -, bl⟩, ⟨a0, a1, a2, -, -, -, al⟩, -⟩ := K.out)
    | (go_at_call 16; (with_reducible refine (HVa.out _).mono ?_); rintro e y ⟨rfl, hb⟩; have K' := Lib.hid (KL.below K.out hb); clear hb K; have K := K'; clear K'; obtain ⟨HB, ⟨r0, r1, r2, rf0, rf1, rf2, rl⟩, ⟨b0, b1, b2, -, -, -, bl⟩, ⟨a0, a1, a2, -, -, -, al⟩, -⟩ := K.out))
  (try simp only [Exit.inBlock, Exit.then])
  exact ret_two rfl rfl K.out.q.1 rfl ⟨rfl, set3 HB _ (by omega) _ _ _⟩
set_option maxRecDepth 100000 in
set_option maxHeartbeats 4000000 in
theorem rb_bad2 (op : ByteArray) (k n : Int) (s : ByteArray) (k' n' : Int) (s' : ByteArray) (w : World) (HK : Hid (∀ x, Calls Tryz.prog 68 #[.string op] x fun e w' => e = .returned (.bool true) ∧ Below x.heap.size x w')) (HVa : Hid (∀ x, Calls Tryz.prog 16 #[V k n s] x fun e w' => e = .returned (.bool true) ∧ Below x.heap.size x w')) (HVb : Hid (∀ x, Calls Tryz.prog 16 #[V k' n' s'] x fun e w' => e = .returned (.bool false) ∧ Below x.heap.size x w')) :
    Calls Tryz.prog 28 #[.string op, V k n s, V k' n' s'] w fun e w' => e = .returned (two (nulV, 2)) ∧ Below w.heap.size w w' := by
  go_enter Tryz.func28, Tryz.ntmps28
  go_wp2_with (first
    | (go_at_call 68; (with_reducible refine (HK.out _).mono ?_); rintro e y ⟨rfl, hb⟩; have K : Hid (KL w y [(w.heap.size + 1 + 1, .int .i64 0, .int .i64 0, .string ⟨#[]⟩), (w.heap.size + 1, .int .i64 k', .int .i64 n', .string s'), (w.heap.size, .int .i64 k, .int .i64 n, .string s)]) := Lib.hid (KL.below ((((KL.refl w).push _ _ _ 27).push' _ (sz1 _ _) _ _ _ 27).push' _ (sz2 _ _ _) _ _ _ 27) hb); clear hb; obtain ⟨HB, ⟨r0, r1, r2, rf0, rf1, rf2, rl⟩, ⟨b0, b1, b2, -, -, -, bl⟩, ⟨a0, a1, a2, -, -, -, al⟩, -⟩ := K.out)
    | (go_at_call 16; (with_reducible refine (HVa.out _).mono ?_); rintro e y ⟨rfl, hb⟩; have K' := Lib.hid (KL.below K.out hb); clear hb K; have K := K'; clear K'; obtain ⟨HB, ⟨r0, r1, r2, rf0, rf1, rf2, rl⟩, ⟨b0, b1, b2, -, -, -, bl⟩, ⟨a0, a1, a2, -, -, -, al⟩, -⟩ := K.out)
    | (go_at_call 16; (with_reducible refine (HVb.out _).mono ?_); rintro e y ⟨rfl, hb⟩; have K' := Lib.hid (KL.below K.out hb); clear hb K; have K := K'; clear K'; obtain ⟨HB, ⟨r0, r1, r2, rf0, rf1, rf2, rl⟩, ⟨b0, b1, b2, -, -, -, bl⟩, ⟨a0, a1, a2, -, -, -, al⟩, -⟩ := K.out))
  (try simp only [Exit.inBlock, Exit.then])
  exact ret_two rfl rfl K.out.q.1 rfl ⟨rfl, set3 HB _ (by omega) _ _ _⟩
set_option maxRecDepth 100000 in
set_option maxHeartbeats 4000000 in
theorem rb_type (op : ByteArray) (k n : Int) (s : ByteArray) (k' n' : Int) (s' : ByteArray) (w : World) (HK : Hid (∀ x, Calls Tryz.prog 68 #[.string op] x fun e w' => e = .returned (.bool true) ∧ Below x.heap.size x w')) (HVa : Hid (∀ x, Calls Tryz.prog 16 #[V k n s] x fun e w' => e = .returned (.bool true) ∧ Below x.heap.size x w')) (HVb : Hid (∀ x, Calls Tryz.prog 16 #[V k' n' s'] x fun e w' => e = .returned (.bool true) ∧ Below x.heap.size x w')) (HT : Hid (∀ x, Calls Tryz.prog 69 #[.string op, .int .i64 k, .int .i64 k'] x fun e w' => e = .returned (.int .i64 16) ∧ Below x.heap.size x w')) :
    Calls Tryz.prog 28 #[.string op, V k n s, V k' n' s'] w fun e w' => e = .returned (two (nulV, 16)) ∧ Below w.heap.size w w' := by
  go_enter Tryz.func28, Tryz.ntmps28
  go_wp2_with (first
    | (go_at_call 68; (with_reducible refine (HK.out _).mono ?_); rintro e y ⟨rfl, hb⟩; have K : Hid (KL w y [(w.heap.size + 1 + 1, .int .i64 0, .int .i64 0, .string ⟨#[]⟩), (w.heap.size + 1, .int .i64 k', .int .i64 n', .string s'), (w.heap.size, .int .i64 k, .int .i64 n, .string s)]) := Lib.hid (KL.below ((((KL.refl w).push _ _ _ 27).push' _ (sz1 _ _) _ _ _ 27).push' _ (sz2 _ _ _) _ _ _ 27) hb); clear hb; obtain ⟨HB, ⟨r0, r1, r2, rf0, rf1, rf2, rl⟩, ⟨b0, b1, b2, -, -, -, bl⟩, ⟨a0, a1, a2, -, -, -, al⟩, -⟩ := K.out)
    | (go_at_call 16; (with_reducible refine (HVa.out _).mono ?_); rintro e y ⟨rfl, hb⟩; have K' := Lib.hid (KL.below K.out hb); clear hb K; have K := K'; clear K'; obtain ⟨HB, ⟨r0, r1, r2, rf0, rf1, rf2, rl⟩, ⟨b0, b1, b2, -, -, -, bl⟩, ⟨a0, a1, a2, -, -, -, al⟩, -⟩ := K.out)
    | (go_at_call 16; (with_reducible refine (HVb.out _).mono ?_); rintro e y ⟨rfl, hb⟩; have K' := Lib.hid (KL.below K.out hb); clear hb K; have K := K'; clear K'; obtain ⟨HB, ⟨r0, r1, r2, rf0, rf1, rf2, rl⟩, ⟨b0, b1, b2, -, -, -, bl⟩, ⟨a0, a1, a2, -, -, -, al⟩, -⟩ := K.out)
    | (go_at_call 69; (with_reducible refine (HT.out _).mono ?_); rintro e y ⟨rfl, hb⟩; have K' := Lib.hid (KL.below K.out hb); clear hb K; have K := K'; clear K'; obtain ⟨HB, ⟨r0, r1, r2, rf0, rf1, rf2, rl⟩, ⟨b0, b1, b2, -, -, -, bl⟩, ⟨a0, a1, a2, -, -, -, al⟩, -⟩ := K.out))
  (try simp only [Exit.inBlock, Exit.then])
  exact ret_two rfl rfl K.out.q.1 rfl ⟨rfl, set3 HB _ (by omega) _ _ _⟩
set_option maxRecDepth 100000 in
set_option maxHeartbeats 4000000 in
theorem rb_and (op : ByteArray) (k n : Int) (s : ByteArray) (k' n' : Int) (s' : ByteArray) (w : World) (HK : Hid (∀ x, Calls Tryz.prog 68 #[.string op] x fun e w' => e = .returned (.bool true) ∧ Below x.heap.size x w')) (HVa : Hid (∀ x, Calls Tryz.prog 16 #[V k n s] x fun e w' => e = .returned (.bool true) ∧ Below x.heap.size x w')) (HVb : Hid (∀ x, Calls Tryz.prog 16 #[V k' n' s'] x fun e w' => e = .returned (.bool true) ∧ Below x.heap.size x w')) (HT : Hid (∀ x, Calls Tryz.prog 69 #[.string op, .int .i64 k, .int .i64 k'] x fun e w' => e = .returned (.int .i64 0) ∧ Below x.heap.size x w')) (t : Va) (HU : Hid (∀ x, Calls Tryz.prog 70 #[.string op, V k n s, V k' n' s'] x fun e w' => e = .returned (V t.k t.n t.s) ∧ Below x.heap.size x w')) (hand : (op.toList == [97, 110, 100]) = true) :
    Calls Tryz.prog 28 #[.string op, V k n s, V k' n' s'] w fun e w' => e = .returned (two (t, 0)) ∧ Below w.heap.size w w' := by
  go_enter Tryz.func28, Tryz.ntmps28
  go_wp2_with (first
    | (go_at_call 68; (with_reducible refine (HK.out _).mono ?_); rintro e y ⟨rfl, hb⟩; have K : Hid (KL w y [(w.heap.size + 1 + 1, .int .i64 0, .int .i64 0, .string ⟨#[]⟩), (w.heap.size + 1, .int .i64 k', .int .i64 n', .string s'), (w.heap.size, .int .i64 k, .int .i64 n, .string s)]) := Lib.hid (KL.below ((((KL.refl w).push _ _ _ 27).push' _ (sz1 _ _) _ _ _ 27).push' _ (sz2 _ _ _) _ _ _ 27) hb); clear hb; obtain ⟨HB, ⟨r0, r1, r2, rf0, rf1, rf2, rl⟩, ⟨b0, b1, b2, -, -, -, bl⟩, ⟨a0, a1, a2, -, -, -, al⟩, -⟩ := K.out)
    | (go_at_call 16; (with_reducible refine (HVa.out _).mono ?_); rintro e y ⟨rfl, hb⟩; have K' := Lib.hid (KL.below K.out hb); clear hb K; have K := K'; clear K'; obtain ⟨HB, ⟨r0, r1, r2, rf0, rf1, rf2, rl⟩, ⟨b0, b1, b2, -, -, -, bl⟩, ⟨a0, a1, a2, -, -, -, al⟩, -⟩ := K.out)
    | (go_at_call 16; (with_reducible refine (HVb.out _).mono ?_); rintro e y ⟨rfl, hb⟩; have K' := Lib.hid (KL.below K.out hb); clear hb K; have K := K'; clear K'; obtain ⟨HB, ⟨r0, r1, r2, rf0, rf1, rf2, rl⟩, ⟨b0, b1, b2, -, -, -, bl⟩, ⟨a0, a1, a2, -, -, -, al⟩, -⟩ := K.out)
    | (go_at_call 69; (with_reducible refine (HT.out _).mono ?_); rintro e y ⟨rfl, hb⟩; have K' := Lib.hid (KL.below K.out hb); clear hb K; have K := K'; clear K'; obtain ⟨HB, ⟨r0, r1, r2, rf0, rf1, rf2, rl⟩, ⟨b0, b1, b2, -, -, -, bl⟩, ⟨a0, a1, a2, -, -, -, al⟩, -⟩ := K.out)
    | (go_at_call 70; (with_reducible refine (HU.out _).mono ?_); rintro e y ⟨rfl, hb⟩; have K' := Lib.hid (KL.below K.out hb); clear hb K; have K := K'; clear K'; obtain ⟨HB, ⟨r0, r1, r2, rf0, rf1, rf2, rl⟩, ⟨b0, b1, b2, -, -, -, bl⟩, ⟨a0, a1, a2, -, -, -, al⟩, -⟩ := K.out))
  (try simp only [Exit.inBlock, Exit.then])
  exact ret_two rfl rfl K.out.q.1 rfl ⟨rfl, set3 HB _ (by omega) _ _ _⟩
set_option maxRecDepth 100000 in
set_option maxHeartbeats 4000000 in
theorem rb_or (op : ByteArray) (k n : Int) (s : ByteArray) (k' n' : Int) (s' : ByteArray) (w : World) (HK : Hid (∀ x, Calls Tryz.prog 68 #[.string op] x fun e w' => e = .returned (.bool true) ∧ Below x.heap.size x w')) (HVa : Hid (∀ x, Calls Tryz.prog 16 #[V k n s] x fun e w' => e = .returned (.bool true) ∧ Below x.heap.size x w')) (HVb : Hid (∀ x, Calls Tryz.prog 16 #[V k' n' s'] x fun e w' => e = .returned (.bool true) ∧ Below x.heap.size x w')) (HT : Hid (∀ x, Calls Tryz.prog 69 #[.string op, .int .i64 k, .int .i64 k'] x fun e w' => e = .returned (.int .i64 0) ∧ Below x.heap.size x w')) (t : Va) (HU : Hid (∀ x, Calls Tryz.prog 70 #[.string op, V k n s, V k' n' s'] x fun e w' => e = .returned (V t.k t.n t.s) ∧ Below x.heap.size x w')) (hand : (op.toList == [97, 110, 100]) = false) (hor : (op.toList == [111, 114]) = true) :
    Calls Tryz.prog 28 #[.string op, V k n s, V k' n' s'] w fun e w' => e = .returned (two (t, 0)) ∧ Below w.heap.size w w' := by
  go_enter Tryz.func28, Tryz.ntmps28
  go_wp2_with (first
    | (go_at_call 68; (with_reducible refine (HK.out _).mono ?_); rintro e y ⟨rfl, hb⟩; have K : Hid (KL w y [(w.heap.size + 1 + 1, .int .i64 0, .int .i64 0, .string ⟨#[]⟩), (w.heap.size + 1, .int .i64 k', .int .i64 n', .string s'), (w.heap.size, .int .i64 k, .int .i64 n, .string s)]) := Lib.hid (KL.below ((((KL.refl w).push _ _ _ 27).push' _ (sz1 _ _) _ _ _ 27).push' _ (sz2 _ _ _) _ _ _ 27) hb); clear hb; obtain ⟨HB, ⟨r0, r1, r2, rf0, rf1, rf2, rl⟩, ⟨b0, b1, b2, -, -, -, bl⟩, ⟨a0, a1, a2, -, -, -, al⟩, -⟩ := K.out)
    | (go_at_call 16; (with_reducible refine (HVa.out _).mono ?_); rintro e y ⟨rfl, hb⟩; have K' := Lib.hid (KL.below K.out hb); clear hb K; have K := K'; clear K'; obtain ⟨HB, ⟨r0, r1, r2, rf0, rf1, rf2, rl⟩, ⟨b0, b1, b2, -, -, -, bl⟩, ⟨a0, a1, a2, -, -, -, al⟩, -⟩ := K.out)
    | (go_at_call 16; (with_reducible refine (HVb.out _).mono ?_); rintro e y ⟨rfl, hb⟩; have K' := Lib.hid (KL.below K.out hb); clear hb K; have K := K'; clear K'; obtain ⟨HB, ⟨r0, r1, r2, rf0, rf1, rf2, rl⟩, ⟨b0, b1, b2, -, -, -, bl⟩, ⟨a0, a1, a2, -, -, -, al⟩, -⟩ := K.out)
    | (go_at_call 69; (with_reducible refine (HT.out _).mono ?_); rintro e y ⟨rfl, hb⟩; have K' := Lib.hid (KL.below K.out hb); clear hb K; have K := K'; clear K'; obtain ⟨HB, ⟨r0, r1, r2, rf0, rf1, rf2, rl⟩, ⟨b0, b1, b2, -, -, -, bl⟩, ⟨a0, a1, a2, -, -, -, al⟩, -⟩ := K.out)
    | (go_at_call 70; (with_reducible refine (HU.out _).mono ?_); rintro e y ⟨rfl, hb⟩; have K' := Lib.hid (KL.below K.out hb); clear hb K; have K := K'; clear K'; obtain ⟨HB, ⟨r0, r1, r2, rf0, rf1, rf2, rl⟩, ⟨b0, b1, b2, -, -, -, bl⟩, ⟨a0, a1, a2, -, -, -, al⟩, -⟩ := K.out))
  (try simp only [Exit.inBlock, Exit.then])
  exact ret_two rfl rfl K.out.q.1 rfl ⟨rfl, set3 HB _ (by omega) _ _ _⟩
set_option maxRecDepth 100000 in
set_option maxHeartbeats 4000000 in
theorem rb_null1 (op : ByteArray) (k n : Int) (s : ByteArray) (k' n' : Int) (s' : ByteArray) (w : World) (HK : Hid (∀ x, Calls Tryz.prog 68 #[.string op] x fun e w' => e = .returned (.bool true) ∧ Below x.heap.size x w')) (HVa : Hid (∀ x, Calls Tryz.prog 16 #[V k n s] x fun e w' => e = .returned (.bool true) ∧ Below x.heap.size x w')) (HVb : Hid (∀ x, Calls Tryz.prog 16 #[V k' n' s'] x fun e w' => e = .returned (.bool true) ∧ Below x.heap.size x w')) (HT : Hid (∀ x, Calls Tryz.prog 69 #[.string op, .int .i64 k, .int .i64 k'] x fun e w' => e = .returned (.int .i64 0) ∧ Below x.heap.size x w')) (hand : (op.toList == [97, 110, 100]) = false) (hor : (op.toList == [111, 114]) = false) (ka : (k == 0) = true) :
    Calls Tryz.prog 28 #[.string op, V k n s, V k' n' s'] w fun e w' => e = .returned (two (nulV, 0)) ∧ Below w.heap.size w w' := by
  go_enter Tryz.func28, Tryz.ntmps28
  go_wp2_with (first
    | (go_at_call 68; (with_reducible refine (HK.out _).mono ?_); rintro e y ⟨rfl, hb⟩; have K : Hid (KL w y [(w.heap.size + 1 + 1, .int .i64 0, .int .i64 0, .string ⟨#[]⟩), (w.heap.size + 1, .int .i64 k', .int .i64 n', .string s'), (w.heap.size, .int .i64 k, .int .i64 n, .string s)]) := Lib.hid (KL.below ((((KL.refl w).push _ _ _ 27).push' _ (sz1 _ _) _ _ _ 27).push' _ (sz2 _ _ _) _ _ _ 27) hb); clear hb; obtain ⟨HB, ⟨r0, r1, r2, rf0, rf1, rf2, rl⟩, ⟨b0, b1, b2, -, -, -, bl⟩, ⟨a0, a1, a2, -, -, -, al⟩, -⟩ := K.out)
    | (go_at_call 16; (with_reducible refine (HVa.out _).mono ?_); rintro e y ⟨rfl, hb⟩; have K' := Lib.hid (KL.below K.out hb); clear hb K; have K := K'; clear K'; obtain ⟨HB, ⟨r0, r1, r2, rf0, rf1, rf2, rl⟩, ⟨b0, b1, b2, -, -, -, bl⟩, ⟨a0, a1, a2, -, -, -, al⟩, -⟩ := K.out)
    | (go_at_call 16; (with_reducible refine (HVb.out _).mono ?_); rintro e y ⟨rfl, hb⟩; have K' := Lib.hid (KL.below K.out hb); clear hb K; have K := K'; clear K'; obtain ⟨HB, ⟨r0, r1, r2, rf0, rf1, rf2, rl⟩, ⟨b0, b1, b2, -, -, -, bl⟩, ⟨a0, a1, a2, -, -, -, al⟩, -⟩ := K.out)
    | (go_at_call 69; (with_reducible refine (HT.out _).mono ?_); rintro e y ⟨rfl, hb⟩; have K' := Lib.hid (KL.below K.out hb); clear hb K; have K := K'; clear K'; obtain ⟨HB, ⟨r0, r1, r2, rf0, rf1, rf2, rl⟩, ⟨b0, b1, b2, -, -, -, bl⟩, ⟨a0, a1, a2, -, -, -, al⟩, -⟩ := K.out)
    | (go_at_call 56; (with_reducible refine (ref_null _).mono ?_); rintro e y ⟨rfl, hb⟩; have K' := Lib.hid (KL.below K.out hb); clear hb K; have K := K'; clear K'; obtain ⟨HB, ⟨r0, r1, r2, rf0, rf1, rf2, rl⟩, ⟨b0, b1, b2, -, -, -, bl⟩, ⟨a0, a1, a2, -, -, -, al⟩, -⟩ := K.out))
  (try simp only [Exit.inBlock, Exit.then])
  exact ret_two rfl rfl K.out.q.1 rfl ⟨rfl, set3 HB _ (by omega) _ _ _⟩
set_option maxRecDepth 100000 in
set_option maxHeartbeats 4000000 in
theorem rb_null2 (op : ByteArray) (k n : Int) (s : ByteArray) (k' n' : Int) (s' : ByteArray) (w : World) (HK : Hid (∀ x, Calls Tryz.prog 68 #[.string op] x fun e w' => e = .returned (.bool true) ∧ Below x.heap.size x w')) (HVa : Hid (∀ x, Calls Tryz.prog 16 #[V k n s] x fun e w' => e = .returned (.bool true) ∧ Below x.heap.size x w')) (HVb : Hid (∀ x, Calls Tryz.prog 16 #[V k' n' s'] x fun e w' => e = .returned (.bool true) ∧ Below x.heap.size x w')) (HT : Hid (∀ x, Calls Tryz.prog 69 #[.string op, .int .i64 k, .int .i64 k'] x fun e w' => e = .returned (.int .i64 0) ∧ Below x.heap.size x w')) (hand : (op.toList == [97, 110, 100]) = false) (hor : (op.toList == [111, 114]) = false) (ka : (k == 0) = false) (kb : (k' == 0) = true) :
    Calls Tryz.prog 28 #[.string op, V k n s, V k' n' s'] w fun e w' => e = .returned (two (nulV, 0)) ∧ Below w.heap.size w w' := by
  go_enter Tryz.func28, Tryz.ntmps28
  go_wp2_with (first
    | (go_at_call 68; (with_reducible refine (HK.out _).mono ?_); rintro e y ⟨rfl, hb⟩; have K : Hid (KL w y [(w.heap.size + 1 + 1, .int .i64 0, .int .i64 0, .string ⟨#[]⟩), (w.heap.size + 1, .int .i64 k', .int .i64 n', .string s'), (w.heap.size, .int .i64 k, .int .i64 n, .string s)]) := Lib.hid (KL.below ((((KL.refl w).push _ _ _ 27).push' _ (sz1 _ _) _ _ _ 27).push' _ (sz2 _ _ _) _ _ _ 27) hb); clear hb; obtain ⟨HB, ⟨r0, r1, r2, rf0, rf1, rf2, rl⟩, ⟨b0, b1, b2, -, -, -, bl⟩, ⟨a0, a1, a2, -, -, -, al⟩, -⟩ := K.out)
    | (go_at_call 16; (with_reducible refine (HVa.out _).mono ?_); rintro e y ⟨rfl, hb⟩; have K' := Lib.hid (KL.below K.out hb); clear hb K; have K := K'; clear K'; obtain ⟨HB, ⟨r0, r1, r2, rf0, rf1, rf2, rl⟩, ⟨b0, b1, b2, -, -, -, bl⟩, ⟨a0, a1, a2, -, -, -, al⟩, -⟩ := K.out)
    | (go_at_call 16; (with_reducible refine (HVb.out _).mono ?_); rintro e y ⟨rfl, hb⟩; have K' := Lib.hid (KL.below K.out hb); clear hb K; have K := K'; clear K'; obtain ⟨HB, ⟨r0, r1, r2, rf0, rf1, rf2, rl⟩, ⟨b0, b1, b2, -, -, -, bl⟩, ⟨a0, a1, a2, -, -, -, al⟩, -⟩ := K.out)
    | (go_at_call 69; (with_reducible refine (HT.out _).mono ?_); rintro e y ⟨rfl, hb⟩; have K' := Lib.hid (KL.below K.out hb); clear hb K; have K := K'; clear K'; obtain ⟨HB, ⟨r0, r1, r2, rf0, rf1, rf2, rl⟩, ⟨b0, b1, b2, -, -, -, bl⟩, ⟨a0, a1, a2, -, -, -, al⟩, -⟩ := K.out)
    | (go_at_call 56; (with_reducible refine (ref_null _).mono ?_); rintro e y ⟨rfl, hb⟩; have K' := Lib.hid (KL.below K.out hb); clear hb K; have K := K'; clear K'; obtain ⟨HB, ⟨r0, r1, r2, rf0, rf1, rf2, rl⟩, ⟨b0, b1, b2, -, -, -, bl⟩, ⟨a0, a1, a2, -, -, -, al⟩, -⟩ := K.out))
  (try simp only [Exit.inBlock, Exit.then])
  exact ret_two rfl rfl K.out.q.1 rfl ⟨rfl, set3 HB _ (by omega) _ _ _⟩
set_option maxRecDepth 100000 in
set_option maxHeartbeats 4000000 in
theorem rb_like (op : ByteArray) (k n : Int) (s : ByteArray) (k' n' : Int) (s' : ByteArray) (w : World) (HK : Hid (∀ x, Calls Tryz.prog 68 #[.string op] x fun e w' => e = .returned (.bool true) ∧ Below x.heap.size x w')) (HVa : Hid (∀ x, Calls Tryz.prog 16 #[V k n s] x fun e w' => e = .returned (.bool true) ∧ Below x.heap.size x w')) (HVb : Hid (∀ x, Calls Tryz.prog 16 #[V k' n' s'] x fun e w' => e = .returned (.bool true) ∧ Below x.heap.size x w')) (HT : Hid (∀ x, Calls Tryz.prog 69 #[.string op, .int .i64 k, .int .i64 k'] x fun e w' => e = .returned (.int .i64 0) ∧ Below x.heap.size x w')) (hand : (op.toList == [97, 110, 100]) = false) (hor : (op.toList == [111, 114]) = false) (ka : (k == 0) = false) (kb : (k' == 0) = false) (hlike : (op.toList == [108, 105, 107, 101]) = true) (b : Bool) (HL : Hid (∀ x, Calls Tryz.prog 71 #[.string s, .string s'] x fun e w' => e = .returned (.bool b) ∧ Below x.heap.size x w')) :
    Calls Tryz.prog 28 #[.string op, V k n s, V k' n' s'] w fun e w' => e = .returned (two (booV b, 0)) ∧ Below w.heap.size w w' := by
  go_enter Tryz.func28, Tryz.ntmps28
  go_wp2_with (first
    | (go_at_call 68; (with_reducible refine (HK.out _).mono ?_); rintro e y ⟨rfl, hb⟩; have K : Hid (KL w y [(w.heap.size + 1 + 1, .int .i64 0, .int .i64 0, .string ⟨#[]⟩), (w.heap.size + 1, .int .i64 k', .int .i64 n', .string s'), (w.heap.size, .int .i64 k, .int .i64 n, .string s)]) := Lib.hid (KL.below ((((KL.refl w).push _ _ _ 27).push' _ (sz1 _ _) _ _ _ 27).push' _ (sz2 _ _ _) _ _ _ 27) hb); clear hb; obtain ⟨HB, ⟨r0, r1, r2, rf0, rf1, rf2, rl⟩, ⟨b0, b1, b2, -, -, -, bl⟩, ⟨a0, a1, a2, -, -, -, al⟩, -⟩ := K.out)
    | (go_at_call 16; (with_reducible refine (HVa.out _).mono ?_); rintro e y ⟨rfl, hb⟩; have K' := Lib.hid (KL.below K.out hb); clear hb K; have K := K'; clear K'; obtain ⟨HB, ⟨r0, r1, r2, rf0, rf1, rf2, rl⟩, ⟨b0, b1, b2, -, -, -, bl⟩, ⟨a0, a1, a2, -, -, -, al⟩, -⟩ := K.out)
    | (go_at_call 16; (with_reducible refine (HVb.out _).mono ?_); rintro e y ⟨rfl, hb⟩; have K' := Lib.hid (KL.below K.out hb); clear hb K; have K := K'; clear K'; obtain ⟨HB, ⟨r0, r1, r2, rf0, rf1, rf2, rl⟩, ⟨b0, b1, b2, -, -, -, bl⟩, ⟨a0, a1, a2, -, -, -, al⟩, -⟩ := K.out)
    | (go_at_call 69; (with_reducible refine (HT.out _).mono ?_); rintro e y ⟨rfl, hb⟩; have K' := Lib.hid (KL.below K.out hb); clear hb K; have K := K'; clear K'; obtain ⟨HB, ⟨r0, r1, r2, rf0, rf1, rf2, rl⟩, ⟨b0, b1, b2, -, -, -, bl⟩, ⟨a0, a1, a2, -, -, -, al⟩, -⟩ := K.out)
    | (go_at_call 71; (with_reducible refine (HL.out _).mono ?_); rintro e y ⟨rfl, hb⟩; have K' := Lib.hid (KL.below K.out hb); clear hb K; have K := K'; clear K'; obtain ⟨HB, ⟨r0, r1, r2, rf0, rf1, rf2, rl⟩, ⟨b0, b1, b2, -, -, -, bl⟩, ⟨a0, a1, a2, -, -, -, al⟩, -⟩ := K.out)
    | (go_at_call 55; (with_reducible refine (ref_bool _ _).mono ?_); rintro e y ⟨rfl, hb⟩; have K' := Lib.hid (KL.below K.out hb); clear hb K; have K := K'; clear K'; obtain ⟨HB, ⟨r0, r1, r2, rf0, rf1, rf2, rl⟩, ⟨b0, b1, b2, -, -, -, bl⟩, ⟨a0, a1, a2, -, -, -, al⟩, -⟩ := K.out))
  (try simp only [Exit.inBlock, Exit.then])
  exact ret_two rfl rfl K.out.q.1 rfl ⟨rfl, set3 HB _ (by omega) _ _ _⟩
set_option maxRecDepth 100000 in
set_option maxHeartbeats 4000000 in
theorem rb_cat1 (op : ByteArray) (k n : Int) (s : ByteArray) (k' n' : Int) (s' : ByteArray) (w : World) (HK : Hid (∀ x, Calls Tryz.prog 68 #[.string op] x fun e w' => e = .returned (.bool true) ∧ Below x.heap.size x w')) (HVa : Hid (∀ x, Calls Tryz.prog 16 #[V k n s] x fun e w' => e = .returned (.bool true) ∧ Below x.heap.size x w')) (HVb : Hid (∀ x, Calls Tryz.prog 16 #[V k' n' s'] x fun e w' => e = .returned (.bool true) ∧ Below x.heap.size x w')) (HT : Hid (∀ x, Calls Tryz.prog 69 #[.string op, .int .i64 k, .int .i64 k'] x fun e w' => e = .returned (.int .i64 0) ∧ Below x.heap.size x w')) (hand : (op.toList == [97, 110, 100]) = false) (hor : (op.toList == [111, 114]) = false) (ka : (k == 0) = false) (kb : (k' == 0) = false) (hlike : (op.toList == [108, 105, 107, 101]) = false) (hcat : (op.toList == [124, 124]) = true) (hs : s.size ≤ 200) (hs2 : s'.size ≤ 200) (hl : 200 < s.size + s'.size) :
    Calls Tryz.prog 28 #[.string op, V k n s, V k' n' s'] w fun e w' => e = .returned (two (nulV, 21)) ∧ Below w.heap.size w w' := by
  go_enter Tryz.func28, Tryz.ntmps28
  go_wp2_with (first
    | (go_at_call 68; (with_reducible refine (HK.out _).mono ?_); rintro e y ⟨rfl, hb⟩; have K : Hid (KL w y [(w.heap.size + 1 + 1, .int .i64 0, .int .i64 0, .string ⟨#[]⟩), (w.heap.size + 1, .int .i64 k', .int .i64 n', .string s'), (w.heap.size, .int .i64 k, .int .i64 n, .string s)]) := Lib.hid (KL.below ((((KL.refl w).push _ _ _ 27).push' _ (sz1 _ _) _ _ _ 27).push' _ (sz2 _ _ _) _ _ _ 27) hb); clear hb; obtain ⟨HB, ⟨r0, r1, r2, rf0, rf1, rf2, rl⟩, ⟨b0, b1, b2, -, -, -, bl⟩, ⟨a0, a1, a2, -, -, -, al⟩, -⟩ := K.out)
    | (go_at_call 16; (with_reducible refine (HVa.out _).mono ?_); rintro e y ⟨rfl, hb⟩; have K' := Lib.hid (KL.below K.out hb); clear hb K; have K := K'; clear K'; obtain ⟨HB, ⟨r0, r1, r2, rf0, rf1, rf2, rl⟩, ⟨b0, b1, b2, -, -, -, bl⟩, ⟨a0, a1, a2, -, -, -, al⟩, -⟩ := K.out)
    | (go_at_call 16; (with_reducible refine (HVb.out _).mono ?_); rintro e y ⟨rfl, hb⟩; have K' := Lib.hid (KL.below K.out hb); clear hb K; have K := K'; clear K'; obtain ⟨HB, ⟨r0, r1, r2, rf0, rf1, rf2, rl⟩, ⟨b0, b1, b2, -, -, -, bl⟩, ⟨a0, a1, a2, -, -, -, al⟩, -⟩ := K.out)
    | (go_at_call 69; (with_reducible refine (HT.out _).mono ?_); rintro e y ⟨rfl, hb⟩; have K' := Lib.hid (KL.below K.out hb); clear hb K; have K := K'; clear K'; obtain ⟨HB, ⟨r0, r1, r2, rf0, rf1, rf2, rl⟩, ⟨b0, b1, b2, -, -, -, bl⟩, ⟨a0, a1, a2, -, -, -, al⟩, -⟩ := K.out))
  (try simp only [Exit.inBlock, Exit.then])
  exact ret_two rfl rfl K.out.q.1 rfl ⟨rfl, set3 HB _ (by omega) _ _ _⟩
set_option maxRecDepth 100000 in
set_option maxHeartbeats 4000000 in
theorem rb_cat2 (op : ByteArray) (k n : Int) (s : ByteArray) (k' n' : Int) (s' : ByteArray) (w : World) (HK : Hid (∀ x, Calls Tryz.prog 68 #[.string op] x fun e w' => e = .returned (.bool true) ∧ Below x.heap.size x w')) (HVa : Hid (∀ x, Calls Tryz.prog 16 #[V k n s] x fun e w' => e = .returned (.bool true) ∧ Below x.heap.size x w')) (HVb : Hid (∀ x, Calls Tryz.prog 16 #[V k' n' s'] x fun e w' => e = .returned (.bool true) ∧ Below x.heap.size x w')) (HT : Hid (∀ x, Calls Tryz.prog 69 #[.string op, .int .i64 k, .int .i64 k'] x fun e w' => e = .returned (.int .i64 0) ∧ Below x.heap.size x w')) (hand : (op.toList == [97, 110, 100]) = false) (hor : (op.toList == [111, 114]) = false) (ka : (k == 0) = false) (kb : (k' == 0) = false) (hlike : (op.toList == [108, 105, 107, 101]) = false) (hcat : (op.toList == [124, 124]) = true) (hl : s.size + s'.size ≤ 200) :
    Calls Tryz.prog 28 #[.string op, V k n s, V k' n' s'] w fun e w' => e = .returned (two (txtV (s ++ s'), 0)) ∧ Below w.heap.size w w' := by
  go_enter Tryz.func28, Tryz.ntmps28
  go_wp2_with (first
    | (go_at_call 68; (with_reducible refine (HK.out _).mono ?_); rintro e y ⟨rfl, hb⟩; have K : Hid (KL w y [(w.heap.size + 1 + 1, .int .i64 0, .int .i64 0, .string ⟨#[]⟩), (w.heap.size + 1, .int .i64 k', .int .i64 n', .string s'), (w.heap.size, .int .i64 k, .int .i64 n, .string s)]) := Lib.hid (KL.below ((((KL.refl w).push _ _ _ 27).push' _ (sz1 _ _) _ _ _ 27).push' _ (sz2 _ _ _) _ _ _ 27) hb); clear hb; obtain ⟨HB, ⟨r0, r1, r2, rf0, rf1, rf2, rl⟩, ⟨b0, b1, b2, -, -, -, bl⟩, ⟨a0, a1, a2, -, -, -, al⟩, -⟩ := K.out)
    | (go_at_call 16; (with_reducible refine (HVa.out _).mono ?_); rintro e y ⟨rfl, hb⟩; have K' := Lib.hid (KL.below K.out hb); clear hb K; have K := K'; clear K'; obtain ⟨HB, ⟨r0, r1, r2, rf0, rf1, rf2, rl⟩, ⟨b0, b1, b2, -, -, -, bl⟩, ⟨a0, a1, a2, -, -, -, al⟩, -⟩ := K.out)
    | (go_at_call 16; (with_reducible refine (HVb.out _).mono ?_); rintro e y ⟨rfl, hb⟩; have K' := Lib.hid (KL.below K.out hb); clear hb K; have K := K'; clear K'; obtain ⟨HB, ⟨r0, r1, r2, rf0, rf1, rf2, rl⟩, ⟨b0, b1, b2, -, -, -, bl⟩, ⟨a0, a1, a2, -, -, -, al⟩, -⟩ := K.out)
    | (go_at_call 69; (with_reducible refine (HT.out _).mono ?_); rintro e y ⟨rfl, hb⟩; have K' := Lib.hid (KL.below K.out hb); clear hb K; have K := K'; clear K'; obtain ⟨HB, ⟨r0, r1, r2, rf0, rf1, rf2, rl⟩, ⟨b0, b1, b2, -, -, -, bl⟩, ⟨a0, a1, a2, -, -, -, al⟩, -⟩ := K.out)
    | (go_at_call 54; (with_reducible refine (ref_string _ _).mono ?_); rintro e y ⟨rfl, hb⟩; have K' := Lib.hid (KL.below K.out hb); clear hb K; have K := K'; clear K'; obtain ⟨HB, ⟨r0, r1, r2, rf0, rf1, rf2, rl⟩, ⟨b0, b1, b2, -, -, -, bl⟩, ⟨a0, a1, a2, -, -, -, al⟩, -⟩ := K.out))
  (try simp only [Exit.inBlock, Exit.then])
  exact ret_two rfl rfl K.out.q.1 rfl ⟨rfl, set3 HB _ (by omega) _ _ _⟩
set_option maxRecDepth 100000 in
set_option maxHeartbeats 4000000 in
theorem rb_cmp (op : ByteArray) (k n : Int) (s : ByteArray) (k' n' : Int) (s' : ByteArray) (w : World) (HK : Hid (∀ x, Calls Tryz.prog 68 #[.string op] x fun e w' => e = .returned (.bool true) ∧ Below x.heap.size x w')) (HVa : Hid (∀ x, Calls Tryz.prog 16 #[V k n s] x fun e w' => e = .returned (.bool true) ∧ Below x.heap.size x w')) (HVb : Hid (∀ x, Calls Tryz.prog 16 #[V k' n' s'] x fun e w' => e = .returned (.bool true) ∧ Below x.heap.size x w')) (HT : Hid (∀ x, Calls Tryz.prog 69 #[.string op, .int .i64 k, .int .i64 k'] x fun e w' => e = .returned (.int .i64 0) ∧ Below x.heap.size x w')) (hand : (op.toList == [97, 110, 100]) = false) (hor : (op.toList == [111, 114]) = false) (ka : (k == 0) = false) (kb : (k' == 0) = false) (hlike : (op.toList == [108, 105, 107, 101]) = false) (hcat : (op.toList == [124, 124]) = false) (HC : Hid (∀ x, Calls Tryz.prog 72 #[.string op] x fun e w' => e = .returned (.bool true) ∧ Below x.heap.size x w')) (c : Int) (b : Bool) (H74 : Hid (∀ x, Calls Tryz.prog 74 #[V k n s, V k' n' s'] x fun e w' => e = .returned (.int .i64 c) ∧ Below x.heap.size x w')) (H73 : Hid (∀ x, Calls Tryz.prog 73 #[.string op, .int .i64 c] x fun e w' => e = .returned (.bool b) ∧ x = w')) :
    Calls Tryz.prog 28 #[.string op, V k n s, V k' n' s'] w fun e w' => e = .returned (two (booV b, 0)) ∧ Below w.heap.size w w' := by
  go_enter Tryz.func28, Tryz.ntmps28
  go_wp2_with (first
    | (go_at_call 68; (with_reducible refine (HK.out _).mono ?_); rintro e y ⟨rfl, hb⟩; have K : Hid (KL w y [(w.heap.size + 1 + 1, .int .i64 0, .int .i64 0, .string ⟨#[]⟩), (w.heap.size + 1, .int .i64 k', .int .i64 n', .string s'), (w.heap.size, .int .i64 k, .int .i64 n, .string s)]) := Lib.hid (KL.below ((((KL.refl w).push _ _ _ 27).push' _ (sz1 _ _) _ _ _ 27).push' _ (sz2 _ _ _) _ _ _ 27) hb); clear hb; obtain ⟨HB, ⟨r0, r1, r2, rf0, rf1, rf2, rl⟩, ⟨b0, b1, b2, -, -, -, bl⟩, ⟨a0, a1, a2, -, -, -, al⟩, -⟩ := K.out)
    | (go_at_call 16; (with_reducible refine (HVa.out _).mono ?_); rintro e y ⟨rfl, hb⟩; have K' := Lib.hid (KL.below K.out hb); clear hb K; have K := K'; clear K'; obtain ⟨HB, ⟨r0, r1, r2, rf0, rf1, rf2, rl⟩, ⟨b0, b1, b2, -, -, -, bl⟩, ⟨a0, a1, a2, -, -, -, al⟩, -⟩ := K.out)
    | (go_at_call 16; (with_reducible refine (HVb.out _).mono ?_); rintro e y ⟨rfl, hb⟩; have K' := Lib.hid (KL.below K.out hb); clear hb K; have K := K'; clear K'; obtain ⟨HB, ⟨r0, r1, r2, rf0, rf1, rf2, rl⟩, ⟨b0, b1, b2, -, -, -, bl⟩, ⟨a0, a1, a2, -, -, -, al⟩, -⟩ := K.out)
    | (go_at_call 69; (with_reducible refine (HT.out _).mono ?_); rintro e y ⟨rfl, hb⟩; have K' := Lib.hid (KL.below K.out hb); clear hb K; have K := K'; clear K'; obtain ⟨HB, ⟨r0, r1, r2, rf0, rf1, rf2, rl⟩, ⟨b0, b1, b2, -, -, -, bl⟩, ⟨a0, a1, a2, -, -, -, al⟩, -⟩ := K.out)
    | (go_at_call 72; (with_reducible refine (HC.out _).mono ?_); rintro e y ⟨rfl, hb⟩; have K' := Lib.hid (KL.below K.out hb); clear hb K; have K := K'; clear K'; obtain ⟨HB, ⟨r0, r1, r2, rf0, rf1, rf2, rl⟩, ⟨b0, b1, b2, -, -, -, bl⟩, ⟨a0, a1, a2, -, -, -, al⟩, -⟩ := K.out)
    | (go_at_call 74; (with_reducible refine (H74.out _).mono ?_); rintro e y ⟨rfl, hb⟩; have K' := Lib.hid (KL.below K.out hb); clear hb K; have K := K'; clear K'; obtain ⟨HB, ⟨r0, r1, r2, rf0, rf1, rf2, rl⟩, ⟨b0, b1, b2, -, -, -, bl⟩, ⟨a0, a1, a2, -, -, -, al⟩, -⟩ := K.out)
    | (go_at_call 73; (with_reducible refine (H73.out _).mono ?_); rintro e y ⟨rfl, rfl⟩)
    | (go_at_call 55; (with_reducible refine (ref_bool _ _).mono ?_); rintro e y ⟨rfl, hb⟩; have K' := Lib.hid (KL.below K.out hb); clear hb K; have K := K'; clear K'; obtain ⟨HB, ⟨r0, r1, r2, rf0, rf1, rf2, rl⟩, ⟨b0, b1, b2, -, -, -, bl⟩, ⟨a0, a1, a2, -, -, -, al⟩, -⟩ := K.out))
  (try simp only [Exit.inBlock, Exit.then])
  exact ret_two rfl rfl K.out.q.1 rfl ⟨rfl, set3 HB _ (by omega) _ _ _⟩
set_option maxRecDepth 100000 in
set_option maxHeartbeats 4000000 in
theorem rb_arith (op : ByteArray) (k n : Int) (s : ByteArray) (k' n' : Int) (s' : ByteArray) (w : World) (HK : Hid (∀ x, Calls Tryz.prog 68 #[.string op] x fun e w' => e = .returned (.bool true) ∧ Below x.heap.size x w')) (HVa : Hid (∀ x, Calls Tryz.prog 16 #[V k n s] x fun e w' => e = .returned (.bool true) ∧ Below x.heap.size x w')) (HVb : Hid (∀ x, Calls Tryz.prog 16 #[V k' n' s'] x fun e w' => e = .returned (.bool true) ∧ Below x.heap.size x w')) (HT : Hid (∀ x, Calls Tryz.prog 69 #[.string op, .int .i64 k, .int .i64 k'] x fun e w' => e = .returned (.int .i64 0) ∧ Below x.heap.size x w')) (hand : (op.toList == [97, 110, 100]) = false) (hor : (op.toList == [111, 114]) = false) (ka : (k == 0) = false) (kb : (k' == 0) = false) (hlike : (op.toList == [108, 105, 107, 101]) = false) (hcat : (op.toList == [124, 124]) = false) (HC : Hid (∀ x, Calls Tryz.prog 72 #[.string op] x fun e w' => e = .returned (.bool false) ∧ Below x.heap.size x w')) (t : Va) (er : Int) (H75 : Hid (∀ x, Calls Tryz.prog 75 #[.string op, .int .i64 n, .int .i64 n'] x fun e w' => e = .returned (.tuple #[V t.k t.n t.s, .int .i64 er]) ∧ Below x.heap.size x w')) :
    Calls Tryz.prog 28 #[.string op, V k n s, V k' n' s'] w fun e w' => e = .returned (two (t, er)) ∧ Below w.heap.size w w' := by
  go_enter Tryz.func28, Tryz.ntmps28
  go_wp2_with (first
    | (go_at_call 68; (with_reducible refine (HK.out _).mono ?_); rintro e y ⟨rfl, hb⟩; have K : Hid (KL w y [(w.heap.size + 1 + 1, .int .i64 0, .int .i64 0, .string ⟨#[]⟩), (w.heap.size + 1, .int .i64 k', .int .i64 n', .string s'), (w.heap.size, .int .i64 k, .int .i64 n, .string s)]) := Lib.hid (KL.below ((((KL.refl w).push _ _ _ 27).push' _ (sz1 _ _) _ _ _ 27).push' _ (sz2 _ _ _) _ _ _ 27) hb); clear hb; obtain ⟨HB, ⟨r0, r1, r2, rf0, rf1, rf2, rl⟩, ⟨b0, b1, b2, -, -, -, bl⟩, ⟨a0, a1, a2, -, -, -, al⟩, -⟩ := K.out)
    | (go_at_call 16; (with_reducible refine (HVa.out _).mono ?_); rintro e y ⟨rfl, hb⟩; have K' := Lib.hid (KL.below K.out hb); clear hb K; have K := K'; clear K'; obtain ⟨HB, ⟨r0, r1, r2, rf0, rf1, rf2, rl⟩, ⟨b0, b1, b2, -, -, -, bl⟩, ⟨a0, a1, a2, -, -, -, al⟩, -⟩ := K.out)
    | (go_at_call 16; (with_reducible refine (HVb.out _).mono ?_); rintro e y ⟨rfl, hb⟩; have K' := Lib.hid (KL.below K.out hb); clear hb K; have K := K'; clear K'; obtain ⟨HB, ⟨r0, r1, r2, rf0, rf1, rf2, rl⟩, ⟨b0, b1, b2, -, -, -, bl⟩, ⟨a0, a1, a2, -, -, -, al⟩, -⟩ := K.out)
    | (go_at_call 69; (with_reducible refine (HT.out _).mono ?_); rintro e y ⟨rfl, hb⟩; have K' := Lib.hid (KL.below K.out hb); clear hb K; have K := K'; clear K'; obtain ⟨HB, ⟨r0, r1, r2, rf0, rf1, rf2, rl⟩, ⟨b0, b1, b2, -, -, -, bl⟩, ⟨a0, a1, a2, -, -, -, al⟩, -⟩ := K.out)
    | (go_at_call 72; (with_reducible refine (HC.out _).mono ?_); rintro e y ⟨rfl, hb⟩; have K' := Lib.hid (KL.below K.out hb); clear hb K; have K := K'; clear K'; obtain ⟨HB, ⟨r0, r1, r2, rf0, rf1, rf2, rl⟩, ⟨b0, b1, b2, -, -, -, bl⟩, ⟨a0, a1, a2, -, -, -, al⟩, -⟩ := K.out)
    | (go_at_call 75; (with_reducible refine (H75.out _).mono ?_); rintro e y ⟨rfl, hb⟩; have K' := Lib.hid (KL.below K.out hb); clear hb K; have K := K'; clear K'; obtain ⟨HB, ⟨r0, r1, r2, rf0, rf1, rf2, rl⟩, ⟨b0, b1, b2, -, -, -, bl⟩, ⟨a0, a1, a2, -, -, -, al⟩, -⟩ := K.out))
  (try simp only [Exit.inBlock, Exit.then])
  exact ret_two rfl rfl K.out.q.1 rfl ⟨rfl, set3 HB _ (by omega) _ _ _⟩
end
end Go.Proofs.YtplepijiceanlaaGreatDoor
namespace Go.Proofs.YtplepijiceanlaaGreatDoor
section
open Go.RowKit

/-- The kinds that a class of operations takes. -/
def kOf : Nat → List Int | 0 => [1, 2, 3] | 1 => [3] | 2 => [1] | 3 => [2] | _ => []
theorem lessB : ∀ (a b : List UInt8), Op.bytesLess a b = (Lib.compareBytes a b == -1)
  | [], [] => rfl
  | [], _ :: _ => rfl
  | _ :: _, [] => rfl
  | a :: x, b :: y => by
    rw [Op.bytesLess, Lib.compareBytes, lessB x y]
    by_cases h : a < b
    · simp [h]
    · by_cases h2 : b < a
      · have : ¬ a = b := fun e => by subst e; exact UInt8.lt_irrefl _ h2
        simp [h, h2, this]
      · have e : a = b := UInt8.le_antisymm (UInt8.not_lt.1 h2) (UInt8.not_lt.1 h)
        simp [e]
theorem less_cmp (a b : Va) (ha : a.ok = true) (hb : b.ok = true) (h0 : a.k ≠ 0) (h : b.k = a.k) : lessV a b = cmpV a.k a.n a.s b.n b.s := by
  have z := cmpV_zero a b ha hb h0 h
  have bd := cmpV_bd a.k a.n b.n a.s b.s
  have l : (((a.k == 2) && Op.bytesLess a.s.toList b.s.toList) || ((a.k != 2) && decide (a.n < b.n))) = (cmpV a.k a.n a.s b.n b.s == -1) := by
    unfold cmpV
    cases hk : a.k == 2
    · simp only [Bool.false_and, Bool.false_or, Bool.false_eq_true, if_false]
      have : (a.k != 2) = true := by simpa using hk
      rw [this, Bool.true_and]
      unfold Lib.compareInt
      by_cases q : a.n < b.n
      · simp [q]
      · by_cases q2 : a.n > b.n <;> simp [q, q2]
    · have : (a.k != 2) = false := by simpa using hk
      rw [this, lessB, ByteArray.toList_eq, ByteArray.toList_eq]
      simp
  unfold lessV
  rw [← z]
  generalize cmpV a.k a.n a.s b.n b.s = c at *
  cases h1 : ((a.k == 2) && Op.bytesLess a.s.toList b.s.toList) <;> cases h2 : ((a.k != 2) && decide (a.n < b.n)) <;> rw [h1, h2] at l
  · simp at l
    by_cases q : c = 0
    · simp [q]
    · simp [q]; omega
  all_goals
    simp at l
    simp [l]
theorem op_none (op : ByteArray) (h1 : (op.toList == [43]) = false) (h2 : (op.toList == [45]) = false) (h3 : (op.toList == [42]) = false) (h4 : (op.toList == [47]) = false) (h5 : (op.toList == [109, 111, 100]) = false)
    (h6 : (op.toList == [61]) = false) (h7 : (op.toList == [60, 62]) = false) (h8 : (op.toList == [60]) = false) (h9 : (op.toList == [60, 61]) = false) (h10 : (op.toList == [62]) = false) (h11 : (op.toList == [62, 61]) = false)
    (h12 : (op.toList == [97, 110, 100]) = false) (h13 : (op.toList == [111, 114]) = false) (h14 : (op.toList == [124, 124]) = false) (h15 : (op.toList == [108, 105, 107, 101]) = false) : opK op = 4 ∧ kK op = [] := by
  have e : ∀ l : List UInt8, (op.toList == l) = false → (op == ⟨l.toArray⟩) = false := fun l h => ne_of_toList (s := op) (t := ByteArray.mk l.toArray) (by rw [tl l]; exact h)
  have f : ∀ l : List UInt8, (op.toList == l) = false → ((ByteArray.mk l.toArray).toList == op.toList) = false := fun l h => by
    rw [tl l]; rw [beq_eq_false_iff_ne] at h ⊢; exact fun q => h q.symm
  constructor
  · unfold opK findT cmpTab junTab arTab txTab
    simp only [List.find?_cons, List.find?_nil, e _ h1, e _ h2, e _ h3, e _ h4, e _ h5, e _ h6, e _ h7, e _ h8, e _ h9, e _ h10, e _ h11, e _ h12, e _ h13, e _ h14, e _ h15]
    rfl
  · unfold kK hasS arOps cmpOps
    simp only [List.any_cons, List.any_nil, f _ h1, f _ h2, f _ h3, f _ h4, f _ h5, f _ h6, f _ h7, f _ h8, f _ h9, f _ h10, f _ h11, h12, h13, h14, h15]
    rfl
/-- What is known of an operation of a class. -/
structure OpOf (op : ByteArray) (c : Nat) (an or_ li ca cm : Bool) : Prop where
  K : opK op = c
  k : kK op = kOf c
  an : (op.toList == [97, 110, 100]) = an
  or_ : (op.toList == [111, 114]) = or_
  li : (op.toList == [108, 105, 107, 101]) = li
  ca : (op.toList == [124, 124]) = ca
  cm : hasS cmpOps op = cm
theorem opOf (l : List UInt8) (c : Nat) (an or_ li ca cm : Bool) (K : opK ⟨l.toArray⟩ = c) (h : (l == [97, 110, 100]) = an ∧ (l == [111, 114]) = or_ ∧ (l == [108, 105, 107, 101]) = li ∧ (l == [124, 124]) = ca)
    (hc : (cmpOps.map (·.data.toList)).any (fun x => x == l) = cm) (ha : (if ((arOps.map (·.data.toList)).any fun x => x == l) = true then [1] else if (l == [124, 124] || l == [108, 105, 107, 101]) = true then [2] else if (l == [97, 110, 100] || l == [111, 114]) = true then [3] else if cm = true then [1, 2, 3] else []) = kOf c) :
    OpOf ⟨l.toArray⟩ c an or_ li ca cm := by
  have e : hasS cmpOps ⟨l.toArray⟩ = cm := by
    rw [← hc]; unfold hasS; rw [tl l, List.any_map]; congr 1; funext x; simp [ByteArray.toList_eq]
  have e2 : hasS arOps ⟨l.toArray⟩ = (arOps.map (·.data.toList)).any (fun x => x == l) := by
    unfold hasS; rw [tl l, List.any_map]; congr 1; funext x; simp [ByteArray.toList_eq]
  obtain ⟨q1, q2, q3, q4⟩ := h
  refine ⟨K, ?_, by rw [tl l]; exact q1, by rw [tl l]; exact q2, by rw [tl l]; exact q3, by rw [tl l]; exact q4, e⟩
  unfold kK
  rw [e, e2, tl l]
  exact ha
def tyD (d : List Int) (ka kb : Int) : Int :=
  if takK d ka = false then 16 else if takK d kb = false then 16 else if (ka != 0) = false then 0 else if (kb != 0) = false then 0 else if (ka != kb) = true then 16 else 0
theorem ok_kind (a : Va) (h : a.ok = true) : a.k = 0 ∨ a.k = 1 ∨ a.k = 2 ∨ a.k = 3 := by
  rcases ok_cases a h with rfl | ⟨m, rfl, hm⟩ | ⟨s, rfl, hs⟩ | ⟨x, rfl⟩ <;> simp [nulV, intV, txtV, booV]
theorem ty_one (c : Nat) (hc : c < 4) (a b : Va) (ha : a.ok = true) (hb : b.ok = true) : tyD (kOf c) a.k b.k = if oneK (opT c) [a, b] = true then 0 else 16 := by
  have h1 := ok_kind a ha
  have h2 := ok_kind b hb
  obtain ⟨k, n, s⟩ := a
  obtain ⟨k', n', s'⟩ := b
  simp only at h1 h2
  match c, hc with
  | 0, _ => rcases h1 with rfl | rfl | rfl | rfl <;> rcases h2 with rfl | rfl | rfl | rfl <;> rfl
  | 1, _ => rcases h1 with rfl | rfl | rfl | rfl <;> rcases h2 with rfl | rfl | rfl | rfl <;> rfl
  | 2, _ => rcases h1 with rfl | rfl | rfl | rfl <;> rcases h2 with rfl | rfl | rfl | rfl <;> rfl
  | 3, _ => rcases h1 with rfl | rfl | rfl | rfl <;> rcases h2 with rfl | rfl | rfl | rfl <;> rfl
abbrev C68 (op : ByteArray) : Prop := Hid (∀ x, Calls Tryz.prog 68 #[.string op] x fun e w' => e = .returned (.bool true) ∧ Below x.heap.size x w')
abbrev C16 (v : Va) : Prop := Hid (∀ x, Calls Tryz.prog 16 #[V v.k v.n v.s] x fun e w' => e = .returned (.bool true) ∧ Below x.heap.size x w')
abbrev C69 (op : ByteArray) (a b : Va) : Prop := Hid (∀ x, Calls Tryz.prog 69 #[.string op, .int .i64 a.k, .int .i64 b.k] x fun e w' => e = .returned (.int .i64 0) ∧ Below x.heap.size x w')
abbrev B28 (op : ByteArray) (a b : Va) (w : World) (r : Va × Int) : Prop := Calls Tryz.prog 28 #[.string op, a.val, b.val] w fun e w' => e = .returned (two r) ∧ Below w.heap.size w w'
theorem rb_of {op : ByteArray} {c : Nat} {an or_ li ca cm : Bool} (H : OpOf op c an or_ li ca cm) (hc : c < 4) (a b : Va) (hma : a.s.size ≤ maxLen) (hmb : b.s.size ≤ maxLen) (w : World)
    (main : a.ok = true → b.ok = true → oneK (opT c) [a, b] = true → C68 op → C16 a → C16 b → C69 op a b → B28 op a b w (binS op a b)) : B28 op a b w (binS op a b) := by
  have hK4 : opK op ≠ 4 := by rw [H.K]; omega
  have HK : C68 op := Lib.hid (fun x => by
    have h := isBinary_ op x
    have e : (!(kK op).isEmpty) = true := by
      rw [H.k]
      match c, hc with
      | 0, _ => rfl
      | 1, _ => rfl
      | 2, _ => rfl
      | 3, _ => rfl
    rw [e] at h
    exact h)
  cases ha : a.ok
  · rw [show binS op a b = (nulV, 2) from by unfold binS; rw [if_neg hK4, if_pos (by simp [allOk, ha])]]
    exact rb_bad1 op a.k a.n a.s b.k b.n b.s w HK (Lib.hid fun x => refValid_at ha hma x)
  · cases hb : b.ok
    · rw [show binS op a b = (nulV, 2) from by unfold binS; rw [if_neg hK4, if_pos (by simp [allOk, hb])]]
      exact rb_bad2 op a.k a.n a.s b.k b.n b.s w HK (Lib.hid fun x => refValid_at ha hma x) (Lib.hid fun x => refValid_at hb hmb x)
    · have hty : tyS op a.k b.k = if oneK (opT c) [a, b] = true then 0 else 16 := by
        rw [← ty_one c hc a b ha hb, ← H.k]; rfl
      cases h1 : oneK (opT c) [a, b]
      · rw [h1] at hty
        rw [show binS op a b = (nulV, 16) from by unfold binS; rw [if_neg hK4, if_neg (by simp [allOk, ha, hb]), H.K, if_pos h1]]
        exact rb_type op a.k a.n a.s b.k b.n b.s w HK (Lib.hid fun x => refValid_at ha hma x) (Lib.hid fun x => refValid_at hb hmb x) (Lib.hid fun x => by
          have h := typed_ op a.k b.k x
          rw [hty] at h
          exact h)
      · rw [h1] at hty
        exact main ha hb h1 HK (Lib.hid fun x => refValid_at ha hma x) (Lib.hid fun x => refValid_at hb hmb x) (Lib.hid fun x => by
          have h := typed_ op a.k b.k x
          rw [hty] at h
          exact h)
theorem bin_go2 {op : ByteArray} {c : Nat} (K : opK op = c) (hc : c < 4) (a b : Va) (ha : a.ok = true) (hb : b.ok = true) (h1 : oneK (opT c) [a, b] = true) : binS op a b = if hasNull [a, b] = true then if opN c = false then (nulV, 0) else opSp op c a b else opSp op c a b := by
  unfold binS
  rw [if_neg (by rw [K]; omega), if_neg (by simp [allOk, ha, hb]), K, if_neg (by simp [h1])]
/-- Operations that give null of a null. -/
theorem rb_nulls {op : ByteArray} {c : Nat} {li ca cm : Bool} (H : OpOf op c false false li ca cm) (hc : c < 4) (hN : opN c = false) (a b : Va) (hma : a.s.size ≤ maxLen) (hmb : b.s.size ≤ maxLen) (w : World)
    (main : a.ok = true → b.ok = true → oneK (opT c) [a, b] = true → (a.k == 0) = false → (b.k == 0) = false → C68 op → C16 a → C16 b → C69 op a b → B28 op a b w (opSp op c a b)) : B28 op a b w (binS op a b) := by
  refine rb_of H hc a b hma hmb w fun ha hb h1 q1 q2 q3 q4 => ?_
  rw [bin_go2 H.K hc a b ha hb h1]
  cases ka : a.k == 0
  · cases kb : b.k == 0
    · rw [if_neg (by simp [hasNull, ka, kb])]
      exact main ha hb h1 ka kb q1 q2 q3 q4
    · rw [if_pos (by simp [hasNull, ka, kb]), if_pos hN]
      exact rb_null2 op a.k a.n a.s b.k b.n b.s w q1 q2 q3 q4 H.an H.or_ ka kb
  · rw [if_pos (by simp [hasNull, ka]), if_pos hN]
    exact rb_null1 op a.k a.n a.s b.k b.n b.s w q1 q2 q3 q4 H.an H.or_ ka
theorem kinds2 (c : Nat) (a b : Va) (h : oneK (opT c) [a, b] = true) (ka : (a.k == 0) = false) (kb : (b.k == 0) = false) : b.k = a.k ∧ (opT c ≠ 0 → a.k = opT c) := by
  have e1 : a.k ≠ 0 := by simpa using ka
  have e2 : b.k ≠ 0 := by simpa using kb
  by_cases hd : opT c = 0
  · rw [hd] at h
    simp [oneK, ka, kb] at h
    exact ⟨h, fun q => absurd hd q⟩
  · obtain ⟨q1, q2⟩ := oneK2 _ a b h hd (by simp [hasNull, ka, kb])
    exact ⟨q2.trans q1.symm, fun _ => q1⟩
theorem rb_cmps {op : ByteArray} (H : OpOf op 0 false false false false true) (hs : ∀ c : Int, -1 ≤ c → c ≤ 1 → cmpdS op c = if (c == -1) = true then (sgn op).1 else if (c == 0) = true then (sgn op).2.1 else (sgn op).2.2)
    (a b : Va) (hma : a.s.size ≤ maxLen) (hmb : b.s.size ≤ maxLen) (w : World) : B28 op a b w (binS op a b) := by
  refine rb_nulls H (by omega) rfl a b hma hmb w fun ha hb h1 ka kb q1 q2 q3 q4 => ?_
  obtain ⟨e1, -⟩ := kinds2 0 a b h1 ka kb
  have el := less_cmp a b ha hb (by simpa using ka) e1
  have bd := cmpV_bd a.k a.n b.n a.s b.s
  have er : opSp op 0 a b = (booV (cmpdS op (lessV a b)), 0) := by
    rw [el, hs _ bd.1 bd.2]; rfl
  rw [er]
  exact rb_cmp op a.k a.n a.s b.k b.n b.s w q1 q2 q3 q4 H.an H.or_ ka kb H.li H.ca (Lib.hid fun x => by
    have h := compares_ op x
    rw [H.cm] at h
    exact h) (lessV a b) (cmpdS op (lessV a b)) (Lib.hid fun x => less_ a b x) (Lib.hid fun x => compared_ op (lessV a b) x)
theorem rb_ar {op : ByteArray} (H : OpOf op 2 false false false false false) (h75 : ∀ a b : Int, Small a → Small b → ∀ x, Calls Tryz.prog 75 #[.string op, .int .i64 a, .int .i64 b] x fun e w' => e = .returned (two (arI ((findT arTab op).getD 0) a b)) ∧ Below x.heap.size x w')
    (a b : Va) (hma : a.s.size ≤ maxLen) (hmb : b.s.size ≤ maxLen) (w : World) : B28 op a b w (binS op a b) := by
  refine rb_nulls H (by omega) rfl a b hma hmb w fun ha hb h1 ka kb q1 q2 q3 q4 => ?_
  obtain ⟨e1, e2⟩ := kinds2 2 a b h1 ka kb
  have e3 : a.k = 1 := e2 (by decide)
  have sa : Small a.n := vld_int _ _ _ e3 ha
  have sb : Small b.n := vld_int _ _ _ (e1.trans e3) hb
  have er : opSp op 2 a b = arI ((findT arTab op).getD 0) a.n b.n := rfl
  rw [er]
  exact rb_arith op a.k a.n a.s b.k b.n b.s w q1 q2 q3 q4 H.an H.or_ ka kb H.li H.ca (Lib.hid fun x => by
    have h := compares_ op x
    rw [H.cm] at h
    exact h) _ _ (Lib.hid fun x => h75 a.n b.n sa sb x)
theorem txt2 (a b : Va) (ha : a.ok = true) (hb : b.ok = true) (h1 : oneK (opT 3) [a, b] = true) (ka : (a.k == 0) = false) (kb : (b.k == 0) = false) : okText a.s = true ∧ okText b.s = true := by
  obtain ⟨e1, e2⟩ := kinds2 3 a b h1 ka kb
  have e3 : a.k = 2 := e2 (by decide)
  exact ⟨vld_text _ _ _ e3 ha, vld_text _ _ _ (e1.trans e3) hb⟩
theorem opLike : OpOf ⟨#[108, 105, 107, 101]⟩ 3 false false true false false := opOf [108, 105, 107, 101] _ _ _ _ _ _ (by decide) (by decide) (by decide) (by decide)
theorem opCat : OpOf ⟨#[124, 124]⟩ 3 false false false true false := opOf [124, 124] _ _ _ _ _ _ (by decide) (by decide) (by decide) (by decide)
theorem rb_likes (a b : Va) (hma : a.s.size ≤ maxLen) (hmb : b.s.size ≤ maxLen) (w : World) : B28 ⟨#[108, 105, 107, 101]⟩ a b w (binS ⟨#[108, 105, 107, 101]⟩ a b) := by
  refine rb_nulls opLike (by omega) rfl a b hma hmb w fun ha hb h1 ka kb q1 q2 q3 q4 => ?_
  obtain ⟨t1, t2⟩ := txt2 a b ha hb h1 ka kb
  exact rb_like _ a.k a.n a.s b.k b.n b.s w q1 q2 q3 q4 opLike.an opLike.or_ ka kb opLike.li _ (Lib.hid fun x => refLike_ a.s b.s t1 t2 x)
theorem rb_cats (a b : Va) (hma : a.s.size ≤ maxLen) (hmb : b.s.size ≤ maxLen) (w : World) : B28 ⟨#[124, 124]⟩ a b w (binS ⟨#[124, 124]⟩ a b) := by
  refine rb_nulls opCat (by omega) rfl a b hma hmb w fun ha hb h1 ka kb q1 q2 q3 q4 => ?_
  obtain ⟨t1, t2⟩ := txt2 a b ha hb h1 ka kb
  have s1 := okText_size a.s t1
  have s2 := okText_size b.s t2
  have er : opSp ⟨#[124, 124]⟩ 3 a b = if 200 < (a.s ++ b.s).size then (nulV, 21) else (txtV (a.s ++ b.s), 0) := rfl
  rw [er, ByteArray.size_append]
  by_cases hl : 200 < a.s.size + b.s.size
  · rw [if_pos hl]
    exact rb_cat1 _ a.k a.n a.s b.k b.n b.s w q1 q2 q3 q4 opCat.an opCat.or_ ka kb opCat.li opCat.ca s1 s2 hl
  · rw [if_neg hl]
    exact rb_cat2 _ a.k a.n a.s b.k b.n b.s w q1 q2 q3 q4 opCat.an opCat.or_ ka kb opCat.li opCat.ca (by omega)
theorem opAnd : OpOf ⟨#[97, 110, 100]⟩ 1 true false false false false := opOf [97, 110, 100] _ _ _ _ _ _ (by decide) (by decide) (by decide) (by decide)
theorem opOr : OpOf ⟨#[111, 114]⟩ 1 false true false false false := opOf [111, 114] _ _ _ _ _ _ (by decide) (by decide) (by decide) (by decide)
theorem tru_junc (op : ByteArray) (d : Bool) (h : (op.toList == [111, 114]) = d) (h2 : (op.toList == [97, 110, 100]) = !d) (a b : Va) : juncS d a b = (truS op a b, 0) := by
  unfold juncS truS
  rw [h, h2]
  cases eqV a.k a.n a.s 3 (b2i d) ⟨#[]⟩
  · cases eqV b.k b.n b.s 3 (b2i d) ⟨#[]⟩
    · cases ka : a.k == 0 <;> cases kb : b.k == 0 <;> simp [hasNull, ka, kb]
    · simp
  · simp
theorem rb_ands (a b : Va) (hma : a.s.size ≤ maxLen) (hmb : b.s.size ≤ maxLen) (w : World) : B28 ⟨#[97, 110, 100]⟩ a b w (binS ⟨#[97, 110, 100]⟩ a b) := by
  refine rb_of opAnd (by omega) a b hma hmb w fun ha hb h1 q1 q2 q3 q4 => ?_
  have e : binS ⟨#[97, 110, 100]⟩ a b = (truS ⟨#[97, 110, 100]⟩ a b, 0) := by
    rw [bin_go2 opAnd.K (by omega) a b ha hb h1, if_neg (show ¬ opN 1 = false by decide), ite_self, ← tru_junc _ false opAnd.or_ opAnd.an a b]; rfl
  rw [e]
  exact rb_and _ a.k a.n a.s b.k b.n b.s w q1 q2 q3 q4 _ (Lib.hid fun x => truths_ _ a b x) opAnd.an
theorem rb_ors (a b : Va) (hma : a.s.size ≤ maxLen) (hmb : b.s.size ≤ maxLen) (w : World) : B28 ⟨#[111, 114]⟩ a b w (binS ⟨#[111, 114]⟩ a b) := by
  refine rb_of opOr (by omega) a b hma hmb w fun ha hb h1 q1 q2 q3 q4 => ?_
  have e : binS ⟨#[111, 114]⟩ a b = (truS ⟨#[111, 114]⟩ a b, 0) := by
    rw [bin_go2 opOr.K (by omega) a b ha hb h1, if_neg (show ¬ opN 1 = false by decide), ite_self, ← tru_junc _ true opOr.or_ opOr.an a b]; rfl
  rw [e]
  exact rb_or _ a.k a.n a.s b.k b.n b.s w q1 q2 q3 q4 _ (Lib.hid fun x => truths_ _ a b x) opOr.an opOr.or_
theorem three {p : Int → Prop} (h1 : p (-1)) (h2 : p 0) (h3 : p 1) : ∀ c : Int, -1 ≤ c → c ≤ 1 → p c := by
  intro c a b
  have : c = -1 ∨ c = 0 ∨ c = 1 := by omega
  rcases this with rfl | rfl | rfl <;> assumption
theorem refBinary_ (op : ByteArray) (a b : Va) (hma : a.s.size ≤ maxLen) (hmb : b.s.size ≤ maxLen) (w : World) :
    Calls Tryz.prog 28 #[.string op, a.val, b.val] w fun e w' => e = .returned (two (binS op a b)) ∧ Below w.heap.size w w' := by
  cases h1 : op.toList == [43]
  rotate_left
  · obtain rfl := of_toList h1
    exact rb_ar (opOf [43] _ _ _ _ _ _ (by decide) (by decide) (by decide) (by decide)) (fun a b ha hb x => arith_add a b ha hb x) a b hma hmb w
  cases h2 : op.toList == [45]
  rotate_left
  · obtain rfl := of_toList h2
    exact rb_ar (opOf [45] _ _ _ _ _ _ (by decide) (by decide) (by decide) (by decide)) (fun a b ha hb x => arith_sub a b ha hb x) a b hma hmb w
  cases h3 : op.toList == [42]
  rotate_left
  · obtain rfl := of_toList h3
    exact rb_ar (opOf [42] _ _ _ _ _ _ (by decide) (by decide) (by decide) (by decide)) (fun a b ha hb x => arith_mul a b ha hb x) a b hma hmb w
  cases h4 : op.toList == [47]
  rotate_left
  · obtain rfl := of_toList h4
    exact rb_ar (opOf [47] _ _ _ _ _ _ (by decide) (by decide) (by decide) (by decide)) (fun a b ha hb x => arith_quo a b ha hb x) a b hma hmb w
  cases h5 : op.toList == [109, 111, 100]
  rotate_left
  · obtain rfl := of_toList h5
    exact rb_ar (opOf [109, 111, 100] _ _ _ _ _ _ (by decide) (by decide) (by decide) (by decide)) (fun a b ha hb x => arith_rem a b ha hb x) a b hma hmb w
  cases h6 : op.toList == [61]
  rotate_left
  · obtain rfl := of_toList h6
    exact rb_cmps (opOf [61] _ _ _ _ _ _ (by decide) (by decide) (by decide) (by decide)) (three (by unfold cmpdS; rw [tl [61]]; decide) (by unfold cmpdS; rw [tl [61]]; decide) (by unfold cmpdS; rw [tl [61]]; decide)) a b hma hmb w
  cases h7 : op.toList == [60, 62]
  rotate_left
  · obtain rfl := of_toList h7
    exact rb_cmps (opOf [60, 62] _ _ _ _ _ _ (by decide) (by decide) (by decide) (by decide)) (three (by unfold cmpdS; rw [tl [60, 62]]; decide) (by unfold cmpdS; rw [tl [60, 62]]; decide) (by unfold cmpdS; rw [tl [60, 62]]; decide)) a b hma hmb w
  cases h8 : op.toList == [60]
  rotate_left
  · obtain rfl := of_toList h8
    exact rb_cmps (opOf [60] _ _ _ _ _ _ (by decide) (by decide) (by decide) (by decide)) (three (by unfold cmpdS; rw [tl [60]]; decide) (by unfold cmpdS; rw [tl [60]]; decide) (by unfold cmpdS; rw [tl [60]]; decide)) a b hma hmb w
  cases h9 : op.toList == [60, 61]
  rotate_left
  · obtain rfl := of_toList h9
    exact rb_cmps (opOf [60, 61] _ _ _ _ _ _ (by decide) (by decide) (by decide) (by decide)) (three (by unfold cmpdS; rw [tl [60, 61]]; decide) (by unfold cmpdS; rw [tl [60, 61]]; decide) (by unfold cmpdS; rw [tl [60, 61]]; decide)) a b hma hmb w
  cases h10 : op.toList == [62]
  rotate_left
  · obtain rfl := of_toList h10
    exact rb_cmps (opOf [62] _ _ _ _ _ _ (by decide) (by decide) (by decide) (by decide)) (three (by unfold cmpdS; rw [tl [62]]; decide) (by unfold cmpdS; rw [tl [62]]; decide) (by unfold cmpdS; rw [tl [62]]; decide)) a b hma hmb w
  cases h11 : op.toList == [62, 61]
  rotate_left
  · obtain rfl := of_toList h11
    exact rb_cmps (opOf [62, 61] _ _ _ _ _ _ (by decide) (by decide) (by decide) (by decide)) (three (by unfold cmpdS; rw [tl [62, 61]]; decide) (by unfold cmpdS; rw [tl [62, 61]]; decide) (by unfold cmpdS; rw [tl [62, 61]]; decide)) a b hma hmb w
  cases h12 : op.toList == [97, 110, 100]
  rotate_left
  · obtain rfl := of_toList h12
    exact rb_ands a b hma hmb w
  cases h13 : op.toList == [111, 114]
  rotate_left
  · obtain rfl := of_toList h13
    exact rb_ors a b hma hmb w
  cases h14 : op.toList == [124, 124]
  rotate_left
  · obtain rfl := of_toList h14
    exact rb_cats a b hma hmb w
  cases h15 : op.toList == [108, 105, 107, 101]
  rotate_left
  · obtain rfl := of_toList h15
    exact rb_likes a b hma hmb w
  obtain ⟨e1, e2⟩ := op_none op h1 h2 h3 h4 h5 h6 h7 h8 h9 h10 h11 h12 h13 h14 h15
  rw [show binS op a b = (nulV, 2) from by unfold binS; rw [if_pos e1]]
  exact rb_no op a.k a.n a.s b.k b.n b.s w (Lib.hid fun x => by
    have h := isBinary_ op x
    rw [e2] at h
    exact h)
end
end Go.Proofs.YtplepijiceanlaaGreatDoor
