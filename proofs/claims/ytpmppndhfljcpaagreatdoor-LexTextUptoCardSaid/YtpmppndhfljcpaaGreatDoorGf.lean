/-
  Contracts of package lex: strings.
-/
import Derived.Test.YtpmppndhfljcpaaGreatDoorGe
import Derived.Test.YtpmppndhfljcpaaGreatDoorGd
import Derived.Deep.RegionHeld3
import Derived.Deep.DeepCutAuto
namespace Go.Proofs.YtpmppndhfljcpaaGreatDoor
section
open Go.RowKit

/-- The reader stands somewhere, with the same token begun. -/
def Left (w : World) (R : Nat) (s : ByteArray) (fr ln st : Nat) (w' : World) : Prop := ∃ k, KR w w' R (rd s k fr ln st) []
/-- What is known of a string of which pieces up to place k have been read. -/
def Pieces (l : Bs) (fr k : Nat) : Prop :=
  (l[k]? = some 39 → ∃ pre, textL (l.drop (fr + 1)) = (textL (l.drop (k + 1))).map fun q => (pre ++ q.1, q.2 + (k - fr))) ∧
  (l[k]? ≠ some 39 → ∃ acc, textL (l.drop (fr + 1)) = some (acc, k - (fr + 1)))
theorem Pieces.start (l : Bs) (fr : Nat) (h : l[fr]? = some 39) : Pieces l fr fr :=
  ⟨fun _ => ⟨[], by rw [Nat.sub_self]; cases textL (l.drop (fr + 1)) <;> simp⟩, fun q => absurd h q⟩
theorem head_drop (l : Bs) (k : Nat) : (l.drop k).head? = l[k]? := by rw [List.head?_drop]
theorem pre39 (l : Bs) (k : Nat) : ([39] : Bs).isPrefixOf (l.drop k) = (l[k]? == some 39) := by
  rw [← head_drop]
  cases l.drop k with
  | nil => rfl
  | cons c r =>
    simp only [List.isPrefixOf, Bool.and_true, List.head?_cons]
    rw [Bool.eq_iff_iff, beq_iff_eq, beq_iff_eq]
    exact ⟨fun e => by rw [e], fun e => by injection e with e; exact e.symm⟩
theorem Pieces.next {l : Bs} {fr k : Nat} (h : Pieces l fr k) (hk : fr ≤ k) (hq : l[k]? = some 39) (h2 : l[k + 1 + many quotB (l.drop (k + 1))]? = some 39) : Pieces l fr (k + 1 + many quotB (l.drop (k + 1)) + 1) := by
  obtain ⟨pre, e⟩ := h.1 hq
  have hp := textL_piece (l.drop (k + 1))
  rw [List.drop_drop] at hp
  have hd : ∃ r, l.drop (k + 1 + many quotB (l.drop (k + 1))) = 39 :: r := by
    rw [← head_drop] at h2
    cases hx : l.drop (k + 1 + many quotB (l.drop (k + 1))) with
    | nil => rw [hx] at h2; cases h2
    | cons c r => rw [hx] at h2; simp at h2; exact ⟨r, by rw [h2]⟩
  obtain ⟨r, hr⟩ := hd
  have hr1 : l.drop (k + 1 + many quotB (l.drop (k + 1)) + 1) = r := by rw [← List.drop_drop, hr]; rfl
  have hr2 : l.drop (k + 1 + many quotB (l.drop (k + 1)) + 1 + 1) = r.tail := by rw [← List.drop_drop, hr1, List.drop_one]
  have hh : l[k + 1 + many quotB (l.drop (k + 1)) + 1]? = r.head? := by rw [← head_drop, hr1]
  rw [hr] at hp
  simp only [beq_self_eq_true, if_true] at hp
  generalize many quotB (l.drop (k + 1)) = m at *
  constructor
  · intro h39
    rw [hh] at h39
    rw [if_pos h39] at hp
    refine ⟨pre ++ (l.drop (k + 1)).take m ++ [39], ?_⟩
    rw [e, hp, hr2]
    cases textL r.tail with
    | none => rfl
    | some q => simp; omega
  · intro h39
    rw [hh] at h39
    rw [if_neg h39] at hp
    refine ⟨pre ++ (l.drop (k + 1)).take m, ?_⟩
    rw [e, hp]
    simp; omega
theorem Pieces.stop {l : Bs} {fr k : Nat} (h : Pieces l fr k) (hq : l[k]? = some 39) (h2 : l[k + 1 + many quotB (l.drop (k + 1))]? ≠ some 39) : textL (l.drop (fr + 1)) = none := by
  obtain ⟨pre, e⟩ := h.1 hq
  have hp := textL_piece (l.drop (k + 1))
  rw [List.drop_drop] at hp
  rw [← head_drop] at h2
  cases hx : l.drop (k + 1 + many quotB (l.drop (k + 1))) with
  | nil => rw [hx] at hp; rw [e, hp]; rfl
  | cons c r =>
    rw [hx] at h2 hp
    have hc : ¬ (c == 39) = true := by intro q; apply h2; simp at q; simp [q]
    simp only [if_neg hc] at hp
    rw [e, hp]
    rfl
theorem Pieces.end {s : ByteArray} {fr k : Nat} (h : Pieces s.data.toList fr k) (hk : fr ≤ k) (h39 : s.data.toList[fr]? = some 39) (hq : s.data.toList[k]? ≠ some 39) :
    ∃ acc, textL (s.data.toList.drop (fr + 1)) = some (acc, k - (fr + 1)) ∧ fr + 1 ≤ k ∧ s.extract fr k = baOf (quoB acc) ∧ (acc.all fun c => decide (32 ≤ c.toNat) && decide (c.toNat ≤ 126)) = true := by
  obtain ⟨acc, e⟩ := h.2 hq
  have hk1 : fr + 1 ≤ k := by
    rcases Nat.lt_or_ge fr k with q | q
    · exact q
    · have : k = fr := by omega
      rw [this] at hq
      exact absurd h39 hq
  refine ⟨acc, e, hk1, ?_, (textL_ok _ _ _ (Nat.le_refl _) e).1⟩
  apply ba_ext
  have ht := textL_take _ _ _ (Nat.le_refl _) e
  simp only at ht
  have hfl : fr < s.data.toList.length := by
    rcases Nat.lt_or_ge fr s.data.toList.length with q | q
    · exact q
    · rw [List.getElem?_eq_none q] at h39; cases h39
  have hd : s.data.toList.drop fr = 39 :: s.data.toList.drop (fr + 1) := by
    rw [List.drop_eq_getElem_cons hfl]
    rw [List.getElem?_eq_getElem hfl] at h39
    rw [Option.some.inj h39]
  rw [Lib.extract_data, baOf_data, quoB_esc, ← ht, hd, show k - fr = k - (fr + 1) + 1 by omega, List.take_succ_cons]
theorem KR.setX {w x : World} {R : Nat} {cs : List Value} (h : KR w x R cs []) {p : Addr} (hp : w.heap.size ≤ p.block) (v : Value) : KR w (x.setCell p v) R cs [] :=
  ⟨grownBy.setCell h.g (.inr hp) v, h.r.other (by have := h.lt; omega) v, h.lt, trivial⟩
theorem fresh3 {x w1 : World} {c0 c1 c2 : Value} {t : TypeId} {b : Nat} (hb : Below (x.alloc (.cells #[c0, c1, c2] t)).heap.size (x.alloc (.cells #[c0, c1, c2] t)) w1) (hs : x.heap.size = b) :
    w1.cell? ⟨b, 0, none⟩ = some c0 ∧ w1.cell? ⟨b, 1, none⟩ = some c1 ∧ w1.cell? ⟨b, 2, none⟩ = some c2 ∧ w1.frozen? ⟨b, 0, none⟩ = false ∧ w1.frozen? ⟨b, 1, none⟩ = false ∧ w1.frozen? ⟨b, 2, none⟩ = false ∧ b < w1.heap.size := by
  subst hs
  have h := (B3.new x c0 c1 c2 t).below hb
  exact ⟨h.c0, h.c1, h.c2, h.f0, h.f1, h.f2, h.lt⟩
theorem rdS {w z : World} {R : Nat} {s : ByteArray} {k fr ln st : Nat} (h : KR w z R (rd s k fr ln st) []) : (z.cell? ⟨R, 0, none⟩ = some (.string s) ∧ z.cell? ⟨R, 1, none⟩ = some (.int .i64 k) ∧ z.cell? ⟨R, 2, none⟩ = some (.int .i64 fr)) ∧ KR w z R (rd s k fr ln st) [] :=
  ⟨⟨h.r.g 0 _ rfl, h.r.g 1 _ rfl, h.r.g 2 _ rfl⟩, h⟩
def QuotedEnds (w : World) (R : Nat) (s : ByteArray) (fr ln st : Nat) (e : Ending) (w' : World) : Prop :=
  match textL (s.data.toList.drop (fr + 1)) with
  | none => e = raised 143 sQ ∧ Left w R s fr ln st w'
  | some q => if q.1.length ≤ 200 then e = .returned (.string (baOf q.1)) ∧ KR w w' R (rd s (fr + 1 + q.2) fr ln st) [] else e = raised 144 sQ ∧ Left w R s fr ln st w'
theorem qe_ok {w w' : World} {R : Nat} {s : ByteArray} {fr ln st k : Nat} {acc : Bs} {e : Ending} (h : textL (s.data.toList.drop (fr + 1)) = some (acc, k - (fr + 1))) (hlen : acc.length ≤ 200) (hk : fr + 1 ≤ k) (he : e = .returned (.string (baOf acc)))
    (K : KR w w' R (rd s k fr ln st) []) : QuotedEnds w R s fr ln st e w' := by
  unfold QuotedEnds
  rw [h]
  simp only
  rw [if_pos hlen, show fr + 1 + (k - (fr + 1)) = k by omega]
  exact ⟨he, K⟩
theorem qe_long {w w' : World} {R : Nat} {s : ByteArray} {fr ln st k : Nat} {acc : Bs} {e : Ending} (h : textL (s.data.toList.drop (fr + 1)) = some (acc, k - (fr + 1))) (hlen : ¬ acc.length ≤ 200) (he : e = raised 144 sQ)
    (K : KR w w' R (rd s k fr ln st) []) : QuotedEnds w R s fr ln st e w' := by
  unfold QuotedEnds
  rw [h]
  simp only
  rw [if_neg hlen]
  exact ⟨he, k, K⟩
set_option maxRecDepth 100000 in
set_option maxHeartbeats 2000000 in
theorem quoted_ (R : Nat) (s : ByteArray) (fr ln st : Nat) (w : World) (h : BL w R (rd s fr fr ln st)) (hs : s.size ≤ 4000000) (h39 : s.data.toList[fr]? = some 39) (E : Env w) (hR : Off R) :
    Calls Tryz.prog 185 #[.pointer (some ⟨R, 0, none⟩)] w (QuotedEnds w R s fr ln st) := by
  have K0 := Lib.hid (KR.start h)
  have HL : Hid (s.data.toList.length = s.size) := Lib.hid (by simp)
  have H39 := Lib.hid h39
  have HE := Lib.hid E
  have hfr : fr ≤ s.size := by
    rcases Nat.lt_or_ge fr s.data.toList.length with q | q
    · have := HL.out; omega
    · rw [List.getElem?_eq_none q] at h39; cases h39
  have HQE : Hid (∀ e w', QuotedEnds w R s fr ln st e w' = match textL (s.data.toList.drop (fr + 1)) with
      | none => e = raised 143 sQ ∧ Left w R s fr ln st w'
      | some q => if q.1.length ≤ 200 then e = .returned (.string (baOf q.1)) ∧ KR w w' R (rd s (fr + 1 + q.2) fr ln st) [] else e = raised 144 sQ ∧ Left w R s fr ln st w') := Lib.hid fun _ _ => rfl
  clear h h39 E
  go_enter Tryz.func185, Tryz.ntmps185
  go_wp2_with fail
  go_loopw [5] (fun q x => ∃ (k : Nat), fr ≤ k ∧ k ≤ s.size ∧ Pieces s.data.toList fr k ∧ KR w x R (rd s k fr ln st) []) (fun q x => s.size - atOf R x)
  case atStart => exact ⟨fr, Nat.le_refl _, hfr, Pieces.start _ _ H39.out, K0.out⟩
  case round =>
    obtain ⟨k, hfk, hks, hP, hK⟩ := hrel
    have K := Lib.hid hK
    have HP := Lib.hid hP
    clear hK hP K0
    have HST0 := stands_ R s k fr ln st sQ wr K.out.r hks
    rw [show sQ.data.toList = [39] from rfl, pre39] at HST0
    cases hq : s.data.toList[k]? == some 39
    · rw [hq] at HST0
      have HST := Lib.hid HST0
      obtain ⟨acc, hacc, hk1, hex, hall⟩ := HP.out.end hfk H39.out (by simpa using hq)
      have hpar := parS_quo acc hall
      rw [← hex] at hpar
      have HX0 := fun x hx => parse_ (s.extract fr k) (by simp; omega) x hx
      rw [hpar] at HX0
      have HX := Lib.hid HX0
      have HA := Lib.hid hacc
      have hle0 : (0 : Int) ≤ fr := by omega
      have hlek : (fr : Int) ≤ k := by omega
      have hles : (k : Int) ≤ s.size := by omega
      obtain ⟨c0, c1, c2, c3, c4, f0, f1, f2, f3, f4, hl⟩ := K.out.r.open5
      clear hq hacc hex hall hpar HX0 HST0
      by_cases hlen : acc.length ≤ 200
      · rw [if_pos hlen] at HX
        go_wp2_with (first
          | (go_at_call 181; (with_reducible refine HST.out.mono ?_); rintro e y ⟨rfl, nq, rfl⟩))
        go_region_held3 (fun z => (z.cell? ⟨R, 0, none⟩ = some (.string s) ∧ z.cell? ⟨R, 1, none⟩ = some (.int .i64 k) ∧ z.cell? ⟨R, 2, none⟩ = some (.int .i64 fr)) ∧ KR w z R (rd s k fr ln st) [])
          (first
            | exact rdS ((K.out.below (Below.drewN wr nq)).drew)
            | (obtain ⟨_, hk⟩ := ‹_ ∧ _›; first | exact rdS (hk.below hb) | exact rdS (hk.below (new1 _ _)) | exact rdS (((K.out.below (Below.drewN wr _)).below hb).below (new1 _ _)) | exact rdS (((hk.setX (by exact K.out.g.size) _).setX (by exact K.out.g.size) _).setX (by exact K.out.g.size) _)))
          (first | (go_at_call 22; refine (HX.out _ (HE.out.grown (KR.g (And.right (by assumption))) hR)).mono ?_; rintro e w1 ⟨rfl, hb⟩; (try (have Q := fresh3 (b := wr.heap.size) hb rfl; obtain ⟨q0, q1, q2, p0, p1, p2, ql⟩ := Q))))
        all_goals
          rename_i hH
          have KZ := Lib.hid hH.2
          clear hH
          go_wp2_with fail
          go_ret
          exact qe_ok HA.out hlen hk1 rfl KZ.out
      · rw [if_neg hlen] at HX
        go_wp2_with (first
          | (go_at_call 181; (with_reducible refine HST.out.mono ?_); rintro e y ⟨rfl, nq, rfl⟩))
        go_region_held3 (fun z => (z.cell? ⟨R, 0, none⟩ = some (.string s) ∧ z.cell? ⟨R, 1, none⟩ = some (.int .i64 k) ∧ z.cell? ⟨R, 2, none⟩ = some (.int .i64 fr)) ∧ KR w z R (rd s k fr ln st) [])
          (first
            | exact rdS ((K.out.below (Below.drewN wr nq)).drew)
            | (obtain ⟨_, hk⟩ := ‹_ ∧ _›; first | exact rdS (hk.below hb) | exact rdS (hk.below (new1 _ _)) | exact rdS (((K.out.below (Below.drewN wr _)).below hb).below (new1 _ _)) | exact rdS (((hk.setX (by exact K.out.g.size) _).setX (by exact K.out.g.size) _).setX (by exact K.out.g.size) _)))
          (first | (go_at_call 22; refine (HX.out _ (HE.out.grown (KR.g (And.right (by assumption))) hR)).mono ?_; rintro e w1 ⟨rfl, hb⟩; (try (have Q := fresh3 (b := wr.heap.size) hb rfl; obtain ⟨q0, q1, q2, p0, p1, p2, ql⟩ := Q))))
        all_goals
          rename_i hH
          have KZ := Lib.hid hH.2
          clear hH
          go_wp2_with fail
          exact ⟨rfl, qe_long HA.out hlen rfl KZ.out⟩
    · have hq' : s.data.toList[k]? = some 39 := by simpa using hq
      rw [hq] at HST0
      have HST := Lib.hid HST0
      have hklt : k < s.size := by
        rcases Nat.lt_or_ge k s.data.toList.length with q | q
        · have := HL.out; omega
        · rw [List.getElem?_eq_none q] at hq'; cases hq'
      have hw := wrap_at k (by omega)
      have hfit := skip_fits s.data.toList (k + 1) quotB (by have := HL.out; omega)
      rw [HL.out] at hfit
      have hw2 := wrap_at (k + 1 + many quotB (s.data.toList.drop (k + 1))) (by omega)
      have HQ := Lib.hid hq'
      have HRN := Lib.hid fun x (hx : BL x R (rd s (k + 1) fr ln st)) => run_ R s (k + 1) fr ln st _ quotB x hx hs (by omega) fnQuoted
      have HSN0 := fun x (hx : BL x R (rd s (k + 1 + many quotB (s.data.toList.drop (k + 1))) fr ln st)) => stands_ R s (k + 1 + many quotB (s.data.toList.drop (k + 1))) fr ln st sQ x hx (by omega)
      rw [show sQ.data.toList = [39] from rfl, pre39] at HSN0
      clear hq hq' HST0
      cases hq2 : s.data.toList[k + 1 + many quotB (s.data.toList.drop (k + 1))]? == some 39
      · have HN := Lib.hid (HP.out.stop HQ.out (by simpa using hq2))
        rw [hq2] at HSN0
        have HSN := Lib.hid HSN0
        clear hq2 HSN0
        generalize many quotB (s.data.toList.drop (k + 1)) = m at *
        obtain ⟨c0, c1, c2, c3, c4, f0, f1, f2, f3, f4, hl⟩ := K.out.r.open5
        go_wp2_with (first
          | (go_at_call 181; (with_reducible refine HST.out.mono ?_); rintro e y ⟨rfl, nq, rfl⟩))
        have KA := Lib.hid ((K.out.below (Below.drewN wr nq)).setR 1 (.int .i64 (k + 1 : Nat)) (by simp))
        refine (HRN.out _ KA.out.r).mono ?_
        rintro e y1 ⟨rfl, hK1⟩
        have K1 := Lib.hid (KA.out.turn2 hK1)
        clear KA hK1 c0 c1 c2 c3 c4 f0 f1 f2 f3 f4 hl
        obtain ⟨c0, c1, c2, c3, c4, f0, f1, f2, f3, f4, hl⟩ := K1.out.r.open5
        go_wp2_with fail
        refine (HSN.out _ K1.out.r).mono ?_
        rintro e y2 ⟨rfl, nq2, rfl⟩
        go_wp2_with fail
        exact ⟨rfl, by rw [HQE.out, HN.out]; exact ⟨rfl, _, K1.out.below (Below.drewN _ _)⟩⟩
      · have HN := Lib.hid (HP.out.next hfk HQ.out (by simpa using hq2))
        have hlt2 : k + 1 + many quotB (s.data.toList.drop (k + 1)) < s.size := by
          rcases Nat.lt_or_ge (k + 1 + many quotB (s.data.toList.drop (k + 1))) s.data.toList.length with q | q
          · have := HL.out; omega
          · rw [List.getElem?_eq_none q] at hq2; cases hq2
        rw [hq2] at HSN0
        have HSN := Lib.hid HSN0
        clear hq2 HSN0
        generalize many quotB (s.data.toList.drop (k + 1)) = m at *
        obtain ⟨c0, c1, c2, c3, c4, f0, f1, f2, f3, f4, hl⟩ := K.out.r.open5
        go_wp2_with (first
          | (go_at_call 181; (with_reducible refine HST.out.mono ?_); rintro e y ⟨rfl, nq, rfl⟩))
        have KA := Lib.hid ((K.out.below (Below.drewN wr nq)).setR 1 (.int .i64 (k + 1 : Nat)) (by simp))
        refine (HRN.out _ KA.out.r).mono ?_
        rintro e y1 ⟨rfl, hK1⟩
        have K1 := Lib.hid (KA.out.turn2 hK1)
        clear KA hK1 c0 c1 c2 c3 c4 f0 f1 f2 f3 f4 hl
        obtain ⟨c0, c1, c2, c3, c4, f0, f1, f2, f3, f4, hl⟩ := K1.out.r.open5
        go_wp2_with fail
        refine (HSN.out _ K1.out.r).mono ?_
        rintro e y2 ⟨rfl, nq2, rfl⟩
        go_wp2_with fail
        have K2 := (K1.out.below (Below.drewN _ nq2)).setR 1 (.int .i64 (k + 1 + m + 1 : Nat)) (by simp)
        go_roundw
        case rel => exact ⟨k + 1 + m + 1, by omega, by omega, HN.out, K2⟩
        case measure =>
          have e2 := atOf_rd K2.r
          rw [atOf_rd K.out.r]
          exact Nat.lt_of_le_of_lt (Nat.le_of_eq (congrArg (s.size - ·) e2)) (show s.size - (k + 1 + m + 1) < s.size - k by omega)
end
end Go.Proofs.YtpmppndhfljcpaaGreatDoor
namespace Go.Proofs.YtpmppndhfljcpaaGreatDoor
section
open Go.RowKit

theorem results_tok {fn : Func} {p : Tmp} (h : fn.results = #[.cell p 95]) (tmps : Array Value) {b : Nat} (hp : tmps.getD p undef = .pointer (some ⟨b, 0, none⟩)) {z : World} {k n ln cl : Int} {s : ByteArray}
    (h5 : BL z b [.int .i64 k, .string s, .int .i64 n, .int .i64 ln, .int .i64 cl]) :
    (results fn tmps).run Tryz.prog z = .ok (.agg #[.int .i64 k, .string s, .int .i64 n, .int .i64 ln, .int .i64 cl]) z := by
  obtain ⟨z0, z1, z2, z3, z4, -⟩ := h5.open5
  simp only [Array.getD_eq_getD_getElem?] at hp
  simp [results, h, hp, go_sem, z0, z1, z2, z3, z4]
theorem ret_tok {fn : Func} {p : Tmp} (h : fn.results = #[.cell p 95]) {Q : Ending → World → Prop} {a : Act} (hd : a.defers = []) {z : World} {b : Nat} {k n ln cl : Int} {s : ByteArray} (h5 : BL z b [.int .i64 k, .string s, .int .i64 n, .int .i64 ln, .int .i64 cl])
    (hp : a.tmps.getD p undef = .pointer (some ⟨b, 0, none⟩)) (hR : Q (.returned (.agg #[.int .i64 k, .string s, .int .i64 n, .int .i64 ln, .int .i64 cl])) z) : bodyPost Tryz.prog fn Q .ret a z :=
  bodyPost_ret (results_tok h a.tmps hp h5) hd hR
/-- A token's cells. -/
abbrev tkC (k : Int) (t : ByteArray) (n ln cl : Int) : List Value := [.int .i64 k, .string t, .int .i64 n, .int .i64 ln, .int .i64 cl]
/-- A token's value. -/
abbrev tkV (k : Int) (t : ByteArray) (n ln cl : Int) : Value := .agg #[.int .i64 k, .string t, .int .i64 n, .int .i64 ln, .int .i64 cl]
theorem KR.setFrom {w x : World} {R : Nat} {s : ByteArray} {i fr ln st : Nat} {l : List (Nat × List Value)} (h : KR w x R (rd s i fr ln st) l) : KR w (x.setCell ⟨R, 2, none⟩ (.int .i64 i)) R (rd s i i ln st) l := h.setR 2 (.int .i64 i) (by simp)
/-- Of two blocks of five cells the second is written as a whole. -/
theorem KR.fill2 {w x : World} {R : Nat} {cs : List Value} {a b : Nat} {ca : List Value} {v0 v1 v2 v3 v4 : Value} {l : List (Nat × List Value)} (h : KR w x R cs ((a, ca) :: (b, [v0, v1, v2, v3, v4]) :: l)) (u0 u1 u2 u3 u4 : Value) :
    KR w (((((x.setCell ⟨b, 0, none⟩ u0).setCell ⟨b, 1, none⟩ u1).setCell ⟨b, 2, none⟩ u2).setCell ⟨b, 3, none⟩ u3).setCell ⟨b, 4, none⟩ u4) R cs ((a, ca) :: (b, [u0, u1, u2, u3, u4]) :: l) :=
  ((((h.set2 0 u0 (by simp)).set2 1 u1 (by simp)).set2 2 u2 (by simp)).set2 3 u3 (by simp)).set2 4 u4 (by simp)
theorem KR.fill {w x : World} {R : Nat} {cs : List Value} {b : Nat} {v0 v1 v2 v3 v4 : Value} {l : List (Nat × List Value)} (h : KR w x R cs ((b, [v0, v1, v2, v3, v4]) :: l)) (u0 u1 u2 u3 u4 : Value) :
    KR w (((((x.setCell ⟨b, 0, none⟩ u0).setCell ⟨b, 1, none⟩ u1).setCell ⟨b, 2, none⟩ u2).setCell ⟨b, 3, none⟩ u3).setCell ⟨b, 4, none⟩ u4) R cs ((b, [u0, u1, u2, u3, u4]) :: l) :=
  ((((h.set 0 u0 (by simp)).set 1 u1 (by simp)).set 2 u2 (by simp)).set 3 u3 (by simp)).set 4 u4 (by simp)
/-- The two ways in which a token's variable is made. -/
theorem KR.made1 {w x : World} {R b : Nat} {cs : List Value} {l : List (Nat × List Value)} (h : KR w x R cs l) (hb : x.heap.size = b) (n : Nat) (u0 u1 u2 u3 u4 : Value) : KR w ((x.drewN n).alloc (.cells #[u0, u1, u2, u3, u4] 95)) R cs ((b, [u0, u1, u2, u3, u4]) :: l) :=
  (h.below (Below.drewN x n)).push' b hb [u0, u1, u2, u3, u4] 95
theorem KR.made2 {w x : World} {R b : Nat} {cs : List Value} {l : List (Nat × List Value)} (h : KR w x R cs l) (hb : x.heap.size = b) (n : Nat) (z0 z1 z2 z3 z4 u0 u1 u2 u3 u4 : Value) :
    KR w ((((((((x.alloc (.cells #[z0, z1, z2, z3, z4] 95)).drewN n).setCell ⟨b, 0, none⟩ u0).setCell ⟨b, 1, none⟩ u1).setCell ⟨b, 2, none⟩ u2).setCell ⟨b, 3, none⟩ u3).setCell ⟨b, 4, none⟩ u4)) R cs ((b, [u0, u1, u2, u3, u4]) :: l) :=
  ((h.push' b hb [z0, z1, z2, z3, z4] 95).below (Below.drewN _ n)).fill u0 u1 u2 u3 u4
/-- What a token's reading ends in. -/
def TokenEnds (w : World) (R : Nat) (s : ByteArray) (i ln st : Nat) (e : Ending) (w' : World) : Prop :=
  match tokR (s.data.toList.drop i) with
  | .bad c nm => (e = if c = 21 then raised 144 (baOf nm) else raised 143 (baOf nm)) ∧ Left w R s i ln st w'
  | .tok x len => e = .returned (tkV x.k (baOf x.t) x.n ln ((i : Int) - st + 1)) ∧ KR w w' R (rd s (i + len) i ln st) []
theorem te_tok {w w' : World} {R : Nat} {s : ByteArray} {i ln st len j : Nat} {x : Tk} {e : Ending} {k n : Int} {t : ByteArray} (h : tokR (s.data.toList.drop i) = .tok x len) (hk : k = x.k) (ht : t = baOf x.t) (hn : n = x.n) (hj : j = i + len)
    (he : e = .returned (tkV k t n ln ((i : Int) - st + 1))) (K : KR w w' R (rd s j i ln st) []) : TokenEnds w R s i ln st e w' := by
  subst hk ht hn hj
  unfold TokenEnds
  rw [h]
  exact ⟨he, K⟩
theorem te_stray {w w' : World} {R : Nat} {s : ByteArray} {i ln st : Nat} {nm : Bs} {t : ByteArray} {e : Ending} (h : tokR (s.data.toList.drop i) = .bad 10 nm) (ht : t = baOf nm) (he : e = raised 143 t) (K : Left w R s i ln st w') : TokenEnds w R s i ln st e w' := by
  subst ht
  unfold TokenEnds
  rw [h]
  exact ⟨by rw [he]; rfl, K⟩
theorem te_excess {w w' : World} {R : Nat} {s : ByteArray} {i ln st : Nat} {nm : Bs} {t : ByteArray} {e : Ending} (h : tokR (s.data.toList.drop i) = .bad 21 nm) (ht : t = baOf nm) (he : e = raised 144 t) (K : Left w R s i ln st w') : TokenEnds w R s i ln st e w' := by
  subst ht
  unfold TokenEnds
  rw [h]
  exact ⟨by rw [he]; rfl, K⟩
theorem ext_ba (s : ByteArray) (i n : Nat) : s.extract i (i + n) = baOf ((s.data.toList.drop i).take n) := ba_ext (by rw [ext_data]; rfl)
theorem drop_cons (s : ByteArray) (i : Nat) (hi : i < s.size) : s.data.toList.drop i = s[i] :: s.data.toList.drop (i + 1) := by
  rw [List.drop_eq_getElem_cons (by simpa using hi)]; rfl
/-- What is read of a token when it ends well: its kind, string and number, and how far. -/
structure Well (s : ByteArray) (i : Nat) (k : Int) (t : ByteArray) (n : Int) (j : Nat) : Prop where
  tok : ∃ x len, tokR (s.data.toList.drop i) = .tok x len ∧ k = x.k ∧ t = baOf x.t ∧ n = x.n ∧ j = i + len
theorem Well.ends {w w' : World} {R : Nat} {s : ByteArray} {i ln st j : Nat} {k n : Int} {t : ByteArray} {e : Ending} (h : Well s i k t n j) (he : e = .returned (tkV k t n ln ((i : Int) - st + 1))) (K : KR w w' R (rd s j i ln st) []) : TokenEnds w R s i ln st e w' := by
  obtain ⟨x, len, h1, h2, h3, h4, h5⟩ := h.tok
  exact te_tok h1 h2 h3 h4 h5 he K
end
end Go.Proofs.YtpmppndhfljcpaaGreatDoor
