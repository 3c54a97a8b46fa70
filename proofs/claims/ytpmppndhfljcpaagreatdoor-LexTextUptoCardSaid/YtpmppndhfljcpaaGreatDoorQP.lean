/-
  The reference's reader: the tokens of a string.
-/
import Derived.Test.YtpmppndhfljcpaaGreatDoorQM
import Derived.Test.YtpmppndhfljcpaaGreatDoorQN
import Derived.Test.YtpmppndhfljcpaaGreatDoorQO
import Derived.Test.YtpmppndhfljcpaaGreatDoorQQ
import Derived.Deep.RegionLaw
namespace Go.Proofs.YtpmppndhfljcpaaGreatDoor
open Go.RowKit

theorem refToken_ (R T : Nat) (s : ByteArray) (i : Nat) (ln cl : Int) (o : Value) (fc : Int) (fn : ByteArray) (fl fcl : Int) (w : World) (hr : BL w R (rr s i ln cl o fc fn fl fcl)) (ht : BL w T (tkC 0 ⟨#[]⟩ 0 ln cl)) (hne : R ≠ T) (hs : s.size ≤ 4000000) (hi : i < s.size) :
    Calls Tryz.prog 80 #[.pointer (some ⟨R, 0, none⟩), .pointer (some ⟨T, 0, none⟩)] w (RefTok w R T s i ln cl o fc fn fl fcl) := by
  cases hc : smallB s[i] with
  | true => exact refTok_name R T s i ln cl o fc fn fl fcl w hr ht hne hs hi hc
  | false =>
    cases hd : digitB s[i] with
    | true => exact refTok_int R T s i ln cl o fc fn fl fcl w hr ht hne hs hi hc hd
    | false =>
      cases h39 : (s[i] == 39) with
      | true => exact refTok_text R T s i ln cl o fc fn fl fcl w hr ht hne hs hi hc hd h39
      | false => exact refTok_sign R T s i ln cl o fc fn fl fcl w hr ht hne hs hi hc hd h39
theorem refToken_bad (R T : Nat) (s : ByteArray) (i : Nat) (ln cl : Int) (o : Value) (fc : Int) (fn : ByteArray) (fl fcl : Int) (w : World) (hr : BL w R (rr s i ln cl o fc fn fl fcl)) (ht : BL w T (tkC 0 ⟨#[]⟩ 0 ln cl)) (hne : R ≠ T) (hs : s.size ≤ 4000000) (hi : i < s.size) {c : Int} {nm : Bs} (htk : tokR (s.data.toList.drop i) = .bad c nm) :
    Calls Tryz.prog 80 #[.pointer (some ⟨R, 0, none⟩), .pointer (some ⟨T, 0, none⟩)] w fun e w' => e = .returned (.int .i64 0) ∧ ∃ ds, KW w w' R (rr s i ln cl o c (baOf nm) ln cl) T ds [] :=
  (refToken_ R T s i ln cl o fc fn fl fcl w hr ht hne hs hi).mono fun e w' h => by unfold RefTok at h; rw [htk] at h; exact h
theorem refToken_ok (R T : Nat) (s : ByteArray) (i : Nat) (ln cl : Int) (o : Value) (fc : Int) (fn : ByteArray) (fl fcl : Int) (w : World) (hr : BL w R (rr s i ln cl o fc fn fl fcl)) (ht : BL w T (tkC 0 ⟨#[]⟩ 0 ln cl)) (hne : R ≠ T) (hs : s.size ≤ 4000000) (hi : i < s.size) {x : Tk} {len : Nat} (htk : tokR (s.data.toList.drop i) = .tok x len) :
    Calls Tryz.prog 80 #[.pointer (some ⟨R, 0, none⟩), .pointer (some ⟨T, 0, none⟩)] w fun e w' => e = .returned (.int .i64 len) ∧ KW w w' R (rr s i ln cl o fc fn fl fcl) T (tkC x.k (baOf x.t) x.n ln cl) [] :=
  (refToken_ R T s i ln cl o fc fn fl fcl w hr ht hne hs hi).mono fun e w' h => by unfold RefTok at h; rw [htk] at h; exact h
theorem results_rlex {fn : Func} {p q : Tmp} (h : fn.results = #[.tmp p, .cell q 45]) (tmps : Array Value) {v : Value} {F : Nat} (hp : tmps.getD p undef = v) (hq : tmps.getD q undef = .pointer (some ⟨F, 0, none⟩))
    {z : World} {c ln cl : Int} {nm : ByteArray} (h4 : BL z F (flC c nm ln cl)) : (results fn tmps).run Tryz.prog z = .ok (.tuple #[v, flV c nm ln cl]) z := by
  obtain ⟨z0, z1, z2, z3, -⟩ := h4.open4
  simp only [Array.getD_eq_getD_getElem?] at hp hq
  simp [results, h, hp, hq, go_sem, z0, z1, z2, z3]
/-- A row stays where its own block stays. -/
theorem Row.block {w x y : World} {s : Bs} {v : Value} {A : List (Tk × Nat)} (h : Row w x s v A) (hb : ∀ b, v.ownBlock = some b → y.heap[b]? = x.heap[b]?) : Row w y s v A := by
  obtain ⟨h1, h2⟩ := h
  refine ⟨h1, ?_⟩
  rcases h2 with h2 | ⟨g, cap, cur, rfl, h3, h4, h5⟩
  · exact .inl h2
  · exact .inr ⟨g, cap, cur, rfl, h3, by rw [hb g rfl]; exact h4, h5⟩
theorem Row.lt {w x : World} {s : Bs} {v : Value} {A : List (Tk × Nat)} (h : Row w x s v A) : ∀ b, v.ownBlock = some b → w.heap.size ≤ b ∧ b < x.heap.size := fun b hb => World.ownsRow.lt h b hb
/-- A callee has written two blocks, of which the row is none. -/
theorem Row.turnW {w x y : World} {s : Bs} {v : Value} {A : List (Tk × Nat)} {R T : Nat} {cs ds : List Value} {l : List (Nat × List Value)} (h : Row w x s v A) (hR : R < w.heap.size) (hT : ∀ b, v.ownBlock = some b → b ≠ T) (k : KW x y R cs T ds l) : Row w y s v A :=
  h.block fun b hb => k.block b (h.lt b hb).2 (by have := (h.lt b hb).1; omega) (hT b hb)
theorem KG.grownOwn {w x y : World} {l : List (Nat × List Value)} {row : Option Nat} (h : KG w x l) (hg : x.grownBy y row) (hw : ∀ k, row = some k → w.heap.size ≤ k) (hr : ∀ k, row = some k → ∀ q ∈ l, q.1 ≠ k) : KG w y l :=
  ⟨h.HB.grown hg h.HB.size hw, h.q.of_blocks fun q hq => hg.block _ (h.q.mem q hq).1.lt (fun e => hr _ e.symm q hq rfl)⟩
theorem drewNew (w : World) (o : Obj) : Below w.heap.size w (w.drew.alloc o) := ((Below.refl _ _).drew).alloc (Nat.le_refl _) o
/-- A token is put behind a row, as a step of a region that draws its order. -/
theorem step_append_tok {ops : Array Oper} {o : Oper} {a : Act} {w : World} {K : Act → World → Prop} {Q : Exit → Act → World → Prop} {E : Prop}
    (hg : o.guard = none) (s x : Operand) (hop : o.op = Op.call { callee := Callee.builtin Builtin.append, args := #[s, x], argTypes := #[43, 43] })
    (B : Nat) (v : Value) (n : Nat) (xs : List Value) (hs : a.eval s = v) (hown : w.ownsRow B 95 5 v n xs) (g : Nat) (news : List Value) (hx : a.eval x = .slice (some ⟨g, 0, none⟩) 1 1) (hl : news.length = 5)
    (hc : ∀ j u, news[j]? = some u → w.cell? ((⟨g, 0, none⟩ : Addr).add j) = some u) (h1c : ∀ u ∈ news, u.oneCell' = true) (hn : n ≤ 1000000) (hB : B ≤ w.heap.size)
    (hK : ∀ v' w', w'.ownsRow B 95 5 v' (n + 1) (xs ++ news) → w.grownBy w' v.ownBlock → K (a.put o.dst v') w') :
    if Region.wanted o (yielded ops a.tmps) = true then Oper.wp Tryz.prog o a w K Q else E := by
  have hw : Region.wanted o (yielded ops a.tmps) = true := by simp [Region.wanted, hg]
  rw [if_pos hw]
  obtain ⟨i0, hi, hz, hsz, hby⟩ := info_parts infoTok
  obtain ⟨v', w', hrun, r1, r2, _⟩ := run_append_own (P := Tryz.prog) w B 43 o.type 95 i0 _ 5 48 Tryz.underlying43 hi hz hsz hby rfl (by decide) v n xs hown ⟨g, 0, none⟩ 1 1 news (by rw [hl]) hc h1c (by simp only [maxLen]; omega) (by omega) hB
  unfold Oper.wp
  simp [execOp, hop, resolve, invoke, builtin, hs, hx, hrun, Result.andThen]
  exact hK v' w' r1 r2
theorem bl_place {x : World} {R : Nat} {s : ByteArray} {i : Nat} {ln cl : Int} {o : Value} {fc : Int} {fn : ByteArray} {fl fcl : Int} (hp : placeP (s.data.toList.take i) = (ln, cl)) (h : BL x R (rr s i ln cl o fc fn fl fcl)) : BL x R (rr s i (placeP (s.data.toList.take i)).1 (placeP (s.data.toList.take i)).2 o fc fn fl fcl) := by
  rw [hp]
  exact h
theorem tkC_at {s : ByteArray} {i : Nat} (x : Tk) : tkP s.data.toList (x, i) = tkC x.k (baOf x.t) x.n (placeP (s.data.toList.take i)).1 (placeP (s.data.toList.take i)).2 := rfl

set_option maxRecDepth 100000 in
set_option maxHeartbeats 4000000 in
theorem refLex_ (s : ByteArray) (w : World) (hs : s.size ≤ 4000000) : Calls Tryz.prog 29 #[.string s] w (LexEnds w s) := by
  have HSZ : Hid (s.data.toList.length = s.size) := Lib.hid (by simp)
  have K00 := Lib.hid ((KG.refl w).push' w.heap.size rfl (flC 0 ⟨#[]⟩ 0 0) 45)
  obtain ⟨z0, z1, z2, z3, y0, y1, y2, y3, yl⟩ := K00.out.q.1.1.open4
  by_cases hsz : 20000 < s.size
  · have hif : decide ((20000 : Int) < s.size) = true := by simp; omega
    have HSz := Lib.hid hsz
    clear hsz
    go_enter Tryz.func29, Tryz.ntmps29
    go_wp2_with fail
    have K1 := (KG.refl w).push' w.heap.size rfl (flC 3 ⟨#[]⟩ 0 0) 45
    refine bodyPost_ret (results_rlex rfl _ rfl rfl K1.q.1.1) rfl ⟨K1.HB, ?_⟩
    rw [if_pos HSz.out]
    rfl
  · have hif : decide ((20000 : Int) < s.size) = false := by simp; omega
    have HSz := Lib.hid hsz
    clear hsz
    have K0 : Hid (KG w ((w.alloc (.cells (flC 0 ⟨#[]⟩ 0 0).toArray 45)).alloc (.cells (rp s 0 (.slice none 0 0) 0 ⟨#[]⟩ 0 0).toArray 102)) [(w.heap.size + 1, rp s 0 (.slice none 0 0) 0 ⟨#[]⟩ 0 0), (w.heap.size, flC 0 ⟨#[]⟩ 0 0)]) := Lib.hid (K00.out.push' (w.heap.size + 1) (by simp) (rp s 0 (.slice none 0 0) 0 ⟨#[]⟩ 0 0) 102)
    clear z0 z1 z2 z3 y0 y1 y2 y3 yl
    go_enter Tryz.func29, Tryz.ntmps29
    go_wp2_with fail
    obtain ⟨x0, hx0⟩ : ∃ x0 : World, x0.heap.size = w.heap.size + 1 + 1 := ⟨(w.alloc (.cells (flC 0 ⟨#[]⟩ 0 0).toArray 45)).alloc (.cells (rp s 0 (.slice none 0 0) 0 ⟨#[]⟩ 0 0).toArray 102), by simp⟩
    have HX0 := Lib.hid hx0
    clear hx0
    go_loopw [6] (fun v6 x => ∃ (A : List (Tk × Nat)) (p : Nat) (v : Value), Rest s.data.toList A p ∧ A.length ≤ 4000 ∧ p ≤ s.size ∧ KG w x [(w.heap.size + 1, rp s p v 0 ⟨#[]⟩ 0 0), (w.heap.size, flC 0 ⟨#[]⟩ 0 0)] ∧ Row x0 x s.data.toList v A) (fun v6 x => s.size - atOf (w.heap.size + 1) x)
    case atStart => exact ⟨[], 0, .slice none 0 0, Rest.start _, Nat.zero_le _, Nat.zero_le _, K0.out, Row.nil _ _ _⟩
    case round =>
      clear K0 K00
      obtain ⟨A, p, v, hRest, hA, hp, hK, hRow⟩ := hrel
      have HRest := Lib.hid hRest
      have K := Lib.hid hK
      have HRow := Lib.hid hRow
      clear hRest hK hRow
      have HA := Lib.hid (atOf_rr K.out.q.1.1)
      have HSK := Lib.hid (refSkip_ (w.heap.size + 1) s p v 0 ⟨#[]⟩ 0 0 wr K.out.q.1.1 hs hp)
      have hfit : p + skipL false (s.data.toList.drop p) ≤ s.size := by
        have h1 := skip_le false (s.data.toList.drop p)
        have h2 := HSZ.out
        rw [List.length_drop] at h1
        omega
      have hmi : p ≤ p + skipL false (s.data.toList.drop p) := Nat.le_add_right _ _
      generalize hi0 : p + skipL false (s.data.toList.drop p) = i at *
      have HI0 := Lib.hid hi0
      clear hi0
      go_upto_region 5 with (first
        | (go_at_call 79; (with_reducible refine HSK.out.mono ?_); rintro e y ⟨rfl, hk⟩; have K1 := Lib.hid (K.out.turn hk.g hk.r); have HRow1 := Lib.hid (HRow.out.turn (by have := HX0.out; omega) hk); clear hk))
      obtain ⟨a, cap, rfl⟩ := HRow1.out.form
      obtain ⟨⟨c0, c1, c2, c3, c4, c5, c6, c7, c8⟩, ⟨f0, f1, f2, f3, f4, f5, f6, f7, f8⟩, hl⟩ := K1.out.q.1.1.open9
      by_cases hlt : i < s.size
      · have hne : decide ((i : Int) = s.size) = false := by simp; omega
        have hne2 : ((i : Int) == s.size) = false := by simp; omega
        have hdne : s.data.toList.drop i ≠ [] := by rw [drop_cons s i hlt]; simp
        have hpb := placeP_bound (s.data.toList.take i)
        go_upto_region 7 with fail
        go_cut [5] (fun s5 wx => s5 = .pointer (some ⟨y.heap.size, 0, none⟩) ∧ KG w wx [(y.heap.size, tkC 0 ⟨#[]⟩ 0 (placeP (s.data.toList.take i)).1 (placeP (s.data.toList.take i)).2), (w.heap.size + 1, rr s i (placeP (s.data.toList.take i)).1 (placeP (s.data.toList.take i)).2 (.slice a A.length cap) 0 ⟨#[]⟩ 0 0), (w.heap.size, flC 0 ⟨#[]⟩ 0 0)] ∧ Row x0 wx s.data.toList (.slice a A.length cap) A)
        case first =>
          go_region
          all_goals go_wp2_with fail
          all_goals go_meet
          all_goals exact ⟨rfl, (K1.out.push' y.heap.size rfl (tkC 0 ⟨#[]⟩ 0 (placeP (s.data.toList.take i)).1 (placeP (s.data.toList.take i)).2) 95).drew, (HRow1.out.below (new1 _ _)).below (Below.refl _ _).drew⟩
        case rest =>
          obtain ⟨rfl, hK, hRow⟩ := hcut
          have hTl : ∀ b, (Value.slice a A.length cap).ownBlock = some b → b ≠ y.heap.size := fun b hb e => by have := (HRow1.out.lt b hb).2; omega
          have HTl := Lib.hid hTl
          have hyR : w.heap.size + 1 < y.heap.size := K1.out.q.1.1.lt
          clear HRow HRow1 K K1 HSK c0 c1 c2 c3 c4 c5 c6 c7 c8 f0 f1 f2 f3 f4 f5 f6 f7 f8 hl hTl
          have K := Lib.hid hK
          have HRow := Lib.hid hRow
          clear hK hRow
          generalize y.heap.size = T at *
          have hRF : ¬ w.heap.size + 1 = w.heap.size := by omega
          have hRT : w.heap.size + 1 ≠ T := by omega
          generalize hpp : placeP (s.data.toList.take i) = pp at *
          obtain ⟨ln, cl⟩ := pp
          have HPP := Lib.hid hpp
          clear hpp
          cases htk : tokR (s.data.toList.drop i) with
          | bad c nm =>
            have HT := Lib.hid (refToken_bad (w.heap.size + 1) T s i ln cl (.slice a A.length cap) 0 ⟨#[]⟩ 0 0 wc K.out.q.2.1.1 K.out.q.1.1 hRT hs hlt htk)
            have HST := Lib.hid (HRest.out.bad (by rw [HI0.out]; exact hdne) (by rw [HI0.out]; exact htk))
            clear htk hdne
            go_wp2_with (first
              | (go_at_call 80; (with_reducible refine HT.out.mono ?_); rintro e y2 ⟨rfl, ds, hk⟩; have K2 := Lib.hid (K.out.turnW hk); clear hk))
            obtain ⟨⟨c0, c1, c2, c3, c4, c5, c6, c7, c8⟩, ⟨f0, f1, f2, f3, f4, f5, f6, f7, f8⟩, hl⟩ := K2.out.q.2.1.1.open9
            obtain ⟨z0, z1, z2, z3, g0, g1, g2, g3, zl⟩ := K2.out.q.2.2.1.1.open4
            go_region
            all_goals
              have K3 := ((((K2.out.set3 0 (.int .i64 c) (by simp)).set3 1 (.string (baOf nm)) (by simp)).set3 2 (.int .i64 ln) (by simp)).set3 3 (.int .i64 cl) (by simp)).drew
              go_wp2_with fail
              refine bodyPost_ret (results_rlex rfl _ rfl rfl K3.q.2.2.1.1) rfl ⟨K3.HB, ?_⟩
              rw [if_neg HSz.out, HST.out]
              dsimp only
              rw [HI0.out, HPP.out]
              rfl
          | tok x len =>
            obtain ⟨hok, hl1, hl2, hno⟩ := tokR_ok _ _ _ htk
            have HT := Lib.hid (refToken_ok (w.heap.size + 1) T s i ln cl (.slice a A.length cap) 0 ⟨#[]⟩ 0 0 wc K.out.q.2.1.1 K.out.q.1.1 hRT hs hlt htk)
            have HF := Lib.hid fun c nm z hz => refFault_ (w.heap.size + 1) s i ln cl (.slice a A.length cap) 0 ⟨#[]⟩ 0 0 c nm z hz
            have HWR : Hid (∀ z, Calls Tryz.prog 82 #[tkV x.k (baOf x.t) x.n ln cl] z fun e w' => e = .returned (.string (baOf (writ x))) ∧ Below z.heap.size z w') := Lib.hid fun z => refWritten_ ⟨x.k, baOf x.t, x.n, ln, cl⟩ hok z
            have hlen0 : (0 : Int) < len := by omega
            have hlen1 : ((len : Int) == 0) = false := by simp; omega
            by_cases h4 : A.length = 4000
            · have HST := Lib.hid (HRest.out.many h4 (by rw [HI0.out]; exact hdne) (by rw [HI0.out]; exact htk))
              have h4' : ((A.length : Int) == 4000) = true := by simp [h4]
              clear htk hdne h4 hok hl1 hl2 hno
              go_wp2_with (first
                | (go_at_call 80; (with_reducible refine HT.out.mono ?_); rintro e y2 ⟨rfl, hk⟩; have K2 := Lib.hid (K.out.turnW hk); clear hk; obtain ⟨⟨c0, c1, c2, c3, c4, c5, c6, c7, c8⟩, ⟨f0, f1, f2, f3, f4, f5, f6, f7, f8⟩, hl⟩ := K2.out.q.2.1.1.open9; obtain ⟨t0, t1, t2, t3, t4, g0, g1, g2, g3, g4, gl⟩ := K2.out.q.1.1.open5)
                | (go_at_call 82; (with_reducible refine (HWR.out _).mono ?_); rintro e y3 ⟨rfl, hb⟩; have K4 := Lib.hid (K2.out.below hb); clear hb; clear c0 c1 c2 c3 c4 c5 c6 c7 c8 f0 f1 f2 f3 f4 f5 f6 f7 f8 hl t0 t1 t2 t3 t4 g0 g1 g2 g3 g4 gl))
              refine (HF.out _ _ _ K4.out.q.2.1.1).mono ?_
              rintro e y4 ⟨rfl, hk⟩
              have K5 := Lib.hid (K4.out.turn2 hk)
              clear hk
              go_wp2_with fail
              obtain ⟨⟨c0, c1, c2, c3, c4, c5, c6, c7, c8⟩, ⟨f0, f1, f2, f3, f4, f5, f6, f7, f8⟩, hl⟩ := K5.out.q.2.1.1.open9
              obtain ⟨z0, z1, z2, z3, y0, y1, y2', y3', zl⟩ := K5.out.q.2.2.1.1.open4
              go_region
              all_goals
                have K3 := ((((K5.out.set3 0 (.int .i64 3) (by simp)).set3 1 (.string (baOf (writ x))) (by simp)).set3 2 (.int .i64 ln) (by simp)).set3 3 (.int .i64 cl) (by simp)).drew
                go_wp2_with fail
                refine bodyPost_ret (results_rlex rfl _ rfl rfl K3.q.2.2.1.1) rfl ⟨K3.HB, ?_⟩
                rw [if_neg HSz.out, HST.out]
                dsimp only
                rw [HI0.out, HPP.out]
                rfl
            · have HST := Lib.hid (HRest.out.one h4 (by rw [HI0.out]; exact hdne) (by rw [HI0.out]; exact htk))
              have h4' : ((A.length : Int) == 4000) = false := by simp; omega
              go_wp2_with (first
                | (go_at_call 80; (with_reducible refine HT.out.mono ?_); rintro e y2 ⟨rfl, hk⟩; have K2 := Lib.hid (K.out.turnW hk); have HRow2 := Lib.hid (HRow.out.turnW (by have := HX0.out; omega) HTl.out hk); clear hk; obtain ⟨⟨c0, c1, c2, c3, c4, c5, c6, c7, c8⟩, ⟨f0, f1, f2, f3, f4, f5, f6, f7, f8⟩, hl⟩ := K2.out.q.2.1.1.open9; obtain ⟨t0, t1, t2, t3, t4, g0, g1, g2, g3, g4, gl⟩ := K2.out.q.1.1.open5))
              go_cut [66] (fun s66 wx => ∃ v' : Value, KG w wx [(T, tkC x.k (baOf x.t) x.n ln cl), (w.heap.size + 1, rr s i ln cl v' 0 ⟨#[]⟩ 0 0), (w.heap.size, flC 0 ⟨#[]⟩ 0 0)] ∧ Row x0 wx s.data.toList v' (A ++ [(x, i)]))
              case first =>
                have hT2 : T < y2.heap.size := K2.out.q.1.1.lt
                have hxT : x0.heap.size ≤ y2.heap.size := by have := HX0.out; omega
                have HXT := Lib.hid hxT
                have HA4 := Lib.hid hA
                clear hxT hA
                go_region_law (first
                  | (refine step_append_tok rfl (.tmp 63) (.tmp 65) rfl x0.heap.size (.slice a A.length cap) A.length (tkPs s.data.toList A) (by simp [Act.eval]) (HRow2.out.below (new1 _ _).drew) y2.heap.size [.int .i64 x.k, .string (baOf x.t), .int .i64 x.n, .int .i64 ln, .int .i64 cl] (by simp [Act.eval]) rfl (fun j u hu => new_cells y2 y2.heap.size rfl [.int .i64 x.k, .string (baOf x.t), .int .i64 x.n, .int .i64 ln, .int .i64 cl] 95 j u hu) (by intro u hu; simp at hu; rcases hu with rfl | rfl | rfl | rfl | rfl <;> rfl) (by have := HA4.out; omega) (by have := HXT.out; simp; omega) ?_
                     intro v' w3 hown hgrow
                     have hrow3 : Row x0 w3 s.data.toList v' (A ++ [(x, i)]) := by
                       unfold Row
                       rw [tkPs_snoc, tkC_at, HPP.out, List.length_append]
                       exact hown
                     obtain ⟨a3, cap3, rfl⟩ := hrow3.form
                     have HRow3 := Lib.hid hrow3
                     have K3 := Lib.hid ((K2.out.below (new1 y2 (.cells #[.int .i64 x.k, .string (baOf x.t), .int .i64 x.n, .int .i64 ln, .int .i64 cl] 95)).drew).grownOwn hgrow (fun k hk => by have h1 := (HRow2.out.lt k hk).1; have h2 := HX0.out; omega) (fun k hk q hq => by
                       have h1 := (HRow2.out.lt k hk).1
                       have h2 := HX0.out
                       have h3 := HTl.out k hk
                       simp only [List.mem_cons, List.not_mem_nil, or_false] at hq
                       rcases hq with rfl | rfl | rfl <;> (dsimp only; omega)))
                     clear hown hgrow hrow3
                     obtain ⟨⟨-, -, -, -, d4, -⟩, ⟨-, -, -, -, e4, -⟩, hl3⟩ := K3.out.q.2.1.1.open9))
                all_goals go_wp2_with fail
                all_goals go_meet
                all_goals exact ⟨_, K3.out.set2 4 _ (by simp), by
                  have h := HRow3.out.set (a := ⟨w.heap.size + 1, 4, none⟩) (by have := HX0.out; show w.heap.size + 1 < x0.heap.size; omega) (.slice a3 (A.length + 1) cap3)
                  rw [List.length_append] at h
                  exact h⟩
              case rest =>
                obtain ⟨v', hK3, hRow3⟩ := hcut
                clear K K2 HRow HRow2 HT HF HWR HTl c0 c1 c2 c3 c4 c5 c6 c7 c8 f0 f1 f2 f3 f4 f5 f6 f7 f8 hl t0 t1 t2 t3 t4 g0 g1 g2 g3 g4 gl
                have hfit2 : i + len ≤ s.size := by rw [List.length_drop] at hl2; have := HSZ.out; omega
                have HSTP := Lib.hid (refStep_ (w.heap.size + 1) s i len v' 0 ⟨#[]⟩ 0 0 _ (bl_place HPP.out hK3.q.2.1.1) hs hfit2)
                have K3 := Lib.hid hK3
                have HRow3 := Lib.hid hRow3
                clear hK3 hRow3
                go_wp2_with (first
                  | (go_at_call 83; (with_reducible refine HSTP.out.mono ?_); rintro e y5 ⟨rfl, hk⟩; have K4 := Lib.hid (K3.out.turn2 hk).tail; have HRow4 := Lib.hid (HRow3.out.turn (by have := HX0.out; omega) hk); clear hk))
                go_roundw
                case rel =>
                  refine ⟨A ++ [(x, i)], i + len, v', ?_, by simp; omega, hfit2, K4.out, HRow4.out⟩
                  have h := HST.out
                  rw [HI0.out] at h
                  exact h
                case measure =>
                  rw [atOf_rr K4.out.q.1.1, HA.out]
                  omega
      · obtain rfl : i = s.size := by omega
        have HST : Hid (lexS s.data.toList = (A, none)) := Lib.hid (HRest.out.stop (by rw [HI0.out]; exact List.drop_of_length_le (by have := HSZ.out; omega)))
        obtain ⟨z0, z1, z2, z3, y0, y1, y2, y3, yl⟩ := K1.out.q.2.1.1.open4
        go_wp2_with fail
        have K2 := K1.out.fill4_2 (.int .i64 0) (.string ⟨#[]⟩) (.int .i64 0) (.int .i64 0)
        have hx := HX0.out
        refine bodyPost_ret (results_rlex rfl _ rfl rfl K2.q.2.1.1) rfl ⟨K2.HB, ?_⟩
        rw [if_neg HSz.out, HST.out]
        refine ⟨_, rfl, Row.le (w0 := x0) ((((HRow1.out.set ?_ _).set ?_ _).set ?_ _).set ?_ _) (by omega)⟩ <;> (dsimp only; omega)
end Go.Proofs.YtpmppndhfljcpaaGreatDoor
