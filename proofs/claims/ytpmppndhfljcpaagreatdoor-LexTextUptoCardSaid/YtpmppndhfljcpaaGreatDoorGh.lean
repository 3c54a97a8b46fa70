/-
  Contracts of package lex: Lex, Same, Text.
-/
import Derived.Test.YtpmppndhfljcpaaGreatDoorLUa
import Derived.Test.YtpmppndhfljcpaaGreatDoorLUb
import Derived.Test.YtpmppndhfljcpaaGreatDoorLUc
import Derived.Lib.ItoaLen
import Derived.Defers
import Derived.Recover
import Derived.Tactics2
import Derived.Lib.SmallJoins
import Derived.BigQuiet
import Derived.Shelf.Strings.Builder1
namespace Go.Proofs.YtpmppndhfljcpaaGreatDoor
section
open Go.RowKit

theorem signs_short : ∀ t ∈ signs, t.length ≤ 30 := by decide
theorem quoB_len (t : Bs) : (quoB t).length ≤ 2 * t.length + 2 := by
  have h : ∀ t : Bs, (t.flatMap (fun c => if (c == 39) = true then [39, 39] else [c])).length ≤ 2 * t.length := by
    intro t
    induction t with
    | nil => simp
    | cons c r ih => rw [List.flatMap_cons, List.length_append]; split <;> simp only [List.length_cons, List.length_nil] <;> omega
  have := h t
  unfold quoB
  simp only [List.length_cons, List.length_append, List.length_nil]
  omega
theorem writ_short (x : Tk) (h : okT x = true) : (writ x).length ≤ 402 := by
  unfold okT at h
  simp only [Bool.or_eq_true, Bool.and_eq_true, beq_iff_eq, decide_eq_true_eq] at h
  unfold writ
  rcases h with (((h | h) | h) | h) | h
  · rw [if_neg (by simp [h.1.1]), if_neg (by simp [h.1.1])]
    have := h.2
    unfold isNameB at this
    simp only [Bool.and_eq_true, decide_eq_true_eq] at this
    omega
  · rw [if_neg (by simp [h.1.1]), if_neg (by simp [h.1.1])]
    have := words_short _ (List.contains_iff_mem.1 h.2)
    omega
  · rw [if_pos (by simp [h.1.1.1])]
    have := Lib.itoa_length_le x.n (by omega) (by omega)
    omega
  · rw [if_neg (by simp [h.1.1]), if_pos (by simp [h.1.1])]
    have h2 := quoB_len x.t
    have := h.2
    unfold okTxt at this
    simp only [Bool.and_eq_true, decide_eq_true_eq] at this
    omega
  · rw [if_neg (by simp [h.1.1]), if_neg (by simp [h.1.1])]
    have := signs_short _ (List.contains_iff_mem.1 h.2)
    omega
theorem tokR_short (l : Bs) (c : Int) (nm : Bs) (h : tokR l = .bad c nm) : nm.length ≤ 402 := by
  cases l with
  | nil => injection h with _ h; rw [← h]; simp
  | cons d r =>
    rw [tokR_cons] at h
    split at h
    · split at h
      · injection h with _ h; rw [← h, List.length_take]; omega
      · cases h
    · split at h
      · split at h
        · injection h with _ h; rw [← h, List.length_take]; omega
        · cases h
      · split at h
        · cases ht : textL r with
          | none => rw [ht] at h; injection h with _ h; rw [← h]; simp
          | some q =>
            rw [ht] at h
            simp only at h
            split at h
            · injection h with _ h; rw [← h]; simp
            · cases h
        · unfold signR at h
          split at h
          · cases h
          · split at h
            · cases h
            · injection h with _ h; rw [← h]; simp
theorem lexC_fault : ∀ (f : Nat) (l : Bs) (i k : Nat) (e : Int × Bs × Nat), (lexC f l i k).2 = some e → (e.1 = 21 ∨ e.1 = 10 ∨ e.1 = 3) ∧ e.2.1.length ≤ 402
  | 0, l, i, k, e, h => by simp [lexC] at h
  | f + 1, l, i, k, e, h => by
    unfold lexC at h
    split at h
    · cases h
    · rename_i hne
      split at h
      · rename_i c nm ht
        simp only [Option.some.injEq] at h
        subst h
        refine ⟨?_, tokR_short _ _ _ ht⟩
        rcases tokR_code _ _ _ (by intro q; rw [q] at hne; exact hne rfl) ht with q | q
        · exact .inl q
        · exact .inr (.inl q)
      · rename_i x len ht
        split at h
        · simp only [Option.some.injEq] at h
          subst h
          exact ⟨.inr (.inr rfl), writ_short _ (tokR_ok _ _ _ ht).1⟩
        · split at h
          · rename_i e' hr
            simp only [Option.some.injEq] at h
            subst h
            exact lexC_fault f _ _ _ _ (by rw [hr])
          · cases h
/-- The fault of anything that the reader raises. -/
theorem faultOf_ (R : Nat) (s : ByteArray) (k i ln st : Nat) (c : Int) (nm : ByteArray) (hc : c = 21 ∨ c = 10 ∨ c = 3) (w : World) (h : BL w R (rd s k i ln st)) (hi : i ≤ 4000000) (hst : st ≤ i) (hn : nm.size ≤ 4000000) :
    Calls Tryz.prog 77 #[.pointer (some ⟨R, 0, none⟩), .iface (faultT c) (.agg #[.string nm])] w fun e w' => e = .returned (flV c nm ln ((i : Int) - st + 1)) ∧ Below w.heap.size w w' := by
  rcases hc with rfl | rfl | rfl
  · exact faultOf_excess R s k i ln st nm w h hi hst hn
  · exact faultOf_stray R s k i ln st nm w h hi hst hn
  · exact faultOf_surplus R s k i ln st nm w h hi hst hn

/-- The third of the blocks is written. -/
theorem KG.set3 {w x : World} {a b d : Nat} {ca cb cs : List Value} {l : List (Nat × List Value)} (h : KG w x ((a, ca) :: (d, cb) :: (b, cs) :: l)) (i : Nat) (v : Value) (hi : i < cs.length) : KG w (x.setCell ⟨b, i, none⟩ v) ((a, ca) :: (d, cb) :: (b, cs.set i v) :: l) :=
  have h2 := h.tail.set2 i v hi
  ⟨h2.HB, ⟨h.q.1.1.other (Ne.symm (h.q.1.2.2 (b, cs) (by simp))) v, h.q.1.2.1, fun q hq => by
    rcases List.mem_cons.1 hq with rfl | hq
    · exact h.q.1.2.2 _ (by simp)
    · rcases List.mem_cons.1 hq with rfl | hq
      · exact h.q.1.2.2 (b, cs) (by simp)
      · exact h.q.1.2.2 q (by simp [hq])⟩, h2.q⟩
set_option maxRecDepth 100000 in
set_option maxHeartbeats 1000000 in
theorem catch_panic (w x : World) (R L F : Nat) (s : ByteArray) (k i ln st : Nat) (c : Int) (nm : ByteArray) (vl v0 v1 v2 v3 : Value) (hc : c = 21 ∨ c = 10 ∨ c = 3) (hi : i ≤ 4000000) (hst : st ≤ i) (hn : nm.size ≤ 4000000)
    (K : KG w x [(R, rd s k i ln st), (F, [v0, v1, v2, v3]), (L, [vl])]) :
    CallsD Tryz.prog 76 #[.pointer (some ⟨R, 0, none⟩), .pointer (some ⟨L, 0, none⟩), .pointer (some ⟨F, 0, none⟩)] (.panicking [{ v := .iface (faultT c) (.agg #[.string nm]), recovered := false }]) x fun e u' w' =>
      e = .returned (.tuple #[]) ∧ u' = .panicking [{ v := .iface (faultT c) (.agg #[.string nm]), recovered := true }] ∧ KG w w' [(R, rd s k i ln st), (F, flC c nm ln ((i : Int) - st + 1)), (L, [.slice none 0 0])] := by
  have HF := Lib.hid (faultOf_ R s k i ln st c nm hc x K.q.1.1 hi hst hn)
  have HK := Lib.hid K
  have hne1 : ¬ F = L := K.q.2.1.2.2 (L, [vl]) (by simp)
  have hne2 : ¬ L = F := Ne.symm hne1
  clear K
  refine callsD_of_wpS Tryz.func76 rfl fun c₀ cs hu => ?_
  simp only [Tryz.ntmps76, List.size_toArray, List.length_cons, List.length_nil, Nat.reduceAdd, Nat.reduceSub, Array.replicate_succ, Array.replicate_zero, List.push_toArray, List.append_toArray, List.nil_append, List.cons_append]
  apply wpS_seq
  apply wpS_region
  simp [wpOpsS, go_sem, recoverD, hu, Exit.thenS]
  refine wpS_of_wp ?_
  go_wp2_with (first | (go_at_call 77; refine HF.out.mono ?_; rintro e y ⟨rfl, hb⟩; have K3 := Lib.hid (HK.out.below hb); clear hb; obtain ⟨l0, lf, -⟩ := K3.out.q.2.2.1.1.open1; obtain ⟨t0, t1, t2, t3, g0, g1, g2, g3, -⟩ := K3.out.q.2.1.1.open4))
  have K4 := (K3.out.set3 0 (.slice none 0 0) (by simp)).fill4_2 (.int .i64 c) (.string nm) (.int .i64 ln) (.int .i64 ((i : Int) - st + 1))
  (try simp only [Exit.inBlock, Exit.then])
  exact ⟨rfl, _, rfl, _, results_none rfl _ _ _, rfl, rfl, K4⟩

theorem catch_idle (x : World) (R L F : Nat) :
    CallsD Tryz.prog 76 #[.pointer (some ⟨R, 0, none⟩), .pointer (some ⟨L, 0, none⟩), .pointer (some ⟨F, 0, none⟩)] .returning x fun e u' w' => e = .returned (.tuple #[]) ∧ u' = .returning ∧ w' = x := by
  refine callsD_of_wpS Tryz.func76 rfl fun c₀ cs hu => ?_
  simp only [Tryz.ntmps76, List.size_toArray, List.length_cons, List.length_nil, Nat.reduceAdd, Nat.reduceSub, Array.replicate_succ, Array.replicate_zero, List.push_toArray, List.append_toArray, List.nil_append, List.cons_append]
  apply wpS_seq
  apply wpS_region
  simp [wpOpsS, go_sem, recoverD, hu, Exit.thenS]
  refine wpS_of_wp ?_
  go_wp2
  cases c₀
  simp_all only
  exact ⟨rfl, _, rfl, _, results_none rfl _ _ _, rfl, rfl, rfl⟩
end
end Go.Proofs.YtpmppndhfljcpaaGreatDoor
namespace Go.Proofs.YtpmppndhfljcpaaGreatDoor
section
open Go.RowKit

/-- How Lex ends. -/
def LexEnds (w : World) (s : ByteArray) (e : Ending) (w' : World) : Prop :=
  Below w.heap.size w w' ∧ (if 20000 < s.size then e = .returned (.tuple #[.slice none 0 0, flV 3 ⟨#[]⟩ 0 0]) else
    match lexS s.data.toList with
    | (_, some q) => e = .returned (.tuple #[.slice none 0 0, flV q.1 (baOf q.2.1) (placeP (s.data.toList.take q.2.2)).1 (placeP (s.data.toList.take q.2.2)).2])
    | (A, none) => ∃ v, e = .returned (.tuple #[v, flV 0 ⟨#[]⟩ 0 0]) ∧ Row w w' s.data.toList v A)
theorem Row.grow {w x y : World} {s : Bs} {v : Value} {A : List (Tk × Nat)} (h : Row w x s v A) (hb : Below x.heap.size x y) : Row w y s v A := h.below hb
theorem results_lex {fn : Func} {p q : Tmp} (h : fn.results = #[.cell p 43, .cell q 45]) (tmps : Array Value) {L F : Nat} (hp : tmps.getD p undef = .pointer (some ⟨L, 0, none⟩)) (hq : tmps.getD q undef = .pointer (some ⟨F, 0, none⟩))
    {z : World} {v : Value} {c ln cl : Int} {nm : ByteArray} (h1 : BL z L [v]) (h4 : BL z F (flC c nm ln cl)) : (results fn tmps).run Tryz.prog z = .ok (.tuple #[v, flV c nm ln cl]) z := by
  obtain ⟨z0, z1, z2, z3, -⟩ := h4.open4
  obtain ⟨y0, -⟩ := h1.open1
  simp only [Array.getD_eq_getD_getElem?] at hp hq
  simp [results, h, hp, hq, go_sem, z0, z1, z2, z3, y0]
set_option maxRecDepth 100000 in
set_option maxHeartbeats 1000000 in
theorem lex_bad (s : ByteArray) (w : World) (E : Env w) (hs : s.size ≤ 4000000) (hsz : s.size ≤ 20000) (A : List (Tk × Nat)) (c : Int) (nm : Bs) (i : Nat) (hL : lexS s.data.toList = (A, some (c, nm, i))) :
    Calls Tryz.prog 28 #[.string s] w fun e w' => Below w.heap.size w w' ∧ e = .returned (.tuple #[.slice none 0 0, flV c (baOf nm) (placeP (s.data.toList.take i)).1 (placeP (s.data.toList.take i)).2]) := by
  have hmf : ∀ (fn : Fn) (first cap : Array Value) (w : World), (Instr.makeFunc fn first cap).run Tryz.prog w = .ok (.func fn first cap) w := fun _ _ _ _ => rfl
  have K0 := Lib.hid ((((KG.refl w).push' w.heap.size rfl [.slice none 0 0] 43).push' (w.heap.size + 1) (by simp) (flC 0 ⟨#[]⟩ 0 0) 45).push' (w.heap.size + 1 + 1) (by simp) [.string s, .int .i64 0, .int .i64 0, .int .i64 1, .int .i64 0] 97)
  have HT := Lib.hid (tokens_ (w.heap.size + 1 + 1) s _ K0.out.q.1.1 hs (E.below K0.out.HB) (E.off K0.out.q.1.2.1))
  have HL := Lib.hid hL
  have HF := Lib.hid (lexC_fault _ s.data.toList 0 0 (c, nm, i) (by show (lexS s.data.toList).2 = _; rw [hL]))
  have HSZ := Lib.hid hsz
  have hif : decide ((20000 : Int) < s.size) = false := by simp; omega
  clear hL hsz
  go_enter_defers Tryz.func28, Tryz.ntmps28
  go_wp2_with (first
    | (go_at_call 78; (with_reducible refine HT.out.mono ?_); intro e y hq; unfold TokensEnds at hq; rw [HL.out] at hq; obtain ⟨ln, st, hp, rfl, k, hk⟩ := hq))
  have K1 := K0.out.turn hk.g hk.r
  refine leaves_cons (f := 76) (args := #[.pointer (some ⟨w.heap.size + 1 + 1, 0, none⟩), .pointer (some ⟨w.heap.size, 0, none⟩), .pointer (some ⟨w.heap.size + 1, 0, none⟩)]) (by simp) (by simp [go_sem]) ?_
  refine (catch_panic w y _ _ _ s k i ln st c (baOf nm) _ _ _ _ _ HF.out.1 (by have h1 := hp.2.1; have h2 : s.data.toList.length = s.size := (by simp); omega) hp.1 (by rw [baOf_size]; have := HF.out.2; show nm.length ≤ 4000000; exact Nat.le_trans this (by decide)) K1).mono ?_
  rintro e u' w' ⟨rfl, rfl, K2⟩
  exact ⟨_, results_lex rfl _ rfl rfl K2.q.2.2.1.1 K2.q.2.1.1, K2.HB, by rw [hp.2.2.2.2]⟩
theorem Row.set {w x : World} {s : Bs} {v : Value} {A : List (Tk × Nat)} (h : Row w x s v A) {a : Addr} (ha : a.block < w.heap.size) (u : Value) : Row w (x.setCell a u) s v A := ownsRow_setCell_below h ha u
theorem Row.le {w w0 x : World} {s : Bs} {v : Value} {A : List (Tk × Nat)} (h : Row w0 x s v A) (hl : w.heap.size ≤ w0.heap.size) : Row w x s v A := Go.Joins.ownsRow_le h hl
set_option maxRecDepth 100000 in
set_option maxHeartbeats 1000000 in
theorem lex_good (s : ByteArray) (w : World) (E : Env w) (hs : s.size ≤ 4000000) (hsz : s.size ≤ 20000) (A : List (Tk × Nat)) (hL : lexS s.data.toList = (A, none)) :
    Calls Tryz.prog 28 #[.string s] w fun e w' => Below w.heap.size w w' ∧ ∃ v, e = .returned (.tuple #[v, flV 0 ⟨#[]⟩ 0 0]) ∧ Row w w' s.data.toList v A := by
  have hmf : ∀ (fn : Fn) (first cap : Array Value) (w : World), (Instr.makeFunc fn first cap).run Tryz.prog w = .ok (.func fn first cap) w := fun _ _ _ _ => rfl
  have K0 := Lib.hid ((((KG.refl w).push' w.heap.size rfl [.slice none 0 0] 43).push' (w.heap.size + 1) (by simp) (flC 0 ⟨#[]⟩ 0 0) 45).push' (w.heap.size + 1 + 1) (by simp) [.string s, .int .i64 0, .int .i64 0, .int .i64 1, .int .i64 0] 97)
  have HT := Lib.hid (tokens_ (w.heap.size + 1 + 1) s _ K0.out.q.1.1 hs (E.below K0.out.HB) (E.off K0.out.q.1.2.1))
  have HL := Lib.hid hL
  have HSZ := Lib.hid hsz
  have hif : decide ((20000 : Int) < s.size) = false := by simp; omega
  have hne1 : ¬ w.heap.size + 1 = w.heap.size := by omega
  clear hL hsz
  go_enter_defers Tryz.func28, Tryz.ntmps28
  go_wp2_with (first
    | (go_at_call 78; (with_reducible refine HT.out.mono ?_); intro e y hq; unfold TokensEnds at hq; rw [HL.out] at hq; obtain ⟨v, i, fr, ln, st, rfl, hk, hr⟩ := hq; obtain ⟨sa, cap, rfl⟩ := hr.form; have K1 := Lib.hid (K0.out.turn hk.g hk.r); have HR := Lib.hid hr; clear hk hr; obtain ⟨l0, lf, -⟩ := K1.out.q.2.2.1.1.open1; obtain ⟨t0, t1, t2, t3, g0, g1, g2, g3, -⟩ := K1.out.q.2.1.1.open4))
  have K2 := (K1.out.set3 0 (.slice sa A.length cap) (by simp)).fill4_2 (.int .i64 0) (.string ⟨#[]⟩) (.int .i64 0) (.int .i64 0)
  refine leaves_cons (f := 76) (args := #[.pointer (some ⟨w.heap.size + 1 + 1, 0, none⟩), .pointer (some ⟨w.heap.size, 0, none⟩), .pointer (some ⟨w.heap.size + 1, 0, none⟩)]) (by simp) (by simp [go_sem]) ?_
  refine (catch_idle _ _ _ _).mono ?_
  rintro e u' w' ⟨rfl, rfl, rfl⟩
  refine ⟨_, results_lex rfl _ rfl rfl K2.q.2.2.1.1 K2.q.2.1.1, K2.HB, _, rfl, ?_⟩
  have hsz3 : (((w.alloc (.cells #[.slice none 0 0] 43)).alloc (.cells (flC 0 ⟨#[]⟩ 0 0).toArray 45)).alloc (.cells #[.string s, .int .i64 0, .int .i64 0, .int .i64 1, .int .i64 0] 97)).heap.size = w.heap.size + 1 + 1 + 1 := by simp
  refine Row.le (((((HR.out.set ?_ _).set ?_ _).set ?_ _).set ?_ _).set ?_ _) (by omega) <;> (rw [hsz3]; dsimp only; omega)
theorem lex_ (s : ByteArray) (w : World) (E : Env w) (hs : s.size ≤ 4000000) : Calls Tryz.prog 28 #[.string s] w (LexEnds w s) := by
  by_cases hsz : s.size ≤ 20000
  · cases hL : lexS s.data.toList with
    | mk A o =>
      cases o with
      | none =>
        refine (lex_good s w E hs hsz A hL).mono fun e w' hq => ?_
        unfold LexEnds
        rw [if_neg (by omega), hL]
        exact hq
      | some q =>
        obtain ⟨c, nm, i⟩ := q
        refine (lex_bad s w E hs hsz A c nm i hL).mono fun e w' hq => ?_
        unfold LexEnds
        rw [if_neg (by omega), hL]
        exact hq
  · have K0 := Lib.hid (((KG.refl w).push' w.heap.size rfl [.slice none 0 0] 43).push' (w.heap.size + 1) (by simp) (flC 3 ⟨#[]⟩ 0 0) 45)
    have hif : decide ((20000 : Int) < s.size) = true := by simp; omega
    go_enter_defers Tryz.func28, Tryz.ntmps28
    go_wp2_with fail
    refine ⟨_, results_lex rfl _ rfl rfl K0.out.q.2.1.1 K0.out.q.1.1, K0.out.HB, ?_⟩
    rw [if_pos (by omega)]
end
end Go.Proofs.YtpmppndhfljcpaaGreatDoor
namespace Go.Proofs.YtpmppndhfljcpaaGreatDoor
section
open Go.RowKit

/-- A token of the program. -/
structure Tv where
  k : Int
  t : ByteArray
  n : Int
  ln : Int
  cl : Int
abbrev Tv.val (v : Tv) : Value := tkV v.k v.t v.n v.ln v.cl
/-- What Same compares. -/
def Tv.key (v : Tv) : Int × ByteArray × Int := (v.k, v.t, v.n)
/-- The slice at A, of as many tokens as l has, holds just these. -/
def SlT (w : World) (A : Option Addr) (l : List Tv) : Prop :=
  ∀ (i : Nat) (v : Tv), l[i]? = some v → ∃ b off, A = some ⟨b, off, none⟩ ∧ b < w.heap.size ∧
    (w.cell? ⟨b, off + i * 5, none⟩ = some (.int .i64 v.k) ∧ w.cell? ⟨b, off + i * 5 + 1, none⟩ = some (.string v.t) ∧ w.cell? ⟨b, off + i * 5 + 2, none⟩ = some (.int .i64 v.n) ∧
      w.cell? ⟨b, off + i * 5 + 3, none⟩ = some (.int .i64 v.ln) ∧ w.cell? ⟨b, off + i * 5 + 4, none⟩ = some (.int .i64 v.cl))
theorem SlT.below {w w' : World} {A : Option Addr} {l : List Tv} (h : SlT w A l) (hb : Below w.heap.size w w') : SlT w' A l := by
  intro i v hv
  obtain ⟨b, off, hA, hlt, h0, h1, h2, h3, h4⟩ := h i v hv
  exact ⟨b, off, hA, Nat.lt_of_lt_of_le hlt hb.size, (hb.cell (p := ⟨b, _, none⟩) hlt).trans h0, (hb.cell (p := ⟨b, _, none⟩) hlt).trans h1, (hb.cell (p := ⟨b, _, none⟩) hlt).trans h2,
    (hb.cell (p := ⟨b, _, none⟩) hlt).trans h3, (hb.cell (p := ⟨b, _, none⟩) hlt).trans h4⟩
theorem SlT.nil (w : World) (A : Option Addr) : SlT w A [] := by intro i v h; simp at h
theorem toList_beq (s t : ByteArray) : (s.toList == t.toList) = decide (s = t) := by
  rw [Bool.eq_iff_iff, beq_iff_eq, decide_eq_true_eq]
  exact ⟨toList_eq, fun h => by rw [h]⟩
set_option maxRecDepth 100000 in
theorem same1_ (a b : Tv) (w : World) :
    Calls Tryz.prog 90 #[a.val, b.val] w fun e w' => ∃ q : Bool, e = .returned (.bool q) ∧ (q = true ↔ a.key = b.key) ∧ Below w.heap.size w w' := by
  obtain ⟨ak, at', an, aln, acl⟩ := a
  obtain ⟨bk, bt, bn, bln, bcl⟩ := b
  have KS := Lib.hid (((KG.refl w).push' w.heap.size rfl (tkC ak at' an aln acl) 95).push' (w.heap.size + 1) (by simp) (tkC bk bt bn bln bcl) 95)
  have HI : Hid (({ k := ak, t := at', n := an, ln := aln, cl := acl } : Tv).key = ({ k := bk, t := bt, n := bn, ln := bln, cl := bcl } : Tv).key ↔ (ak == bk) = true ∧ (at'.toList == bt.toList) = true ∧ (an == bn) = true) := Lib.hid (by
    simp only [Tv.key, Prod.mk.injEq, beq_iff_eq]
    exact ⟨fun ⟨a, b, c⟩ => ⟨a, by rw [b], c⟩, fun ⟨a, b, c⟩ => ⟨a, toList_eq b, c⟩⟩)
  cases h1 : ak == bk
  · go_enter Tryz.func90, Tryz.ntmps90
    go_wp2_with fail
    go_ret
    exact ⟨_, rfl, by rw [HI.out, h1]; simp, KS.out.HB⟩
  cases h2 : at'.toList == bt.toList
  · go_enter Tryz.func90, Tryz.ntmps90
    go_wp2_with fail
    go_ret
    exact ⟨_, rfl, by rw [HI.out, h2]; simp, KS.out.HB⟩
  cases h3 : an == bn
  all_goals
    go_enter Tryz.func90, Tryz.ntmps90
    go_wp2_with fail
    go_ret
    exact ⟨_, rfl, by rw [HI.out, h1, h2, h3]; simp, KS.out.HB⟩
/-- Two rows are the same but for their positions. -/
def SameL (l m : List Tv) : Prop := l.map Tv.key = m.map Tv.key
theorem sameL_len {l m : List Tv} (h : SameL l m) : l.length = m.length := by have := congrArg List.length h; simpa using this
theorem sameL_take {l m : List Tv} {k : Nat} (h : SameL (l.take k) (m.take k)) (hl : k < l.length) (hm : k < m.length) : SameL (l.take (k + 1)) (m.take (k + 1)) ↔ l[k].key = m[k].key := by
  unfold SameL at h ⊢
  rw [List.take_succ_eq_append_getElem hl, List.take_succ_eq_append_getElem hm, List.map_append, List.map_append, h]
  simp
theorem sameL_sub {l m : List Tv} (h : SameL l m) (k : Nat) : SameL (l.take k) (m.take k) := by
  unfold SameL at h ⊢
  rw [List.map_take, List.map_take, h]
set_option maxRecDepth 100000 in
set_option maxHeartbeats 1000000 in
theorem equal_ (A B : Option Addr) (c d : Nat) (l m : List Tv) (w : World) (hl : l.length ≤ 4398046511000) (ha : SlT w A l) (hb : SlT w B m) :
    Calls Tryz.prog 89 #[.slice A l.length c, .slice B m.length d, .func (Fn.func 90) #[] #[]] w
      fun e w' => ∃ q : Bool, e = .returned (.bool q) ∧ (q = true ↔ SameL l m) ∧ Below w.heap.size w w' := by
  have HA := Lib.hid ha
  have HBm := Lib.hid hb
  clear ha hb
  cases hne : ((l.length : Int) != (m.length : Int))
  case true =>
    have hlen : ¬ l.length = m.length := by intro e; rw [e] at hne; simp at hne
    go_enter Tryz.func89, Tryz.ntmps89
    go_wp2_with fail
    go_ret
    exact ⟨_, rfl, by simp; intro h; exact hlen (sameL_len h), Below.refl _ _⟩
  case false =>
    have HLEN : Hid (l.length = m.length) := Lib.hid (by simp at hne; omega)
    go_enter Tryz.func89, Tryz.ntmps89
    go_wp2_with fail
    clear hne
    go_loopw [17] (fun i x => ∃ k : Nat, k ≤ l.length ∧ i = .int .i64 k ∧ SameL (l.take k) (m.take k) ∧ Below w.heap.size w x) (fun i x => l.length - (intOf i).toNat)
    case atStart => exact ⟨0, Nat.zero_le _, rfl, rfl, Below.refl _ _⟩
    case round =>
      obtain ⟨k, hk, rfl, hS, hB⟩ := hrel
      have HB := Lib.hid hB
      have HS := Lib.hid hS
      clear hB hS
      by_cases hlt : k < l.length
      · have hltm : k < m.length := by have := HLEN.out; omega
        obtain ⟨b, off, rfl, hb, c0, c1, c2, c3, c4⟩ := (HA.out.below HB.out) k _ (List.getElem?_eq_getElem hlt)
        obtain ⟨b', off', rfl, hb', d0, d1, d2, d3, d4⟩ := (HBm.out.below HB.out) k _ (List.getElem?_eq_getElem hltm)
        have HT := Lib.hid (sameL_take HS.out hlt hltm)
        by_cases hkey : l[k].key = m[k].key
        · have HC : Hid (∀ x, Calls Tryz.prog 90 #[l[k].val, m[k].val] x fun e w' => e = .returned (.bool true) ∧ Below x.heap.size x w') :=
            Lib.hid fun x => (same1_ l[k] m[k] x).mono fun e w' hq => by
              obtain ⟨q, rfl, h1, h2⟩ := hq
              rw [h1.2 hkey]; exact ⟨rfl, h2⟩
          go_wp2_with (first | (go_at_call 90; (with_reducible refine (HC.out _).mono ?_); rintro e y ⟨rfl, hb⟩; have HB2 := Lib.hid ((((HB.out.alloc HB.out.size _).alloc (by simp; have := HB.out.size; omega) _).trans (hb.mono (by simp; have := HB.out.size; omega)))); clear hb))
          go_roundw
          case rel => exact ⟨k + 1, by omega, by go_num, HT.out.2 hkey, HB2.out⟩
          case measure => simp [intOf]; omega
        · have HC : Hid (∀ x, Calls Tryz.prog 90 #[l[k].val, m[k].val] x fun e w' => e = .returned (.bool false) ∧ Below x.heap.size x w') :=
            Lib.hid fun x => (same1_ l[k] m[k] x).mono fun e w' hq => by
              obtain ⟨q, rfl, h1, h2⟩ := hq
              cases q
              · exact ⟨rfl, h2⟩
              · exact absurd (h1.1 rfl) hkey
          go_wp2_with (first | (go_at_call 90; (with_reducible refine (HC.out _).mono ?_); rintro e y ⟨rfl, hb⟩; have HB2 := Lib.hid ((((HB.out.alloc HB.out.size _).alloc (by simp; have := HB.out.size; omega) _).trans (hb.mono (by simp; have := HB.out.size; omega)))); clear hb))
          go_ret
          exact ⟨_, rfl, by simp; intro h; exact hkey (HT.out.1 (sameL_sub h (k + 1))), HB2.out⟩
      · go_wp2_with fail
        go_ret
        refine ⟨_, rfl, ?_, HB.out⟩
        have e1 : l.take k = l := List.take_of_length_le (by omega)
        have e2 : m.take k = m := List.take_of_length_le (by have := HLEN.out; omega)
        have := HS.out
        rw [e1, e2] at this
        simp [this]
/-- Same, of any rows. -/
theorem lexSame_ (A B : Option Addr) (c d : Nat) (l m : List Tv) (w : World) (hl : l.length ≤ 4398046511000) (ha : SlT w A l) (hb : SlT w B m) :
    Calls Tryz.prog 32 #[.slice A l.length c, .slice B m.length d] w fun e w' => ∃ q : Bool, e = .returned (.bool q) ∧ (q = true ↔ SameL l m) ∧ Below w.heap.size w w' := by
  have H := Lib.hid (equal_ A B c d l m w hl ha hb)
  clear ha hb
  go_enter Tryz.func32, Tryz.ntmps32
  go_wp2_with (first | (go_at_call 89; (with_reducible refine H.out.mono ?_); rintro e y ⟨q, rfl, h1, h2⟩))
  go_ret
  exact ⟨q, rfl, h1, h2⟩
end
end Go.Proofs.YtpmppndhfljcpaaGreatDoor
namespace Go.Proofs.YtpmppndhfljcpaaGreatDoor
section
open Go.RowKit Go.Lib

def blRen : Go.Shelf.Ren := ⟨fun | 166 => 87 | 167 => 86 | 169 => 88 | 170 => 85 | 240 => 136 | 276 => 187 | n => n, fun | 0 => 0 | 3 => 3 | 4 => 4 | 5 => 5 | 9 => 9 | 20 => 20 | 37 => 84 | 70 => 108 | 72 => 110 | 75 => 115 | 80 => 119 | 127 => 150 | 164 => 178 | n => n, fun | n => n⟩
theorem bl166 : Go.Proofs.Lays.n166 Tryz.prog blRen := {
  mixed := by kernel_rfl
  f166 := Tryz.func87.trans (congrArg some (by kernel_rfl))
  f240 := Tryz.func136.trans (congrArg some (by kernel_rfl))
  f276 := Tryz.func187.trans (congrArg some (by kernel_rfl))
  t0 := Tryz.underlying0
  a0 := Tryz.isAgg0
  z0 := Tryz.sizeOf0
  v0 := Tryz.zeroValue0
  t3 := Tryz.underlying3
  a3 := Tryz.isAgg3
  z3 := Tryz.sizeOf3
  v3 := Tryz.zeroValue3
  t4 := Tryz.underlying4
  a4 := Tryz.isAgg4
  z4 := Tryz.sizeOf4
  v4 := Tryz.zeroValue4
  t9 := Tryz.underlying9
  a9 := Tryz.isAgg9
  z9 := Tryz.sizeOf9
  v9 := Tryz.zeroValue9
  t20 := Tryz.underlying20
  a20 := Tryz.isAgg20
  z20 := Tryz.sizeOf20
  v20 := Tryz.zeroValue20
  t37 := Tryz.underlying84
  a37 := Tryz.isAgg84
  z37 := Tryz.sizeOf84
  v37 := Tryz.zeroValue84
  t70 := Tryz.underlying108
  a70 := Tryz.isAgg108
  z70 := Tryz.sizeOf108
  v70 := Tryz.zeroValue108
  t72 := Tryz.underlying110
  a72 := Tryz.isAgg110
  z72 := Tryz.sizeOf110
  v72 := Tryz.zeroValue110
  t75 := Tryz.underlying115
  a75 := Tryz.isAgg115
  z75 := Tryz.sizeOf115
  v75 := Tryz.zeroValue115
  t164 := Tryz.underlying178
  a164 := Tryz.isAgg178
  z164 := Tryz.sizeOf178
  v164 := Tryz.zeroValue178 }
theorem bl167 : Go.Proofs.Lays.n167 Tryz.prog blRen := {
  mixed := by kernel_rfl
  f167 := Tryz.func86.trans (congrArg some (by kernel_rfl))
  f240 := Tryz.func136.trans (congrArg some (by kernel_rfl))
  f276 := Tryz.func187.trans (congrArg some (by kernel_rfl))
  t0 := Tryz.underlying0
  a0 := Tryz.isAgg0
  z0 := Tryz.sizeOf0
  v0 := Tryz.zeroValue0
  t4 := Tryz.underlying4
  a4 := Tryz.isAgg4
  z4 := Tryz.sizeOf4
  v4 := Tryz.zeroValue4
  t5 := Tryz.underlying5
  a5 := Tryz.isAgg5
  z5 := Tryz.sizeOf5
  v5 := Tryz.zeroValue5
  t9 := Tryz.underlying9
  a9 := Tryz.isAgg9
  z9 := Tryz.sizeOf9
  v9 := Tryz.zeroValue9
  t20 := Tryz.underlying20
  a20 := Tryz.isAgg20
  z20 := Tryz.sizeOf20
  v20 := Tryz.zeroValue20
  t37 := Tryz.underlying84
  a37 := Tryz.isAgg84
  z37 := Tryz.sizeOf84
  v37 := Tryz.zeroValue84
  t70 := Tryz.underlying108
  a70 := Tryz.isAgg108
  z70 := Tryz.sizeOf108
  v70 := Tryz.zeroValue108
  t72 := Tryz.underlying110
  a72 := Tryz.isAgg110
  z72 := Tryz.sizeOf110
  v72 := Tryz.zeroValue110
  t75 := Tryz.underlying115
  a75 := Tryz.isAgg115
  z75 := Tryz.sizeOf115
  v75 := Tryz.zeroValue115
  t164 := Tryz.underlying178
  a164 := Tryz.isAgg178
  z164 := Tryz.sizeOf178
  v164 := Tryz.zeroValue178 }
theorem bl169 : Go.Proofs.Lays.n169 Tryz.prog blRen := {
  mixed := by kernel_rfl
  f169 := Tryz.func88.trans (congrArg some (by kernel_rfl))
  t0 := Tryz.underlying0
  a0 := Tryz.isAgg0
  z0 := Tryz.sizeOf0
  v0 := Tryz.zeroValue0
  t3 := Tryz.underlying3
  a3 := Tryz.isAgg3
  z3 := Tryz.sizeOf3
  v3 := Tryz.zeroValue3
  t9 := Tryz.underlying9
  a9 := Tryz.isAgg9
  z9 := Tryz.sizeOf9
  v9 := Tryz.zeroValue9
  t37 := Tryz.underlying84
  a37 := Tryz.isAgg84
  z37 := Tryz.sizeOf84
  v37 := Tryz.zeroValue84
  t70 := Tryz.underlying108
  a70 := Tryz.isAgg108
  z70 := Tryz.sizeOf108
  v70 := Tryz.zeroValue108
  t72 := Tryz.underlying110
  a72 := Tryz.isAgg110
  z72 := Tryz.sizeOf110
  v72 := Tryz.zeroValue110
  t127 := Tryz.underlying150
  a127 := Tryz.isAgg150
  z127 := Tryz.sizeOf150
  v127 := Tryz.zeroValue150 }
theorem bl170 : Go.Proofs.Lays.n170 Tryz.prog blRen := {
  mixed := by kernel_rfl
  f170 := Tryz.func85.trans (congrArg some (by kernel_rfl))
  t0 := Tryz.underlying0
  a0 := Tryz.isAgg0
  z0 := Tryz.sizeOf0
  v0 := Tryz.zeroValue0
  t3 := Tryz.underlying3
  a3 := Tryz.isAgg3
  z3 := Tryz.sizeOf3
  v3 := Tryz.zeroValue3
  t37 := Tryz.underlying84
  a37 := Tryz.isAgg84
  z37 := Tryz.sizeOf84
  v37 := Tryz.zeroValue84
  t70 := Tryz.underlying108
  a70 := Tryz.isAgg108
  z70 := Tryz.sizeOf108
  v70 := Tryz.zeroValue108
  t72 := Tryz.underlying110
  a72 := Tryz.isAgg110
  z72 := Tryz.sizeOf110
  v72 := Tryz.zeroValue110 }
theorem blX : Builder.Extra Tryz.prog blRen := {
  sizeBuilder := by kernel_rfl
  liesBuilder := by kernel_rfl
  t5 := Tryz.underlying5
  a5 := Tryz.isAgg5
  z5 := Tryz.sizeOf5
  v5 := Tryz.zeroValue5
  infoByte := by kernel_rfl
  cellsByte := by kernel_rfl
  sizeByte := by kernel_rfl
  neB5 := by decide }
/-- A builder of the call's own, with its bytes. -/
def Bd (B b : Nat) (l : List UInt8) (w : World) : Prop := Lib.IsBuilder 110 5 B b (Lib.byteCells l) w
theorem byteCells_len (l : List UInt8) : (Lib.byteCells l).length = l.length := by simp [Lib.byteCells]
theorem bdLen (B b : Nat) (l : List UInt8) (w : World) (h : Bd B b l w) : Calls Tryz.prog 85 #[.pointer (some ⟨b, 0, none⟩)] w fun e w' => e = .returned (.int .i64 l.length) ∧ w' = w := by
  have := Any.Builder_Len bl170 B b (Lib.byteCells l) w h
  rw [byteCells_len] at this
  exact this
theorem bdByte (B b : Nat) (l : List UInt8) (c : UInt8) (w : World) (h : Bd B b l w) (hlen : l.length + 1 ≤ 140737488355328) (hBw : B ≤ w.heap.size) :
    Calls Tryz.prog 86 #[.pointer (some ⟨b, 0, none⟩), .int .u8 c.toNat] w fun e w' => e = .returned .nilIface ∧ Bd B b (l ++ [c]) w' ∧ Below B w w' :=
  (Any.Builder_WriteByte bl167 blX B b (Lib.byteCells l) c.toNat w h (by rw [byteCells_len]; exact hlen) hBw).mono fun e w' ⟨h1, h2, h3⟩ => ⟨h1, .inr (by
    have e : Lib.byteCells (l ++ [c]) = Lib.byteCells l ++ [.int .u8 c.toNat] := by simp [Lib.byteCells]
    rw [e]; exact h2), h3⟩
theorem bdString (B b : Nat) (l : List UInt8) (s : ByteArray) (w : World) (h : Bd B b l w) (hlen : l.length + s.size ≤ 140737488355328) (hBw : B ≤ w.heap.size) :
    Calls Tryz.prog 87 #[.pointer (some ⟨b, 0, none⟩), .string s] w fun e w' => e = .returned (.tuple #[.int .i64 s.size, .nilIface]) ∧ Bd B b (l ++ s.data.toList) w' ∧ Below B w w' :=
  (Any.Builder_WriteString bl166 blX B b (Lib.byteCells l) s w h (by rw [byteCells_len]; exact hlen) hBw).mono fun e w' ⟨h1, h2, h3⟩ => ⟨h1, .inr (by
    have e : Lib.byteCells (l ++ s.data.toList) = Lib.byteCells l ++ Lib.strCells s := by simp [Lib.byteCells, Lib.strCells]
    rw [e]; exact h2), h3⟩
theorem bdDone (B b : Nat) (l : List UInt8) (w : World) (h : Bd B b l w) (hBw : B ≤ w.heap.size) :
    Calls Tryz.prog 88 #[.pointer (some ⟨b, 0, none⟩)] w fun e w' => e = .returned (.string ⟨l.toArray⟩) ∧ Below B w w' := Any.Builder_String_any bl169 blX B b l w h hBw
theorem Bd.fresh (w : World) : Bd w.heap.size w.heap.size [] (w.alloc (.cells #[.pointer none, .slice none 0 0] 110)) := Lib.fresh_isBuilder 110 5 w
theorem Bd.below {B b : Nat} {l : List UInt8} {w w' : World} (h : Bd B b l w) (hb : Below w.heap.size w w') : Bd B b l w' := by
  have key : ∀ p, Lib.BuilderAt 110 5 B b p (Lib.byteCells l) w → Lib.BuilderAt 110 5 B b p (Lib.byteCells l) w' := by
    intro p q
    have hlt := q.lt
    obtain ⟨h1, v, h2, h3, h4⟩ := q
    exact ⟨h1, v, (hb.block b hlt).trans h2, World.ownsRow.kept h3 (row := none) ⟨hb.os, hb.tape, hb.output, hb.size, fun k hk _ => hb.block k hk⟩ (by
      cases hv : v.ownBlock with
      | none => exact .inl rfl
      | some g => exact .inr (by simp)), h4⟩
  rcases h with h | h
  · exact .inl (key _ h)
  · exact .inr (key _ h)
end
end Go.Proofs.YtpmppndhfljcpaaGreatDoor
namespace Go.Proofs.YtpmppndhfljcpaaGreatDoor
section
open Go.RowKit

/-- A token without its position. -/
def Tv.tk (v : Tv) : Tk := ⟨v.k, v.t.data.toList, v.n⟩
theorem joinW_snoc : ∀ (xs : List Tk) (x : Tk), joinW (xs ++ [x]) = joinW xs ++ ((if xs.isEmpty = true then [] else [32]) ++ writ x)
  | [], x => rfl
  | [y], x => by simp [joinW]
  | y :: z :: r, x => by
    have := joinW_snoc (z :: r) x
    simp only [List.cons_append] at this
    simp only [List.cons_append, joinW, this]
    simp
def joinT (l : List Tv) : Bs := joinW (l.map Tv.tk)
def okL (l : List Tv) : Bool := l.all fun v => okT v.tk
theorem joinT_take (l : List Tv) (k : Nat) (hk : k < l.length) : joinT (l.take (k + 1)) = joinT (l.take k) ++ ((if (k == 0) = true then [] else [32]) ++ writ l[k].tk) := by
  unfold joinT
  rw [List.take_succ_eq_append_getElem hk, List.map_append, List.map_cons, List.map_nil, joinW_snoc]
  have e : ((l.take k).map Tv.tk).isEmpty = (k == 0) := by
    cases k with
    | zero => rfl
    | succ n =>
      cases l with
      | nil => simp at hk
      | cons a r => rfl
  rw [e]
theorem okL_take (l : List Tv) (k : Nat) (hk : k < l.length) : okL (l.take (k + 1)) = (okL (l.take k) && okT l[k].tk) := by
  unfold okL
  rw [List.take_succ_eq_append_getElem hk, List.all_append]
  simp
theorem okL_no (l : List Tv) (k : Nat) (hk : k < l.length) (h : okT l[k].tk = false) : okL l = false := by
  unfold okL
  rw [List.all_eq_false]
  exact ⟨l[k], List.getElem_mem hk, by simp [h]⟩
/-- What Text returns. -/
def textS (l : List Tv) : ByteArray × Int := if okL l = true then (if 20000 < (joinT l).length then (⟨#[]⟩, 3) else (baOf (joinT l), 0)) else (⟨#[]⟩, 2)
/-- What the builder holds of J. -/
def Held (J b : Bs) : Prop := (J.length ≤ 20000 → b = J) ∧ (20000 < J.length → 20000 < b.length) ∧ b.length ≤ 20500
theorem Held.more {J b s : Bs} (h : Held J b) (hb : b.length ≤ 20000) (hs : s.length ≤ 403) : Held (J ++ s) (b ++ s) := by
  have hJ : J.length ≤ 20000 := by
    rcases Nat.lt_or_ge 20000 J.length with q | q
    · have := h.2.1 q; omega
    · exact q
  have e := h.1 hJ
  subst e
  exact ⟨fun _ => rfl, fun q => q, by rw [List.length_append]; omega⟩
theorem Held.full {J b s : Bs} (h : Held J b) (hb : 20000 < b.length) : Held (J ++ s) b := by
  have hJ : 20000 < J.length := by
    rcases Nat.lt_or_ge 20000 J.length with q | q
    · exact q
    · have := h.1 q; subst this; omega
  exact ⟨fun q => by rw [List.length_append] at q; omega, fun _ => hb, h.2.2⟩
theorem written_ok (v : Tv) (h : okT v.tk = true) (w : World) (E : Env w) :
    Calls Tryz.prog 84 #[v.val] w fun e w' => e = .returned (.tuple #[.string (baOf (writ v.tk)), .bool true]) ∧ Below w.heap.size w w' := by
  have h2 := wrS_two v.k v.t v.n
  refine (written_ v.k v.t v.n v.ln v.cl w E).mono fun e w' hq => ?_
  rw [h2.1, h2.2 h] at hq
  have e2 : okT ⟨v.k, v.t.data.toList, v.n⟩ = true := h
  rw [e2] at hq
  exact hq
theorem written_no (v : Tv) (h : okT v.tk = false) (w : World) (E : Env w) :
    Calls Tryz.prog 84 #[v.val] w fun e w' => (∃ s, e = .returned (.tuple #[.string s, .bool false])) ∧ Below w.heap.size w w' := by
  have h2 := wrS_two v.k v.t v.n
  refine (written_ v.k v.t v.n v.ln v.cl w E).mono fun e w' hq => ?_
  have e2 : okT ⟨v.k, v.t.data.toList, v.n⟩ = false := h
  rw [h2.1, e2] at hq
  exact ⟨⟨_, hq.1⟩, hq.2⟩
set_option maxRecDepth 100000 in
set_option maxHeartbeats 2000000 in
theorem lexText_ (A : Option Addr) (c : Nat) (l : List Tv) (w : World) (E : Env w) (hl : l.length ≤ 4398046511000) (ha : SlT w A l) :
    Calls Tryz.prog 31 #[.slice A l.length c] w fun e w' => e = .returned (.tuple #[.string (textS l).1, .int .i64 (textS l).2]) ∧ Below w.heap.size w w' := by
  have HA := Lib.hid ha
  have HE := Lib.hid E
  have HF := Lib.hid (Bd.fresh w)
  clear ha E
  go_enter Tryz.func31, Tryz.ntmps31
  go_wp2_with fail
  go_loopw [11] (fun i x => ∃ (k : Nat) (b : Bs), k ≤ l.length ∧ i = .int .i64 k ∧ okL (l.take k) = true ∧ Held (joinT (l.take k)) b ∧ Bd w.heap.size w.heap.size b x ∧ Below w.heap.size w x) (fun i x => l.length - (intOf i).toNat)
  case atStart => exact ⟨0, [], Nat.zero_le _, rfl, rfl, ⟨fun _ => rfl, fun h => h, by simp⟩, HF.out, (Below.refl _ _).alloc (Nat.le_refl _) _⟩
  case round =>
    obtain ⟨k, b, hk, rfl, hOk, hHeld, hBd, hB⟩ := hrel
    have HOk := Lib.hid hOk
    have HHeld := Lib.hid hHeld
    have HBd := Lib.hid hBd
    have HB := Lib.hid hB
    clear hOk hHeld hBd hB HF
    by_cases hlt : k < l.length
    · obtain ⟨bb, off, rfl, hb, c0, c1, c2, c3, c4⟩ := (HA.out.below HB.out) k _ (List.getElem?_eq_getElem hlt)
      cases hok : okT l[k].tk
      · have HW := Lib.hid fun x hx => written_no l[k] hok x hx
        go_wp2_with (first
          | (go_at_call 84; (with_reducible refine (HW.out _ (HE.out.below (HB.out.alloc HB.out.size _))).mono ?_); rintro e y ⟨⟨s, rfl⟩, hb⟩; have HB2 := Lib.hid ((HB.out.alloc HB.out.size _).trans (hb.mono (by simp; have := HB.out.size; omega))); clear hb))
        go_ret2
        exact ⟨by unfold textS; rw [if_neg (by rw [okL_no l k hlt hok]; decide)]; rfl, HB2.out⟩
      · have HW := Lib.hid fun x hx => written_ok l[k] hok x hx
        have HOk2 : Hid (okL (l.take (k + 1)) = true) := Lib.hid (by rw [okL_take l k hlt, HOk.out, hok]; rfl)
        have HJ := Lib.hid (joinT_take l k hlt)
        have HS := Lib.hid (writ_short l[k].tk hok)
        have HBl : Hid (∀ x, Bd w.heap.size w.heap.size b x → Calls Tryz.prog 85 #[.pointer (some ⟨w.heap.size, 0, none⟩)] x fun e w' => e = .returned (.int .i64 b.length) ∧ w' = x) := Lib.hid fun x hx => bdLen _ _ _ x hx
        by_cases hfull : 20000 < b.length
        · have hd : decide ((20000 : Int) < b.length) = true := by simp; omega
          go_wp2_with (first
            | (go_at_call 84; (with_reducible refine (HW.out _ (HE.out.below (HB.out.alloc HB.out.size _))).mono ?_); rintro e y ⟨rfl, hb⟩; have HB2 := Lib.hid ((HB.out.alloc HB.out.size _).trans (hb.mono (by simp; have := HB.out.size; omega))); have HBd2 := Lib.hid ((HBd.out.below (new1 _ _)).below hb); clear hb)
            | (go_at_call 85; (with_reducible refine (HBl.out _ HBd2.out).mono ?_); rintro e y2 ⟨rfl, rfl⟩))
          go_roundw
          case rel => exact ⟨k + 1, b, by omega, by go_num, HOk2.out, by rw [HJ.out]; exact HHeld.out.full hfull, HBd2.out, HB2.out⟩
          case measure => simp [intOf]; omega
        · have hd : decide ((20000 : Int) < b.length) = false := by simp; omega
          cases hk0 : k == 0
          · have hpos : 0 < k := by simp at hk0; omega
            have HY : Hid (∀ x, Bd w.heap.size w.heap.size b x → w.heap.size ≤ x.heap.size → Calls Tryz.prog 86 #[.pointer (some ⟨w.heap.size, 0, none⟩), .int .u8 32] x fun e w' => e = .returned .nilIface ∧ Bd w.heap.size w.heap.size (b ++ [32]) w' ∧ Below w.heap.size x w') :=
              Lib.hid fun x hx hs => bdByte _ _ _ 32 x hx (by omega) hs
            have HZ : Hid (∀ x, Bd w.heap.size w.heap.size (b ++ [32]) x → w.heap.size ≤ x.heap.size → Calls Tryz.prog 87 #[.pointer (some ⟨w.heap.size, 0, none⟩), .string (baOf (writ l[k].tk))] x fun e w' =>
                e = .returned (.tuple #[.int .i64 (baOf (writ l[k].tk)).size, .nilIface]) ∧ Bd w.heap.size w.heap.size (b ++ [32] ++ writ l[k].tk) w' ∧ Below w.heap.size x w') :=
              Lib.hid fun x hx hs => bdString _ _ _ (baOf (writ l[k].tk)) x hx (by rw [baOf_size, List.length_append]; have := HS.out; simp; omega) hs
            go_wp2_with (first
              | (go_at_call 84; (with_reducible refine (HW.out _ (HE.out.below (HB.out.alloc HB.out.size _))).mono ?_); rintro e y ⟨rfl, hb⟩; have HB2 := Lib.hid ((HB.out.alloc HB.out.size _).trans (hb.mono (by simp; have := HB.out.size; omega))); have HBd2 := Lib.hid ((HBd.out.below (new1 _ _)).below hb); clear hb)
              | (go_at_call 85; (with_reducible refine (HBl.out _ HBd2.out).mono ?_); rintro e y2 ⟨rfl, rfl⟩)
              | (go_at_call 86; (with_reducible refine (HY.out _ HBd2.out HB2.out.size).mono ?_); rintro e y3 ⟨rfl, hd3, hb⟩; have HBd3 := Lib.hid hd3; have HB3 := Lib.hid (HB2.out.trans hb); clear hd3 hb)
              | (go_at_call 87; (with_reducible refine (HZ.out _ HBd3.out HB3.out.size).mono ?_); rintro e y4 ⟨rfl, hd4, hb⟩; have HBd4 := Lib.hid hd4; have HB4 := Lib.hid (HB3.out.trans hb); clear hd4 hb))
            go_roundw
            case rel => exact ⟨k + 1, b ++ [32] ++ writ l[k].tk, by omega, by go_num, HOk2.out, by
              rw [HJ.out, hk0, List.append_assoc]; exact HHeld.out.more (by omega) (by have := HS.out; simp; omega), HBd4.out, HB4.out⟩
            case measure => simp [intOf]; omega
          · have hpos : ¬ 0 < k := by simp at hk0; omega
            have HZ : Hid (∀ x, Bd w.heap.size w.heap.size b x → w.heap.size ≤ x.heap.size → Calls Tryz.prog 87 #[.pointer (some ⟨w.heap.size, 0, none⟩), .string (baOf (writ l[k].tk))] x fun e w' =>
                e = .returned (.tuple #[.int .i64 (baOf (writ l[k].tk)).size, .nilIface]) ∧ Bd w.heap.size w.heap.size (b ++ writ l[k].tk) w' ∧ Below w.heap.size x w') :=
              Lib.hid fun x hx hs => bdString _ _ _ (baOf (writ l[k].tk)) x hx (by rw [baOf_size]; have := HS.out; omega) hs
            go_wp2_with (first
              | (go_at_call 84; (with_reducible refine (HW.out _ (HE.out.below (HB.out.alloc HB.out.size _))).mono ?_); rintro e y ⟨rfl, hb⟩; have HB2 := Lib.hid ((HB.out.alloc HB.out.size _).trans (hb.mono (by simp; have := HB.out.size; omega))); have HBd2 := Lib.hid ((HBd.out.below (new1 _ _)).below hb); clear hb)
              | (go_at_call 85; (with_reducible refine (HBl.out _ HBd2.out).mono ?_); rintro e y2 ⟨rfl, rfl⟩)
              | (go_at_call 87; (with_reducible refine (HZ.out _ HBd2.out HB2.out.size).mono ?_); rintro e y4 ⟨rfl, hd4, hb⟩; have HBd4 := Lib.hid hd4; have HB4 := Lib.hid (HB2.out.trans hb); clear hd4 hb))
            go_roundw
            case rel => exact ⟨k + 1, b ++ writ l[k].tk, by omega, by go_num, HOk2.out, by
              rw [HJ.out, hk0]; exact HHeld.out.more (by omega) (by have := HS.out; simp; omega), HBd4.out, HB4.out⟩
            case measure => simp [intOf]; omega
    · have hall : l.take k = l := List.take_of_length_le (by omega)
      have HOk2 : Hid (okL l = true) := Lib.hid (by rw [← HOk.out, hall])
      have HHeld2 : Hid (Held (joinT l) b) := Lib.hid (by have := HHeld.out; rwa [hall] at this)
      clear hall
      have HBl : Hid (∀ x, Bd w.heap.size w.heap.size b x → Calls Tryz.prog 85 #[.pointer (some ⟨w.heap.size, 0, none⟩)] x fun e w' => e = .returned (.int .i64 b.length) ∧ w' = x) := Lib.hid fun x hx => bdLen _ _ _ x hx
      by_cases hfull : 20000 < b.length
      · have hd : decide ((20000 : Int) < b.length) = true := by simp; omega
        have HQ : Hid (textS l = (⟨#[]⟩, 3)) := Lib.hid (by
          unfold textS
          rw [if_pos HOk2.out, if_pos]
          rcases Nat.lt_or_ge 20000 (joinT l).length with q | q
          · exact q
          · have := HHeld2.out.1 q; rw [this] at hfull; omega)
        go_wp2_with (first
          | (go_at_call 85; (with_reducible refine (HBl.out _ HBd.out).mono ?_); rintro e y2 ⟨rfl, rfl⟩))
        go_ret2
        exact ⟨by rw [HQ.out]; rfl, HB.out⟩
      · have hd : decide ((20000 : Int) < b.length) = false := by simp; omega
        have hJ : ¬ 20000 < (joinT l).length := fun q => hfull (HHeld2.out.2.1 q)
        have HQ : Hid (textS l = (baOf b, 0)) := Lib.hid (by
          unfold textS
          rw [if_pos HOk2.out, if_neg hJ, HHeld2.out.1 (by omega)])
        clear hJ
        have HDn : Hid (∀ x, Bd w.heap.size w.heap.size b x → w.heap.size ≤ x.heap.size → Calls Tryz.prog 88 #[.pointer (some ⟨w.heap.size, 0, none⟩)] x fun e w' => e = .returned (.string (baOf b)) ∧ Below w.heap.size x w') := Lib.hid fun x hx hs => bdDone _ _ _ x hx hs
        go_wp2_with (first
          | (go_at_call 85; (with_reducible refine (HBl.out _ HBd.out).mono ?_); rintro e y2 ⟨rfl, rfl⟩)
          | (go_at_call 88; (with_reducible refine (HDn.out _ HBd.out HB.out.size).mono ?_); rintro e y3 ⟨rfl, hb⟩; have HB3 := Lib.hid (HB.out.trans hb); clear hb))
        go_ret2
        exact ⟨by rw [HQ.out]; rfl, HB3.out⟩
end
end Go.Proofs.YtpmppndhfljcpaaGreatDoor
namespace Go.Proofs.YtpmppndhfljcpaaGreatDoor
section
open Go.RowKit

theorem flat5 {α : Type} (f : α → List Value) (hf : ∀ a, (f a).length = 5) : ∀ (A : List α) (i j : Nat), j < 5 → (A.flatMap f)[i * 5 + j]? = A[i]?.bind fun a => (f a)[j]?
  | [], i, j, _ => by simp
  | a :: r, 0, j, hj => by
    rw [List.flatMap_cons, Nat.zero_mul, Nat.zero_add, List.getElem?_append_left (by rw [hf]; exact hj)]
    rfl
  | a :: r, i + 1, j, hj => by
    rw [List.flatMap_cons, List.getElem?_append_right (by rw [hf]; omega), hf, show (i + 1) * 5 + j - 5 = i * 5 + j by omega, flat5 f hf r i j hj]
    rfl
/-- The tokens as the program has them. -/
def tvL (s : Bs) (A : List (Tk × Nat)) : List Tv := A.map fun q => ⟨q.1.k, baOf q.1.t, q.1.n, (placeP (s.take q.2)).1, (placeP (s.take q.2)).2⟩
theorem tvL_len (s : Bs) (A : List (Tk × Nat)) : (tvL s A).length = A.length := by simp [tvL]
theorem Row.slT {w x : World} {s : Bs} {v : Value} {A : List (Tk × Nat)} (h : Row w x s v A) : ∃ a cap, v = .slice a A.length cap ∧ SlT x a (tvL s A) := by
  obtain ⟨hlen, h2⟩ := h
  rcases h2 with ⟨rfl, h0⟩ | ⟨g, cap, cur, rfl, hg, hx, hn, hc, hcur, hxs⟩
  · refine ⟨none, 0, by rw [h0], ?_⟩
    have : A = [] := List.eq_nil_of_length_eq_zero h0
    rw [this]
    exact SlT.nil _ _
  · refine ⟨_, cap, rfl, ?_⟩
    intro i v hv
    have hown : x.ownsRow w.heap.size 95 5 (.slice (some ⟨g, 0, none⟩) A.length cap) A.length (tkPs s A) := ⟨hlen, .inr ⟨g, cap, cur, rfl, hg, hx, hn, hc, hcur, hxs⟩⟩
    unfold tvL at hv
    rw [List.getElem?_map, Option.map_eq_some_iff] at hv
    obtain ⟨q, hq, rfl⟩ := hv
    have key : ∀ j u, j < 5 → (tkP s q)[j]? = some u → x.cell? ⟨g, 0 + i * 5 + j, none⟩ = some u := by
      intro j u hj hu
      have e : (tkPs s A)[i * 5 + j]? = some u := by
        unfold tkPs
        rw [flat5 (tkP s) (fun _ => rfl) A i j hj, hq]
        exact hu
      have := World.ownsRow.cells hown rfl (i * 5 + j) u e
      rw [addr_add] at this
      rw [Nat.zero_add]
      exact this
    have k0 := key 0 _ (by decide) rfl
    exact ⟨g, 0, rfl, World.block_lt_of_cell? x _ k0, k0, key 1 _ (by decide) rfl, key 2 _ (by decide) rfl, key 3 _ (by decide) rfl, key 4 _ (by decide) rfl⟩
theorem lex_a : lexS [97, 60, 61, 98, 46, 46, 99, 32, 45, 45, 32, 100] = ([(⟨1, [97], 0⟩, 0), (⟨5, [60, 61], 0⟩, 1), (⟨1, [98], 0⟩, 3), (⟨5, [46, 46], 0⟩, 4), (⟨1, [99], 0⟩, 6)], none) := by kernel_rfl
theorem lex_b : lexS [39, 105, 116, 39, 39, 115, 39, 10, 32, 120, 49] = ([(⟨4, [105, 116, 39, 115], 0⟩, 0), (⟨1, [120, 49], 0⟩, 9)], none) := by kernel_rfl
theorem lex_c : lexS [32, 65] = ([], some (10, [65], 1)) := by kernel_rfl
end
end Go.Proofs.YtpmppndhfljcpaaGreatDoor
namespace Go.Proofs.YtpmppndhfljcpaaGreatDoor
section
open Go.RowKit

/-- The five cells of a token at place i of the row at b. -/
def Tcell (w : World) (b off i : Nat) (v : Tv) : Prop :=
  w.cell? ⟨b, off + i * 5, none⟩ = some (.int .i64 v.k) ∧ w.cell? ⟨b, off + i * 5 + 1, none⟩ = some (.string v.t) ∧ w.cell? ⟨b, off + i * 5 + 2, none⟩ = some (.int .i64 v.n) ∧
    w.cell? ⟨b, off + i * 5 + 3, none⟩ = some (.int .i64 v.ln) ∧ w.cell? ⟨b, off + i * 5 + 4, none⟩ = some (.int .i64 v.cl)
theorem SlT.opened {w : World} {A : Option Addr} {l : List Tv} {v : Tv} {r : List Tv} (h : SlT w A l) (hl : l = v :: r) : ∃ b off, A = some ⟨b, off, none⟩ ∧ b < w.heap.size ∧ ∀ i u, l[i]? = some u → Tcell w b off i u := by
  obtain ⟨b, off, hA, hlt, _⟩ := h 0 v (by rw [hl]; rfl)
  refine ⟨b, off, hA, hlt, fun i u hu => ?_⟩
  obtain ⟨b', off', hA', _, hc⟩ := h i u hu
  rw [hA] at hA'
  injection hA' with hA'
  injection hA' with h1 h2
  subst h1
  subst h2
  exact hc
theorem lexOk (s : ByteArray) (w : World) (E : Env w) (hsz : s.size ≤ 20000) (A : List (Tk × Nat)) (hL : lexS s.data.toList = (A, none)) :
    Calls Tryz.prog 28 #[.string s] w fun e w' => ∃ a cap, e = .returned (.tuple #[.slice a A.length cap, flV 0 ⟨#[]⟩ 0 0]) ∧ SlT w' a (tvL s.data.toList A) ∧ Below w.heap.size w w' := by
  refine (lex_good s w E (by omega) hsz A hL).mono fun e w' hq => ?_
  obtain ⟨hb, v, rfl, hr⟩ := hq
  obtain ⟨a, cap, rfl, hS⟩ := hr.slT
  exact ⟨a, cap, rfl, hS, hb⟩
/-- A slice's first cell. -/
theorem aw1 (w : World) (E : Env w) : Calls Tryz.prog 28 #[.string ⟨#[97, 60, 61, 98, 46, 46, 99, 32, 45, 45, 32, 100]⟩] w fun e w' => ∃ b off cap, e = .returned (.tuple #[.slice (some ⟨b, off, none⟩) 5 cap, flV 0 ⟨#[]⟩ 0 0]) ∧ SlT w' (some ⟨b, off, none⟩) (tvL [97, 60, 61, 98, 46, 46, 99, 32, 45, 45, 32, 100] [(⟨1, [97], 0⟩, 0), (⟨5, [60, 61], 0⟩, 1), (⟨1, [98], 0⟩, 3), (⟨5, [46, 46], 0⟩, 4), (⟨1, [99], 0⟩, 6)]) ∧ Below w.heap.size w w' := by
  refine (lexOk ⟨#[97, 60, 61, 98, 46, 46, 99, 32, 45, 45, 32, 100]⟩ w E (by decide) _ lex_a).mono fun e w' hq => ?_
  obtain ⟨a, cap, rfl, hS, hb⟩ := hq
  obtain ⟨b, off, rfl, _⟩ := hS.opened rfl
  exact ⟨b, off, cap, rfl, hS, hb⟩
theorem aw2 (w : World) (E : Env w) : Calls Tryz.prog 28 #[.string ⟨#[39, 105, 116, 39, 39, 115, 39, 10, 32, 120, 49]⟩] w fun e w' => ∃ b off cap, e = .returned (.tuple #[.slice (some ⟨b, off, none⟩) 2 cap, flV 0 ⟨#[]⟩ 0 0]) ∧ SlT w' (some ⟨b, off, none⟩) (tvL [39, 105, 116, 39, 39, 115, 39, 10, 32, 120, 49] [(⟨4, [105, 116, 39, 115], 0⟩, 0), (⟨1, [120, 49], 0⟩, 9)]) ∧ Below w.heap.size w w' := by
  refine (lexOk ⟨#[39, 105, 116, 39, 39, 115, 39, 10, 32, 120, 49]⟩ w E (by decide) _ lex_b).mono fun e w' hq => ?_
  obtain ⟨a, cap, rfl, hS, hb⟩ := hq
  obtain ⟨b, off, rfl, _⟩ := hS.opened rfl
  exact ⟨b, off, cap, rfl, hS, hb⟩
theorem aw3 (w : World) (E : Env w) : Calls Tryz.prog 28 #[.string ⟨#[32, 65]⟩] w fun e w' => e = .returned (.tuple #[.slice none 0 0, .agg #[.int .i64 10, .string ⟨#[65]⟩, .int .i64 1, .int .i64 2]]) ∧ Below w.heap.size w w' :=
  (lex_bad ⟨#[32, 65]⟩ w E (by decide) (by decide) _ _ _ _ lex_c).mono fun e w' hq => ⟨hq.2, hq.1⟩
theorem aw4 (b off cap : Nat) (w : World) (E : Env w) (h : SlT w (some ⟨b, off, none⟩) (tvL [39, 105, 116, 39, 39, 115, 39, 10, 32, 120, 49] [(⟨4, [105, 116, 39, 115], 0⟩, 0), (⟨1, [120, 49], 0⟩, 9)])) :
    Calls Tryz.prog 31 #[.slice (some ⟨b, off, none⟩) 2 cap] w fun e w' => e = .returned (.tuple #[.string ⟨#[39, 105, 116, 39, 39, 115, 39, 32, 120, 49]⟩, .int .i64 0]) ∧ Below w.heap.size w w' := by
  have e : textS (tvL [39, 105, 116, 39, 39, 115, 39, 10, 32, 120, 49] [(⟨4, [105, 116, 39, 115], 0⟩, 0), (⟨1, [120, 49], 0⟩, 9)]) = (⟨#[39, 105, 116, 39, 39, 115, 39, 32, 120, 49]⟩, 0) := by kernel_rfl
  refine (lexText_ _ cap _ w E (by decide) h).mono fun e' w' hq => ?_
  rw [e] at hq
  exact hq
theorem aw5 (w : World) : Calls Tryz.prog 36 #[.string ⟨#[99, 111, 117, 110, 116]⟩] w fun e w' => e = .returned (.bool true) ∧ Below w.heap.size w w' := by
  have e : memB words (⟨#[99, 111, 117, 110, 116]⟩ : ByteArray).data.toList = true := by kernel_rfl
  refine (word_ ⟨#[99, 111, 117, 110, 116]⟩ w).mono fun e' w' hq => ?_
  rw [e] at hq
  exact hq
theorem aw6 (w : World) : Calls Tryz.prog 38 #[.string ⟨#[99, 111, 117, 110, 116, 115]⟩] w fun e w' => e = .returned (.bool true) ∧ Below w.heap.size w w' := by
  have e : isNameB (⟨#[99, 111, 117, 110, 116, 115]⟩ : ByteArray).data.toList = true := by kernel_rfl
  refine (nameL_ ⟨#[99, 111, 117, 110, 116, 115]⟩ w).mono fun e' w' hq => ?_
  rw [e] at hq
  exact hq
theorem aw7 (w : World) : Calls Tryz.prog 38 #[.string ⟨#[115, 101, 108, 101, 99, 116]⟩] w fun e w' => e = .returned (.bool false) ∧ Below w.heap.size w w' := by
  have e : isNameB (⟨#[115, 101, 108, 101, 99, 116]⟩ : ByteArray).data.toList = false := by kernel_rfl
  refine (nameL_ ⟨#[115, 101, 108, 101, 99, 116]⟩ w).mono fun e' w' hq => ?_
  rw [e] at hq
  exact hq
theorem aw8 (b off cap : Nat) (l : List Tv) (w : World) (hl : l.length ≤ 4398046511000) (h : SlT w (some ⟨b, off, none⟩) l) :
    Calls Tryz.prog 32 #[.slice (some ⟨b, off, none⟩) l.length cap, .slice (some ⟨b, off, none⟩) l.length cap] w fun e w' => e = .returned (.bool true) ∧ Below w.heap.size w w' := by
  refine (lexSame_ _ _ cap cap l l w hl h h).mono fun e' w' hq => ?_
  obtain ⟨q, rfl, h1, h2⟩ := hq
  rw [h1.2 rfl]
  exact ⟨rfl, h2⟩
end
end Go.Proofs.YtpmppndhfljcpaaGreatDoor
