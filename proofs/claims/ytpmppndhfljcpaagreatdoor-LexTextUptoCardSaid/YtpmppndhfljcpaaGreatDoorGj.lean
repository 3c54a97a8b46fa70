/-
  Contracts of layer 2.
-/
import Derived.Test.YtpmppndhfljcpaaGreatDoorGi
import Derived.Laws.AppendOwnNone
namespace Go.Proofs.YtpmppndhfljcpaaGreatDoor
section
open Go.RowKit

/-- The cells of tokens. -/
def valsT (l : List Tv) : List Value := l.flatMap fun v => tkC v.k v.t v.n v.ln v.cl
theorem valsT_app (l m : List Tv) : valsT (l ++ m) = valsT l ++ valsT m := by simp [valsT]
theorem valsT_len (l : List Tv) : (valsT l).length = l.length * 5 := by
  induction l with
  | nil => rfl
  | cons v r ih =>
    have e : valsT (v :: r) = tkC v.k v.t v.n v.ln v.cl ++ valsT r := rfl
    rw [e, List.length_append, ih, List.length_cons]
    simp only [List.length_cons, List.length_nil]
    omega
theorem valsT_tvL (s : Bs) (A : List (Tk × Nat)) : valsT (tvL s A) = tkPs s A := by
  unfold valsT tvL tkPs
  rw [List.flatMap_map]
  rfl
theorem valsT_at (l : List Tv) (i j : Nat) (hj : j < 5) : (valsT l)[i * 5 + j]? = l[i]?.bind fun v => (tkC v.k v.t v.n v.ln v.cl)[j]? := flat5 _ (fun _ => rfl) l i j hj
theorem valsT_one (l : List Tv) : ∀ u ∈ valsT l, u.oneCell' = true := by
  intro u hu
  unfold valsT at hu
  rw [List.mem_flatMap] at hu
  obtain ⟨v, _, hv⟩ := hu
  simp only [tkC, List.mem_cons, List.not_mem_nil, or_false] at hv
  rcases hv with rfl | rfl | rfl | rfl | rfl <;> rfl
/-- A row of tokens of the call's own (from block B on). -/
def OwnT (B : Nat) (x : World) (v : Value) (l : List Tv) : Prop := x.ownsRow B 95 5 v l.length (valsT l)
/-- A row of tokens, however it lies. -/
def FormT (x : World) (v : Value) (l : List Tv) : Prop :=
  (v = .slice none 0 0 ∧ l = []) ∨ ∃ b off cap, v = .slice (some ⟨b, off, none⟩) l.length cap ∧ SlT x (some ⟨b, off, none⟩) l
theorem FormT.below {x y : World} {v : Value} {l : List Tv} (h : FormT x v l) (hb : Below x.heap.size x y) : FormT y v l := by
  rcases h with h | ⟨b, off, cap, h1, h2⟩
  · exact .inl h
  · exact .inr ⟨b, off, cap, h1, h2.below hb⟩
theorem FormT.slice {x : World} {v : Value} {l : List Tv} (h : FormT x v l) : ∃ a cap, v = .slice a l.length cap ∧ SlT x a l := by
  rcases h with ⟨h1, rfl⟩ | ⟨b, off, cap, h1, h2⟩
  · exact ⟨none, 0, h1, SlT.nil _ _⟩
  · exact ⟨_, cap, h1, h2⟩
theorem OwnT.form {B : Nat} {x : World} {v : Value} {l : List Tv} (h : OwnT B x v l) : FormT x v l := by
  obtain ⟨hlen, h2⟩ := h
  rcases h2 with ⟨rfl, h0⟩ | ⟨g, cap, cur, rfl, hg, hx, hn, hc, hcur, hxs⟩
  · exact .inl ⟨rfl, List.eq_nil_of_length_eq_zero h0⟩
  · refine .inr ⟨g, 0, cap, rfl, ?_⟩
    intro i v hv
    have hown : x.ownsRow B 95 5 (.slice (some ⟨g, 0, none⟩) l.length cap) l.length (valsT l) := ⟨hlen, .inr ⟨g, cap, cur, rfl, hg, hx, hn, hc, hcur, hxs⟩⟩
    have key : ∀ j u, j < 5 → (tkC v.k v.t v.n v.ln v.cl)[j]? = some u → x.cell? ⟨g, 0 + i * 5 + j, none⟩ = some u := by
      intro j u hj hu
      have := World.ownsRow.cells hown rfl (i * 5 + j) u (by rw [valsT_at l i j hj, hv]; exact hu)
      rw [addr_add] at this
      rw [Nat.zero_add]
      exact this
    have k0 := key 0 _ (by decide) rfl
    exact ⟨g, 0, rfl, World.block_lt_of_cell? x _ k0, k0, key 1 _ (by decide) rfl, key 2 _ (by decide) rfl, key 3 _ (by decide) rfl, key 4 _ (by decide) rfl⟩
theorem Row.ownT {w x : World} {s : Bs} {v : Value} {A : List (Tk × Nat)} (h : Row w x s v A) : OwnT w.heap.size x v (tvL s A) := by
  unfold OwnT
  rw [tvL_len, valsT_tvL]
  exact h
theorem OwnT.lt {B : Nat} {x : World} {v : Value} {l : List Tv} (h : OwnT B x v l) : ∀ b, v.ownBlock = some b → B ≤ b := fun b hb => (World.ownsRow.lt h b hb).1
theorem SlT.at_ {w : World} {b off : Nat} {l : List Tv} {i : Nat} {v : Tv} (h : SlT w (some ⟨b, off, none⟩) l) (hv : l[i]? = some v) : Tcell w b off i v := by
  obtain ⟨b', off', e, _, hc⟩ := h i v hv
  injection e with e
  injection e with e1 e2
  subst e1
  subst e2
  exact hc
/-- Rows are put behind each other. -/
theorem wpList_append_tok {w : World} {ops : Array Oper} {rest : List Oper} {o : Oper} {a : Act} {Q : Exit → Act → World → Prop} (hgd : o.guard = none) (s x : Operand) (ho : o.op = .call { callee := .builtin .append, args := #[s, x], argTypes := #[43, 43] })
    (B : Nat) (v u : Value) (l m : List Tv) (hs : a.eval s = v) (hown : OwnT B w v l) (hx : a.eval x = u) (hf : FormT w u m) (hn : l.length + m.length ≤ 1000000000) (hB : B ≤ w.heap.size)
    (h : ∀ v' w', OwnT B w' v' (l ++ m) → w.grownBy w' v.ownBlock → wpList Tryz.prog ops Q rest (a.put o.dst v') w') : wpList Tryz.prog ops Q (o :: rest) a w := by
  obtain ⟨i0, hi, hz, hsz, hby⟩ := info_parts infoTok
  rcases hf with ⟨rfl, rfl⟩ | ⟨b, off, cap, rfl, hS⟩
  · refine wpList_append_own_none hgd s x _ ho B _ i0 5 Tryz.underlying43 hi v l.length (valsT l) hs hown hx ?_
    exact h v w (by rw [List.append_nil]; exact hown) (World.grownBy.refl _ _)
  · refine wpList_append_own w hgd s x _ ho B _ i0 _ 5 48 Tryz.underlying43 hi hz hsz hby rfl (by decide) v l.length (valsT l) hs hown ⟨b, off, none⟩ m.length cap (valsT m) hx (valsT_len m) ?_ (valsT_one m) (by simp only [maxLen]; omega) (by omega) hB ?_
    · intro j u hu
      obtain ⟨i, q, hq, rfl⟩ : ∃ i q, q < 5 ∧ j = i * 5 + q := ⟨j / 5, j % 5, by omega, by omega⟩
      rw [valsT_at m _ _ hq] at hu
      obtain ⟨v', hv', hu'⟩ := Option.bind_eq_some_iff.1 hu
      obtain ⟨h0, h1, h2, h3, h4⟩ := hS.at_ hv'
      have ea : (⟨b, off, none⟩ : Addr).add (i * 5 + q) = ⟨b, off + i * 5 + q, none⟩ := by unfold Addr.add; split <;> simp_all <;> omega
      rw [ea]
      match q, hq, hu' with
      | 0, _, hu' => cases hu'; exact h0
      | 1, _, hu' => cases hu'; exact h1
      | 2, _, hu' => cases hu'; exact h2
      | 3, _, hu' => cases hu'; exact h3
      | 4, _, hu' => cases hu'; exact h4
    · intro v' w' h1 h2 _
      exact h v' w' (by unfold OwnT; rw [List.length_append, valsT_app]; exact h1) h2
end
end Go.Proofs.YtpmppndhfljcpaaGreatDoor
namespace Go.Proofs.YtpmppndhfljcpaaGreatDoor
section
open Go.RowKit

/-- What the law puts between two strings. -/
def betw : List Bs := [[10], [10, 32, 9, 13], [32, 45, 45, 32, 97, 32, 39, 98, 10], [10, 45, 45, 10, 45, 45, 32, 99, 10]]
theorem betw_ok : ∀ g ∈ betw, ∀ t : Bs, Sep (g ++ t) ∧ ∀ b, skipL b (g ++ t) = g.length + skipL false t := by
  intro g hg t
  unfold betw at hg
  simp only [List.mem_cons, List.not_mem_nil, or_false] at hg
  rcases hg with rfl | rfl | rfl | rfl
  all_goals
    refine ⟨fun c h => by simp at h; simp [← h], fun b => ?_⟩
    cases b <;> simp [skipL, blankB] <;> omega
theorem betw_size : ∀ g ∈ betw, g.length ≤ 10 := by decide
theorem tvL_key (s : Bs) (A : List (Tk × Nat)) : (tvL s A).map Tv.key = (A.map (·.1)).map fun x => (x.k, baOf x.t, x.n) := by
  unfold tvL
  rw [List.map_map, List.map_map]
  rfl
theorem betw_same {g s t : Bs} (hg : g ∈ betw) {A B : List (Tk × Nat)} (hA : lexS s = (A, none)) (hB : lexS t = (B, none)) (hk : A.length + B.length ≤ 4000) :
    ∃ r, lexS ((s ++ g) ++ t) = (r, none) ∧ SameL (tvL ((s ++ g) ++ t) r) (tvL s A ++ tvL t B) := by
  obtain ⟨h1, h2⟩ := betw_ok g hg t
  obtain ⟨r, hr, hm⟩ := lexS_parts s g t h1 h2 A B hA hB hk
  rw [← List.append_assoc] at hr
  refine ⟨r, hr, ?_⟩
  unfold SameL
  rw [List.map_append, tvL_key, tvL_key, tvL_key, hm, List.map_append]
end
end Go.Proofs.YtpmppndhfljcpaaGreatDoor
namespace Go.Proofs.YtpmppndhfljcpaaGreatDoor
section
open Go.RowKit

theorem lexOkF (s : ByteArray) (w : World) (E : Env w) (hsz : s.size ≤ 20000) (A : List (Tk × Nat)) (hL : lexS s.data.toList = (A, none)) :
    Calls Tryz.prog 28 #[.string s] w fun e w' => ∃ a cap, e = .returned (.tuple #[.slice a A.length cap, flV 0 ⟨#[]⟩ 0 0]) ∧ FormT w' (.slice a A.length cap) (tvL s.data.toList A) ∧ Below w.heap.size w w' := by
  refine (lex_good s w E (by omega) hsz A hL).mono fun e w' hq => ?_
  obtain ⟨hb, v, rfl, hr⟩ := hq
  obtain ⟨a, cap, rfl⟩ := hr.form
  exact ⟨a, cap, rfl, hr.ownT.form, hb⟩
theorem lexNoF (s : ByteArray) (w : World) (E : Env w) (hsz : s.size ≤ 20000) (A : List (Tk × Nat)) (q : Int × Bs × Nat) (hL : lexS s.data.toList = (A, some q)) :
    Calls Tryz.prog 28 #[.string s] w fun e w' => ∃ c nm ln cl, e = .returned (.tuple #[.slice none 0 0, flV c nm ln cl]) ∧ (c != 0) = true ∧ Below w.heap.size w w' := by
  obtain ⟨c, nm, i⟩ := q
  have hc := (lexC_fault _ s.data.toList 0 0 (c, nm, i) (by show (lexS s.data.toList).2 = _; rw [hL])).1
  refine (lex_bad s w E (by omega) hsz A c nm i hL).mono fun e w' hq => ?_
  exact ⟨c, _, _, _, hq.2, by rcases hc with h | h | h <;> (simp only at h; subst h; rfl), hq.1⟩
theorem lexS_count (s : Bs) (A : List (Tk × Nat)) (h : lexS s = (A, none)) : A.length ≤ 4000 := by
  have := lexC_count (s.length + 1) s 0 0 (by omega)
  have e : (lexC (s.length + 1) s 0 0).1 = A := by show (lexS s).1 = A; rw [h]
  rw [e] at this
  omega
set_option maxRecDepth 100000 in
set_option maxHeartbeats 2000000 in
theorem parts_long (s t : ByteArray) (w : World) (E : Env w) (h : ¬ (s.size ≤ 4000 ∧ t.size ≤ 4000)) : Calls Tryz.prog 9 #[.string s, .string t] w fun e w' => e = .returned (.bool true) ∧ Below w.heap.size w w' := by
  have HAw := Lib.hid (lexAwake_ w E)
  clear E
  by_cases hs : (4000 : Int) < s.size
  · go_enter Tryz.func9, Tryz.ntmps9
    go_wp2_with (first
      | (go_at_call 27; (with_reducible refine HAw.out.mono ?_); rintro e y ⟨rfl, hb⟩; have HB := Lib.hid hb; clear hb))
    go_ret
    exact ⟨rfl, HB.out⟩
  · have ht : (4000 : Int) < t.size := by omega
    go_enter Tryz.func9, Tryz.ntmps9
    go_wp2_with (first
      | (go_at_call 27; (with_reducible refine HAw.out.mono ?_); rintro e y ⟨rfl, hb⟩; have HB := Lib.hid hb; clear hb))
    go_ret
    exact ⟨rfl, HB.out⟩
set_option maxRecDepth 100000 in
set_option maxHeartbeats 2000000 in
theorem parts_bad1 (s t : ByteArray) (w : World) (E : Env w) (hs : (s.size : Int) ≤ 4000) (ht : (t.size : Int) ≤ 4000) (A B : List (Tk × Nat)) (q : Int × Bs × Nat) (ob : Option (Int × Bs × Nat)) (hA : lexS s.data.toList = (A, some q)) (hB : lexS t.data.toList = (B, ob)) :
    Calls Tryz.prog 9 #[.string s, .string t] w fun e w' => e = .returned (.bool true) ∧ Below w.heap.size w w' := by
  have HE := Lib.hid E
  have HAw := Lib.hid fun x hx => lexAwake_ x hx
  have H1 := Lib.hid fun x hx => lexNoF s x hx (by omega) A q hA
  have H2 : Hid (∀ x, Env x → Calls Tryz.prog 28 #[.string t] x fun e w' => ∃ a n cap c nm ln cl, e = .returned (.tuple #[.slice a n cap, flV c nm ln cl]) ∧ Below x.heap.size x w') := Lib.hid fun x hx => by
    cases ob with
    | none =>
      refine (lexOkF t x hx (by omega) B hB).mono fun e w' hq => ?_
      obtain ⟨a, cap, h1, _, h2⟩ := hq
      exact ⟨a, _, cap, _, _, _, _, h1, h2⟩
    | some q2 =>
      refine (lexNoF t x hx (by omega) B q2 hB).mono fun e w' hq => ?_
      obtain ⟨c, nm, ln, cl, h1, _, h2⟩ := hq
      exact ⟨_, _, _, _, _, _, _, h1, h2⟩
  clear E hA hB
  go_enter Tryz.func9, Tryz.ntmps9
  go_upto_region 4 with (first
    | (go_at_call 28; (with_reducible refine (H1.out _ HE.out).mono ?_); rintro e y ⟨c, nm, ln, cl, rfl, hc, hb⟩; have K1 := Lib.hid (((KG.refl w).below hb).push' y.heap.size rfl (flC c nm ln cl) 45); clear hb))
  go_upto_region 5 with (first
    | (go_at_call 28; (with_reducible refine (H2.out _ (HE.out.below K1.out.HB)).mono ?_); rintro e y2 ⟨a, n, cap, c2, nm2, ln2, cl2, rfl, hb⟩; have K2 := Lib.hid ((K1.out.below hb).push' y2.heap.size rfl (flC c2 nm2 ln2 cl2) 45); clear hb))
  obtain ⟨r0, -⟩ := K2.out.q.2.1.1.open4
  go_wp2_with (first
    | (go_at_call 27; (with_reducible refine (HAw.out _ (HE.out.below K2.out.HB)).mono ?_); rintro e y3 ⟨rfl, hb⟩; have HB := Lib.hid (K2.out.below hb).HB; clear hb))
  go_ret
  exact ⟨rfl, HB.out⟩
set_option maxRecDepth 100000 in
set_option maxHeartbeats 2000000 in
theorem parts_bad2 (s t : ByteArray) (w : World) (E : Env w) (hs : (s.size : Int) ≤ 4000) (ht : (t.size : Int) ≤ 4000) (A B : List (Tk × Nat)) (q : Int × Bs × Nat) (hA : lexS s.data.toList = (A, none)) (hB : lexS t.data.toList = (B, some q)) :
    Calls Tryz.prog 9 #[.string s, .string t] w fun e w' => e = .returned (.bool true) ∧ Below w.heap.size w w' := by
  have HE := Lib.hid E
  have HAw := Lib.hid fun x hx => lexAwake_ x hx
  have H1 := Lib.hid fun x hx => lexOkF s x hx (by omega) A hA
  have H2 := Lib.hid fun x hx => lexNoF t x hx (by omega) B q hB
  clear E hA hB
  go_enter Tryz.func9, Tryz.ntmps9
  go_upto_region 4 with (first
    | (go_at_call 28; (with_reducible refine (H1.out _ HE.out).mono ?_); rintro e y ⟨a, cap, rfl, -, hb⟩; have K1 := Lib.hid (((KG.refl w).below hb).push' y.heap.size rfl (flC 0 ⟨#[]⟩ 0 0) 45); clear hb))
  go_upto_region 5 with (first
    | (go_at_call 28; (with_reducible refine (H2.out _ (HE.out.below K1.out.HB)).mono ?_); rintro e y2 ⟨c, nm, ln, cl, rfl, hc, hb⟩; have K2 := Lib.hid ((K1.out.below hb).push' y2.heap.size rfl (flC c nm ln cl) 45); clear hb))
  obtain ⟨r0, -⟩ := K2.out.q.2.1.1.open4
  go_wp2_with (first
    | (go_at_call 27; (with_reducible refine (HAw.out _ (HE.out.below K2.out.HB)).mono ?_); rintro e y3 ⟨rfl, hb⟩; have HB := Lib.hid (K2.out.below hb).HB; clear hb))
  go_ret
  exact ⟨rfl, HB.out⟩
set_option maxRecDepth 100000 in
set_option maxHeartbeats 2000000 in
theorem parts_many (s t : ByteArray) (w : World) (E : Env w) (hs : (s.size : Int) ≤ 4000) (ht : (t.size : Int) ≤ 4000) (A B : List (Tk × Nat)) (hA : lexS s.data.toList = (A, none)) (hB : lexS t.data.toList = (B, none)) (hm : 4000 < A.length + B.length) :
    Calls Tryz.prog 9 #[.string s, .string t] w fun e w' => e = .returned (.bool true) ∧ Below w.heap.size w w' := by
  have HE := Lib.hid E
  have HAw := Lib.hid fun x hx => lexAwake_ x hx
  have H1 := Lib.hid fun x hx => lexOkF s x hx (by omega) A hA
  have H2 := Lib.hid fun x hx => lexOkF t x hx (by omega) B hB
  have c1 := lexS_count _ _ hA
  have c2 := lexS_count _ _ hB
  have hm' : (4000 : Int) < (A.length : Int) + B.length := by omega
  clear E hA hB
  go_enter Tryz.func9, Tryz.ntmps9
  go_upto_region 4 with (first
    | (go_at_call 28; (with_reducible refine (H1.out _ HE.out).mono ?_); rintro e y ⟨a, cap, rfl, -, hb⟩; have K1 := Lib.hid (((KG.refl w).below hb).push' y.heap.size rfl (flC 0 ⟨#[]⟩ 0 0) 45); clear hb))
  go_upto_region 5 with (first
    | (go_at_call 28; (with_reducible refine (H2.out _ (HE.out.below K1.out.HB)).mono ?_); rintro e y2 ⟨a2, cap2, rfl, -, hb⟩; have K2 := Lib.hid ((K1.out.below hb).push' y2.heap.size rfl (flC 0 ⟨#[]⟩ 0 0) 45); clear hb))
  obtain ⟨r0, -⟩ := K2.out.q.2.1.1.open4
  go_wp2_with (first
    | (go_at_call 27; (with_reducible refine (HAw.out _ (HE.out.below K2.out.HB)).mono ?_); rintro e y3 ⟨rfl, hb⟩; have HB := Lib.hid (K2.out.below hb).HB; clear hb))
  go_ret
  exact ⟨rfl, HB.out⟩
end
end Go.Proofs.YtpmppndhfljcpaaGreatDoor
namespace Go.Proofs.YtpmppndhfljcpaaGreatDoor
section
open Go.RowKit

/-- The row of strings at block b. -/
def StrsAt (x : World) (b : Nat) (L : List Bs) : Prop := b < x.heap.size ∧ ∀ i g, L[i]? = some g → x.cell? ⟨b, i, none⟩ = some (.string (baOf g))
theorem StrsAt.below {x y : World} {b : Nat} {L : List Bs} (h : StrsAt x b L) (hb : Below x.heap.size x y) : StrsAt y b L :=
  ⟨Nat.lt_of_lt_of_le h.1 hb.size, fun i g hg => (hb.cell (p := ⟨b, i, none⟩) h.1).trans (h.2 i g hg)⟩
theorem strsAt_new (w : World) (L : List Bs) (t : TypeId) : StrsAt (w.alloc (.cells (L.map fun g => Value.string (baOf g)).toArray t)) w.heap.size L :=
  ⟨by simp, fun i g hg => (World.cell?_alloc_new w _ t i).trans (by simp [hg])⟩
theorem same_true (a b : Option Addr) (n m c d : Nat) (l k : List Tv) (hn : l.length = n) (hm : k.length = m) (hl : n ≤ 4398046511000) (h : SameL l k) (w : World) (h1 : SlT w a l) (h2 : SlT w b k) :
    Calls Tryz.prog 32 #[.slice a n c, .slice b m d] w fun e w' => e = .returned (.bool true) ∧ Below w.heap.size w w' := by
  subst hn
  subst hm
  refine (lexSame_ a b c d l k w hl h1 h2).mono fun e' w' hq => ?_
  obtain ⟨q, rfl, h3, h4⟩ := hq
  rw [h3.2 h]
  exact ⟨rfl, h4⟩
theorem betw_lex {s t : ByteArray} {g : Bs} (hgs : g.length ≤ 10) (hs : s.size ≤ 4000) (ht : t.size ≤ 4000) (r : List (Tk × Nat)) (hr : lexS ((s.data.toList ++ g) ++ t.data.toList) = (r, none)) (w : World) (E : Env w) :
    Calls Tryz.prog 28 #[.string (s ++ baOf g ++ t)] w fun e w' => ∃ a cap, e = .returned (.tuple #[.slice a r.length cap, flV 0 ⟨#[]⟩ 0 0]) ∧ SlT w' a (tvL ((s.data.toList ++ g) ++ t.data.toList) r) ∧ Below w.heap.size w w' := by
  have e : (s ++ baOf g ++ t).data.toList = (s.data.toList ++ g) ++ t.data.toList := by rw [ByteArray.data_append, ByteArray.data_append, Array.toList_append, Array.toList_append, baOf_data]
  have hz : (s ++ baOf g ++ t).size ≤ 20000 := by rw [ByteArray.size_append, ByteArray.size_append, baOf_size]; omega
  have := lexOk (s ++ baOf g ++ t) w E hz r (by rw [e]; exact hr)
  rw [e] at this
  exact this
set_option maxRecDepth 100000 in
set_option maxHeartbeats 2000000 in
theorem parts_main (s t : ByteArray) (w : World) (E : Env w) (hs : (s.size : Int) ≤ 4000) (ht : (t.size : Int) ≤ 4000) (A B : List (Tk × Nat)) (hA : lexS s.data.toList = (A, none)) (hB : lexS t.data.toList = (B, none)) (hm : A.length + B.length ≤ 4000) :
    Calls Tryz.prog 9 #[.string s, .string t] w fun e w' => e = .returned (.bool true) ∧ Below w.heap.size w w' := by
  have HE := Lib.hid E
  have HAw := Lib.hid fun x hx => lexAwake_ x hx
  have H1 := Lib.hid fun x hx => lexOkF s x hx (by omega) A hA
  have H2 := Lib.hid fun x hx => lexOkF t x hx (by omega) B hB
  have hm' : (A.length : Int) + B.length ≤ 4000 := by omega
  have HAB : Hid (A.length + B.length ≤ 4000) := Lib.hid hm
  have HP := Lib.hid fun (g : Bs) (hg : g ∈ betw) => betw_same hg hA hB hm
  clear E hA hB
  go_enter Tryz.func9, Tryz.ntmps9
  go_upto_region 4 with (first
    | (go_at_call 28; (with_reducible refine (H1.out _ HE.out).mono ?_); rintro e y ⟨a, cap, rfl, hf, hb⟩; have K1 := Lib.hid (((KG.refl w).below hb).push' y.heap.size rfl (flC 0 ⟨#[]⟩ 0 0) 45); have F1 := Lib.hid (hf.below (new1 _ (.cells #[.int .i64 0, .string ⟨#[]⟩, .int .i64 0, .int .i64 0] 45))); clear hb hf))
  go_upto_region 5 with (first
    | (go_at_call 28; (with_reducible refine (H2.out _ (HE.out.below K1.out.HB)).mono ?_); rintro e y2 ⟨a2, cap2, rfl, hf, hb⟩; have K2 := Lib.hid ((K1.out.below hb).push' y2.heap.size rfl (flC 0 ⟨#[]⟩ 0 0) 45); have F1b := Lib.hid ((F1.out.below hb).below (new1 _ (.cells #[.int .i64 0, .string ⟨#[]⟩, .int .i64 0, .int .i64 0] 45))); have F2 := Lib.hid (hf.below (new1 _ (.cells #[.int .i64 0, .string ⟨#[]⟩, .int .i64 0, .int .i64 0] 45))); clear hb hf))
  obtain ⟨r0, -⟩ := K2.out.q.2.1.1.open4
  clear K1 F1
  go_upto_region 7 with fail
  have hx : ∃ x0, x0 = y2.alloc (.cells #[.int .i64 0, .string ⟨#[]⟩, .int .i64 0, .int .i64 0] 45) := ⟨_, rfl⟩
  obtain ⟨x0, hx0⟩ := hx
  rw [← hx0]
  have G1 : Hid (FormT x0 (.slice a A.length cap) (tvL s.data.toList A)) := Lib.hid (by rw [hx0]; exact F1b.out)
  have G2 : Hid (FormT x0 (.slice a2 B.length cap2) (tvL t.data.toList B)) := Lib.hid (by rw [hx0]; exact F2.out)
  have B0 : Hid (Below w.heap.size w x0) := Lib.hid (by rw [hx0]; exact K2.out.HB)
  clear K2 F1b F2 r0 hx0
  have hO0 : OwnT x0.heap.size (x0.alloc (.cells #[] 95)) (.slice (some ⟨x0.heap.size, 0, none⟩) 0 0) [] := World.ownsRow_lit (base := x0.heap.size) (e := 95) (size := 5) x0 #[] 0 (Nat.le_refl _) (Nat.zero_le _) rfl
  have O0 := Lib.hid hO0
  clear hO0
  go_wp2_with (first
    | (at_builtin; refine wpList_append_tok rfl (.tmp 50) (.tmp 51) rfl x0.heap.size _ _ _ _ rfl O0.out rfl (G1.out.below (new1 _ _)) ?c1 ?c2 ?_))
  case c1 => rw [tvL_len]; have := HAB.out; simp; omega
  case c2 => simp
  intro v1 w1 hO1 hg1
  have B1 := Lib.hid (((Below.refl x0.heap.size x0).alloc (Nat.le_refl _) (.cells #[] 95)).grown hg1 (by simp) (fun k hk => by cases hk; exact Nat.le_refl _))
  have O1 := Lib.hid hO1
  clear hO1 hg1 O0
  go_wp2_with (first
    | (at_builtin; refine wpList_append_tok rfl (.tmp 52) (.tmp 53) rfl x0.heap.size _ _ _ _ rfl O1.out rfl (G2.out.below B1.out) ?c3 B1.out.size ?_))
  case c3 => rw [tvL_len, tvL_len]; have := HAB.out; omega
  intro v2 w2 hO2 hg2
  have B2 := Lib.hid (B1.out.grown hg2 B1.out.size O1.out.lt)
  obtain ⟨a3, cap3, hv2, hS3⟩ := (OwnT.form hO2).slice
  have hlen3 : (tvL s.data.toList A ++ tvL t.data.toList B).length = A.length + B.length := by rw [List.length_append, tvL_len, tvL_len]
  rw [hlen3] at hv2
  subst hv2
  have S3 := Lib.hid hS3
  have B3 := Lib.hid (B0.out.trans (B2.out.mono B0.out.size))
  clear hO2 hg2 hS3 O1 B1 B2 G1 G2 B0 hlen3
  go_wp2_with fail
  have S4 := Lib.hid (S3.out.below (new1 w2 (.cells #[.string ⟨#[10]⟩, .string ⟨#[10, 32, 9, 13]⟩, .string ⟨#[32, 45, 45, 32, 97, 32, 39, 98, 10]⟩, .string ⟨#[10, 45, 45, 10, 45, 45, 32, 99, 10]⟩] 9)))
  have B4 := Lib.hid (B3.out.alloc B3.out.size (.cells #[.string ⟨#[10]⟩, .string ⟨#[10, 32, 9, 13]⟩, .string ⟨#[32, 45, 45, 32, 97, 32, 39, 98, 10]⟩, .string ⟨#[10, 45, 45, 10, 45, 45, 32, 99, 10]⟩] 9))
  have T4 : Hid (StrsAt (w2.alloc (.cells #[.string ⟨#[10]⟩, .string ⟨#[10, 32, 9, 13]⟩, .string ⟨#[32, 45, 45, 32, 97, 32, 39, 98, 10]⟩, .string ⟨#[10, 45, 45, 10, 45, 45, 32, 99, 10]⟩] 9)) w2.heap.size betw) := Lib.hid (strsAt_new w2 betw 9)
  clear S3 B3
  go_loopw [57] (fun i x => ∃ k : Nat, k ≤ 4 ∧ i = .int .i64 k ∧ SlT x a3 (tvL s.data.toList A ++ tvL t.data.toList B) ∧ StrsAt x w2.heap.size betw ∧ Below w.heap.size w x) (fun i x => 4 - (intOf i).toNat)
  case atStart => exact ⟨0, Nat.zero_le _, rfl, S4.out, T4.out, B4.out⟩
  case round =>
    clear S4 T4 B4
    obtain ⟨k, hk, rfl, hS, hT, hB⟩ := hrel
    have S := Lib.hid hS
    have T := Lib.hid hT
    have B' := Lib.hid hB
    clear hS hT hB
    by_cases hlt : k < 4
    · obtain ⟨g, hg⟩ : ∃ g, betw[k]? = some g := ⟨betw[k]'hlt, List.getElem?_eq_getElem hlt⟩
      have hgm : g ∈ betw := List.mem_of_getElem? hg
      have hgs : g.length ≤ 10 := betw_size g hgm
      have hgz : (baOf g).size ≤ 10 := by rw [baOf_size]; exact hgs
      obtain ⟨r, hr, hsame⟩ := HP.out g hgm
      have c0 := T.out.2 k g hg
      have hb2 := T.out.1
      have HX := Lib.hid fun x hx => betw_lex hgs (by omega) (by omega) r hr x hx
      have HSm := Lib.hid hsame
      have HR := Lib.hid (lexS_count _ _ hr)
      clear hg hgm hr hsame
      go_wp2_with (first
        | (go_at_call 28; (with_reducible refine (HX.out _ (HE.out.below B'.out)).mono ?_); rintro e y5 ⟨a5, cap5, rfl, hS5, hb⟩; have B5 := Lib.hid ((B'.out.trans (hb.mono B'.out.size)).alloc (Nat.le_trans B'.out.size hb.size) (.cells #[.int .i64 0, .string ⟨#[]⟩, .int .i64 0, .int .i64 0] 45));
            have S5 := Lib.hid (hS5.below (new1 _ (.cells #[.int .i64 0, .string ⟨#[]⟩, .int .i64 0, .int .i64 0] 45))); have S6 := Lib.hid ((S.out.below hb).below (new1 _ (.cells #[.int .i64 0, .string ⟨#[]⟩, .int .i64 0, .int .i64 0] 45))); have T6 := Lib.hid ((T.out.below hb).below (new1 _ (.cells #[.int .i64 0, .string ⟨#[]⟩, .int .i64 0, .int .i64 0] 45))); clear hb hS5)
        | (go_at_call 32; (with_reducible refine (same_true _ _ _ _ _ _ _ _ (tvL_len _ _) (by rw [List.length_append, tvL_len, tvL_len]) (by have := HR.out; omega) HSm.out _ S5.out S6.out).mono ?_); rintro e y6 ⟨rfl, hb⟩; have B6 := Lib.hid (B5.out.trans (hb.mono B5.out.size)); have S7 := Lib.hid (S6.out.below hb); have T7 := Lib.hid (T6.out.below hb); clear hb))
      go_roundw
      case rel => exact ⟨k + 1, by omega, by go_num, S7.out, T7.out, B6.out⟩
      case measure => simp [intOf]; omega
    · obtain rfl : k = 4 := by omega
      go_wp2_with (first
        | (go_at_call 27; (with_reducible refine (HAw.out _ (HE.out.below B'.out)).mono ?_); rintro e y7 ⟨rfl, hb⟩; have B7 := Lib.hid (B'.out.trans (hb.mono B'.out.size)); clear hb))
      go_ret
      exact ⟨rfl, B7.out⟩
theorem lexParts_ (s t : ByteArray) (w : World) (E : Env w) : Calls Tryz.prog 9 #[.string s, .string t] w fun e w' => e = .returned (.bool true) ∧ Below w.heap.size w w' := by
  by_cases h : s.size ≤ 4000 ∧ t.size ≤ 4000
  · have h1 : (s.size : Int) ≤ 4000 := by omega
    have h2 : (t.size : Int) ≤ 4000 := by omega
    cases hA : lexS s.data.toList with
    | mk A oa =>
      cases hB : lexS t.data.toList with
      | mk B ob =>
        cases oa with
        | some q => exact parts_bad1 s t w E h1 h2 A B q ob hA hB
        | none =>
          cases ob with
          | some q => exact parts_bad2 s t w E h1 h2 A B q hA hB
          | none =>
            by_cases hm : A.length + B.length ≤ 4000
            · exact parts_main s t w E h1 h2 A B hA hB hm
            · exact parts_many s t w E h1 h2 A B hA hB (by omega)
  · exact parts_long s t w E h
end
end Go.Proofs.YtpmppndhfljcpaaGreatDoor
