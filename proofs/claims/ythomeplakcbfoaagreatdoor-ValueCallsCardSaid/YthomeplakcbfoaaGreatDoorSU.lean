/-
  The law of sums: its callees; rows of values that a call makes.
-/
import Derived.Test.YthomeplakcbfoaaGreatDoorGq
import Derived.Deep.RegionLaw
namespace Go.Proofs.YthomeplakcbfoaaGreatDoor
open Go.RowKit

set_option maxRecDepth 100000 in
theorem few600_ (A : Option Addr) (c : Nat) (l : List Va) (w : World) (hl : l.length ≤ 4398046511000) (h : Sl w A l) (hs : ∀ v ∈ l, v.s.size ≤ 200) :
    Calls Tryz.prog 6 #[.slice A l.length c] w fun e w' => (∃ b : Bool, e = .returned (.bool b) ∧ (b = true → l.length ≤ 600)) ∧ Below w.heap.size w w' := by
  have HS := Lib.hid hs
  clear hs
  go_enter Tryz.func6, Tryz.ntmps6
  go_wp2
  go_loopw [3, 8] (fun q i x => ∃ (k n : Nat), k ≤ l.length ∧ i = .int .i64 k ∧ q = .int .i64 n ∧ k ≤ n ∧ n ≤ 3 * k ∧ Below w.heap.size w x) (fun q i x => l.length - (intOf i).toNat)
  case atStart => exact ⟨0, 0, Nat.zero_le _, rfl, rfl, Nat.le_refl _, Nat.le_refl _, Below.refl _ _⟩
  case round =>
    obtain ⟨k, n, hk, rfl, rfl, hn1, hn2, hB⟩ := hrel
    have HB := Lib.hid hB
    clear hB
    by_cases hlt : k < l.length
    · have h2 : l[k].s.size ≤ 200 := HS.out _ (List.getElem_mem hlt)
      obtain ⟨b, off, rfl, hb, c0, c1, c2⟩ := (h.below HB.out) k _ (List.getElem?_eq_getElem hlt)
      clear h
      generalize l[k] = v at *
      have h3 : (v.s.size : Int).tdiv 100 = ((v.s.size / 100 : Nat) : Int) := by rw [Int.tdiv_eq_ediv_of_nonneg (by omega)]; rfl
      have h4 : v.s.size / 100 ≤ 2 := by omega
      generalize v.s.size / 100 = m at *
      go_wp2
      go_roundw
      case rel => exact ⟨k + 1, n + (1 + m), by omega, by go_num, by first | rfl | (simp; done) | (simp; omega), by omega, by omega, HB.out.alloc HB.out.size _⟩
      case measure => simp [intOf]; omega
    · obtain rfl : k = l.length := by omega
      go_wp2
      go_ret
      exact ⟨⟨_, rfl, fun h => by have := of_decide_eq_true h; omega⟩, HB.out⟩
/-- What puts the aggregates of two lists together. -/
def opB : Nat → ByteArray
  | 2 => ⟨#[108, 101, 97, 115, 116]⟩
  | 3 => ⟨#[103, 114, 101, 97, 116, 101, 115, 116]⟩
  | _ => sPl
def agN : List Bs := [[99, 111, 117, 110, 116], [115, 117, 109], [109, 105, 110], [109, 97, 120]]
theorem both_ (i : Nat) (g : Bs) (hg : agN[i]? = some g) (w : World) : Calls Tryz.prog 21 #[.string (baOf g)] w fun e w' => e = .returned (.string (opB i)) ∧ w = w' := by
  have hT : ∀ l : Bs, ((baOf g).toList == l) = (g == l) := fun l => by rw [toList_dat, baOf_data]
  match i, hg with
  | 0, hg | 1, hg | 2, hg | 3, hg =>
    cases hg
    have t1 := hT [109, 105, 110]
    have t2 := hT [109, 97, 120]
    clear hT
    go_enter Tryz.func21, Tryz.ntmps21
    go_wp2_with fail
    go_ret
    exact ⟨rfl, rfl⟩
theorem ag_tab (i : Nat) (g : Bs) (hg : agN[i]? = some g) : findT agTab (baOf g) = some i := by
  match i, hg with
  | 0, hg | 1, hg | 2, hg | 3, hg => cases hg; rfl
theorem sl_drop {w : World} {b off : Nat} {l : List Va} (h : Sl w (some ⟨b, off, none⟩) l) (k : Nat) : Sl w (some ⟨b, off + k * 3, none⟩) (l.drop k) := by
  intro i v hv
  rw [List.getElem?_drop] at hv
  obtain ⟨b', off', e, h0, h1, h2, h3⟩ := h (k + i) v hv
  cases e
  have e0 : off + k * 3 + i * 3 = off + (k + i) * 3 := by omega
  exact ⟨b, _, rfl, h0, by rw [e0]; exact h1, by rw [e0]; exact h2, by rw [e0]; exact h3⟩
theorem sl_take {w : World} {A : Option Addr} {l : List Va} (h : Sl w A l) (k : Nat) : Sl w A (l.take k) := by
  intro i v hv
  refine h i v ?_
  rw [List.getElem?_take] at hv
  split at hv
  · exact hv
  · cases hv
def vcs (l : List Va) : List Value := l.flatMap fun v => [.int .i64 v.k, .int .i64 v.n, .string v.s]
theorem vcs_len (l : List Va) : (vcs l).length = l.length * 3 := by
  unfold vcs
  induction l with
  | nil => rfl
  | cons v r ih => rw [List.flatMap_cons, List.length_append, ih, List.length_cons]; simp; omega
theorem vcs_app (a b : List Va) : vcs (a ++ b) = vcs a ++ vcs b := by unfold vcs; exact List.flatMap_append
theorem vcs_get : ∀ (l : List Va) (i : Nat) (v : Va), l[i]? = some v → (vcs l)[i * 3]? = some (.int .i64 v.k) ∧ (vcs l)[i * 3 + 1]? = some (.int .i64 v.n) ∧ (vcs l)[i * 3 + 2]? = some (.string v.s)
  | [], i, v, h => by simp at h
  | u :: r, 0, v, h => by cases h; exact ⟨rfl, rfl, rfl⟩
  | u :: r, i + 1, v, h => by
    obtain ⟨a, b, c⟩ := vcs_get r i v (by simpa using h)
    have e : ∀ j, (vcs (u :: r))[j + 3]? = (vcs r)[j]? := by
      intro j
      show ([Value.int .i64 u.k, .int .i64 u.n, .string u.s] ++ vcs r)[j + 3]? = _
      rw [List.getElem?_append_right (by simp)]
      simp
    refine ⟨?_, ?_, ?_⟩
    · rw [show (i + 1) * 3 = i * 3 + 3 by omega, e]; exact a
    · rw [show (i + 1) * 3 + 1 = i * 3 + 1 + 3 by omega, e]; exact b
    · rw [show (i + 1) * 3 + 2 = i * 3 + 2 + 3 by omega, e]; exact c
theorem vcs_inv (l : List Va) (j : Nat) (u : Value) (h : (vcs l)[j]? = some u) : ∃ i v, l[i]? = some v ∧ ((j = i * 3 ∧ u = .int .i64 v.k) ∨ (j = i * 3 + 1 ∧ u = .int .i64 v.n) ∨ (j = i * 3 + 2 ∧ u = .string v.s)) := by
  have hj : j < (vcs l).length := (List.getElem?_eq_some_iff.1 h).1
  rw [vcs_len] at hj
  obtain ⟨i, r, hr, rfl⟩ : ∃ i r, r < 3 ∧ j = i * 3 + r := ⟨j / 3, j % 3, by omega, by omega⟩
  have hi : i < l.length := by omega
  obtain ⟨a, b, c⟩ := vcs_get l i _ (List.getElem?_eq_getElem hi)
  refine ⟨i, l[i], List.getElem?_eq_getElem hi, ?_⟩
  match r, hr with
  | 0, _ => rw [Nat.add_zero] at h; rw [a] at h; exact .inl ⟨rfl, (Option.some.inj h).symm⟩
  | 1, _ => rw [b] at h; exact .inr (.inl ⟨rfl, (Option.some.inj h).symm⟩)
  | 2, _ => rw [c] at h; exact .inr (.inr ⟨rfl, (Option.some.inj h).symm⟩)
theorem sl_cells {w : World} {b off : Nat} {l : List Va} (h : Sl w (some ⟨b, off, none⟩) l) (j : Nat) (u : Value) (hu : (vcs l)[j]? = some u) : w.cell? ((⟨b, off, none⟩ : Addr).add j) = some u := by
  have ea : (⟨b, off, none⟩ : Addr).add j = ⟨b, off + j, none⟩ := by unfold Addr.add; split <;> simp_all
  rw [ea]
  obtain ⟨i, v, hv, hc⟩ := vcs_inv l j u hu
  obtain ⟨b', off', e, h0, h1, h2, h3⟩ := h i v hv
  cases e
  rcases hc with ⟨rfl, rfl⟩ | ⟨rfl, rfl⟩ | ⟨rfl, rfl⟩
  · exact h1
  · rw [← Nat.add_assoc]; exact h2
  · rw [← Nat.add_assoc]; exact h3
/-- A row of values that the call has made. -/
def OwnV (B : Nat) (x : World) (v : Value) (l : List Va) : Prop := x.ownsRow B 27 3 v l.length (vcs l)
theorem OwnV.new (x : World) : OwnV x.heap.size (x.alloc (.cells #[] 27)) (.slice (some ⟨x.heap.size, 0, none⟩) 0 0) [] :=
  ⟨rfl, .inr ⟨x.heap.size, 0, _, rfl, Nat.le_refl _, heap_new' x _, Nat.le_refl _, Nat.zero_le _, rfl, rfl⟩⟩
theorem OwnV.sl {B : Nat} {x : World} {v : Value} {l : List Va} (h : OwnV B x v l) : ∃ A c, v = .slice A l.length c ∧ Sl x A l := by
  have h0 := h
  obtain ⟨h1, h2⟩ := h
  rcases h2 with ⟨rfl, hn⟩ | ⟨g, cap, cur, rfl, _, hg, _⟩
  · obtain rfl : l = [] := List.eq_nil_of_length_eq_zero hn
    exact ⟨none, 0, rfl, Sl.nil _ _⟩
  · refine ⟨_, cap, rfl, fun i v hv => ?_⟩
    have hc := World.ownsRow.cells (g := g) h0 rfl
    obtain ⟨a, b, c⟩ := vcs_get l i v hv
    have hlt : g < x.heap.size := (Array.getElem?_eq_some_iff.1 hg).1
    have e : ∀ j, (⟨g, 0, none⟩ : Addr).add j = ⟨g, 0 + j, none⟩ := fun j => by unfold Addr.add; split <;> simp_all
    refine ⟨g, 0, rfl, hlt, ?_, ?_, ?_⟩
    · have := hc _ _ a; rwa [e] at this
    · have := hc _ _ b; rwa [e] at this
    · have := hc _ _ c; rwa [e] at this
theorem infoVal : (Tryz.prog.info? 27).map (fun i => (i.zero, i.size, i.bytes)) = some (some (.agg #[.int .i64 0, .int .i64 0, .string ⟨#[]⟩]), 3, 32) := by kernel_rfl
/-- Values are put behind a row, as a step of a region that draws its order. -/
theorem step_append_vals {ops : Array Oper} {o : Oper} {a : Act} {w : World} {K : Act → World → Prop} {Q : Exit → Act → World → Prop} {E : Prop}
    (hg : o.guard = none) (s x : Operand) (hop : o.op = Op.call { callee := Callee.builtin Builtin.append, args := #[s, x], argTypes := #[22, 22] })
    (B : Nat) (v : Value) (l : List Va) (hs : a.eval s = v) (hown : OwnV B w v l) (b off m c : Nat) (r : List Va) (hx : a.eval x = .slice (some ⟨b, off, none⟩) m c) (hm : r.length = m) (hr : Sl w (some ⟨b, off, none⟩) r) (hn : l.length + r.length ≤ 1000000) (hB : B ≤ w.heap.size)
    (hK : ∀ v' w', OwnV B w' v' (l ++ r) → w.grownBy w' v.ownBlock → K (a.put o.dst v') w') :
    if Region.wanted o (yielded ops a.tmps) = true then Oper.wp Tryz.prog o a w K Q else E := by
  have hw : Region.wanted o (yielded ops a.tmps) = true := by simp [Region.wanted, hg]
  rw [if_pos hw]
  subst hm
  obtain ⟨i0, hi, hz, hsz, hby⟩ := info_parts infoVal
  obtain ⟨v', w', hrun, r1, r2, _⟩ := run_append_own (P := Tryz.prog) w B 22 o.type 27 i0 _ 3 32 Tryz.underlying22 hi hz hsz hby rfl (by decide) v l.length (vcs l) hown ⟨b, off, none⟩ r.length c (vcs r) (vcs_len r) (sl_cells hr) (by
    intro u hu
    obtain ⟨j, hj, rfl⟩ := List.getElem_of_mem hu
    obtain ⟨i, y, _, hc⟩ := vcs_inv r j _ (List.getElem?_eq_getElem hj)
    rcases hc with ⟨_, e⟩ | ⟨_, e⟩ | ⟨_, e⟩ <;> (rw [e]; rfl)) (by simp only [maxLen]; omega) (by omega) hB
  unfold Oper.wp
  simp [execOp, hop, resolve, invoke, builtin, hs, hx, hrun, Result.andThen]
  exact hK v' w' (by unfold OwnV; rw [List.length_append, vcs_app]; exact r1) r2
end Go.Proofs.YthomeplakcbfoaaGreatDoor
