/-
  The frame of a law of values: what comes in.
-/
import Derived.Test.YthomeplakcbfoaaGreatDoorWR
import Derived.Lib.SmallJoins
import Derived.Deep.Slices
import Derived.Deep.Strs
import Derived.SizedLaws
namespace Go.Proofs.YthomeplakcbfoaaGreatDoor
section
open Go.ChangeShapes Go.WideShapes Go.ChangeAt Go.RowKit Go.Deep

theorem cells27 : Tryz.prog.cellsOf 27 = 3 := by kernel_rfl
set_option maxRecDepth 100000 in
theorem open_val {H : Type} {enc : TypeId × Value → H} {W : World} {b0 : Nat} {v : Value} {d : DataW H} {p : List MemPlace} (hv : Value.okWide Tryz.prog W .any b0 27 v) (h : DataW.Trod enc Tryz.prog W 0 (fun _ => true) true 27 v d p) :
    ∃ a : Va, v = a.val ∧ a.s.size ≤ maxLen := by
  obtain ⟨c0, c1, c2, y0, y1, y2, m, rfl, rfl, rfl, hy0, hy1, hy2⟩ := Joins.open_agg3 Tryz.underlying27 (by kernel_rfl) cells27 hv h
  obtain ⟨k, e0, rfl, _⟩ := DataW.trod_int Tryz.underlying25 hy0
  obtain ⟨n, e1, rfl, _⟩ := DataW.trod_int Tryz.underlying3 hy1
  obtain ⟨s, e2, rfl, hs⟩ := DataW.trod_string Tryz.underlying9 hy2
  cases e0
  cases e1
  cases e2
  exact ⟨⟨k, n, s⟩, rfl, hs⟩
set_option maxRecDepth 100000 in
/-- Three cells that read as a value. -/
theorem val_of_trod {H : Type} {enc : TypeId × Value → H} {W : World} {n : Nat} {cs : List Value} {x : DataW H × List MemPlace} (h : DataW.trod enc Tryz.prog W 0 (fun _ => true) true n 27 cs = some x) (hl : cs.length = 3) :
    ∃ u : Va, cs = [.int .i64 u.k, .int .i64 u.n, .string u.s] ∧ u.s.size ≤ maxLen := by
  obtain ⟨y0, y1, y2, m, _, _, h0, h1, h2⟩ := trod_struct3 Tryz.underlying27 h
  have c25 : Tryz.prog.cellsOf 25 = 1 := by kernel_rfl
  have c3 : Tryz.prog.cellsOf 3 = 1 := by kernel_rfl
  have c9 : Tryz.prog.cellsOf 9 = 1 := by kernel_rfl
  match cs, hl with
  | [v0, v1, v2], _ =>
    simp only [c25, c3, c9] at h0 h1 h2
    obtain ⟨k, e0, _, _⟩ := DataW.trod_int Tryz.underlying25 h0
    obtain ⟨q, e1, _, _⟩ := DataW.trod_int Tryz.underlying3 h1
    obtain ⟨s, e2, _, hs⟩ := DataW.trod_string Tryz.underlying9 h2
    simp at e0 e1 e2
    subst e0
    subst e1
    subst e2
    exact ⟨⟨k, q, s⟩, rfl, hs⟩
set_option maxRecDepth 100000 in
theorem open_vals {H : Type} {enc : TypeId × Value → H} {W : World} {b0 : Nat} {t : TypeId} (ht : Tryz.prog.underlying t = some (.slice 27)) {v : Value} {d : DataW H} {p : List MemPlace} (hv : Value.okWide Tryz.prog W .any b0 t v)
    (h : DataW.Trod enc Tryz.prog W 0 (fun _ => true) true t v d p) : ∃ (A : Option Addr) (c : Nat) (l : List Va), v = .slice A l.length c ∧ l.length ≤ maxLen ∧ Sl W A l ∧ ∀ u ∈ l, u.s.size ≤ maxLen := by
  obtain ⟨a0, len, cap, rfl⟩ := okWide_slice ht hv
  obtain ⟨fuel, hf⟩ := h
  rcases open_slice ht hf with ⟨hcs, _⟩ | ⟨a, len', cap', m, n, D, Pl, hcs, _, hl, hm, hmm, _, hel⟩
  · simp [Value.cells] at hcs
    obtain ⟨rfl, rfl, rfl⟩ := hcs
    exact ⟨none, 0, [], rfl, by simp [maxLen], Sl.nil _ _, by simp⟩
  · simp [Value.cells] at hcs
    obtain ⟨rfl, rfl, rfl⟩ := hcs
    simp only [if_true] at hmm
    subst hmm
    by_cases h0 : len = 0
    · subst h0
      exact ⟨_, _, [], rfl, by simp [maxLen], Sl.nil _ _, by simp⟩
    · rw [cells27] at hel
      have key : ∀ i, i < len → ∃ u : Va, (∀ j, j < 3 → W.cell? ((a.add (i * 3)).add j) = [Value.int .i64 u.k, .int .i64 u.n, .string u.s][j]?) ∧ u.s.size ≤ maxLen := by
        intro i hi
        obtain ⟨cs', q1, q2⟩ := hel i (by omega)
        obtain ⟨_, q3, q4⟩ := World.cells?_some q1
        obtain ⟨u, rfl, hu⟩ := val_of_trod q2 q3
        exact ⟨u, q4, hu⟩
      obtain ⟨b, off, spot⟩ := a
      have hspot : spot = none := by
        obtain ⟨u, hu, _⟩ := key 0 (by omega)
        have := hu 0 (by decide)
        exact World.cell?_spot (by simpa [Addr.add] using this)
      subst hspot
      have key2 : ∀ i : Fin len, ∃ u : Va, (∀ j, j < 3 → W.cell? ⟨b, off + i.1 * 3 + j, none⟩ = [Value.int .i64 u.k, .int .i64 u.n, .string u.s][j]?) ∧ u.s.size ≤ maxLen := by
        intro i
        obtain ⟨u, hu, hs⟩ := key i.1 i.2
        refine ⟨u, fun j hj => ?_, hs⟩
        have := hu j hj
        rwa [add_plain, add_plain] at this
      have hch := Classical.axiomOfChoice key2
      obtain ⟨V, hV⟩ := hch
      refine ⟨some ⟨b, off, none⟩, _, (List.finRange len).map V, by rw [List.length_map, List.length_finRange], by rw [List.length_map, List.length_finRange]; exact Nat.le_trans hl hm, ?_, ?_⟩
      · intro i v hv'
        simp only [List.getElem?_map] at hv'
        by_cases hi : i < len
        · have e : (List.finRange len)[i]? = some ⟨i, hi⟩ := by simp [hi]
          rw [e] at hv'
          simp only [Option.map_some, Option.some.injEq] at hv'
          subst hv'
          have q := (hV ⟨i, hi⟩).1
          have q0 := q 0 (by decide)
          have q1 := q 1 (by decide)
          have q2 := q 2 (by decide)
          refine ⟨b, off, rfl, World.block_lt_of_cell? W _ q0, q0, q1, q2⟩
        · have e : (List.finRange len)[i]? = none := by simp; omega
          rw [e] at hv'
          cases hv'
      · intro u hu
        obtain ⟨i, _, rfl⟩ := List.mem_map.1 hu
        exact (hV i).2
end
end Go.Proofs.YthomeplakcbfoaaGreatDoor
namespace Go.Proofs.YthomeplakcbfoaaGreatDoor
section
open Go.ChangeShapes Go.WideShapes Go.ChangeAt Go.RowKit Go.Deep

theorem vals_len {H : Type} {enc : TypeId × Value → H} {W : World} {A : Option Addr} {n c : Nat} {d : DataW H} {p : List MemPlace}
    (h : DataW.Trod enc Tryz.prog W 0 (fun _ => true) true 22 (.slice A n c) d p) : n = 0 ∨ ∃ elems spare, d = .slice elems spare ∧ elems.length = n := by
  obtain ⟨fuel, hf⟩ := h
  rcases open_slice Tryz.underlying22 hf with ⟨hcs, _⟩ | ⟨a, len, cap, m, k, D, Pl, hcs, _, _, _, _, hx, _⟩
  · simp [Value.cells] at hcs
    exact .inl hcs.2.1
  · simp [Value.cells] at hcs
    obtain ⟨rfl, rfl, rfl⟩ := hcs
    exact .inr ⟨_, _, congrArg Prod.fst hx, by simp⟩
theorem vals_bound {H : Type} {enc : TypeId × Value → H} {W : World} {A : Option Addr} {n c : Nat} {d : DataW H} {p : List MemPlace} {ts : List TypeId} {ds : List (DataW H)} (hw : (DataW.weightsEach Tryz.prog ts ds).all (· ≤ reachBytes) = true) {j : Nat}
    (ht : ts[j]? = some 22) (hd : ds[j]? = some d) (h : DataW.Trod enc Tryz.prog W 0 (fun _ => true) true 22 (.slice A n c) d p) : n ≤ 4398046511000 := by
  rcases vals_len h with rfl | ⟨elems, spare, rfl, rfl⟩
  · omega
  · have q := sized_slice hw ht hd Tryz.underlying22
    have e : Tryz.prog.bytesOf 27 = 32 := by kernel_rfl
    rw [e] at q
    unfold reachBytes at q
    omega
end
end Go.Proofs.YthomeplakcbfoaaGreatDoor
namespace Go.Proofs.YthomeplakcbfoaaGreatDoor
section
open Go.ChangeShapes Go.WideShapes Go.ChangeAt Go.RowKit Go.Deep

theorem vals_cap {H : Type} {enc : TypeId × Value → H} {W : World} {A : Option Addr} {n c : Nat} {d : DataW H} {p : List MemPlace}
    (h : DataW.Trod enc Tryz.prog W 0 (fun _ => true) true 22 (.slice A n c) d p) : n ≤ c := by
  obtain ⟨fuel, hf⟩ := h
  rcases open_slice Tryz.underlying22 hf with ⟨hcs, _⟩ | ⟨a, len, cap, m, k, D, Pl, hcs, _, hl, _, _, _, _⟩
  · simp [Value.cells] at hcs
    obtain ⟨_, rfl, rfl⟩ := hcs
    exact Nat.le_refl _
  · simp [Value.cells] at hcs
    obtain ⟨_, rfl, rfl⟩ := hcs
    exact hl
theorem int_wf {k : IntKind} {n : Int} (h : (Lit.int k n).wf = true) : k.min ≤ n ∧ n ≤ k.max := by
  simpa [Lit.wf, IntKind.has] using h
end
end Go.Proofs.YthomeplakcbfoaaGreatDoor
