/-
  What the library's variables hold, and the library's contracts that ask for it: numbers to strings and back.
-/
import Derived.Test.YthomeplakcbfoaaGreatDoorL
import Derived.Test.YthomeplakcbfoaaGreatDoorGa
import Derived.Lib.ReplaceLaws
import Derived.WalkSmall
namespace Go.Proofs.YthomeplakcbfoaaGreatDoor
open Go.RowKit

/-- The library's variable that says how long a string its fast search takes holds some number. -/
def Gl (w : World) : Prop := ∃ m, w.cell? ⟨0, 0, none⟩ = some (.int .i64 m)
theorem Gl.below {w w' : World} (h : Gl w) (hb : Below w.heap.size w w') : Gl w' := by
  obtain ⟨m, hm⟩ := h
  exact ⟨m, (hb.cell (p := ⟨0, 0, none⟩) (World.block_lt_of_cell? w _ hm)).trans hm⟩
/-- What the library's variables hold. -/
structure Env (w : World) : Prop where
  gl : Gl w
  tab : Lib.TabIs Tryz.prog w "internal/strconv.uint64pow10" .u64 Lib.pow10Tab
  syn : ∃ t p, w.cell? ⟨4, 0, none⟩ = some (.iface t p)
  rng : ∃ t p, w.cell? ⟨5, 0, none⟩ = some (.iface t p)
theorem tab_below {w w' : World} (h : Lib.TabIs Tryz.prog w "internal/strconv.uint64pow10" .u64 Lib.pow10Tab) (hb : Below w.heap.size w w') : Lib.TabIs Tryz.prog w' "internal/strconv.uint64pow10" .u64 Lib.pow10Tab := by
  have hg : Tryz.prog.globalNamed "internal/strconv.uint64pow10" = some 1 := by kernel_rfl
  refine Go.var?_below hb hg ?_ h
  have h0 : w.cell? ⟨1, 0, none⟩ = some (.int .u64 1) := (World.var?_cell hg h 0).trans rfl
  exact World.block_lt_of_cell? w _ h0
theorem iface_below {w w' : World} {a : Addr} (h : ∃ t p, w.cell? a = some (.iface t p)) (hb : Below w.heap.size w w') : ∃ t p, w'.cell? a = some (.iface t p) := by
  obtain ⟨t, p, h⟩ := h
  exact ⟨t, p, (hb.cell (p := a) (World.block_lt_of_cell? w _ h)).trans h⟩
theorem Env.below {w w' : World} (h : Env w) (hb : Below w.heap.size w w') : Env w' := ⟨h.gl.below hb, tab_below h.tab hb, iface_below h.syn hb, iface_below h.rng hb⟩
/-- A block that is none of the library's variables. -/
def Off (R : Nat) : Prop := R ≠ 0 ∧ R ≠ 1 ∧ R ≠ 4 ∧ R ≠ 5
theorem cell_grown {w y : World} {R : Nat} (hg : w.grownBy y (some R)) {a : Addr} {v : Value} (h : w.cell? a = some v) (hR : R ≠ a.block) : y.cell? a = some v := hg.cell h (by intro e; cases e; exact hR rfl)
theorem Env.grown {w y : World} {R : Nat} (h : Env w) (hg : w.grownBy y (some R)) (hR : Off R) : Env y := by
  obtain ⟨⟨m, h0⟩, h1, ⟨t4, p4, h4⟩, ⟨t5, p5, h5⟩⟩ := h
  refine ⟨⟨m, cell_grown hg h0 hR.1⟩, ?_, ⟨t4, p4, cell_grown hg h4 hR.2.2.1⟩, ⟨t5, p5, cell_grown hg h5 hR.2.2.2⟩⟩
  have hgn : Tryz.prog.globalNamed "internal/strconv.uint64pow10" = some 1 := by kernel_rfl
  have hc : w.cell? ⟨1, 0, none⟩ = some (.int .u64 1) := (World.var?_cell hgn h1 0).trans rfl
  have hb := hg.block _ (World.block_lt_of_cell? w _ hc) (by intro e; cases e; exact hR.2.1 rfl)
  unfold Lib.TabIs World.var? at h1 ⊢
  simp only [hgn, Option.bind_some] at h1 ⊢
  rw [hb]
  exact h1
theorem Env.off {w : World} (h : Env w) {R : Nat} (hR : w.heap.size ≤ R) : Off R := by
  obtain ⟨⟨m, h0⟩, h1, ⟨t4, p4, h4⟩, ⟨t5, p5, h5⟩⟩ := h
  have hgn : Tryz.prog.globalNamed "internal/strconv.uint64pow10" = some 1 := by kernel_rfl
  have hc : w.cell? ⟨1, 0, none⟩ = some (.int .u64 1) := (World.var?_cell hgn h1 0).trans rfl
  have b0 := World.block_lt_of_cell? w _ h0
  have b1 := World.block_lt_of_cell? w _ hc
  have b4 := World.block_lt_of_cell? w _ h4
  have b5 := World.block_lt_of_cell? w _ h5
  simp only at b0 b1 b4 b5
  exact ⟨by omega, by omega, by omega, by omega⟩
theorem atoi_ok (s : ByteArray) (v : Int) (h : Lib.atoiAll s.data.toList = .ok v) (hs : s.size ≤ 4000000) (w : World) :
    Calls Tryz.prog 82 #[.string s] w fun e w' => e = .returned (.tuple #[.int .i64 v, .nilIface]) ∧ Below w.heap.size w w' := by
  refine (Tryz.strconv_Atoi_ok s (by omega) v h w).mono ?_
  rintro e w' ⟨he, hw | ⟨t, hw⟩⟩
  · exact ⟨he, by rw [hw]; exact Below.refl _ _⟩
  · refine ⟨he, ?_⟩
    rw [hw]
    exact Lib.bytesWorld_below _ _ _
/-- No number that an int can hold: an error. -/
def AtoiNo (w : World) (e : Ending) (w' : World) : Prop := ∃ n t p, e = .returned (.tuple #[.int .i64 n, .iface t p]) ∧ Below w.heap.size w w'
theorem atoi_no (s : ByteArray) (h : ∀ v, Lib.atoiAll s.data.toList ≠ .ok v) (hs : s.size ≤ 4000000) (w : World) (E : Env w) : Calls Tryz.prog 82 #[.string s] w (AtoiNo w) := by
  cases hx : Lib.atoiAll s.data.toList
  · exact absurd hx (h _)
  · obtain ⟨t, p, hv⟩ := E.syn
    refine (Any.strconv_Atoi_syntax Tryz.laysC172 s (by omega) hx _ w hv (.inr ⟨t, p, rfl⟩)).mono ?_
    rintro e w' ⟨N, he, _, _, hb⟩
    exact ⟨_, _, _, he, hb⟩
  · obtain ⟨t, p, hv⟩ := E.rng
    refine (Any.strconv_Atoi_range Tryz.laysC172 s (by omega) hx _ w hv (.inr ⟨t, p, rfl⟩)).mono ?_
    rintro e w' ⟨N, he, _, _, hb⟩
    exact ⟨_, _, _, he, hb⟩
theorem itoa_ (n : Int) (h0 : -9223372036854775808 ≤ n) (h1 : n ≤ 9223372036854775807) (w : World) (E : Env w) :
    Calls Tryz.prog 49 #[.int .i64 n] w fun e w' => e = .returned (.string ⟨(Lib.itoa n).toArray⟩) ∧ Below w.heap.size w w' := by
  refine (Tryz.strconv_Itoa n h0 h1 w E.tab).mono ?_
  rintro e w' ⟨he, k, os, hw⟩
  refine ⟨he, ?_⟩
  rw [hw]
  exact ⟨rfl, rfl, rfl, (by show w.heap.size ≤ (w.heap ++ os).size; simp), fun i hi => by
    have hi' : i < (w.drewN k).heap.size := hi
    simp only [Go.Sort.grow, Array.getElem?_append, if_pos hi']
    rfl⟩
theorem clone_ (s : ByteArray) (w : World) (hs : s.size ≤ 4000000) : Calls Tryz.prog 162 #[.string s] w fun e w' => e = .returned (.string s) ∧ Below w.heap.size w w' := by
  have h := Tryz.stringslite_Clone s w (by omega)
  exact h
end Go.Proofs.YthomeplakcbfoaaGreatDoor
