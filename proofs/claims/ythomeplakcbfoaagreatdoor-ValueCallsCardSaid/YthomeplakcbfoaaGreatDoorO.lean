/-
  Contracts: the table of arithmetic; the table of all operations.
-/
import Derived.Test.YthomeplakcbfoaaGreatDoorN
namespace Go.Proofs.YthomeplakcbfoaaGreatDoor
open Go.RowKit

theorem divided_ (f : Nat) (w : World) : Calls Tryz.prog 119 #[.func (.func f) #[] #[]] w fun e w' => e = .returned (.func (.func 146) #[] #[.pointer (some ⟨w.heap.size, 0, none⟩)]) ∧ w.alloc (.cells #[.func (.func f) #[] #[]] 103) = w' := by
  have hmf : ∀ (fn : Fn) (first cap : Array Value) (w : World), (Instr.makeFunc fn first cap).run Tryz.prog w = .ok (.func fn first cap) w := fun _ _ _ _ => rfl
  go_enter Tryz.func119, Tryz.ntmps119
  go_wp2
  go_ret
  exact ⟨rfl, rfl⟩

def arTab : List (ByteArray × Nat) := [(⟨#[43]⟩, 0), (⟨#[45]⟩, 1), (⟨#[42]⟩, 2), (⟨#[47]⟩, 3), (⟨#[109, 111, 100]⟩, 4)]
abbrev fnP (f : Nat) : Value := .func (.func f) #[] #[]
abbrev fnC (c : Nat) : Value := .func (.func 146) #[] #[.pointer (some ⟨c, 0, none⟩)]
def arFn (c1 c2 : Nat) : Nat → Value
  | 0 => fnP 116
  | 1 => fnP 117
  | 2 => fnP 118
  | 3 => fnC c1
  | _ + 4 => fnC c2
def arI : Nat → Int → Int → Va × Int
  | 0 => addS
  | 1 => subS
  | 2 => mulS
  | 3 => quoS
  | _ + 4 => remS
def arSp (op : ByteArray) : Va → Va → Va × Int := fun a b => arI ((findT arTab op).getD 0) a.n b.n
theorem call123 (args : Array Value) (y : World) : (callFunc 117 args).run Tryz.prog y = .ok (.enter 117 args) y := by simp [go_sem]
theorem call124 (args : Array Value) (y : World) : (callFunc 118 args).run Tryz.prog y = .ok (.enter 118 args) y := by simp [go_sem]
theorem call160 (args : Array Value) (y : World) : (callFunc 146 args).run Tryz.prog y = .ok (.enter 146 args) y := by simp [go_sem]
theorem arFn_spec (z : World) (c1 c2 : Nat) (h1 : z.cell? ⟨c1, 0, none⟩ = some (fnP 120)) (h2 : z.cell? ⟨c2, 0, none⟩ = some (fnP 121)) (i : Nat) : FnI z (arFn c1 c2 i) (arI i) := by
  match i with
  | 0 => exact ⟨116, #[], rfl, call121, fun y _ a b ha hb => plus_ a b ha hb y⟩
  | 1 => exact ⟨117, #[], rfl, call123, fun y _ a b ha hb => minus_ a b ha hb y⟩
  | 2 => exact ⟨118, #[], rfl, call124, fun y _ a b ha hb => times_ a b ha hb y⟩
  | 3 => exact ⟨146, #[_], rfl, call160, fun y hy a b ha hb => divQuo_ a b ha hb c1 y ((bcell hy c1 0 (World.block_lt_of_cell? _ _ h1)).trans h1)⟩
  | _ + 4 => exact ⟨146, #[_], rfl, call160, fun y hy a b ha hb => divRem_ a b ha hb c2 y ((bcell hy c2 0 (World.block_lt_of_cell? _ _ h2)).trans h2)⟩
theorem zero126 (w : World) : (zeroValue 125).run Tryz.prog w = .ok .nilFunc w := by kernel_rfl

set_option maxRecDepth 100000 in
set_option maxHeartbeats 4000000 in
theorem arithmeticOf_ (op : ByteArray) (w : World) : Calls Tryz.prog 85 #[.string op] w (RetFn (findT arTab op).isSome (fun a b => Small a.n ∧ Small b.n) (arSp op) w) := by
  have hmm := @run_makeMap Tryz.prog
  have hmf : ∀ (fn : Fn) (first cap : Array Value) (w : World), (Instr.makeFunc fn first cap).run Tryz.prog w = .ok (.func fn first cap) w := fun _ _ _ _ => rfl
  cases hT : findT arTab op with
  | none =>
    have HT := Lib.hid hT
    clear hT
    go_enter Tryz.func85, Tryz.ntmps85
    go_wp2_with (first
            | (refine wpList_insert_lit rfl (.tmp 7) _ _ _ _ _ rfl Tryz.underlying128 Tryz.underlying9 (Fed.made w) ⟨#[43]⟩ (fnP 116) rfl rfl rfl rfl ?_; intro w1 (hF1 : Fed _ w1 _ [(⟨#[43]⟩, fnP 116)]); skip)
            | (refine wpList_insert_lit rfl (.tmp 7) _ _ _ _ _ rfl Tryz.underlying128 Tryz.underlying9 hF1 ⟨#[45]⟩ (fnP 117) rfl rfl rfl rfl ?_; clear hF1; intro w2 (hF2 : Fed _ w2 _ [(⟨#[43]⟩, fnP 116), (⟨#[45]⟩, fnP 117)]); skip)
            | (refine wpList_insert_lit rfl (.tmp 7) _ _ _ _ _ rfl Tryz.underlying128 Tryz.underlying9 hF2 ⟨#[42]⟩ (fnP 118) rfl rfl rfl rfl ?_; clear hF2; intro w3 (hF3 : Fed _ w3 _ [(⟨#[43]⟩, fnP 116), (⟨#[45]⟩, fnP 117), (⟨#[42]⟩, fnP 118)]); have B3 : Hid (Below w.heap.size w w3) := Lib.hid ((new1 w _).trans (hF3.below (Nat.le_refl _) (by simp))))
            | (refine wpList_insert_lit rfl (.tmp 7) _ _ _ _ _ rfl Tryz.underlying128 Tryz.underlying9 hF3 ⟨#[47]⟩ (fnC w3.heap.size) rfl rfl rfl rfl ?_; clear hF3; intro w4 (hF4 : Fed _ w4 _ [(⟨#[43]⟩, fnP 116), (⟨#[45]⟩, fnP 117), (⟨#[42]⟩, fnP 118), (⟨#[47]⟩, fnC w3.heap.size)]); have B4 : Hid (Below w.heap.size w w4) := Lib.hid ((B3.out.alloc B3.out.size _).trans (hF4.below (Nat.le_refl _) (by simp; have := B3.out.size; omega))); have q1 : Hid (w4.cell? ⟨w3.heap.size, 0, none⟩ = some (fnP 120)) := Lib.hid ((hF4.cell _).trans (by simp)); have s4 : Hid (w3.heap.size < w4.heap.size) := Lib.hid (by rw [hF4.size]; simp))
            | (refine wpList_insert_lit rfl (.tmp 7) _ _ _ _ _ rfl Tryz.underlying128 Tryz.underlying9 hF4 ⟨#[109, 111, 100]⟩ (fnC w4.heap.size) rfl rfl rfl rfl ?_; clear hF4; intro w5 (hF5 : Fed _ w5 _ [(⟨#[43]⟩, fnP 116), (⟨#[45]⟩, fnP 117), (⟨#[42]⟩, fnP 118), (⟨#[47]⟩, fnC w3.heap.size), (⟨#[109, 111, 100]⟩, fnC w4.heap.size)]); have hF : Fed _ w5 _ (arTab.map fun p => (p.1, arFn w3.heap.size w4.heap.size p.2)) := hF5; have hlk := run_lookup_lit hF.here Tryz.underlying128 Tryz.underlying9 (zero126 _) op; rw [findE_map, HT.out] at hlk; simp only [Option.map_none, Option.getD_none, Option.isSome_none] at hlk; have B5 : Hid (Below w.heap.size w w5) := Lib.hid ((B4.out.alloc B4.out.size _).trans (hF5.below (Nat.le_refl _) (by simp; have := B4.out.size; omega))); have q5 : Hid (w5.cell? ⟨w3.heap.size, 0, none⟩ = some (fnP 120)) := Lib.hid ((hF5.cell _).trans ((World.cell?_alloc_lt w4 _ _ s4.out).trans q1.out)); have q6 : Hid (w5.cell? ⟨w4.heap.size, 0, none⟩ = some (fnP 121)) := Lib.hid ((hF5.cell _).trans (by simp)); have t5 : Hid (w4.heap.size < w5.heap.size) := Lib.hid (by rw [hF5.size]; simp); clear hF5 hF)
            | (go_at_call 119; refine (divided_ _ _).mono ?_; rintro e y ⟨rfl, rfl⟩; first | (have hG := Fed.begin (hF4.here.of_block (Below.heap_alloc _ (.cells #[fnP 121] 103) _ hF4.here.lt)); clear hF4; have hF4 := hG; clear hG) | (have hG := Fed.begin (hF3.here.of_block (Below.heap_alloc _ (.cells #[fnP 120] 103) _ hF3.here.lt)); clear hF3; have hF3 := hG; clear hG)))
    (try simp only [Exit.inBlock, Exit.then])
    go_ret2
    exact ⟨_, rfl, (fun h => by cases h), B5.out.alloc B5.out.size _⟩
  | some i =>
    have HT := Lib.hid hT
    clear hT
    match i, HT with
    | 0, HT =>
      go_enter Tryz.func85, Tryz.ntmps85
      go_wp2_with (first
              | (refine wpList_insert_lit rfl (.tmp 7) _ _ _ _ _ rfl Tryz.underlying128 Tryz.underlying9 (Fed.made w) ⟨#[43]⟩ (fnP 116) rfl rfl rfl rfl ?_; intro w1 (hF1 : Fed _ w1 _ [(⟨#[43]⟩, fnP 116)]); skip)
              | (refine wpList_insert_lit rfl (.tmp 7) _ _ _ _ _ rfl Tryz.underlying128 Tryz.underlying9 hF1 ⟨#[45]⟩ (fnP 117) rfl rfl rfl rfl ?_; clear hF1; intro w2 (hF2 : Fed _ w2 _ [(⟨#[43]⟩, fnP 116), (⟨#[45]⟩, fnP 117)]); skip)
              | (refine wpList_insert_lit rfl (.tmp 7) _ _ _ _ _ rfl Tryz.underlying128 Tryz.underlying9 hF2 ⟨#[42]⟩ (fnP 118) rfl rfl rfl rfl ?_; clear hF2; intro w3 (hF3 : Fed _ w3 _ [(⟨#[43]⟩, fnP 116), (⟨#[45]⟩, fnP 117), (⟨#[42]⟩, fnP 118)]); have B3 : Hid (Below w.heap.size w w3) := Lib.hid ((new1 w _).trans (hF3.below (Nat.le_refl _) (by simp))))
              | (refine wpList_insert_lit rfl (.tmp 7) _ _ _ _ _ rfl Tryz.underlying128 Tryz.underlying9 hF3 ⟨#[47]⟩ (fnC w3.heap.size) rfl rfl rfl rfl ?_; clear hF3; intro w4 (hF4 : Fed _ w4 _ [(⟨#[43]⟩, fnP 116), (⟨#[45]⟩, fnP 117), (⟨#[42]⟩, fnP 118), (⟨#[47]⟩, fnC w3.heap.size)]); have B4 : Hid (Below w.heap.size w w4) := Lib.hid ((B3.out.alloc B3.out.size _).trans (hF4.below (Nat.le_refl _) (by simp; have := B3.out.size; omega))); have q1 : Hid (w4.cell? ⟨w3.heap.size, 0, none⟩ = some (fnP 120)) := Lib.hid ((hF4.cell _).trans (by simp)); have s4 : Hid (w3.heap.size < w4.heap.size) := Lib.hid (by rw [hF4.size]; simp))
              | (refine wpList_insert_lit rfl (.tmp 7) _ _ _ _ _ rfl Tryz.underlying128 Tryz.underlying9 hF4 ⟨#[109, 111, 100]⟩ (fnC w4.heap.size) rfl rfl rfl rfl ?_; clear hF4; intro w5 (hF5 : Fed _ w5 _ [(⟨#[43]⟩, fnP 116), (⟨#[45]⟩, fnP 117), (⟨#[42]⟩, fnP 118), (⟨#[47]⟩, fnC w3.heap.size), (⟨#[109, 111, 100]⟩, fnC w4.heap.size)]); have hF : Fed _ w5 _ (arTab.map fun p => (p.1, arFn w3.heap.size w4.heap.size p.2)) := hF5; have hlk := run_lookup_lit hF.here Tryz.underlying128 Tryz.underlying9 (zero126 _) op; rw [findE_map, HT.out] at hlk; simp only [Option.map_some, Option.getD_some, Option.isSome_some, arFn] at hlk; have B5 : Hid (Below w.heap.size w w5) := Lib.hid ((B4.out.alloc B4.out.size _).trans (hF5.below (Nat.le_refl _) (by simp; have := B4.out.size; omega))); have q5 : Hid (w5.cell? ⟨w3.heap.size, 0, none⟩ = some (fnP 120)) := Lib.hid ((hF5.cell _).trans ((World.cell?_alloc_lt w4 _ _ s4.out).trans q1.out)); have q6 : Hid (w5.cell? ⟨w4.heap.size, 0, none⟩ = some (fnP 121)) := Lib.hid ((hF5.cell _).trans (by simp)); have t5 : Hid (w4.heap.size < w5.heap.size) := Lib.hid (by rw [hF5.size]; simp); clear hF5 hF)
              | (go_at_call 119; refine (divided_ _ _).mono ?_; rintro e y ⟨rfl, rfl⟩; first | (have hG := Fed.begin (hF4.here.of_block (Below.heap_alloc _ (.cells #[fnP 121] 103) _ hF4.here.lt)); clear hF4; have hF4 := hG; clear hG) | (have hG := Fed.begin (hF3.here.of_block (Below.heap_alloc _ (.cells #[fnP 120] 103) _ hF3.here.lt)); clear hF3; have hF3 := hG; clear hG)))
      (try simp only [Exit.inBlock, Exit.then])
      go_ret2
      exact ⟨_, rfl, fun _ => ⟨122, #[_], rfl, call128, fun z hz a b h => by rw [show arSp op a b = arI (0) a.n b.n from by unfold arSp; rw [HT.out]; rfl]; exact arith5_ a b h.1 h.2 _ _ _ z ((ucell hz w5.heap.size 0 B5.out.size (by simp)).trans (by simp; rfl)) (arFn_spec z w3.heap.size w4.heap.size ((ucell hz _ 0 B3.out.size (by have := s4.out; have := t5.out; simp; omega)).trans ((World.cell?_alloc_lt _ _ _ (by have := s4.out; have := t5.out; show w3.heap.size < _; omega)).trans q5.out)) ((ucell hz _ 0 B4.out.size (by have := t5.out; simp; omega)).trans ((World.cell?_alloc_lt _ _ _ t5.out).trans q6.out)) (0))⟩, B5.out.alloc B5.out.size _⟩
    | 1, HT =>
      go_enter Tryz.func85, Tryz.ntmps85
      go_wp2_with (first
              | (refine wpList_insert_lit rfl (.tmp 7) _ _ _ _ _ rfl Tryz.underlying128 Tryz.underlying9 (Fed.made w) ⟨#[43]⟩ (fnP 116) rfl rfl rfl rfl ?_; intro w1 (hF1 : Fed _ w1 _ [(⟨#[43]⟩, fnP 116)]); skip)
              | (refine wpList_insert_lit rfl (.tmp 7) _ _ _ _ _ rfl Tryz.underlying128 Tryz.underlying9 hF1 ⟨#[45]⟩ (fnP 117) rfl rfl rfl rfl ?_; clear hF1; intro w2 (hF2 : Fed _ w2 _ [(⟨#[43]⟩, fnP 116), (⟨#[45]⟩, fnP 117)]); skip)
              | (refine wpList_insert_lit rfl (.tmp 7) _ _ _ _ _ rfl Tryz.underlying128 Tryz.underlying9 hF2 ⟨#[42]⟩ (fnP 118) rfl rfl rfl rfl ?_; clear hF2; intro w3 (hF3 : Fed _ w3 _ [(⟨#[43]⟩, fnP 116), (⟨#[45]⟩, fnP 117), (⟨#[42]⟩, fnP 118)]); have B3 : Hid (Below w.heap.size w w3) := Lib.hid ((new1 w _).trans (hF3.below (Nat.le_refl _) (by simp))))
              | (refine wpList_insert_lit rfl (.tmp 7) _ _ _ _ _ rfl Tryz.underlying128 Tryz.underlying9 hF3 ⟨#[47]⟩ (fnC w3.heap.size) rfl rfl rfl rfl ?_; clear hF3; intro w4 (hF4 : Fed _ w4 _ [(⟨#[43]⟩, fnP 116), (⟨#[45]⟩, fnP 117), (⟨#[42]⟩, fnP 118), (⟨#[47]⟩, fnC w3.heap.size)]); have B4 : Hid (Below w.heap.size w w4) := Lib.hid ((B3.out.alloc B3.out.size _).trans (hF4.below (Nat.le_refl _) (by simp; have := B3.out.size; omega))); have q1 : Hid (w4.cell? ⟨w3.heap.size, 0, none⟩ = some (fnP 120)) := Lib.hid ((hF4.cell _).trans (by simp)); have s4 : Hid (w3.heap.size < w4.heap.size) := Lib.hid (by rw [hF4.size]; simp))
              | (refine wpList_insert_lit rfl (.tmp 7) _ _ _ _ _ rfl Tryz.underlying128 Tryz.underlying9 hF4 ⟨#[109, 111, 100]⟩ (fnC w4.heap.size) rfl rfl rfl rfl ?_; clear hF4; intro w5 (hF5 : Fed _ w5 _ [(⟨#[43]⟩, fnP 116), (⟨#[45]⟩, fnP 117), (⟨#[42]⟩, fnP 118), (⟨#[47]⟩, fnC w3.heap.size), (⟨#[109, 111, 100]⟩, fnC w4.heap.size)]); have hF : Fed _ w5 _ (arTab.map fun p => (p.1, arFn w3.heap.size w4.heap.size p.2)) := hF5; have hlk := run_lookup_lit hF.here Tryz.underlying128 Tryz.underlying9 (zero126 _) op; rw [findE_map, HT.out] at hlk; simp only [Option.map_some, Option.getD_some, Option.isSome_some, arFn] at hlk; have B5 : Hid (Below w.heap.size w w5) := Lib.hid ((B4.out.alloc B4.out.size _).trans (hF5.below (Nat.le_refl _) (by simp; have := B4.out.size; omega))); have q5 : Hid (w5.cell? ⟨w3.heap.size, 0, none⟩ = some (fnP 120)) := Lib.hid ((hF5.cell _).trans ((World.cell?_alloc_lt w4 _ _ s4.out).trans q1.out)); have q6 : Hid (w5.cell? ⟨w4.heap.size, 0, none⟩ = some (fnP 121)) := Lib.hid ((hF5.cell _).trans (by simp)); have t5 : Hid (w4.heap.size < w5.heap.size) := Lib.hid (by rw [hF5.size]; simp); clear hF5 hF)
              | (go_at_call 119; refine (divided_ _ _).mono ?_; rintro e y ⟨rfl, rfl⟩; first | (have hG := Fed.begin (hF4.here.of_block (Below.heap_alloc _ (.cells #[fnP 121] 103) _ hF4.here.lt)); clear hF4; have hF4 := hG; clear hG) | (have hG := Fed.begin (hF3.here.of_block (Below.heap_alloc _ (.cells #[fnP 120] 103) _ hF3.here.lt)); clear hF3; have hF3 := hG; clear hG)))
      (try simp only [Exit.inBlock, Exit.then])
      go_ret2
      exact ⟨_, rfl, fun _ => ⟨122, #[_], rfl, call128, fun z hz a b h => by rw [show arSp op a b = arI (1) a.n b.n from by unfold arSp; rw [HT.out]; rfl]; exact arith5_ a b h.1 h.2 _ _ _ z ((ucell hz w5.heap.size 0 B5.out.size (by simp)).trans (by simp; rfl)) (arFn_spec z w3.heap.size w4.heap.size ((ucell hz _ 0 B3.out.size (by have := s4.out; have := t5.out; simp; omega)).trans ((World.cell?_alloc_lt _ _ _ (by have := s4.out; have := t5.out; show w3.heap.size < _; omega)).trans q5.out)) ((ucell hz _ 0 B4.out.size (by have := t5.out; simp; omega)).trans ((World.cell?_alloc_lt _ _ _ t5.out).trans q6.out)) (1))⟩, B5.out.alloc B5.out.size _⟩
    | 2, HT =>
      go_enter Tryz.func85, Tryz.ntmps85
      go_wp2_with (first
              | (refine wpList_insert_lit rfl (.tmp 7) _ _ _ _ _ rfl Tryz.underlying128 Tryz.underlying9 (Fed.made w) ⟨#[43]⟩ (fnP 116) rfl rfl rfl rfl ?_; intro w1 (hF1 : Fed _ w1 _ [(⟨#[43]⟩, fnP 116)]); skip)
              | (refine wpList_insert_lit rfl (.tmp 7) _ _ _ _ _ rfl Tryz.underlying128 Tryz.underlying9 hF1 ⟨#[45]⟩ (fnP 117) rfl rfl rfl rfl ?_; clear hF1; intro w2 (hF2 : Fed _ w2 _ [(⟨#[43]⟩, fnP 116), (⟨#[45]⟩, fnP 117)]); skip)
              | (refine wpList_insert_lit rfl (.tmp 7) _ _ _ _ _ rfl Tryz.underlying128 Tryz.underlying9 hF2 ⟨#[42]⟩ (fnP 118) rfl rfl rfl rfl ?_; clear hF2; intro w3 (hF3 : Fed _ w3 _ [(⟨#[43]⟩, fnP 116), (⟨#[45]⟩, fnP 117), (⟨#[42]⟩, fnP 118)]); have B3 : Hid (Below w.heap.size w w3) := Lib.hid ((new1 w _).trans (hF3.below (Nat.le_refl _) (by simp))))
              | (refine wpList_insert_lit rfl (.tmp 7) _ _ _ _ _ rfl Tryz.underlying128 Tryz.underlying9 hF3 ⟨#[47]⟩ (fnC w3.heap.size) rfl rfl rfl rfl ?_; clear hF3; intro w4 (hF4 : Fed _ w4 _ [(⟨#[43]⟩, fnP 116), (⟨#[45]⟩, fnP 117), (⟨#[42]⟩, fnP 118), (⟨#[47]⟩, fnC w3.heap.size)]); have B4 : Hid (Below w.heap.size w w4) := Lib.hid ((B3.out.alloc B3.out.size _).trans (hF4.below (Nat.le_refl _) (by simp; have := B3.out.size; omega))); have q1 : Hid (w4.cell? ⟨w3.heap.size, 0, none⟩ = some (fnP 120)) := Lib.hid ((hF4.cell _).trans (by simp)); have s4 : Hid (w3.heap.size < w4.heap.size) := Lib.hid (by rw [hF4.size]; simp))
              | (refine wpList_insert_lit rfl (.tmp 7) _ _ _ _ _ rfl Tryz.underlying128 Tryz.underlying9 hF4 ⟨#[109, 111, 100]⟩ (fnC w4.heap.size) rfl rfl rfl rfl ?_; clear hF4; intro w5 (hF5 : Fed _ w5 _ [(⟨#[43]⟩, fnP 116), (⟨#[45]⟩, fnP 117), (⟨#[42]⟩, fnP 118), (⟨#[47]⟩, fnC w3.heap.size), (⟨#[109, 111, 100]⟩, fnC w4.heap.size)]); have hF : Fed _ w5 _ (arTab.map fun p => (p.1, arFn w3.heap.size w4.heap.size p.2)) := hF5; have hlk := run_lookup_lit hF.here Tryz.underlying128 Tryz.underlying9 (zero126 _) op; rw [findE_map, HT.out] at hlk; simp only [Option.map_some, Option.getD_some, Option.isSome_some, arFn] at hlk; have B5 : Hid (Below w.heap.size w w5) := Lib.hid ((B4.out.alloc B4.out.size _).trans (hF5.below (Nat.le_refl _) (by simp; have := B4.out.size; omega))); have q5 : Hid (w5.cell? ⟨w3.heap.size, 0, none⟩ = some (fnP 120)) := Lib.hid ((hF5.cell _).trans ((World.cell?_alloc_lt w4 _ _ s4.out).trans q1.out)); have q6 : Hid (w5.cell? ⟨w4.heap.size, 0, none⟩ = some (fnP 121)) := Lib.hid ((hF5.cell _).trans (by simp)); have t5 : Hid (w4.heap.size < w5.heap.size) := Lib.hid (by rw [hF5.size]; simp); clear hF5 hF)
              | (go_at_call 119; refine (divided_ _ _).mono ?_; rintro e y ⟨rfl, rfl⟩; first | (have hG := Fed.begin (hF4.here.of_block (Below.heap_alloc _ (.cells #[fnP 121] 103) _ hF4.here.lt)); clear hF4; have hF4 := hG; clear hG) | (have hG := Fed.begin (hF3.here.of_block (Below.heap_alloc _ (.cells #[fnP 120] 103) _ hF3.here.lt)); clear hF3; have hF3 := hG; clear hG)))
      (try simp only [Exit.inBlock, Exit.then])
      go_ret2
      exact ⟨_, rfl, fun _ => ⟨122, #[_], rfl, call128, fun z hz a b h => by rw [show arSp op a b = arI (2) a.n b.n from by unfold arSp; rw [HT.out]; rfl]; exact arith5_ a b h.1 h.2 _ _ _ z ((ucell hz w5.heap.size 0 B5.out.size (by simp)).trans (by simp; rfl)) (arFn_spec z w3.heap.size w4.heap.size ((ucell hz _ 0 B3.out.size (by have := s4.out; have := t5.out; simp; omega)).trans ((World.cell?_alloc_lt _ _ _ (by have := s4.out; have := t5.out; show w3.heap.size < _; omega)).trans q5.out)) ((ucell hz _ 0 B4.out.size (by have := t5.out; simp; omega)).trans ((World.cell?_alloc_lt _ _ _ t5.out).trans q6.out)) (2))⟩, B5.out.alloc B5.out.size _⟩
    | 3, HT =>
      go_enter Tryz.func85, Tryz.ntmps85
      go_wp2_with (first
              | (refine wpList_insert_lit rfl (.tmp 7) _ _ _ _ _ rfl Tryz.underlying128 Tryz.underlying9 (Fed.made w) ⟨#[43]⟩ (fnP 116) rfl rfl rfl rfl ?_; intro w1 (hF1 : Fed _ w1 _ [(⟨#[43]⟩, fnP 116)]); skip)
              | (refine wpList_insert_lit rfl (.tmp 7) _ _ _ _ _ rfl Tryz.underlying128 Tryz.underlying9 hF1 ⟨#[45]⟩ (fnP 117) rfl rfl rfl rfl ?_; clear hF1; intro w2 (hF2 : Fed _ w2 _ [(⟨#[43]⟩, fnP 116), (⟨#[45]⟩, fnP 117)]); skip)
              | (refine wpList_insert_lit rfl (.tmp 7) _ _ _ _ _ rfl Tryz.underlying128 Tryz.underlying9 hF2 ⟨#[42]⟩ (fnP 118) rfl rfl rfl rfl ?_; clear hF2; intro w3 (hF3 : Fed _ w3 _ [(⟨#[43]⟩, fnP 116), (⟨#[45]⟩, fnP 117), (⟨#[42]⟩, fnP 118)]); have B3 : Hid (Below w.heap.size w w3) := Lib.hid ((new1 w _).trans (hF3.below (Nat.le_refl _) (by simp))))
              | (refine wpList_insert_lit rfl (.tmp 7) _ _ _ _ _ rfl Tryz.underlying128 Tryz.underlying9 hF3 ⟨#[47]⟩ (fnC w3.heap.size) rfl rfl rfl rfl ?_; clear hF3; intro w4 (hF4 : Fed _ w4 _ [(⟨#[43]⟩, fnP 116), (⟨#[45]⟩, fnP 117), (⟨#[42]⟩, fnP 118), (⟨#[47]⟩, fnC w3.heap.size)]); have B4 : Hid (Below w.heap.size w w4) := Lib.hid ((B3.out.alloc B3.out.size _).trans (hF4.below (Nat.le_refl _) (by simp; have := B3.out.size; omega))); have q1 : Hid (w4.cell? ⟨w3.heap.size, 0, none⟩ = some (fnP 120)) := Lib.hid ((hF4.cell _).trans (by simp)); have s4 : Hid (w3.heap.size < w4.heap.size) := Lib.hid (by rw [hF4.size]; simp))
              | (refine wpList_insert_lit rfl (.tmp 7) _ _ _ _ _ rfl Tryz.underlying128 Tryz.underlying9 hF4 ⟨#[109, 111, 100]⟩ (fnC w4.heap.size) rfl rfl rfl rfl ?_; clear hF4; intro w5 (hF5 : Fed _ w5 _ [(⟨#[43]⟩, fnP 116), (⟨#[45]⟩, fnP 117), (⟨#[42]⟩, fnP 118), (⟨#[47]⟩, fnC w3.heap.size), (⟨#[109, 111, 100]⟩, fnC w4.heap.size)]); have hF : Fed _ w5 _ (arTab.map fun p => (p.1, arFn w3.heap.size w4.heap.size p.2)) := hF5; have hlk := run_lookup_lit hF.here Tryz.underlying128 Tryz.underlying9 (zero126 _) op; rw [findE_map, HT.out] at hlk; simp only [Option.map_some, Option.getD_some, Option.isSome_some, arFn] at hlk; have B5 : Hid (Below w.heap.size w w5) := Lib.hid ((B4.out.alloc B4.out.size _).trans (hF5.below (Nat.le_refl _) (by simp; have := B4.out.size; omega))); have q5 : Hid (w5.cell? ⟨w3.heap.size, 0, none⟩ = some (fnP 120)) := Lib.hid ((hF5.cell _).trans ((World.cell?_alloc_lt w4 _ _ s4.out).trans q1.out)); have q6 : Hid (w5.cell? ⟨w4.heap.size, 0, none⟩ = some (fnP 121)) := Lib.hid ((hF5.cell _).trans (by simp)); have t5 : Hid (w4.heap.size < w5.heap.size) := Lib.hid (by rw [hF5.size]; simp); clear hF5 hF)
              | (go_at_call 119; refine (divided_ _ _).mono ?_; rintro e y ⟨rfl, rfl⟩; first | (have hG := Fed.begin (hF4.here.of_block (Below.heap_alloc _ (.cells #[fnP 121] 103) _ hF4.here.lt)); clear hF4; have hF4 := hG; clear hG) | (have hG := Fed.begin (hF3.here.of_block (Below.heap_alloc _ (.cells #[fnP 120] 103) _ hF3.here.lt)); clear hF3; have hF3 := hG; clear hG)))
      (try simp only [Exit.inBlock, Exit.then])
      go_ret2
      exact ⟨_, rfl, fun _ => ⟨122, #[_], rfl, call128, fun z hz a b h => by rw [show arSp op a b = arI (3) a.n b.n from by unfold arSp; rw [HT.out]; rfl]; exact arith5_ a b h.1 h.2 _ _ _ z ((ucell hz w5.heap.size 0 B5.out.size (by simp)).trans (by simp; rfl)) (arFn_spec z w3.heap.size w4.heap.size ((ucell hz _ 0 B3.out.size (by have := s4.out; have := t5.out; simp; omega)).trans ((World.cell?_alloc_lt _ _ _ (by have := s4.out; have := t5.out; show w3.heap.size < _; omega)).trans q5.out)) ((ucell hz _ 0 B4.out.size (by have := t5.out; simp; omega)).trans ((World.cell?_alloc_lt _ _ _ t5.out).trans q6.out)) (3))⟩, B5.out.alloc B5.out.size _⟩
    | i + 4, HT =>
      go_enter Tryz.func85, Tryz.ntmps85
      go_wp2_with (first
              | (refine wpList_insert_lit rfl (.tmp 7) _ _ _ _ _ rfl Tryz.underlying128 Tryz.underlying9 (Fed.made w) ⟨#[43]⟩ (fnP 116) rfl rfl rfl rfl ?_; intro w1 (hF1 : Fed _ w1 _ [(⟨#[43]⟩, fnP 116)]); skip)
              | (refine wpList_insert_lit rfl (.tmp 7) _ _ _ _ _ rfl Tryz.underlying128 Tryz.underlying9 hF1 ⟨#[45]⟩ (fnP 117) rfl rfl rfl rfl ?_; clear hF1; intro w2 (hF2 : Fed _ w2 _ [(⟨#[43]⟩, fnP 116), (⟨#[45]⟩, fnP 117)]); skip)
              | (refine wpList_insert_lit rfl (.tmp 7) _ _ _ _ _ rfl Tryz.underlying128 Tryz.underlying9 hF2 ⟨#[42]⟩ (fnP 118) rfl rfl rfl rfl ?_; clear hF2; intro w3 (hF3 : Fed _ w3 _ [(⟨#[43]⟩, fnP 116), (⟨#[45]⟩, fnP 117), (⟨#[42]⟩, fnP 118)]); have B3 : Hid (Below w.heap.size w w3) := Lib.hid ((new1 w _).trans (hF3.below (Nat.le_refl _) (by simp))))
              | (refine wpList_insert_lit rfl (.tmp 7) _ _ _ _ _ rfl Tryz.underlying128 Tryz.underlying9 hF3 ⟨#[47]⟩ (fnC w3.heap.size) rfl rfl rfl rfl ?_; clear hF3; intro w4 (hF4 : Fed _ w4 _ [(⟨#[43]⟩, fnP 116), (⟨#[45]⟩, fnP 117), (⟨#[42]⟩, fnP 118), (⟨#[47]⟩, fnC w3.heap.size)]); have B4 : Hid (Below w.heap.size w w4) := Lib.hid ((B3.out.alloc B3.out.size _).trans (hF4.below (Nat.le_refl _) (by simp; have := B3.out.size; omega))); have q1 : Hid (w4.cell? ⟨w3.heap.size, 0, none⟩ = some (fnP 120)) := Lib.hid ((hF4.cell _).trans (by simp)); have s4 : Hid (w3.heap.size < w4.heap.size) := Lib.hid (by rw [hF4.size]; simp))
              | (refine wpList_insert_lit rfl (.tmp 7) _ _ _ _ _ rfl Tryz.underlying128 Tryz.underlying9 hF4 ⟨#[109, 111, 100]⟩ (fnC w4.heap.size) rfl rfl rfl rfl ?_; clear hF4; intro w5 (hF5 : Fed _ w5 _ [(⟨#[43]⟩, fnP 116), (⟨#[45]⟩, fnP 117), (⟨#[42]⟩, fnP 118), (⟨#[47]⟩, fnC w3.heap.size), (⟨#[109, 111, 100]⟩, fnC w4.heap.size)]); have hF : Fed _ w5 _ (arTab.map fun p => (p.1, arFn w3.heap.size w4.heap.size p.2)) := hF5; have hlk := run_lookup_lit hF.here Tryz.underlying128 Tryz.underlying9 (zero126 _) op; rw [findE_map, HT.out] at hlk; simp only [Option.map_some, Option.getD_some, Option.isSome_some, arFn] at hlk; have B5 : Hid (Below w.heap.size w w5) := Lib.hid ((B4.out.alloc B4.out.size _).trans (hF5.below (Nat.le_refl _) (by simp; have := B4.out.size; omega))); have q5 : Hid (w5.cell? ⟨w3.heap.size, 0, none⟩ = some (fnP 120)) := Lib.hid ((hF5.cell _).trans ((World.cell?_alloc_lt w4 _ _ s4.out).trans q1.out)); have q6 : Hid (w5.cell? ⟨w4.heap.size, 0, none⟩ = some (fnP 121)) := Lib.hid ((hF5.cell _).trans (by simp)); have t5 : Hid (w4.heap.size < w5.heap.size) := Lib.hid (by rw [hF5.size]; simp); clear hF5 hF)
              | (go_at_call 119; refine (divided_ _ _).mono ?_; rintro e y ⟨rfl, rfl⟩; first | (have hG := Fed.begin (hF4.here.of_block (Below.heap_alloc _ (.cells #[fnP 121] 103) _ hF4.here.lt)); clear hF4; have hF4 := hG; clear hG) | (have hG := Fed.begin (hF3.here.of_block (Below.heap_alloc _ (.cells #[fnP 120] 103) _ hF3.here.lt)); clear hF3; have hF3 := hG; clear hG)))
      (try simp only [Exit.inBlock, Exit.then])
      go_ret2
      exact ⟨_, rfl, fun _ => ⟨122, #[_], rfl, call128, fun z hz a b h => by rw [show arSp op a b = arI (i + 4) a.n b.n from by unfold arSp; rw [HT.out]; rfl]; exact arith5_ a b h.1 h.2 _ _ _ z ((ucell hz w5.heap.size 0 B5.out.size (by simp)).trans (by simp; rfl)) (arFn_spec z w3.heap.size w4.heap.size ((ucell hz _ 0 B3.out.size (by have := s4.out; have := t5.out; simp; omega)).trans ((World.cell?_alloc_lt _ _ _ (by have := s4.out; have := t5.out; show w3.heap.size < _; omega)).trans q5.out)) ((ucell hz _ 0 B4.out.size (by have := t5.out; simp; omega)).trans ((World.cell?_alloc_lt _ _ _ t5.out).trans q6.out)) (i + 4))⟩, B5.out.alloc B5.out.size _⟩

end Go.Proofs.YthomeplakcbfoaaGreatDoor
