/-
  Aggregates: contracts, and what two lists put together give.
-/
import Derived.Test.YthomeplakcbfoaaGreatDoorSN
import Derived.Test.YthomeplakcbfoaaGreatDoorDD
import Derived.Test.YthomeplakcbfoaaGreatDoorVT
namespace Go.Proofs.YthomeplakcbfoaaGreatDoor
section
open Go.RowKit

theorem two_cells (w : World) (u v : Value) (t t' : TypeId) : ((w.alloc (.cells #[u] t)).alloc (.cells #[v] t')).cell? ⟨w.heap.size, 0, none⟩ = some u ∧ ((w.alloc (.cells #[u] t)).alloc (.cells #[v] t')).cell? ⟨w.heap.size + 1, 0, none⟩ = some v := by
  constructor
  · exact ((new1 (w.alloc (.cells #[u] t)) _).cell (p := ⟨w.heap.size, 0, none⟩) (by simp)).trans ((World.cell?_alloc_new w #[u] t 0).trans rfl)
  · have h := (World.cell?_alloc_new (w.alloc (.cells #[u] t)) #[v] t' 0).trans rfl
    rwa [sz1] at h
theorem two_old {w : World} (o o' : Obj) {b : Nat} (h : b < w.heap.size) : ((w.alloc o).alloc o').cell? ⟨b, 0, none⟩ = w.cell? ⟨b, 0, none⟩ :=
  ((new1 (w.alloc o) o').cell (p := ⟨b, 0, none⟩) (by rw [sz1]; exact Nat.lt_succ_of_lt h)).trans ((new1 w o).cell (p := ⟨b, 0, none⟩) h)
/-- The side on which the outermost value is. -/
def sideS (i : Nat) : Int := if i = 2 then -1 else 1
set_option maxRecDepth 100000 in
set_option maxHeartbeats 4000000 in
theorem aggregateOf2_ (op : ByteArray) (i : Nat) (hi : i = 2 ∨ i = 3) (hT : findT agTab op = some i) (w : World) : Calls Tryz.prog 44 #[.string op] w fun e w' => (∃ c c' : Nat, e = .returned (.tuple #[fnD c, .bool true]) ∧ w'.cell? ⟨c, 0, none⟩ = some (.func (.func 104) #[] #[.pointer (some ⟨c', 0, none⟩)]) ∧ w'.cell? ⟨c', 0, none⟩ = some (.int .i64 (sideS i))) ∧ Below w.heap.size w w' := by
  have hmm := @run_makeMap Tryz.prog
  have HT := Lib.hid hT
  clear hT
  rcases hi with hi | hi
  · subst hi
    go_enter Tryz.func44, Tryz.ntmps44
    go_wp2_with (first
            | (refine wpList_insert_lit rfl (.tmp 7) _ _ _ _ _ rfl Tryz.underlying94 Tryz.underlying9 (Fed.made w) ⟨#[99, 111, 117, 110, 116]⟩ (fnP 72) rfl rfl rfl rfl ?_; intro w1 (hF1 : Fed _ w1 _ [(⟨#[99, 111, 117, 110, 116]⟩, fnP 72)]); skip)
            | (refine wpList_insert_lit rfl (.tmp 7) _ _ _ _ _ rfl Tryz.underlying94 Tryz.underlying9 hF1 ⟨#[115, 117, 109]⟩ (fnP 73) rfl rfl rfl rfl ?_; clear hF1; intro w2 (hF2 : Fed _ w2 _ [(⟨#[99, 111, 117, 110, 116]⟩, fnP 72), (⟨#[115, 117, 109]⟩, fnP 73)]); have B2 : Hid (Below w.heap.size w w2) := Lib.hid ((new1 w _).trans (hF2.below (Nat.le_refl _) (by simp))))
            | (refine wpList_insert_lit rfl (.tmp 7) _ _ _ _ _ rfl Tryz.underlying94 Tryz.underlying9 hF2 ⟨#[109, 105, 110]⟩ (fnD (w2.heap.size + 1)) rfl rfl rfl rfl ?_; clear hF2; intro w3 (hF3 : Fed _ w3 _ [(⟨#[99, 111, 117, 110, 116]⟩, fnP 72), (⟨#[115, 117, 109]⟩, fnP 73), (⟨#[109, 105, 110]⟩, fnD (w2.heap.size + 1))]); have B3 : Hid (Below w.heap.size w w3) := Lib.hid (((B2.out.alloc B2.out.size _).alloc (by simp; have := B2.out.size; omega) _).trans (hF3.below (Nat.le_refl _) (by simp; have := B2.out.size; omega))); have C3 := Lib.hid (show (w3.cell? ⟨w2.heap.size, 0, none⟩ = some (.int .i64 (-1)) ∧ w3.cell? ⟨w2.heap.size + 1, 0, none⟩ = some (.func (.func 104) #[] #[.pointer (some ⟨w2.heap.size, 0, none⟩)])) ∧ w2.heap.size + 1 < w3.heap.size from ⟨⟨(hF3.cell _).trans (two_cells _ _ _ _ _).1, (hF3.cell _).trans (two_cells _ _ _ _ _).2⟩, by rw [hF3.size]; simp⟩))
            | (refine wpList_insert_lit rfl (.tmp 7) _ _ _ _ _ rfl Tryz.underlying94 Tryz.underlying9 hF3 ⟨#[109, 97, 120]⟩ (fnD (w3.heap.size + 1)) rfl rfl rfl rfl ?_; clear hF3; intro w4 (hF4 : Fed _ w4 _ [(⟨#[99, 111, 117, 110, 116]⟩, fnP 72), (⟨#[115, 117, 109]⟩, fnP 73), (⟨#[109, 105, 110]⟩, fnD (w2.heap.size + 1)), (⟨#[109, 97, 120]⟩, fnD (w3.heap.size + 1))]); have hF : Fed _ w4 _ (agTab.map fun p => (p.1, agFn (w2.heap.size + 1) (w3.heap.size + 1) p.2)) := hF4; have hlk := run_lookup_lit hF.here Tryz.underlying94 Tryz.underlying9 (zero82 _) op; rw [findE_map, HT.out] at hlk; simp only [Option.map_some, Option.getD_some, Option.isSome_some, agFn] at hlk; have B4 : Hid (Below w.heap.size w w4) := Lib.hid (((B3.out.alloc B3.out.size _).alloc (by simp; have := B3.out.size; omega) _).trans (hF4.below (Nat.le_refl _) (by simp; have := B3.out.size; omega))); have C4 := Lib.hid (show ((w4.cell? ⟨w2.heap.size, 0, none⟩ = some (.int .i64 (-1)) ∧ w4.cell? ⟨w2.heap.size + 1, 0, none⟩ = some (.func (.func 104) #[] #[.pointer (some ⟨w2.heap.size, 0, none⟩)])) ∧ (w4.cell? ⟨w3.heap.size, 0, none⟩ = some (.int .i64 1) ∧ w4.cell? ⟨w3.heap.size + 1, 0, none⟩ = some (.func (.func 104) #[] #[.pointer (some ⟨w3.heap.size, 0, none⟩)]))) from ⟨⟨(hF4.cell _).trans ((two_old (w := w3) _ _ (by have := C3.out.2; omega)).trans C3.out.1.1), (hF4.cell _).trans ((two_old (w := w3) _ _ (by have := C3.out.2; omega)).trans C3.out.1.2)⟩, (hF4.cell _).trans (two_cells _ _ _ _ _).1, (hF4.cell _).trans (two_cells _ _ _ _ _).2⟩); clear hF4 hF)
            | (go_at_call 75; refine (outermost_ _ _).mono ?_; rintro e y ⟨rfl, rfl⟩; first | (have hG := Fed.begin (hF3.here.of_block (Below.heap_alloc _ (.cells #[.int .i64 1] 3) _ hF3.here.lt)); clear hF3; have hF3 := hG; clear hG) | (have hG := Fed.begin (hF2.here.of_block (Below.heap_alloc _ (.cells #[.int .i64 (-1)] 3) _ hF2.here.lt)); clear hF2; have hF2 := hG; clear hG))
            | (go_at_call 74; refine (ofOneKind_ _ _ _).mono ?_; rintro e y ⟨rfl, rfl⟩; first | (have hG := Fed.begin (hF3.here.of_block (Below.heap_alloc _ (.cells #[.func (.func 104) #[] #[.pointer (some ⟨w3.heap.size, 0, none⟩)]] 59) _ hF3.here.lt)); clear hF3; have hF3 := hG; clear hG) | (have hG := Fed.begin (hF2.here.of_block (Below.heap_alloc _ (.cells #[.func (.func 104) #[] #[.pointer (some ⟨w2.heap.size, 0, none⟩)]] 59) _ hF2.here.lt)); clear hF2; have hF2 := hG; clear hG)))
    (try simp only [Exit.inBlock, Exit.then])
    go_ret2
    exact ⟨⟨_, _, rfl, C4.out.1.2, C4.out.1.1⟩, B4.out⟩
  · subst hi
    go_enter Tryz.func44, Tryz.ntmps44
    go_wp2_with (first
            | (refine wpList_insert_lit rfl (.tmp 7) _ _ _ _ _ rfl Tryz.underlying94 Tryz.underlying9 (Fed.made w) ⟨#[99, 111, 117, 110, 116]⟩ (fnP 72) rfl rfl rfl rfl ?_; intro w1 (hF1 : Fed _ w1 _ [(⟨#[99, 111, 117, 110, 116]⟩, fnP 72)]); skip)
            | (refine wpList_insert_lit rfl (.tmp 7) _ _ _ _ _ rfl Tryz.underlying94 Tryz.underlying9 hF1 ⟨#[115, 117, 109]⟩ (fnP 73) rfl rfl rfl rfl ?_; clear hF1; intro w2 (hF2 : Fed _ w2 _ [(⟨#[99, 111, 117, 110, 116]⟩, fnP 72), (⟨#[115, 117, 109]⟩, fnP 73)]); have B2 : Hid (Below w.heap.size w w2) := Lib.hid ((new1 w _).trans (hF2.below (Nat.le_refl _) (by simp))))
            | (refine wpList_insert_lit rfl (.tmp 7) _ _ _ _ _ rfl Tryz.underlying94 Tryz.underlying9 hF2 ⟨#[109, 105, 110]⟩ (fnD (w2.heap.size + 1)) rfl rfl rfl rfl ?_; clear hF2; intro w3 (hF3 : Fed _ w3 _ [(⟨#[99, 111, 117, 110, 116]⟩, fnP 72), (⟨#[115, 117, 109]⟩, fnP 73), (⟨#[109, 105, 110]⟩, fnD (w2.heap.size + 1))]); have B3 : Hid (Below w.heap.size w w3) := Lib.hid (((B2.out.alloc B2.out.size _).alloc (by simp; have := B2.out.size; omega) _).trans (hF3.below (Nat.le_refl _) (by simp; have := B2.out.size; omega))); have C3 := Lib.hid (show (w3.cell? ⟨w2.heap.size, 0, none⟩ = some (.int .i64 (-1)) ∧ w3.cell? ⟨w2.heap.size + 1, 0, none⟩ = some (.func (.func 104) #[] #[.pointer (some ⟨w2.heap.size, 0, none⟩)])) ∧ w2.heap.size + 1 < w3.heap.size from ⟨⟨(hF3.cell _).trans (two_cells _ _ _ _ _).1, (hF3.cell _).trans (two_cells _ _ _ _ _).2⟩, by rw [hF3.size]; simp⟩))
            | (refine wpList_insert_lit rfl (.tmp 7) _ _ _ _ _ rfl Tryz.underlying94 Tryz.underlying9 hF3 ⟨#[109, 97, 120]⟩ (fnD (w3.heap.size + 1)) rfl rfl rfl rfl ?_; clear hF3; intro w4 (hF4 : Fed _ w4 _ [(⟨#[99, 111, 117, 110, 116]⟩, fnP 72), (⟨#[115, 117, 109]⟩, fnP 73), (⟨#[109, 105, 110]⟩, fnD (w2.heap.size + 1)), (⟨#[109, 97, 120]⟩, fnD (w3.heap.size + 1))]); have hF : Fed _ w4 _ (agTab.map fun p => (p.1, agFn (w2.heap.size + 1) (w3.heap.size + 1) p.2)) := hF4; have hlk := run_lookup_lit hF.here Tryz.underlying94 Tryz.underlying9 (zero82 _) op; rw [findE_map, HT.out] at hlk; simp only [Option.map_some, Option.getD_some, Option.isSome_some, agFn] at hlk; have B4 : Hid (Below w.heap.size w w4) := Lib.hid (((B3.out.alloc B3.out.size _).alloc (by simp; have := B3.out.size; omega) _).trans (hF4.below (Nat.le_refl _) (by simp; have := B3.out.size; omega))); have C4 := Lib.hid (show ((w4.cell? ⟨w2.heap.size, 0, none⟩ = some (.int .i64 (-1)) ∧ w4.cell? ⟨w2.heap.size + 1, 0, none⟩ = some (.func (.func 104) #[] #[.pointer (some ⟨w2.heap.size, 0, none⟩)])) ∧ (w4.cell? ⟨w3.heap.size, 0, none⟩ = some (.int .i64 1) ∧ w4.cell? ⟨w3.heap.size + 1, 0, none⟩ = some (.func (.func 104) #[] #[.pointer (some ⟨w3.heap.size, 0, none⟩)]))) from ⟨⟨(hF4.cell _).trans ((two_old (w := w3) _ _ (by have := C3.out.2; omega)).trans C3.out.1.1), (hF4.cell _).trans ((two_old (w := w3) _ _ (by have := C3.out.2; omega)).trans C3.out.1.2)⟩, (hF4.cell _).trans (two_cells _ _ _ _ _).1, (hF4.cell _).trans (two_cells _ _ _ _ _).2⟩); clear hF4 hF)
            | (go_at_call 75; refine (outermost_ _ _).mono ?_; rintro e y ⟨rfl, rfl⟩; first | (have hG := Fed.begin (hF3.here.of_block (Below.heap_alloc _ (.cells #[.int .i64 1] 3) _ hF3.here.lt)); clear hF3; have hF3 := hG; clear hG) | (have hG := Fed.begin (hF2.here.of_block (Below.heap_alloc _ (.cells #[.int .i64 (-1)] 3) _ hF2.here.lt)); clear hF2; have hF2 := hG; clear hG))
            | (go_at_call 74; refine (ofOneKind_ _ _ _).mono ?_; rintro e y ⟨rfl, rfl⟩; first | (have hG := Fed.begin (hF3.here.of_block (Below.heap_alloc _ (.cells #[.func (.func 104) #[] #[.pointer (some ⟨w3.heap.size, 0, none⟩)]] 59) _ hF3.here.lt)); clear hF3; have hF3 := hG; clear hG) | (have hG := Fed.begin (hF2.here.of_block (Below.heap_alloc _ (.cells #[.func (.func 104) #[] #[.pointer (some ⟨w2.heap.size, 0, none⟩)]] 59) _ hF2.here.lt)); clear hF2; have hF2 := hG; clear hG)))
    (try simp only [Exit.inBlock, Exit.then])
    go_ret2
    exact ⟨⟨_, _, rfl, C4.out.2.2, C4.out.2.1⟩, B4.out⟩
set_option maxRecDepth 100000 in
set_option maxHeartbeats 4000000 in
theorem aggregateOf0_ (op : ByteArray) (hT : findT agTab op = some 0) (w : World) : Calls Tryz.prog 44 #[.string op] w fun e w' => e = .returned (.tuple #[fnP 72, .bool true]) ∧ Below w.heap.size w w' := by
  have hmm := @run_makeMap Tryz.prog
  have HT := Lib.hid hT
  clear hT
  go_enter Tryz.func44, Tryz.ntmps44
  go_wp2_with (first
            | (refine wpList_insert_lit rfl (.tmp 7) _ _ _ _ _ rfl Tryz.underlying94 Tryz.underlying9 (Fed.made w) ⟨#[99, 111, 117, 110, 116]⟩ (fnP 72) rfl rfl rfl rfl ?_; intro w1 (hF1 : Fed _ w1 _ [(⟨#[99, 111, 117, 110, 116]⟩, fnP 72)]); skip)
            | (refine wpList_insert_lit rfl (.tmp 7) _ _ _ _ _ rfl Tryz.underlying94 Tryz.underlying9 hF1 ⟨#[115, 117, 109]⟩ (fnP 73) rfl rfl rfl rfl ?_; clear hF1; intro w2 (hF2 : Fed _ w2 _ [(⟨#[99, 111, 117, 110, 116]⟩, fnP 72), (⟨#[115, 117, 109]⟩, fnP 73)]); have B2 : Hid (Below w.heap.size w w2) := Lib.hid ((new1 w _).trans (hF2.below (Nat.le_refl _) (by simp))))
            | (refine wpList_insert_lit rfl (.tmp 7) _ _ _ _ _ rfl Tryz.underlying94 Tryz.underlying9 hF2 ⟨#[109, 105, 110]⟩ (fnD (w2.heap.size + 1)) rfl rfl rfl rfl ?_; clear hF2; intro w3 (hF3 : Fed _ w3 _ [(⟨#[99, 111, 117, 110, 116]⟩, fnP 72), (⟨#[115, 117, 109]⟩, fnP 73), (⟨#[109, 105, 110]⟩, fnD (w2.heap.size + 1))]); have B3 : Hid (Below w.heap.size w w3) := Lib.hid (((B2.out.alloc B2.out.size _).alloc (by simp; have := B2.out.size; omega) _).trans (hF3.below (Nat.le_refl _) (by simp; have := B2.out.size; omega))))
            | (refine wpList_insert_lit rfl (.tmp 7) _ _ _ _ _ rfl Tryz.underlying94 Tryz.underlying9 hF3 ⟨#[109, 97, 120]⟩ (fnD (w3.heap.size + 1)) rfl rfl rfl rfl ?_; clear hF3; intro w4 (hF4 : Fed _ w4 _ [(⟨#[99, 111, 117, 110, 116]⟩, fnP 72), (⟨#[115, 117, 109]⟩, fnP 73), (⟨#[109, 105, 110]⟩, fnD (w2.heap.size + 1)), (⟨#[109, 97, 120]⟩, fnD (w3.heap.size + 1))]); have hF : Fed _ w4 _ (agTab.map fun p => (p.1, agFn (w2.heap.size + 1) (w3.heap.size + 1) p.2)) := hF4; have hlk := run_lookup_lit hF.here Tryz.underlying94 Tryz.underlying9 (zero82 _) op; rw [findE_map, HT.out] at hlk; simp only [Option.map_some, Option.getD_some, Option.isSome_some, agFn] at hlk; have B4 : Hid (Below w.heap.size w w4) := Lib.hid (((B3.out.alloc B3.out.size _).alloc (by simp; have := B3.out.size; omega) _).trans (hF4.below (Nat.le_refl _) (by simp; have := B3.out.size; omega))); clear hF4 hF)
            | (go_at_call 75; refine (outermost_ _ _).mono ?_; rintro e y ⟨rfl, rfl⟩; first | (have hG := Fed.begin (hF3.here.of_block (Below.heap_alloc _ (.cells #[.int .i64 1] 3) _ hF3.here.lt)); clear hF3; have hF3 := hG; clear hG) | (have hG := Fed.begin (hF2.here.of_block (Below.heap_alloc _ (.cells #[.int .i64 (-1)] 3) _ hF2.here.lt)); clear hF2; have hF2 := hG; clear hG))
            | (go_at_call 74; refine (ofOneKind_ _ _ _).mono ?_; rintro e y ⟨rfl, rfl⟩; first | (have hG := Fed.begin (hF3.here.of_block (Below.heap_alloc _ (.cells #[.func (.func 104) #[] #[.pointer (some ⟨w3.heap.size, 0, none⟩)]] 59) _ hF3.here.lt)); clear hF3; have hF3 := hG; clear hG) | (have hG := Fed.begin (hF2.here.of_block (Below.heap_alloc _ (.cells #[.func (.func 104) #[] #[.pointer (some ⟨w2.heap.size, 0, none⟩)]] 59) _ hF2.here.lt)); clear hF2; have hF2 := hG; clear hG)))
  (try simp only [Exit.inBlock, Exit.then])
  go_ret2
  exact ⟨rfl, B4.out⟩
/-- The outermost value, if all are of one kind. -/
def minS (d : Int) (l : List Va) : Va × Int := if oneK 0 l = false then (nulV, 16) else (outF d nulV l, 0)
set_option maxRecDepth 100000 in
theorem ofOneKindF_ (d : Int) (cc c' : Nat) (A : Option Addr) (c : Nat) (l : List Va) (w : World) (hl : l.length ≤ maxLen) (h : Sl w A l) (h1 : w.cell? ⟨cc, 0, none⟩ = some (.func (.func 104) #[] #[.pointer (some ⟨c', 0, none⟩)])) (h2 : w.cell? ⟨c', 0, none⟩ = some (.int .i64 d)) :
    Calls Tryz.prog 103 #[.slice A l.length c, .pointer (some ⟨cc, 0, none⟩)] w fun e w' => e = .returned (two (minS d l)) ∧ Below w.heap.size w w' := by
  have hb1 := World.block_lt_of_cell? w _ h1
  have hb2 := World.block_lt_of_cell? w _ h2
  cases q : oneK 0 l
  · have H : Hid (minS d l = (nulV, 16)) := Lib.hid (by unfold minS; rw [if_pos q])
    go_enter Tryz.func103, Tryz.ntmps103
    go_wp2_with (first
      | (go_at_call 58; refine (oneKind_ 0 A c l _ hl (h.below (new1 w _))).mono ?_; rintro e y ⟨rfl, hb⟩; rw [q]; have K : Hid (KL w y [(w.heap.size, .int .i64 0, .int .i64 0, .string ⟨#[]⟩)]) := Lib.hid (KL.below ((KL.refl w).push _ _ _ 27) hb); clear hb; obtain ⟨HB, ⟨r0, r1, r2, g0, g1, g2, rl⟩, _⟩ := K.out))
    (try simp only [Exit.inBlock, Exit.then])
    exact ret_two rfl rfl K.out.q.1 rfl ⟨by rw [H.out]; rfl, _root_.Go.Proofs.YthomeplakcbfoaaGreatDoor.set3 HB _ (Nat.le_refl _) _ _ _⟩
  · have H : Hid (minS d l = (outF d nulV l, 0)) := Lib.hid (by unfold minS; rw [if_neg (by simp [q])])
    go_enter Tryz.func103, Tryz.ntmps103
    go_wp2_with (first
      | (go_at_call 58; refine (oneKind_ 0 A c l _ hl (h.below (new1 w _))).mono ?_; rintro e y ⟨rfl, hb⟩; rw [q]; have K : Hid (KL w y [(w.heap.size, .int .i64 0, .int .i64 0, .string ⟨#[]⟩)]) := Lib.hid (KL.below ((KL.refl w).push _ _ _ 27) hb); clear hb; obtain ⟨HB, ⟨r0, r1, r2, g0, g1, g2, rl⟩, _⟩ := K.out; have e1 := (bcell HB cc 0 hb1).trans h1; have e2 := (bcell HB c' 0 hb2).trans h2)
      | (go_at_call 104; refine (outer_ d c' A c l _ hl (h.below HB) e2).mono ?_; rintro e y ⟨rfl, hb⟩; have K' := Lib.hid (KL.below K.out hb); clear hb K HB r0 r1 r2 g0 g1 g2 rl; have K := K'; clear K'; obtain ⟨HB, ⟨r0, r1, r2, g0, g1, g2, rl⟩, _⟩ := K.out))
    (try simp only [Exit.inBlock, Exit.then])
    exact ret_two rfl rfl K.out.q.1 rfl ⟨by rw [H.out]; rfl, _root_.Go.Proofs.YthomeplakcbfoaaGreatDoor.set3 HB _ (Nat.le_refl _) _ _ _⟩
/-- What an aggregate of the four gives. -/
def agS : Nat → List Va → Va × Int
  | 0, l => (intV (cntS l), 0)
  | 1, l => sumS l
  | i + 2, l => minS (sideS (i + 2)) l
set_option maxRecDepth 100000 in
theorem aggr_ (op : ByteArray) (i : Nat) (hT : findT agTab op = some i) (A : Option Addr) (c : Nat) (l : List Va) (w : World) (hl : l.length ≤ maxLen) (h : Sl w A l) (hok : allOk l = true) :
    Calls Tryz.prog 10 #[.string op, .slice A l.length c] w fun e w' => e = .returned (two (agS i l)) ∧ Below w.heap.size w w' := by
  have hi : i < 4 := by
    unfold findT agTab at hT
    repeat' (split at hT)
    all_goals first | (cases hT; done) | (simp at hT; omega)
  match i, hi, hT with
  | 0, _, hT =>
    go_enter Tryz.func10, Tryz.ntmps10
    go_wp2_with (first
      | (go_at_call 38; refine (allValid_ A c l _ hl (h.below (new1 w _))).mono ?_; rintro e y ⟨rfl, hb⟩; rw [hok]; have K : Hid (KL w y [(w.heap.size, .int .i64 0, .int .i64 0, .string ⟨#[]⟩)]) := Lib.hid (KL.below ((KL.refl w).push _ _ _ 27) hb); clear hb; obtain ⟨HB, ⟨r0, r1, r2, g0, g1, g2, rl⟩, _⟩ := K.out)
      | (go_at_call 44; refine (aggregateOf0_ op hT _).mono ?_; rintro e y ⟨rfl, hb⟩; have K' := Lib.hid (KL.below K.out hb); clear hb K HB r0 r1 r2 g0 g1 g2 rl; have K := K'; clear K'; obtain ⟨HB, ⟨r0, r1, r2, g0, g1, g2, rl⟩, _⟩ := K.out)
      | (go_at_call 72; refine (count_ A c l _ hl (h.below HB)).mono ?_; rintro e y ⟨rfl, hb⟩; have K' := Lib.hid (KL.below K.out hb); clear hb K HB r0 r1 r2 g0 g1 g2 rl; have K := K'; clear K'; obtain ⟨HB, ⟨r0, r1, r2, g0, g1, g2, rl⟩, _⟩ := K.out))
    (try simp only [Exit.inBlock, Exit.then])
    exact ret_two rfl rfl K.out.q.1 rfl ⟨rfl, _root_.Go.Proofs.YthomeplakcbfoaaGreatDoor.set3 HB _ (Nat.le_refl _) _ _ _⟩
  | 1, _, hT =>
    go_enter Tryz.func10, Tryz.ntmps10
    go_wp2_with (first
      | (go_at_call 38; refine (allValid_ A c l _ hl (h.below (new1 w _))).mono ?_; rintro e y ⟨rfl, hb⟩; rw [hok]; have K : Hid (KL w y [(w.heap.size, .int .i64 0, .int .i64 0, .string ⟨#[]⟩)]) := Lib.hid (KL.below ((KL.refl w).push _ _ _ 27) hb); clear hb; obtain ⟨HB, ⟨r0, r1, r2, g0, g1, g2, rl⟩, _⟩ := K.out)
      | (go_at_call 44; refine (aggregateOf_ op 1 hT _).mono ?_; rintro e y ⟨f, caps, rfl, hf, hb⟩; obtain ⟨rfl, rfl⟩ := hf hT; have K' := Lib.hid (KL.below K.out hb); clear hb hf K HB r0 r1 r2 g0 g1 g2 rl; have K := K'; clear K'; obtain ⟨HB, ⟨r0, r1, r2, g0, g1, g2, rl⟩, _⟩ := K.out)
      | (go_at_call 73; refine (sum_ A c l _ hl hok (h.below HB)).mono ?_; rintro e y ⟨rfl, hb⟩; have K' := Lib.hid (KL.below K.out hb); clear hb K HB r0 r1 r2 g0 g1 g2 rl; have K := K'; clear K'; obtain ⟨HB, ⟨r0, r1, r2, g0, g1, g2, rl⟩, _⟩ := K.out))
    (try simp only [Exit.inBlock, Exit.then])
    exact ret_two rfl rfl K.out.q.1 rfl ⟨rfl, _root_.Go.Proofs.YthomeplakcbfoaaGreatDoor.set3 HB _ (Nat.le_refl _) _ _ _⟩
  | j + 2, hj, hT =>
    have hi2 : j + 2 = 2 ∨ j + 2 = 3 := by omega
    go_enter Tryz.func10, Tryz.ntmps10
    go_wp2_with (first
      | (go_at_call 38; refine (allValid_ A c l _ hl (h.below (new1 w _))).mono ?_; rintro e y ⟨rfl, hb⟩; rw [hok]; have K : Hid (KL w y [(w.heap.size, .int .i64 0, .int .i64 0, .string ⟨#[]⟩)]) := Lib.hid (KL.below ((KL.refl w).push _ _ _ 27) hb); clear hb; obtain ⟨HB, ⟨r0, r1, r2, g0, g1, g2, rl⟩, _⟩ := K.out)
      | (go_at_call 44; refine (aggregateOf2_ op (j + 2) hi2 hT _).mono ?_; rintro e y ⟨⟨cc, c', rfl, e1, e2⟩, hb⟩; have K' := Lib.hid (KL.below K.out hb); clear hb K HB r0 r1 r2 g0 g1 g2 rl; have K := K'; clear K'; obtain ⟨HB, ⟨r0, r1, r2, g0, g1, g2, rl⟩, _⟩ := K.out)
      | (go_at_call 103; refine (ofOneKindF_ (sideS (j + 2)) cc c' A c l _ hl (h.below HB) e1 e2).mono ?_; rintro e y ⟨rfl, hb⟩; have K' := Lib.hid (KL.below K.out hb); clear hb K HB r0 r1 r2 g0 g1 g2 rl; have K := K'; clear K'; obtain ⟨HB, ⟨r0, r1, r2, g0, g1, g2, rl⟩, _⟩ := K.out))
    (try simp only [Exit.inBlock, Exit.then])
    exact ret_two rfl rfl K.out.q.1 rfl ⟨rfl, _root_.Go.Proofs.YthomeplakcbfoaaGreatDoor.set3 HB _ (Nat.le_refl _) _ _ _⟩
end
end Go.Proofs.YthomeplakcbfoaaGreatDoor
namespace Go.Proofs.YthomeplakcbfoaaGreatDoor
section
open Go.RowKit

theorem set3_cell (x : World) {b : Nat} {p : Addr} (hp : p.block ≠ b) (u0 u1 u2 : Value) : (((x.setCell ⟨b, 0, none⟩ u0).setCell ⟨b, 1, none⟩ u1).setCell ⟨b, 2, none⟩ u2).cell? p = x.cell? p :=
  (World.cell?_setCell_other _ _ _ _ (by intro e; apply hp; rw [← e])).trans ((World.cell?_setCell_other _ _ _ _ (by intro e; apply hp; rw [← e])).trans (World.cell?_setCell_other _ _ _ _ (by intro e; apply hp; rw [← e])))
theorem two_ints (w : World) (o : Obj) : ((w.alloc o).alloc (.cells #[.int .i64 0, .int .i64 0] 25)).cell? ⟨w.heap.size + 1, 0, none⟩ = some (.int .i64 0) ∧ ((w.alloc o).alloc (.cells #[.int .i64 0, .int .i64 0] 25)).cell? ⟨w.heap.size + 1, 1, none⟩ = some (.int .i64 0) := by
  have h0 := (World.cell?_alloc_new (w.alloc o) #[.int .i64 0, .int .i64 0] 25 0).trans rfl
  have h1 := (World.cell?_alloc_new (w.alloc o) #[.int .i64 0, .int .i64 0] 25 1).trans rfl
  rw [sz1] at h0 h1
  exact ⟨h0, h1⟩
def RetTwo (d : Int) (w : World) (e : Ending) (w' : World) : Prop :=
  (∃ b c' : Nat, e = .returned (.tuple #[.agg #[.slice (some ⟨b, 0, none⟩) 2 2, .bool false, .func (.func 104) #[] #[.pointer (some ⟨c', 0, none⟩)]], .bool true]) ∧ w'.cell? ⟨c', 0, none⟩ = some (.int .i64 d) ∧ w'.cell? ⟨b, 0, none⟩ = some (.int .i64 0) ∧ w'.cell? ⟨b, 1, none⟩ = some (.int .i64 0) ∧ w.heap.size ≤ b ∧ w.heap.size ≤ c') ∧ Below w.heap.size w w'
set_option maxRecDepth 100000 in
set_option maxHeartbeats 1000000 in
theorem ofTwo_least (op : ByteArray) (ho : op = ⟨#[108, 101, 97, 115, 116]⟩) (w : World) : Calls Tryz.prog 67 #[.string op] w (RetTwo (-1) w) := by
  have hmm := @run_makeMap Tryz.prog
  have HO := Lib.hid ho
  clear ho
  go_enter Tryz.func67, Tryz.ntmps67
  go_wp2_with (first
            | (refine wpList_insert_lit rfl (.tmp 7) _ _ _ _ _ rfl Tryz.underlying109 Tryz.underlying9 (Fed.made' _ _ (sz1 _ _)) ⟨#[110, 118, 108]⟩ (.agg #[.slice none 0 0, .bool true, fnP 100]) rfl rfl rfl rfl ?_; intro w1 (hF1 : Fed _ w1 _ [(⟨#[110, 118, 108]⟩, .agg #[.slice none 0 0, .bool true, fnP 100])]); skip)
            | (refine wpList_insert_lit rfl (.tmp 7) _ _ _ _ _ rfl Tryz.underlying109 Tryz.underlying9 hF1 ⟨#[110, 117, 108, 108, 105, 102]⟩ (.agg #[.slice none 0 0, .bool true, fnP 101]) rfl rfl rfl rfl ?_; clear hF1; intro w2 (hF2 : Fed _ w2 _ [(⟨#[110, 118, 108]⟩, .agg #[.slice none 0 0, .bool true, fnP 100]), (⟨#[110, 117, 108, 108, 105, 102]⟩, .agg #[.slice none 0 0, .bool true, fnP 101])]); have B2 : Hid (KL w w2 [(w.heap.size, .slice none 0 0, .bool false, .nilFunc)]) := Lib.hid ⟨((new2 w _ _)).trans (hF2.below (by omega) (by simp; omega)), ((B3.new w _ _ _ 61).alloc _).fed hF2, trivial⟩)
            | (refine wpList_insert_lit rfl (.tmp 7) _ _ _ _ _ rfl Tryz.underlying109 Tryz.underlying9 hF2 ⟨#[108, 101, 97, 115, 116]⟩ (.agg #[.slice none 0 0, .bool false, .func (.func 104) #[] #[.pointer (some ⟨w2.heap.size, 0, none⟩)]]) rfl rfl rfl rfl ?_; clear hF2; intro w3 (hF3 : Fed _ w3 _ [(⟨#[110, 118, 108]⟩, .agg #[.slice none 0 0, .bool true, fnP 100]), (⟨#[110, 117, 108, 108, 105, 102]⟩, .agg #[.slice none 0 0, .bool true, fnP 101]), (⟨#[108, 101, 97, 115, 116]⟩, .agg #[.slice none 0 0, .bool false, .func (.func 104) #[] #[.pointer (some ⟨w2.heap.size, 0, none⟩)]])]); have B3_ : Hid (KL w w3 [(w.heap.size, .slice none 0 0, .bool false, .nilFunc)]) := Lib.hid ⟨(B2.out.alloc _).HB.trans (hF3.below (by omega) (by have := B2.out.HB.size; simp; omega)), (B2.out.alloc _).q.1.fed hF3, trivial⟩; have C3 := Lib.hid (show w3.cell? ⟨w2.heap.size, 0, none⟩ = some (.int .i64 (-1)) ∧ w2.heap.size < w3.heap.size from ⟨(hF3.cell _).trans ((World.cell?_alloc_new w2 #[.int .i64 (-1)] 3 0).trans rfl), by rw [hF3.size]; simp⟩))
            | (refine wpList_insert_lit rfl (.tmp 7) _ _ _ _ _ rfl Tryz.underlying109 Tryz.underlying9 hF3 ⟨#[103, 114, 101, 97, 116, 101, 115, 116]⟩ (.agg #[.slice none 0 0, .bool false, .func (.func 104) #[] #[.pointer (some ⟨w3.heap.size, 0, none⟩)]]) rfl rfl rfl rfl ?_; clear hF3; intro w4 (hF4 : Fed _ w4 _ [(⟨#[110, 118, 108]⟩, .agg #[.slice none 0 0, .bool true, fnP 100]), (⟨#[110, 117, 108, 108, 105, 102]⟩, .agg #[.slice none 0 0, .bool true, fnP 101]), (⟨#[108, 101, 97, 115, 116]⟩, .agg #[.slice none 0 0, .bool false, .func (.func 104) #[] #[.pointer (some ⟨w2.heap.size, 0, none⟩)]]), (⟨#[103, 114, 101, 97, 116, 101, 115, 116]⟩, .agg #[.slice none 0 0, .bool false, .func (.func 104) #[] #[.pointer (some ⟨w3.heap.size, 0, none⟩)]])]); have B4 : Hid (KL w w4 [(w.heap.size, .slice none 0 0, .bool false, .nilFunc)]) := Lib.hid ⟨(B3_.out.alloc _).HB.trans (hF4.below (by omega) (by have := B3_.out.HB.size; simp; omega)), (B3_.out.alloc _).q.1.fed hF4, trivial⟩; have hlk := run_lookup_lit hF4.here Tryz.underlying109 Tryz.underlying9 (zero84 _) op; rw [show findE [(⟨#[110, 118, 108]⟩, .agg #[.slice none 0 0, .bool true, fnP 100]), (⟨#[110, 117, 108, 108, 105, 102]⟩, .agg #[.slice none 0 0, .bool true, fnP 101]), (⟨#[108, 101, 97, 115, 116]⟩, .agg #[.slice none 0 0, .bool false, .func (.func 104) #[] #[.pointer (some ⟨w2.heap.size, 0, none⟩)]]), (⟨#[103, 114, 101, 97, 116, 101, 115, 116]⟩, .agg #[.slice none 0 0, .bool false, .func (.func 104) #[] #[.pointer (some ⟨w3.heap.size, 0, none⟩)]])] op = some (.agg #[.slice none 0 0, .bool false, .func (.func 104) #[] #[.pointer (some ⟨w2.heap.size, 0, none⟩)]]) from by rw [HO.out]; rfl] at hlk; simp only [Option.getD_some, Option.isSome_some] at hlk; have K : Hid (KL w ((w4.alloc (.cells #[.slice (some ⟨w4.heap.size + 1, 0, none⟩) 2 2, .bool false, .func (.func 104) #[] #[.pointer (some ⟨w2.heap.size, 0, none⟩)]] 61)).alloc (.cells #[.int .i64 0, .int .i64 0] 25)) [(w.heap.size, .slice none 0 0, .bool false, .nilFunc)]) := Lib.hid ((B4.out.alloc _).alloc _); obtain ⟨HB, ⟨r0, r1, r2, g0, g1, g2, rl⟩, _⟩ := K.out; have C4 := Lib.hid (show (w4.cell? ⟨w2.heap.size, 0, none⟩ = some (.int .i64 (-1)) ∧ w4.cell? ⟨w3.heap.size, 0, none⟩ = some (.int .i64 1)) ∧ w3.heap.size < w4.heap.size from ⟨⟨(hF4.cell _).trans ((bcell (new1 w3 _) _ 0 C3.out.2).trans C3.out.1), (hF4.cell _).trans ((World.cell?_alloc_new w3 #[.int .i64 1] 3 0).trans rfl)⟩, by rw [hF4.size]; simp⟩); clear hF4)
            | (go_at_call 75; refine (outermost_ _ _).mono ?_; rintro e y ⟨rfl, rfl⟩; first | (have hG := Fed.begin (hF3.here.of_block (Below.heap_alloc _ (.cells #[.int .i64 1] 3) _ hF3.here.lt)); clear hF3; have hF3 := hG; clear hG) | (have hG := Fed.begin (hF2.here.of_block (Below.heap_alloc _ (.cells #[.int .i64 (-1)] 3) _ hF2.here.lt)); clear hF2; have hF2 := hG; clear hG)))
  (try simp only [Exit.inBlock, Exit.then])
  have hs2 := C3.out.2
  have hs4 := C4.out.2
  have hsw := B2.out.q.1.lt
  have hz := two_ints w4 (.cells #[.slice (some ⟨w4.heap.size + 1, 0, none⟩) 2 2, .bool false, .func (.func 104) #[] #[.pointer (some ⟨w2.heap.size, 0, none⟩)]] 61)
  refine ret_fn rfl rfl K.out.q.1 rfl ⟨⟨_, _, rfl, ?_, ?_, ?_, by omega, by omega⟩, _root_.Go.Proofs.YthomeplakcbfoaaGreatDoor.set3 HB _ (Nat.le_refl _) _ _ _⟩
  · exact (set3_cell _ (by simp; omega) _ _ _).trans ((two_old _ _ (by omega)).trans C4.out.1.1)
  · exact (set3_cell _ (by simp; omega) _ _ _).trans hz.1
  · exact (set3_cell _ (by simp; omega) _ _ _).trans hz.2
set_option maxRecDepth 100000 in
set_option maxHeartbeats 1000000 in
theorem ofTwo_greatest (op : ByteArray) (ho : op = ⟨#[103, 114, 101, 97, 116, 101, 115, 116]⟩) (w : World) : Calls Tryz.prog 67 #[.string op] w (RetTwo 1 w) := by
  have hmm := @run_makeMap Tryz.prog
  have HO := Lib.hid ho
  clear ho
  go_enter Tryz.func67, Tryz.ntmps67
  go_wp2_with (first
            | (refine wpList_insert_lit rfl (.tmp 7) _ _ _ _ _ rfl Tryz.underlying109 Tryz.underlying9 (Fed.made' _ _ (sz1 _ _)) ⟨#[110, 118, 108]⟩ (.agg #[.slice none 0 0, .bool true, fnP 100]) rfl rfl rfl rfl ?_; intro w1 (hF1 : Fed _ w1 _ [(⟨#[110, 118, 108]⟩, .agg #[.slice none 0 0, .bool true, fnP 100])]); skip)
            | (refine wpList_insert_lit rfl (.tmp 7) _ _ _ _ _ rfl Tryz.underlying109 Tryz.underlying9 hF1 ⟨#[110, 117, 108, 108, 105, 102]⟩ (.agg #[.slice none 0 0, .bool true, fnP 101]) rfl rfl rfl rfl ?_; clear hF1; intro w2 (hF2 : Fed _ w2 _ [(⟨#[110, 118, 108]⟩, .agg #[.slice none 0 0, .bool true, fnP 100]), (⟨#[110, 117, 108, 108, 105, 102]⟩, .agg #[.slice none 0 0, .bool true, fnP 101])]); have B2 : Hid (KL w w2 [(w.heap.size, .slice none 0 0, .bool false, .nilFunc)]) := Lib.hid ⟨((new2 w _ _)).trans (hF2.below (by omega) (by simp; omega)), ((B3.new w _ _ _ 61).alloc _).fed hF2, trivial⟩)
            | (refine wpList_insert_lit rfl (.tmp 7) _ _ _ _ _ rfl Tryz.underlying109 Tryz.underlying9 hF2 ⟨#[108, 101, 97, 115, 116]⟩ (.agg #[.slice none 0 0, .bool false, .func (.func 104) #[] #[.pointer (some ⟨w2.heap.size, 0, none⟩)]]) rfl rfl rfl rfl ?_; clear hF2; intro w3 (hF3 : Fed _ w3 _ [(⟨#[110, 118, 108]⟩, .agg #[.slice none 0 0, .bool true, fnP 100]), (⟨#[110, 117, 108, 108, 105, 102]⟩, .agg #[.slice none 0 0, .bool true, fnP 101]), (⟨#[108, 101, 97, 115, 116]⟩, .agg #[.slice none 0 0, .bool false, .func (.func 104) #[] #[.pointer (some ⟨w2.heap.size, 0, none⟩)]])]); have B3_ : Hid (KL w w3 [(w.heap.size, .slice none 0 0, .bool false, .nilFunc)]) := Lib.hid ⟨(B2.out.alloc _).HB.trans (hF3.below (by omega) (by have := B2.out.HB.size; simp; omega)), (B2.out.alloc _).q.1.fed hF3, trivial⟩; have C3 := Lib.hid (show w3.cell? ⟨w2.heap.size, 0, none⟩ = some (.int .i64 (-1)) ∧ w2.heap.size < w3.heap.size from ⟨(hF3.cell _).trans ((World.cell?_alloc_new w2 #[.int .i64 (-1)] 3 0).trans rfl), by rw [hF3.size]; simp⟩))
            | (refine wpList_insert_lit rfl (.tmp 7) _ _ _ _ _ rfl Tryz.underlying109 Tryz.underlying9 hF3 ⟨#[103, 114, 101, 97, 116, 101, 115, 116]⟩ (.agg #[.slice none 0 0, .bool false, .func (.func 104) #[] #[.pointer (some ⟨w3.heap.size, 0, none⟩)]]) rfl rfl rfl rfl ?_; clear hF3; intro w4 (hF4 : Fed _ w4 _ [(⟨#[110, 118, 108]⟩, .agg #[.slice none 0 0, .bool true, fnP 100]), (⟨#[110, 117, 108, 108, 105, 102]⟩, .agg #[.slice none 0 0, .bool true, fnP 101]), (⟨#[108, 101, 97, 115, 116]⟩, .agg #[.slice none 0 0, .bool false, .func (.func 104) #[] #[.pointer (some ⟨w2.heap.size, 0, none⟩)]]), (⟨#[103, 114, 101, 97, 116, 101, 115, 116]⟩, .agg #[.slice none 0 0, .bool false, .func (.func 104) #[] #[.pointer (some ⟨w3.heap.size, 0, none⟩)]])]); have B4 : Hid (KL w w4 [(w.heap.size, .slice none 0 0, .bool false, .nilFunc)]) := Lib.hid ⟨(B3_.out.alloc _).HB.trans (hF4.below (by omega) (by have := B3_.out.HB.size; simp; omega)), (B3_.out.alloc _).q.1.fed hF4, trivial⟩; have hlk := run_lookup_lit hF4.here Tryz.underlying109 Tryz.underlying9 (zero84 _) op; rw [show findE [(⟨#[110, 118, 108]⟩, .agg #[.slice none 0 0, .bool true, fnP 100]), (⟨#[110, 117, 108, 108, 105, 102]⟩, .agg #[.slice none 0 0, .bool true, fnP 101]), (⟨#[108, 101, 97, 115, 116]⟩, .agg #[.slice none 0 0, .bool false, .func (.func 104) #[] #[.pointer (some ⟨w2.heap.size, 0, none⟩)]]), (⟨#[103, 114, 101, 97, 116, 101, 115, 116]⟩, .agg #[.slice none 0 0, .bool false, .func (.func 104) #[] #[.pointer (some ⟨w3.heap.size, 0, none⟩)]])] op = some (.agg #[.slice none 0 0, .bool false, .func (.func 104) #[] #[.pointer (some ⟨w3.heap.size, 0, none⟩)]]) from by rw [HO.out]; rfl] at hlk; simp only [Option.getD_some, Option.isSome_some] at hlk; have K : Hid (KL w ((w4.alloc (.cells #[.slice (some ⟨w4.heap.size + 1, 0, none⟩) 2 2, .bool false, .func (.func 104) #[] #[.pointer (some ⟨w3.heap.size, 0, none⟩)]] 61)).alloc (.cells #[.int .i64 0, .int .i64 0] 25)) [(w.heap.size, .slice none 0 0, .bool false, .nilFunc)]) := Lib.hid ((B4.out.alloc _).alloc _); obtain ⟨HB, ⟨r0, r1, r2, g0, g1, g2, rl⟩, _⟩ := K.out; have C4 := Lib.hid (show (w4.cell? ⟨w2.heap.size, 0, none⟩ = some (.int .i64 (-1)) ∧ w4.cell? ⟨w3.heap.size, 0, none⟩ = some (.int .i64 1)) ∧ w3.heap.size < w4.heap.size from ⟨⟨(hF4.cell _).trans ((bcell (new1 w3 _) _ 0 C3.out.2).trans C3.out.1), (hF4.cell _).trans ((World.cell?_alloc_new w3 #[.int .i64 1] 3 0).trans rfl)⟩, by rw [hF4.size]; simp⟩); clear hF4)
            | (go_at_call 75; refine (outermost_ _ _).mono ?_; rintro e y ⟨rfl, rfl⟩; first | (have hG := Fed.begin (hF3.here.of_block (Below.heap_alloc _ (.cells #[.int .i64 1] 3) _ hF3.here.lt)); clear hF3; have hF3 := hG; clear hG) | (have hG := Fed.begin (hF2.here.of_block (Below.heap_alloc _ (.cells #[.int .i64 (-1)] 3) _ hF2.here.lt)); clear hF2; have hF2 := hG; clear hG)))
  (try simp only [Exit.inBlock, Exit.then])
  have hs2 := C3.out.2
  have hs4 := C4.out.2
  have hsw := B2.out.q.1.lt
  have hz := two_ints w4 (.cells #[.slice (some ⟨w4.heap.size + 1, 0, none⟩) 2 2, .bool false, .func (.func 104) #[] #[.pointer (some ⟨w3.heap.size, 0, none⟩)]] 61)
  refine ret_fn rfl rfl K.out.q.1 rfl ⟨⟨_, _, rfl, ?_, ?_, ?_, by omega, by omega⟩, _root_.Go.Proofs.YthomeplakcbfoaaGreatDoor.set3 HB _ (Nat.le_refl _) _ _ _⟩
  · exact (set3_cell _ (by simp; omega) _ _ _).trans ((two_old _ _ (by omega)).trans C4.out.1.2)
  · exact (set3_cell _ (by simp; omega) _ _ _).trans hz.1
  · exact (set3_cell _ (by simp; omega) _ _ _).trans hz.2
end
end Go.Proofs.YthomeplakcbfoaaGreatDoor
namespace Go.Proofs.YthomeplakcbfoaaGreatDoor
section
open Go.RowKit

/-- The side of a function, and the kinds that it takes. -/
def TwoAt (x : World) (b c' : Nat) (d : Int) : Prop := x.cell? ⟨c', 0, none⟩ = some (.int .i64 d) ∧ x.cell? ⟨b, 0, none⟩ = some (.int .i64 0) ∧ x.cell? ⟨b, 1, none⟩ = some (.int .i64 0)
theorem TwoAt.below {x y : World} {b c' : Nat} {d : Int} (h : TwoAt x b c' d) (hb : Below x.heap.size x y) : TwoAt y b c' d :=
  ⟨(bcell hb c' 0 (World.block_lt_of_cell? x _ h.1)).trans h.1, (bcell hb b 0 (World.block_lt_of_cell? x _ h.2.1)).trans h.2.1, (bcell hb b 1 (World.block_lt_of_cell? x _ h.2.2)).trans h.2.2⟩
theorem TwoAt.ints {x : World} {b c' : Nat} {d : Int} (h : TwoAt x b c' d) : ∀ (i : Nat) (e : Int), [0, 0][i]? = some e → x.cell? ⟨b, i, none⟩ = some (.int .i64 e) := by
  intro i e he
  match i, he with
  | 0, he => cases he; exact h.2.1
  | 1, he => cases he; exact h.2.2
theorem TwoAt.lt {x : World} {b c' : Nat} {d : Int} (h : TwoAt x b c' d) : b < x.heap.size := World.block_lt_of_cell? x _ h.2.1
set_option maxRecDepth 100000 in
theorem functionOf_out (op : ByteArray) (d : Int) (h1 : findE ofIntegerMap op = none) (h2 : findE ofTextMap op = none) (h3 : ∀ x, Calls Tryz.prog 67 #[.string op] x (RetTwo d x)) (w : World) : Calls Tryz.prog 39 #[.string op] w (RetTwo d w) := by
  have H1 := Lib.hid h1
  have H2 := Lib.hid h2
  have H3 := Lib.hid h3
  clear h1 h2 h3
  go_enter Tryz.func39, Tryz.ntmps39
  go_wp2_with (first
    | (go_at_call 65; refine (ofInteger_no _ H1.out _).mono ?_; rintro e y ⟨fv, rfl, hb⟩; have K : Hid (KL w y [(w.heap.size, .slice none 0 0, .bool false, .nilFunc)]) := Lib.hid (KL.below ((KL.refl w).push _ _ _ 61) hb); clear hb; obtain ⟨HB, ⟨r0, r1, r2, g0, g1, g2, rl⟩, _⟩ := K.out)
    | (go_at_call 66; refine (ofText_no _ H2.out _).mono ?_; rintro e y ⟨fv, rfl, hb⟩; have K' := Lib.hid (KL.below K.out hb); clear hb K HB r0 r1 r2 g0 g1 g2 rl; have K := K'; clear K'; obtain ⟨HB, ⟨r0, r1, r2, g0, g1, g2, rl⟩, _⟩ := K.out)
    | (go_at_call 67; refine (H3.out _).mono ?_; rintro e y ⟨⟨b, c', rfl, t1, t2, t3, l1, l2⟩, hb⟩; have hl1 := Nat.lt_of_lt_of_le rl l1; have hl2 := Nat.lt_of_lt_of_le rl l2; have TT := Lib.hid (TwoAt.below (show TwoAt y b c' d from ⟨t1, t2, t3⟩) (new1 y (.cells #[.slice (some ⟨b, 0, none⟩) 2 2, .bool false, .func (.func 104) #[] #[.pointer (some ⟨c', 0, none⟩)]] 61))); clear t1 t2 t3 l1 l2; have K' := Lib.hid (KL.alloc (KL.below K.out hb) (.cells #[.slice (some ⟨b, 0, none⟩) 2 2, .bool false, .func (.func 104) #[] #[.pointer (some ⟨c', 0, none⟩)]] 61)); clear hb K HB r0 r1 r2 g0 g1 g2 rl; have K := K'; clear K'; obtain ⟨HB, ⟨r0, r1, r2, g0, g1, g2, rl⟩, _⟩ := K.out))
  (try simp only [Exit.inBlock, Exit.then])
  exact ret_fn rfl rfl K.out.q.1 rfl ⟨⟨_, _, rfl, (set3_cell _ (by simp; omega) _ _ _).trans TT.out.1, (set3_cell _ (by simp; omega) _ _ _).trans TT.out.2.1, (set3_cell _ (by simp; omega) _ _ _).trans TT.out.2.2, by omega, by omega⟩, _root_.Go.Proofs.YthomeplakcbfoaaGreatDoor.set3 HB _ (Nat.le_refl _) _ _ _⟩
set_option maxRecDepth 100000 in
set_option maxHeartbeats 1000000 in
theorem callOuter_ (op : ByteArray) (d : Int) (hf : ∀ x, Calls Tryz.prog 39 #[.string op] x (RetTwo d x)) (p q : Va) (A : Option Addr) (c : Nat) (w : World) (hok : allOk [p, q] = true) (hk : oneK 0 [p, q] = true) (hn : hasNull [p, q] = false) (h : Sl w A [p, q]) :
    Calls Tryz.prog 8 #[.string op, .slice A 2 c] w fun e w' => e = .returned (two (outF d nulV [p, q], 0)) ∧ Below w.heap.size w w' := by
  have hfit : fitsL [p, q] 0 [0, 0] = true := by simpa [fitsL] using hk
  have HF := Lib.hid hf
  clear hf hk
  go_enter Tryz.func8, Tryz.ntmps8
  go_wp2_with (first
    | (go_at_call 38; refine (allValid_ A c [p, q] _ (by simp [maxLen]) (h.below (new1 w _))).mono ?_; rintro e y ⟨rfl, hb⟩; rw [hok]; have K : Hid (KL w y [(w.heap.size, .int .i64 0, .int .i64 0, .string ⟨#[]⟩)]) := Lib.hid (KL.below ((KL.refl w).push _ _ _ 27) hb); clear hb; obtain ⟨HB, ⟨r0, r1, r2, g0, g1, g2, rl⟩, _⟩ := K.out)
    | (go_at_call 39; refine (HF.out _).mono ?_; rintro e y2 ⟨⟨b, c', rfl, t1, t2, t3, l1, l2⟩, hb⟩; have TT := Lib.hid (TwoAt.below (show TwoAt y2 b c' d from ⟨t1, t2, t3⟩) (new1 y2 (.cells #[.slice (some ⟨b, 0, none⟩) 2 2, .bool false, .func (.func 104) #[] #[.pointer (some ⟨c', 0, none⟩)]] 61))); have K' := Lib.hid (KL.push (KL.below K.out hb) (.slice (some ⟨b, 0, none⟩) 2 2) (.bool false) (.func (.func 104) #[] #[.pointer (some ⟨c', 0, none⟩)]) 61); clear hb t1 t2 t3 l1 l2 K HB r0 r1 r2 g0 g1 g2 rl; have K := K'; clear K'; obtain ⟨HB, ⟨p0, p1, p2, _, _, _, pl⟩, ⟨r0, r1, r2, g0, g1, g2, rl⟩, _⟩ := K.out)
    | (go_at_call 40; refine (fits_ b [0, 0] 2 false 104 _ A c [p, q] _ (by simp [maxLen]) (h.below HB) rfl TT.out.ints TT.out.lt).mono ?_; rintro e y3 ⟨rfl, hb⟩; rw [hfit]; have TT' := Lib.hid (TT.out.below hb); have K' := Lib.hid (KL.below K.out hb); clear hb TT K HB p0 p1 p2 pl r0 r1 r2 g0 g1 g2 rl; have K := K'; have TT := TT'; clear K' TT'; obtain ⟨HB, ⟨p0, p1, p2, _, _, _, pl⟩, ⟨r0, r1, r2, g0, g1, g2, rl⟩, _⟩ := K.out)
    | (go_at_call 41; refine (someNull_ A c [p, q] _ (by simp [maxLen]) (h.below HB)).mono ?_; rintro e y3 ⟨rfl, hb⟩; rw [hn]; have TT' := Lib.hid (TT.out.below hb); have K' := Lib.hid (KL.below K.out hb); clear hb TT K HB p0 p1 p2 pl r0 r1 r2 g0 g1 g2 rl; have K := K'; have TT := TT'; clear K' TT'; obtain ⟨HB, ⟨p0, p1, p2, _, _, _, pl⟩, ⟨r0, r1, r2, g0, g1, g2, rl⟩, _⟩ := K.out)
    | (go_at_call 104; refine (outer_ d c' A c [p, q] _ (by simp [maxLen]) (h.below HB) TT.out.1).mono ?_; rintro e y3 ⟨rfl, hb⟩; have K' := Lib.hid (KL.below K.out hb); clear hb TT K HB p0 p1 p2 pl r0 r1 r2 g0 g1 g2 rl; have K := K'; clear K'; obtain ⟨HB, ⟨p0, p1, p2, _, _, _, pl⟩, ⟨r0, r1, r2, g0, g1, g2, rl⟩, _⟩ := K.out))
  (try simp only [Exit.inBlock, Exit.then])
  exact ret_two rfl rfl K.out.q.2.1 rfl ⟨rfl, _root_.Go.Proofs.YthomeplakcbfoaaGreatDoor.set3 HB _ (Nat.le_refl _) _ _ _⟩
theorem functionOf_least (w : World) : Calls Tryz.prog 39 #[.string ⟨#[108, 101, 97, 115, 116]⟩] w (RetTwo (-1) w) := functionOf_out _ _ rfl rfl (fun x => ofTwo_least _ rfl x) w
theorem functionOf_greatest (w : World) : Calls Tryz.prog 39 #[.string ⟨#[103, 114, 101, 97, 116, 101, 115, 116]⟩] w (RetTwo 1 w) := functionOf_out _ _ rfl rfl (fun x => ofTwo_greatest _ rfl x) w
end
end Go.Proofs.YthomeplakcbfoaaGreatDoor
namespace Go.Proofs.YthomeplakcbfoaaGreatDoor
section
open Go.RowKit

/-- compareBytes is an order. -/
theorem cb_anti : ∀ a b : List UInt8, Lib.compareBytes a b = - Lib.compareBytes b a
  | [], [] => rfl
  | [], _ :: _ => rfl
  | _ :: _, [] => rfl
  | x :: a, y :: b => by
    have ih := cb_anti a b
    simp only [Lib.compareBytes]
    by_cases h1 : x < y
    · have h2 : ¬ y < x := by rw [UInt8.lt_iff_toNat_lt] at *; omega
      simp [h1, h2]
    · by_cases h2 : y < x
      · simp [h1, h2]
      · simp only [h1, h2, if_false]; exact ih
theorem cb_zero : ∀ a b : List UInt8, Lib.compareBytes a b = 0 ↔ a = b
  | [], [] => by simp [Lib.compareBytes]
  | [], _ :: _ => by simp [Lib.compareBytes]
  | _ :: _, [] => by simp [Lib.compareBytes]
  | x :: a, y :: b => by
    have ih := cb_zero a b
    simp only [Lib.compareBytes]
    by_cases h1 : x < y
    · have h3 : x ≠ y := by rintro rfl; rw [UInt8.lt_iff_toNat_lt] at h1; omega
      simp [h1, h3]
    · by_cases h2 : y < x
      · have h3 : x ≠ y := by rintro rfl; rw [UInt8.lt_iff_toNat_lt] at h2; omega
        simp [h1, h2, h3]
      · have h3 : x = y := by rw [UInt8.lt_iff_toNat_lt] at *; exact UInt8.toNat_inj.1 (by omega)
        simp [h3, ih]
theorem cb_trans : ∀ a b c : List UInt8, Lib.compareBytes a b ≤ 0 → Lib.compareBytes b c ≤ 0 → Lib.compareBytes a c ≤ 0
  | [], _, [], _, _ => by simp [Lib.compareBytes]
  | [], _, _ :: _, _, _ => by simp [Lib.compareBytes]
  | _ :: _, [], _, h, _ => by simp [Lib.compareBytes] at h
  | _ :: _, _ :: _, [], _, h => by simp [Lib.compareBytes] at h
  | x :: a, y :: b, z :: c, h, k => by
    have ih := cb_trans a b c
    simp only [Lib.compareBytes] at h k ⊢
    by_cases h1 : x < y
    · by_cases k1 : y < z
      · have : x < z := by rw [UInt8.lt_iff_toNat_lt] at *; omega
        simp [this]
      · by_cases k2 : z < y
        · simp [k1, k2] at k
        · have : x < z := by rw [UInt8.lt_iff_toNat_lt] at *; omega
          simp [this]
    · by_cases h2 : y < x
      · simp [h1, h2] at h
      · by_cases k1 : y < z
        · have : x < z := by rw [UInt8.lt_iff_toNat_lt] at *; omega
          simp [this]
        · by_cases k2 : z < y
          · simp [k1, k2] at k
          · have g1 : ¬ x < z := by rw [UInt8.lt_iff_toNat_lt] at *; omega
            have g2 : ¬ z < x := by rw [UInt8.lt_iff_toNat_lt] at *; omega
            simp only [h1, h2, k1, k2, g1, g2, if_false] at h k ⊢
            exact ih h k
theorem ci_anti (a b : Int) : Lib.compareInt a b = - Lib.compareInt b a := by unfold Lib.compareInt; repeat' split <;> omega
theorem ci_zero (a b : Int) : Lib.compareInt a b = 0 ↔ a = b := by unfold Lib.compareInt; repeat' split <;> omega
theorem ci_trans (a b c : Int) (h : Lib.compareInt a b ≤ 0) (k : Lib.compareInt b c ≤ 0) : Lib.compareInt a c ≤ 0 := by
  unfold Lib.compareInt at *; repeat' split at * <;> omega
theorem cb_bd : ∀ a b : List UInt8, -1 ≤ Lib.compareBytes a b ∧ Lib.compareBytes a b ≤ 1
  | [], [] => by simp [Lib.compareBytes]
  | [], _ :: _ => by simp [Lib.compareBytes]
  | _ :: _, [] => by simp [Lib.compareBytes]
  | x :: a, y :: b => by
    have ih := cb_bd a b
    simp only [Lib.compareBytes]
    split
    · decide
    · split
      · decide
      · exact ih
theorem cmpV_bd (k n n' : Int) (s s' : ByteArray) : -1 ≤ cmpV k n s n' s' ∧ cmpV k n s n' s' ≤ 1 := by
  unfold cmpV; split
  · exact cb_bd _ _
  · unfold Lib.compareInt; repeat' split <;> omega

/-- Valid, and of a kind, or null. -/
def GK (κ : Int) (v : Va) : Prop := v.ok = true ∧ (v.k = 0 ∨ v.k = κ)
def cm (x y : Va) : Int := cmpV x.k x.n x.s y.n y.s
theorem cm_bd (x y : Va) : -1 ≤ cm x y ∧ cm x y ≤ 1 := cmpV_bd _ _ _ _ _
theorem cm_anti {x y : Va} (h : x.k = y.k) : cm x y = - cm y x := by
  unfold cm cmpV
  rw [h]
  split
  · exact cb_anti _ _
  · exact ci_anti _ _
theorem cm_trans {x y z : Va} (h : x.k = y.k) (_h2 : y.k = z.k) (a : cm x y ≤ 0) (b : cm y z ≤ 0) : cm x z ≤ 0 := by
  unfold cm cmpV at *
  rw [← h] at b
  split at a
  · rename_i q
    rw [if_pos q] at b
    rw [if_pos q]
    exact cb_trans _ _ _ a b
  · rename_i q
    rw [if_neg q] at b
    rw [if_neg q]
    exact ci_trans _ _ _ a b
theorem GK.null {κ : Int} {v : Va} (h : GK κ v) (h0 : v.k = 0) : v = nulV := by
  rcases ok_cases v h.1 with e | ⟨n, -, -, rfl⟩ | ⟨b, rfl⟩ | ⟨b, rfl⟩
  · exact e
  · exact absurd h0 (by simp [intV])
  · exact absurd h0 (by simp [txtV])
  · exact absurd h0 (by simp [booV])
theorem cm_zero {x y : Va} (hx : x.ok = true) (hy : y.ok = true) (h : x.k = y.k) (h0 : x.k ≠ 0) (e : cm x y = 0) : x = y := by
  have tx : ∀ b : Bs, (txtV (baOf b)).k = 2 := fun _ => rfl
  have ix : ∀ n, (intV n).k = 1 := fun _ => rfl
  have bx : ∀ b, (booV b).k = 3 := fun _ => rfl
  have nx : nulV.k = 0 := rfl
  rcases ok_cases x hx with rfl | ⟨n, -, -, rfl⟩ | ⟨b, rfl⟩ | ⟨b, rfl⟩
  · exact absurd rfl h0
  · rcases ok_cases y hy with rfl | ⟨m, -, -, rfl⟩ | ⟨c, rfl⟩ | ⟨c, rfl⟩
    · rw [ix, nx] at h; cases h
    · have e2 : Lib.compareInt n m = 0 := e
      rw [(ci_zero _ _).1 e2]
    · rw [ix, tx] at h; cases h
    · rw [ix, bx] at h; cases h
  · rcases ok_cases y hy with rfl | ⟨m, -, -, rfl⟩ | ⟨c, rfl⟩ | ⟨c, rfl⟩
    · rw [tx, nx] at h; cases h
    · rw [ix, tx] at h; cases h
    · have e2 : Lib.compareBytes b c = 0 := e
      rw [(cb_zero _ _).1 e2]
    · rw [tx, bx] at h; cases h
  · rcases ok_cases y hy with rfl | ⟨m, -, -, rfl⟩ | ⟨c, rfl⟩ | ⟨c, rfl⟩
    · rw [bx, nx] at h; cases h
    · rw [ix, bx] at h; cases h
    · rw [tx, bx] at h; cases h
    · have e2 : Lib.compareInt (b2i b) (b2i c) = 0 := e
      have e3 := (ci_zero _ _).1 e2
      cases b <;> cases c <;> first | rfl | (simp [b2i] at e3)
/-- The better one of two. -/
def best (d : Int) (p q : Va) : Va := if takesO d q p = true then q else p
theorem outF_fold (d : Int) : ∀ (l : List Va) (p : Va), outF d p l = l.foldl (best d) p
  | [], _ => rfl
  | v :: r, p => outF_fold d r (best d p v)
theorem best_nul (d : Int) (p : Va) : best d p nulV = p := by unfold best takesO; rw [if_neg (by simp [nulV])]
theorem best_nulL {κ : Int} (d : Int) {p : Va} (h : GK κ p) : best d nulV p = p := by
  unfold best takesO
  by_cases h0 : p.k = 0
  · rw [h.null h0, if_neg (by simp [nulV])]
  · rw [if_pos (by simp [h0, nulV])]
theorem best_non (d : Int) {p q : Va} (hp : p.k ≠ 0) (hq : q.k ≠ 0) : best d p q = if cm q p = d then q else p := by
  unfold best takesO cm
  by_cases h : cmpV q.k q.n q.s p.n p.s = d
  · rw [if_pos h, if_pos (by simp [hq, h])]
  · rw [if_neg h, if_neg (by simp [hp, hq, h])]
theorem best_GK {κ : Int} (d : Int) {p q : Va} (hp : GK κ p) (hq : GK κ q) : GK κ (best d p q) := by unfold best; split <;> assumption
/-- One is at least as good as the other. -/
def Dm (d : Int) (x y : Va) : Prop := cm y x ≠ d
section
variable {d κ : Int}
theorem Dm.refl (hd : d = 1 ∨ d = -1) (x : Va) : Dm d x x := by
  have h : cm x x = - cm x x := cm_anti rfl
  unfold Dm; omega
theorem Dm.trans (hd : d = 1 ∨ d = -1) {x y z : Va} (h : x.k = y.k) (h2 : y.k = z.k) (a : Dm d x y) (b : Dm d y z) : Dm d x z := by
  unfold Dm at *
  have e1 : cm y x = - cm x y := cm_anti h.symm
  have e2 : cm z y = - cm y z := cm_anti h2.symm
  have e3 : cm z x = - cm x z := cm_anti (h.trans h2).symm
  have b1 := cm_bd y x
  have b2 := cm_bd z y
  have b3 := cm_bd z x
  rcases hd with rfl | rfl
  · have := cm_trans h2.symm h.symm (by omega) (by omega)
    omega
  · have := cm_trans h h2 (by omega) (by omega)
    omega
theorem Dm.anti (hd : d = 1 ∨ d = -1) {x y : Va} (hx : x.ok = true) (hy : y.ok = true) (h : x.k = y.k) (h0 : x.k ≠ 0) (a : Dm d x y) (b : Dm d y x) : x = y := by
  unfold Dm at *
  have e1 : cm y x = - cm x y := cm_anti h.symm
  have b1 := cm_bd y x
  exact cm_zero hx hy h h0 (by omega)
theorem best_top (hd : d = 1 ∨ d = -1) {p q : Va} (hp : p.k ≠ 0) (hq : q.k ≠ 0) (h : p.k = q.k) : (best d p q = p ∨ best d p q = q) ∧ Dm d (best d p q) p ∧ Dm d (best d p q) q := by
  rw [best_non d hp hq]
  have e1 : cm p q = - cm q p := cm_anti h
  by_cases e : cm q p = d
  · rw [if_pos e]
    exact ⟨.inr rfl, by unfold Dm; omega, Dm.refl hd q⟩
  · rw [if_neg e]
    exact ⟨.inl rfl, Dm.refl hd p, e⟩
theorem best_comm (hd : d = 1 ∨ d = -1) {p q : Va} (hp : GK κ p) (hq : GK κ q) : best d p q = best d q p := by
  by_cases p0 : p.k = 0
  · rw [hp.null p0, best_nul, best_nulL d hq]
  · by_cases q0 : q.k = 0
    · rw [hq.null q0, best_nul, best_nulL d hp]
    · have hk : p.k = q.k := by have := hp.2; have := hq.2; omega
      obtain ⟨m1, a1, a2⟩ := best_top hd p0 q0 hk
      obtain ⟨m2, b1, b2⟩ := best_top hd q0 p0 hk.symm
      have c1 : (best d p q).ok = true := (best_GK d hp hq).1
      have c2 : (best d q p).ok = true := (best_GK d hq hp).1
      refine Dm.anti hd c1 c2 ?_ ?_ ?_ ?_
      · rcases m1 with e | e <;> rcases m2 with f | f <;> rw [e, f] <;> first | rfl | exact hk | exact hk.symm
      · rcases m1 with e | e <;> rw [e] <;> assumption
      · rcases m2 with f | f <;> rw [f] <;> assumption
      · rcases m1 with e | e <;> rw [e] <;> assumption
theorem best_assoc (hd : d = 1 ∨ d = -1) {p q r : Va} (hp : GK κ p) (hq : GK κ q) (hr : GK κ r) : best d (best d p q) r = best d p (best d q r) := by
  by_cases p0 : p.k = 0
  · rw [hp.null p0, best_nulL d hq, best_nulL d (best_GK d hq hr)]
  · by_cases q0 : q.k = 0
    · rw [hq.null q0, best_nul, best_nulL d hr]
    · by_cases r0 : r.k = 0
      · rw [hr.null r0, best_nul, best_nul]
      · have k1 : p.k = κ := by have := hp.2; omega
        have k2 : q.k = κ := by have := hq.2; omega
        have k3 : r.k = κ := by have := hr.2; omega
        have κ0 : κ ≠ 0 := by rw [← k1]; exact p0
        have key : ∀ x, (x = p ∨ x = q ∨ x = r) → x.k = κ ∧ x.ok = true := by rintro x (rfl | rfl | rfl) <;> constructor <;> first | assumption | exact hp.1 | exact hq.1 | exact hr.1
        obtain ⟨m1, a1, a2⟩ := best_top hd p0 q0 (k1.trans k2.symm)
        have mk1 : (best d p q).k = κ := by rcases m1 with e | e <;> rw [e] <;> assumption
        obtain ⟨m2, a3, a4⟩ := best_top (p := best d p q) hd (by rw [mk1]; exact κ0) r0 (mk1.trans k3.symm)
        obtain ⟨n1, b1, b2⟩ := best_top hd q0 r0 (k2.trans k3.symm)
        have nk1 : (best d q r).k = κ := by rcases n1 with e | e <;> rw [e] <;> assumption
        obtain ⟨n2, b3, b4⟩ := best_top (q := best d q r) hd p0 (by rw [nk1]; exact κ0) (k1.trans nk1.symm)
        have mem1 : best d (best d p q) r = p ∨ best d (best d p q) r = q ∨ best d (best d p q) r = r := by
          rcases m2 with e | e
          · rw [e]; rcases m1 with f | f <;> rw [f] <;> simp
          · rw [e]; simp
        have mem2 : best d p (best d q r) = p ∨ best d p (best d q r) = q ∨ best d p (best d q r) = r := by
          rcases n2 with e | e
          · rw [e]; simp
          · rw [e]; rcases n1 with f | f <;> rw [f] <;> simp
        generalize best d (best d p q) r = s at *
        generalize best d p (best d q r) = t at *
        obtain ⟨sk, so⟩ := key s mem1
        obtain ⟨tk, tok⟩ := key t mem2
        have s1 : Dm d s p := Dm.trans hd (sk.trans mk1.symm) (mk1.trans k1.symm) a3 a1
        have s2 : Dm d s q := Dm.trans hd (sk.trans mk1.symm) (mk1.trans k2.symm) a3 a2
        have t2 : Dm d t q := Dm.trans hd (tk.trans nk1.symm) (nk1.trans k2.symm) b4 b1
        have t3 : Dm d t r := Dm.trans hd (tk.trans nk1.symm) (nk1.trans k3.symm) b4 b2
        refine Dm.anti hd so tok (sk.trans tk.symm) (by rw [sk]; exact κ0) ?_ ?_
        · rcases mem2 with e | e | e <;> rw [e] <;> assumption
        · rcases mem1 with e | e | e <;> rw [e] <;> assumption
theorem fold_GK : ∀ (l : List Va) (p : Va), GK κ p → (∀ v ∈ l, GK κ v) → GK κ (l.foldl (best d) p)
  | [], _, h, _ => h
  | v :: r, p, h, hl => fold_GK r _ (best_GK d h (hl v (by simp))) (fun u hu => hl u (by simp [hu]))
theorem nul_GK : GK κ nulV := ⟨nul_ok, .inl rfl⟩
theorem fold_best (hd : d = 1 ∨ d = -1) : ∀ (l : List Va) (p : Va), GK κ p → (∀ v ∈ l, GK κ v) → l.foldl (best d) p = best d p (l.foldl (best d) nulV)
  | [], p, _, _ => (best_nul d p).symm
  | v :: r, p, h, hl => by
    have hv := hl v (by simp)
    have hr : ∀ u ∈ r, GK κ u := fun u hu => hl u (by simp [hu])
    rw [List.foldl_cons, List.foldl_cons, fold_best hd r _ (best_GK d h hv) hr, best_nulL d hv, fold_best hd r v hv hr, best_assoc hd h hv (fold_GK r nulV nul_GK hr)]
theorem out_app (hd : d = 1 ∨ d = -1) (a b : List Va) (ha : ∀ v ∈ a, GK κ v) (hb : ∀ v ∈ b, GK κ v) : outF d nulV (a ++ b) = best d (outF d nulV a) (outF d nulV b) := by
  rw [outF_fold, outF_fold, outF_fold, List.foldl_append, fold_best hd b _ (fold_GK a nulV nul_GK ha) hb]
theorem out_turn (hd : d = 1 ∨ d = -1) (a b : List Va) (ha : ∀ v ∈ a, GK κ v) (hb : ∀ v ∈ b, GK κ v) : outF d nulV (b ++ a) = outF d nulV (a ++ b) := by
  rw [out_app hd a b ha hb, out_app hd b a hb ha]
  have h1 : GK κ (outF d nulV a) := by rw [outF_fold]; exact fold_GK a nulV nul_GK ha
  have h2 : GK κ (outF d nulV b) := by rw [outF_fold]; exact fold_GK b nulV nul_GK hb
  exact best_comm hd h2 h1
end
end
end Go.Proofs.YthomeplakcbfoaaGreatDoor
namespace Go.Proofs.YthomeplakcbfoaaGreatDoor
section
open Go.RowKit

theorem oneK_iff (d : Int) (hd : d ≠ 0) : ∀ (l : List Va), oneK d l = true ↔ ∀ v ∈ l, v.k = 0 ∨ v.k = d
  | [] => by simp [oneK]
  | u :: r => by
    have ih := oneK_iff d hd r
    simp only [oneK, List.forall_mem_cons]
    by_cases h0 : u.k = 0
    · simp [h0, ih]
    · by_cases h1 : u.k = d
      · simp [hd, h1, ih]
      · simp [h0, hd, h1]
theorem oneK0_iff : ∀ (l : List Va), oneK 0 l = true ↔ ∃ κ, κ ≠ 0 ∧ ∀ v ∈ l, v.k = 0 ∨ v.k = κ
  | [] => by simp [oneK]; exact ⟨1, by decide⟩
  | u :: r => by
    simp only [oneK, List.forall_mem_cons]
    by_cases h0 : u.k = 0
    · simp only [h0, beq_self_eq_true, if_true, oneK0_iff r, true_or, true_and]
    · rw [if_neg (by simpa using h0), if_pos (by rfl), oneK_iff u.k h0 r]
      constructor
      · intro h; exact ⟨u.k, h0, .inr rfl, h⟩
      · rintro ⟨κ, hκ, h1, h2⟩
        have : u.k = κ := by omega
        rw [this]; exact h2
theorem oneK_turn (d : Int) (a b : List Va) : oneK d (b ++ a) = oneK d (a ++ b) := by
  rw [Bool.eq_iff_iff]
  by_cases h : d = 0
  · subst h
    rw [oneK0_iff, oneK0_iff]
    constructor <;> (rintro ⟨κ, hκ, h⟩; exact ⟨κ, hκ, fun v hv => h v (by simp only [List.mem_append] at hv ⊢; exact hv.symm)⟩)
  · rw [oneK_iff d h, oneK_iff d h]
    constructor <;> (intro h v hv; exact h v (by simp only [List.mem_append] at hv ⊢; exact hv.symm))
def anyN (l : List Va) : Bool := l.any fun v => !(v.k == 0)
def tot : List Va → Int
  | [] => 0
  | v :: r => (if (v.k == 0) = true then 0 else v.n) + tot r
theorem tot_cons (v : Va) (r : List Va) : tot (v :: r) = (if (v.k == 0) = true then 0 else v.n) + tot r := rfl
theorem tot_app : ∀ (a b : List Va), tot (a ++ b) = tot a + tot b
  | [], b => by simp [tot]
  | v :: r, b => by rw [List.cons_append, tot_cons, tot_cons, tot_app r b]; omega
theorem anyN_app (a b : List Va) : anyN (a ++ b) = (anyN a || anyN b) := by unfold anyN; rw [List.any_append]
theorem tot_none : ∀ (l : List Va), anyN l = false → tot l = 0
  | [], _ => rfl
  | v :: r, h => by
    unfold anyN at h
    rw [List.any_cons, Bool.or_eq_false_iff] at h
    rw [tot_cons, tot_none r h.2, if_pos (by simpa using h.1)]
    rfl
theorem sumF_spec : ∀ (l : List Va) (f : Bool) (m s : Int), -1099511627776 < s → s < 1099511627776 →
    (sumF l (f, m, s)).1 = (f || anyN l) ∧ (sumF l (f, m, s)).2.1 * 1099511627776 + (sumF l (f, m, s)).2.2 = m * 1099511627776 + s + tot l ∧ -1099511627776 < (sumF l (f, m, s)).2.2 ∧ (sumF l (f, m, s)).2.2 < 1099511627776
  | [], f, m, s, h0, h1 => by simp [sumF, anyN, tot, h0, h1]
  | v :: r, f, m, s, h0, h1 => by
    unfold sumF
    by_cases hv : (v.k == 0) = true
    · rw [if_pos hv]
      obtain ⟨a, b, c, e⟩ := sumF_spec r f m s h0 h1
      refine ⟨?_, ?_, c, e⟩
      · rw [a]; unfold anyN; rw [List.any_cons, hv]; simp
      · rw [b, tot_cons, if_pos hv]; omega
    · rw [if_neg hv]
      have e1 := Int.mul_tdiv_add_tmod (s + v.n) 1099511627776
      have e2 := Int.tmod_lt_of_pos (s + v.n) (b := 1099511627776) (by decide)
      have e3 : -1099511627776 < (s + v.n).tmod 1099511627776 := by
        have := Int.natAbs_tmod (s + v.n) 1099511627776
        have := Nat.mod_lt (s + v.n).natAbs (y := (1099511627776 : Int).natAbs) (by decide)
        omega
      obtain ⟨a, b, c, e⟩ := sumF_spec r true (m + (s + v.n).tdiv 1099511627776) ((s + v.n).tmod 1099511627776) e3 e2
      refine ⟨?_, ?_, c, e⟩
      · rw [a]; unfold anyN; rw [List.any_cons]; simp only [Bool.not_eq_true] at hv; rw [hv]; simp
      · rw [b, tot_cons, if_neg hv]; omega
theorem sumS_spec (l : List Va) : sumS l = if oneK 1 l = false then (nulV, 16) else if anyN l = false then (nulV, 0) else chkI (tot l) := by
  obtain ⟨a, b, c, e⟩ := sumF_spec l false 0 0 (by decide) (by decide)
  unfold sumS
  by_cases h : oneK 1 l = false
  · rw [if_pos h, if_pos h]
  · rw [if_neg h, if_neg h]
    unfold sumR
    rw [Bool.false_or] at a
    rw [a]
    generalize sumF l (false, 0, 0) = t at *
    by_cases hn : anyN l = false
    · rw [if_pos hn, if_pos hn]
    · rw [if_neg hn, if_neg hn]
      have hb : t.2.1 * 1099511627776 + t.2.2 = tot l := by omega
      by_cases hm : 1 < max t.2.1 (-t.2.1)
      · rw [if_pos hm]
        unfold chkI
        rw [if_neg]
        simp [inR]
        omega
      · rw [if_neg hm, hb]
theorem chk_ok {n : Int} {x : Va} (h : chkI n = (x, 0)) : inR n = true ∧ x = intV n := by
  unfold chkI at h
  by_cases q : inR n = true
  · rw [if_pos q] at h
    exact ⟨q, (congrArg Prod.fst h).symm⟩
  · rw [if_neg q] at h
    exact absurd (congrArg Prod.snd h) (by simp)
abbrev sPl : ByteArray := ⟨#[43]⟩
theorem bin_plus (a b : Int) (ha : inR a = true) (hb : inR b = true) : binS sPl (intV a) (intV b) = chkI (a + b) := by
  have ho : opK sPl = 2 := by rfl
  have h1 : (intV a).ok = true := intV_ok a ha
  have h2 : (intV b).ok = true := intV_ok b hb
  unfold binS
  rw [ho, if_neg (by decide), if_neg (by simp [allOk, h1, h2]), if_neg (by simp [opT, oneK, intV]), if_neg (by simp [hasNull, intV])]
  rfl
theorem ag_turn (i : Nat) (a b : List Va) (ha : allOk (a ++ b) = true) : agS i (b ++ a) = agS i (a ++ b) := by
  have ho : ∀ v ∈ a ++ b, v.ok = true := List.all_eq_true.1 ha
  match i with
  | 0 =>
    show (intV (cntS (b ++ a)), (0 : Int)) = (intV (cntS (a ++ b)), 0)
    unfold cntS
    rw [List.countP_append, List.countP_append, Nat.add_comm]
  | 1 =>
    show sumS (b ++ a) = sumS (a ++ b)
    rw [sumS_spec, sumS_spec, oneK_turn, anyN_app, anyN_app, Bool.or_comm, tot_app, tot_app, Int.add_comm]
  | j + 2 =>
    show minS _ (b ++ a) = minS _ (a ++ b)
    unfold minS
    rw [oneK_turn]
    cases h : oneK 0 (a ++ b)
    · rfl
    · obtain ⟨κ, hκ, hv⟩ := (oneK0_iff _).1 h
      have hd : sideS (j + 2) = 1 ∨ sideS (j + 2) = -1 := by unfold sideS; split <;> simp
      rw [if_neg (by decide), if_neg (by decide), out_turn (κ := κ) hd a b (fun v m => ⟨ho v (by simp [m]), hv v (by simp [m])⟩) (fun v m => ⟨ho v (by simp [m]), hv v (by simp [m])⟩)]
theorem int_null (n : Int) : (intV n).k ≠ 0 := by simp [intV]
/-- Of two lists put together: what puts their aggregates together gives the whole's. -/
theorem ag_both (i : Nat) (a b : List Va) (x p q : Va) (ha : allOk (a ++ b) = true) (hl : (a ++ b).length ≤ 600) (hx : agS i (a ++ b) = (x, 0)) (hp : agS i a = (p, 0)) (hq : agS i b = (q, 0)) :
    (p.k = 0 → q = x) ∧ (p.k ≠ 0 → q.k = 0 → p = x) ∧ (p.k ≠ 0 → q.k ≠ 0 → (i ≤ 1 → binS sPl p q = (x, 0)) ∧ (2 ≤ i → allOk [p, q] = true ∧ oneK 0 [p, q] = true ∧ hasNull [p, q] = false ∧ outF (sideS i) nulV [p, q] = x)) := by
  have ho : ∀ v ∈ a ++ b, v.ok = true := List.all_eq_true.1 ha
  match i with
  | 0 =>
    have ex : x = intV (cntS (a ++ b)) := (congrArg Prod.fst hx).symm
    have ep : p = intV (cntS a) := (congrArg Prod.fst hp).symm
    have eq : q = intV (cntS b) := (congrArg Prod.fst hq).symm
    have c1 := cnt_le a
    have c2 := cnt_le b
    rw [List.length_append] at hl
    have ec : cntS (a ++ b) = cntS a + cntS b := by unfold cntS; rw [List.countP_append]
    refine ⟨fun h => absurd h (by rw [ep]; exact int_null _), fun _ h => absurd h (by rw [eq]; exact int_null _), fun _ _ => ⟨fun _ => ?_, fun h => by omega⟩⟩
    rw [ep, eq, bin_plus _ _ (by simp [inR]; omega) (by simp [inR]; omega), ex, ec]
    unfold chkI
    rw [if_pos (by simp [inR]; omega)]
    rw [Int.natCast_add]
  | 1 =>
    have fx : sumS (a ++ b) = (x, 0) := hx
    have fp : sumS a = (p, 0) := hp
    have fq : sumS b = (q, 0) := hq
    rw [sumS_spec] at fx fp fq
    have n16 : ∀ v : Va, ((nulV, 16) : Va × Int) ≠ (v, 0) := fun v h => absurd (congrArg Prod.snd h) (by simp)
    have hsp : ∀ (l : List Va) (y : Va), (if oneK 1 l = false then (nulV, (16 : Int)) else if anyN l = false then (nulV, 0) else chkI (tot l)) = (y, 0) → (anyN l = false ∧ y = nulV) ∨ (anyN l = true ∧ inR (tot l) = true ∧ y = intV (tot l)) := by
      intro l y h
      by_cases h1 : oneK 1 l = false
      · rw [if_pos h1] at h; exact absurd h (n16 _)
      · rw [if_neg h1] at h
        cases h2 : anyN l
        · rw [if_pos h2] at h; exact .inl ⟨rfl, (congrArg Prod.fst h).symm⟩
        · rw [if_neg (by rw [h2]; decide)] at h; exact .inr ⟨rfl, chk_ok h⟩
    have gx := hsp _ _ fx
    have gp := hsp _ _ fp
    have gq := hsp _ _ fq
    rw [anyN_app, tot_app] at gx
    refine ⟨fun h => ?_, fun h0 h => ?_, fun h0 h1 => ⟨fun _ => ?_, fun h => by omega⟩⟩
    · rcases gp with ⟨a1, a2⟩ | ⟨a1, a2, a3⟩
      · rw [a1, Bool.false_or, tot_none a a1, Int.zero_add] at gx
        rcases gq with ⟨b1, b2⟩ | ⟨b1, b2, b3⟩
        · rcases gx with ⟨c1, c2⟩ | ⟨c1, c2, c3⟩
          · rw [b2, c2]
          · rw [b1] at c1; cases c1
        · rcases gx with ⟨c1, c2⟩ | ⟨c1, c2, c3⟩
          · rw [b1] at c1; cases c1
          · rw [b3, c3]
      · rw [a3] at h; exact absurd h (int_null _)
    · rcases gq with ⟨b1, b2⟩ | ⟨b1, b2, b3⟩
      · rw [b1, Bool.or_false, tot_none b b1, Int.add_zero] at gx
        rcases gp with ⟨a1, a2⟩ | ⟨a1, a2, a3⟩
        · rw [a2] at h0; exact absurd rfl h0
        · rcases gx with ⟨c1, c2⟩ | ⟨c1, c2, c3⟩
          · rw [a1] at c1; cases c1
          · rw [a3, c3]
      · rw [b3] at h; exact absurd h (int_null _)
    · rcases gp with ⟨a1, a2⟩ | ⟨a1, a2, a3⟩
      · rw [a2] at h0; exact absurd rfl h0
      · rcases gq with ⟨b1, b2⟩ | ⟨b1, b2, b3⟩
        · rw [b2] at h1; exact absurd rfl h1
        · rcases gx with ⟨c1, c2⟩ | ⟨c1, c2, c3⟩
          · rw [a1, b1] at c1; cases c1
          · rw [a3, b3, bin_plus _ _ a2 b2, c3]
            unfold chkI
            rw [if_pos c2]
  | j + 2 =>
    have hd : sideS (j + 2) = 1 ∨ sideS (j + 2) = -1 := by unfold sideS; split <;> simp
    have n16 : ∀ v : Va, ((nulV, 16) : Va × Int) ≠ (v, 0) := fun v h => absurd (congrArg Prod.snd h) (by simp)
    have hsp : ∀ (l : List Va) (y : Va), agS (j + 2) l = (y, 0) → oneK 0 l = true ∧ y = outF (sideS (j + 2)) nulV l := by
      intro l y h
      have h' : (if oneK 0 l = false then (nulV, (16 : Int)) else (outF (sideS (j + 2)) nulV l, 0)) = (y, 0) := h
      cases h1 : oneK 0 l
      · rw [if_pos h1] at h'; exact absurd h' (n16 _)
      · rw [if_neg (by rw [h1]; decide)] at h'; exact ⟨rfl, (congrArg Prod.fst h').symm⟩
    obtain ⟨kx, ex⟩ := hsp _ _ hx
    obtain ⟨-, ep⟩ := hsp _ _ hp
    obtain ⟨-, eq⟩ := hsp _ _ hq
    obtain ⟨κ, hκ, hv⟩ := (oneK0_iff _).1 kx
    have ga : ∀ v ∈ a, GK κ v := fun v m => ⟨ho v (by simp [m]), hv v (by simp [m])⟩
    have gb : ∀ v ∈ b, GK κ v := fun v m => ⟨ho v (by simp [m]), hv v (by simp [m])⟩
    rw [out_app (κ := κ) hd a b ga gb, ← ep, ← eq] at ex
    have gp : GK κ p := by rw [ep, outF_fold]; exact fold_GK a nulV nul_GK ga
    have gq : GK κ q := by rw [eq, outF_fold]; exact fold_GK b nulV nul_GK gb
    refine ⟨fun h => ?_, fun h0 h => ?_, fun h0 h1 => ⟨fun h => by omega, fun _ => ⟨?_, ?_, ?_, ?_⟩⟩⟩
    · rw [ex, gp.null h, best_nulL _ gq]
    · rw [ex, gq.null h, best_nul]
    · simp [allOk, gp.1, gq.1]
    · rw [oneK0_iff]; exact ⟨κ, hκ, by simp [gp.2, gq.2]⟩
    · simp [hasNull, h0, h1]
    · rw [outF_fold, ex]
      show best _ (best _ nulV p) q = _
      rw [best_nulL _ gp]
end
end Go.Proofs.YthomeplakcbfoaaGreatDoor
