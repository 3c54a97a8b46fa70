/-
  Contracts: the table of aggregates; Aggregate at sum.
-/
import Derived.Test.YthomeplakcbfoaaGreatDoorZ
import Derived.Test.YthomeplakcbfoaaGreatDoorX
namespace Go.Proofs.YthomeplakcbfoaaGreatDoor
open Go.RowKit

theorem outermost_ (d : Int) (w : World) : Calls Tryz.prog 75 #[.int .i64 d] w fun e w' => e = .returned (.func (.func 104) #[] #[.pointer (some ⟨w.heap.size, 0, none⟩)]) ∧ w.alloc (.cells #[.int .i64 d] 3) = w' := by
  have hmf : ∀ (fn : Fn) (first cap : Array Value) (w : World), (Instr.makeFunc fn first cap).run Tryz.prog w = .ok (.func fn first cap) w := fun _ _ _ _ => rfl
  go_enter Tryz.func75, Tryz.ntmps75
  go_wp2
  go_ret
  exact ⟨rfl, rfl⟩
theorem ofOneKind_ (f : Nat) (caps : Array Value) (w : World) : Calls Tryz.prog 74 #[.func (.func f) #[] caps] w fun e w' => e = .returned (.func (.func 103) #[] #[.pointer (some ⟨w.heap.size, 0, none⟩)]) ∧ w.alloc (.cells #[.func (.func f) #[] caps] 59) = w' := by
  have hmf : ∀ (fn : Fn) (first cap : Array Value) (w : World), (Instr.makeFunc fn first cap).run Tryz.prog w = .ok (.func fn first cap) w := fun _ _ _ _ => rfl
  go_enter Tryz.func74, Tryz.ntmps74
  go_wp2
  go_ret
  exact ⟨rfl, rfl⟩

def agTab : List (ByteArray × Nat) := [(⟨#[99, 111, 117, 110, 116]⟩, 0), (⟨#[115, 117, 109]⟩, 1), (⟨#[109, 105, 110]⟩, 2), (⟨#[109, 97, 120]⟩, 3)]
abbrev fnD (c : Nat) : Value := .func (.func 103) #[] #[.pointer (some ⟨c, 0, none⟩)]
def agFn (c1 c2 : Nat) : Nat → Value
  | 0 => fnP 72
  | 1 => fnP 73
  | 2 => fnD c1
  | _ + 3 => fnD c2
theorem zero82 (w : World) : (zeroValue 59).run Tryz.prog w = .ok .nilFunc w := by kernel_rfl
/-- An aggregate's function is returned: of sum it is the one that adds. -/
def RetAg (n : ByteArray) (w : World) (e : Ending) (w' : World) : Prop :=
  ∃ f caps, e = .returned (.tuple #[.func (.func f) #[] caps, .bool true]) ∧ (findT agTab n = some 1 → f = 73 ∧ caps = #[]) ∧ Below w.heap.size w w'
theorem call111 (args : Array Value) (y : World) : (callFunc 73 args).run Tryz.prog y = .ok (.enter 73 args) y := by simp [go_sem]

set_option maxRecDepth 100000 in
set_option maxHeartbeats 4000000 in
theorem aggregateOf_ (op : ByteArray) (i : Nat) (hT : findT agTab op = some i) (w : World) : Calls Tryz.prog 44 #[.string op] w (RetAg op w) := by
  have hmm := @run_makeMap Tryz.prog
  have HT := Lib.hid hT
  clear hT
  match i, HT with
  | 0, HT =>
    go_enter Tryz.func44, Tryz.ntmps44
    go_wp2_with (first
            | (refine wpList_insert_lit rfl (.tmp 7) _ _ _ _ _ rfl Tryz.underlying94 Tryz.underlying9 (Fed.made w) ⟨#[99, 111, 117, 110, 116]⟩ (fnP 72) rfl rfl rfl rfl ?_; intro w1 (hF1 : Fed _ w1 _ [(⟨#[99, 111, 117, 110, 116]⟩, fnP 72)]); skip)
            | (refine wpList_insert_lit rfl (.tmp 7) _ _ _ _ _ rfl Tryz.underlying94 Tryz.underlying9 hF1 ⟨#[115, 117, 109]⟩ (fnP 73) rfl rfl rfl rfl ?_; clear hF1; intro w2 (hF2 : Fed _ w2 _ [(⟨#[99, 111, 117, 110, 116]⟩, fnP 72), (⟨#[115, 117, 109]⟩, fnP 73)]); have B2 : Hid (Below w.heap.size w w2) := Lib.hid ((new1 w _).trans (hF2.below (Nat.le_refl _) (by simp))))
            | (refine wpList_insert_lit rfl (.tmp 7) _ _ _ _ _ rfl Tryz.underlying94 Tryz.underlying9 hF2 ⟨#[109, 105, 110]⟩ (fnD (w2.heap.size + 1)) rfl rfl rfl rfl ?_; clear hF2; intro w3 (hF3 : Fed _ w3 _ [(⟨#[99, 111, 117, 110, 116]⟩, fnP 72), (⟨#[115, 117, 109]⟩, fnP 73), (⟨#[109, 105, 110]⟩, fnD (w2.heap.size + 1))]); have B3 : Hid (Below w.heap.size w w3) := Lib.hid (((B2.out.alloc B2.out.size _).alloc (by simp; have := B2.out.size; omega) _).trans (hF3.below (Nat.le_refl _) (by simp; have := B2.out.size; omega))))
            | (refine wpList_insert_lit rfl (.tmp 7) _ _ _ _ _ rfl Tryz.underlying94 Tryz.underlying9 hF3 ⟨#[109, 97, 120]⟩ (fnD (w3.heap.size + 1)) rfl rfl rfl rfl ?_; clear hF3; intro w4 (hF4 : Fed _ w4 _ [(⟨#[99, 111, 117, 110, 116]⟩, fnP 72), (⟨#[115, 117, 109]⟩, fnP 73), (⟨#[109, 105, 110]⟩, fnD (w2.heap.size + 1)), (⟨#[109, 97, 120]⟩, fnD (w3.heap.size + 1))]); have hF : Fed _ w4 _ (agTab.map fun p => (p.1, agFn (w2.heap.size + 1) (w3.heap.size + 1) p.2)) := hF4; have hlk := run_lookup_lit hF.here Tryz.underlying94 Tryz.underlying9 (zero82 _) op; rw [findE_map, HT.out] at hlk; simp only [Option.map_some, Option.getD_some, Option.isSome_some, agFn] at hlk; have B4 : Hid (Below w.heap.size w w4) := Lib.hid (((B3.out.alloc B3.out.size _).alloc (by simp; have := B3.out.size; omega) _).trans (hF4.below (Nat.le_refl _) (by simp; have := B3.out.size; omega))); clear hF4 hF)
            | (go_at_call 75; refine (outermost_ _ _).mono ?_; rintro e y ⟨rfl, rfl⟩; first | (have hG := Fed.begin (hF3.here.of_block (Below.heap_alloc _ (.cells #[.int .i64 1] 3) _ hF3.here.lt)); clear hF3; have hF3 := hG; clear hG) | (have hG := Fed.begin (hF2.here.of_block (Below.heap_alloc _ (.cells #[.int .i64 (-1)] 3) _ hF2.here.lt)); clear hF2; have hF2 := hG; clear hG))
            | (go_at_call 74; refine (ofOneKind_ _ _ _).mono ?_; rintro e y ⟨rfl, rfl⟩; first | (have hG := Fed.begin (hF3.here.of_block (Below.heap_alloc _ (.cells #[.func (.func 104) #[] #[.pointer (some ⟨w3.heap.size, 0, none⟩)]] 59) _ hF3.here.lt)); clear hF3; have hF3 := hG; clear hG) | (have hG := Fed.begin (hF2.here.of_block (Below.heap_alloc _ (.cells #[.func (.func 104) #[] #[.pointer (some ⟨w2.heap.size, 0, none⟩)]] 59) _ hF2.here.lt)); clear hF2; have hF2 := hG; clear hG)))
    (try simp only [Exit.inBlock, Exit.then])
    go_ret2
    exact ⟨_, _, rfl, (fun h => by rw [HT.out] at h; cases h), B4.out⟩
  | 1, HT =>
    go_enter Tryz.func44, Tryz.ntmps44
    go_wp2_with (first
            | (refine wpList_insert_lit rfl (.tmp 7) _ _ _ _ _ rfl Tryz.underlying94 Tryz.underlying9 (Fed.made w) ⟨#[99, 111, 117, 110, 116]⟩ (fnP 72) rfl rfl rfl rfl ?_; intro w1 (hF1 : Fed _ w1 _ [(⟨#[99, 111, 117, 110, 116]⟩, fnP 72)]); skip)
            | (refine wpList_insert_lit rfl (.tmp 7) _ _ _ _ _ rfl Tryz.underlying94 Tryz.underlying9 hF1 ⟨#[115, 117, 109]⟩ (fnP 73) rfl rfl rfl rfl ?_; clear hF1; intro w2 (hF2 : Fed _ w2 _ [(⟨#[99, 111, 117, 110, 116]⟩, fnP 72), (⟨#[115, 117, 109]⟩, fnP 73)]); have B2 : Hid (Below w.heap.size w w2) := Lib.hid ((new1 w _).trans (hF2.below (Nat.le_refl _) (by simp))))
            | (refine wpList_insert_lit rfl (.tmp 7) _ _ _ _ _ rfl Tryz.underlying94 Tryz.underlying9 hF2 ⟨#[109, 105, 110]⟩ (fnD (w2.heap.size + 1)) rfl rfl rfl rfl ?_; clear hF2; intro w3 (hF3 : Fed _ w3 _ [(⟨#[99, 111, 117, 110, 116]⟩, fnP 72), (⟨#[115, 117, 109]⟩, fnP 73), (⟨#[109, 105, 110]⟩, fnD (w2.heap.size + 1))]); have B3 : Hid (Below w.heap.size w w3) := Lib.hid (((B2.out.alloc B2.out.size _).alloc (by simp; have := B2.out.size; omega) _).trans (hF3.below (Nat.le_refl _) (by simp; have := B2.out.size; omega))))
            | (refine wpList_insert_lit rfl (.tmp 7) _ _ _ _ _ rfl Tryz.underlying94 Tryz.underlying9 hF3 ⟨#[109, 97, 120]⟩ (fnD (w3.heap.size + 1)) rfl rfl rfl rfl ?_; clear hF3; intro w4 (hF4 : Fed _ w4 _ [(⟨#[99, 111, 117, 110, 116]⟩, fnP 72), (⟨#[115, 117, 109]⟩, fnP 73), (⟨#[109, 105, 110]⟩, fnD (w2.heap.size + 1)), (⟨#[109, 97, 120]⟩, fnD (w3.heap.size + 1))]); have hF : Fed _ w4 _ (agTab.map fun p => (p.1, agFn (w2.heap.size + 1) (w3.heap.size + 1) p.2)) := hF4; have hlk := run_lookup_lit hF.here Tryz.underlying94 Tryz.underlying9 (zero82 _) op; rw [findE_map, HT.out] at hlk; simp only [Option.map_some, Option.getD_some, Option.isSome_some, agFn] at hlk; have B4 : Hid (Below w.heap.size w w4) := Lib.hid (((B3.out.alloc B3.out.size _).alloc (by simp; have := B3.out.size; omega) _).trans (hF4.below (Nat.le_refl _) (by simp; have := B3.out.size; omega))); clear hF4 hF)
            | (go_at_call 75; refine (outermost_ _ _).mono ?_; rintro e y ⟨rfl, rfl⟩; first | (have hG := Fed.begin (hF3.here.of_block (Below.heap_alloc _ (.cells #[.int .i64 1] 3) _ hF3.here.lt)); clear hF3; have hF3 := hG; clear hG) | (have hG := Fed.begin (hF2.here.of_block (Below.heap_alloc _ (.cells #[.int .i64 (-1)] 3) _ hF2.here.lt)); clear hF2; have hF2 := hG; clear hG))
            | (go_at_call 74; refine (ofOneKind_ _ _ _).mono ?_; rintro e y ⟨rfl, rfl⟩; first | (have hG := Fed.begin (hF3.here.of_block (Below.heap_alloc _ (.cells #[.func (.func 104) #[] #[.pointer (some ⟨w3.heap.size, 0, none⟩)]] 59) _ hF3.here.lt)); clear hF3; have hF3 := hG; clear hG) | (have hG := Fed.begin (hF2.here.of_block (Below.heap_alloc _ (.cells #[.func (.func 104) #[] #[.pointer (some ⟨w2.heap.size, 0, none⟩)]] 59) _ hF2.here.lt)); clear hF2; have hF2 := hG; clear hG)))
    (try simp only [Exit.inBlock, Exit.then])
    go_ret2
    exact ⟨_, _, rfl, fun _ => ⟨rfl, rfl⟩, B4.out⟩
  | 2, HT =>
    go_enter Tryz.func44, Tryz.ntmps44
    go_wp2_with (first
            | (refine wpList_insert_lit rfl (.tmp 7) _ _ _ _ _ rfl Tryz.underlying94 Tryz.underlying9 (Fed.made w) ⟨#[99, 111, 117, 110, 116]⟩ (fnP 72) rfl rfl rfl rfl ?_; intro w1 (hF1 : Fed _ w1 _ [(⟨#[99, 111, 117, 110, 116]⟩, fnP 72)]); skip)
            | (refine wpList_insert_lit rfl (.tmp 7) _ _ _ _ _ rfl Tryz.underlying94 Tryz.underlying9 hF1 ⟨#[115, 117, 109]⟩ (fnP 73) rfl rfl rfl rfl ?_; clear hF1; intro w2 (hF2 : Fed _ w2 _ [(⟨#[99, 111, 117, 110, 116]⟩, fnP 72), (⟨#[115, 117, 109]⟩, fnP 73)]); have B2 : Hid (Below w.heap.size w w2) := Lib.hid ((new1 w _).trans (hF2.below (Nat.le_refl _) (by simp))))
            | (refine wpList_insert_lit rfl (.tmp 7) _ _ _ _ _ rfl Tryz.underlying94 Tryz.underlying9 hF2 ⟨#[109, 105, 110]⟩ (fnD (w2.heap.size + 1)) rfl rfl rfl rfl ?_; clear hF2; intro w3 (hF3 : Fed _ w3 _ [(⟨#[99, 111, 117, 110, 116]⟩, fnP 72), (⟨#[115, 117, 109]⟩, fnP 73), (⟨#[109, 105, 110]⟩, fnD (w2.heap.size + 1))]); have B3 : Hid (Below w.heap.size w w3) := Lib.hid (((B2.out.alloc B2.out.size _).alloc (by simp; have := B2.out.size; omega) _).trans (hF3.below (Nat.le_refl _) (by simp; have := B2.out.size; omega))))
            | (refine wpList_insert_lit rfl (.tmp 7) _ _ _ _ _ rfl Tryz.underlying94 Tryz.underlying9 hF3 ⟨#[109, 97, 120]⟩ (fnD (w3.heap.size + 1)) rfl rfl rfl rfl ?_; clear hF3; intro w4 (hF4 : Fed _ w4 _ [(⟨#[99, 111, 117, 110, 116]⟩, fnP 72), (⟨#[115, 117, 109]⟩, fnP 73), (⟨#[109, 105, 110]⟩, fnD (w2.heap.size + 1)), (⟨#[109, 97, 120]⟩, fnD (w3.heap.size + 1))]); have hF : Fed _ w4 _ (agTab.map fun p => (p.1, agFn (w2.heap.size + 1) (w3.heap.size + 1) p.2)) := hF4; have hlk := run_lookup_lit hF.here Tryz.underlying94 Tryz.underlying9 (zero82 _) op; rw [findE_map, HT.out] at hlk; simp only [Option.map_some, Option.getD_some, Option.isSome_some, agFn] at hlk; have B4 : Hid (Below w.heap.size w w4) := Lib.hid (((B3.out.alloc B3.out.size _).alloc (by simp; have := B3.out.size; omega) _).trans (hF4.below (Nat.le_refl _) (by simp; have := B3.out.size; omega))); clear hF4 hF)
            | (go_at_call 75; refine (outermost_ _ _).mono ?_; rintro e y ⟨rfl, rfl⟩; first | (have hG := Fed.begin (hF3.here.of_block (Below.heap_alloc _ (.cells #[.int .i64 1] 3) _ hF3.here.lt)); clear hF3; have hF3 := hG; clear hG) | (have hG := Fed.begin (hF2.here.of_block (Below.heap_alloc _ (.cells #[.int .i64 (-1)] 3) _ hF2.here.lt)); clear hF2; have hF2 := hG; clear hG))
            | (go_at_call 74; refine (ofOneKind_ _ _ _).mono ?_; rintro e y ⟨rfl, rfl⟩; first | (have hG := Fed.begin (hF3.here.of_block (Below.heap_alloc _ (.cells #[.func (.func 104) #[] #[.pointer (some ⟨w3.heap.size, 0, none⟩)]] 59) _ hF3.here.lt)); clear hF3; have hF3 := hG; clear hG) | (have hG := Fed.begin (hF2.here.of_block (Below.heap_alloc _ (.cells #[.func (.func 104) #[] #[.pointer (some ⟨w2.heap.size, 0, none⟩)]] 59) _ hF2.here.lt)); clear hF2; have hF2 := hG; clear hG)))
    (try simp only [Exit.inBlock, Exit.then])
    go_ret2
    exact ⟨_, _, rfl, (fun h => by rw [HT.out] at h; cases h), B4.out⟩
  | i + 3, HT =>
    go_enter Tryz.func44, Tryz.ntmps44
    go_wp2_with (first
            | (refine wpList_insert_lit rfl (.tmp 7) _ _ _ _ _ rfl Tryz.underlying94 Tryz.underlying9 (Fed.made w) ⟨#[99, 111, 117, 110, 116]⟩ (fnP 72) rfl rfl rfl rfl ?_; intro w1 (hF1 : Fed _ w1 _ [(⟨#[99, 111, 117, 110, 116]⟩, fnP 72)]); skip)
            | (refine wpList_insert_lit rfl (.tmp 7) _ _ _ _ _ rfl Tryz.underlying94 Tryz.underlying9 hF1 ⟨#[115, 117, 109]⟩ (fnP 73) rfl rfl rfl rfl ?_; clear hF1; intro w2 (hF2 : Fed _ w2 _ [(⟨#[99, 111, 117, 110, 116]⟩, fnP 72), (⟨#[115, 117, 109]⟩, fnP 73)]); have B2 : Hid (Below w.heap.size w w2) := Lib.hid ((new1 w _).trans (hF2.below (Nat.le_refl _) (by simp))))
            | (refine wpList_insert_lit rfl (.tmp 7) _ _ _ _ _ rfl Tryz.underlying94 Tryz.underlying9 hF2 ⟨#[109, 105, 110]⟩ (fnD (w2.heap.size + 1)) rfl rfl rfl rfl ?_; clear hF2; intro w3 (hF3 : Fed _ w3 _ [(⟨#[99, 111, 117, 110, 116]⟩, fnP 72), (⟨#[115, 117, 109]⟩, fnP 73), (⟨#[109, 105, 110]⟩, fnD (w2.heap.size + 1))]); have B3 : Hid (Below w.heap.size w w3) := Lib.hid (((B2.out.alloc B2.out.size _).alloc (by simp; have := B2.out.size; omega) _).trans (hF3.below (Nat.le_refl _) (by simp; have := B2.out.size; omega))))
            | (refine wpList_insert_lit rfl (.tmp 7) _ _ _ _ _ rfl Tryz.underlying94 Tryz.underlying9 hF3 ⟨#[109, 97, 120]⟩ (fnD (w3.heap.size + 1)) rfl rfl rfl rfl ?_; clear hF3; intro w4 (hF4 : Fed _ w4 _ [(⟨#[99, 111, 117, 110, 116]⟩, fnP 72), (⟨#[115, 117, 109]⟩, fnP 73), (⟨#[109, 105, 110]⟩, fnD (w2.heap.size + 1)), (⟨#[109, 97, 120]⟩, fnD (w3.heap.size + 1))]); have hF : Fed _ w4 _ (agTab.map fun p => (p.1, agFn (w2.heap.size + 1) (w3.heap.size + 1) p.2)) := hF4; have hlk := run_lookup_lit hF.here Tryz.underlying94 Tryz.underlying9 (zero82 _) op; rw [findE_map, HT.out] at hlk; simp only [Option.map_some, Option.getD_some, Option.isSome_some, agFn] at hlk; have B4 : Hid (Below w.heap.size w w4) := Lib.hid (((B3.out.alloc B3.out.size _).alloc (by simp; have := B3.out.size; omega) _).trans (hF4.below (Nat.le_refl _) (by simp; have := B3.out.size; omega))); clear hF4 hF)
            | (go_at_call 75; refine (outermost_ _ _).mono ?_; rintro e y ⟨rfl, rfl⟩; first | (have hG := Fed.begin (hF3.here.of_block (Below.heap_alloc _ (.cells #[.int .i64 1] 3) _ hF3.here.lt)); clear hF3; have hF3 := hG; clear hG) | (have hG := Fed.begin (hF2.here.of_block (Below.heap_alloc _ (.cells #[.int .i64 (-1)] 3) _ hF2.here.lt)); clear hF2; have hF2 := hG; clear hG))
            | (go_at_call 74; refine (ofOneKind_ _ _ _).mono ?_; rintro e y ⟨rfl, rfl⟩; first | (have hG := Fed.begin (hF3.here.of_block (Below.heap_alloc _ (.cells #[.func (.func 104) #[] #[.pointer (some ⟨w3.heap.size, 0, none⟩)]] 59) _ hF3.here.lt)); clear hF3; have hF3 := hG; clear hG) | (have hG := Fed.begin (hF2.here.of_block (Below.heap_alloc _ (.cells #[.func (.func 104) #[] #[.pointer (some ⟨w2.heap.size, 0, none⟩)]] 59) _ hF2.here.lt)); clear hF2; have hF2 := hG; clear hG)))
    (try simp only [Exit.inBlock, Exit.then])
    go_ret2
    exact ⟨_, _, rfl, (fun h => by rw [HT.out] at h; simp at h), B4.out⟩

theorem isAggregate_ (op : ByteArray) (i : Nat) (hT : findT agTab op = some i) (w : World) : Calls Tryz.prog 14 #[.string op] w fun e w' => e = .returned (.bool true) ∧ Below w.heap.size w w' := by
  go_enter Tryz.func14, Tryz.ntmps14
  go_wp2_with (first
            | (go_at_call 44; refine (aggregateOf_ op i hT _).mono ?_; rintro e y ⟨f, caps, rfl, hf, hb⟩; clear hf))
  go_ret
  exact ⟨rfl, hb⟩
abbrev sSum : ByteArray := ⟨#[115, 117, 109]⟩
set_option maxRecDepth 100000 in
theorem aggSum_ (A : Option Addr) (c : Nat) (l : List Va) (w : World) (hl : l.length ≤ maxLen) (h : Sl w A l) (hok : allOk l = true) :
    Calls Tryz.prog 10 #[.string sSum, .slice A l.length c] w fun e w' => e = .returned (two (sumS l)) ∧ Below w.heap.size w w' := by
  go_enter Tryz.func10, Tryz.ntmps10
  go_wp2_with (first
            | (go_at_call 38; refine (allValid_ A c l _ hl (h.below (new1 w _))).mono ?_; rintro e y ⟨rfl, hb⟩; have K : Hid (KL w y [(w.heap.size, .int .i64 0, .int .i64 0, .string ⟨#[]⟩)]) := Lib.hid (KL.below ((KL.refl w).push _ _ _ 27) hb); clear hb; obtain ⟨HB, ⟨r0, r1, r2, g0, g1, g2, rl⟩, _⟩ := K.out)
            | (go_at_call 44; refine (aggregateOf_ sSum 1 rfl _).mono ?_; rintro e y ⟨f, caps, rfl, hf, hb⟩; obtain ⟨rfl, rfl⟩ := hf rfl; have K := Lib.hid (KL.below (Hid.out (by assumption)) hb); clear hb hf; obtain ⟨HB, ⟨r0, r1, r2, g0, g1, g2, rl⟩, _⟩ := K.out)
            | (go_at_call 73; refine (sum_ A c l _ hl hok (h.below HB)).mono ?_; rintro e y ⟨rfl, hb⟩; have K := Lib.hid (KL.below (Hid.out (by assumption)) hb); clear hb; obtain ⟨HB, ⟨r0, r1, r2, g0, g1, g2, rl⟩, _⟩ := K.out))
  (try simp only [Exit.inBlock, Exit.then])
  exact ret_two rfl rfl K.out.q.1 rfl ⟨rfl, _root_.Go.Proofs.YthomeplakcbfoaaGreatDoor.set3 HB _ (Nat.le_refl _) _ _ _⟩

end Go.Proofs.YthomeplakcbfoaaGreatDoor
