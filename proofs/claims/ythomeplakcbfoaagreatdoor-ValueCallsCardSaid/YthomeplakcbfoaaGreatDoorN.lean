/-
  Contracts: the tables of operations: comparisons, and and or, arithmetic, strings.
-/
import Derived.Test.YthomeplakcbfoaaGreatDoorH
import Derived.Test.YthomeplakcbfoaaGreatDoorI
import Derived.Laws.EntriesVeiled
namespace Go.Proofs.YthomeplakcbfoaaGreatDoor
open Go.RowKit

def findT {α : Type} (es : List (ByteArray × α)) (key : ByteArray) : Option α := (es.find? fun p => key == p.1).map (·.2)
theorem findE_map {α : Type} (f : α → Value) (es : List (ByteArray × α)) (key : ByteArray) : findE (es.map fun p => (p.1, f p.2)) key = (findT es key).map f := by
  induction es with
  | nil => rfl
  | cons p es ih =>
    simp only [findE, findT, List.map_cons, List.find?_cons] at ih ⊢
    cases key == p.1
    · exact ih
    · rfl

abbrev sg (t : Bool × Bool × Bool) : Value := .agg #[.bool t.1, .bool t.2.1, .bool t.2.2]
def cmpTab : List (ByteArray × (Bool × Bool × Bool)) :=
  [(⟨#[61]⟩, false, true, false), (⟨#[60, 62]⟩, true, false, true), (⟨#[60]⟩, true, false, false), (⟨#[60, 61]⟩, true, true, false), (⟨#[62]⟩, false, false, true), (⟨#[62, 61]⟩, false, true, true)]
def sgn (op : ByteArray) : Bool × Bool × Bool := (findT cmpTab op).getD (false, false, false)
theorem zero121 (w : World) : (zeroValue 120).run Tryz.prog w = .ok (.agg #[.bool false, .bool false, .bool false]) w := by kernel_rfl

/-- A function value that calculates sp is returned, and whether there is one. -/
def RetFn (k : Bool) (d : Va → Va → Prop) (sp : Va → Va → Va × Int) (w : World) (e : Ending) (w' : World) : Prop :=
  ∃ fv, e = .returned (.tuple #[fv, .bool k]) ∧ (k = true → FnV w.heap.size w' fv d sp) ∧ Below w.heap.size w w'
def cmpSp (op : ByteArray) : Va → Va → Va × Int := cmpS (sgn op).1 (sgn op).2.1 (sgn op).2.2
theorem call119 (args : Array Value) (y : World) : (callFunc 114 args).run Tryz.prog y = .ok (.enter 114 args) y := by simp [go_sem]
theorem call120 (args : Array Value) (y : World) : (callFunc 115 args).run Tryz.prog y = .ok (.enter 115 args) y := by simp [go_sem]
theorem call128 (args : Array Value) (y : World) : (callFunc 122 args).run Tryz.prog y = .ok (.enter 122 args) y := by simp [go_sem]
theorem call133 (args : Array Value) (y : World) : (callFunc 127 args).run Tryz.prog y = .ok (.enter 127 args) y := by simp [go_sem]

set_option maxRecDepth 100000 in
set_option maxHeartbeats 800000 in
theorem comparisonOf_ (op : ByteArray) (w : World) : Calls Tryz.prog 83 #[.string op] w (RetFn (findT cmpTab op).isSome (fun _ _ => True) (cmpSp op) w) := by
  have hmm := @run_makeMap Tryz.prog
  have hmf : ∀ (fn : Fn) (first cap : Array Value) (w : World), (Instr.makeFunc fn first cap).run Tryz.prog w = .ok (.func fn first cap) w := fun _ _ _ _ => rfl
  go_enter Tryz.func83, Tryz.ntmps83
  go_wp2_with (first
            | (refine wpList_insert_lit rfl (.tmp 7) _ _ _ _ _ rfl Tryz.underlying122 Tryz.underlying9 (Fed.made w) ⟨#[61]⟩ (sg (false, true, false)) rfl rfl rfl rfl ?_; intro w1 (hF1 : Fed _ w1 _ [(⟨#[61]⟩, sg (false, true, false))]))
            | (refine wpList_insert_lit rfl (.tmp 7) _ _ _ _ _ rfl Tryz.underlying122 Tryz.underlying9 hF1 ⟨#[60, 62]⟩ (sg (true, false, true)) rfl rfl rfl rfl ?_; clear hF1; intro w2 (hF2 : Fed _ w2 _ [(⟨#[61]⟩, sg (false, true, false)), (⟨#[60, 62]⟩, sg (true, false, true))]))
            | (refine wpList_insert_lit rfl (.tmp 7) _ _ _ _ _ rfl Tryz.underlying122 Tryz.underlying9 hF2 ⟨#[60]⟩ (sg (true, false, false)) rfl rfl rfl rfl ?_; clear hF2; intro w3 (hF3 : Fed _ w3 _ [(⟨#[61]⟩, sg (false, true, false)), (⟨#[60, 62]⟩, sg (true, false, true)), (⟨#[60]⟩, sg (true, false, false))]))
            | (refine wpList_insert_lit rfl (.tmp 7) _ _ _ _ _ rfl Tryz.underlying122 Tryz.underlying9 hF3 ⟨#[60, 61]⟩ (sg (true, true, false)) rfl rfl rfl rfl ?_; clear hF3; intro w4 (hF4 : Fed _ w4 _ [(⟨#[61]⟩, sg (false, true, false)), (⟨#[60, 62]⟩, sg (true, false, true)), (⟨#[60]⟩, sg (true, false, false)), (⟨#[60, 61]⟩, sg (true, true, false))]))
            | (refine wpList_insert_lit rfl (.tmp 7) _ _ _ _ _ rfl Tryz.underlying122 Tryz.underlying9 hF4 ⟨#[62]⟩ (sg (false, false, true)) rfl rfl rfl rfl ?_; clear hF4; intro w5 (hF5 : Fed _ w5 _ [(⟨#[61]⟩, sg (false, true, false)), (⟨#[60, 62]⟩, sg (true, false, true)), (⟨#[60]⟩, sg (true, false, false)), (⟨#[60, 61]⟩, sg (true, true, false)), (⟨#[62]⟩, sg (false, false, true))]))
            | (refine wpList_insert_lit rfl (.tmp 7) _ _ _ _ _ rfl Tryz.underlying122 Tryz.underlying9 hF5 ⟨#[62, 61]⟩ (sg (false, true, true)) rfl rfl rfl rfl ?_; clear hF5; intro w6 (hF6 : Fed _ w6 _ [(⟨#[61]⟩, sg (false, true, false)), (⟨#[60, 62]⟩, sg (true, false, true)), (⟨#[60]⟩, sg (true, false, false)), (⟨#[60, 61]⟩, sg (true, true, false)), (⟨#[62]⟩, sg (false, false, true)), (⟨#[62, 61]⟩, sg (false, true, true))]); have hF : Fed _ w6 _ (cmpTab.map fun p => (p.1, sg p.2)) := hF6; have hlk := run_lookup_lit hF.here Tryz.underlying122 Tryz.underlying9 (zero121 _) op; rw [findE_map, show ((findT cmpTab op).map sg).getD (.agg #[.bool false, .bool false, .bool false]) = sg (sgn op) from by unfold sgn; cases findT cmpTab op <;> rfl, Option.isSome_map] at hlk; have HB : Hid (Below w.heap.size w w6) := Lib.hid ((new1 w _).trans (hF.below (Nat.le_refl _) (by simp))); clear hF6 hF))
  (try simp only [Exit.inBlock, Exit.then])
  go_ret2
  exact ⟨_, rfl, fun _ => ⟨114, #[_], rfl, call119, fun z hz a b _ => comparison1_ a b _ _ _ _ z ((ucell hz w6.heap.size 0 HB.out.size (by simp)).trans (by simp)) ((ucell hz w6.heap.size 1 HB.out.size (by simp)).trans (by simp)) ((ucell hz w6.heap.size 2 HB.out.size (by simp)).trans (by simp))⟩, HB.out.alloc HB.out.size _⟩

def junTab : List (ByteArray × Bool) := [(⟨#[97, 110, 100]⟩, false), (⟨#[111, 114]⟩, true)]
def junSp (op : ByteArray) : Va → Va → Va × Int := juncS ((findT junTab op).getD false)
theorem zero4 (w : World) : (zeroValue 4).run Tryz.prog w = .ok (.bool false) w := by kernel_rfl
set_option maxRecDepth 100000 in
theorem junctionOf_ (op : ByteArray) (w : World) : Calls Tryz.prog 84 #[.string op] w (RetFn (findT junTab op).isSome (fun _ _ => True) (junSp op) w) := by
  have hmm := @run_makeMap Tryz.prog
  have hmf : ∀ (fn : Fn) (first cap : Array Value) (w : World), (Instr.makeFunc fn first cap).run Tryz.prog w = .ok (.func fn first cap) w := fun _ _ _ _ => rfl
  go_enter Tryz.func84, Tryz.ntmps84
  go_wp2_with (first
            | (refine wpList_insert_lit rfl (.tmp 7) _ _ _ _ _ rfl Tryz.underlying124 Tryz.underlying9 (Fed.made w) ⟨#[97, 110, 100]⟩ (.bool false) rfl rfl rfl rfl ?_; intro w1 (hF1 : Fed _ w1 _ [(⟨#[97, 110, 100]⟩, .bool false)]))
            | (refine wpList_insert_lit rfl (.tmp 7) _ _ _ _ _ rfl Tryz.underlying124 Tryz.underlying9 hF1 ⟨#[111, 114]⟩ (.bool true) rfl rfl rfl rfl ?_; clear hF1; intro w2 (hF2 : Fed _ w2 _ [(⟨#[97, 110, 100]⟩, .bool false), (⟨#[111, 114]⟩, .bool true)]); have hF : Fed _ w2 _ (junTab.map fun p => (p.1, .bool p.2)) := hF2; have hlk := run_lookup_lit hF.here Tryz.underlying124 Tryz.underlying9 (zero4 _) op; rw [findE_map, show ((findT junTab op).map Value.bool).getD (.bool false) = .bool ((findT junTab op).getD false) from by cases findT junTab op <;> rfl, Option.isSome_map] at hlk; have HB : Hid (Below w.heap.size w w2) := Lib.hid ((new1 w _).trans (hF.below (Nat.le_refl _) (by simp))); clear hF2 hF))
  (try simp only [Exit.inBlock, Exit.then])
  go_ret2
  exact ⟨_, rfl, fun _ => ⟨115, #[_], rfl, call120, fun z hz a b _ => junction1_ a b _ _ z ((ucell hz w2.heap.size 0 HB.out.size (by simp)).trans (by simp))⟩, HB.out.alloc HB.out.size _⟩

def txTab : List (ByteArray × Nat) := [(⟨#[124, 124]⟩, 0), (⟨#[108, 105, 107, 101]⟩, 1)]
def txFn : Nat → Value | 0 => .func (.func 123) #[] #[] | _ + 1 => .func (.func 125) #[] #[]
def txI : Nat → ByteArray → ByteArray → Va × Int | 0 => catS | _ + 1 => likeS
def txSp (op : ByteArray) : Va → Va → Va × Int := fun a b => txI ((findT txTab op).getD 0) a.s b.s
theorem call129 (args : Array Value) (y : World) : (callFunc 123 args).run Tryz.prog y = .ok (.enter 123 args) y := by simp [go_sem]
theorem call131 (args : Array Value) (y : World) : (callFunc 125 args).run Tryz.prog y = .ok (.enter 125 args) y := by simp [go_sem]
theorem txFn_spec (x : World) (i : Nat) : FnT x (txFn i) (txI i) := by
  match i with
  | 0 => exact ⟨123, #[], rfl, call129, fun y _ a b ha hb => cat_ a b ha hb y⟩
  | _ + 1 => exact ⟨125, #[], rfl, call131, fun y _ a b ha hb => likeCl_ a b ha hb y⟩
theorem zero130 (w : World) : (zeroValue 129).run Tryz.prog w = .ok .nilFunc w := by kernel_rfl
set_option maxRecDepth 100000 in
set_option maxHeartbeats 800000 in
theorem ofTextsOf_ (op : ByteArray) (w : World) : Calls Tryz.prog 86 #[.string op] w (RetFn (findT txTab op).isSome (fun a b => okText a.s = true ∧ okText b.s = true) (txSp op) w) := by
  have hmm := @run_makeMap Tryz.prog
  have hmf : ∀ (fn : Fn) (first cap : Array Value) (w : World), (Instr.makeFunc fn first cap).run Tryz.prog w = .ok (.func fn first cap) w := fun _ _ _ _ => rfl
  cases hT : findT txTab op with
  | none =>
    have HT := Lib.hid hT
    clear hT
    go_enter Tryz.func86, Tryz.ntmps86
    go_wp2_with (first
            | (refine wpList_insert_lit rfl (.tmp 7) _ _ _ _ _ rfl Tryz.underlying132 Tryz.underlying9 (Fed.made w) ⟨#[124, 124]⟩ (.func (.func 123) #[] #[]) rfl rfl rfl rfl ?_; intro w1 (hF1 : Fed _ w1 _ [(⟨#[124, 124]⟩, .func (.func 123) #[] #[])]))
            | (refine wpList_insert_lit rfl (.tmp 7) _ _ _ _ _ rfl Tryz.underlying132 Tryz.underlying9 hF1 ⟨#[108, 105, 107, 101]⟩ (.func (.func 125) #[] #[]) rfl rfl rfl rfl ?_; clear hF1; intro w2 (hF2 : Fed _ w2 _ [(⟨#[124, 124]⟩, .func (.func 123) #[] #[]), (⟨#[108, 105, 107, 101]⟩, .func (.func 125) #[] #[])]); have hF : Fed _ w2 _ (txTab.map fun p => (p.1, txFn p.2)) := hF2; have hlk := run_lookup_lit hF.here Tryz.underlying132 Tryz.underlying9 (zero130 _) op; rw [findE_map, HT.out] at hlk; simp only [Option.map_none, Option.getD_none, Option.isSome_none] at hlk; have HB : Hid (Below w.heap.size w w2) := Lib.hid ((new1 w _).trans (hF.below (Nat.le_refl _) (by simp))); clear hF2 hF))
    (try simp only [Exit.inBlock, Exit.then])
    go_ret2
    exact ⟨_, rfl, (fun h => by cases h), HB.out.alloc HB.out.size _⟩
  | some i =>
    have HT := Lib.hid hT
    clear hT
    match i, HT with
    | 0, HT =>
      go_enter Tryz.func86, Tryz.ntmps86
      go_wp2_with (first
              | (refine wpList_insert_lit rfl (.tmp 7) _ _ _ _ _ rfl Tryz.underlying132 Tryz.underlying9 (Fed.made w) ⟨#[124, 124]⟩ (.func (.func 123) #[] #[]) rfl rfl rfl rfl ?_; intro w1 (hF1 : Fed _ w1 _ [(⟨#[124, 124]⟩, .func (.func 123) #[] #[])]))
              | (refine wpList_insert_lit rfl (.tmp 7) _ _ _ _ _ rfl Tryz.underlying132 Tryz.underlying9 hF1 ⟨#[108, 105, 107, 101]⟩ (.func (.func 125) #[] #[]) rfl rfl rfl rfl ?_; clear hF1; intro w2 (hF2 : Fed _ w2 _ [(⟨#[124, 124]⟩, .func (.func 123) #[] #[]), (⟨#[108, 105, 107, 101]⟩, .func (.func 125) #[] #[])]); have hF : Fed _ w2 _ (txTab.map fun p => (p.1, txFn p.2)) := hF2; have hlk := run_lookup_lit hF.here Tryz.underlying132 Tryz.underlying9 (zero130 _) op; rw [findE_map, HT.out] at hlk; simp only [Option.map_some, Option.getD_some, Option.isSome_some, txFn] at hlk; have HB : Hid (Below w.heap.size w w2) := Lib.hid ((new1 w _).trans (hF.below (Nat.le_refl _) (by simp))); clear hF2 hF))
      (try simp only [Exit.inBlock, Exit.then])
      go_ret2
      exact ⟨_, rfl, fun _ => ⟨127, #[_], rfl, call133, fun z hz a b h => by rw [show txSp op a b = txI (0) a.s b.s from by unfold txSp; rw [HT.out]; rfl]; exact texts3_ a b h.1 h.2 _ _ _ z ((ucell hz w2.heap.size 0 HB.out.size (by simp)).trans (by simp; rfl)) (txFn_spec z (0))⟩, HB.out.alloc HB.out.size _⟩
    | i + 1, HT =>
      go_enter Tryz.func86, Tryz.ntmps86
      go_wp2_with (first
              | (refine wpList_insert_lit rfl (.tmp 7) _ _ _ _ _ rfl Tryz.underlying132 Tryz.underlying9 (Fed.made w) ⟨#[124, 124]⟩ (.func (.func 123) #[] #[]) rfl rfl rfl rfl ?_; intro w1 (hF1 : Fed _ w1 _ [(⟨#[124, 124]⟩, .func (.func 123) #[] #[])]))
              | (refine wpList_insert_lit rfl (.tmp 7) _ _ _ _ _ rfl Tryz.underlying132 Tryz.underlying9 hF1 ⟨#[108, 105, 107, 101]⟩ (.func (.func 125) #[] #[]) rfl rfl rfl rfl ?_; clear hF1; intro w2 (hF2 : Fed _ w2 _ [(⟨#[124, 124]⟩, .func (.func 123) #[] #[]), (⟨#[108, 105, 107, 101]⟩, .func (.func 125) #[] #[])]); have hF : Fed _ w2 _ (txTab.map fun p => (p.1, txFn p.2)) := hF2; have hlk := run_lookup_lit hF.here Tryz.underlying132 Tryz.underlying9 (zero130 _) op; rw [findE_map, HT.out] at hlk; simp only [Option.map_some, Option.getD_some, Option.isSome_some, txFn] at hlk; have HB : Hid (Below w.heap.size w w2) := Lib.hid ((new1 w _).trans (hF.below (Nat.le_refl _) (by simp))); clear hF2 hF))
      (try simp only [Exit.inBlock, Exit.then])
      go_ret2
      exact ⟨_, rfl, fun _ => ⟨127, #[_], rfl, call133, fun z hz a b h => by rw [show txSp op a b = txI (i + 1) a.s b.s from by unfold txSp; rw [HT.out]; rfl]; exact texts3_ a b h.1 h.2 _ _ _ z ((ucell hz w2.heap.size 0 HB.out.size (by simp)).trans (by simp; rfl)) (txFn_spec z (i + 1))⟩, HB.out.alloc HB.out.size _⟩

end Go.Proofs.YthomeplakcbfoaaGreatDoor
