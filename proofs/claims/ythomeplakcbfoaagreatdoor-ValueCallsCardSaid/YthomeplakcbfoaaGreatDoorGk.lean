/-
  Contracts of layer 2.
-/
import Derived.Test.YthomeplakcbfoaaGreatDoorGe
import Derived.Test.YthomeplakcbfoaaGreatDoorD
import Derived.Deep.Cut
namespace Go.Proofs.YthomeplakcbfoaaGreatDoor
section
open Go.RowKit

/-- The functions, and the kinds that they take; 0: any one kind. -/
def fnTab : List (Bs × List Int) := [([97, 98, 115], [1]), ([115, 105, 103, 110], [1]), ([116, 111, 95, 116, 101, 120, 116], [1]), ([108, 101, 110, 103, 116, 104], [2]), ([117, 112, 112, 101, 114], [2]), ([108, 111, 119, 101, 114], [2]), ([116, 111, 95, 105, 110, 116], [2]), ([115, 117, 98, 115, 116, 114], [2, 1, 1]), ([110, 118, 108], [0, 0]), ([110, 117, 108, 108, 105, 102], [0, 0]), ([108, 101, 97, 115, 116], [0, 0]), ([103, 114, 101, 97, 116, 101, 115, 116], [0, 0])]
def argsS (op : ByteArray) : Option (List Int) := (fnTab.find? fun p => op.data.toList == p.1).map (·.2)
/-- A row of kinds. -/
def IntsAt (x : World) (b : Nat) (ks : List Int) : Prop := b < x.heap.size ∧ ∀ (i : Nat) (d : Int), ks[i]? = some d → x.cell? ⟨b, i, none⟩ = some (.int .i64 d)
theorem IntsAt.below {x y : World} {b : Nat} {ks : List Int} (h : IntsAt x b ks) (hb : Below x.heap.size x y) : IntsAt y b ks :=
  ⟨Nat.lt_of_lt_of_le h.1 hb.size, fun i d hd => (hb.cell (p := ⟨b, i, none⟩) h.1).trans (h.2 i d hd)⟩
theorem IntsAt.new (w : World) (ks : List Int) (t : TypeId) : IntsAt (w.alloc (.cells (ks.map fun d => Value.int .i64 d).toArray t)) w.heap.size ks :=
  ⟨by simp, fun i d hd => (World.cell?_alloc_new w _ t i).trans (by simp [hd])⟩
def RetArgs (op : ByteArray) (w : World) (e : Ending) (w' : World) : Prop :=
  (match argsS op with
  | none => e = .returned (.tuple #[.slice none 0 0, .bool false])
  | some ks => ∃ b, e = .returned (.tuple #[.slice (some ⟨b, 0, none⟩) ks.length ks.length, .bool true]) ∧ IntsAt w' b ks) ∧ Below w.heap.size w w'
theorem args_some {op : ByteArray} {w : World} {ks : List Int} (h : argsS op = some ks) {e : Ending} {w' : World} {b : Nat} (he : e = .returned (.tuple #[.slice (some ⟨b, 0, none⟩) ks.length ks.length, .bool true])) (hi : IntsAt w' b ks) (hb : Below w.heap.size w w') : RetArgs op w e w' := by
  unfold RetArgs
  rw [h]
  exact ⟨⟨b, he, hi⟩, hb⟩
set_option maxRecDepth 100000 in
theorem args_abs (w : World) : Calls Tryz.prog 47 #[.string ⟨#[97, 98, 115]⟩] w (RetArgs ⟨#[97, 98, 115]⟩ w) := by
  have hT : ∀ l : Bs, ((⟨#[97, 98, 115]⟩ : ByteArray).toList == l) = (([97, 98, 115] : Bs) == l) := fun l => by rw [toList_dat]
  have t0 := hT [97, 98, 115]
  have t1 := hT [115, 105, 103, 110]
  have t2 := hT [116, 111, 95, 116, 101, 120, 116]
  have t3 := hT [108, 101, 110, 103, 116, 104]
  have t4 := hT [117, 112, 112, 101, 114]
  have t5 := hT [108, 111, 119, 101, 114]
  have t6 := hT [116, 111, 95, 105, 110, 116]
  have t7 := hT [115, 117, 98, 115, 116, 114]
  have t8 := hT [110, 118, 108]
  have t9 := hT [110, 117, 108, 108, 105, 102]
  have t10 := hT [108, 101, 97, 115, 116]
  have t11 := hT [103, 114, 101, 97, 116, 101, 115, 116]
  clear hT
  go_enter Tryz.func47, Tryz.ntmps47
  go_wp2_with fail
  go_ret2
  exact args_some (ks := [1]) rfl rfl (IntsAt.new w [1] 25) (new1 _ _)
set_option maxRecDepth 100000 in
theorem args_sign (w : World) : Calls Tryz.prog 47 #[.string ⟨#[115, 105, 103, 110]⟩] w (RetArgs ⟨#[115, 105, 103, 110]⟩ w) := by
  have hT : ∀ l : Bs, ((⟨#[115, 105, 103, 110]⟩ : ByteArray).toList == l) = (([115, 105, 103, 110] : Bs) == l) := fun l => by rw [toList_dat]
  have t0 := hT [97, 98, 115]
  have t1 := hT [115, 105, 103, 110]
  have t2 := hT [116, 111, 95, 116, 101, 120, 116]
  have t3 := hT [108, 101, 110, 103, 116, 104]
  have t4 := hT [117, 112, 112, 101, 114]
  have t5 := hT [108, 111, 119, 101, 114]
  have t6 := hT [116, 111, 95, 105, 110, 116]
  have t7 := hT [115, 117, 98, 115, 116, 114]
  have t8 := hT [110, 118, 108]
  have t9 := hT [110, 117, 108, 108, 105, 102]
  have t10 := hT [108, 101, 97, 115, 116]
  have t11 := hT [103, 114, 101, 97, 116, 101, 115, 116]
  clear hT
  go_enter Tryz.func47, Tryz.ntmps47
  go_wp2_with fail
  go_ret2
  exact args_some (ks := [1]) rfl rfl (IntsAt.new w [1] 25) (new1 _ _)
set_option maxRecDepth 100000 in
theorem args_to_text (w : World) : Calls Tryz.prog 47 #[.string ⟨#[116, 111, 95, 116, 101, 120, 116]⟩] w (RetArgs ⟨#[116, 111, 95, 116, 101, 120, 116]⟩ w) := by
  have hT : ∀ l : Bs, ((⟨#[116, 111, 95, 116, 101, 120, 116]⟩ : ByteArray).toList == l) = (([116, 111, 95, 116, 101, 120, 116] : Bs) == l) := fun l => by rw [toList_dat]
  have t0 := hT [97, 98, 115]
  have t1 := hT [115, 105, 103, 110]
  have t2 := hT [116, 111, 95, 116, 101, 120, 116]
  have t3 := hT [108, 101, 110, 103, 116, 104]
  have t4 := hT [117, 112, 112, 101, 114]
  have t5 := hT [108, 111, 119, 101, 114]
  have t6 := hT [116, 111, 95, 105, 110, 116]
  have t7 := hT [115, 117, 98, 115, 116, 114]
  have t8 := hT [110, 118, 108]
  have t9 := hT [110, 117, 108, 108, 105, 102]
  have t10 := hT [108, 101, 97, 115, 116]
  have t11 := hT [103, 114, 101, 97, 116, 101, 115, 116]
  clear hT
  go_enter Tryz.func47, Tryz.ntmps47
  go_wp2_with fail
  go_ret2
  exact args_some (ks := [1]) rfl rfl (IntsAt.new w [1] 25) (new1 _ _)
set_option maxRecDepth 100000 in
theorem args_length (w : World) : Calls Tryz.prog 47 #[.string ⟨#[108, 101, 110, 103, 116, 104]⟩] w (RetArgs ⟨#[108, 101, 110, 103, 116, 104]⟩ w) := by
  have hT : ∀ l : Bs, ((⟨#[108, 101, 110, 103, 116, 104]⟩ : ByteArray).toList == l) = (([108, 101, 110, 103, 116, 104] : Bs) == l) := fun l => by rw [toList_dat]
  have t0 := hT [97, 98, 115]
  have t1 := hT [115, 105, 103, 110]
  have t2 := hT [116, 111, 95, 116, 101, 120, 116]
  have t3 := hT [108, 101, 110, 103, 116, 104]
  have t4 := hT [117, 112, 112, 101, 114]
  have t5 := hT [108, 111, 119, 101, 114]
  have t6 := hT [116, 111, 95, 105, 110, 116]
  have t7 := hT [115, 117, 98, 115, 116, 114]
  have t8 := hT [110, 118, 108]
  have t9 := hT [110, 117, 108, 108, 105, 102]
  have t10 := hT [108, 101, 97, 115, 116]
  have t11 := hT [103, 114, 101, 97, 116, 101, 115, 116]
  clear hT
  go_enter Tryz.func47, Tryz.ntmps47
  go_wp2_with fail
  go_ret2
  exact args_some (ks := [2]) rfl rfl (IntsAt.new w [2] 25) (new1 _ _)
set_option maxRecDepth 100000 in
theorem args_upper (w : World) : Calls Tryz.prog 47 #[.string ⟨#[117, 112, 112, 101, 114]⟩] w (RetArgs ⟨#[117, 112, 112, 101, 114]⟩ w) := by
  have hT : ∀ l : Bs, ((⟨#[117, 112, 112, 101, 114]⟩ : ByteArray).toList == l) = (([117, 112, 112, 101, 114] : Bs) == l) := fun l => by rw [toList_dat]
  have t0 := hT [97, 98, 115]
  have t1 := hT [115, 105, 103, 110]
  have t2 := hT [116, 111, 95, 116, 101, 120, 116]
  have t3 := hT [108, 101, 110, 103, 116, 104]
  have t4 := hT [117, 112, 112, 101, 114]
  have t5 := hT [108, 111, 119, 101, 114]
  have t6 := hT [116, 111, 95, 105, 110, 116]
  have t7 := hT [115, 117, 98, 115, 116, 114]
  have t8 := hT [110, 118, 108]
  have t9 := hT [110, 117, 108, 108, 105, 102]
  have t10 := hT [108, 101, 97, 115, 116]
  have t11 := hT [103, 114, 101, 97, 116, 101, 115, 116]
  clear hT
  go_enter Tryz.func47, Tryz.ntmps47
  go_wp2_with fail
  go_ret2
  exact args_some (ks := [2]) rfl rfl (IntsAt.new w [2] 25) (new1 _ _)
set_option maxRecDepth 100000 in
theorem args_lower (w : World) : Calls Tryz.prog 47 #[.string ⟨#[108, 111, 119, 101, 114]⟩] w (RetArgs ⟨#[108, 111, 119, 101, 114]⟩ w) := by
  have hT : ∀ l : Bs, ((⟨#[108, 111, 119, 101, 114]⟩ : ByteArray).toList == l) = (([108, 111, 119, 101, 114] : Bs) == l) := fun l => by rw [toList_dat]
  have t0 := hT [97, 98, 115]
  have t1 := hT [115, 105, 103, 110]
  have t2 := hT [116, 111, 95, 116, 101, 120, 116]
  have t3 := hT [108, 101, 110, 103, 116, 104]
  have t4 := hT [117, 112, 112, 101, 114]
  have t5 := hT [108, 111, 119, 101, 114]
  have t6 := hT [116, 111, 95, 105, 110, 116]
  have t7 := hT [115, 117, 98, 115, 116, 114]
  have t8 := hT [110, 118, 108]
  have t9 := hT [110, 117, 108, 108, 105, 102]
  have t10 := hT [108, 101, 97, 115, 116]
  have t11 := hT [103, 114, 101, 97, 116, 101, 115, 116]
  clear hT
  go_enter Tryz.func47, Tryz.ntmps47
  go_wp2_with fail
  go_ret2
  exact args_some (ks := [2]) rfl rfl (IntsAt.new w [2] 25) (new1 _ _)
set_option maxRecDepth 100000 in
theorem args_to_int (w : World) : Calls Tryz.prog 47 #[.string ⟨#[116, 111, 95, 105, 110, 116]⟩] w (RetArgs ⟨#[116, 111, 95, 105, 110, 116]⟩ w) := by
  have hT : ∀ l : Bs, ((⟨#[116, 111, 95, 105, 110, 116]⟩ : ByteArray).toList == l) = (([116, 111, 95, 105, 110, 116] : Bs) == l) := fun l => by rw [toList_dat]
  have t0 := hT [97, 98, 115]
  have t1 := hT [115, 105, 103, 110]
  have t2 := hT [116, 111, 95, 116, 101, 120, 116]
  have t3 := hT [108, 101, 110, 103, 116, 104]
  have t4 := hT [117, 112, 112, 101, 114]
  have t5 := hT [108, 111, 119, 101, 114]
  have t6 := hT [116, 111, 95, 105, 110, 116]
  have t7 := hT [115, 117, 98, 115, 116, 114]
  have t8 := hT [110, 118, 108]
  have t9 := hT [110, 117, 108, 108, 105, 102]
  have t10 := hT [108, 101, 97, 115, 116]
  have t11 := hT [103, 114, 101, 97, 116, 101, 115, 116]
  clear hT
  go_enter Tryz.func47, Tryz.ntmps47
  go_wp2_with fail
  go_ret2
  exact args_some (ks := [2]) rfl rfl (IntsAt.new w [2] 25) (new1 _ _)
set_option maxRecDepth 100000 in
theorem args_substr (w : World) : Calls Tryz.prog 47 #[.string ⟨#[115, 117, 98, 115, 116, 114]⟩] w (RetArgs ⟨#[115, 117, 98, 115, 116, 114]⟩ w) := by
  have hT : ∀ l : Bs, ((⟨#[115, 117, 98, 115, 116, 114]⟩ : ByteArray).toList == l) = (([115, 117, 98, 115, 116, 114] : Bs) == l) := fun l => by rw [toList_dat]
  have t0 := hT [97, 98, 115]
  have t1 := hT [115, 105, 103, 110]
  have t2 := hT [116, 111, 95, 116, 101, 120, 116]
  have t3 := hT [108, 101, 110, 103, 116, 104]
  have t4 := hT [117, 112, 112, 101, 114]
  have t5 := hT [108, 111, 119, 101, 114]
  have t6 := hT [116, 111, 95, 105, 110, 116]
  have t7 := hT [115, 117, 98, 115, 116, 114]
  have t8 := hT [110, 118, 108]
  have t9 := hT [110, 117, 108, 108, 105, 102]
  have t10 := hT [108, 101, 97, 115, 116]
  have t11 := hT [103, 114, 101, 97, 116, 101, 115, 116]
  clear hT
  go_enter Tryz.func47, Tryz.ntmps47
  go_wp2_with fail
  go_ret2
  exact args_some (ks := [2, 1, 1]) rfl rfl (IntsAt.new w [2, 1, 1] 25) (new1 _ _)
set_option maxRecDepth 100000 in
theorem args_nvl (w : World) : Calls Tryz.prog 47 #[.string ⟨#[110, 118, 108]⟩] w (RetArgs ⟨#[110, 118, 108]⟩ w) := by
  have hT : ∀ l : Bs, ((⟨#[110, 118, 108]⟩ : ByteArray).toList == l) = (([110, 118, 108] : Bs) == l) := fun l => by rw [toList_dat]
  have t0 := hT [97, 98, 115]
  have t1 := hT [115, 105, 103, 110]
  have t2 := hT [116, 111, 95, 116, 101, 120, 116]
  have t3 := hT [108, 101, 110, 103, 116, 104]
  have t4 := hT [117, 112, 112, 101, 114]
  have t5 := hT [108, 111, 119, 101, 114]
  have t6 := hT [116, 111, 95, 105, 110, 116]
  have t7 := hT [115, 117, 98, 115, 116, 114]
  have t8 := hT [110, 118, 108]
  have t9 := hT [110, 117, 108, 108, 105, 102]
  have t10 := hT [108, 101, 97, 115, 116]
  have t11 := hT [103, 114, 101, 97, 116, 101, 115, 116]
  clear hT
  go_enter Tryz.func47, Tryz.ntmps47
  go_wp2_with fail
  go_ret2
  exact args_some (ks := [0, 0]) rfl rfl (IntsAt.new w [0, 0] 25) (new1 _ _)
set_option maxRecDepth 100000 in
theorem args_nullif (w : World) : Calls Tryz.prog 47 #[.string ⟨#[110, 117, 108, 108, 105, 102]⟩] w (RetArgs ⟨#[110, 117, 108, 108, 105, 102]⟩ w) := by
  have hT : ∀ l : Bs, ((⟨#[110, 117, 108, 108, 105, 102]⟩ : ByteArray).toList == l) = (([110, 117, 108, 108, 105, 102] : Bs) == l) := fun l => by rw [toList_dat]
  have t0 := hT [97, 98, 115]
  have t1 := hT [115, 105, 103, 110]
  have t2 := hT [116, 111, 95, 116, 101, 120, 116]
  have t3 := hT [108, 101, 110, 103, 116, 104]
  have t4 := hT [117, 112, 112, 101, 114]
  have t5 := hT [108, 111, 119, 101, 114]
  have t6 := hT [116, 111, 95, 105, 110, 116]
  have t7 := hT [115, 117, 98, 115, 116, 114]
  have t8 := hT [110, 118, 108]
  have t9 := hT [110, 117, 108, 108, 105, 102]
  have t10 := hT [108, 101, 97, 115, 116]
  have t11 := hT [103, 114, 101, 97, 116, 101, 115, 116]
  clear hT
  go_enter Tryz.func47, Tryz.ntmps47
  go_wp2_with fail
  go_ret2
  exact args_some (ks := [0, 0]) rfl rfl (IntsAt.new w [0, 0] 25) (new1 _ _)
set_option maxRecDepth 100000 in
theorem args_least (w : World) : Calls Tryz.prog 47 #[.string ⟨#[108, 101, 97, 115, 116]⟩] w (RetArgs ⟨#[108, 101, 97, 115, 116]⟩ w) := by
  have hT : ∀ l : Bs, ((⟨#[108, 101, 97, 115, 116]⟩ : ByteArray).toList == l) = (([108, 101, 97, 115, 116] : Bs) == l) := fun l => by rw [toList_dat]
  have t0 := hT [97, 98, 115]
  have t1 := hT [115, 105, 103, 110]
  have t2 := hT [116, 111, 95, 116, 101, 120, 116]
  have t3 := hT [108, 101, 110, 103, 116, 104]
  have t4 := hT [117, 112, 112, 101, 114]
  have t5 := hT [108, 111, 119, 101, 114]
  have t6 := hT [116, 111, 95, 105, 110, 116]
  have t7 := hT [115, 117, 98, 115, 116, 114]
  have t8 := hT [110, 118, 108]
  have t9 := hT [110, 117, 108, 108, 105, 102]
  have t10 := hT [108, 101, 97, 115, 116]
  have t11 := hT [103, 114, 101, 97, 116, 101, 115, 116]
  clear hT
  go_enter Tryz.func47, Tryz.ntmps47
  go_wp2_with fail
  go_ret2
  exact args_some (ks := [0, 0]) rfl rfl (IntsAt.new w [0, 0] 25) (new1 _ _)
set_option maxRecDepth 100000 in
theorem args_greatest (w : World) : Calls Tryz.prog 47 #[.string ⟨#[103, 114, 101, 97, 116, 101, 115, 116]⟩] w (RetArgs ⟨#[103, 114, 101, 97, 116, 101, 115, 116]⟩ w) := by
  have hT : ∀ l : Bs, ((⟨#[103, 114, 101, 97, 116, 101, 115, 116]⟩ : ByteArray).toList == l) = (([103, 114, 101, 97, 116, 101, 115, 116] : Bs) == l) := fun l => by rw [toList_dat]
  have t0 := hT [97, 98, 115]
  have t1 := hT [115, 105, 103, 110]
  have t2 := hT [116, 111, 95, 116, 101, 120, 116]
  have t3 := hT [108, 101, 110, 103, 116, 104]
  have t4 := hT [117, 112, 112, 101, 114]
  have t5 := hT [108, 111, 119, 101, 114]
  have t6 := hT [116, 111, 95, 105, 110, 116]
  have t7 := hT [115, 117, 98, 115, 116, 114]
  have t8 := hT [110, 118, 108]
  have t9 := hT [110, 117, 108, 108, 105, 102]
  have t10 := hT [108, 101, 97, 115, 116]
  have t11 := hT [103, 114, 101, 97, 116, 101, 115, 116]
  clear hT
  go_enter Tryz.func47, Tryz.ntmps47
  go_wp2_with fail
  go_ret2
  exact args_some (ks := [0, 0]) rfl rfl (IntsAt.new w [0, 0] 25) (new1 _ _)
set_option maxRecDepth 100000 in
theorem args_none (op : ByteArray) (h : argsS op = none) (w : World) : Calls Tryz.prog 47 #[.string op] w (RetArgs op w) := by
  have hN : ∀ p ∈ fnTab, (op.data.toList == p.1) = false := by
    intro p hp
    unfold argsS at h
    rw [Option.map_eq_none_iff, List.find?_eq_none] at h
    simpa using h p hp
  have hT : ∀ l : Bs, (op.toList == l) = (op.data.toList == l) := fun l => by rw [toList_dat]
  have t0 : (op.toList == [97, 98, 115]) = false := (hT _).trans (hN ([97, 98, 115], [1]) (by simp [fnTab]))
  have t1 : (op.toList == [115, 105, 103, 110]) = false := (hT _).trans (hN ([115, 105, 103, 110], [1]) (by simp [fnTab]))
  have t2 : (op.toList == [116, 111, 95, 116, 101, 120, 116]) = false := (hT _).trans (hN ([116, 111, 95, 116, 101, 120, 116], [1]) (by simp [fnTab]))
  have t3 : (op.toList == [108, 101, 110, 103, 116, 104]) = false := (hT _).trans (hN ([108, 101, 110, 103, 116, 104], [2]) (by simp [fnTab]))
  have t4 : (op.toList == [117, 112, 112, 101, 114]) = false := (hT _).trans (hN ([117, 112, 112, 101, 114], [2]) (by simp [fnTab]))
  have t5 : (op.toList == [108, 111, 119, 101, 114]) = false := (hT _).trans (hN ([108, 111, 119, 101, 114], [2]) (by simp [fnTab]))
  have t6 : (op.toList == [116, 111, 95, 105, 110, 116]) = false := (hT _).trans (hN ([116, 111, 95, 105, 110, 116], [2]) (by simp [fnTab]))
  have t7 : (op.toList == [115, 117, 98, 115, 116, 114]) = false := (hT _).trans (hN ([115, 117, 98, 115, 116, 114], [2, 1, 1]) (by simp [fnTab]))
  have t8 : (op.toList == [110, 118, 108]) = false := (hT _).trans (hN ([110, 118, 108], [0, 0]) (by simp [fnTab]))
  have t9 : (op.toList == [110, 117, 108, 108, 105, 102]) = false := (hT _).trans (hN ([110, 117, 108, 108, 105, 102], [0, 0]) (by simp [fnTab]))
  have t10 : (op.toList == [108, 101, 97, 115, 116]) = false := (hT _).trans (hN ([108, 101, 97, 115, 116], [0, 0]) (by simp [fnTab]))
  have t11 : (op.toList == [103, 114, 101, 97, 116, 101, 115, 116]) = false := (hT _).trans (hN ([103, 114, 101, 97, 116, 101, 115, 116], [0, 0]) (by simp [fnTab]))
  have HH := Lib.hid h
  clear hT hN h
  go_enter Tryz.func47, Tryz.ntmps47
  go_wp2_with fail
  go_ret2
  unfold RetArgs
  rw [HH.out]
  exact ⟨rfl, Below.refl _ _⟩
theorem args_ (op : ByteArray) (w : World) : Calls Tryz.prog 47 #[.string op] w (RetArgs op w) := by
  by_cases h_abs : op.data.toList = [97, 98, 115]
  · obtain rfl : op = ⟨#[97, 98, 115]⟩ := ba_ext h_abs
    exact args_abs w
  by_cases h_sign : op.data.toList = [115, 105, 103, 110]
  · obtain rfl : op = ⟨#[115, 105, 103, 110]⟩ := ba_ext h_sign
    exact args_sign w
  by_cases h_to_text : op.data.toList = [116, 111, 95, 116, 101, 120, 116]
  · obtain rfl : op = ⟨#[116, 111, 95, 116, 101, 120, 116]⟩ := ba_ext h_to_text
    exact args_to_text w
  by_cases h_length : op.data.toList = [108, 101, 110, 103, 116, 104]
  · obtain rfl : op = ⟨#[108, 101, 110, 103, 116, 104]⟩ := ba_ext h_length
    exact args_length w
  by_cases h_upper : op.data.toList = [117, 112, 112, 101, 114]
  · obtain rfl : op = ⟨#[117, 112, 112, 101, 114]⟩ := ba_ext h_upper
    exact args_upper w
  by_cases h_lower : op.data.toList = [108, 111, 119, 101, 114]
  · obtain rfl : op = ⟨#[108, 111, 119, 101, 114]⟩ := ba_ext h_lower
    exact args_lower w
  by_cases h_to_int : op.data.toList = [116, 111, 95, 105, 110, 116]
  · obtain rfl : op = ⟨#[116, 111, 95, 105, 110, 116]⟩ := ba_ext h_to_int
    exact args_to_int w
  by_cases h_substr : op.data.toList = [115, 117, 98, 115, 116, 114]
  · obtain rfl : op = ⟨#[115, 117, 98, 115, 116, 114]⟩ := ba_ext h_substr
    exact args_substr w
  by_cases h_nvl : op.data.toList = [110, 118, 108]
  · obtain rfl : op = ⟨#[110, 118, 108]⟩ := ba_ext h_nvl
    exact args_nvl w
  by_cases h_nullif : op.data.toList = [110, 117, 108, 108, 105, 102]
  · obtain rfl : op = ⟨#[110, 117, 108, 108, 105, 102]⟩ := ba_ext h_nullif
    exact args_nullif w
  by_cases h_least : op.data.toList = [108, 101, 97, 115, 116]
  · obtain rfl : op = ⟨#[108, 101, 97, 115, 116]⟩ := ba_ext h_least
    exact args_least w
  by_cases h_greatest : op.data.toList = [103, 114, 101, 97, 116, 101, 115, 116]
  · obtain rfl : op = ⟨#[103, 114, 101, 97, 116, 101, 115, 116]⟩ := ba_ext h_greatest
    exact args_greatest w
  refine args_none op ?_ w
  unfold argsS
  rw [Option.map_eq_none_iff, List.find?_eq_none]
  intro p hp
  simp only [fnTab, List.mem_cons, List.not_mem_nil, or_false] at hp
  rcases hp with rfl | rfl | rfl | rfl | rfl | rfl | rfl | rfl | rfl | rfl | rfl | rfl <;> simpa using (by assumption)
set_option maxRecDepth 100000 in
theorem refBuiltin_ (op : ByteArray) (w : World) : Calls Tryz.prog 13 #[.string op] w fun e w' => e = .returned (.bool (argsS op).isSome) ∧ Below w.heap.size w w' := by
  have HA := Lib.hid fun x => args_ op x
  unfold RetArgs at HA
  cases h : argsS op with
  | none =>
    rw [h] at HA
    go_enter Tryz.func13, Tryz.ntmps13
    go_wp2_with (first
      | (go_at_call 47; refine (HA.out _).mono ?_; rintro e y ⟨rfl, hb⟩))
    go_ret
    exact ⟨rfl, hb⟩
  | some ks =>
    rw [h] at HA
    go_enter Tryz.func13, Tryz.ntmps13
    go_wp2_with (first
      | (go_at_call 47; refine (HA.out _).mono ?_; rintro e y ⟨⟨b, rfl, hi⟩, hb⟩))
    go_ret
    exact ⟨rfl, hb⟩
end
end Go.Proofs.YthomeplakcbfoaaGreatDoor
namespace Go.Proofs.YthomeplakcbfoaaGreatDoor
section
open Go.RowKit

/-- Whether a string is among others. -/
def hasL (L : List Bs) (s : Bs) : Bool := L.contains s
/-- A row of strings. -/
def NamesAt (x : World) (b : Nat) (L : List Bs) : Prop := b < x.heap.size ∧ ∀ i g, L[i]? = some g → x.cell? ⟨b, i, none⟩ = some (.string (baOf g))
theorem NamesAt.new (w : World) (L : List Bs) (t : TypeId) : NamesAt (w.alloc (.cells (L.map fun g => Value.string (baOf g)).toArray t)) w.heap.size L :=
  ⟨by simp, fun i g hg => (World.cell?_alloc_new w _ t i).trans (by simp [hg])⟩
set_option maxRecDepth 100000 in
theorem has_ (L : List Bs) (hL : L.length ≤ 1000) (b : Nat) (s : ByteArray) (w : World) (h : NamesAt w b L) : Calls Tryz.prog 48 #[.slice (some ⟨b, 0, none⟩) L.length L.length, .string s] w fun e w' => e = .returned (.bool (hasL L s.data.toList)) ∧ w = w' := by
  go_enter Tryz.func48, Tryz.ntmps48
  go_wp2_with fail
  go_loop [9] (fun i => ∃ k : Nat, k ≤ L.length ∧ i = .int .i64 k ∧ (∀ g ∈ L.take k, g ≠ s.data.toList)) (fun i => L.length - (intOf i).toNat)
  case atStart => exact ⟨0, Nat.zero_le _, rfl, by intro g hg; simp at hg⟩
  case round =>
    obtain ⟨k, hk, rfl, hN⟩ := hrel
    have HN := Lib.hid hN
    clear hN
    by_cases hlt : k < L.length
    · obtain ⟨g, hg⟩ : ∃ g, L[k]? = some g := ⟨L[k], List.getElem?_eq_getElem hlt⟩
      have c0 := h.2 k g hg
      have hb2 := h.1
      have HG := Lib.hid hg
      clear hg
      cases hq : (baOf g).toList == s.toList
      · have HQ : Hid (g ≠ s.data.toList) := Lib.hid (by intro e; rw [beq_eq_false_iff_ne, toList_dat, toList_dat, baOf_data] at hq; exact hq e)
        go_wp2_with fail
        go_round
        case rel =>
          refine ⟨k + 1, by omega, by go_num, fun g' hg' => ?_⟩
          rw [List.take_succ_eq_append_getElem hlt] at hg'
          rcases List.mem_append.1 hg' with q | q
          · exact HN.out g' q
          · have e := HG.out
            rw [List.getElem?_eq_getElem hlt] at e
            injection e with e
            rw [List.mem_singleton.1 q, e]
            exact HQ.out
        case measure => simp [intOf]; omega
      · have HQ : Hid (hasL L s.data.toList = true) := Lib.hid (by
          unfold hasL
          rw [beq_iff_eq, toList_dat, toList_dat, baOf_data] at hq
          rw [← hq, List.contains_iff_mem]
          exact List.mem_of_getElem? HG.out)
        go_wp2_with fail
        go_ret
        exact ⟨ret_bool HQ.out.symm, rfl⟩
    · obtain rfl : k = L.length := by omega
      have HF : Hid (hasL L s.data.toList = false) := Lib.hid (by
        unfold hasL
        rw [List.contains_eq_mem, decide_eq_false_iff_not]
        exact fun hm => HN.out _ (by rw [List.take_length]; exact hm) rfl)
      go_wp2_with fail
      go_ret
      exact ⟨ret_bool HF.out.symm, rfl⟩
def agNames : List Bs := [[99, 111, 117, 110, 116], [115, 117, 109], [109, 105, 110], [109, 97, 120]]
set_option maxRecDepth 100000 in
theorem refIsAgg_ (op : ByteArray) (w : World) : Calls Tryz.prog 15 #[.string op] w fun e w' => e = .returned (.bool (hasL agNames op.data.toList)) ∧ Below w.heap.size w w' := by
  have H := Lib.hid (has_ agNames (by decide) w.heap.size op _ (NamesAt.new w agNames 9))
  go_enter Tryz.func15, Tryz.ntmps15
  go_wp2_with (first
    | (go_at_call 48; refine H.out.mono ?_; rintro e y ⟨rfl, rfl⟩))
  go_ret
  exact ⟨rfl, new1 _ _⟩
/-- A row of kinds that comes in. -/
def KSl (w : World) (A : Option Addr) (ks : List Int) : Prop := ∀ (i : Nat) (d : Int), ks[i]? = some d → ∃ b, A = some ⟨b, 0, none⟩ ∧ b < w.heap.size ∧ w.cell? ⟨b, i, none⟩ = some (.int .i64 d)
theorem KSl.below {x y : World} {A : Option Addr} {ks : List Int} (h : KSl x A ks) (hb : Below x.heap.size x y) : KSl y A ks := by
  intro i d hd
  obtain ⟨b, e, h0, h1⟩ := h i d hd
  exact ⟨b, e, Nat.lt_of_lt_of_le h0 hb.size, (hb.cell (p := ⟨b, i, none⟩) h0).trans h1⟩
/-- Whether kinds are those that are wanted; f: the kind that stood before where any one is wanted. -/
def fitsW : List Int → List Int → Int → Int
  | d :: ds, k :: ks, f => if (k == 0) = true then fitsW ds ks f else if (!(d == 0) && !(d == k) || (d == 0) && !(f == 0) && !(f == k)) = true then 16 else fitsW ds ks k
  | _, _, _ => 0
theorem fitsW_drop (ds ks : List Int) (f : Int) (j : Nat) (h1 : j < ds.length) (h2 : j < ks.length) : fitsW (ds.drop j) (ks.drop j) f = if (ks[j] == 0) = true then fitsW (ds.drop (j + 1)) (ks.drop (j + 1)) f else if (!(ds[j] == 0) && !(ds[j] == ks[j]) || (ds[j] == 0) && !(f == 0) && !(f == ks[j])) = true then 16 else fitsW (ds.drop (j + 1)) (ks.drop (j + 1)) ks[j] := by
  rw [List.drop_eq_getElem_cons h1, List.drop_eq_getElem_cons h2]; rfl
def fitsR (op : ByteArray) (ks : List Int) : Int := match argsS op with
  | none => 0
  | some ds => if ds.length = ks.length then fitsW ds ks 0 else 17
set_option maxRecDepth 100000 in
set_option maxHeartbeats 1000000 in
theorem fitsR_ (op : ByteArray) (ds : List Int) (ho : argsS op = some ds) (A : Option Addr) (c : Nat) (ks : List Int) (hk : ks.length ≤ 1000000) (w : World) (h : KSl w A ks) : Calls Tryz.prog 42 #[.string op, .slice A ks.length c] w fun e w' => e = .returned (.int .i64 (fitsR op ks)) ∧ Below w.heap.size w w' := by
  have HA := Lib.hid fun x => args_ op x
  unfold RetArgs at HA
  rw [ho] at HA
  have HF : Hid (fitsR op ks = if ds.length = ks.length then fitsW ds ks 0 else 17) := Lib.hid (by unfold fitsR; rw [ho])
  clear ho
  by_cases hlen : ds.length = ks.length
  · rw [if_pos hlen] at HF
    have HL := Lib.hid hlen
    clear hlen
    go_enter Tryz.func42, Tryz.ntmps42
    go_upto_region 2 with (first
      | (go_at_call 47; refine (HA.out _).mono ?_; rintro e y ⟨⟨b, rfl, hi⟩, hb⟩))
    have hl2 : ((ds.length : Int) == ks.length) = true := by rw [HL.out]; simp
    have HI := Lib.hid hi
    have HB := Lib.hid hb
    have HK := Lib.hid (h.below hb)
    clear hi hb h
    go_wp2_with fail
    go_loop [7, 22] (fun f i => ∃ (j : Nat) (g : Int), j ≤ ks.length ∧ i = .int .i64 j ∧ f = .int .i64 g ∧ fitsW ds ks 0 = fitsW (ds.drop j) (ks.drop j) g) (fun f i => ks.length - (intOf i).toNat)
    case atStart => exact ⟨0, 0, Nat.zero_le _, rfl, rfl, by simp⟩
    case round =>
      obtain ⟨j, g, hj, rfl, rfl, hI⟩ := hrel
      have HJ := Lib.hid hI
      clear hI hl2
      by_cases hlt : j < ks.length
      · have hd : j < ds.length := by rw [HL.out]; exact hlt
        have HD := Lib.hid (fitsW_drop ds ks g j hd hlt)
        obtain ⟨b2, rfl, hb2, c2⟩ := HK.out j _ (List.getElem?_eq_getElem hlt)
        have c1 := HI.out.2 j _ (List.getElem?_eq_getElem hd)
        have hb1 := HI.out.1
        have hdI : (j : Int) < ds.length := by omega
        clear HK
        generalize ks[j] = k at *
        generalize ds[j] = d at *
        cases e1 : k == 0
        · cases e2 : d == 0
          · cases e3 : d == k
            · skip
              have HX : Hid (fitsW ds ks 0 = 16) := Lib.hid (by rw [HJ.out, HD.out, e1, e2, e3]; rfl)
              clear HJ HD
              have p1 : (k = 0) = ((k == 0) = true) := by simp
              rw [e1] at p1
              simp only [Bool.false_eq_true, eq_iff_iff, iff_false] at p1
              have b1 : (k != 0) = !(k == 0) := rfl
              rw [e1] at b1
              simp only [Bool.not_false] at b1
              have p2 : (d = 0) = ((d == 0) = true) := by simp
              rw [e2] at p2
              simp only [Bool.false_eq_true, eq_iff_iff, iff_false] at p2
              have b2 : (d != 0) = !(d == 0) := rfl
              rw [e2] at b2
              simp only [Bool.not_false] at b2
              have p3 : (d = k) = ((d == k) = true) := by simp
              rw [e3] at p3
              simp only [Bool.false_eq_true, eq_iff_iff, iff_false] at p3
              have b3 : (d != k) = !(d == k) := rfl
              rw [e3] at b3
              simp only [Bool.not_false] at b3
              have hU : undef = Value.tuple #[] := rfl
              go_wp2_with fail
              all_goals (try simp only [← hU])
              all_goals clear hU
              all_goals go_ret
              all_goals exact ⟨by rw [HF.out, HX.out]; rfl, HB.out⟩
            · skip
              have HX : Hid (fitsW ds ks 0 = fitsW (ds.drop (j + 1)) (ks.drop (j + 1)) k) := Lib.hid (by rw [HJ.out, HD.out, e1, e2, e3]; rfl)
              clear HJ HD
              have p1 : (k = 0) = ((k == 0) = true) := by simp
              rw [e1] at p1
              simp only [Bool.false_eq_true, eq_iff_iff, iff_false] at p1
              have b1 : (k != 0) = !(k == 0) := rfl
              rw [e1] at b1
              simp only [Bool.not_false] at b1
              have p2 : (d = 0) = ((d == 0) = true) := by simp
              rw [e2] at p2
              simp only [Bool.false_eq_true, eq_iff_iff, iff_false] at p2
              have b2 : (d != 0) = !(d == 0) := rfl
              rw [e2] at b2
              simp only [Bool.not_false] at b2
              have p3 : (d = k) = ((d == k) = true) := by simp
              rw [e3] at p3
              simp only [eq_iff_iff, iff_true] at p3
              have b3 : (d != k) = !(d == k) := rfl
              rw [e3] at b3
              simp only [Bool.not_true] at b3
              have hU : undef = Value.tuple #[] := rfl
              go_wp2_with fail
              all_goals (try simp only [← hU])
              all_goals clear hU
              all_goals go_round
              all_goals first | exact ⟨j + 1, k, by omega, by go_num, rfl, HX.out⟩ | (simp [intOf]; omega)
          · cases e4 : g == 0
            · cases e5 : g == k
              · skip
                have HX : Hid (fitsW ds ks 0 = 16) := Lib.hid (by rw [HJ.out, HD.out, e1, e2, e4, e5]; rfl)
                clear HJ HD
                have p1 : (k = 0) = ((k == 0) = true) := by simp
                rw [e1] at p1
                simp only [Bool.false_eq_true, eq_iff_iff, iff_false] at p1
                have b1 : (k != 0) = !(k == 0) := rfl
                rw [e1] at b1
                simp only [Bool.not_false] at b1
                have p2 : (d = 0) = ((d == 0) = true) := by simp
                rw [e2] at p2
                simp only [eq_iff_iff, iff_true] at p2
                have b2 : (d != 0) = !(d == 0) := rfl
                rw [e2] at b2
                simp only [Bool.not_true] at b2
                have p4 : (g = 0) = ((g == 0) = true) := by simp
                rw [e4] at p4
                simp only [Bool.false_eq_true, eq_iff_iff, iff_false] at p4
                have b4 : (g != 0) = !(g == 0) := rfl
                rw [e4] at b4
                simp only [Bool.not_false] at b4
                have p5 : (g = k) = ((g == k) = true) := by simp
                rw [e5] at p5
                simp only [Bool.false_eq_true, eq_iff_iff, iff_false] at p5
                have b5 : (g != k) = !(g == k) := rfl
                rw [e5] at b5
                simp only [Bool.not_false] at b5
                have hU : undef = Value.tuple #[] := rfl
                go_wp2_with fail
                all_goals (try simp only [← hU])
                all_goals clear hU
                all_goals go_ret
                all_goals exact ⟨by rw [HF.out, HX.out]; rfl, HB.out⟩
              · skip
                have HX : Hid (fitsW ds ks 0 = fitsW (ds.drop (j + 1)) (ks.drop (j + 1)) k) := Lib.hid (by rw [HJ.out, HD.out, e1, e2, e4, e5]; rfl)
                clear HJ HD
                have p1 : (k = 0) = ((k == 0) = true) := by simp
                rw [e1] at p1
                simp only [Bool.false_eq_true, eq_iff_iff, iff_false] at p1
                have b1 : (k != 0) = !(k == 0) := rfl
                rw [e1] at b1
                simp only [Bool.not_false] at b1
                have p2 : (d = 0) = ((d == 0) = true) := by simp
                rw [e2] at p2
                simp only [eq_iff_iff, iff_true] at p2
                have b2 : (d != 0) = !(d == 0) := rfl
                rw [e2] at b2
                simp only [Bool.not_true] at b2
                have p4 : (g = 0) = ((g == 0) = true) := by simp
                rw [e4] at p4
                simp only [Bool.false_eq_true, eq_iff_iff, iff_false] at p4
                have b4 : (g != 0) = !(g == 0) := rfl
                rw [e4] at b4
                simp only [Bool.not_false] at b4
                have p5 : (g = k) = ((g == k) = true) := by simp
                rw [e5] at p5
                simp only [eq_iff_iff, iff_true] at p5
                have b5 : (g != k) = !(g == k) := rfl
                rw [e5] at b5
                simp only [Bool.not_true] at b5
                have hU : undef = Value.tuple #[] := rfl
                go_wp2_with fail
                all_goals (try simp only [← hU])
                all_goals clear hU
                all_goals go_round
                all_goals first | exact ⟨j + 1, k, by omega, by go_num, rfl, HX.out⟩ | (simp [intOf]; omega)
            · skip
              have HX : Hid (fitsW ds ks 0 = fitsW (ds.drop (j + 1)) (ks.drop (j + 1)) k) := Lib.hid (by rw [HJ.out, HD.out, e1, e2, e4]; rfl)
              clear HJ HD
              have p1 : (k = 0) = ((k == 0) = true) := by simp
              rw [e1] at p1
              simp only [Bool.false_eq_true, eq_iff_iff, iff_false] at p1
              have b1 : (k != 0) = !(k == 0) := rfl
              rw [e1] at b1
              simp only [Bool.not_false] at b1
              have p2 : (d = 0) = ((d == 0) = true) := by simp
              rw [e2] at p2
              simp only [eq_iff_iff, iff_true] at p2
              have b2 : (d != 0) = !(d == 0) := rfl
              rw [e2] at b2
              simp only [Bool.not_true] at b2
              have p4 : (g = 0) = ((g == 0) = true) := by simp
              rw [e4] at p4
              simp only [eq_iff_iff, iff_true] at p4
              have b4 : (g != 0) = !(g == 0) := rfl
              rw [e4] at b4
              simp only [Bool.not_true] at b4
              have hU : undef = Value.tuple #[] := rfl
              go_wp2_with fail
              all_goals (try simp only [← hU])
              all_goals clear hU
              all_goals go_round
              all_goals first | exact ⟨j + 1, k, by omega, by go_num, rfl, HX.out⟩ | (simp [intOf]; omega)
        · skip
          have HX : Hid (fitsW ds ks 0 = fitsW (ds.drop (j + 1)) (ks.drop (j + 1)) g) := Lib.hid (by rw [HJ.out, HD.out, e1]; rfl)
          clear HJ HD
          have p1 : (k = 0) = ((k == 0) = true) := by simp
          rw [e1] at p1
          simp only [eq_iff_iff, iff_true] at p1
          have b1 : (k != 0) = !(k == 0) := rfl
          rw [e1] at b1
          simp only [Bool.not_true] at b1
          have hU : undef = Value.tuple #[] := rfl
          go_wp2_with fail
          all_goals (try simp only [← hU])
          all_goals clear hU
          all_goals go_round
          all_goals first | exact ⟨j + 1, g, by omega, by go_num, rfl, HX.out⟩ | (simp [intOf]; omega)
      · have HE : Hid (fitsW ds ks 0 = 0) := Lib.hid (by rw [HJ.out, List.drop_of_length_le (by omega : ks.length ≤ j)]; cases ds.drop j <;> rfl)
        go_wp2_with fail
        go_ret
        exact ⟨by rw [HF.out, HE.out]; rfl, HB.out⟩
  · rw [if_neg hlen] at HF
    have hl2 : ((ds.length : Int) == ks.length) = false := by rw [beq_eq_false_iff_ne]; omega
    clear hlen
    go_enter Tryz.func42, Tryz.ntmps42
    go_wp2_with (first
      | (go_at_call 47; refine (HA.out _).mono ?_; rintro e y ⟨⟨b, rfl, hi⟩, hb⟩; have HB := Lib.hid hb; clear hb))
    go_ret
    exact ⟨by rw [HF.out]; rfl, HB.out⟩
end
end Go.Proofs.YthomeplakcbfoaaGreatDoor
