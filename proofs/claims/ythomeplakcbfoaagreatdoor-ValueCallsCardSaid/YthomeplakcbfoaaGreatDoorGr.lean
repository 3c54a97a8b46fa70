/-
  Contracts of layer 2.
-/
import Derived.Test.YthomeplakcbfoaaGreatDoorGo
import Derived.Test.YthomeplakcbfoaaGreatDoorGq
import Derived.Test.YthomeplakcbfoaaGreatDoorGm
namespace Go.Proofs.YthomeplakcbfoaaGreatDoor
section
section
open Go.RowKit

set_option maxRecDepth 100000 in
theorem ofInteger_some (op : ByteArray) (g : Nat) (hn : findE ofIntegerMap op = some (fnP g)) (w : World) : Calls Tryz.prog 65 #[.string op] w fun e w' => (∃ cb, e = .returned (.tuple #[.func (.func 93) #[] #[.pointer (some ⟨cb, 0, none⟩)], .bool true]) ∧ w'.cell? ⟨cb, 0, none⟩ = some (fnP g) ∧ w.heap.size ≤ cb) ∧ Below w.heap.size w w' := by
  have hmm := @run_makeMap Tryz.prog
  have hmf : ∀ (fn : Fn) (first cap : Array Value) (w : World), (Instr.makeFunc fn first cap).run Tryz.prog w = .ok (.func fn first cap) w := fun _ _ _ _ => rfl
  have HN := Lib.hid hn
  clear hn
  go_enter Tryz.func65, Tryz.ntmps65
  go_wp2_with (first
            | (refine wpList_insert_lit rfl (.tmp 7) _ _ _ _ _ rfl Tryz.underlying105 Tryz.underlying9 (Fed.made w) ⟨#[97, 98, 115]⟩ (fnP 89) rfl rfl rfl rfl ?_; intro w1 (hF1 : Fed _ w1 _ [(⟨#[97, 98, 115]⟩, fnP 89)]))
            | (refine wpList_insert_lit rfl (.tmp 7) _ _ _ _ _ rfl Tryz.underlying105 Tryz.underlying9 hF1 ⟨#[115, 105, 103, 110]⟩ (fnP 91) rfl rfl rfl rfl ?_; clear hF1; intro w2 (hF2 : Fed _ w2 _ [(⟨#[97, 98, 115]⟩, fnP 89), (⟨#[115, 105, 103, 110]⟩, fnP 91)]))
            | (refine wpList_insert_lit rfl (.tmp 7) _ _ _ _ _ rfl Tryz.underlying105 Tryz.underlying9 hF2 ⟨#[116, 111, 95, 116, 101, 120, 116]⟩ (fnP 92) rfl rfl rfl rfl ?_; clear hF2; intro w3 (hF3 : Fed _ w3 _ [(⟨#[97, 98, 115]⟩, fnP 89), (⟨#[115, 105, 103, 110]⟩, fnP 91), (⟨#[116, 111, 95, 116, 101, 120, 116]⟩, fnP 92)]); have hlk := run_lookup_lit hF3.here Tryz.underlying105 Tryz.underlying9 (zero65 _) op; rw [HN.out] at hlk; simp only [Option.getD_some, Option.isSome_some] at hlk; have HB : Hid (Below w.heap.size w w3) := Lib.hid ((new1 w _).trans (hF3.below (Nat.le_refl _) (by simp))); clear hF3))
  (try simp only [Exit.inBlock, Exit.then])
  go_ret2
  exact ⟨⟨_, rfl, (World.cell?_alloc_new _ _ _ 0).trans rfl, HB.out.size⟩, HB.out.alloc HB.out.size _⟩
set_option maxRecDepth 100000 in
theorem ofText_some (op : ByteArray) (g : Nat) (hn : findE ofTextMap op = some (fnP g)) (w : World) : Calls Tryz.prog 66 #[.string op] w fun e w' => (∃ cb, e = .returned (.tuple #[.func (.func 99) #[] #[.pointer (some ⟨cb, 0, none⟩)], .bool true]) ∧ w'.cell? ⟨cb, 0, none⟩ = some (fnP g) ∧ w.heap.size ≤ cb) ∧ Below w.heap.size w w' := by
  have hmm := @run_makeMap Tryz.prog
  have hmf : ∀ (fn : Fn) (first cap : Array Value) (w : World), (Instr.makeFunc fn first cap).run Tryz.prog w = .ok (.func fn first cap) w := fun _ _ _ _ => rfl
  have HN := Lib.hid hn
  clear hn
  go_enter Tryz.func66, Tryz.ntmps66
  go_wp2_with (first
            | (refine wpList_insert_lit rfl (.tmp 7) _ _ _ _ _ rfl Tryz.underlying108 Tryz.underlying9 (Fed.made w) ⟨#[108, 101, 110, 103, 116, 104]⟩ (fnP 94) rfl rfl rfl rfl ?_; intro w1 (hF1 : Fed _ w1 _ [(⟨#[108, 101, 110, 103, 116, 104]⟩, fnP 94)]))
            | (refine wpList_insert_lit rfl (.tmp 7) _ _ _ _ _ rfl Tryz.underlying108 Tryz.underlying9 hF1 ⟨#[117, 112, 112, 101, 114]⟩ (fnP 95) rfl rfl rfl rfl ?_; clear hF1; intro w2 (hF2 : Fed _ w2 _ [(⟨#[108, 101, 110, 103, 116, 104]⟩, fnP 94), (⟨#[117, 112, 112, 101, 114]⟩, fnP 95)]))
            | (refine wpList_insert_lit rfl (.tmp 7) _ _ _ _ _ rfl Tryz.underlying108 Tryz.underlying9 hF2 ⟨#[108, 111, 119, 101, 114]⟩ (fnP 97) rfl rfl rfl rfl ?_; clear hF2; intro w3 (hF3 : Fed _ w3 _ [(⟨#[108, 101, 110, 103, 116, 104]⟩, fnP 94), (⟨#[117, 112, 112, 101, 114]⟩, fnP 95), (⟨#[108, 111, 119, 101, 114]⟩, fnP 97)]))
            | (refine wpList_insert_lit rfl (.tmp 7) _ _ _ _ _ rfl Tryz.underlying108 Tryz.underlying9 hF3 ⟨#[116, 111, 95, 105, 110, 116]⟩ (fnP 98) rfl rfl rfl rfl ?_; clear hF3; intro w4 (hF4 : Fed _ w4 _ [(⟨#[108, 101, 110, 103, 116, 104]⟩, fnP 94), (⟨#[117, 112, 112, 101, 114]⟩, fnP 95), (⟨#[108, 111, 119, 101, 114]⟩, fnP 97), (⟨#[116, 111, 95, 105, 110, 116]⟩, fnP 98)]); have hlk := run_lookup_lit hF4.here Tryz.underlying108 Tryz.underlying9 (zero48 _) op; rw [HN.out] at hlk; simp only [Option.getD_some, Option.isSome_some] at hlk; have HB : Hid (Below w.heap.size w w4) := Lib.hid ((new1 w _).trans (hF4.below (Nat.le_refl _) (by simp))); clear hF4))
  (try simp only [Exit.inBlock, Exit.then])
  go_ret2
  exact ⟨⟨_, rfl, (World.cell?_alloc_new _ _ _ 0).trans rfl, HB.out.size⟩, HB.out.alloc HB.out.size _⟩
/-- A function that sees nulls is returned. -/
def RetNul (g : Nat) (w : World) (e : Ending) (w' : World) : Prop :=
  (∃ b : Nat, e = .returned (.tuple #[.agg #[.slice (some ⟨b, 0, none⟩) 2 2, .bool true, fnP g], .bool true]) ∧ w'.cell? ⟨b, 0, none⟩ = some (.int .i64 0) ∧ w'.cell? ⟨b, 1, none⟩ = some (.int .i64 0) ∧ w.heap.size ≤ b) ∧ Below w.heap.size w w'
set_option maxRecDepth 100000 in
set_option maxHeartbeats 1000000 in
theorem ofTwo_nvl2 (op : ByteArray) (ho : op = ⟨#[110, 118, 108]⟩) (w : World) : Calls Tryz.prog 67 #[.string op] w (RetNul 100 w) := by
  have hmm := @run_makeMap Tryz.prog
  have HO := Lib.hid ho
  clear ho
  go_enter Tryz.func67, Tryz.ntmps67
  go_wp2_with (first
            | (refine wpList_insert_lit rfl (.tmp 7) _ _ _ _ _ rfl Tryz.underlying109 Tryz.underlying9 (Fed.made' _ _ (sz1 _ _)) ⟨#[110, 118, 108]⟩ (.agg #[.slice none 0 0, .bool true, fnP 100]) rfl rfl rfl rfl ?_; intro w1 (hF1 : Fed _ w1 _ [(⟨#[110, 118, 108]⟩, .agg #[.slice none 0 0, .bool true, fnP 100])]); skip)
            | (refine wpList_insert_lit rfl (.tmp 7) _ _ _ _ _ rfl Tryz.underlying109 Tryz.underlying9 hF1 ⟨#[110, 117, 108, 108, 105, 102]⟩ (.agg #[.slice none 0 0, .bool true, fnP 101]) rfl rfl rfl rfl ?_; clear hF1; intro w2 (hF2 : Fed _ w2 _ [(⟨#[110, 118, 108]⟩, .agg #[.slice none 0 0, .bool true, fnP 100]), (⟨#[110, 117, 108, 108, 105, 102]⟩, .agg #[.slice none 0 0, .bool true, fnP 101])]); have B2 : Hid (KL w w2 [(w.heap.size, .slice none 0 0, .bool false, .nilFunc)]) := Lib.hid ⟨((new2 w _ _)).trans (hF2.below (by omega) (by simp; omega)), ((B3.new w _ _ _ 61).alloc _).fed hF2, trivial⟩)
            | (refine wpList_insert_lit rfl (.tmp 7) _ _ _ _ _ rfl Tryz.underlying109 Tryz.underlying9 hF2 ⟨#[108, 101, 97, 115, 116]⟩ (.agg #[.slice none 0 0, .bool false, .func (.func 104) #[] #[.pointer (some ⟨w2.heap.size, 0, none⟩)]]) rfl rfl rfl rfl ?_; clear hF2; intro w3 (hF3 : Fed _ w3 _ [(⟨#[110, 118, 108]⟩, .agg #[.slice none 0 0, .bool true, fnP 100]), (⟨#[110, 117, 108, 108, 105, 102]⟩, .agg #[.slice none 0 0, .bool true, fnP 101]), (⟨#[108, 101, 97, 115, 116]⟩, .agg #[.slice none 0 0, .bool false, .func (.func 104) #[] #[.pointer (some ⟨w2.heap.size, 0, none⟩)]])]); have B3_ : Hid (KL w w3 [(w.heap.size, .slice none 0 0, .bool false, .nilFunc)]) := Lib.hid ⟨(B2.out.alloc _).HB.trans (hF3.below (by omega) (by have := B2.out.HB.size; simp; omega)), (B2.out.alloc _).q.1.fed hF3, trivial⟩; have C3 := Lib.hid (show w3.cell? ⟨w2.heap.size, 0, none⟩ = some (.int .i64 (-1)) ∧ w2.heap.size < w3.heap.size from ⟨(hF3.cell _).trans ((World.cell?_alloc_new w2 #[.int .i64 (-1)] 3 0).trans rfl), by rw [hF3.size]; simp⟩))
            | (refine wpList_insert_lit rfl (.tmp 7) _ _ _ _ _ rfl Tryz.underlying109 Tryz.underlying9 hF3 ⟨#[103, 114, 101, 97, 116, 101, 115, 116]⟩ (.agg #[.slice none 0 0, .bool false, .func (.func 104) #[] #[.pointer (some ⟨w3.heap.size, 0, none⟩)]]) rfl rfl rfl rfl ?_; clear hF3; intro w4 (hF4 : Fed _ w4 _ [(⟨#[110, 118, 108]⟩, .agg #[.slice none 0 0, .bool true, fnP 100]), (⟨#[110, 117, 108, 108, 105, 102]⟩, .agg #[.slice none 0 0, .bool true, fnP 101]), (⟨#[108, 101, 97, 115, 116]⟩, .agg #[.slice none 0 0, .bool false, .func (.func 104) #[] #[.pointer (some ⟨w2.heap.size, 0, none⟩)]]), (⟨#[103, 114, 101, 97, 116, 101, 115, 116]⟩, .agg #[.slice none 0 0, .bool false, .func (.func 104) #[] #[.pointer (some ⟨w3.heap.size, 0, none⟩)]])]); have B4 : Hid (KL w w4 [(w.heap.size, .slice none 0 0, .bool false, .nilFunc)]) := Lib.hid ⟨(B3_.out.alloc _).HB.trans (hF4.below (by omega) (by have := B3_.out.HB.size; simp; omega)), (B3_.out.alloc _).q.1.fed hF4, trivial⟩; have hlk := run_lookup_lit hF4.here Tryz.underlying109 Tryz.underlying9 (zero84 _) op; rw [show findE [(⟨#[110, 118, 108]⟩, .agg #[.slice none 0 0, .bool true, fnP 100]), (⟨#[110, 117, 108, 108, 105, 102]⟩, .agg #[.slice none 0 0, .bool true, fnP 101]), (⟨#[108, 101, 97, 115, 116]⟩, .agg #[.slice none 0 0, .bool false, .func (.func 104) #[] #[.pointer (some ⟨w2.heap.size, 0, none⟩)]]), (⟨#[103, 114, 101, 97, 116, 101, 115, 116]⟩, .agg #[.slice none 0 0, .bool false, .func (.func 104) #[] #[.pointer (some ⟨w3.heap.size, 0, none⟩)]])] op = some (.agg #[.slice none 0 0, .bool true, fnP 100]) from by rw [HO.out]; rfl] at hlk; simp only [Option.getD_some, Option.isSome_some] at hlk; have K : Hid (KL w ((w4.alloc (.cells #[.slice (some ⟨w4.heap.size + 1, 0, none⟩) 2 2, .bool true, fnP 100] 61)).alloc (.cells #[.int .i64 0, .int .i64 0] 25)) [(w.heap.size, .slice none 0 0, .bool false, .nilFunc)]) := Lib.hid ((B4.out.alloc _).alloc _); obtain ⟨HB, ⟨r0, r1, r2, g0, g1, g2, rl⟩, _⟩ := K.out; have C4 := Lib.hid (show (w4.cell? ⟨w2.heap.size, 0, none⟩ = some (.int .i64 (-1)) ∧ w4.cell? ⟨w3.heap.size, 0, none⟩ = some (.int .i64 1)) ∧ w3.heap.size < w4.heap.size from ⟨⟨(hF4.cell _).trans ((bcell (new1 w3 _) _ 0 C3.out.2).trans C3.out.1), (hF4.cell _).trans ((World.cell?_alloc_new w3 #[.int .i64 1] 3 0).trans rfl)⟩, by rw [hF4.size]; simp⟩); clear hF4)
            | (go_at_call 75; refine (outermost_ _ _).mono ?_; rintro e y ⟨rfl, rfl⟩; first | (have hG := Fed.begin (hF3.here.of_block (Below.heap_alloc _ (.cells #[.int .i64 1] 3) _ hF3.here.lt)); clear hF3; have hF3 := hG; clear hG) | (have hG := Fed.begin (hF2.here.of_block (Below.heap_alloc _ (.cells #[.int .i64 (-1)] 3) _ hF2.here.lt)); clear hF2; have hF2 := hG; clear hG)))
  (try simp only [Exit.inBlock, Exit.then])
  have hs2 := C3.out.2
  have hs4 := C4.out.2
  have hsw := B2.out.q.1.lt
  have hz := two_ints w4 (.cells #[.slice (some ⟨w4.heap.size + 1, 0, none⟩) 2 2, .bool true, fnP 100] 61)
  refine ret_fn rfl rfl K.out.q.1 rfl ⟨⟨_, rfl, ?_, ?_, by omega⟩, _root_.Go.Proofs.YthomeplakcbfoaaGreatDoor.set3 HB _ (Nat.le_refl _) _ _ _⟩
  · exact (set3_cell _ (by simp; omega) _ _ _).trans hz.1
  · exact (set3_cell _ (by simp; omega) _ _ _).trans hz.2
set_option maxRecDepth 100000 in
set_option maxHeartbeats 1000000 in
theorem ofTwo_nullif (op : ByteArray) (ho : op = ⟨#[110, 117, 108, 108, 105, 102]⟩) (w : World) : Calls Tryz.prog 67 #[.string op] w (RetNul 101 w) := by
  have hmm := @run_makeMap Tryz.prog
  have HO := Lib.hid ho
  clear ho
  go_enter Tryz.func67, Tryz.ntmps67
  go_wp2_with (first
            | (refine wpList_insert_lit rfl (.tmp 7) _ _ _ _ _ rfl Tryz.underlying109 Tryz.underlying9 (Fed.made' _ _ (sz1 _ _)) ⟨#[110, 118, 108]⟩ (.agg #[.slice none 0 0, .bool true, fnP 100]) rfl rfl rfl rfl ?_; intro w1 (hF1 : Fed _ w1 _ [(⟨#[110, 118, 108]⟩, .agg #[.slice none 0 0, .bool true, fnP 100])]); skip)
            | (refine wpList_insert_lit rfl (.tmp 7) _ _ _ _ _ rfl Tryz.underlying109 Tryz.underlying9 hF1 ⟨#[110, 117, 108, 108, 105, 102]⟩ (.agg #[.slice none 0 0, .bool true, fnP 101]) rfl rfl rfl rfl ?_; clear hF1; intro w2 (hF2 : Fed _ w2 _ [(⟨#[110, 118, 108]⟩, .agg #[.slice none 0 0, .bool true, fnP 100]), (⟨#[110, 117, 108, 108, 105, 102]⟩, .agg #[.slice none 0 0, .bool true, fnP 101])]); have B2 : Hid (KL w w2 [(w.heap.size, .slice none 0 0, .bool false, .nilFunc)]) := Lib.hid ⟨((new2 w _ _)).trans (hF2.below (by omega) (by simp; omega)), ((B3.new w _ _ _ 61).alloc _).fed hF2, trivial⟩)
            | (refine wpList_insert_lit rfl (.tmp 7) _ _ _ _ _ rfl Tryz.underlying109 Tryz.underlying9 hF2 ⟨#[108, 101, 97, 115, 116]⟩ (.agg #[.slice none 0 0, .bool false, .func (.func 104) #[] #[.pointer (some ⟨w2.heap.size, 0, none⟩)]]) rfl rfl rfl rfl ?_; clear hF2; intro w3 (hF3 : Fed _ w3 _ [(⟨#[110, 118, 108]⟩, .agg #[.slice none 0 0, .bool true, fnP 100]), (⟨#[110, 117, 108, 108, 105, 102]⟩, .agg #[.slice none 0 0, .bool true, fnP 101]), (⟨#[108, 101, 97, 115, 116]⟩, .agg #[.slice none 0 0, .bool false, .func (.func 104) #[] #[.pointer (some ⟨w2.heap.size, 0, none⟩)]])]); have B3_ : Hid (KL w w3 [(w.heap.size, .slice none 0 0, .bool false, .nilFunc)]) := Lib.hid ⟨(B2.out.alloc _).HB.trans (hF3.below (by omega) (by have := B2.out.HB.size; simp; omega)), (B2.out.alloc _).q.1.fed hF3, trivial⟩; have C3 := Lib.hid (show w3.cell? ⟨w2.heap.size, 0, none⟩ = some (.int .i64 (-1)) ∧ w2.heap.size < w3.heap.size from ⟨(hF3.cell _).trans ((World.cell?_alloc_new w2 #[.int .i64 (-1)] 3 0).trans rfl), by rw [hF3.size]; simp⟩))
            | (refine wpList_insert_lit rfl (.tmp 7) _ _ _ _ _ rfl Tryz.underlying109 Tryz.underlying9 hF3 ⟨#[103, 114, 101, 97, 116, 101, 115, 116]⟩ (.agg #[.slice none 0 0, .bool false, .func (.func 104) #[] #[.pointer (some ⟨w3.heap.size, 0, none⟩)]]) rfl rfl rfl rfl ?_; clear hF3; intro w4 (hF4 : Fed _ w4 _ [(⟨#[110, 118, 108]⟩, .agg #[.slice none 0 0, .bool true, fnP 100]), (⟨#[110, 117, 108, 108, 105, 102]⟩, .agg #[.slice none 0 0, .bool true, fnP 101]), (⟨#[108, 101, 97, 115, 116]⟩, .agg #[.slice none 0 0, .bool false, .func (.func 104) #[] #[.pointer (some ⟨w2.heap.size, 0, none⟩)]]), (⟨#[103, 114, 101, 97, 116, 101, 115, 116]⟩, .agg #[.slice none 0 0, .bool false, .func (.func 104) #[] #[.pointer (some ⟨w3.heap.size, 0, none⟩)]])]); have B4 : Hid (KL w w4 [(w.heap.size, .slice none 0 0, .bool false, .nilFunc)]) := Lib.hid ⟨(B3_.out.alloc _).HB.trans (hF4.below (by omega) (by have := B3_.out.HB.size; simp; omega)), (B3_.out.alloc _).q.1.fed hF4, trivial⟩; have hlk := run_lookup_lit hF4.here Tryz.underlying109 Tryz.underlying9 (zero84 _) op; rw [show findE [(⟨#[110, 118, 108]⟩, .agg #[.slice none 0 0, .bool true, fnP 100]), (⟨#[110, 117, 108, 108, 105, 102]⟩, .agg #[.slice none 0 0, .bool true, fnP 101]), (⟨#[108, 101, 97, 115, 116]⟩, .agg #[.slice none 0 0, .bool false, .func (.func 104) #[] #[.pointer (some ⟨w2.heap.size, 0, none⟩)]]), (⟨#[103, 114, 101, 97, 116, 101, 115, 116]⟩, .agg #[.slice none 0 0, .bool false, .func (.func 104) #[] #[.pointer (some ⟨w3.heap.size, 0, none⟩)]])] op = some (.agg #[.slice none 0 0, .bool true, fnP 101]) from by rw [HO.out]; rfl] at hlk; simp only [Option.getD_some, Option.isSome_some] at hlk; have K : Hid (KL w ((w4.alloc (.cells #[.slice (some ⟨w4.heap.size + 1, 0, none⟩) 2 2, .bool true, fnP 101] 61)).alloc (.cells #[.int .i64 0, .int .i64 0] 25)) [(w.heap.size, .slice none 0 0, .bool false, .nilFunc)]) := Lib.hid ((B4.out.alloc _).alloc _); obtain ⟨HB, ⟨r0, r1, r2, g0, g1, g2, rl⟩, _⟩ := K.out; have C4 := Lib.hid (show (w4.cell? ⟨w2.heap.size, 0, none⟩ = some (.int .i64 (-1)) ∧ w4.cell? ⟨w3.heap.size, 0, none⟩ = some (.int .i64 1)) ∧ w3.heap.size < w4.heap.size from ⟨⟨(hF4.cell _).trans ((bcell (new1 w3 _) _ 0 C3.out.2).trans C3.out.1), (hF4.cell _).trans ((World.cell?_alloc_new w3 #[.int .i64 1] 3 0).trans rfl)⟩, by rw [hF4.size]; simp⟩); clear hF4)
            | (go_at_call 75; refine (outermost_ _ _).mono ?_; rintro e y ⟨rfl, rfl⟩; first | (have hG := Fed.begin (hF3.here.of_block (Below.heap_alloc _ (.cells #[.int .i64 1] 3) _ hF3.here.lt)); clear hF3; have hF3 := hG; clear hG) | (have hG := Fed.begin (hF2.here.of_block (Below.heap_alloc _ (.cells #[.int .i64 (-1)] 3) _ hF2.here.lt)); clear hF2; have hF2 := hG; clear hG)))
  (try simp only [Exit.inBlock, Exit.then])
  have hs2 := C3.out.2
  have hs4 := C4.out.2
  have hsw := B2.out.q.1.lt
  have hz := two_ints w4 (.cells #[.slice (some ⟨w4.heap.size + 1, 0, none⟩) 2 2, .bool true, fnP 101] 61)
  refine ret_fn rfl rfl K.out.q.1 rfl ⟨⟨_, rfl, ?_, ?_, by omega⟩, _root_.Go.Proofs.YthomeplakcbfoaaGreatDoor.set3 HB _ (Nat.le_refl _) _ _ _⟩
  · exact (set3_cell _ (by simp; omega) _ _ _).trans hz.1
  · exact (set3_cell _ (by simp; omega) _ _ _).trans hz.2
/-- A name that the table of functions of two does not know. -/
def noTwo (op : ByteArray) : Prop := ∀ a b c d : Value, findE [(⟨#[110, 118, 108]⟩, a), (⟨#[110, 117, 108, 108, 105, 102]⟩, b), (⟨#[108, 101, 97, 115, 116]⟩, c), (⟨#[103, 114, 101, 97, 116, 101, 115, 116]⟩, d)] op = none
set_option maxRecDepth 100000 in
set_option maxHeartbeats 1000000 in
theorem ofTwo_none (op : ByteArray) (ho : noTwo op) (w : World) : Calls Tryz.prog 67 #[.string op] w fun e w' => (∃ b, e = .returned (.tuple #[.agg #[.slice (some ⟨b, 0, none⟩) 2 2, .bool false, .nilFunc], .bool false])) ∧ Below w.heap.size w w' := by
  have hmm := @run_makeMap Tryz.prog
  have HO := Lib.hid ho
  clear ho
  go_enter Tryz.func67, Tryz.ntmps67
  go_wp2_with (first
            | (refine wpList_insert_lit rfl (.tmp 7) _ _ _ _ _ rfl Tryz.underlying109 Tryz.underlying9 (Fed.made' _ _ (sz1 _ _)) ⟨#[110, 118, 108]⟩ (.agg #[.slice none 0 0, .bool true, fnP 100]) rfl rfl rfl rfl ?_; intro w1 (hF1 : Fed _ w1 _ [(⟨#[110, 118, 108]⟩, .agg #[.slice none 0 0, .bool true, fnP 100])]); skip)
            | (refine wpList_insert_lit rfl (.tmp 7) _ _ _ _ _ rfl Tryz.underlying109 Tryz.underlying9 hF1 ⟨#[110, 117, 108, 108, 105, 102]⟩ (.agg #[.slice none 0 0, .bool true, fnP 101]) rfl rfl rfl rfl ?_; clear hF1; intro w2 (hF2 : Fed _ w2 _ [(⟨#[110, 118, 108]⟩, .agg #[.slice none 0 0, .bool true, fnP 100]), (⟨#[110, 117, 108, 108, 105, 102]⟩, .agg #[.slice none 0 0, .bool true, fnP 101])]); have B2 : Hid (KL w w2 [(w.heap.size, .slice none 0 0, .bool false, .nilFunc)]) := Lib.hid ⟨((new2 w _ _)).trans (hF2.below (by omega) (by simp; omega)), ((B3.new w _ _ _ 61).alloc _).fed hF2, trivial⟩)
            | (refine wpList_insert_lit rfl (.tmp 7) _ _ _ _ _ rfl Tryz.underlying109 Tryz.underlying9 hF2 ⟨#[108, 101, 97, 115, 116]⟩ (.agg #[.slice none 0 0, .bool false, .func (.func 104) #[] #[.pointer (some ⟨w2.heap.size, 0, none⟩)]]) rfl rfl rfl rfl ?_; clear hF2; intro w3 (hF3 : Fed _ w3 _ [(⟨#[110, 118, 108]⟩, .agg #[.slice none 0 0, .bool true, fnP 100]), (⟨#[110, 117, 108, 108, 105, 102]⟩, .agg #[.slice none 0 0, .bool true, fnP 101]), (⟨#[108, 101, 97, 115, 116]⟩, .agg #[.slice none 0 0, .bool false, .func (.func 104) #[] #[.pointer (some ⟨w2.heap.size, 0, none⟩)]])]); have B3_ : Hid (KL w w3 [(w.heap.size, .slice none 0 0, .bool false, .nilFunc)]) := Lib.hid ⟨(B2.out.alloc _).HB.trans (hF3.below (by omega) (by have := B2.out.HB.size; simp; omega)), (B2.out.alloc _).q.1.fed hF3, trivial⟩)
            | (refine wpList_insert_lit rfl (.tmp 7) _ _ _ _ _ rfl Tryz.underlying109 Tryz.underlying9 hF3 ⟨#[103, 114, 101, 97, 116, 101, 115, 116]⟩ (.agg #[.slice none 0 0, .bool false, .func (.func 104) #[] #[.pointer (some ⟨w3.heap.size, 0, none⟩)]]) rfl rfl rfl rfl ?_; clear hF3; intro w4 (hF4 : Fed _ w4 _ [(⟨#[110, 118, 108]⟩, .agg #[.slice none 0 0, .bool true, fnP 100]), (⟨#[110, 117, 108, 108, 105, 102]⟩, .agg #[.slice none 0 0, .bool true, fnP 101]), (⟨#[108, 101, 97, 115, 116]⟩, .agg #[.slice none 0 0, .bool false, .func (.func 104) #[] #[.pointer (some ⟨w2.heap.size, 0, none⟩)]]), (⟨#[103, 114, 101, 97, 116, 101, 115, 116]⟩, .agg #[.slice none 0 0, .bool false, .func (.func 104) #[] #[.pointer (some ⟨w3.heap.size, 0, none⟩)]])]); have B4 : Hid (KL w w4 [(w.heap.size, .slice none 0 0, .bool false, .nilFunc)]) := Lib.hid ⟨(B3_.out.alloc _).HB.trans (hF4.below (by omega) (by have := B3_.out.HB.size; simp; omega)), (B3_.out.alloc _).q.1.fed hF4, trivial⟩; have hlk := run_lookup_lit hF4.here Tryz.underlying109 Tryz.underlying9 (zero84 _) op; rw [show findE [(⟨#[110, 118, 108]⟩, .agg #[.slice none 0 0, .bool true, fnP 100]), (⟨#[110, 117, 108, 108, 105, 102]⟩, .agg #[.slice none 0 0, .bool true, fnP 101]), (⟨#[108, 101, 97, 115, 116]⟩, .agg #[.slice none 0 0, .bool false, .func (.func 104) #[] #[.pointer (some ⟨w2.heap.size, 0, none⟩)]]), (⟨#[103, 114, 101, 97, 116, 101, 115, 116]⟩, .agg #[.slice none 0 0, .bool false, .func (.func 104) #[] #[.pointer (some ⟨w3.heap.size, 0, none⟩)]])] op = none from HO.out _ _ _ _] at hlk; simp only [Option.getD_none, Option.isSome_none] at hlk; have K : Hid (KL w ((w4.alloc (.cells #[.slice (some ⟨w4.heap.size + 1, 0, none⟩) 2 2, .bool false, .nilFunc] 61)).alloc (.cells #[.int .i64 0, .int .i64 0] 25)) [(w.heap.size, .slice none 0 0, .bool false, .nilFunc)]) := Lib.hid ((B4.out.alloc _).alloc _); obtain ⟨HB, ⟨r0, r1, r2, g0, g1, g2, rl⟩, _⟩ := K.out; clear hF4)
            | (go_at_call 75; refine (outermost_ _ _).mono ?_; rintro e y ⟨rfl, rfl⟩; first | (have hG := Fed.begin (hF3.here.of_block (Below.heap_alloc _ (.cells #[.int .i64 1] 3) _ hF3.here.lt)); clear hF3; have hF3 := hG; clear hG) | (have hG := Fed.begin (hF2.here.of_block (Below.heap_alloc _ (.cells #[.int .i64 (-1)] 3) _ hF2.here.lt)); clear hF2; have hF2 := hG; clear hG)))
  (try simp only [Exit.inBlock, Exit.then])
  exact ret_fn rfl rfl K.out.q.1 rfl ⟨⟨_, rfl⟩, _root_.Go.Proofs.YthomeplakcbfoaaGreatDoor.set3 HB _ (Nat.le_refl _) _ _ _⟩
end
end
end Go.Proofs.YthomeplakcbfoaaGreatDoor
namespace Go.Proofs.YthomeplakcbfoaaGreatDoor
section
section
open Go.RowKit

/-- Arguments that a function takes: of as many as ds, of their kinds; no null, unless it sees them. -/
def Good (ds : List Int) (sn : Bool) (l : List Va) : Prop := l.length = ds.length ∧ allOk l = true ∧ fitsL l 0 ds = true ∧ (sn = false → hasNull l = false)
/-- From world x on function g with what it holds calculates sp, of arguments that it takes. -/
structure FnL (x : World) (g : Nat) (caps : Array Value) (ds : List Int) (sn : Bool) (sp : List Va → Va × Int) : Prop where
  call : ∀ (args : Array Value) (y : World), (callFunc g args).run Tryz.prog y = .ok (.enter g args) y
  does : ∀ y, Below x.heap.size x y → Env y → ∀ (A : Option Addr) (c : Nat) (l : List Va), Good ds sn l → Sl y A l → Calls Tryz.prog g (#[.slice A l.length c] ++ caps) y fun e w' => e = .returned (two (sp l)) ∧ Below y.heap.size y w'
theorem FnL.below {x y : World} {g : Nat} {caps : Array Value} {ds : List Int} {sn : Bool} {sp : List Va → Va × Int} (h : FnL x g caps ds sn sp) (hb : Below x.heap.size x y) : FnL y g caps ds sn sp :=
  ⟨h.call, fun z hz => h.does z (hb.trans (hz.mono hb.size))⟩
/-- A function is returned. -/
def RetF (ds : List Int) (sn : Bool) (sp : List Va → Va × Int) (w : World) (e : Ending) (w' : World) : Prop :=
  (∃ (bt g : Nat) (caps : Array Value), e = .returned (.tuple #[.agg #[.slice (some ⟨bt, 0, none⟩) ds.length ds.length, .bool sn, .func (.func g) #[] caps], .bool true]) ∧ IntsAt w' bt ds ∧ FnL w' g caps ds sn sp) ∧ Below w.heap.size w w'
theorem good1 {d : Int} (hd : d ≠ 0) {l : List Va} (h : Good [d] false l) : ∃ v, l = [v] ∧ v.k = d ∧ v.ok = true := by
  obtain ⟨h1, h2, h3, h4⟩ := h
  match l, h1 with
  | [v], _ =>
    have hn := notNull1 v (h4 rfl)
    have hk : oneK d [v] = true := by
      simp only [fitsL, List.getD_cons_zero] at h3
      rw [if_neg (by simpa using hd)] at h3
      split at h3
      · cases h3
      · rename_i q; simpa using q
    refine ⟨v, rfl, ?_, ?_⟩
    · rcases oneK1 d v hk with q | q | q
      · exact absurd q hn
      · exact absurd q hd
      · exact q
    · simpa [allOk] using h2
def spN (sp : Int → Va) (l : List Va) : Va × Int := (sp (l.headD nulV).n, 0)
def spT (sp : ByteArray → Va × Int) (l : List Va) : Va × Int := sp (l.headD nulV).s
theorem ok_small {v : Va} (hk : v.k = 1) (h : v.ok = true) : Small v.n := int_in v.k v.n v.s hk h
theorem ok_text {v : Va} (hk : v.k = 2) (h : v.ok = true) : okText v.s = true := vld_text v.k v.n v.s hk h
theorem call_int4 (args : Array Value) (y : World) : (callFunc 93 args).run Tryz.prog y = .ok (.enter 93 args) y := by simp [go_sem]
theorem call_txt4 (args : Array Value) (y : World) : (callFunc 99 args).run Tryz.prog y = .ok (.enter 99 args) y := by simp [go_sem]
theorem fnL_int {g : Nat} {sp : Int → Va} (hg : FnN g sp) {x : World} {cb : Nat} (hc : x.cell? ⟨cb, 0, none⟩ = some (fnP g)) : FnL x 93 #[.pointer (some ⟨cb, 0, none⟩)] [1] false (spN sp) := by
  refine ⟨call_int4, fun y hy E A c l hl hs => ?_⟩
  obtain ⟨v, rfl, hk, hv⟩ := good1 (by decide) hl
  exact int4_ g sp hg v (ok_small hk hv) A c cb y E hs ((bcell hy cb 0 (World.block_lt_of_cell? x _ hc)).trans hc)
theorem fnL_txt {g : Nat} {sp : ByteArray → Va × Int} (hg : FnS g sp) {x : World} {cb : Nat} (hc : x.cell? ⟨cb, 0, none⟩ = some (fnP g)) : FnL x 99 #[.pointer (some ⟨cb, 0, none⟩)] [2] false (spT sp) := by
  refine ⟨call_txt4, fun y hy E A c l hl hs => ?_⟩
  obtain ⟨v, rfl, hk, hv⟩ := good1 (by decide) hl
  exact txt4_ g sp hg v (ok_text hk hv) A c cb y E hs ((bcell hy cb 0 (World.block_lt_of_cell? x _ hc)).trans hc)
theorem good2 {l : List Va} (h : Good [0, 0] false l) : ∃ p q, l = [p, q] ∧ p.ok = true ∧ q.ok = true ∧ p.k ≠ 0 ∧ q.k = p.k := by
  obtain ⟨h1, h2, h3, h4⟩ := h
  match l, h1 with
  | [p, q], _ =>
    have hn := h4 rfl
    have hk : oneK 0 [p, q] = true := by simpa [fitsL] using h3
    simp only [allOk, List.all_cons, List.all_nil, Bool.and_true, Bool.and_eq_true] at h2
    simp only [hasNull, List.any_cons, List.any_nil, Bool.or_false, Bool.or_eq_false_iff, beq_eq_false_iff_ne] at hn
    obtain ⟨κ, _, hκ⟩ := (oneK0_iff [p, q]).1 hk
    have e1 := hκ p (by simp)
    have e2 := hκ q (by simp)
    refine ⟨p, q, rfl, h2.1, h2.2, hn.1, ?_⟩
    rcases e1 with e1 | e1
    · exact absurd e1 hn.1
    · rcases e2 with e2 | e2
      · exact absurd e2 hn.2
      · rw [e1, e2]
theorem good2n {sn : Bool} {l : List Va} (h : Good [0, 0] sn l) : ∃ p q, l = [p, q] := by
  obtain ⟨h1, _⟩ := h
  match l, h1 with
  | [p, q], _ => exact ⟨p, q, rfl⟩
theorem good3 {l : List Va} (h : Good [2, 1, 1] false l) : ∃ u v z, l = [u, v, z] ∧ u.ok = true ∧ v.ok = true ∧ z.ok = true ∧ u.k = 2 ∧ v.k = 1 ∧ z.k = 1 := by
  obtain ⟨h1, h2, h3, h4⟩ := h
  match l, h1 with
  | [u, v, z], _ =>
    have hn := h4 rfl
    simp only [allOk, List.all_cons, List.all_nil, Bool.and_true, Bool.and_eq_true] at h2
    simp only [hasNull, List.any_cons, List.any_nil, Bool.or_false, Bool.or_eq_false_iff, beq_eq_false_iff_ne] at hn
    have key : ∀ (d : Int) (x : Va), d ≠ 0 → x.k ≠ 0 → oneK d [x] = true → x.k = d := fun d x hd hx hk => by
      rcases oneK1 d x hk with q | q | q
      · exact absurd q hx
      · exact absurd q hd
      · exact q
    simp only [fitsL] at h3
    rw [if_neg (by decide)] at h3
    split at h3
    · cases h3
    · rename_i q0
      rw [if_neg (by decide)] at h3
      split at h3
      · cases h3
      · rename_i q1
        rw [if_neg (by decide)] at h3
        split at h3
        · cases h3
        · rename_i q2
          refine ⟨u, v, z, rfl, h2.1, h2.2.1, h2.2.2, key 2 u (by decide) hn.1 (by simpa using q0), key 1 v (by decide) hn.2.1 (by simpa using q1), key 1 z (by decide) hn.2.2 (by simpa using q2)⟩
theorem call_out (args : Array Value) (y : World) : (callFunc 104 args).run Tryz.prog y = .ok (.enter 104 args) y := by simp [go_sem]
theorem call_nvl (args : Array Value) (y : World) : (callFunc 100 args).run Tryz.prog y = .ok (.enter 100 args) y := by simp [go_sem]
theorem call_nullif (args : Array Value) (y : World) : (callFunc 101 args).run Tryz.prog y = .ok (.enter 101 args) y := by simp [go_sem]
theorem call_substr (args : Array Value) (y : World) : (callFunc 68 args).run Tryz.prog y = .ok (.enter 68 args) y := by simp [go_sem]
def spO (d : Int) (l : List Va) : Va × Int := (outF d nulV l, 0)
theorem fnL_out {d : Int} {x : World} {c' : Nat} (hc : x.cell? ⟨c', 0, none⟩ = some (.int .i64 d)) : FnL x 104 #[.pointer (some ⟨c', 0, none⟩)] [0, 0] false (spO d) := by
  refine ⟨call_out, fun y hy _ A c l hl hs => ?_⟩
  exact outer_ d c' A c l y (by rw [hl.1]; simp [maxLen]) hs ((bcell hy c' 0 (World.block_lt_of_cell? x _ hc)).trans hc)
set_option maxRecDepth 100000 in
theorem nvl_ (p q : Va) (A : Option Addr) (c : Nat) (w : World) (h : Sl w A [p, q]) : Calls Tryz.prog 100 #[.slice A 2 c] w fun e w' => e = .returned (two (if p.k = 0 then q else p, 0)) ∧ Below w.heap.size w w' := by
  obtain ⟨b, off, rfl, hb, c0, c1, c2⟩ := h 0 p rfl
  obtain ⟨b', off', hA, _, d0, d1, d2⟩ := h 1 q rfl
  cases hA
  clear h
  simp only [Nat.zero_mul, Nat.one_mul, Nat.add_zero] at c0 c1 c2 d0 d1 d2
  obtain ⟨k, n, s⟩ := p
  obtain ⟨k', n', s'⟩ := q
  simp only at c0 c1 c2 d0 d1 d2
  have HN := Lib.hid fun x g hx => someN1 x g k n s hx
  by_cases hk : k = 0
  · have hkb : (k == 0) = true := by simpa using hk
    rw [show (if (Va.mk k n s).k = 0 then ⟨k', n', s'⟩ else ⟨k, n, s⟩ : Va) = ⟨k', n', s'⟩ from if_pos hk]
    rw [hkb] at HN
    clear hk
    go_enter Tryz.func100, Tryz.ntmps100
    go_wp2_with (first
      | (go_at_call 41; refine (HN.out _ _ (sl1' _ _ (sz1 _ _) _ _ _)).mono ?_; rintro e y ⟨rfl, hb1⟩; have K := Lib.hid (KL.below (KL.alloc ((KL.refl w).push (.int .i64 0) (.int .i64 0) (.string ⟨#[]⟩) 27) _) hb1); clear hb1; obtain ⟨HB, ⟨r0, r1, r2, g0, g1, g2, rl⟩, _⟩ := K.out; have c0' := (bcell HB b off hb).trans c0; have c1' := (bcell HB b (off + 1) hb).trans c1; have c2' := (bcell HB b (off + 2) hb).trans c2; have d0' := (bcell HB b (off + 3) hb).trans d0; have d1' := (bcell HB b (off + 3 + 1) hb).trans d1; have d2' := (bcell HB b (off + 3 + 2) hb).trans d2))
    (try simp only [Exit.inBlock, Exit.then])
    exact ret_two rfl rfl K.out.q.1 rfl ⟨rfl, set3 HB _ (Nat.le_refl _) _ _ _⟩
  · have hkb : (k == 0) = false := by simpa using hk
    rw [show (if (Va.mk k n s).k = 0 then ⟨k', n', s'⟩ else ⟨k, n, s⟩ : Va) = ⟨k, n, s⟩ from if_neg hk]
    rw [hkb] at HN
    clear hk
    go_enter Tryz.func100, Tryz.ntmps100
    go_wp2_with (first
      | (go_at_call 41; refine (HN.out _ _ (sl1' _ _ (sz1 _ _) _ _ _)).mono ?_; rintro e y ⟨rfl, hb1⟩; have K := Lib.hid (KL.below (KL.alloc ((KL.refl w).push (.int .i64 0) (.int .i64 0) (.string ⟨#[]⟩) 27) _) hb1); clear hb1; obtain ⟨HB, ⟨r0, r1, r2, g0, g1, g2, rl⟩, _⟩ := K.out; have c0' := (bcell HB b off hb).trans c0; have c1' := (bcell HB b (off + 1) hb).trans c1; have c2' := (bcell HB b (off + 2) hb).trans c2; have d0' := (bcell HB b (off + 3) hb).trans d0; have d1' := (bcell HB b (off + 3 + 1) hb).trans d1; have d2' := (bcell HB b (off + 3 + 2) hb).trans d2))
    (try simp only [Exit.inBlock, Exit.then])
    exact ret_two rfl rfl K.out.q.1 rfl ⟨rfl, set3 HB _ (Nat.le_refl _) _ _ _⟩
set_option maxRecDepth 100000 in
theorem nullif_ (p q : Va) (A : Option Addr) (c : Nat) (w : World) (h : Sl w A [p, q]) : Calls Tryz.prog 101 #[.slice A 2 c] w fun e w' => e = .returned (two (if eqV p.k p.n p.s q.k q.n q.s = true then nulV else p, 0)) ∧ Below w.heap.size w w' := by
  obtain ⟨b, off, rfl, hb, c0, c1, c2⟩ := h 0 p rfl
  obtain ⟨b', off', hA, _, d0, d1, d2⟩ := h 1 q rfl
  cases hA
  clear h
  simp only [Nat.zero_mul, Nat.one_mul, Nat.add_zero] at c0 c1 c2 d0 d1 d2
  obtain ⟨k, n, s⟩ := p
  obtain ⟨k', n', s'⟩ := q
  simp only at c0 c1 c2 d0 d1 d2
  have K := Lib.hid ((KL.refl w).push (.int .i64 0) (.int .i64 0) (.string ⟨#[]⟩) 27)
  by_cases he : eqV k n s k' n' s' = true
  · have HR : (if eqV (Va.mk k n s).k (Va.mk k n s).n (Va.mk k n s).s (Va.mk k' n' s').k (Va.mk k' n' s').n (Va.mk k' n' s').s = true then nulV else ⟨k, n, s⟩) = nulV := if_pos he
    rw [HR]
    clear HR
    go_enter Tryz.func101, Tryz.ntmps101
    go_wp2_with fail
    go_quiet (fail)
    go_wp2_with fail
    (try simp only [Exit.inBlock, Exit.then])
    have K2 := Lib.hid (K.out.below (below_drewN (Below.refl _ _) nq))
    exact ret_two rfl rfl K2.out.q.1 rfl ⟨rfl, set3 K2.out.HB _ (Nat.le_refl _) _ _ _⟩
  · have HR : (if eqV (Va.mk k n s).k (Va.mk k n s).n (Va.mk k n s).s (Va.mk k' n' s').k (Va.mk k' n' s').n (Va.mk k' n' s').s = true then nulV else ⟨k, n, s⟩) = ⟨k, n, s⟩ := if_neg he
    rw [HR]
    clear HR
    replace he : eqV k n s k' n' s' = false := by simpa using he
    go_enter Tryz.func101, Tryz.ntmps101
    go_wp2_with fail
    go_quiet (fail)
    go_wp2_with fail
    (try simp only [Exit.inBlock, Exit.then])
    have K2 := Lib.hid (K.out.below (below_drewN (Below.refl _ _) nq))
    exact ret_two rfl rfl K2.out.q.1 rfl ⟨rfl, set3 K2.out.HB _ (Nat.le_refl _) _ _ _⟩
def spNvl (l : List Va) : Va × Int := (if (l.getD 0 nulV).k = 0 then l.getD 1 nulV else l.getD 0 nulV, 0)
def spNif (l : List Va) : Va × Int := (if eqV (l.getD 0 nulV).k (l.getD 0 nulV).n (l.getD 0 nulV).s (l.getD 1 nulV).k (l.getD 1 nulV).n (l.getD 1 nulV).s = true then nulV else l.getD 0 nulV, 0)
def spSub (l : List Va) : Va × Int := (txtV (subT (l.getD 0 nulV).s (l.getD 1 nulV).n (l.getD 2 nulV).n), 0)
theorem fnL_nvl (x : World) : FnL x 100 #[] [0, 0] true spNvl := by
  refine ⟨call_nvl, fun y hy _ A c l hl hs => ?_⟩
  obtain ⟨p, q, rfl⟩ := good2n hl
  exact nvl_ p q A c y hs
theorem fnL_nullif (x : World) : FnL x 101 #[] [0, 0] true spNif := by
  refine ⟨call_nullif, fun y hy _ A c l hl hs => ?_⟩
  obtain ⟨p, q, rfl⟩ := good2n hl
  exact nullif_ p q A c y hs
theorem fnL_substr (x : World) : FnL x 68 #[] [2, 1, 1] false spSub := by
  refine ⟨call_substr, fun y hy _ A c l hl hs => ?_⟩
  obtain ⟨⟨k0, n0, s⟩, ⟨k1, f, e1⟩, ⟨k2, m, e2⟩, rfl, o0, o1, o2, rfl, rfl, rfl⟩ := good3 hl
  exact substr_ s f m e1 e2 (okText_size s (ok_text (v := ⟨2, n0, s⟩) rfl o0)) (ok_small (v := ⟨1, f, e1⟩) rfl o1) (ok_small (v := ⟨1, m, e2⟩) rfl o2) _ _ _ _ A c y hs
theorem intsAt1 (x : World) (d : Int) (t : TypeId) : IntsAt (x.alloc (.cells #[.int .i64 d] t)) x.heap.size [d] := IntsAt.new x [d] t
theorem IntsAt.set3 {x : World} {bt : Nat} {ks : List Int} (h : IntsAt x bt ks) (b : Nat) (hb : bt ≠ b) (u0 u1 u2 : Value) : IntsAt (((x.setCell ⟨b, 0, none⟩ u0).setCell ⟨b, 1, none⟩ u1).setCell ⟨b, 2, none⟩ u2) bt ks :=
  ⟨by simpa using h.1, fun i d hd => (set3_cell x (p := ⟨bt, i, none⟩) hb u0 u1 u2).trans (h.2 i d hd)⟩
theorem intsTwo {x : World} {b : Nat} (h0 : x.cell? ⟨b, 0, none⟩ = some (.int .i64 0)) (h1 : x.cell? ⟨b, 1, none⟩ = some (.int .i64 0)) : IntsAt x b [0, 0] :=
  ⟨World.block_lt_of_cell? x _ h0, fun i d hd => by
    match i, hd with
    | 0, hd => cases hd; exact h0
    | 1, hd => cases hd; exact h1⟩
theorem intsB3 {x : World} {b : Nat} {d0 d1 d2 : Int} (h : B3 x b (.int .i64 d0) (.int .i64 d1) (.int .i64 d2)) : IntsAt x b [d0, d1, d2] := ⟨h.lt, B3.ints h⟩
set_option maxRecDepth 100000 in
theorem functionOf_int (op : ByteArray) (g : Nat) (sp : Int → Va) (hg : FnN g sp) (hn : findE ofIntegerMap op = some (fnP g)) (w : World) : Calls Tryz.prog 39 #[.string op] w (RetF [1] false (spN sp) w) := by
  have HG := Lib.hid hg
  have HN := Lib.hid hn
  skip
  clear hg hn
  go_enter Tryz.func39, Tryz.ntmps39
  go_wp2_with (first
    | (go_at_call 65; refine (ofInteger_some _ g HN.out _).mono ?_; rintro e y ⟨⟨cb, rfl, hcb, hle⟩, hb⟩; have HC := Lib.hid hcb; have hle' : w.heap.size < cb := (by rw [sz1] at hle; omega); clear hle; have K0 := Lib.hid (KL.below ((KL.refl w).push (.slice none 0 0) (.bool false) .nilFunc 61) hb); have K := Lib.hid (K0.out.alloc (.cells #[.int .i64 1] 25)); have hyl := Lib.hid K0.out.q.1.lt; clear hb hcb; obtain ⟨HB, ⟨r0, r1, r2, g0, g1, g2, rl⟩, _⟩ := K.out))
  (try simp only [Exit.inBlock, Exit.then])
  exact ret_fn rfl rfl K.out.q.1 rfl ⟨⟨_, _, _, rfl, (intsAt1 y 1 _).set3 _ (by have h9 := hyl.out; omega) _ _ _, fnL_int HG.out ((set3_cell _ (by simp; omega) _ _ _).trans ((bcell (new1 y _) cb 0 (World.block_lt_of_cell? y _ HC.out)).trans HC.out))⟩, _root_.Go.Proofs.YthomeplakcbfoaaGreatDoor.set3 HB _ (Nat.le_refl _) _ _ _⟩
set_option maxRecDepth 100000 in
theorem functionOf_txt (op : ByteArray) (g : Nat) (sp : ByteArray → Va × Int) (hg : FnS g sp) (h1 : findE ofIntegerMap op = none) (hn : findE ofTextMap op = some (fnP g)) (w : World) : Calls Tryz.prog 39 #[.string op] w (RetF [2] false (spT sp) w) := by
  have HG := Lib.hid hg
  have HN := Lib.hid hn
  have H1 := Lib.hid h1
  clear hg hn h1
  go_enter Tryz.func39, Tryz.ntmps39
  go_wp2_with (first
    | (go_at_call 65; refine (ofInteger_no _ H1.out _).mono ?_; rintro e y ⟨fv, rfl, hb⟩; have K : Hid (KL w y [(w.heap.size, .slice none 0 0, .bool false, .nilFunc)]) := Lib.hid (KL.below ((KL.refl w).push _ _ _ 61) hb); clear hb; obtain ⟨HB, ⟨r0, r1, r2, g0, g1, g2, rl⟩, _⟩ := K.out)
    | (go_at_call 66; refine (ofText_some _ g HN.out _).mono ?_; rintro e y ⟨⟨cb, rfl, hcb, hle⟩, hb⟩; have HC := Lib.hid hcb; have hle' : w.heap.size < cb := Nat.lt_of_lt_of_le rl hle; clear hle; have K0 := Lib.hid (KL.below K.out hb); have K' := Lib.hid (K0.out.alloc (.cells #[.int .i64 2] 25)); have hyl := Lib.hid K0.out.q.1.lt; clear hb hcb K HB r0 r1 r2 g0 g1 g2 rl; have K := K'; clear K'; obtain ⟨HB, ⟨r0, r1, r2, g0, g1, g2, rl⟩, _⟩ := K.out))
  (try simp only [Exit.inBlock, Exit.then])
  exact ret_fn rfl rfl K.out.q.1 rfl ⟨⟨_, _, _, rfl, (intsAt1 y 2 _).set3 _ (by have h9 := hyl.out; omega) _ _ _, fnL_txt HG.out ((set3_cell _ (by simp; omega) _ _ _).trans ((bcell (new1 y _) cb 0 (World.block_lt_of_cell? y _ HC.out)).trans HC.out))⟩, _root_.Go.Proofs.YthomeplakcbfoaaGreatDoor.set3 HB _ (Nat.le_refl _) _ _ _⟩
set_option maxRecDepth 100000 in
theorem functionOf_nul (op : ByteArray) (g : Nat) (sp : List Va → Va × Int) (hg : ∀ x, FnL x g #[] [0, 0] true sp) (h1 : findE ofIntegerMap op = none) (h2 : findE ofTextMap op = none) (h3 : ∀ x, Calls Tryz.prog 67 #[.string op] x (RetNul g x)) (w : World) : Calls Tryz.prog 39 #[.string op] w (RetF [0, 0] true sp w) := by
  have H1 := Lib.hid h1
  have H2 := Lib.hid h2
  have H3 := Lib.hid h3
  have HG := Lib.hid hg
  clear h1 h2 h3 hg
  go_enter Tryz.func39, Tryz.ntmps39
  go_wp2_with (first
    | (go_at_call 65; refine (ofInteger_no _ H1.out _).mono ?_; rintro e y ⟨fv, rfl, hb⟩; have K : Hid (KL w y [(w.heap.size, .slice none 0 0, .bool false, .nilFunc)]) := Lib.hid (KL.below ((KL.refl w).push _ _ _ 61) hb); clear hb; obtain ⟨HB, ⟨r0, r1, r2, g0, g1, g2, rl⟩, _⟩ := K.out)
    | (go_at_call 66; refine (ofText_no _ H2.out _).mono ?_; rintro e y ⟨fv, rfl, hb⟩; have K' := Lib.hid (KL.below K.out hb); clear hb K HB r0 r1 r2 g0 g1 g2 rl; have K := K'; clear K'; obtain ⟨HB, ⟨r0, r1, r2, g0, g1, g2, rl⟩, _⟩ := K.out)
    | (go_at_call 67; refine (H3.out _).mono ?_; rintro e y ⟨⟨b, rfl, t0, t1, l1⟩, hb⟩; have hl1 := Nat.lt_of_lt_of_le rl l1; have TT := Lib.hid ((intsTwo t0 t1).below (new1 y (.cells #[.slice (some ⟨b, 0, none⟩) 2 2, .bool true, fnP g] 61))); clear t0 t1 l1; have K' := Lib.hid (KL.alloc (KL.below K.out hb) (.cells #[.slice (some ⟨b, 0, none⟩) 2 2, .bool true, fnP g] 61)); clear hb K HB r0 r1 r2 g0 g1 g2 rl; have K := K'; clear K'; obtain ⟨HB, ⟨r0, r1, r2, g0, g1, g2, rl⟩, _⟩ := K.out))
  (try simp only [Exit.inBlock, Exit.then])
  exact ret_fn rfl rfl K.out.q.1 rfl ⟨⟨_, _, _, rfl, TT.out.set3 _ (by omega) _ _ _, HG.out _⟩, _root_.Go.Proofs.YthomeplakcbfoaaGreatDoor.set3 HB _ (Nat.le_refl _) _ _ _⟩
theorem functionOf_outer (op : ByteArray) (d : Int) (hf : ∀ x, Calls Tryz.prog 39 #[.string op] x (RetTwo d x)) (w : World) : Calls Tryz.prog 39 #[.string op] w (RetF [0, 0] false (spO d) w) := by
  refine (hf w).mono ?_
  rintro e y ⟨⟨b, c', rfl, t1, t2, t3, _, _⟩, hb⟩
  exact ⟨⟨_, _, _, rfl, intsTwo t2 t3, fnL_out t1⟩, hb⟩
theorem functionOf_sub (w : World) : Calls Tryz.prog 39 #[.string sSubstr] w (RetF [2, 1, 1] false spSub w) := by
  refine (functionOf_substr w).mono ?_
  rintro e y ⟨⟨bt, rfl, _, hq⟩, hb⟩
  exact ⟨⟨_, _, _, rfl, intsB3 hq, fnL_substr y⟩, hb⟩
/-- No function is returned. -/
def RetNoF (w : World) (e : Ending) (w' : World) : Prop := e = .returned (.tuple #[.agg #[.slice none 0 0, .bool false, .nilFunc], .bool false]) ∧ Below w.heap.size w w'
set_option maxRecDepth 100000 in
theorem functionOf_none (op : ByteArray) (h1 : findE ofIntegerMap op = none) (h2 : findE ofTextMap op = none) (h3 : noTwo op) (h4 : (op.toList == [115, 117, 98, 115, 116, 114]) = false) (w : World) : Calls Tryz.prog 39 #[.string op] w (RetNoF w) := by
  have H1 := Lib.hid h1
  have H2 := Lib.hid h2
  have H3 := Lib.hid h3
  clear h1 h2 h3
  go_enter Tryz.func39, Tryz.ntmps39
  go_wp2_with (first
    | (go_at_call 65; refine (ofInteger_no _ H1.out _).mono ?_; rintro e y ⟨fv, rfl, hb⟩; have K : Hid (KL w y [(w.heap.size, .slice none 0 0, .bool false, .nilFunc)]) := Lib.hid (KL.below ((KL.refl w).push _ _ _ 61) hb); clear hb; obtain ⟨HB, ⟨r0, r1, r2, g0, g1, g2, rl⟩, _⟩ := K.out)
    | (go_at_call 66; refine (ofText_no _ H2.out _).mono ?_; rintro e y ⟨fv, rfl, hb⟩; have K' := Lib.hid (KL.below K.out hb); clear hb K HB r0 r1 r2 g0 g1 g2 rl; have K := K'; clear K'; obtain ⟨HB, ⟨r0, r1, r2, g0, g1, g2, rl⟩, _⟩ := K.out)
    | (go_at_call 67; refine (ofTwo_none _ H3.out _).mono ?_; rintro e y ⟨⟨b, rfl⟩, hb⟩; have K' := Lib.hid (KL.alloc (KL.below K.out hb) (.cells #[.slice (some ⟨b, 0, none⟩) 2 2, .bool false, .nilFunc] 61)); clear hb K HB r0 r1 r2 g0 g1 g2 rl; have K := K'; clear K'; obtain ⟨HB, ⟨r0, r1, r2, g0, g1, g2, rl⟩, _⟩ := K.out))
  (try simp only [Exit.inBlock, Exit.then])
  exact ret_fn rfl rfl K.out.q.1 rfl ⟨rfl, _root_.Go.Proofs.YthomeplakcbfoaaGreatDoor.set3 HB _ (Nat.le_refl _) _ _ _⟩
end
end
end Go.Proofs.YthomeplakcbfoaaGreatDoor
namespace Go.Proofs.YthomeplakcbfoaaGreatDoor
section
section
open Go.RowKit

set_option maxRecDepth 100000 in
set_option maxHeartbeats 1000000 in
theorem call_bad (op : ByteArray)  (A : Option Addr) (c : Nat) (l : List Va) (w : World) (hl : l.length ≤ maxLen) (h : Sl w A l) (hok : allOk l = false) :
    Calls Tryz.prog 8 #[.string op, .slice A l.length c] w fun e w' => e = .returned (two (nulV, 2)) ∧ Below w.heap.size w w' := by
  go_enter Tryz.func8, Tryz.ntmps8
  go_wp2_with (first
    | (go_at_call 38; refine (allValid_ A c l _ hl (h.below (new1 w _))).mono ?_; rintro e y ⟨rfl, hb⟩; rw [hok]; have K := Lib.hid (KL.below ((KL.refl w).push (.int .i64 0) (.int .i64 0) (.string ⟨#[]⟩) 27) hb); clear hb; obtain ⟨HB, ⟨r0, r1, r2, g0, g1, g2, rl⟩, _⟩ := K.out))
  (try simp only [Exit.inBlock, Exit.then])
  exact ret_two rfl rfl K.out.q.1 rfl ⟨rfl, _root_.Go.Proofs.YthomeplakcbfoaaGreatDoor.set3 HB _ (Nat.le_refl _) _ _ _⟩
set_option maxRecDepth 100000 in
set_option maxHeartbeats 1000000 in
theorem call_no (op : ByteArray) (hf : ∀ x, Calls Tryz.prog 39 #[.string op] x (RetNoF x)) (A : Option Addr) (c : Nat) (l : List Va) (w : World) (hl : l.length ≤ maxLen) (h : Sl w A l) (hok : allOk l = true) :
    Calls Tryz.prog 8 #[.string op, .slice A l.length c] w fun e w' => e = .returned (two (nulV, 13)) ∧ Below w.heap.size w w' := by
  have HF := Lib.hid hf
  clear hf
  go_enter Tryz.func8, Tryz.ntmps8
  go_wp2_with (first
    | (go_at_call 38; refine (allValid_ A c l _ hl (h.below (new1 w _))).mono ?_; rintro e y ⟨rfl, hb⟩; rw [hok]; have K := Lib.hid (KL.below ((KL.refl w).push (.int .i64 0) (.int .i64 0) (.string ⟨#[]⟩) 27) hb); clear hb; obtain ⟨HB, ⟨r0, r1, r2, g0, g1, g2, rl⟩, _⟩ := K.out)
    | (go_at_call 39; refine (HF.out _).mono ?_; rintro e y2 ⟨rfl, hb⟩; have K' := Lib.hid (KL.push (KL.below K.out hb) (.slice none 0 0) (.bool false) .nilFunc 61); clear hb K HB r0 r1 r2 g0 g1 g2 rl; have K := K'; clear K'; obtain ⟨HB, ⟨p0, p1, p2, _, _, _, pl⟩, ⟨r0, r1, r2, g0, g1, g2, rl⟩, _⟩ := K.out))
  (try simp only [Exit.inBlock, Exit.then])
  exact ret_two rfl rfl K.out.q.2.1 rfl ⟨rfl, _root_.Go.Proofs.YthomeplakcbfoaaGreatDoor.set3 HB _ (Nat.le_refl _) _ _ _⟩
set_option maxRecDepth 100000 in
set_option maxHeartbeats 1000000 in
theorem call_count (op : ByteArray) {ds : List Int} {sn : Bool} {sp : List Va → Va × Int} (hf : ∀ x, Calls Tryz.prog 39 #[.string op] x (RetF ds sn sp x)) (A : Option Addr) (c : Nat) (l : List Va) (w : World) (hl : l.length ≤ maxLen) (h : Sl w A l) (hok : allOk l = true) (hlen : l.length ≠ ds.length) :
    Calls Tryz.prog 8 #[.string op, .slice A l.length c] w fun e w' => e = .returned (two (nulV, 17)) ∧ Below w.heap.size w w' := by
  have HF := Lib.hid hf
  clear hf
  have hne : ((l.length : Int) == ds.length) = false := by rw [beq_eq_false_iff_ne]; omega
  have hne2 : ((l.length : Int) != ds.length) = true := by rw [bne, hne]; rfl
  go_enter Tryz.func8, Tryz.ntmps8
  go_wp2_with (first
    | (go_at_call 38; refine (allValid_ A c l _ hl (h.below (new1 w _))).mono ?_; rintro e y ⟨rfl, hb⟩; rw [hok]; have K := Lib.hid (KL.below ((KL.refl w).push (.int .i64 0) (.int .i64 0) (.string ⟨#[]⟩) 27) hb); clear hb; obtain ⟨HB, ⟨r0, r1, r2, g0, g1, g2, rl⟩, _⟩ := K.out)
    | (go_at_call 39; refine (HF.out _).mono ?_; rintro e y2 ⟨⟨bt, g, caps, rfl, hI, hL⟩, hb⟩; have hcall := hL.call; have HI := Lib.hid (hI.below (new1 y2 (.cells #[.slice (some ⟨bt, 0, none⟩) ds.length ds.length, .bool sn, .func (.func g) #[] caps] 61))); have HL := Lib.hid (hL.below (new1 y2 (.cells #[.slice (some ⟨bt, 0, none⟩) ds.length ds.length, .bool sn, .func (.func g) #[] caps] 61))); clear hI hL; have K' := Lib.hid (KL.push (KL.below K.out hb) (.slice (some ⟨bt, 0, none⟩) ds.length ds.length) (.bool sn) (.func (.func g) #[] caps) 61); clear hb K HB r0 r1 r2 g0 g1 g2 rl; have K := K'; clear K'; obtain ⟨HB, ⟨p0, p1, p2, _, _, _, pl⟩, ⟨r0, r1, r2, g0, g1, g2, rl⟩, _⟩ := K.out))
  (try simp only [Exit.inBlock, Exit.then])
  exact ret_two rfl rfl K.out.q.2.1 rfl ⟨rfl, _root_.Go.Proofs.YthomeplakcbfoaaGreatDoor.set3 HB _ (Nat.le_refl _) _ _ _⟩
set_option maxRecDepth 100000 in
set_option maxHeartbeats 1000000 in
theorem call_type (op : ByteArray) {ds : List Int} {sn : Bool} {sp : List Va → Va × Int} (hf : ∀ x, Calls Tryz.prog 39 #[.string op] x (RetF ds sn sp x)) (A : Option Addr) (c : Nat) (l : List Va) (w : World) (hl : l.length ≤ maxLen) (h : Sl w A l) (hok : allOk l = true) (hlen : l.length = ds.length) (hfit : fitsL l 0 ds = false) :
    Calls Tryz.prog 8 #[.string op, .slice A l.length c] w fun e w' => e = .returned (two (nulV, 16)) ∧ Below w.heap.size w w' := by
  have HF := Lib.hid hf
  have HE := Lib.hid hlen.symm
  clear hf hlen
  have hne2 : ((l.length : Int) != ds.length) = false := by rw [HE.out]; simp
  have hne3 : ((l.length : Int) == ds.length) = true := by rw [HE.out]; simp
  go_enter Tryz.func8, Tryz.ntmps8
  go_wp2_with (first
    | (go_at_call 38; refine (allValid_ A c l _ hl (h.below (new1 w _))).mono ?_; rintro e y ⟨rfl, hb⟩; rw [hok]; have K := Lib.hid (KL.below ((KL.refl w).push (.int .i64 0) (.int .i64 0) (.string ⟨#[]⟩) 27) hb); clear hb; obtain ⟨HB, ⟨r0, r1, r2, g0, g1, g2, rl⟩, _⟩ := K.out)
    | (go_at_call 39; refine (HF.out _).mono ?_; rintro e y2 ⟨⟨bt, g, caps, rfl, hI, hL⟩, hb⟩; have hcall := hL.call; have HI := Lib.hid (hI.below (new1 y2 (.cells #[.slice (some ⟨bt, 0, none⟩) ds.length ds.length, .bool sn, .func (.func g) #[] caps] 61))); have HL := Lib.hid (hL.below (new1 y2 (.cells #[.slice (some ⟨bt, 0, none⟩) ds.length ds.length, .bool sn, .func (.func g) #[] caps] 61))); clear hI hL; have K' := Lib.hid (KL.push (KL.below K.out hb) (.slice (some ⟨bt, 0, none⟩) ds.length ds.length) (.bool sn) (.func (.func g) #[] caps) 61); clear hb K HB r0 r1 r2 g0 g1 g2 rl; have K := K'; clear K'; obtain ⟨HB, ⟨p0, p1, p2, _, _, _, pl⟩, ⟨r0, r1, r2, g0, g1, g2, rl⟩, _⟩ := K.out)
    | (go_at_call 40; refine (fits_ bt ds ds.length sn g caps A c l _ hl (h.below HB) HE.out HI.out.2 HI.out.1).mono ?_; rintro e y3 ⟨rfl, hb⟩; rw [hfit]; have HI' := Lib.hid (HI.out.below hb); have HL' := Lib.hid (HL.out.below hb); have K' := Lib.hid (KL.below K.out hb); clear hb K HB HI HL p0 p1 p2 pl r0 r1 r2 g0 g1 g2 rl; have K := K'; have HI := HI'; have HL := HL'; clear K' HI' HL'; obtain ⟨HB, ⟨p0, p1, p2, _, _, _, pl⟩, ⟨r0, r1, r2, g0, g1, g2, rl⟩, _⟩ := K.out))
  (try simp only [Exit.inBlock, Exit.then])
  exact ret_two rfl rfl K.out.q.2.1 rfl ⟨rfl, _root_.Go.Proofs.YthomeplakcbfoaaGreatDoor.set3 HB _ (Nat.le_refl _) _ _ _⟩
set_option maxRecDepth 100000 in
set_option maxHeartbeats 1000000 in
theorem call_null (op : ByteArray) {ds : List Int} {sp : List Va → Va × Int} (hf : ∀ x, Calls Tryz.prog 39 #[.string op] x (RetF ds false sp x)) (A : Option Addr) (c : Nat) (l : List Va) (w : World) (hl : l.length ≤ maxLen) (h : Sl w A l) (hok : allOk l = true) (hlen : l.length = ds.length) (hfit : fitsL l 0 ds = true) (hn : hasNull l = true) :
    Calls Tryz.prog 8 #[.string op, .slice A l.length c] w fun e w' => e = .returned (two (nulV, 0)) ∧ Below w.heap.size w w' := by
  have HF := Lib.hid hf
  have HE := Lib.hid hlen.symm
  clear hf hlen
  have hne2 : ((l.length : Int) != ds.length) = false := by rw [HE.out]; simp
  have hne3 : ((l.length : Int) == ds.length) = true := by rw [HE.out]; simp
  go_enter Tryz.func8, Tryz.ntmps8
  go_wp2_with (first
    | (go_at_call 38; refine (allValid_ A c l _ hl (h.below (new1 w _))).mono ?_; rintro e y ⟨rfl, hb⟩; rw [hok]; have K := Lib.hid (KL.below ((KL.refl w).push (.int .i64 0) (.int .i64 0) (.string ⟨#[]⟩) 27) hb); clear hb; obtain ⟨HB, ⟨r0, r1, r2, g0, g1, g2, rl⟩, _⟩ := K.out)
    | (go_at_call 39; refine (HF.out _).mono ?_; rintro e y2 ⟨⟨bt, g, caps, rfl, hI, hL⟩, hb⟩; have hcall := hL.call; have HI := Lib.hid (hI.below (new1 y2 (.cells #[.slice (some ⟨bt, 0, none⟩) ds.length ds.length, .bool false, .func (.func g) #[] caps] 61))); have HL := Lib.hid (hL.below (new1 y2 (.cells #[.slice (some ⟨bt, 0, none⟩) ds.length ds.length, .bool false, .func (.func g) #[] caps] 61))); clear hI hL; have K' := Lib.hid (KL.push (KL.below K.out hb) (.slice (some ⟨bt, 0, none⟩) ds.length ds.length) (.bool false) (.func (.func g) #[] caps) 61); clear hb K HB r0 r1 r2 g0 g1 g2 rl; have K := K'; clear K'; obtain ⟨HB, ⟨p0, p1, p2, _, _, _, pl⟩, ⟨r0, r1, r2, g0, g1, g2, rl⟩, _⟩ := K.out)
    | (go_at_call 40; refine (fits_ bt ds ds.length false g caps A c l _ hl (h.below HB) HE.out HI.out.2 HI.out.1).mono ?_; rintro e y3 ⟨rfl, hb⟩; rw [hfit]; have HI' := Lib.hid (HI.out.below hb); have HL' := Lib.hid (HL.out.below hb); have K' := Lib.hid (KL.below K.out hb); clear hb K HB HI HL p0 p1 p2 pl r0 r1 r2 g0 g1 g2 rl; have K := K'; have HI := HI'; have HL := HL'; clear K' HI' HL'; obtain ⟨HB, ⟨p0, p1, p2, _, _, _, pl⟩, ⟨r0, r1, r2, g0, g1, g2, rl⟩, _⟩ := K.out)
    | (go_at_call 41; refine (someNull_ A c l _ hl (h.below HB)).mono ?_; rintro e y3 ⟨rfl, hb⟩; rw [hn]; have HI' := Lib.hid (HI.out.below hb); have HL' := Lib.hid (HL.out.below hb); have K' := Lib.hid (KL.below K.out hb); clear hb K HB HI HL p0 p1 p2 pl r0 r1 r2 g0 g1 g2 rl; have K := K'; have HI := HI'; have HL := HL'; clear K' HI' HL'; obtain ⟨HB, ⟨p0, p1, p2, _, _, _, pl⟩, ⟨r0, r1, r2, g0, g1, g2, rl⟩, _⟩ := K.out))
  (try simp only [Exit.inBlock, Exit.then])
  exact ret_two rfl rfl K.out.q.2.1 rfl ⟨rfl, _root_.Go.Proofs.YthomeplakcbfoaaGreatDoor.set3 HB _ (Nat.le_refl _) _ _ _⟩
set_option maxRecDepth 100000 in
set_option maxHeartbeats 1000000 in
theorem call_do (op : ByteArray) {ds : List Int} {sp : List Va → Va × Int} (hf : ∀ x, Calls Tryz.prog 39 #[.string op] x (RetF ds false sp x)) (A : Option Addr) (c : Nat) (l : List Va) (w : World) (hl : l.length ≤ maxLen) (h : Sl w A l) (E : Env w) (hok : allOk l = true) (hlen : l.length = ds.length) (hfit : fitsL l 0 ds = true) (hn : hasNull l = false) :
    Calls Tryz.prog 8 #[.string op, .slice A l.length c] w fun e w' => e = .returned (two (sp l)) ∧ Below w.heap.size w w' := by
  have HF := Lib.hid hf
  have HE := Lib.hid hlen.symm
  clear hf hlen
  have hne2 : ((l.length : Int) != ds.length) = false := by rw [HE.out]; simp
  have hne3 : ((l.length : Int) == ds.length) = true := by rw [HE.out]; simp
  have HGd : Hid (Good ds false l) := Lib.hid ⟨HE.out.symm, hok, hfit, fun _ => hn⟩
  have HV := Lib.hid E
  obtain ⟨⟨rk, rn, rs⟩, re, hsp⟩ : ∃ r e, sp l = (r, e) := ⟨_, _, rfl⟩
  rw [hsp]
  go_enter Tryz.func8, Tryz.ntmps8
  go_wp2_with (first
    | (go_at_call 38; refine (allValid_ A c l _ hl (h.below (new1 w _))).mono ?_; rintro e y ⟨rfl, hb⟩; rw [hok]; have K := Lib.hid (KL.below ((KL.refl w).push (.int .i64 0) (.int .i64 0) (.string ⟨#[]⟩) 27) hb); clear hb; obtain ⟨HB, ⟨r0, r1, r2, g0, g1, g2, rl⟩, _⟩ := K.out)
    | (go_at_call 39; refine (HF.out _).mono ?_; rintro e y2 ⟨⟨bt, g, caps, rfl, hI, hL⟩, hb⟩; have hcall := hL.call; have HI := Lib.hid (hI.below (new1 y2 (.cells #[.slice (some ⟨bt, 0, none⟩) ds.length ds.length, .bool false, .func (.func g) #[] caps] 61))); have HL := Lib.hid (hL.below (new1 y2 (.cells #[.slice (some ⟨bt, 0, none⟩) ds.length ds.length, .bool false, .func (.func g) #[] caps] 61))); clear hI hL; have K' := Lib.hid (KL.push (KL.below K.out hb) (.slice (some ⟨bt, 0, none⟩) ds.length ds.length) (.bool false) (.func (.func g) #[] caps) 61); clear hb K HB r0 r1 r2 g0 g1 g2 rl; have K := K'; clear K'; obtain ⟨HB, ⟨p0, p1, p2, _, _, _, pl⟩, ⟨r0, r1, r2, g0, g1, g2, rl⟩, _⟩ := K.out)
    | (go_at_call 40; refine (fits_ bt ds ds.length false g caps A c l _ hl (h.below HB) HE.out HI.out.2 HI.out.1).mono ?_; rintro e y3 ⟨rfl, hb⟩; rw [hfit]; have HI' := Lib.hid (HI.out.below hb); have HL' := Lib.hid (HL.out.below hb); have K' := Lib.hid (KL.below K.out hb); clear hb K HB HI HL p0 p1 p2 pl r0 r1 r2 g0 g1 g2 rl; have K := K'; have HI := HI'; have HL := HL'; clear K' HI' HL'; obtain ⟨HB, ⟨p0, p1, p2, _, _, _, pl⟩, ⟨r0, r1, r2, g0, g1, g2, rl⟩, _⟩ := K.out)
    | (go_at_call 41; refine (someNull_ A c l _ hl (h.below HB)).mono ?_; rintro e y3 ⟨rfl, hb⟩; rw [hn]; have HI' := Lib.hid (HI.out.below hb); have HL' := Lib.hid (HL.out.below hb); have K' := Lib.hid (KL.below K.out hb); clear hb K HB HI HL p0 p1 p2 pl r0 r1 r2 g0 g1 g2 rl; have K := K'; have HI := HI'; have HL := HL'; clear K' HI' HL'; obtain ⟨HB, ⟨p0, p1, p2, _, _, _, pl⟩, ⟨r0, r1, r2, g0, g1, g2, rl⟩, _⟩ := K.out))
  refine (HL.out.does _ (Below.refl _ _) (HV.out.below HB) A c l HGd.out (h.below HB)).mono ?_
  rw [hsp]
  rintro e y4 ⟨rfl, hb⟩
  have K' := Lib.hid (KL.below K.out hb)
  clear hb K HB HI HL p0 p1 p2 pl r0 r1 r2 g0 g1 g2 rl
  have K := K'
  clear K'
  obtain ⟨HB, ⟨p0, p1, p2, _, _, _, pl⟩, ⟨r0, r1, r2, g0, g1, g2, rl⟩, _⟩ := K.out
  go_wp2_with fail
  (try simp only [Exit.inBlock, Exit.then])
  exact ret_two rfl rfl K.out.q.2.1 rfl ⟨rfl, _root_.Go.Proofs.YthomeplakcbfoaaGreatDoor.set3 HB _ (Nat.le_refl _) _ _ _⟩
set_option maxRecDepth 100000 in
set_option maxHeartbeats 1000000 in
theorem call_doN0 (op : ByteArray) {ds : List Int} {sp : List Va → Va × Int} (hf : ∀ x, Calls Tryz.prog 39 #[.string op] x (RetF ds true sp x)) (A : Option Addr) (c : Nat) (l : List Va) (w : World) (hl : l.length ≤ maxLen) (h : Sl w A l) (E : Env w) (hok : allOk l = true) (hlen : l.length = ds.length) (hfit : fitsL l 0 ds = true) (hn : hasNull l = false) :
    Calls Tryz.prog 8 #[.string op, .slice A l.length c] w fun e w' => e = .returned (two (sp l)) ∧ Below w.heap.size w w' := by
  have HF := Lib.hid hf
  have HE := Lib.hid hlen.symm
  clear hf hlen
  have hne2 : ((l.length : Int) != ds.length) = false := by rw [HE.out]; simp
  have hne3 : ((l.length : Int) == ds.length) = true := by rw [HE.out]; simp
  have HGd : Hid (Good ds true l) := Lib.hid ⟨HE.out.symm, hok, hfit, fun q => by cases q⟩
  have HV := Lib.hid E
  obtain ⟨⟨rk, rn, rs⟩, re, hsp⟩ : ∃ r e, sp l = (r, e) := ⟨_, _, rfl⟩
  rw [hsp]
  go_enter Tryz.func8, Tryz.ntmps8
  go_wp2_with (first
    | (go_at_call 38; refine (allValid_ A c l _ hl (h.below (new1 w _))).mono ?_; rintro e y ⟨rfl, hb⟩; rw [hok]; have K := Lib.hid (KL.below ((KL.refl w).push (.int .i64 0) (.int .i64 0) (.string ⟨#[]⟩) 27) hb); clear hb; obtain ⟨HB, ⟨r0, r1, r2, g0, g1, g2, rl⟩, _⟩ := K.out)
    | (go_at_call 39; refine (HF.out _).mono ?_; rintro e y2 ⟨⟨bt, g, caps, rfl, hI, hL⟩, hb⟩; have hcall := hL.call; have HI := Lib.hid (hI.below (new1 y2 (.cells #[.slice (some ⟨bt, 0, none⟩) ds.length ds.length, .bool true, .func (.func g) #[] caps] 61))); have HL := Lib.hid (hL.below (new1 y2 (.cells #[.slice (some ⟨bt, 0, none⟩) ds.length ds.length, .bool true, .func (.func g) #[] caps] 61))); clear hI hL; have K' := Lib.hid (KL.push (KL.below K.out hb) (.slice (some ⟨bt, 0, none⟩) ds.length ds.length) (.bool true) (.func (.func g) #[] caps) 61); clear hb K HB r0 r1 r2 g0 g1 g2 rl; have K := K'; clear K'; obtain ⟨HB, ⟨p0, p1, p2, _, _, _, pl⟩, ⟨r0, r1, r2, g0, g1, g2, rl⟩, _⟩ := K.out)
    | (go_at_call 40; refine (fits_ bt ds ds.length true g caps A c l _ hl (h.below HB) HE.out HI.out.2 HI.out.1).mono ?_; rintro e y3 ⟨rfl, hb⟩; rw [hfit]; have HI' := Lib.hid (HI.out.below hb); have HL' := Lib.hid (HL.out.below hb); have K' := Lib.hid (KL.below K.out hb); clear hb K HB HI HL p0 p1 p2 pl r0 r1 r2 g0 g1 g2 rl; have K := K'; have HI := HI'; have HL := HL'; clear K' HI' HL'; obtain ⟨HB, ⟨p0, p1, p2, _, _, _, pl⟩, ⟨r0, r1, r2, g0, g1, g2, rl⟩, _⟩ := K.out)
    | (go_at_call 41; refine (someNull_ A c l _ hl (h.below HB)).mono ?_; rintro e y3 ⟨rfl, hb⟩; rw [hn]; have HI' := Lib.hid (HI.out.below hb); have HL' := Lib.hid (HL.out.below hb); have K' := Lib.hid (KL.below K.out hb); clear hb K HB HI HL p0 p1 p2 pl r0 r1 r2 g0 g1 g2 rl; have K := K'; have HI := HI'; have HL := HL'; clear K' HI' HL'; obtain ⟨HB, ⟨p0, p1, p2, _, _, _, pl⟩, ⟨r0, r1, r2, g0, g1, g2, rl⟩, _⟩ := K.out))
  refine (HL.out.does _ (Below.refl _ _) (HV.out.below HB) A c l HGd.out (h.below HB)).mono ?_
  rw [hsp]
  rintro e y4 ⟨rfl, hb⟩
  have K' := Lib.hid (KL.below K.out hb)
  clear hb K HB HI HL p0 p1 p2 pl r0 r1 r2 g0 g1 g2 rl
  have K := K'
  clear K'
  obtain ⟨HB, ⟨p0, p1, p2, _, _, _, pl⟩, ⟨r0, r1, r2, g0, g1, g2, rl⟩, _⟩ := K.out
  go_wp2_with fail
  (try simp only [Exit.inBlock, Exit.then])
  exact ret_two rfl rfl K.out.q.2.1 rfl ⟨rfl, _root_.Go.Proofs.YthomeplakcbfoaaGreatDoor.set3 HB _ (Nat.le_refl _) _ _ _⟩
set_option maxRecDepth 100000 in
set_option maxHeartbeats 1000000 in
theorem call_doN1 (op : ByteArray) {ds : List Int} {sp : List Va → Va × Int} (hf : ∀ x, Calls Tryz.prog 39 #[.string op] x (RetF ds true sp x)) (A : Option Addr) (c : Nat) (l : List Va) (w : World) (hl : l.length ≤ maxLen) (h : Sl w A l) (E : Env w) (hok : allOk l = true) (hlen : l.length = ds.length) (hfit : fitsL l 0 ds = true) (hn : hasNull l = true) :
    Calls Tryz.prog 8 #[.string op, .slice A l.length c] w fun e w' => e = .returned (two (sp l)) ∧ Below w.heap.size w w' := by
  have HF := Lib.hid hf
  have HE := Lib.hid hlen.symm
  clear hf hlen
  have hne2 : ((l.length : Int) != ds.length) = false := by rw [HE.out]; simp
  have hne3 : ((l.length : Int) == ds.length) = true := by rw [HE.out]; simp
  have HGd : Hid (Good ds true l) := Lib.hid ⟨HE.out.symm, hok, hfit, fun q => by cases q⟩
  have HV := Lib.hid E
  obtain ⟨⟨rk, rn, rs⟩, re, hsp⟩ : ∃ r e, sp l = (r, e) := ⟨_, _, rfl⟩
  rw [hsp]
  go_enter Tryz.func8, Tryz.ntmps8
  go_wp2_with (first
    | (go_at_call 38; refine (allValid_ A c l _ hl (h.below (new1 w _))).mono ?_; rintro e y ⟨rfl, hb⟩; rw [hok]; have K := Lib.hid (KL.below ((KL.refl w).push (.int .i64 0) (.int .i64 0) (.string ⟨#[]⟩) 27) hb); clear hb; obtain ⟨HB, ⟨r0, r1, r2, g0, g1, g2, rl⟩, _⟩ := K.out)
    | (go_at_call 39; refine (HF.out _).mono ?_; rintro e y2 ⟨⟨bt, g, caps, rfl, hI, hL⟩, hb⟩; have hcall := hL.call; have HI := Lib.hid (hI.below (new1 y2 (.cells #[.slice (some ⟨bt, 0, none⟩) ds.length ds.length, .bool true, .func (.func g) #[] caps] 61))); have HL := Lib.hid (hL.below (new1 y2 (.cells #[.slice (some ⟨bt, 0, none⟩) ds.length ds.length, .bool true, .func (.func g) #[] caps] 61))); clear hI hL; have K' := Lib.hid (KL.push (KL.below K.out hb) (.slice (some ⟨bt, 0, none⟩) ds.length ds.length) (.bool true) (.func (.func g) #[] caps) 61); clear hb K HB r0 r1 r2 g0 g1 g2 rl; have K := K'; clear K'; obtain ⟨HB, ⟨p0, p1, p2, _, _, _, pl⟩, ⟨r0, r1, r2, g0, g1, g2, rl⟩, _⟩ := K.out)
    | (go_at_call 40; refine (fits_ bt ds ds.length true g caps A c l _ hl (h.below HB) HE.out HI.out.2 HI.out.1).mono ?_; rintro e y3 ⟨rfl, hb⟩; rw [hfit]; have HI' := Lib.hid (HI.out.below hb); have HL' := Lib.hid (HL.out.below hb); have K' := Lib.hid (KL.below K.out hb); clear hb K HB HI HL p0 p1 p2 pl r0 r1 r2 g0 g1 g2 rl; have K := K'; have HI := HI'; have HL := HL'; clear K' HI' HL'; obtain ⟨HB, ⟨p0, p1, p2, _, _, _, pl⟩, ⟨r0, r1, r2, g0, g1, g2, rl⟩, _⟩ := K.out)
    | (go_at_call 41; refine (someNull_ A c l _ hl (h.below HB)).mono ?_; rintro e y3 ⟨rfl, hb⟩; rw [hn]; have HI' := Lib.hid (HI.out.below hb); have HL' := Lib.hid (HL.out.below hb); have K' := Lib.hid (KL.below K.out hb); clear hb K HB HI HL p0 p1 p2 pl r0 r1 r2 g0 g1 g2 rl; have K := K'; have HI := HI'; have HL := HL'; clear K' HI' HL'; obtain ⟨HB, ⟨p0, p1, p2, _, _, _, pl⟩, ⟨r0, r1, r2, g0, g1, g2, rl⟩, _⟩ := K.out))
  refine (HL.out.does _ (Below.refl _ _) (HV.out.below HB) A c l HGd.out (h.below HB)).mono ?_
  rw [hsp]
  rintro e y4 ⟨rfl, hb⟩
  have K' := Lib.hid (KL.below K.out hb)
  clear hb K HB HI HL p0 p1 p2 pl r0 r1 r2 g0 g1 g2 rl
  have K := K'
  clear K'
  obtain ⟨HB, ⟨p0, p1, p2, _, _, _, pl⟩, ⟨r0, r1, r2, g0, g1, g2, rl⟩, _⟩ := K.out
  go_wp2_with fail
  (try simp only [Exit.inBlock, Exit.then])
  exact ret_two rfl rfl K.out.q.2.1 rfl ⟨rfl, _root_.Go.Proofs.YthomeplakcbfoaaGreatDoor.set3 HB _ (Nat.le_refl _) _ _ _⟩
theorem call_doN (op : ByteArray) {ds : List Int} {sp : List Va → Va × Int} (hf : ∀ x, Calls Tryz.prog 39 #[.string op] x (RetF ds true sp x)) (A : Option Addr) (c : Nat) (l : List Va) (w : World) (hl : l.length ≤ maxLen) (h : Sl w A l) (E : Env w) (hok : allOk l = true) (hlen : l.length = ds.length) (hfit : fitsL l 0 ds = true) :
    Calls Tryz.prog 8 #[.string op, .slice A l.length c] w fun e w' => e = .returned (two (sp l)) ∧ Below w.heap.size w w' := by
  cases hn : hasNull l
  · exact call_doN0 op hf A c l w hl h E hok hlen hfit hn
  · exact call_doN1 op hf A c l w hl h E hok hlen hfit hn
theorem builtin_yes (op : ByteArray) {ds : List Int} {sn : Bool} {sp : List Va → Va × Int} (hf : ∀ x, Calls Tryz.prog 39 #[.string op] x (RetF ds sn sp x)) (w : World) : Calls Tryz.prog 12 #[.string op] w fun e w' => e = .returned (.bool true) ∧ Below w.heap.size w w' := by
  have HF := Lib.hid hf
  clear hf
  go_enter Tryz.func12, Tryz.ntmps12
  go_wp2_with (first
    | (go_at_call 39; refine (HF.out _).mono ?_; rintro e y ⟨⟨bt, g, caps, rfl, _, _⟩, hb⟩))
  go_ret
  exact ⟨rfl, hb.alloc hb.size _⟩
theorem builtin_no (op : ByteArray) (hf : ∀ x, Calls Tryz.prog 39 #[.string op] x (RetNoF x)) (w : World) : Calls Tryz.prog 12 #[.string op] w fun e w' => e = .returned (.bool false) ∧ Below w.heap.size w w' := by
  have HF := Lib.hid hf
  clear hf
  go_enter Tryz.func12, Tryz.ntmps12
  go_wp2_with (first
    | (go_at_call 39; refine (HF.out _).mono ?_; rintro e y ⟨rfl, hb⟩))
  go_ret
  exact ⟨rfl, hb.alloc hb.size _⟩
end
end
end Go.Proofs.YthomeplakcbfoaaGreatDoor
