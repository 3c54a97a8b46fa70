/-
  Contracts: the tables of functions, at names that the first two do not know; substr.
-/
import Derived.Test.YthomeplakcbfoaaGreatDoorAA
namespace Go.Proofs.YthomeplakcbfoaaGreatDoor
open Go.RowKit

def RetNo (w : World) (e : Ending) (w' : World) : Prop := ∃ fv, e = .returned (.tuple #[fv, .bool false]) ∧ Below w.heap.size w w'
theorem zero65 (w : World) : (zeroValue 45).run Tryz.prog w = .ok .nilFunc w := by kernel_rfl
theorem zero48 (w : World) : (zeroValue 35).run Tryz.prog w = .ok .nilFunc w := by kernel_rfl
theorem zero84 (w : World) : (zeroValue 61).run Tryz.prog w = .ok (.agg #[.slice none 0 0, .bool false, .nilFunc]) w := by kernel_rfl

abbrev ofIntegerMap : List (ByteArray × Value) := [(⟨#[97, 98, 115]⟩, fnP 89), (⟨#[115, 105, 103, 110]⟩, fnP 91), (⟨#[116, 111, 95, 116, 101, 120, 116]⟩, fnP 92)]
set_option maxRecDepth 100000 in
theorem ofInteger_no (op : ByteArray) (hn : findE ofIntegerMap op = none) (w : World) : Calls Tryz.prog 65 #[.string op] w (RetNo w) := by
  have hmm := @run_makeMap Tryz.prog
  have hmf : ∀ (fn : Fn) (first cap : Array Value) (w : World), (Instr.makeFunc fn first cap).run Tryz.prog w = .ok (.func fn first cap) w := fun _ _ _ _ => rfl
  have HN := Lib.hid hn
  clear hn
  go_enter Tryz.func65, Tryz.ntmps65
  go_wp2_with (first
            | (refine wpList_insert_lit rfl (.tmp 7) _ _ _ _ _ rfl Tryz.underlying105 Tryz.underlying9 (Fed.made w) ⟨#[97, 98, 115]⟩ (fnP 89) rfl rfl rfl rfl ?_; intro w1 (hF1 : Fed _ w1 _ [(⟨#[97, 98, 115]⟩, fnP 89)]))
            | (refine wpList_insert_lit rfl (.tmp 7) _ _ _ _ _ rfl Tryz.underlying105 Tryz.underlying9 hF1 ⟨#[115, 105, 103, 110]⟩ (fnP 91) rfl rfl rfl rfl ?_; clear hF1; intro w2 (hF2 : Fed _ w2 _ [(⟨#[97, 98, 115]⟩, fnP 89), (⟨#[115, 105, 103, 110]⟩, fnP 91)]))
            | (refine wpList_insert_lit rfl (.tmp 7) _ _ _ _ _ rfl Tryz.underlying105 Tryz.underlying9 hF2 ⟨#[116, 111, 95, 116, 101, 120, 116]⟩ (fnP 92) rfl rfl rfl rfl ?_; clear hF2; intro w3 (hF3 : Fed _ w3 _ [(⟨#[97, 98, 115]⟩, fnP 89), (⟨#[115, 105, 103, 110]⟩, fnP 91), (⟨#[116, 111, 95, 116, 101, 120, 116]⟩, fnP 92)]); have hlk := run_lookup_lit hF3.here Tryz.underlying105 Tryz.underlying9 (zero65 _) op; rw [HN.out] at hlk; simp only [Option.getD_none, Option.isSome_none] at hlk; have HB : Hid (Below w.heap.size w w3) := Lib.hid ((new1 w _).trans (hF3.below (Nat.le_refl _) (by simp))); clear hF3))
  (try simp only [Exit.inBlock, Exit.then])
  go_ret2
  exact ⟨_, rfl, HB.out.alloc HB.out.size _⟩

abbrev ofTextMap : List (ByteArray × Value) := [(⟨#[108, 101, 110, 103, 116, 104]⟩, fnP 94), (⟨#[117, 112, 112, 101, 114]⟩, fnP 95), (⟨#[108, 111, 119, 101, 114]⟩, fnP 97), (⟨#[116, 111, 95, 105, 110, 116]⟩, fnP 98)]
set_option maxRecDepth 100000 in
theorem ofText_no (op : ByteArray) (hn : findE ofTextMap op = none) (w : World) : Calls Tryz.prog 66 #[.string op] w (RetNo w) := by
  have hmm := @run_makeMap Tryz.prog
  have hmf : ∀ (fn : Fn) (first cap : Array Value) (w : World), (Instr.makeFunc fn first cap).run Tryz.prog w = .ok (.func fn first cap) w := fun _ _ _ _ => rfl
  have HN := Lib.hid hn
  clear hn
  go_enter Tryz.func66, Tryz.ntmps66
  go_wp2_with (first
            | (refine wpList_insert_lit rfl (.tmp 7) _ _ _ _ _ rfl Tryz.underlying108 Tryz.underlying9 (Fed.made w) ⟨#[108, 101, 110, 103, 116, 104]⟩ (fnP 94) rfl rfl rfl rfl ?_; intro w1 (hF1 : Fed _ w1 _ [(⟨#[108, 101, 110, 103, 116, 104]⟩, fnP 94)]))
            | (refine wpList_insert_lit rfl (.tmp 7) _ _ _ _ _ rfl Tryz.underlying108 Tryz.underlying9 hF1 ⟨#[117, 112, 112, 101, 114]⟩ (fnP 95) rfl rfl rfl rfl ?_; clear hF1; intro w2 (hF2 : Fed _ w2 _ [(⟨#[108, 101, 110, 103, 116, 104]⟩, fnP 94), (⟨#[117, 112, 112, 101, 114]⟩, fnP 95)]))
            | (refine wpList_insert_lit rfl (.tmp 7) _ _ _ _ _ rfl Tryz.underlying108 Tryz.underlying9 hF2 ⟨#[108, 111, 119, 101, 114]⟩ (fnP 97) rfl rfl rfl rfl ?_; clear hF2; intro w3 (hF3 : Fed _ w3 _ [(⟨#[108, 101, 110, 103, 116, 104]⟩, fnP 94), (⟨#[117, 112, 112, 101, 114]⟩, fnP 95), (⟨#[108, 111, 119, 101, 114]⟩, fnP 97)]))
            | (refine wpList_insert_lit rfl (.tmp 7) _ _ _ _ _ rfl Tryz.underlying108 Tryz.underlying9 hF3 ⟨#[116, 111, 95, 105, 110, 116]⟩ (fnP 98) rfl rfl rfl rfl ?_; clear hF3; intro w4 (hF4 : Fed _ w4 _ [(⟨#[108, 101, 110, 103, 116, 104]⟩, fnP 94), (⟨#[117, 112, 112, 101, 114]⟩, fnP 95), (⟨#[108, 111, 119, 101, 114]⟩, fnP 97), (⟨#[116, 111, 95, 105, 110, 116]⟩, fnP 98)]); have hlk := run_lookup_lit hF4.here Tryz.underlying108 Tryz.underlying9 (zero48 _) op; rw [HN.out] at hlk; simp only [Option.getD_none, Option.isSome_none] at hlk; have HB : Hid (Below w.heap.size w w4) := Lib.hid ((new1 w _).trans (hF4.below (Nat.le_refl _) (by simp))); clear hF4))
  (try simp only [Exit.inBlock, Exit.then])
  go_ret2
  exact ⟨_, rfl, HB.out.alloc HB.out.size _⟩

theorem results_fn {fn : Func} {p q : Tmp} (h : fn.results = #[.cell p 61, .tmp q]) (tmps : Array Value) {b : Nat} (hp : tmps.getD p undef = .pointer (some ⟨b, 0, none⟩)) {z : World} {u0 u1 u2 : Value}
    (z0 : z.cell? ⟨b, 0, none⟩ = some u0) (z1 : z.cell? ⟨b, 1, none⟩ = some u1) (z2 : z.cell? ⟨b, 2, none⟩ = some u2) :
    (results fn tmps).run Tryz.prog z = .ok (.tuple #[.agg #[u0, u1, u2], tmps.getD q undef]) z := by
  simp only [Array.getD_eq_getD_getElem?] at hp
  simp [results, h, hp, go_sem, z0, z1, z2]
theorem ret_fn {fn : Func} {p q : Tmp} (h : fn.results = #[.cell p 61, .tmp q]) {R : Ending → World → Prop} {a : Act} (hd : a.defers = []) {x : World} {b : Nat} {c0 c1 c2 : Value} (K : B3 x b c0 c1 c2) {u0 u1 u2 : Value}
    (hp : a.tmps.getD p undef = .pointer (some ⟨b, 0, none⟩))
    (hR : R (.returned (.tuple #[.agg #[u0, u1, u2], a.tmps.getD q undef])) (((x.setCell ⟨b, 0, none⟩ u0).setCell ⟨b, 1, none⟩ u1).setCell ⟨b, 2, none⟩ u2)) :
    bodyPost Tryz.prog fn R .ret a (((x.setCell ⟨b, 0, none⟩ u0).setCell ⟨b, 1, none⟩ u1).setCell ⟨b, 2, none⟩ u2) :=
  let z := read3 K u0 u1 u2
  bodyPost_ret (results_fn h a.tmps hp z.1 z.2.1 z.2.2) hd hR

set_option maxRecDepth 100000 in
set_option maxHeartbeats 1000000 in
theorem ofTwo_substr (op : ByteArray) (ho : op = ⟨#[115, 117, 98, 115, 116, 114]⟩) (w : World) : Calls Tryz.prog 67 #[.string op] w fun e w' => (∃ b, e = .returned (.tuple #[.agg #[.slice (some ⟨b, 0, none⟩) 2 2, .bool false, .nilFunc], .bool false])) ∧ Below w.heap.size w w' := by
  have hmm := @run_makeMap Tryz.prog
  have HO := Lib.hid ho
  clear ho
  go_enter Tryz.func67, Tryz.ntmps67
  go_wp2_with (first
            | (refine wpList_insert_lit rfl (.tmp 7) _ _ _ _ _ rfl Tryz.underlying109 Tryz.underlying9 (Fed.made' _ _ (sz1 _ _)) ⟨#[110, 118, 108]⟩ (.agg #[.slice none 0 0, .bool true, fnP 100]) rfl rfl rfl rfl ?_; intro w1 (hF1 : Fed _ w1 _ [(⟨#[110, 118, 108]⟩, .agg #[.slice none 0 0, .bool true, fnP 100])]); skip)
            | (refine wpList_insert_lit rfl (.tmp 7) _ _ _ _ _ rfl Tryz.underlying109 Tryz.underlying9 hF1 ⟨#[110, 117, 108, 108, 105, 102]⟩ (.agg #[.slice none 0 0, .bool true, fnP 101]) rfl rfl rfl rfl ?_; clear hF1; intro w2 (hF2 : Fed _ w2 _ [(⟨#[110, 118, 108]⟩, .agg #[.slice none 0 0, .bool true, fnP 100]), (⟨#[110, 117, 108, 108, 105, 102]⟩, .agg #[.slice none 0 0, .bool true, fnP 101])]); have B2 : Hid (KL w w2 [(w.heap.size, .slice none 0 0, .bool false, .nilFunc)]) := Lib.hid ⟨((new2 w _ _)).trans (hF2.below (by omega) (by simp; omega)), ((B3.new w _ _ _ 61).alloc _).fed hF2, trivial⟩)
            | (refine wpList_insert_lit rfl (.tmp 7) _ _ _ _ _ rfl Tryz.underlying109 Tryz.underlying9 hF2 ⟨#[108, 101, 97, 115, 116]⟩ (.agg #[.slice none 0 0, .bool false, .func (.func 104) #[] #[.pointer (some ⟨w2.heap.size, 0, none⟩)]]) rfl rfl rfl rfl ?_; clear hF2; intro w3 (hF3 : Fed _ w3 _ [(⟨#[110, 118, 108]⟩, .agg #[.slice none 0 0, .bool true, fnP 100]), (⟨#[110, 117, 108, 108, 105, 102]⟩, .agg #[.slice none 0 0, .bool true, fnP 101]), (⟨#[108, 101, 97, 115, 116]⟩, .agg #[.slice none 0 0, .bool false, .func (.func 104) #[] #[.pointer (some ⟨w2.heap.size, 0, none⟩)]])]); have B3_ : Hid (KL w w3 [(w.heap.size, .slice none 0 0, .bool false, .nilFunc)]) := Lib.hid ⟨(B2.out.alloc _).HB.trans (hF3.below (by omega) (by have := B2.out.HB.size; simp; omega)), (B2.out.alloc _).q.1.fed hF3, trivial⟩)
            | (refine wpList_insert_lit rfl (.tmp 7) _ _ _ _ _ rfl Tryz.underlying109 Tryz.underlying9 hF3 ⟨#[103, 114, 101, 97, 116, 101, 115, 116]⟩ (.agg #[.slice none 0 0, .bool false, .func (.func 104) #[] #[.pointer (some ⟨w3.heap.size, 0, none⟩)]]) rfl rfl rfl rfl ?_; clear hF3; intro w4 (hF4 : Fed _ w4 _ [(⟨#[110, 118, 108]⟩, .agg #[.slice none 0 0, .bool true, fnP 100]), (⟨#[110, 117, 108, 108, 105, 102]⟩, .agg #[.slice none 0 0, .bool true, fnP 101]), (⟨#[108, 101, 97, 115, 116]⟩, .agg #[.slice none 0 0, .bool false, .func (.func 104) #[] #[.pointer (some ⟨w2.heap.size, 0, none⟩)]]), (⟨#[103, 114, 101, 97, 116, 101, 115, 116]⟩, .agg #[.slice none 0 0, .bool false, .func (.func 104) #[] #[.pointer (some ⟨w3.heap.size, 0, none⟩)]])]); have B4 : Hid (KL w w4 [(w.heap.size, .slice none 0 0, .bool false, .nilFunc)]) := Lib.hid ⟨(B3_.out.alloc _).HB.trans (hF4.below (by omega) (by have := B3_.out.HB.size; simp; omega)), (B3_.out.alloc _).q.1.fed hF4, trivial⟩; have hlk := run_lookup_lit hF4.here Tryz.underlying109 Tryz.underlying9 (zero84 _) op; rw [show findE [(⟨#[110, 118, 108]⟩, .agg #[.slice none 0 0, .bool true, fnP 100]), (⟨#[110, 117, 108, 108, 105, 102]⟩, .agg #[.slice none 0 0, .bool true, fnP 101]), (⟨#[108, 101, 97, 115, 116]⟩, .agg #[.slice none 0 0, .bool false, .func (.func 104) #[] #[.pointer (some ⟨w2.heap.size, 0, none⟩)]]), (⟨#[103, 114, 101, 97, 116, 101, 115, 116]⟩, .agg #[.slice none 0 0, .bool false, .func (.func 104) #[] #[.pointer (some ⟨w3.heap.size, 0, none⟩)]])] op = none from by rw [HO.out]; rfl] at hlk; simp only [Option.getD_none, Option.isSome_none] at hlk; have K : Hid (KL w ((w4.alloc (.cells #[.slice (some ⟨w4.heap.size + 1, 0, none⟩) 2 2, .bool false, .nilFunc] 61)).alloc (.cells #[.int .i64 0, .int .i64 0] 25)) [(w.heap.size, .slice none 0 0, .bool false, .nilFunc)]) := Lib.hid ((B4.out.alloc _).alloc _); obtain ⟨HB, ⟨r0, r1, r2, g0, g1, g2, rl⟩, _⟩ := K.out; clear hF4)
            | (go_at_call 75; refine (outermost_ _ _).mono ?_; rintro e y ⟨rfl, rfl⟩; first | (have hG := Fed.begin (hF3.here.of_block (Below.heap_alloc _ (.cells #[.int .i64 1] 3) _ hF3.here.lt)); clear hF3; have hF3 := hG; clear hG) | (have hG := Fed.begin (hF2.here.of_block (Below.heap_alloc _ (.cells #[.int .i64 (-1)] 3) _ hF2.here.lt)); clear hF2; have hF2 := hG; clear hG)))
  (try simp only [Exit.inBlock, Exit.then])
  exact ret_fn rfl rfl K.out.q.1 rfl ⟨⟨_, rfl⟩, _root_.Go.Proofs.YthomeplakcbfoaaGreatDoor.set3 HB _ (Nat.le_refl _) _ _ _⟩

set_option maxRecDepth 100000 in
set_option maxHeartbeats 1000000 in
theorem ofTwo_nvl (op : ByteArray) (ho : op = ⟨#[110, 118, 108]⟩) (w : World) : Calls Tryz.prog 67 #[.string op] w fun e w' => (∃ b, e = .returned (.tuple #[.agg #[.slice (some ⟨b, 0, none⟩) 2 2, .bool true, fnP 100], .bool true])) ∧ Below w.heap.size w w' := by
  have hmm := @run_makeMap Tryz.prog
  have HO := Lib.hid ho
  clear ho
  go_enter Tryz.func67, Tryz.ntmps67
  go_wp2_with (first
            | (refine wpList_insert_lit rfl (.tmp 7) _ _ _ _ _ rfl Tryz.underlying109 Tryz.underlying9 (Fed.made' _ _ (sz1 _ _)) ⟨#[110, 118, 108]⟩ (.agg #[.slice none 0 0, .bool true, fnP 100]) rfl rfl rfl rfl ?_; intro w1 (hF1 : Fed _ w1 _ [(⟨#[110, 118, 108]⟩, .agg #[.slice none 0 0, .bool true, fnP 100])]); skip)
            | (refine wpList_insert_lit rfl (.tmp 7) _ _ _ _ _ rfl Tryz.underlying109 Tryz.underlying9 hF1 ⟨#[110, 117, 108, 108, 105, 102]⟩ (.agg #[.slice none 0 0, .bool true, fnP 101]) rfl rfl rfl rfl ?_; clear hF1; intro w2 (hF2 : Fed _ w2 _ [(⟨#[110, 118, 108]⟩, .agg #[.slice none 0 0, .bool true, fnP 100]), (⟨#[110, 117, 108, 108, 105, 102]⟩, .agg #[.slice none 0 0, .bool true, fnP 101])]); have B2 : Hid (KL w w2 [(w.heap.size, .slice none 0 0, .bool false, .nilFunc)]) := Lib.hid ⟨((new2 w _ _)).trans (hF2.below (by omega) (by simp; omega)), ((B3.new w _ _ _ 61).alloc _).fed hF2, trivial⟩)
            | (refine wpList_insert_lit rfl (.tmp 7) _ _ _ _ _ rfl Tryz.underlying109 Tryz.underlying9 hF2 ⟨#[108, 101, 97, 115, 116]⟩ (.agg #[.slice none 0 0, .bool false, .func (.func 104) #[] #[.pointer (some ⟨w2.heap.size, 0, none⟩)]]) rfl rfl rfl rfl ?_; clear hF2; intro w3 (hF3 : Fed _ w3 _ [(⟨#[110, 118, 108]⟩, .agg #[.slice none 0 0, .bool true, fnP 100]), (⟨#[110, 117, 108, 108, 105, 102]⟩, .agg #[.slice none 0 0, .bool true, fnP 101]), (⟨#[108, 101, 97, 115, 116]⟩, .agg #[.slice none 0 0, .bool false, .func (.func 104) #[] #[.pointer (some ⟨w2.heap.size, 0, none⟩)]])]); have B3_ : Hid (KL w w3 [(w.heap.size, .slice none 0 0, .bool false, .nilFunc)]) := Lib.hid ⟨(B2.out.alloc _).HB.trans (hF3.below (by omega) (by have := B2.out.HB.size; simp; omega)), (B2.out.alloc _).q.1.fed hF3, trivial⟩)
            | (refine wpList_insert_lit rfl (.tmp 7) _ _ _ _ _ rfl Tryz.underlying109 Tryz.underlying9 hF3 ⟨#[103, 114, 101, 97, 116, 101, 115, 116]⟩ (.agg #[.slice none 0 0, .bool false, .func (.func 104) #[] #[.pointer (some ⟨w3.heap.size, 0, none⟩)]]) rfl rfl rfl rfl ?_; clear hF3; intro w4 (hF4 : Fed _ w4 _ [(⟨#[110, 118, 108]⟩, .agg #[.slice none 0 0, .bool true, fnP 100]), (⟨#[110, 117, 108, 108, 105, 102]⟩, .agg #[.slice none 0 0, .bool true, fnP 101]), (⟨#[108, 101, 97, 115, 116]⟩, .agg #[.slice none 0 0, .bool false, .func (.func 104) #[] #[.pointer (some ⟨w2.heap.size, 0, none⟩)]]), (⟨#[103, 114, 101, 97, 116, 101, 115, 116]⟩, .agg #[.slice none 0 0, .bool false, .func (.func 104) #[] #[.pointer (some ⟨w3.heap.size, 0, none⟩)]])]); have B4 : Hid (KL w w4 [(w.heap.size, .slice none 0 0, .bool false, .nilFunc)]) := Lib.hid ⟨(B3_.out.alloc _).HB.trans (hF4.below (by omega) (by have := B3_.out.HB.size; simp; omega)), (B3_.out.alloc _).q.1.fed hF4, trivial⟩; have hlk := run_lookup_lit hF4.here Tryz.underlying109 Tryz.underlying9 (zero84 _) op; rw [show findE [(⟨#[110, 118, 108]⟩, .agg #[.slice none 0 0, .bool true, fnP 100]), (⟨#[110, 117, 108, 108, 105, 102]⟩, .agg #[.slice none 0 0, .bool true, fnP 101]), (⟨#[108, 101, 97, 115, 116]⟩, .agg #[.slice none 0 0, .bool false, .func (.func 104) #[] #[.pointer (some ⟨w2.heap.size, 0, none⟩)]]), (⟨#[103, 114, 101, 97, 116, 101, 115, 116]⟩, .agg #[.slice none 0 0, .bool false, .func (.func 104) #[] #[.pointer (some ⟨w3.heap.size, 0, none⟩)]])] op = some (.agg #[.slice none 0 0, .bool true, fnP 100]) from by rw [HO.out]; rfl] at hlk; simp only [Option.getD_some, Option.isSome_some] at hlk; have K : Hid (KL w ((w4.alloc (.cells #[.slice (some ⟨w4.heap.size + 1, 0, none⟩) 2 2, .bool true, fnP 100] 61)).alloc (.cells #[.int .i64 0, .int .i64 0] 25)) [(w.heap.size, .slice none 0 0, .bool false, .nilFunc)]) := Lib.hid ((B4.out.alloc _).alloc _); obtain ⟨HB, ⟨r0, r1, r2, g0, g1, g2, rl⟩, _⟩ := K.out; clear hF4)
            | (go_at_call 75; refine (outermost_ _ _).mono ?_; rintro e y ⟨rfl, rfl⟩; first | (have hG := Fed.begin (hF3.here.of_block (Below.heap_alloc _ (.cells #[.int .i64 1] 3) _ hF3.here.lt)); clear hF3; have hF3 := hG; clear hG) | (have hG := Fed.begin (hF2.here.of_block (Below.heap_alloc _ (.cells #[.int .i64 (-1)] 3) _ hF2.here.lt)); clear hF2; have hF2 := hG; clear hG)))
  (try simp only [Exit.inBlock, Exit.then])
  exact ret_fn rfl rfl K.out.q.1 rfl ⟨⟨_, rfl⟩, _root_.Go.Proofs.YthomeplakcbfoaaGreatDoor.set3 HB _ (Nat.le_refl _) _ _ _⟩

end Go.Proofs.YthomeplakcbfoaaGreatDoor
