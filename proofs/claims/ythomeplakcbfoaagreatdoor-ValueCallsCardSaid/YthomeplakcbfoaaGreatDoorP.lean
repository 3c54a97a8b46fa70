/-
  Contracts: the table of all operations; Binary.
-/
import Derived.Test.YthomeplakcbfoaaGreatDoorO
namespace Go.Proofs.YthomeplakcbfoaaGreatDoor
open Go.RowKit

/-- The kind of an operation between two: a comparison, and or or, arithmetic, of strings; 4: none. -/
def opK (op : ByteArray) : Nat :=
  if (findT cmpTab op).isSome = true then 0 else if (findT junTab op).isSome = true then 1 else if (findT arTab op).isSome = true then 2 else if (findT txTab op).isSome = true then 3 else 4
def opT : Nat → Int | 0 => 0 | 1 => 3 | 2 => 1 | 3 => 2 | _ => 0
def opN : Nat → Bool | 1 => true | _ => false
def opD : Nat → Va → Va → Prop
  | 2 => fun a b => Small a.n ∧ Small b.n
  | 3 => fun a b => okText a.s = true ∧ okText b.s = true
  | _ => fun _ _ => True
def opSp (op : ByteArray) : Nat → Va → Va → Va × Int
  | 0 => cmpSp op
  | 1 => junSp op
  | 2 => arSp op
  | _ => txSp op
def RetOp (op : ByteArray) (w : World) (e : Ending) (w' : World) : Prop :=
  (opK op = 4 → e = .returned (.tuple #[.agg #[.int .i64 0, .bool false, .nilFunc], .bool false])) ∧
  (opK op ≠ 4 → ∃ f caps, e = .returned (.tuple #[.agg #[.int .i64 (opT (opK op)), .bool (opN (opK op)), .func (.func f) #[] caps], .bool true]) ∧ FnV (w.heap.size + 1) w' (.func (.func f) #[] caps) (opD (opK op)) (opSp op (opK op))) ∧ Below w.heap.size w w'

theorem results_op {fn : Func} {p q : Tmp} (h : fn.results = #[.cell p 80, .tmp q]) (tmps : Array Value) {b : Nat} (hp : tmps.getD p undef = .pointer (some ⟨b, 0, none⟩)) {z : World} {u0 u1 u2 : Value}
    (z0 : z.cell? ⟨b, 0, none⟩ = some u0) (z1 : z.cell? ⟨b, 1, none⟩ = some u1) (z2 : z.cell? ⟨b, 2, none⟩ = some u2) :
    (results fn tmps).run Tryz.prog z = .ok (.tuple #[.agg #[u0, u1, u2], tmps.getD q undef]) z := by
  simp only [Array.getD_eq_getD_getElem?] at hp
  simp [results, h, hp, go_sem, z0, z1, z2]
theorem ret_op {fn : Func} {p q : Tmp} (h : fn.results = #[.cell p 80, .tmp q]) {R : Ending → World → Prop} {a : Act} (hd : a.defers = []) {x : World} {b : Nat} {c0 c1 c2 : Value} (K : B3 x b c0 c1 c2) {u0 u1 u2 : Value}
    (hp : a.tmps.getD p undef = .pointer (some ⟨b, 0, none⟩))
    (hR : R (.returned (.tuple #[.agg #[u0, u1, u2], a.tmps.getD q undef])) (((x.setCell ⟨b, 0, none⟩ u0).setCell ⟨b, 1, none⟩ u1).setCell ⟨b, 2, none⟩ u2)) :
    bodyPost Tryz.prog fn R .ret a (((x.setCell ⟨b, 0, none⟩ u0).setCell ⟨b, 1, none⟩ u1).setCell ⟨b, 2, none⟩ u2) :=
  let z := read3 K u0 u1 u2
  bodyPost_ret (results_op h a.tmps hp z.1 z.2.1 z.2.2) hd hR

theorem Up.mono {L L' : Nat} {x y : World} (h : Up L x y) (hL : L ≤ L') : Up L' x y := ⟨h.1, fun i hi hlt => h.2 i (Nat.le_trans hL hi) hlt⟩
theorem Up.unset {L : Nat} {x z : World} {b : Nat} (hb : b < L) {u0 u1 u2 : Value} (h : Up L (((x.setCell ⟨b, 0, none⟩ u0).setCell ⟨b, 1, none⟩ u1).setCell ⟨b, 2, none⟩ u2) z) : Up L x z := by
  refine ⟨by simpa using h.1, fun i hi hlt => (h.2 i hi (by simpa using hlt)).trans ?_⟩
  rw [Below.heap_setCell _ _ _ _ (by show i ≠ b; omega), Below.heap_setCell _ _ _ _ (by show i ≠ b; omega), Below.heap_setCell _ _ _ _ (by show i ≠ b; omega)]
set_option maxRecDepth 100000 in
set_option maxHeartbeats 4000000 in
theorem operationOf_ (op : ByteArray) (w : World) : Calls Tryz.prog 57 #[.string op] w (RetOp op w) := by
  cases h0 : (findT cmpTab op).isSome
  · cases h1 : (findT junTab op).isSome
    · cases h2 : (findT arTab op).isSome
      · cases h3 : (findT txTab op).isSome
        · have HK : Hid (opK op = 4) := Lib.hid (by unfold opK; rw [h0, h1, h2, h3]; simp)
          go_enter Tryz.func57, Tryz.ntmps57
          go_wp2_with (first
                      | (go_at_call 83; refine (comparisonOf_ _ _).mono ?_; rintro e y ⟨fv, rfl, hf, hb⟩; (first | (have K : Hid (K1 w y w.heap.size (.int .i64 0) (.bool false) .nilFunc) := Lib.hid (K1.below (Hid.out (by assumption)) hb)) | (have K : Hid (K1 w y w.heap.size (.int .i64 0) (.bool false) .nilFunc) := Lib.hid (K1.below ⟨new1 w _, B3.new w _ _ _ 80⟩ hb))); clear hb; obtain ⟨HB, ⟨r0, r1, r2, g0, g1, g2, rl⟩⟩ := K.out; clear hf)
                      | (go_at_call 84; refine (junctionOf_ _ _).mono ?_; rintro e y ⟨fv, rfl, hf, hb⟩; (first | (have K : Hid (K1 w y w.heap.size (.int .i64 0) (.bool false) .nilFunc) := Lib.hid (K1.below (Hid.out (by assumption)) hb)) | (have K : Hid (K1 w y w.heap.size (.int .i64 0) (.bool false) .nilFunc) := Lib.hid (K1.below ⟨new1 w _, B3.new w _ _ _ 80⟩ hb))); clear hb; obtain ⟨HB, ⟨r0, r1, r2, g0, g1, g2, rl⟩⟩ := K.out; clear hf)
                      | (go_at_call 85; refine (arithmeticOf_ _ _).mono ?_; rintro e y ⟨fv, rfl, hf, hb⟩; (first | (have K : Hid (K1 w y w.heap.size (.int .i64 0) (.bool false) .nilFunc) := Lib.hid (K1.below (Hid.out (by assumption)) hb)) | (have K : Hid (K1 w y w.heap.size (.int .i64 0) (.bool false) .nilFunc) := Lib.hid (K1.below ⟨new1 w _, B3.new w _ _ _ 80⟩ hb))); clear hb; obtain ⟨HB, ⟨r0, r1, r2, g0, g1, g2, rl⟩⟩ := K.out; clear hf)
                      | (go_at_call 86; refine (ofTextsOf_ _ _).mono ?_; rintro e y ⟨fv, rfl, hf, hb⟩; (first | (have K : Hid (K1 w y w.heap.size (.int .i64 0) (.bool false) .nilFunc) := Lib.hid (K1.below (Hid.out (by assumption)) hb)) | (have K : Hid (K1 w y w.heap.size (.int .i64 0) (.bool false) .nilFunc) := Lib.hid (K1.below ⟨new1 w _, B3.new w _ _ _ 80⟩ hb))); clear hb; obtain ⟨HB, ⟨r0, r1, r2, g0, g1, g2, rl⟩⟩ := K.out; clear hf))
          (try simp only [Exit.inBlock, Exit.then])
          exact ret_op rfl rfl K.out.q rfl ⟨fun _ => rfl, fun h => absurd HK.out h, set3 HB _ (Nat.le_refl _) _ _ _⟩
        · have HK : Hid (opK op = 3) := Lib.hid (by unfold opK; rw [h0, h1, h2, h3]; simp)
          go_enter Tryz.func57, Tryz.ntmps57
          go_wp2_with (first
                      | (go_at_call 83; refine (comparisonOf_ _ _).mono ?_; rintro e y ⟨fv, rfl, hf, hb⟩; (first | (have K : Hid (K1 w y w.heap.size (.int .i64 0) (.bool false) .nilFunc) := Lib.hid (K1.below (Hid.out (by assumption)) hb)) | (have K : Hid (K1 w y w.heap.size (.int .i64 0) (.bool false) .nilFunc) := Lib.hid (K1.below ⟨new1 w _, B3.new w _ _ _ 80⟩ hb))); clear hb; obtain ⟨HB, ⟨r0, r1, r2, g0, g1, g2, rl⟩⟩ := K.out; clear hf)
                      | (go_at_call 84; refine (junctionOf_ _ _).mono ?_; rintro e y ⟨fv, rfl, hf, hb⟩; (first | (have K : Hid (K1 w y w.heap.size (.int .i64 0) (.bool false) .nilFunc) := Lib.hid (K1.below (Hid.out (by assumption)) hb)) | (have K : Hid (K1 w y w.heap.size (.int .i64 0) (.bool false) .nilFunc) := Lib.hid (K1.below ⟨new1 w _, B3.new w _ _ _ 80⟩ hb))); clear hb; obtain ⟨HB, ⟨r0, r1, r2, g0, g1, g2, rl⟩⟩ := K.out; clear hf)
                      | (go_at_call 85; refine (arithmeticOf_ _ _).mono ?_; rintro e y ⟨fv, rfl, hf, hb⟩; (first | (have K : Hid (K1 w y w.heap.size (.int .i64 0) (.bool false) .nilFunc) := Lib.hid (K1.below (Hid.out (by assumption)) hb)) | (have K : Hid (K1 w y w.heap.size (.int .i64 0) (.bool false) .nilFunc) := Lib.hid (K1.below ⟨new1 w _, B3.new w _ _ _ 80⟩ hb))); clear hb; obtain ⟨HB, ⟨r0, r1, r2, g0, g1, g2, rl⟩⟩ := K.out; clear hf)
                      | (go_at_call 86; refine (ofTextsOf_ _ _).mono ?_; rintro e y ⟨fv, rfl, hf, hb⟩; (first | (have K : Hid (K1 w y w.heap.size (.int .i64 0) (.bool false) .nilFunc) := Lib.hid (K1.below (Hid.out (by assumption)) hb)) | (have K : Hid (K1 w y w.heap.size (.int .i64 0) (.bool false) .nilFunc) := Lib.hid (K1.below ⟨new1 w _, B3.new w _ _ _ 80⟩ hb))); clear hb; obtain ⟨HB, ⟨r0, r1, r2, g0, g1, g2, rl⟩⟩ := K.out; obtain ⟨f, caps, rfl, hcall, hF⟩ := hf (by assumption); have HF : Hid (∀ z, Up (w.heap.size + 1) y z → _) := Lib.hid (fun z hz => hF z (hz.mono (by first | (simp; done) | omega))); clear hF))
          (try simp only [Exit.inBlock, Exit.then])
          exact ret_op rfl rfl K.out.q rfl ⟨fun h => absurd (h.symm.trans HK.out) (by decide), fun _ => by rw [HK.out]; exact ⟨f, caps, rfl, f, caps, rfl, hcall, fun z hz a b hab => HF.out z (hz.unset (Nat.lt_succ_self _)) a b hab⟩, set3 HB _ (Nat.le_refl _) _ _ _⟩
      · have HK : Hid (opK op = 2) := Lib.hid (by unfold opK; rw [h0, h1, h2]; simp)
        go_enter Tryz.func57, Tryz.ntmps57
        go_wp2_with (first
                    | (go_at_call 83; refine (comparisonOf_ _ _).mono ?_; rintro e y ⟨fv, rfl, hf, hb⟩; (first | (have K : Hid (K1 w y w.heap.size (.int .i64 0) (.bool false) .nilFunc) := Lib.hid (K1.below (Hid.out (by assumption)) hb)) | (have K : Hid (K1 w y w.heap.size (.int .i64 0) (.bool false) .nilFunc) := Lib.hid (K1.below ⟨new1 w _, B3.new w _ _ _ 80⟩ hb))); clear hb; obtain ⟨HB, ⟨r0, r1, r2, g0, g1, g2, rl⟩⟩ := K.out; clear hf)
                    | (go_at_call 84; refine (junctionOf_ _ _).mono ?_; rintro e y ⟨fv, rfl, hf, hb⟩; (first | (have K : Hid (K1 w y w.heap.size (.int .i64 0) (.bool false) .nilFunc) := Lib.hid (K1.below (Hid.out (by assumption)) hb)) | (have K : Hid (K1 w y w.heap.size (.int .i64 0) (.bool false) .nilFunc) := Lib.hid (K1.below ⟨new1 w _, B3.new w _ _ _ 80⟩ hb))); clear hb; obtain ⟨HB, ⟨r0, r1, r2, g0, g1, g2, rl⟩⟩ := K.out; clear hf)
                    | (go_at_call 85; refine (arithmeticOf_ _ _).mono ?_; rintro e y ⟨fv, rfl, hf, hb⟩; (first | (have K : Hid (K1 w y w.heap.size (.int .i64 0) (.bool false) .nilFunc) := Lib.hid (K1.below (Hid.out (by assumption)) hb)) | (have K : Hid (K1 w y w.heap.size (.int .i64 0) (.bool false) .nilFunc) := Lib.hid (K1.below ⟨new1 w _, B3.new w _ _ _ 80⟩ hb))); clear hb; obtain ⟨HB, ⟨r0, r1, r2, g0, g1, g2, rl⟩⟩ := K.out; obtain ⟨f, caps, rfl, hcall, hF⟩ := hf (by assumption); have HF : Hid (∀ z, Up (w.heap.size + 1) y z → _) := Lib.hid (fun z hz => hF z (hz.mono (by first | (simp; done) | omega))); clear hF))
        (try simp only [Exit.inBlock, Exit.then])
        exact ret_op rfl rfl K.out.q rfl ⟨fun h => absurd (h.symm.trans HK.out) (by decide), fun _ => by rw [HK.out]; exact ⟨f, caps, rfl, f, caps, rfl, hcall, fun z hz a b hab => HF.out z (hz.unset (Nat.lt_succ_self _)) a b hab⟩, set3 HB _ (Nat.le_refl _) _ _ _⟩
    · have HK : Hid (opK op = 1) := Lib.hid (by unfold opK; rw [h0, h1]; simp)
      go_enter Tryz.func57, Tryz.ntmps57
      go_wp2_with (first
                  | (go_at_call 83; refine (comparisonOf_ _ _).mono ?_; rintro e y ⟨fv, rfl, hf, hb⟩; (first | (have K : Hid (K1 w y w.heap.size (.int .i64 0) (.bool false) .nilFunc) := Lib.hid (K1.below (Hid.out (by assumption)) hb)) | (have K : Hid (K1 w y w.heap.size (.int .i64 0) (.bool false) .nilFunc) := Lib.hid (K1.below ⟨new1 w _, B3.new w _ _ _ 80⟩ hb))); clear hb; obtain ⟨HB, ⟨r0, r1, r2, g0, g1, g2, rl⟩⟩ := K.out; clear hf)
                  | (go_at_call 84; refine (junctionOf_ _ _).mono ?_; rintro e y ⟨fv, rfl, hf, hb⟩; (first | (have K : Hid (K1 w y w.heap.size (.int .i64 0) (.bool false) .nilFunc) := Lib.hid (K1.below (Hid.out (by assumption)) hb)) | (have K : Hid (K1 w y w.heap.size (.int .i64 0) (.bool false) .nilFunc) := Lib.hid (K1.below ⟨new1 w _, B3.new w _ _ _ 80⟩ hb))); clear hb; obtain ⟨HB, ⟨r0, r1, r2, g0, g1, g2, rl⟩⟩ := K.out; obtain ⟨f, caps, rfl, hcall, hF⟩ := hf (by assumption); have HF : Hid (∀ z, Up (w.heap.size + 1) y z → _) := Lib.hid (fun z hz => hF z (hz.mono (by first | (simp; done) | omega))); clear hF))
      (try simp only [Exit.inBlock, Exit.then])
      exact ret_op rfl rfl K.out.q rfl ⟨fun h => absurd (h.symm.trans HK.out) (by decide), fun _ => by rw [HK.out]; exact ⟨f, caps, rfl, f, caps, rfl, hcall, fun z hz a b hab => HF.out z (hz.unset (Nat.lt_succ_self _)) a b hab⟩, set3 HB _ (Nat.le_refl _) _ _ _⟩
  · have HK : Hid (opK op = 0) := Lib.hid (by unfold opK; rw [h0]; simp)
    go_enter Tryz.func57, Tryz.ntmps57
    go_wp2_with (first
                | (go_at_call 83; refine (comparisonOf_ _ _).mono ?_; rintro e y ⟨fv, rfl, hf, hb⟩; (first | (have K : Hid (K1 w y w.heap.size (.int .i64 0) (.bool false) .nilFunc) := Lib.hid (K1.below (Hid.out (by assumption)) hb)) | (have K : Hid (K1 w y w.heap.size (.int .i64 0) (.bool false) .nilFunc) := Lib.hid (K1.below ⟨new1 w _, B3.new w _ _ _ 80⟩ hb))); clear hb; obtain ⟨HB, ⟨r0, r1, r2, g0, g1, g2, rl⟩⟩ := K.out; obtain ⟨f, caps, rfl, hcall, hF⟩ := hf (by assumption); have HF : Hid (∀ z, Up (w.heap.size + 1) y z → _) := Lib.hid (fun z hz => hF z (hz.mono (by first | (simp; done) | omega))); clear hF))
    (try simp only [Exit.inBlock, Exit.then])
    exact ret_op rfl rfl K.out.q rfl ⟨fun h => absurd (h.symm.trans HK.out) (by decide), fun _ => by rw [HK.out]; exact ⟨f, caps, rfl, f, caps, rfl, hcall, fun z hz a b hab => HF.out z (hz.unset (Nat.lt_succ_self _)) a b hab⟩, set3 HB _ (Nat.le_refl _) _ _ _⟩

end Go.Proofs.YthomeplakcbfoaaGreatDoor
