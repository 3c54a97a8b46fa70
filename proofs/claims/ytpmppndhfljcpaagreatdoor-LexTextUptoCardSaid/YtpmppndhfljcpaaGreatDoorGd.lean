/-
  Contracts of package lex: words, names, integers, signs.
-/
import Derived.Test.YtpmppndhfljcpaaGreatDoorGc
import Derived.Maps.Own
import Derived.Maps.OwnOps
import Derived.StillTailTactics
namespace Go.Proofs.YtpmppndhfljcpaaGreatDoor
section
open Go.RowKit

section
variable {P : Program}
/-- A store into a map, for the walk. -/
theorem wpList_mapUpdate_lit {w0 w : World} {ops : Array Oper} {rest : List Oper} {o : Oper} {a : Act} {Q : Exit → Act → World → Prop}
    (hg : o.guard = none) (m x v : Operand) (t kt e : TypeId) (hop : o.op = Op.mapUpdate t m x v) (ht : P.underlying t = some (.map kt e)) (hk : P.underlying kt = some .string)
    {b : Nat} {es : List (ByteArray × Value)} (h : Fed w0 w b es) (key : ByteArray) (val : Value) (hm : a.eval m = .map (some b)) (hx : a.eval x = .string key) (hv : a.eval v = val) (hnew : findE es key = none)
    (hK : ∀ w', Fed w0 w' b (es ++ [(key, val)]) → wpList P ops Q rest (a.put o.dst undef) w') : wpList P ops Q (o :: rest) a w := by
  refine wpList_plain hg fun K' hK' => ?_
  obtain ⟨w', hrun, hF⟩ := h.insert ht hk key val hnew
  unfold Oper.wp
  simp [execOp, hop, hm, hx, hv, hrun, Result.andThen]
  exact hK' _ _ (hK w' hF)
theorem run_lookup_one {w : World} {b : Nat} {es : List (ByteArray × Value)} (h : MapIs w b es) {t kt e : TypeId} (ht : P.underlying t = some (.map kt e)) (hk : P.underlying kt = some .string) {z : Value} (hz : (zeroValue e).run P w = .ok z w) (key : ByteArray) :
    (Instr.lookup t (.map (some b)) (.string key) false).run P w = .ok ((findE es key).getD z) w := by
  obtain ⟨a, c, hb, hl⟩ := h
  obtain ⟨r, h1, h2⟩ := findNow_lit key a.toList es 0 hl
  have hc : (Instr.checkKey a.isEmpty 10000 kt (.string key)).run P w = .ok () w := MapKept.run_checkKey (k := .string key) hk (by simp [MapKept.IsKey]) _ 9999
  have hf := MapKept.run_findKey (w := w) hk h1
  rw [← h2]
  cases r with
  | none => simp [Instr.lookup, run_underlying ht, MapKept.run_getObj_map hb, hc, hf, hz, Result.andThen]
  | some p => simp [Instr.lookup, run_underlying ht, MapKept.run_getObj_map hb, hc, hf, Result.andThen]
end
def setE (L : List ByteArray) : List (ByteArray × Value) := L.map fun x => (x, .bool true)
theorem setE_take (L : List ByteArray) (k : Nat) (h : k < L.length) : setE (L.take (k + 1)) = setE (L.take k) ++ [(L[k], .bool true)] := by
  unfold setE; rw [List.take_succ_eq_append_getElem h, List.map_append]; rfl
theorem find_setE (L : List ByteArray) (x : ByteArray) : findE (setE L) x = if L.contains x = true then some (.bool true) else none := by
  unfold findE setE
  induction L with
  | nil => rfl
  | cons y r ih =>
    rw [List.map_cons, List.find?_cons, List.contains_cons]
    cases h : x == y
    · simp only [Bool.false_or]; exact ih
    · simp
theorem ba_beq (x y : ByteArray) : (x == y) = (x.data.toList == y.data.toList) := by
  show (x.data == y.data) = _
  exact Eq.symm (Array.beq_toList x.data y.data)
theorem ba_eq {x y : ByteArray} (h : (x == y) = true) : x = y := by
  rw [ba_beq] at h
  obtain ⟨⟨a⟩⟩ := x
  obtain ⟨⟨b⟩⟩ := y
  simp at h
  rw [h]
theorem find_new (L : List ByteArray) (hn : L.Nodup) (k : Nat) (h : k < L.length) : findE (setE (L.take k)) L[k] = none := by
  rw [find_setE, if_neg]
  intro hc
  rw [List.contains_eq_any_beq, List.any_eq_true] at hc
  obtain ⟨x, hx, hq⟩ := hc
  obtain ⟨i, hi, e⟩ := List.getElem_of_mem hx
  rw [List.getElem_take, ← ba_eq hq] at e
  have hi2 : i < k := by rw [List.length_take] at hi; omega
  exact absurd (List.getElem_inj hn |>.1 e) (by omega)
/-- A row of strings in memory. -/
def StrRow (w : World) (b : Nat) (L : List ByteArray) : Prop := ∀ i x, L[i]? = some x → w.cell? ⟨b, i, none⟩ = some (.string x)
set_option maxRecDepth 100000 in
set_option maxHeartbeats 1000000 in
theorem setOf_ (b : Nat) (L : List ByteArray) (hL : L.length ≤ 1000) (hn : L.Nodup) (w : World) (h : StrRow w b L) (hb : b < w.heap.size) :
    Calls Tryz.prog 137 #[.slice (some ⟨b, 0, none⟩) L.length L.length] w fun e w' => e = .returned (.map (some w.heap.size)) ∧ MapIs w' w.heap.size (setE L) ∧ Below w.heap.size w w' := by
  have hmm : ∀ x : World, (Instr.makeMap 123 (some (.int .i64 L.length))).run Tryz.prog x = .ok (.map (some x.heap.size)) (x.alloc (.map #[] 0)) := fun x => by
    simp [Instr.makeMap, run_underlying Tryz.underlying123, Result.andThen, asInt, asIntOf]
  have hL' : L.length ≤ 9223372036854775807 := by omega
  have HH := Lib.hid h
  have HN := Lib.hid hn
  clear h hn
  go_enter Tryz.func137, Tryz.ntmps137
  go_wp2
  go_loopw [11] (fun i x => ∃ (k : Nat), k ≤ L.length ∧ i = .int .i64 k ∧ Fed (w.alloc (.map #[] 0)) x w.heap.size (setE (L.take k))) (fun i x => L.length - (intOf i).toNat)
  case atStart => exact ⟨0, Nat.zero_le _, rfl, Fed.made w⟩
  case round =>
    clear hmm
    obtain ⟨k, hk, rfl, hF⟩ := hrel
    have F := Lib.hid hF
    clear hF
    by_cases hlt : k < L.length
    · have hc : wr.cell? ⟨b, k, none⟩ = some (.string L[k]) := by
        rw [F.out.cell, World.cell?_alloc_lt w _ _ hb]
        exact HH.out k _ (List.getElem?_eq_getElem hlt)
      have HW := Lib.hid (find_new L HN.out k hlt)
      have HT := Lib.hid (setE_take L k hlt)
      generalize L[k] = key at *
      go_wp2_with (first
        | ((with_reducible refine wpList_mapUpdate_lit rfl _ _ _ 123 9 4 rfl Tryz.underlying123 Tryz.underlying9 F.out key (.bool true) rfl rfl rfl HW.out ?_); intro w2 hF2; have F2 := Lib.hid hF2; clear hF2))
      go_roundw
      case rel => exact ⟨k + 1, by omega, by go_num, by rw [HT.out]; exact F2.out⟩
      case measure => simp [intOf]; omega
    · have e : L.take k = L := List.take_of_length_le (by omega)
      have HE := Lib.hid e
      clear e
      go_wp2_with fail
      go_ret
      refine ⟨rfl, ?_, ?_⟩
      · have := F.out.here; rw [HE.out] at this; exact this
      · exact (new1 w _).trans (F.out.below (Nat.le_refl _) (by simp))
end
end Go.Proofs.YtpmppndhfljcpaaGreatDoor
namespace Go.Proofs.YtpmppndhfljcpaaGreatDoor
section
open Go.RowKit

theorem strRow_new (w : World) (L : List ByteArray) (t : TypeId) : StrRow (w.alloc (.cells (L.map Value.string).toArray t)) w.heap.size L := by
  intro i x hx
  rw [World.cell?_alloc_new]
  simp [hx]
def baL (l : List Bs) : List ByteArray := l.map fun t => ⟨t.toArray⟩
/-- What a table of words is. -/
def WordsAt (c : UInt8) (w : World) (e : Ending) (w' : World) : Prop := Below w.heap.size w w' ∧ ((wordsAt c = [] ∧ e = .returned (.map none)) ∨ ∃ b, e = .returned (.map (some b)) ∧ MapIs w' b (setE (baL (wordsAt c))))
theorem words_here {c : UInt8} {L : List ByteArray} (hL : baL (wordsAt c) = L) {w w' : World} {o : Obj} {b : Nat} (hb : Below (w.alloc o).heap.size (w.alloc o) w') (h : MapIs w' b (setE L)) : WordsAt c w (.returned (.map (some b))) w' :=
  ⟨(new1 w o).trans (hb.mono (by simp)), .inr ⟨b, rfl, by rw [hL]; exact h⟩⟩
set_option maxRecDepth 100000 in
set_option maxHeartbeats 1000000 in
theorem wordsWith_97 (w : World) : Calls Tryz.prog 92 #[.int .u8 97] w (WordsAt 97 w) := by
  have hL : baL (wordsAt 97) = [⟨#[97, 100, 100]⟩, ⟨#[97, 102, 116, 101, 114]⟩, ⟨#[97, 108, 108]⟩, ⟨#[97, 108, 116, 101, 114]⟩, ⟨#[97, 110, 100]⟩, ⟨#[97, 114, 114, 97, 121]⟩, ⟨#[97, 115]⟩, ⟨#[97, 117, 116, 111, 110, 111, 109, 111, 117, 115]⟩] := by kernel_rfl
  have HL := Lib.hid hL
  clear hL
  go_enter Tryz.func92, Tryz.ntmps92
  go_wp2_with (first
    | (go_at_call 137; (refine (setOf_ w.heap.size [⟨#[97, 100, 100]⟩, ⟨#[97, 102, 116, 101, 114]⟩, ⟨#[97, 108, 108]⟩, ⟨#[97, 108, 116, 101, 114]⟩, ⟨#[97, 110, 100]⟩, ⟨#[97, 114, 114, 97, 121]⟩, ⟨#[97, 115]⟩, ⟨#[97, 117, 116, 111, 110, 111, 109, 111, 117, 115]⟩] (by decide) (by decide) _ (strRow_new w [⟨#[97, 100, 100]⟩, ⟨#[97, 102, 116, 101, 114]⟩, ⟨#[97, 108, 108]⟩, ⟨#[97, 108, 116, 101, 114]⟩, ⟨#[97, 110, 100]⟩, ⟨#[97, 114, 114, 97, 121]⟩, ⟨#[97, 115]⟩, ⟨#[97, 117, 116, 111, 110, 111, 109, 111, 117, 115]⟩] _) (by simp)).mono ?_); rintro e y ⟨rfl, hM, hb⟩; rw [sz1] at hM; have HM := Lib.hid hM; have HB := Lib.hid hb; clear hM hb))
  go_ret
  exact words_here HL.out HB.out HM.out
set_option maxRecDepth 100000 in
set_option maxHeartbeats 1000000 in
theorem wordsWith_98 (w : World) : Calls Tryz.prog 92 #[.int .u8 98] w (WordsAt 98 w) := by
  have hL : baL (wordsAt 98) = [⟨#[98, 101, 102, 111, 114, 101]⟩, ⟨#[98, 101, 103, 105, 110]⟩, ⟨#[98, 101, 116, 119, 101, 101, 110]⟩, ⟨#[98, 111, 111, 108]⟩, ⟨#[98, 117, 108, 107]⟩, ⟨#[98, 121]⟩] := by kernel_rfl
  have HL := Lib.hid hL
  clear hL
  go_enter Tryz.func92, Tryz.ntmps92
  go_wp2_with (first
    | (go_at_call 137; (refine (setOf_ w.heap.size [⟨#[98, 101, 102, 111, 114, 101]⟩, ⟨#[98, 101, 103, 105, 110]⟩, ⟨#[98, 101, 116, 119, 101, 101, 110]⟩, ⟨#[98, 111, 111, 108]⟩, ⟨#[98, 117, 108, 107]⟩, ⟨#[98, 121]⟩] (by decide) (by decide) _ (strRow_new w [⟨#[98, 101, 102, 111, 114, 101]⟩, ⟨#[98, 101, 103, 105, 110]⟩, ⟨#[98, 101, 116, 119, 101, 101, 110]⟩, ⟨#[98, 111, 111, 108]⟩, ⟨#[98, 117, 108, 107]⟩, ⟨#[98, 121]⟩] _) (by simp)).mono ?_); rintro e y ⟨rfl, hM, hb⟩; rw [sz1] at hM; have HM := Lib.hid hM; have HB := Lib.hid hb; clear hM hb))
  go_ret
  exact words_here HL.out HB.out HM.out
set_option maxRecDepth 100000 in
set_option maxHeartbeats 1000000 in
theorem wordsWith_99 (w : World) : Calls Tryz.prog 92 #[.int .u8 99] w (WordsAt 99 w) := by
  have hL : baL (wordsAt 99) = [⟨#[99, 97, 99, 104, 101]⟩, ⟨#[99, 97, 115, 101]⟩, ⟨#[99, 104, 101, 99, 107]⟩, ⟨#[99, 108, 111, 115, 101]⟩, ⟨#[99, 111, 108, 108, 101, 99, 116]⟩, ⟨#[99, 111, 109, 109, 105, 116]⟩, ⟨#[99, 111, 110, 115, 116, 114, 97, 105, 110, 116]⟩, ⟨#[99, 111, 117, 110, 116]⟩, ⟨#[99, 114, 101, 97, 116, 101]⟩, ⟨#[99, 117, 114, 115, 111, 114]⟩] := by kernel_rfl
  have HL := Lib.hid hL
  clear hL
  go_enter Tryz.func92, Tryz.ntmps92
  go_wp2_with (first
    | (go_at_call 137; (refine (setOf_ w.heap.size [⟨#[99, 97, 99, 104, 101]⟩, ⟨#[99, 97, 115, 101]⟩, ⟨#[99, 104, 101, 99, 107]⟩, ⟨#[99, 108, 111, 115, 101]⟩, ⟨#[99, 111, 108, 108, 101, 99, 116]⟩, ⟨#[99, 111, 109, 109, 105, 116]⟩, ⟨#[99, 111, 110, 115, 116, 114, 97, 105, 110, 116]⟩, ⟨#[99, 111, 117, 110, 116]⟩, ⟨#[99, 114, 101, 97, 116, 101]⟩, ⟨#[99, 117, 114, 115, 111, 114]⟩] (by decide) (by decide) _ (strRow_new w [⟨#[99, 97, 99, 104, 101]⟩, ⟨#[99, 97, 115, 101]⟩, ⟨#[99, 104, 101, 99, 107]⟩, ⟨#[99, 108, 111, 115, 101]⟩, ⟨#[99, 111, 108, 108, 101, 99, 116]⟩, ⟨#[99, 111, 109, 109, 105, 116]⟩, ⟨#[99, 111, 110, 115, 116, 114, 97, 105, 110, 116]⟩, ⟨#[99, 111, 117, 110, 116]⟩, ⟨#[99, 114, 101, 97, 116, 101]⟩, ⟨#[99, 117, 114, 115, 111, 114]⟩] _) (by simp)).mono ?_); rintro e y ⟨rfl, hM, hb⟩; rw [sz1] at hM; have HM := Lib.hid hM; have HB := Lib.hid hb; clear hM hb))
  go_ret
  exact words_here HL.out HB.out HM.out
set_option maxRecDepth 100000 in
set_option maxHeartbeats 1000000 in
theorem wordsWith_100 (w : World) : Calls Tryz.prog 92 #[.int .u8 100] w (WordsAt 100 w) := by
  have hL : baL (wordsAt 100) = [⟨#[100, 101, 99, 108, 97, 114, 101]⟩, ⟨#[100, 101, 102, 97, 117, 108, 116]⟩, ⟨#[100, 101, 102, 101, 114, 114, 101, 100]⟩, ⟨#[100, 101, 108, 101, 116, 101]⟩, ⟨#[100, 101, 115, 99]⟩, ⟨#[100, 105, 115, 116, 105, 110, 99, 116]⟩, ⟨#[100, 114, 111, 112]⟩] := by kernel_rfl
  have HL := Lib.hid hL
  clear hL
  go_enter Tryz.func92, Tryz.ntmps92
  go_wp2_with (first
    | (go_at_call 137; (refine (setOf_ w.heap.size [⟨#[100, 101, 99, 108, 97, 114, 101]⟩, ⟨#[100, 101, 102, 97, 117, 108, 116]⟩, ⟨#[100, 101, 102, 101, 114, 114, 101, 100]⟩, ⟨#[100, 101, 108, 101, 116, 101]⟩, ⟨#[100, 101, 115, 99]⟩, ⟨#[100, 105, 115, 116, 105, 110, 99, 116]⟩, ⟨#[100, 114, 111, 112]⟩] (by decide) (by decide) _ (strRow_new w [⟨#[100, 101, 99, 108, 97, 114, 101]⟩, ⟨#[100, 101, 102, 97, 117, 108, 116]⟩, ⟨#[100, 101, 102, 101, 114, 114, 101, 100]⟩, ⟨#[100, 101, 108, 101, 116, 101]⟩, ⟨#[100, 101, 115, 99]⟩, ⟨#[100, 105, 115, 116, 105, 110, 99, 116]⟩, ⟨#[100, 114, 111, 112]⟩] _) (by simp)).mono ?_); rintro e y ⟨rfl, hM, hb⟩; rw [sz1] at hM; have HM := Lib.hid hM; have HB := Lib.hid hb; clear hM hb))
  go_ret
  exact words_here HL.out HB.out HM.out
set_option maxRecDepth 100000 in
set_option maxHeartbeats 1000000 in
theorem wordsWith_101 (w : World) : Calls Tryz.prog 92 #[.int .u8 101] w (WordsAt 101 w) := by
  have hL : baL (wordsAt 101) = [⟨#[101, 97, 99, 104]⟩, ⟨#[101, 108, 115, 101]⟩, ⟨#[101, 108, 115, 105, 102]⟩, ⟨#[101, 110, 100]⟩, ⟨#[101, 120, 99, 101, 112, 116, 105, 111, 110]⟩, ⟨#[101, 120, 101, 99, 117, 116, 101]⟩, ⟨#[101, 120, 105, 115, 116, 115]⟩, ⟨#[101, 120, 105, 116]⟩] := by kernel_rfl
  have HL := Lib.hid hL
  clear hL
  go_enter Tryz.func92, Tryz.ntmps92
  go_wp2_with (first
    | (go_at_call 137; (refine (setOf_ w.heap.size [⟨#[101, 97, 99, 104]⟩, ⟨#[101, 108, 115, 101]⟩, ⟨#[101, 108, 115, 105, 102]⟩, ⟨#[101, 110, 100]⟩, ⟨#[101, 120, 99, 101, 112, 116, 105, 111, 110]⟩, ⟨#[101, 120, 101, 99, 117, 116, 101]⟩, ⟨#[101, 120, 105, 115, 116, 115]⟩, ⟨#[101, 120, 105, 116]⟩] (by decide) (by decide) _ (strRow_new w [⟨#[101, 97, 99, 104]⟩, ⟨#[101, 108, 115, 101]⟩, ⟨#[101, 108, 115, 105, 102]⟩, ⟨#[101, 110, 100]⟩, ⟨#[101, 120, 99, 101, 112, 116, 105, 111, 110]⟩, ⟨#[101, 120, 101, 99, 117, 116, 101]⟩, ⟨#[101, 120, 105, 115, 116, 115]⟩, ⟨#[101, 120, 105, 116]⟩] _) (by simp)).mono ?_); rintro e y ⟨rfl, hM, hb⟩; rw [sz1] at hM; have HM := Lib.hid hM; have HB := Lib.hid hb; clear hM hb))
  go_ret
  exact words_here HL.out HB.out HM.out
set_option maxRecDepth 100000 in
set_option maxHeartbeats 1000000 in
theorem wordsWith_102 (w : World) : Calls Tryz.prog 92 #[.int .u8 102] w (WordsAt 102 w) := by
  have hL : baL (wordsAt 102) = [⟨#[102, 97, 108, 115, 101]⟩, ⟨#[102, 101, 116, 99, 104]⟩, ⟨#[102, 111, 114]⟩, ⟨#[102, 111, 114, 97, 108, 108]⟩, ⟨#[102, 111, 114, 101, 105, 103, 110]⟩, ⟨#[102, 111, 117, 110, 100]⟩, ⟨#[102, 114, 111, 109]⟩, ⟨#[102, 117, 110, 99, 116, 105, 111, 110]⟩] := by kernel_rfl
  have HL := Lib.hid hL
  clear hL
  go_enter Tryz.func92, Tryz.ntmps92
  go_wp2_with (first
    | (go_at_call 137; (refine (setOf_ w.heap.size [⟨#[102, 97, 108, 115, 101]⟩, ⟨#[102, 101, 116, 99, 104]⟩, ⟨#[102, 111, 114]⟩, ⟨#[102, 111, 114, 97, 108, 108]⟩, ⟨#[102, 111, 114, 101, 105, 103, 110]⟩, ⟨#[102, 111, 117, 110, 100]⟩, ⟨#[102, 114, 111, 109]⟩, ⟨#[102, 117, 110, 99, 116, 105, 111, 110]⟩] (by decide) (by decide) _ (strRow_new w [⟨#[102, 97, 108, 115, 101]⟩, ⟨#[102, 101, 116, 99, 104]⟩, ⟨#[102, 111, 114]⟩, ⟨#[102, 111, 114, 97, 108, 108]⟩, ⟨#[102, 111, 114, 101, 105, 103, 110]⟩, ⟨#[102, 111, 117, 110, 100]⟩, ⟨#[102, 114, 111, 109]⟩, ⟨#[102, 117, 110, 99, 116, 105, 111, 110]⟩] _) (by simp)).mono ?_); rintro e y ⟨rfl, hM, hb⟩; rw [sz1] at hM; have HM := Lib.hid hM; have HB := Lib.hid hb; clear hM hb))
  go_ret
  exact words_here HL.out HB.out HM.out
set_option maxRecDepth 100000 in
set_option maxHeartbeats 1000000 in
theorem wordsWith_103 (w : World) : Calls Tryz.prog 92 #[.int .u8 103] w (WordsAt 103 w) := by
  have hL : baL (wordsAt 103) = [⟨#[103, 114, 97, 110, 116]⟩, ⟨#[103, 114, 111, 117, 112]⟩] := by kernel_rfl
  have HL := Lib.hid hL
  clear hL
  go_enter Tryz.func92, Tryz.ntmps92
  go_wp2_with (first
    | (go_at_call 137; (refine (setOf_ w.heap.size [⟨#[103, 114, 97, 110, 116]⟩, ⟨#[103, 114, 111, 117, 112]⟩] (by decide) (by decide) _ (strRow_new w [⟨#[103, 114, 97, 110, 116]⟩, ⟨#[103, 114, 111, 117, 112]⟩] _) (by simp)).mono ?_); rintro e y ⟨rfl, hM, hb⟩; rw [sz1] at hM; have HM := Lib.hid hM; have HB := Lib.hid hb; clear hM hb))
  go_ret
  exact words_here HL.out HB.out HM.out
set_option maxRecDepth 100000 in
set_option maxHeartbeats 1000000 in
theorem wordsWith_104 (w : World) : Calls Tryz.prog 92 #[.int .u8 104] w (WordsAt 104 w) := by
  have hL : baL (wordsAt 104) = [⟨#[104, 97, 118, 105, 110, 103]⟩] := by kernel_rfl
  have HL := Lib.hid hL
  clear hL
  go_enter Tryz.func92, Tryz.ntmps92
  go_wp2_with (first
    | (go_at_call 137; (refine (setOf_ w.heap.size [⟨#[104, 97, 118, 105, 110, 103]⟩] (by decide) (by decide) _ (strRow_new w [⟨#[104, 97, 118, 105, 110, 103]⟩] _) (by simp)).mono ?_); rintro e y ⟨rfl, hM, hb⟩; rw [sz1] at hM; have HM := Lib.hid hM; have HB := Lib.hid hb; clear hM hb))
  go_ret
  exact words_here HL.out HB.out HM.out
set_option maxRecDepth 100000 in
set_option maxHeartbeats 1000000 in
theorem wordsWith_105 (w : World) : Calls Tryz.prog 92 #[.int .u8 105] w (WordsAt 105 w) := by
  have hL : baL (wordsAt 105) = [⟨#[105, 102]⟩, ⟨#[105, 110]⟩, ⟨#[105, 110, 100, 101, 120]⟩, ⟨#[105, 110, 115, 101, 114, 116]⟩, ⟨#[105, 110, 116]⟩, ⟨#[105, 110, 116, 111]⟩, ⟨#[105, 110, 118, 111, 107, 101, 114]⟩, ⟨#[105, 115]⟩, ⟨#[105, 115, 111, 112, 101, 110]⟩] := by kernel_rfl
  have HL := Lib.hid hL
  clear hL
  go_enter Tryz.func92, Tryz.ntmps92
  go_wp2_with (first
    | (go_at_call 137; (refine (setOf_ w.heap.size [⟨#[105, 102]⟩, ⟨#[105, 110]⟩, ⟨#[105, 110, 100, 101, 120]⟩, ⟨#[105, 110, 115, 101, 114, 116]⟩, ⟨#[105, 110, 116]⟩, ⟨#[105, 110, 116, 111]⟩, ⟨#[105, 110, 118, 111, 107, 101, 114]⟩, ⟨#[105, 115]⟩, ⟨#[105, 115, 111, 112, 101, 110]⟩] (by decide) (by decide) _ (strRow_new w [⟨#[105, 102]⟩, ⟨#[105, 110]⟩, ⟨#[105, 110, 100, 101, 120]⟩, ⟨#[105, 110, 115, 101, 114, 116]⟩, ⟨#[105, 110, 116]⟩, ⟨#[105, 110, 116, 111]⟩, ⟨#[105, 110, 118, 111, 107, 101, 114]⟩, ⟨#[105, 115]⟩, ⟨#[105, 115, 111, 112, 101, 110]⟩] _) (by simp)).mono ?_); rintro e y ⟨rfl, hM, hb⟩; rw [sz1] at hM; have HM := Lib.hid hM; have HB := Lib.hid hb; clear hM hb))
  go_ret
  exact words_here HL.out HB.out HM.out
set_option maxRecDepth 100000 in
set_option maxHeartbeats 1000000 in
theorem wordsWith_107 (w : World) : Calls Tryz.prog 92 #[.int .u8 107] w (WordsAt 107 w) := by
  have hL : baL (wordsAt 107) = [⟨#[107, 101, 121]⟩] := by kernel_rfl
  have HL := Lib.hid hL
  clear hL
  go_enter Tryz.func92, Tryz.ntmps92
  go_wp2_with (first
    | (go_at_call 137; (refine (setOf_ w.heap.size [⟨#[107, 101, 121]⟩] (by decide) (by decide) _ (strRow_new w [⟨#[107, 101, 121]⟩] _) (by simp)).mono ?_); rintro e y ⟨rfl, hM, hb⟩; rw [sz1] at hM; have HM := Lib.hid hM; have HB := Lib.hid hb; clear hM hb))
  go_ret
  exact words_here HL.out HB.out HM.out
set_option maxRecDepth 100000 in
set_option maxHeartbeats 1000000 in
theorem wordsWith_108 (w : World) : Calls Tryz.prog 92 #[.int .u8 108] w (WordsAt 108 w) := by
  have hL : baL (wordsAt 108) = [⟨#[108, 105, 107, 101]⟩, ⟨#[108, 105, 109, 105, 116]⟩, ⟨#[108, 111, 111, 112]⟩] := by kernel_rfl
  have HL := Lib.hid hL
  clear hL
  go_enter Tryz.func92, Tryz.ntmps92
  go_wp2_with (first
    | (go_at_call 137; (refine (setOf_ w.heap.size [⟨#[108, 105, 107, 101]⟩, ⟨#[108, 105, 109, 105, 116]⟩, ⟨#[108, 111, 111, 112]⟩] (by decide) (by decide) _ (strRow_new w [⟨#[108, 105, 107, 101]⟩, ⟨#[108, 105, 109, 105, 116]⟩, ⟨#[108, 111, 111, 112]⟩] _) (by simp)).mono ?_); rintro e y ⟨rfl, hM, hb⟩; rw [sz1] at hM; have HM := Lib.hid hM; have HB := Lib.hid hb; clear hM hb))
  go_ret
  exact words_here HL.out HB.out HM.out
set_option maxRecDepth 100000 in
set_option maxHeartbeats 1000000 in
theorem wordsWith_109 (w : World) : Calls Tryz.prog 92 #[.int .u8 109] w (WordsAt 109 w) := by
  have hL : baL (wordsAt 109) = [⟨#[109, 111, 100]⟩] := by kernel_rfl
  have HL := Lib.hid hL
  clear hL
  go_enter Tryz.func92, Tryz.ntmps92
  go_wp2_with (first
    | (go_at_call 137; (refine (setOf_ w.heap.size [⟨#[109, 111, 100]⟩] (by decide) (by decide) _ (strRow_new w [⟨#[109, 111, 100]⟩] _) (by simp)).mono ?_); rintro e y ⟨rfl, hM, hb⟩; rw [sz1] at hM; have HM := Lib.hid hM; have HB := Lib.hid hb; clear hM hb))
  go_ret
  exact words_here HL.out HB.out HM.out
set_option maxRecDepth 100000 in
set_option maxHeartbeats 1000000 in
theorem wordsWith_110 (w : World) : Calls Tryz.prog 92 #[.int .u8 110] w (WordsAt 110 w) := by
  have hL : baL (wordsAt 110) = [⟨#[110, 101, 119]⟩, ⟨#[110, 111, 116]⟩, ⟨#[110, 111, 116, 102, 111, 117, 110, 100]⟩, ⟨#[110, 117, 108, 108]⟩] := by kernel_rfl
  have HL := Lib.hid hL
  clear hL
  go_enter Tryz.func92, Tryz.ntmps92
  go_wp2_with (first
    | (go_at_call 137; (refine (setOf_ w.heap.size [⟨#[110, 101, 119]⟩, ⟨#[110, 111, 116]⟩, ⟨#[110, 111, 116, 102, 111, 117, 110, 100]⟩, ⟨#[110, 117, 108, 108]⟩] (by decide) (by decide) _ (strRow_new w [⟨#[110, 101, 119]⟩, ⟨#[110, 111, 116]⟩, ⟨#[110, 111, 116, 102, 111, 117, 110, 100]⟩, ⟨#[110, 117, 108, 108]⟩] _) (by simp)).mono ?_); rintro e y ⟨rfl, hM, hb⟩; rw [sz1] at hM; have HM := Lib.hid hM; have HB := Lib.hid hb; clear hM hb))
  go_ret
  exact words_here HL.out HB.out HM.out
set_option maxRecDepth 100000 in
set_option maxHeartbeats 1000000 in
theorem wordsWith_111 (w : World) : Calls Tryz.prog 92 #[.int .u8 111] w (WordsAt 111 w) := by
  have hL : baL (wordsAt 111) = [⟨#[111, 102]⟩, ⟨#[111, 108, 100]⟩, ⟨#[111, 110]⟩, ⟨#[111, 112, 101, 110]⟩, ⟨#[111, 114]⟩, ⟨#[111, 114, 100, 101, 114]⟩, ⟨#[111, 117, 116]⟩] := by kernel_rfl
  have HL := Lib.hid hL
  clear hL
  go_enter Tryz.func92, Tryz.ntmps92
  go_wp2_with (first
    | (go_at_call 137; (refine (setOf_ w.heap.size [⟨#[111, 102]⟩, ⟨#[111, 108, 100]⟩, ⟨#[111, 110]⟩, ⟨#[111, 112, 101, 110]⟩, ⟨#[111, 114]⟩, ⟨#[111, 114, 100, 101, 114]⟩, ⟨#[111, 117, 116]⟩] (by decide) (by decide) _ (strRow_new w [⟨#[111, 102]⟩, ⟨#[111, 108, 100]⟩, ⟨#[111, 110]⟩, ⟨#[111, 112, 101, 110]⟩, ⟨#[111, 114]⟩, ⟨#[111, 114, 100, 101, 114]⟩, ⟨#[111, 117, 116]⟩] _) (by simp)).mono ?_); rintro e y ⟨rfl, hM, hb⟩; rw [sz1] at hM; have HM := Lib.hid hM; have HB := Lib.hid hb; clear hM hb))
  go_ret
  exact words_here HL.out HB.out HM.out
set_option maxRecDepth 100000 in
set_option maxHeartbeats 1000000 in
theorem wordsWith_112 (w : World) : Calls Tryz.prog 92 #[.int .u8 112] w (WordsAt 112 w) := by
  have hL : baL (wordsAt 112) = [⟨#[112, 97, 99, 107, 97, 103, 101]⟩, ⟨#[112, 114, 105, 109, 97, 114, 121]⟩, ⟨#[112, 114, 105, 118, 97, 116, 101]⟩, ⟨#[112, 114, 111, 99, 101, 100, 117, 114, 101]⟩] := by kernel_rfl
  have HL := Lib.hid hL
  clear hL
  go_enter Tryz.func92, Tryz.ntmps92
  go_wp2_with (first
    | (go_at_call 137; (refine (setOf_ w.heap.size [⟨#[112, 97, 99, 107, 97, 103, 101]⟩, ⟨#[112, 114, 105, 109, 97, 114, 121]⟩, ⟨#[112, 114, 105, 118, 97, 116, 101]⟩, ⟨#[112, 114, 111, 99, 101, 100, 117, 114, 101]⟩] (by decide) (by decide) _ (strRow_new w [⟨#[112, 97, 99, 107, 97, 103, 101]⟩, ⟨#[112, 114, 105, 109, 97, 114, 121]⟩, ⟨#[112, 114, 105, 118, 97, 116, 101]⟩, ⟨#[112, 114, 111, 99, 101, 100, 117, 114, 101]⟩] _) (by simp)).mono ?_); rintro e y ⟨rfl, hM, hb⟩; rw [sz1] at hM; have HM := Lib.hid hM; have HB := Lib.hid hb; clear hM hb))
  go_ret
  exact words_here HL.out HB.out HM.out
set_option maxRecDepth 100000 in
set_option maxHeartbeats 1000000 in
theorem wordsWith_114 (w : World) : Calls Tryz.prog 92 #[.int .u8 114] w (WordsAt 114 w) := by
  have hL : baL (wordsAt 114) = [⟨#[114, 97, 105, 115, 101]⟩, ⟨#[114, 101, 102, 101, 114, 101, 110, 99, 101, 115]⟩, ⟨#[114, 101, 112, 108, 97, 99, 101]⟩, ⟨#[114, 101, 116, 117, 114, 110]⟩, ⟨#[114, 101, 118, 101, 114, 115, 101]⟩, ⟨#[114, 101, 118, 111, 107, 101]⟩, ⟨#[114, 111, 108, 108, 98, 97, 99, 107]⟩, ⟨#[114, 111, 119]⟩, ⟨#[114, 111, 119, 99, 111, 117, 110, 116]⟩] := by kernel_rfl
  have HL := Lib.hid hL
  clear hL
  go_enter Tryz.func92, Tryz.ntmps92
  go_wp2_with (first
    | (go_at_call 137; (refine (setOf_ w.heap.size [⟨#[114, 97, 105, 115, 101]⟩, ⟨#[114, 101, 102, 101, 114, 101, 110, 99, 101, 115]⟩, ⟨#[114, 101, 112, 108, 97, 99, 101]⟩, ⟨#[114, 101, 116, 117, 114, 110]⟩, ⟨#[114, 101, 118, 101, 114, 115, 101]⟩, ⟨#[114, 101, 118, 111, 107, 101]⟩, ⟨#[114, 111, 108, 108, 98, 97, 99, 107]⟩, ⟨#[114, 111, 119]⟩, ⟨#[114, 111, 119, 99, 111, 117, 110, 116]⟩] (by decide) (by decide) _ (strRow_new w [⟨#[114, 97, 105, 115, 101]⟩, ⟨#[114, 101, 102, 101, 114, 101, 110, 99, 101, 115]⟩, ⟨#[114, 101, 112, 108, 97, 99, 101]⟩, ⟨#[114, 101, 116, 117, 114, 110]⟩, ⟨#[114, 101, 118, 101, 114, 115, 101]⟩, ⟨#[114, 101, 118, 111, 107, 101]⟩, ⟨#[114, 111, 108, 108, 98, 97, 99, 107]⟩, ⟨#[114, 111, 119]⟩, ⟨#[114, 111, 119, 99, 111, 117, 110, 116]⟩] _) (by simp)).mono ?_); rintro e y ⟨rfl, hM, hb⟩; rw [sz1] at hM; have HM := Lib.hid hM; have HB := Lib.hid hb; clear hM hb))
  go_ret
  exact words_here HL.out HB.out HM.out
set_option maxRecDepth 100000 in
set_option maxHeartbeats 1000000 in
theorem wordsWith_115 (w : World) : Calls Tryz.prog 92 #[.int .u8 115] w (WordsAt 115 w) := by
  have hL : baL (wordsAt 115) = [⟨#[115, 97, 118, 101, 112, 111, 105, 110, 116]⟩, ⟨#[115, 101, 108, 101, 99, 116]⟩, ⟨#[115, 101, 113, 117, 101, 110, 99, 101]⟩, ⟨#[115, 101, 116]⟩, ⟨#[115, 113, 108]⟩, ⟨#[115, 116, 97, 114, 116]⟩] := by kernel_rfl
  have HL := Lib.hid hL
  clear hL
  go_enter Tryz.func92, Tryz.ntmps92
  go_wp2_with (first
    | (go_at_call 137; (refine (setOf_ w.heap.size [⟨#[115, 97, 118, 101, 112, 111, 105, 110, 116]⟩, ⟨#[115, 101, 108, 101, 99, 116]⟩, ⟨#[115, 101, 113, 117, 101, 110, 99, 101]⟩, ⟨#[115, 101, 116]⟩, ⟨#[115, 113, 108]⟩, ⟨#[115, 116, 97, 114, 116]⟩] (by decide) (by decide) _ (strRow_new w [⟨#[115, 97, 118, 101, 112, 111, 105, 110, 116]⟩, ⟨#[115, 101, 108, 101, 99, 116]⟩, ⟨#[115, 101, 113, 117, 101, 110, 99, 101]⟩, ⟨#[115, 101, 116]⟩, ⟨#[115, 113, 108]⟩, ⟨#[115, 116, 97, 114, 116]⟩] _) (by simp)).mono ?_); rintro e y ⟨rfl, hM, hb⟩; rw [sz1] at hM; have HM := Lib.hid hM; have HB := Lib.hid hb; clear hM hb))
  go_ret
  exact words_here HL.out HB.out HM.out
set_option maxRecDepth 100000 in
set_option maxHeartbeats 1000000 in
theorem wordsWith_116 (w : World) : Calls Tryz.prog 92 #[.int .u8 116] w (WordsAt 116 w) := by
  have hL : baL (wordsAt 116) = [⟨#[116, 97, 98, 108, 101]⟩, ⟨#[116, 101, 120, 116]⟩, ⟨#[116, 104, 101, 110]⟩, ⟨#[116, 111]⟩, ⟨#[116, 114, 105, 103, 103, 101, 114]⟩, ⟨#[116, 114, 117, 101]⟩] := by kernel_rfl
  have HL := Lib.hid hL
  clear hL
  go_enter Tryz.func92, Tryz.ntmps92
  go_wp2_with (first
    | (go_at_call 137; (refine (setOf_ w.heap.size [⟨#[116, 97, 98, 108, 101]⟩, ⟨#[116, 101, 120, 116]⟩, ⟨#[116, 104, 101, 110]⟩, ⟨#[116, 111]⟩, ⟨#[116, 114, 105, 103, 103, 101, 114]⟩, ⟨#[116, 114, 117, 101]⟩] (by decide) (by decide) _ (strRow_new w [⟨#[116, 97, 98, 108, 101]⟩, ⟨#[116, 101, 120, 116]⟩, ⟨#[116, 104, 101, 110]⟩, ⟨#[116, 111]⟩, ⟨#[116, 114, 105, 103, 103, 101, 114]⟩, ⟨#[116, 114, 117, 101]⟩] _) (by simp)).mono ?_); rintro e y ⟨rfl, hM, hb⟩; rw [sz1] at hM; have HM := Lib.hid hM; have HB := Lib.hid hb; clear hM hb))
  go_ret
  exact words_here HL.out HB.out HM.out
set_option maxRecDepth 100000 in
set_option maxHeartbeats 1000000 in
theorem wordsWith_117 (w : World) : Calls Tryz.prog 92 #[.int .u8 117] w (WordsAt 117 w) := by
  have hL : baL (wordsAt 117) = [⟨#[117, 110, 105, 113, 117, 101]⟩, ⟨#[117, 112, 100, 97, 116, 101]⟩, ⟨#[117, 115, 101, 114]⟩] := by kernel_rfl
  have HL := Lib.hid hL
  clear hL
  go_enter Tryz.func92, Tryz.ntmps92
  go_wp2_with (first
    | (go_at_call 137; (refine (setOf_ w.heap.size [⟨#[117, 110, 105, 113, 117, 101]⟩, ⟨#[117, 112, 100, 97, 116, 101]⟩, ⟨#[117, 115, 101, 114]⟩] (by decide) (by decide) _ (strRow_new w [⟨#[117, 110, 105, 113, 117, 101]⟩, ⟨#[117, 112, 100, 97, 116, 101]⟩, ⟨#[117, 115, 101, 114]⟩] _) (by simp)).mono ?_); rintro e y ⟨rfl, hM, hb⟩; rw [sz1] at hM; have HM := Lib.hid hM; have HB := Lib.hid hb; clear hM hb))
  go_ret
  exact words_here HL.out HB.out HM.out
set_option maxRecDepth 100000 in
set_option maxHeartbeats 1000000 in
theorem wordsWith_118 (w : World) : Calls Tryz.prog 92 #[.int .u8 118] w (WordsAt 118 w) := by
  have hL : baL (wordsAt 118) = [⟨#[118, 97, 108, 117, 101, 115]⟩, ⟨#[118, 105, 101, 119]⟩] := by kernel_rfl
  have HL := Lib.hid hL
  clear hL
  go_enter Tryz.func92, Tryz.ntmps92
  go_wp2_with (first
    | (go_at_call 137; (refine (setOf_ w.heap.size [⟨#[118, 97, 108, 117, 101, 115]⟩, ⟨#[118, 105, 101, 119]⟩] (by decide) (by decide) _ (strRow_new w [⟨#[118, 97, 108, 117, 101, 115]⟩, ⟨#[118, 105, 101, 119]⟩] _) (by simp)).mono ?_); rintro e y ⟨rfl, hM, hb⟩; rw [sz1] at hM; have HM := Lib.hid hM; have HB := Lib.hid hb; clear hM hb))
  go_ret
  exact words_here HL.out HB.out HM.out
set_option maxRecDepth 100000 in
set_option maxHeartbeats 1000000 in
theorem wordsWith_119 (w : World) : Calls Tryz.prog 92 #[.int .u8 119] w (WordsAt 119 w) := by
  have hL : baL (wordsAt 119) = [⟨#[119, 104, 101, 110]⟩, ⟨#[119, 104, 101, 114, 101]⟩, ⟨#[119, 104, 105, 108, 101]⟩] := by kernel_rfl
  have HL := Lib.hid hL
  clear hL
  go_enter Tryz.func92, Tryz.ntmps92
  go_wp2_with (first
    | (go_at_call 137; (refine (setOf_ w.heap.size [⟨#[119, 104, 101, 110]⟩, ⟨#[119, 104, 101, 114, 101]⟩, ⟨#[119, 104, 105, 108, 101]⟩] (by decide) (by decide) _ (strRow_new w [⟨#[119, 104, 101, 110]⟩, ⟨#[119, 104, 101, 114, 101]⟩, ⟨#[119, 104, 105, 108, 101]⟩] _) (by simp)).mono ?_); rintro e y ⟨rfl, hM, hb⟩; rw [sz1] at hM; have HM := Lib.hid hM; have HB := Lib.hid hb; clear hM hb))
  go_ret
  exact words_here HL.out HB.out HM.out
set_option maxRecDepth 100000 in
set_option maxHeartbeats 1000000 in
theorem wordsWith_none (c : UInt8) (w : World) (h : ((c.toNat : Int) == 97) = false ∧ ((c.toNat : Int) == 98) = false ∧ ((c.toNat : Int) == 99) = false ∧ ((c.toNat : Int) == 100) = false ∧ ((c.toNat : Int) == 101) = false ∧ ((c.toNat : Int) == 102) = false ∧ ((c.toNat : Int) == 103) = false ∧ ((c.toNat : Int) == 104) = false ∧ ((c.toNat : Int) == 105) = false ∧ ((c.toNat : Int) == 107) = false ∧ ((c.toNat : Int) == 108) = false ∧ ((c.toNat : Int) == 109) = false ∧ ((c.toNat : Int) == 110) = false ∧ ((c.toNat : Int) == 111) = false ∧ ((c.toNat : Int) == 112) = false ∧ ((c.toNat : Int) == 114) = false ∧ ((c.toNat : Int) == 115) = false ∧ ((c.toNat : Int) == 116) = false ∧ ((c.toNat : Int) == 117) = false ∧ ((c.toNat : Int) == 118) = false ∧ ((c.toNat : Int) == 119) = false) (hc : wordsAt c = []) : Calls Tryz.prog 92 #[.int .u8 c.toNat] w (WordsAt c w) := by
  obtain ⟨h97, h98, h99, h100, h101, h102, h103, h104, h105, h107, h108, h109, h110, h111, h112, h114, h115, h116, h117, h118, h119⟩ := h
  have HC := Lib.hid hc
  clear hc
  go_enter Tryz.func92, Tryz.ntmps92
  go_wp2_with fail
  go_ret
  exact ⟨Below.refl _ _, .inl ⟨HC.out, rfl⟩⟩
theorem byte_off {c d : UInt8} (h : ¬ c = d) : ((c.toNat : Int) == (d.toNat : Int)) = false := by rw [byte_eq]; simpa using h
theorem wordsWith_ (c : UInt8) (w : World) : Calls Tryz.prog 92 #[.int .u8 c.toNat] w (WordsAt c w) := by
  by_cases h97 : c = 97
  · subst h97; exact wordsWith_97 w
  by_cases h98 : c = 98
  · subst h98; exact wordsWith_98 w
  by_cases h99 : c = 99
  · subst h99; exact wordsWith_99 w
  by_cases h100 : c = 100
  · subst h100; exact wordsWith_100 w
  by_cases h101 : c = 101
  · subst h101; exact wordsWith_101 w
  by_cases h102 : c = 102
  · subst h102; exact wordsWith_102 w
  by_cases h103 : c = 103
  · subst h103; exact wordsWith_103 w
  by_cases h104 : c = 104
  · subst h104; exact wordsWith_104 w
  by_cases h105 : c = 105
  · subst h105; exact wordsWith_105 w
  by_cases h107 : c = 107
  · subst h107; exact wordsWith_107 w
  by_cases h108 : c = 108
  · subst h108; exact wordsWith_108 w
  by_cases h109 : c = 109
  · subst h109; exact wordsWith_109 w
  by_cases h110 : c = 110
  · subst h110; exact wordsWith_110 w
  by_cases h111 : c = 111
  · subst h111; exact wordsWith_111 w
  by_cases h112 : c = 112
  · subst h112; exact wordsWith_112 w
  by_cases h114 : c = 114
  · subst h114; exact wordsWith_114 w
  by_cases h115 : c = 115
  · subst h115; exact wordsWith_115 w
  by_cases h116 : c = 116
  · subst h116; exact wordsWith_116 w
  by_cases h117 : c = 117
  · subst h117; exact wordsWith_117 w
  by_cases h118 : c = 118
  · subst h118; exact wordsWith_118 w
  by_cases h119 : c = 119
  · subst h119; exact wordsWith_119 w
  refine wordsWith_none c w ⟨byte_off h97, byte_off h98, byte_off h99, byte_off h100, byte_off h101, byte_off h102, byte_off h103, byte_off h104, byte_off h105, byte_off h107, byte_off h108, byte_off h109, byte_off h110, byte_off h111, byte_off h112, byte_off h114, byte_off h115, byte_off h116, byte_off h117, byte_off h118, byte_off h119⟩ ?_
  have hf : (wtab.find? fun p => p.1 == c) = none := by
    rw [List.find?_eq_none]
    intro p hp
    have hk : wtab.all (fun p => p.1 == 97 || p.1 == 98 || p.1 == 99 || p.1 == 100 || p.1 == 101 || p.1 == 102 || p.1 == 103 || p.1 == 104 || p.1 == 105 || p.1 == 107 || p.1 == 108 || p.1 == 109 || p.1 == 110 || p.1 == 111 || p.1 == 112 || p.1 == 114 || p.1 == 115 || p.1 == 116 || p.1 == 117 || p.1 == 118 || p.1 == 119) = true := by decide +kernel
    have := List.all_eq_true.1 hk p hp
    simp only [Bool.or_eq_true, beq_iff_eq] at this
    intro hq
    have hq' : p.1 = c := by simpa using hq
    rw [hq'] at this
    simp only [h97, h98, h99, h100, h101, h102, h103, h104, h105, h107, h108, h109, h110, h111, h112, h114, h115, h116, h117, h118, h119, or_self] at this
  unfold wordsAt
  rw [hf]
  rfl
end
end Go.Proofs.YtpmppndhfljcpaaGreatDoor
namespace Go.Proofs.YtpmppndhfljcpaaGreatDoor
section
open Go.RowKit

/-- Whether a string is one of some. -/
def memB (l : List Bs) (s : Bs) : Bool := l.contains s
theorem find_words (l : List Bs) (s : ByteArray) : (findE (setE (baL l)) s).getD (.bool false) = .bool (memB l s.data.toList) := by
  rw [find_setE]
  have e : (baL l).contains s = l.contains s.data.toList := by
    induction l with
    | nil => rfl
    | cons x r ih =>
      show ((⟨x.toArray⟩ :: baL r) : List ByteArray).contains s = _
      rw [List.contains_cons, List.contains_cons, ih, ba_beq]
  rw [e, memB]
  cases l.contains s.data.toList <;> rfl
theorem ne_empty {s : ByteArray} (h : ¬ s.size = 0) : ∃ c r, s.data.toList = c :: r ∧ ∃ h0 : 0 < s.size, s[0] = c := by
  obtain ⟨⟨l⟩⟩ := s
  cases l with
  | nil => exact absurd rfl h
  | cons c r => exact ⟨c, r, rfl, by show 0 < (c :: r).length; simp, rfl⟩
theorem toList_data (s : ByteArray) : s.toList = s.data.toList := by rw [ByteArray.toList_eq]
set_option maxRecDepth 100000 in
theorem word_ (s : ByteArray) (w : World) : Calls Tryz.prog 36 #[.string s] w fun e w' => e = .returned (.bool (memB words s.data.toList)) ∧ Below w.heap.size w w' := by
  by_cases h : s.size = 0
  · have hn : s.data.toList = [] := by
      refine List.eq_nil_of_length_eq_zero ?_
      have e : s.data.toList.length = s.size := by simp
      omega
    have e1 : memB words s.data.toList = false := by rw [hn]; decide +kernel
    have H := Lib.hid e1
    have hs : s.toList = [] := by rw [toList_data, hn]
    clear e1 hn h
    go_enter Tryz.func36, Tryz.ntmps36
    go_wp2_with fail
    go_ret
    exact ⟨by rw [H.out]; rfl, Below.refl _ _⟩
  · obtain ⟨c, r, hl, h0, hc⟩ := ne_empty h
    have e1 := words_at s.data.toList
    rw [hl] at e1
    simp only at e1
    rw [← hl] at e1
    have H : Hid (memB words s.data.toList = memB (wordsAt c) s.data.toList) := Lib.hid e1
    have hs : (!s.toList.isEmpty) = true := by rw [toList_data, hl]; rfl
    have hs2 : s.toList.isEmpty = false := by rw [toList_data, hl]; rfl
    have hi : (0 : Int) < s.size := by omega
    have hz : ∀ y : World, (zeroValue 4).run Tryz.prog y = .ok (.bool false) y := fun y => by kernel_rfl
    subst hc
    clear e1 hl h
    go_enter Tryz.func36, Tryz.ntmps36
    go_wp2_with fail
    refine (wordsWith_ _ _).mono ?_
    rintro e y ⟨hb, ⟨h0, rfl⟩ | ⟨b, rfl, hM⟩⟩
    · have HB := Lib.hid hb
      have HN := Lib.hid h0
      have hlk : (Instr.lookup 123 (.map none) (.string s) false).run Tryz.prog y = .ok (.bool false) y := by
        have hc := MapKept.run_checkKey (P := Tryz.prog) (w := y) (k := .string s) Tryz.underlying9 (by simp [MapKept.IsKey]) true 9999
        have hf := MapKept.run_findKey (P := Tryz.prog) (w := y) Tryz.underlying9 (show Instr.findNow .string (.string s) [] 0 = some none from rfl)
        simp [Instr.lookup, run_underlying Tryz.underlying123, hc, hf, hz y, Result.andThen]
      clear hb h0
      go_wp2_with fail
      go_ret
      exact ⟨by rw [H.out, HN.out]; rfl, HB.out⟩
    · have HB := Lib.hid hb
      have hlk := run_lookup_one hM Tryz.underlying123 Tryz.underlying9 (hz y) s
      rw [find_words] at hlk
      clear hb hM
      go_wp2_with fail
      go_ret
      exact ⟨by rw [H.out]; rfl, HB.out⟩
end
end Go.Proofs.YtpmppndhfljcpaaGreatDoor
namespace Go.Proofs.YtpmppndhfljcpaaGreatDoor
section
open Go.RowKit

/-- What a reader raises: a fault of some type, with what it names. -/
abbrev raised (t : TypeId) (nm : ByteArray) : Ending := .panicked [{ v := .iface t (.agg #[.string nm]), recovered := false }]
theorem ext_size (s : ByteArray) (i n : Nat) (h : i + n ≤ s.size) : (s.extract i (i + n)).size = n := by rw [ByteArray.size_extract]; omega
theorem ext_data (s : ByteArray) (i n : Nat) : (s.extract i (i + n)).data.toList = (s.data.toList.drop i).take n := by rw [Lib.extract_data, Nat.add_sub_cancel_left]
def wordK (l : Bs) : Int := if memB words l = true then 2 else 1
set_option maxRecDepth 100000 in
theorem name_ok (R : Nat) (s : ByteArray) (i fr ln st : Nat) (w : World) (h : BL w R (rd s i fr ln st)) (hs : s.size ≤ 4000000) (hi : i ≤ s.size) (hn : many namedB (s.data.toList.drop i) ≤ 30) :
    Calls Tryz.prog 183 #[.pointer (some ⟨R, 0, none⟩)] w fun e w' =>
      e = .returned (.tuple #[.int .i64 (wordK ((s.data.toList.drop i).take (many namedB (s.data.toList.drop i)))), .string (s.extract i (i + many namedB (s.data.toList.drop i)))]) ∧ KR w w' R (rd s (i + many namedB (s.data.toList.drop i)) fr ln st) [] := by
  have HR0 := run_ R s i fr ln st _ namedB w h hs hi fnNamed
  have hfit : i + many namedB (s.data.toList.drop i) ≤ s.size := by
    have h1 := skip_fits s.data.toList i namedB (by simpa using hi)
    have e : s.data.toList.length = s.size := by simp
    omega
  have hts := ext_size s i _ hfit
  have htd := ext_data s i (many namedB (s.data.toList.drop i))
  rw [← htd]
  generalize s.extract i (i + many namedB (s.data.toList.drop i)) = t at *
  generalize many namedB (s.data.toList.drop i) = n at *
  have HR := Lib.hid HR0
  have HW := Lib.hid fun x => word_ t x
  have hle : t.size ≤ 30 := by omega
  clear HR0 htd hts hfit h hn
  cases hw : memB words t.data.toList
  all_goals
    have HK := Lib.hid (show wordK t.data.toList = if memB words t.data.toList = true then 2 else 1 from rfl)
    rw [hw] at HW HK
    go_enter Tryz.func183, Tryz.ntmps183
    go_wp2_with (first
      | (go_at_call 95; (with_reducible refine HR.out.mono ?_); rintro e y ⟨rfl, hK⟩; have K := Lib.hid hK; clear hK)
      | (go_at_call 36; (with_reducible refine (HW.out _).mono ?_); rintro e y2 ⟨rfl, hb⟩; have K2 := Lib.hid (K.out.below hb); clear hb))
    go_ret2
    exact ⟨by rw [HK.out]; rfl, K2.out⟩
set_option maxRecDepth 100000 in
theorem name_bad (R : Nat) (s : ByteArray) (i fr ln st : Nat) (w : World) (h : BL w R (rd s i fr ln st)) (hs : s.size ≤ 4000000) (hi : i ≤ s.size) (hn : 30 < many namedB (s.data.toList.drop i)) :
    Calls Tryz.prog 183 #[.pointer (some ⟨R, 0, none⟩)] w fun e w' =>
      e = raised 144 (s.extract i (i + 30)) ∧ KR w w' R (rd s (i + many namedB (s.data.toList.drop i)) fr ln st) [] := by
  have HR0 := run_ R s i fr ln st _ namedB w h hs hi fnNamed
  have hfit : i + many namedB (s.data.toList.drop i) ≤ s.size := by
    have h1 := skip_fits s.data.toList i namedB (by simpa using hi)
    have e : s.data.toList.length = s.size := by simp
    omega
  have hts := ext_size s i _ hfit
  have hcut : s.extract i (i + 30) = (s.extract i (i + many namedB (s.data.toList.drop i))).extract 0 30 := by
    rw [ByteArray.extract_extract]
    congr 1
    omega
  rw [hcut]
  clear hcut
  generalize s.extract i (i + many namedB (s.data.toList.drop i)) = t at *
  generalize many namedB (s.data.toList.drop i) = n at *
  have HR := Lib.hid HR0
  have hgt : 30 < t.size := by omega
  have hgt' : (30 : Int) ≤ t.size := by omega
  clear HR0 hts hfit h hn
  go_enter Tryz.func183, Tryz.ntmps183
  go_wp2_with (first
    | (go_at_call 95; (with_reducible refine HR.out.mono ?_); rintro e y ⟨rfl, hK⟩; have K := Lib.hid hK; clear hK))
  exact ⟨rfl, rfl, K.out⟩
end
end Go.Proofs.YtpmppndhfljcpaaGreatDoor
namespace Go.Proofs.YtpmppndhfljcpaaGreatDoor
section
open Go.RowKit

theorem stepD_eq (n : Nat) (c : UInt8) : stepD n c = 10 * n + (c.toNat - 48) := rfl
theorem valD_cons (n : Nat) (c : UInt8) (r : Bs) : valD n (c :: r) = valD (stepD n c) r := by unfold valD; rw [List.foldl_cons]
theorem valD_nil (n : Nat) : valD n [] = n := rfl
theorem valD_mono (l : Bs) : ∀ n, n ≤ valD n l := by
  induction l with
  | nil => intro n; exact Nat.le_refl _
  | cons c r ih =>
    intro n
    rw [valD_cons]
    have h1 := ih (stepD n c)
    have h2 := stepD_eq n c
    omega
theorem parse_some (l : Bs) : ∀ n, l.all digitB = true → valD n l < 18446744073709551616 → Lib.parseUint10 n l = .ok (valD n l) := by
  induction l with
  | nil => intro n _ _; rfl
  | cons c r ih =>
    intro n ha hv
    simp only [List.all_cons, Bool.and_eq_true] at ha
    have hd : 48 ≤ c.toNat ∧ c.toNat ≤ 57 := by simpa [digitB] using ha.1
    rw [valD_cons] at hv
    have h1 := valD_mono r (stepD n c)
    have h2 := stepD_eq n c
    have e : n * 10 + (c.toNat - 48) = stepD n c := by omega
    rw [Lib.parseUint10, if_pos hd, if_neg (by omega), e, if_neg (by omega), ih _ ha.2 hv, valD_cons]
theorem parse_val (l : Bs) : ∀ n u, l.all digitB = true → Lib.parseUint10 n l = .ok u → u = valD n l := by
  induction l with
  | nil => intro n u _ h; rw [Lib.parseUint10] at h; injection h with h; exact h.symm
  | cons c r ih =>
    intro n u ha h
    simp only [List.all_cons, Bool.and_eq_true] at ha
    have hd : 48 ≤ c.toNat ∧ c.toNat ≤ 57 := by simpa [digitB] using ha.1
    have h2 := stepD_eq n c
    have e : n * 10 + (c.toNat - 48) = stepD n c := by omega
    rw [Lib.parseUint10, if_pos hd] at h
    split at h
    · cases h
    · split at h
      · cases h
      · rw [e] at h
        rw [valD_cons]
        exact ih _ _ ha.2 h
theorem atoi_first {c : UInt8} {r : Bs} (ha : (c :: r).all digitB = true) : 48 ≤ c.toNat ∧ c.toNat ≤ 57 := by
  simp only [List.all_cons, Bool.and_eq_true] at ha
  simpa [digitB] using ha.1
theorem atoi_ok_of {c : UInt8} {r : Bs} (ha : (c :: r).all digitB = true) {u : Nat} (h : Lib.parseUint10 0 (c :: r) = .ok u) (hu : u < 9223372036854775808) : Lib.atoiAll (c :: r) = .ok (u : Int) := by
  have hd := atoi_first ha
  have h1 : ¬ c.toNat = 43 := by omega
  have h2 : ¬ c.toNat = 45 := by omega
  have h3 : ¬ 9223372036854775808 ≤ u := by omega
  simp [Lib.atoiAll, h1, h2, Lib.parseMag, h, h3]
theorem atoi_of_ok {c : UInt8} {r : Bs} (ha : (c :: r).all digitB = true) {v : Int} (h : Lib.atoiAll (c :: r) = .ok v) : ∃ u : Nat, Lib.parseUint10 0 (c :: r) = .ok u ∧ v = u := by
  have hd := atoi_first ha
  have h1 : ¬ c.toNat = 43 := by omega
  have h2 : ¬ c.toNat = 45 := by omega
  simp only [Lib.atoiAll, h1, h2, Lib.parseMag, or_self, if_false, List.cons_ne_nil] at h
  cases hp : Lib.parseUint10 0 (c :: r)
  · rename_i u
    rw [hp] at h
    simp only [not_false_eq_true, true_and, false_and, if_false] at h
    split at h
    · cases h
    · injection h with h
      exact ⟨u, rfl, h.symm⟩
  · rw [hp] at h; simp at h
  · rw [hp] at h; simp at h
theorem atoi_small (l : Bs) (ha : l.all digitB = true) (hl : 1 ≤ l.length) (hv : valD 0 l < 9223372036854775808) : Lib.atoiAll l = .ok (valD 0 l : Int) := by
  cases l with
  | nil => simp at hl
  | cons c r => exact atoi_ok_of ha (parse_some (c :: r) 0 ha (by omega)) hv
theorem atoi_val (l : Bs) (ha : l.all digitB = true) (hl : 1 ≤ l.length) (v : Int) (h : Lib.atoiAll l = .ok v) : v = (valD 0 l : Int) := by
  cases l with
  | nil => simp at hl
  | cons c r =>
    obtain ⟨u, hu, rfl⟩ := atoi_of_ok ha h
    rw [parse_val _ _ _ ha hu]
theorem many_all_p (p : UInt8 → Bool) (l : Bs) : (l.take (many p l)).all p = true := by
  rw [many_take, List.all_eq_true]
  exact fun b hb => mem_takeWhile hb
set_option maxRecDepth 100000 in
theorem int_ok (R : Nat) (s : ByteArray) (i fr ln st : Nat) (w : World) (h : BL w R (rd s i fr ln st)) (hs : s.size ≤ 4000000) (hi : i ≤ s.size) (hn : 1 ≤ many digitB (s.data.toList.drop i))
    (hv : valD 0 ((s.data.toList.drop i).take (many digitB (s.data.toList.drop i))) ≤ 1099511627776) :
    Calls Tryz.prog 184 #[.pointer (some ⟨R, 0, none⟩)] w fun e w' =>
      e = .returned (.int .i64 (valD 0 ((s.data.toList.drop i).take (many digitB (s.data.toList.drop i))) : Nat)) ∧ KR w w' R (rd s (i + many digitB (s.data.toList.drop i)) fr ln st) [] := by
  have HR0 := run_ R s i fr ln st _ digitB w h hs hi fnDigit
  have hfit : i + many digitB (s.data.toList.drop i) ≤ s.size := by
    have h1 := skip_fits s.data.toList i digitB (by simpa using hi)
    have e : s.data.toList.length = s.size := by simp
    omega
  have hts := ext_size s i _ hfit
  have htd := ext_data s i (many digitB (s.data.toList.drop i))
  have hall := many_all_p digitB (s.data.toList.drop i)
  rw [← htd] at hv hall ⊢
  generalize s.extract i (i + many digitB (s.data.toList.drop i)) = t at *
  generalize many digitB (s.data.toList.drop i) = n at *
  have htl : t.data.toList.length = t.size := by simp
  have hat := atoi_small _ hall (by omega) (by omega)
  generalize valD 0 t.data.toList = v at *
  have HR := Lib.hid HR0
  have HA := Lib.hid fun x => atoi_ok t _ hat (by omega) x
  have hle : (v : Int) ≤ 1099511627776 := by omega
  clear HR0 htd hts hfit h hn hat htl hall hv
  go_enter Tryz.func184, Tryz.ntmps184
  go_wp2_with (first
    | (go_at_call 95; (with_reducible refine HR.out.mono ?_); rintro e y ⟨rfl, hK⟩; have K := Lib.hid hK; clear hK)
    | (go_at_call 121; (with_reducible refine (HA.out _).mono ?_); rintro e y2 ⟨rfl, hb⟩; have K2 := Lib.hid (K.out.below hb); clear hb))
  go_ret
  exact ⟨rfl, K2.out⟩
set_option maxRecDepth 100000 in
theorem int_bad (R : Nat) (s : ByteArray) (i fr ln st : Nat) (w : World) (h : BL w R (rd s i fr ln st)) (hs : s.size ≤ 4000000) (hi : i ≤ s.size) (hn : 1 ≤ many digitB (s.data.toList.drop i)) (E : Env w) (hR : Off R)
    (hv : 1099511627776 < valD 0 ((s.data.toList.drop i).take (many digitB (s.data.toList.drop i)))) :
    Calls Tryz.prog 184 #[.pointer (some ⟨R, 0, none⟩)] w fun e w' =>
      e = raised 144 (s.extract i (i + min (many digitB (s.data.toList.drop i)) 40)) ∧ KR w w' R (rd s (i + many digitB (s.data.toList.drop i)) fr ln st) [] := by
  have HR0 := run_ R s i fr ln st _ digitB w h hs hi fnDigit
  have hfit : i + many digitB (s.data.toList.drop i) ≤ s.size := by
    have h1 := skip_fits s.data.toList i digitB (by simpa using hi)
    have e : s.data.toList.length = s.size := by simp
    omega
  have hts := ext_size s i _ hfit
  have htd := ext_data s i (many digitB (s.data.toList.drop i))
  have hall := many_all_p digitB (s.data.toList.drop i)
  have hcut : s.extract i (i + min (many digitB (s.data.toList.drop i)) 40) = (s.extract i (i + many digitB (s.data.toList.drop i))).extract 0 (min (many digitB (s.data.toList.drop i)) 40) := by
    rw [ByteArray.extract_extract]
    congr 1
    omega
  rw [hcut]
  rw [← htd] at hv hall
  generalize s.extract i (i + many digitB (s.data.toList.drop i)) = t at *
  generalize many digitB (s.data.toList.drop i) = n at *
  have htl : t.data.toList.length = t.size := by simp
  have HR := Lib.hid HR0
  subst hts
  have h0 : (0 : Int) ≤ t.size := by omega
  have hmin : min (t.size : Int) 40 ≤ t.size := by omega
  have ht4 : t.size ≤ 4000000 := by omega
  have HM : Hid ((min (t.size : Int) 40).toNat = min t.size 40) := Lib.hid (by omega)
  by_cases hok : ∃ v, Lib.atoiAll t.data.toList = .ok v
  · obtain ⟨v, hat⟩ := hok
    have hvv := atoi_val _ hall (by omega) v hat
    have HA := Lib.hid fun x => atoi_ok t _ hat ht4 x
    have hgt : (1099511627776 : Int) < v := by omega
    clear HR0 htd hfit h hn hat htl hall hv hvv hcut
    go_enter Tryz.func184, Tryz.ntmps184
    go_wp2_with (first
      | (go_at_call 95; (with_reducible refine HR.out.mono ?_); rintro e y ⟨rfl, hK⟩; have K := Lib.hid hK; clear hK)
      | (go_at_call 121; (with_reducible refine (HA.out _).mono ?_); rintro e y2 ⟨rfl, hb⟩; have K2 := Lib.hid (K.out.below hb); clear hb))
    refine ⟨rfl, ?_, K2.out⟩
    rw [HM.out]
  · have HA := Lib.hid fun x (hx : Env x) => atoi_no t (fun v h => hok ⟨v, h⟩) ht4 x hx
    have HE := Lib.hid E
    clear HR0 htd hfit h hn htl hall hv hcut hok E
    go_enter Tryz.func184, Tryz.ntmps184
    go_wp2_with (first
      | (go_at_call 95; (with_reducible refine HR.out.mono ?_); rintro e y ⟨rfl, hK⟩; have K := Lib.hid hK; clear hK)
      | (go_at_call 121; (with_reducible refine (HA.out _ (HE.out.grown K.out.g hR)).mono ?_); rintro e y2 ⟨nn, tt, pp, rfl, hb⟩; have K2 := Lib.hid (K.out.below hb); clear hb))
    refine ⟨rfl, ?_, K2.out⟩
    rw [HM.out]
end
end Go.Proofs.YtpmppndhfljcpaaGreatDoor
namespace Go.Proofs.YtpmppndhfljcpaaGreatDoor
section
open Go.RowKit

theorem signs_or (l : Bs) : memB signs l = (l == [58, 61] || (l == [60, 62] || (l == [60, 61] || (l == [62, 61] || (l == [124, 124] || (l == [46, 46] || (l == [40] || (l == [41] || (l == [44] || (l == [59] || (l == [46] || (l == [58] || (l == [61] || (l == [60] || (l == [62] || (l == [43] || (l == [45] || (l == [42] || (l == [47] || l == [37]))))))))))))))))))) := by
  simp only [memB, signs, List.contains_cons, List.contains_nil, Bool.or_false]
set_option maxRecDepth 100000 in
set_option maxHeartbeats 4000000 in
theorem isSign_ (s : ByteArray) (w : World) : Calls Tryz.prog 135 #[.string s] w fun e w' => e = .returned (.bool (memB signs s.data.toList)) ∧ w = w' := by
  have H := Lib.hid (signs_or s.toList)
  have HT := Lib.hid (toList_data s)
  go_enter Tryz.func135, Tryz.ntmps135
  go_wp2_with fail
  all_goals
    go_ret
    refine ⟨ret_bool ?_, rfl⟩
    rw [← HT.out, H.out]
    simp_all
set_option maxRecDepth 100000 in
set_option maxHeartbeats 1000000 in
theorem sign_at (R : Nat) (s : ByteArray) (i fr ln st : Nat) (w : World) (h : BL w R (rd s i fr ln st)) (hs : s.size ≤ 4000000) (hi : i < s.size) (m k0 : Nat) (hm : m = min 2 (s.size - i)) (h1 : 1 ≤ k0) (hk0 : k0 ≤ m)
    (hy : memB signs ((s.data.toList.drop i).take k0) = true) (hno : ∀ j, k0 < j → j ≤ m → memB signs ((s.data.toList.drop i).take j) = false) :
    Calls Tryz.prog 186 #[.pointer (some ⟨R, 0, none⟩)] w fun e w' => e = .returned (.string (s.extract i (i + k0))) ∧ KR w w' R (rd s (i + k0) fr ln st) [] := by
  have K0 := Lib.hid (KR.start h)
  obtain ⟨c0, c1, c2, c3, c4, f0, f1, f2, f3, f4, hl⟩ := h.open5
  have hi0 : (0 : Int) ≤ i := by omega
  have him : (i : Int) + m ≤ s.size := by omega
  have hmin : min (2 : Int) ((s.size : Int) - i) = m := by omega
  have HY := Lib.hid hy
  have HN := Lib.hid hno
  clear hy hno h hm
  go_enter Tryz.func186, Tryz.ntmps186
  go_wp2
  go_quiet (fail)
  have HMIN := Lib.hid hmin
  clear hmin
  go_wp2
  go_loopw [3] (fun q x => ∃ (k n : Nat), k0 ≤ k ∧ k ≤ m ∧ q = .int .i64 k ∧ x = w.drewN n) (fun q x => (intOf q).toNat)
  case atStart => exact ⟨m, nq, hk0, Nat.le_refl _, rfl, rfl⟩
  case round =>
    obtain ⟨k, n, hk, hkm, rfl, rfl⟩ := hrel
    have hkp : (0 : Int) < k := by omega
    have hik : (i : Int) ≤ i + k := by omega
    have hiks : (i : Int) + k ≤ s.size := by omega
    have hwr : IntKind.i64.wrap ((i : Int) + k) = (i : Int) + k := IntWalk.i64_in _ (by omega)
    have hd : (s.extract i (i + k)).data.toList = (s.data.toList.drop i).take k := ext_data s i k
    have HS := Lib.hid fun x => isSign_ (s.extract i (i + k)) x
    rw [hd] at HS
    have hto : ((i : Int) + k).toNat = i + k := by omega
    by_cases e : k = k0
    · subst e
      rw [HY.out] at HS
      clear hd
      go_wp2
      go_quiet (fail)
      go_wp2_with (first
        | (go_at_call 135; (with_reducible refine (HS.out _).mono ?_); rintro e y ⟨rfl, rfl⟩))
      go_ret
      exact ⟨rfl, (K0.out.below (Below.drewN w _)).setR 1 (.int .i64 (i + k : Nat)) (by simp)⟩
    · rw [HN.out k (by omega) hkm] at HS
      clear hd
      go_wp2
      go_quiet (fail)
      go_wp2_with (first
        | (go_at_call 135; (with_reducible refine (HS.out _).mono ?_); rintro e y ⟨rfl, rfl⟩))
      go_roundw
      case rel => exact ⟨k - 1, n + nq, by omega, by omega, by go_num, rfl⟩
      case measure => simp [intOf]; omega
set_option maxRecDepth 100000 in
set_option maxHeartbeats 1000000 in
theorem sign_none (R : Nat) (s : ByteArray) (i fr ln st : Nat) (w : World) (h : BL w R (rd s i fr ln st)) (hs : s.size ≤ 4000000) (hi : i < s.size) (m : Nat) (hm : m = min 2 (s.size - i))
    (hno : ∀ j, 1 ≤ j → j ≤ m → memB signs ((s.data.toList.drop i).take j) = false) :
    Calls Tryz.prog 186 #[.pointer (some ⟨R, 0, none⟩)] w fun e w' => e = raised 143 (s.extract i (i + 1)) ∧ KR w w' R (rd s i fr ln st) [] := by
  have K0 := Lib.hid (KR.start h)
  obtain ⟨c0, c1, c2, c3, c4, f0, f1, f2, f3, f4, hl⟩ := h.open5
  have hi0 : (0 : Int) ≤ i := by omega
  have him : (i : Int) + m ≤ s.size := by omega
  have hi1 : (i : Int) + 1 ≤ s.size := by omega
  have hi2 : (i : Int) ≤ i + 1 := by omega
  have hmin : min (2 : Int) ((s.size : Int) - i) = m := by omega
  have HN := Lib.hid hno
  have hm2 : m ≤ 2 := by omega
  clear hno h hm
  go_enter Tryz.func186, Tryz.ntmps186
  go_wp2
  go_quiet (fail)
  have HMIN := Lib.hid hmin
  clear hmin
  go_wp2
  go_loopw [3] (fun q x => ∃ (k n : Nat), k ≤ m ∧ q = .int .i64 k ∧ x = w.drewN n) (fun q x => (intOf q).toNat)
  case atStart => exact ⟨m, nq, Nat.le_refl _, rfl, rfl⟩
  case round =>
    obtain ⟨k, n, hkm, rfl, rfl⟩ := hrel
    by_cases h0 : k = 0
    · subst h0
      have hwr : IntKind.i64.wrap ((i : Int) + 1) = (i : Int) + 1 := IntWalk.i64_in _ (by omega)
      go_wp2
      refine wp_region_still_tail 16 (by kernel_rfl) (by kernel_rfl) ?_
      simp only [List.take_succ_cons, List.take_zero, List.drop_succ_cons, List.drop_zero]
      change wpStill _ _ (w.drewN (n + 1)) _ _ _
      repeat still_step
      refine wpStill_nil ?_
      change wpList _ _ _ _ _ (w.drewN (n + 1))
      go_wp2
      exact ⟨rfl, rfl, K0.out.below (Below.drewN w _)⟩
    · have hkp : (0 : Int) < k := by omega
      have hik : (i : Int) ≤ i + k := by omega
      have hiks : (i : Int) + k ≤ s.size := by omega
      have hwr : IntKind.i64.wrap ((i : Int) + k) = (i : Int) + k := IntWalk.i64_in _ (by omega)
      have hd : (s.extract i (i + k)).data.toList = (s.data.toList.drop i).take k := ext_data s i k
      have HS := Lib.hid fun x => isSign_ (s.extract i (i + k)) x
      rw [hd, HN.out k (by omega) hkm] at HS
      clear hd
      go_wp2
      go_quiet (fail)
      go_wp2_with (first
        | (go_at_call 135; (with_reducible refine (HS.out _).mono ?_); rintro e y ⟨rfl, rfl⟩))
      go_roundw
      case rel => exact ⟨k - 1, n + nq, by omega, by go_num, rfl⟩
      case measure => simp [intOf]; omega
end
end Go.Proofs.YtpmppndhfljcpaaGreatDoor
