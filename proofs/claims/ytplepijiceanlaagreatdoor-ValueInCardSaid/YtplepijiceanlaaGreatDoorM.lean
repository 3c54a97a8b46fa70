/-
  A map literal with string keys, entry by entry: what a block of the heap that is a map holds; inserting a new key; looking one up. Nothing of the program is named here.
-/
import Derived.WalkKit
import Derived.WideMake
namespace Go.Proofs.YtplepijiceanlaaGreatDoor
open Go.RowKit

/-- Block b is a map with just these entries, in this order. -/
def MapIs (w : World) (b : Nat) (es : List (ByteArray × Value)) : Prop :=
  ∃ (a : Array MapEntry) (clock : Nat), w.heap[b]? = some (.map a clock) ∧ a.toList.map (fun e => (e.key, e.val)) = es.map (fun p => (Value.string p.1, p.2))

theorem MapIs.made (w : World) : MapIs (w.alloc (.map #[] 0)) w.heap.size [] := ⟨#[], 0, (MapKept.heap_alloc w _).1, by simp⟩
theorem MapIs.lt {w : World} {b : Nat} {es : List (ByteArray × Value)} (h : MapIs w b es) : b < w.heap.size := by
  obtain ⟨a, c, hb, _⟩ := h
  exact (Array.getElem?_eq_some_iff.1 hb).1
theorem MapIs.of_block {w w' : World} {b : Nat} {es : List (ByteArray × Value)} (h : MapIs w b es) (hb : w'.heap[b]? = w.heap[b]?) : MapIs w' b es := by
  obtain ⟨a, c, h1, h2⟩ := h
  exact ⟨a, c, hb.trans h1, h2⟩

def findE (es : List (ByteArray × Value)) (key : ByteArray) : Option Value := (es.find? fun p => key == p.1).map (·.2)

theorem findNow_lit (key : ByteArray) : ∀ (l : List MapEntry) (es : List (ByteArray × Value)) (i : Nat), l.map (fun e => (e.key, e.val)) = es.map (fun p => (Value.string p.1, p.2)) →
    ∃ r : Option (Nat × Value), Instr.findNow .string (.string key) l i = some r ∧ r.map (·.2) = findE es key
  | [], es, i, h => by
    cases es with
    | nil => exact ⟨none, rfl, rfl⟩
    | cons _ _ => simp at h
  | e :: l, es, i, h => by
    cases es with
    | nil => simp at h
    | cons p es =>
      simp only [List.map_cons, List.cons.injEq, Prod.mk.injEq] at h
      obtain ⟨⟨hk, hv⟩, hl⟩ := h
      obtain ⟨r, h1, h2⟩ := findNow_lit key l es (i + 1) hl
      cases hq : key == p.1
      · refine ⟨r, ?_, ?_⟩
        · simp [Instr.findNow, hk, Instr.sameNow, hq, h1]
        · rw [h2]; simp [findE, List.find?, hq]
      · refine ⟨some (i, e.val), ?_, ?_⟩
        · simp [Instr.findNow, hk, Instr.sameNow, hq]
        · simp [findE, List.find?, hq, hv]

variable {P : Program}

theorem run_lookup_lit {w : World} {b : Nat} {es : List (ByteArray × Value)} (h : MapIs w b es) {t kt e : TypeId} (ht : P.underlying t = some (.map kt e)) (hk : P.underlying kt = some .string) {z : Value} (hz : (zeroValue e).run P w = .ok z w) (key : ByteArray) :
    (Instr.lookup t (.map (some b)) (.string key) true).run P w = .ok (.tuple #[(findE es key).getD z, .bool (findE es key).isSome]) w := by
  obtain ⟨a, c, hb, hl⟩ := h
  obtain ⟨r, h1, h2⟩ := findNow_lit key a.toList es 0 hl
  have hc : (Instr.checkKey a.isEmpty 10000 kt (.string key)).run P w = .ok () w := MapKept.run_checkKey (k := .string key) hk (by simp [MapKept.IsKey]) _ 9999
  have hf := MapKept.run_findKey (w := w) hk h1
  rw [← h2]
  cases r with
  | none => simp [Instr.lookup, run_underlying ht, MapKept.run_getObj_map hb, hc, hf, hz, Result.andThen]
  | some p => simp [Instr.lookup, run_underlying ht, MapKept.run_getObj_map hb, hc, hf, Result.andThen]

/-- Only the map at block b has turned, since w0. -/
structure Fed (w0 w : World) (b : Nat) (es : List (ByteArray × Value)) : Prop where
  here : MapIs w b es
  cell : ∀ p, w.cell? p = w0.cell? p
  frozen : ∀ p, w.frozen? p = w0.frozen? p
  size : w.heap.size = w0.heap.size
  grown : w0.grownBy w (some b)

theorem Fed.begin {w : World} {b : Nat} {es : List (ByteArray × Value)} (h : MapIs w b es) : Fed w w b es := ⟨h, fun _ => rfl, fun _ => rfl, rfl, World.grownBy.refl w _⟩
theorem Fed.made (w : World) : Fed (w.alloc (.map #[] 0)) (w.alloc (.map #[] 0)) w.heap.size [] := .begin (MapIs.made w)
theorem Fed.made' (w : World) (b : Nat) (h : w.heap.size = b) : Fed (w.alloc (.map #[] 0)) (w.alloc (.map #[] 0)) b [] := by rw [← h]; exact Fed.made w
theorem Fed.below {w0 w : World} {b : Nat} {es : List (ByteArray × Value)} (h : Fed w0 w b es) {B : Nat} (hB : B ≤ b) (hB' : B ≤ w0.heap.size) : Below B w0 w :=
  (Below.refl _ _).grown h.grown hB' (fun k hk => by cases hk; exact hB)

theorem Fed.insert {w0 w : World} {b : Nat} {es : List (ByteArray × Value)} (h : Fed w0 w b es) {t kt e : TypeId} (ht : P.underlying t = some (.map kt e)) (hk : P.underlying kt = some .string) (key : ByteArray) (val : Value) (hnew : findE es key = none) :
    ∃ w', (Instr.mapUpdate t (.map (some b)) (.string key) val).run P w = .ok () w' ∧ Fed w0 w' b (es ++ [(key, val)]) := by
  obtain ⟨⟨a, c, hb, hl⟩, hcell, hfz, hsz, hg⟩ := h
  obtain ⟨r, h1, h2⟩ := findNow_lit key a.toList es 0 hl
  rw [hnew] at h2
  have hr : r = none := by cases r <;> simp at h2 ⊢
  subst hr
  have hc : (Instr.checkKey false 10000 kt (.string key)).run P w = .ok () w := MapKept.run_checkKey (k := .string key) hk (by simp [MapKept.IsKey]) _ 9999
  have hf := MapKept.run_findKey (w := w) hk h1
  refine ⟨{ w with heap := w.heap.setIfInBounds b (.map (a.push { key := .string key, val := val, born := c }) (c + 1)) }, ?_, ?_⟩
  · simp [Instr.mapUpdate, run_underlying ht, MapKept.run_getObj_map hb, hc, hf, MapKept.run_setObj_map _ hb, Result.andThen]
  · have hset := MapKept.heap_set (o' := .map (a.push { key := .string key, val := val, born := c }) (c + 1)) hb
    refine ⟨⟨_, _, hset.1, by simp [hl]⟩, fun p => ?_, fun p => ?_, by simp [hsz], ⟨hg.os, hg.tape, hg.output, by simp [hg.size], fun i hi hne => ?_⟩⟩
    · rw [← hcell p]
      by_cases hp : p.block = b
      · simp only [World.cell?, hp, hset.1, hb]
      · simp only [World.cell?, hset.2 _ hp]
    · rw [← hfz p]
      by_cases hp : p.block = b
      · simp only [World.frozen?, hp, hset.1, hb]
      · simp only [World.frozen?, hset.2 _ hp]
    · have hib : i ≠ b := fun e => hne (by rw [e])
      exact (hset.2 i hib).trans (hg.block i hi hne)

/-- The operation by which a literal lays an entry, for the walk. -/
theorem wpList_insert_lit {w0 w : World} {ops : Array Oper} {rest : List Oper} {o : Oper} {a : Act} {Q : Exit → Act → World → Prop}
    (hg : o.guard = none) (m x v : Operand) (t kt e : TypeId) (hop : o.op = Op.insert t m x v) (ht : P.underlying t = some (.map kt e)) (hk : P.underlying kt = some .string)
    {b : Nat} {es : List (ByteArray × Value)} (h : Fed w0 w b es) (key : ByteArray) (val : Value) (hm : a.eval m = .map (some b)) (hx : a.eval x = .string key) (hv : a.eval v = val) (hnew : findE es key = none)
    (hK : ∀ w', Fed w0 w' b (es ++ [(key, val)]) → wpList P ops Q rest (a.put o.dst undef) w') : wpList P ops Q (o :: rest) a w := by
  refine wpList_plain hg fun K' hK' => ?_
  obtain ⟨w', hrun, hF⟩ := h.insert ht hk key val hnew
  unfold Oper.wp
  simp [execOp, hop, hm, hx, hv, hrun, Result.andThen]
  exact hK' _ _ (hK w' hF)

/-- Block b holds three cells, that may be written. -/
structure B3 (x : World) (b : Nat) (c0 c1 c2 : Value) : Prop where
  c0 : x.cell? ⟨b, 0, none⟩ = some c0
  c1 : x.cell? ⟨b, 1, none⟩ = some c1
  c2 : x.cell? ⟨b, 2, none⟩ = some c2
  f0 : x.frozen? ⟨b, 0, none⟩ = false
  f1 : x.frozen? ⟨b, 1, none⟩ = false
  f2 : x.frozen? ⟨b, 2, none⟩ = false
  lt : b < x.heap.size
theorem B3.below {x y : World} {b : Nat} {c0 c1 c2 : Value} (h : B3 x b c0 c1 c2) (hb : Below x.heap.size x y) : B3 y b c0 c1 c2 :=
  ⟨(hb.cell (p := ⟨b, 0, none⟩) h.lt).trans h.c0, (hb.cell (p := ⟨b, 1, none⟩) h.lt).trans h.c1, (hb.cell (p := ⟨b, 2, none⟩) h.lt).trans h.c2,
   (hb.frozen (p := ⟨b, 0, none⟩) h.lt).trans h.f0, (hb.frozen (p := ⟨b, 1, none⟩) h.lt).trans h.f1, (hb.frozen (p := ⟨b, 2, none⟩) h.lt).trans h.f2, Nat.lt_of_lt_of_le h.lt hb.size⟩
theorem B3.alloc {x : World} {b : Nat} {c0 c1 c2 : Value} (h : B3 x b c0 c1 c2) (o : Obj) : B3 (x.alloc o) b c0 c1 c2 := h.below ((Below.refl _ _).alloc (Nat.le_refl _) o)
theorem B3.new (x : World) (c0 c1 c2 : Value) (t : TypeId) : B3 (x.alloc (.cells #[c0, c1, c2] t)) x.heap.size c0 c1 c2 :=
  ⟨by simp, by simp, by simp, by simp, by simp, by simp, by simp⟩
theorem B3.new' (x : World) (b : Nat) (h : x.heap.size = b) (c0 c1 c2 : Value) (t : TypeId) : B3 (x.alloc (.cells #[c0, c1, c2] t)) b c0 c1 c2 := by rw [← h]; exact B3.new x c0 c1 c2 t
theorem B3.fed {x y : World} {b g : Nat} {es : List (ByteArray × Value)} {c0 c1 c2 : Value} (h : B3 x b c0 c1 c2) (hF : Fed x y g es) : B3 y b c0 c1 c2 :=
  ⟨(hF.cell _).trans h.c0, (hF.cell _).trans h.c1, (hF.cell _).trans h.c2, (hF.frozen _).trans h.f0, (hF.frozen _).trans h.f1, (hF.frozen _).trans h.f2, by rw [hF.size]; exact h.lt⟩
theorem B3.drew {x : World} {b : Nat} {c0 c1 c2 : Value} (h : B3 x b c0 c1 c2) : B3 x.drew b c0 c1 c2 := ⟨h.c0, h.c1, h.c2, h.f0, h.f1, h.f2, h.lt⟩

/-- Since w the call has made blocks of its own alone; here are one, two or three of them. -/
structure K1 (w x : World) (b : Nat) (c0 c1 c2 : Value) : Prop where
  HB : Below w.heap.size w x
  q : B3 x b c0 c1 c2
theorem K1.below {w x y : World} {b : Nat} {c0 c1 c2 : Value} (h : K1 w x b c0 c1 c2) (hb : Below x.heap.size x y) : K1 w y b c0 c1 c2 :=
  ⟨h.HB.trans (hb.mono h.HB.size), h.q.below hb⟩
theorem K1.alloc {w x : World} {b : Nat} {c0 c1 c2 : Value} (h : K1 w x b c0 c1 c2) (o : Obj) : K1 w (x.alloc o) b c0 c1 c2 := h.below ((Below.refl _ _).alloc (Nat.le_refl _) o)
structure K2 (w x : World) (b : Nat) (c0 c1 c2 : Value) (b' : Nat) (c0' c1' c2' : Value) : Prop where
  HB : Below w.heap.size w x
  q : B3 x b c0 c1 c2
  q' : B3 x b' c0' c1' c2'
theorem K2.below {w x y : World} {b : Nat} {c0 c1 c2 : Value} {b' : Nat} {c0' c1' c2' : Value} (h : K2 w x b c0 c1 c2 b' c0' c1' c2') (hb : Below x.heap.size x y) : K2 w y b c0 c1 c2 b' c0' c1' c2' :=
  ⟨h.HB.trans (hb.mono h.HB.size), h.q.below hb, h.q'.below hb⟩
theorem K2.alloc {w x : World} {b : Nat} {c0 c1 c2 : Value} {b' : Nat} {c0' c1' c2' : Value} (h : K2 w x b c0 c1 c2 b' c0' c1' c2') (o : Obj) : K2 w (x.alloc o) b c0 c1 c2 b' c0' c1' c2' := h.below ((Below.refl _ _).alloc (Nat.le_refl _) o)
structure K3 (w x : World) (b : Nat) (c0 c1 c2 : Value) (b' : Nat) (c0' c1' c2' : Value) (d : Nat) (e0 e1 e2 : Value) : Prop where
  HB : Below w.heap.size w x
  q : B3 x b c0 c1 c2
  q' : B3 x b' c0' c1' c2'
  p : B3 x d e0 e1 e2
theorem K3.below {w x y : World} {b : Nat} {c0 c1 c2 : Value} {b' : Nat} {c0' c1' c2' : Value} {d : Nat} {e0 e1 e2 : Value} (h : K3 w x b c0 c1 c2 b' c0' c1' c2' d e0 e1 e2) (hb : Below x.heap.size x y) : K3 w y b c0 c1 c2 b' c0' c1' c2' d e0 e1 e2 :=
  ⟨h.HB.trans (hb.mono h.HB.size), h.q.below hb, h.q'.below hb, h.p.below hb⟩
theorem K3.alloc {w x : World} {b : Nat} {c0 c1 c2 : Value} {b' : Nat} {c0' c1' c2' : Value} {d : Nat} {e0 e1 e2 : Value} (h : K3 w x b c0 c1 c2 b' c0' c1' c2' d e0 e1 e2) (o : Obj) : K3 w (x.alloc o) b c0 c1 c2 b' c0' c1' c2' d e0 e1 e2 := h.below ((Below.refl _ _).alloc (Nat.le_refl _) o)
theorem sz1 (w : World) (o : Obj) : (w.alloc o).heap.size = w.heap.size + 1 := by simp
theorem sz2 (w : World) (o o' : Obj) : ((w.alloc o).alloc o').heap.size = w.heap.size + 1 + 1 := by simp
theorem sz3 (w : World) (o o' o'' : Obj) : (((w.alloc o).alloc o').alloc o'').heap.size = w.heap.size + 1 + 1 + 1 := by simp
theorem lt_add1 (n : Nat) : n ≤ n + 1 := Nat.le_succ n
/-- The result's block written: nothing that was there before the call has turned. -/
theorem set3 {w x : World} (h : Below w.heap.size w x) (b : Nat) (hb : w.heap.size ≤ b) (u0 u1 u2 : Value) :
    Below w.heap.size w (((x.setCell ⟨b, 0, none⟩ u0).setCell ⟨b, 1, none⟩ u1).setCell ⟨b, 2, none⟩ u2) :=
  ((h.setCell hb u0).setCell hb u1).setCell hb u2

end Go.Proofs.YtplepijiceanlaaGreatDoor
