/-
  The frame of this seat's rows, further: a slice of tokens that comes in, of bounded bulk; a law under that bound.
-/
import Derived.Test.YtpmppndhfljcpaaGreatDoorWR
import Derived.Test.YtpmppndhfljcpaaGreatDoorQW
import Derived.Lib.SmallJoins
import Derived.Deep.Slices
import Derived.Deep.Strs
import Derived.JoinedCond
namespace Go.Proofs.YtpmppndhfljcpaaGreatDoor
open Go.ChangeShapes Go.WideShapes Go.ChangeAt Go.RowKit Go.Deep

theorem cellsTok : Tryz.prog.cellsOf 95 = 5 := by kernel_rfl
theorem underTok : ∃ f0 f1 f2 f3 f4 : Field, Tryz.prog.underlying 95 = some (.struct #[f0, f1, f2, f3, f4]) ∧ f0.type = 93 ∧ f1.type = 9 ∧ f2.type = 3 ∧ f3.type = 3 ∧ f4.type = 3 ∧ f0.offset = 0 ∧ f1.offset = 1 ∧ f2.offset = 2 ∧ f3.offset = 3 ∧ f4.offset = 4 :=
  ⟨_, _, _, _, _, Tryz.underlying95, rfl, rfl, rfl, rfl, rfl, rfl, rfl, rfl, rfl, rfl⟩
set_option maxRecDepth 100000 in
/-- Five cells that read as a token, and the bulk of what is read. -/
theorem tok_of_trod {H : Type} {enc : TypeId × Value → H} {W : World} {n : Nat} {cs : List Value} {x : DataW H × List MemPlace} (h : DataW.trod enc Tryz.prog W 0 (fun _ => true) true n 95 cs = some x) (hl : cs.length = 5) :
    ∃ u : Tv, cs = tkC u.k u.t u.n u.ln u.cl ∧ u.t.size + 1 ≤ Rows.uptoBulk x.1 := by
  obtain ⟨f0, f1, f2, f3, f4, hu, g0, g1, g2, g3, g4, o0, o1, o2, o3, o4⟩ := underTok
  obtain ⟨xs, m, _, rfl, _, hlen, hf⟩ := DataW.trod_struct hu h
  have cK : Tryz.prog.cellsOf 93 = 1 := by kernel_rfl
  have c3 : Tryz.prog.cellsOf 3 = 1 := by kernel_rfl
  have c9 : Tryz.prog.cellsOf 9 = 1 := by kernel_rfl
  match xs, hlen with
  | [y0, y1, y2, y3, y4], _ =>
    match cs, hl with
    | [v0, v1, v2, v3, v4], _ =>
      have h0 := hf 0 f0 rfl
      have h1 := hf 1 f1 rfl
      have h2 := hf 2 f2 rfl
      have h3 := hf 3 f3 rfl
      have h4 := hf 4 f4 rfl
      rw [g0, o0, cK] at h0
      rw [g1, o1, c9] at h1
      rw [g2, o2, c3] at h2
      rw [g3, o3, c3] at h3
      rw [g4, o4, c3] at h4
      simp at h0 h1 h2 h3 h4
      obtain ⟨k, e0, _, _⟩ := DataW.trod_int Tryz.underlying93 h0
      obtain ⟨s, e1, hs, _⟩ := DataW.trod_string Tryz.underlying9 h1
      obtain ⟨q, e2, _, _⟩ := DataW.trod_int Tryz.underlying3 h2
      obtain ⟨p, e3, _, _⟩ := DataW.trod_int Tryz.underlying3 h3
      obtain ⟨r, e4, _, _⟩ := DataW.trod_int Tryz.underlying3 h4
      simp at e0 e1 e2 e3 e4
      subst e0 e1 e2 e3 e4
      refine ⟨⟨k, s, q, p, r⟩, rfl, ?_⟩
      rw [hs]
      simp [Rows.uptoBulk, Rows.uptoBulkAll]
      omega
theorem cnt_bulk {H : Type} : ∀ (l : List Tv) (ds : List (DataW H)), l.length = ds.length → (∀ (i : Nat) (v : Tv) (d : DataW H), l[i]? = some v → ds[i]? = some d → v.t.size + 1 ≤ Rows.uptoBulk d) → cntT l ≤ Rows.uptoBulkAll ds ∧ ∀ v ∈ l, v.t.size ≤ Rows.uptoBulkAll ds
  | [], [], _, _ => ⟨Nat.zero_le _, by simp⟩
  | v :: l, d :: ds, hl, h => by
    have ih := cnt_bulk l ds (by simpa using hl) (fun i v' d' h1 h2 => h (i + 1) v' d' (by simpa using h1) (by simpa using h2))
    have h0 := h 0 v d rfl rfl
    have e : cntT (v :: l) = (1 + v.t.size / 20) + cntT l := by unfold cntT; simp
    have e2 : Rows.uptoBulkAll (d :: ds) = Rows.uptoBulk d + Rows.uptoBulkAll ds := by simp [Rows.uptoBulkAll]
    refine ⟨by omega, fun u hu => ?_⟩
    rcases List.mem_cons.1 hu with rfl | hu
    · omega
    · have := ih.2 u hu; omega
  | [], _ :: _, hl, _ => by simp at hl
  | _ :: _, [], hl, _ => by simp at hl
set_option maxRecDepth 100000 in
theorem open_toks {H : Type} {enc : TypeId × Value → H} {W : World} {b0 : Nat} {v : Value} {d : DataW H} {p : List MemPlace} (hv : Value.okWide Tryz.prog W .any b0 43 v)
    (h : DataW.Trod enc Tryz.prog W 0 (fun _ => true) true 43 v d p) : ∃ (A : Option Addr) (c : Nat) (l : List Tv), v = .slice A l.length c ∧ SlT W A l ∧ cntT l ≤ Rows.uptoBulk d ∧ ∀ u ∈ l, u.t.size ≤ Rows.uptoBulk d := by
  obtain ⟨a0, len, cap, rfl⟩ := okWide_slice Tryz.underlying43 hv
  obtain ⟨fuel, hf⟩ := h
  rcases open_slice Tryz.underlying43 hf with ⟨hcs, _⟩ | ⟨a, len', cap', m, n, D, Pl, hcs, _, hl, hm, hmm, hxx, hel⟩
  · simp [Value.cells] at hcs
    obtain ⟨rfl, rfl, rfl⟩ := hcs
    exact ⟨none, 0, [], rfl, SlT.nil _ _, Nat.zero_le _, by simp⟩
  · simp [Value.cells] at hcs
    obtain ⟨rfl, rfl, rfl⟩ := hcs
    simp only [if_true] at hmm
    have hd : ∃ sp, d = .slice ((List.range len).map D) sp := ⟨_, congrArg Prod.fst hxx⟩
    obtain ⟨sp, hd⟩ := hd
    subst hmm
    by_cases h0 : len = 0
    · subst h0
      exact ⟨_, _, [], rfl, SlT.nil _ _, Nat.zero_le _, by simp⟩
    · rw [cellsTok] at hel
      have key : ∀ i, i < len → ∃ u : Tv, (∀ j, j < 5 → W.cell? ((a.add (i * 5)).add j) = (tkC u.k u.t u.n u.ln u.cl)[j]?) ∧ u.t.size + 1 ≤ Rows.uptoBulk (D i) := by
        intro i hi
        obtain ⟨cs', q1, q2⟩ := hel i (by omega)
        obtain ⟨_, q3, q4⟩ := World.cells?_some q1
        obtain ⟨u, rfl, hu⟩ := tok_of_trod q2 q3
        exact ⟨u, q4, hu⟩
      obtain ⟨b, off, spot⟩ := a
      have hspot : spot = none := by
        obtain ⟨u, hu, _⟩ := key 0 (by omega)
        have := hu 0 (by decide)
        exact World.cell?_spot (by simpa [Addr.add] using this)
      subst hspot
      have key2 : ∀ i : Fin len, ∃ u : Tv, (∀ j, j < 5 → W.cell? ⟨b, off + i.1 * 5 + j, none⟩ = (tkC u.k u.t u.n u.ln u.cl)[j]?) ∧ u.t.size + 1 ≤ Rows.uptoBulk (D i.1) := by
        intro i
        obtain ⟨u, hu, hs⟩ := key i.1 i.2
        refine ⟨u, fun j hj => ?_, hs⟩
        have := hu j hj
        rwa [add_plain, add_plain] at this
      obtain ⟨V, hV⟩ := Classical.axiomOfChoice key2
      have hlen : ((List.finRange len).map V).length = len := by rw [List.length_map, List.length_finRange]
      have hcb := cnt_bulk ((List.finRange len).map V) ((List.range len).map D) (by simp) (fun i v' d' h1 h2 => by
        have hi : i < len := by have := (List.getElem?_eq_some_iff.1 h1).1; rw [hlen] at this; exact this
        have e1 : (List.finRange len)[i]? = some ⟨i, hi⟩ := by simp [hi]
        have e2 : (List.range len)[i]? = some i := by simp [hi]
        rw [List.getElem?_map, e1] at h1
        rw [List.getElem?_map, e2] at h2
        cases h1
        cases h2
        exact (hV ⟨i, hi⟩).2)
      have hb : Rows.uptoBulkAll ((List.range len).map D) ≤ Rows.uptoBulk d := by
        rw [hd]
        simp [Rows.uptoBulk]
        omega
      refine ⟨some ⟨b, off, none⟩, _, (List.finRange len).map V, by rw [hlen], ?_, by omega, fun u hu => by have := hcb.2 u hu; omega⟩
      intro i v hv'
      simp only [List.getElem?_map] at hv'
      by_cases hi : i < len
      · have e : (List.finRange len)[i]? = some ⟨i, hi⟩ := by simp [hi]
        rw [e] at hv'
        simp only [Option.map_some, Option.some.injEq] at hv'
        subst hv'
        have q := (hV ⟨i, hi⟩).1
        have q0 := q 0 (by decide)
        exact ⟨b, off, rfl, World.block_lt_of_cell? W _ q0, q0, q 1 (by decide), q 2 (by decide), q 3 (by decide), q 4 (by decide)⟩
      · have e : (List.finRange len)[i]? = none := by simp; omega
        rw [e] at hv'
        cases hv'
/-- As LawRuns, for arguments of bounded bulk. -/
def LawRunsUpto (f : Nat) (fn : Func) : Prop :=
  ∀ (H : Type) (enc : TypeId × Value → H) (W : World) (base : Nat) (args : Array Value) (ds : List (DataW H)) (ps : List MemPlace),
    (∀ (j : Nat) t v, fn.params[j]? = some t → args[j]? = some v → Value.okWide Tryz.prog W .any base t v) →
    DataW.TrodAll enc Tryz.prog W 0 (fun _ => true) true fn.params.toList args.toList ds ps → (DataW.weightsEach Tryz.prog fn.params.toList ds).all (· ≤ reachBytes) = true → Env W → Rows.uptoBulkAll ds ≤ 1048576 →
    Calls Tryz.prog f args W fun e w' => e = .returned (.bool true) ∧ Below W.heap.size W w'
set_option maxRecDepth 100000 in
theorem lawUpto_lifted {f : FuncId} {fn : Func} {s : ChangeSpec} {laid : List (String × DataW Unit)} (hrun : LawRunsUpto f fn) (noInit : Tryz.prog.inits.idxOf? f = none) (hfn : Tryz.prog.funcs[f]? = some fn)
    (hread : (fn.params.toList.all fun t => Tryz.prog.readableRec t && decide (t < Tryz.prog.types.size)) = true) (hrt : fn.resultTypes = #[4]) (hvars : s.vars = []) (hlaid : laid = laidL)
    (hspec : ∀ (H : Type) (ds : List (DataW H)), ds.length = fn.params.toList.length → s.fn H ds = { results := [.lit (.bool true)], args := ds })
    (os : Os) (started : os.Started) (H : Type) (enc : TypeId × Value → H)
    (witness : ∃ (w : World) (tape : Tape) (i : Input), w.os = os ∧ (w.forCall tape i).Shaped Tryz.checked.prog ∧ i.vars = [] ∧ Input.okWide Tryz.checked.prog (w.forCall tape i) .any w.heap.size f i ∧
      ((s.pre enc Tryz.checked.prog fn [] false (w.forCall tape i).memory i.args ∧ ((Rows.OpenSpec.upto s).pre enc Tryz.checked.prog fn [] false (w.forCall tape i).memory i.args ∧ laidMetH Tryz.prog laid (w.forCall tape i).memory)) ∧ sizedMet enc Tryz.checked.prog fn (OpenSpec.ofChange s) false (w.forCall tape i).memory i.args) ∧ ({} : Assume).holds Tryz.checked.prog (lone (Frame.enter Tryz.checked.prog f i.args .normal) [] (w.forCall tape i))) :
    ReturnsInHanded {} Tryz.checked os f .any (fun w args => ((Rows.OpenSpec.upto s).pre enc Tryz.prog fn [] false w args ∧ laidMetH Tryz.prog laid w) ∧ sizedMet enc Tryz.prog fn (Rows.OpenSpec.upto s) false w args)
      (s.post enc Tryz.prog fn false true false false) := by
  obtain ⟨w0, tape0, i0, a1, a2, a3, a4, ⟨⟨_, a5, a6⟩, a7⟩, a8⟩ := witness
  refine returnsInHanded_of_calls own started noInit ⟨w0, tape0, i0, a1, a2, a3, a4, ⟨⟨a5, a6⟩, a7⟩, a8⟩ ?_
  intro w tape i _ hsh _ hok hpre _
  obtain ⟨_, _, _, fn', hfn', _, _, _, _, hval⟩ := hok
  have e : fn' = fn := Option.some.inj (hfn'.symm.trans hfn)
  subst e
  obtain ⟨⟨hpre, hlm⟩, hz⟩ := hpre
  obtain ⟨ds, gs, before, hw, _, hkk⟩ := (OpenSpec.pre_some (k := Rows.uptoSmall) rfl _ _ _ _).1 hpre
  rw [hlaid] at hlm
  obtain ⟨et, es, er⟩ := env_parts hlm
  have hz' : sizedMet enc Tryz.prog fn' (OpenSpec.ofChange s) false (w.forCall tape i).memory i.args := hz
  have hw0 : DataW.Whole enc Tryz.prog fn'.params.toList s.vars false (w.forCall tape i).memory i.args.toList ds gs before := hw
  have hwt0 := hz'.weights hw0
  have hW := DataW.Whole.of_heap (w' := w.forCall tape i) (by rfl) hw0
  have hW' := hW
  obtain ⟨p, q, hA, hV, rfl, _, _⟩ := hW
  rw [hvars] at hV
  obtain ⟨rfl, rfl⟩ := trodVars_none hV
  have hwt : (DataW.weightsEach Tryz.prog fn'.params.toList ds).all (· ≤ reachBytes) = true := by
    have e0 : DataSpec.varTypes Tryz.prog (OpenSpec.ofChange s).bare.plain = [] := by
      have e1 : (OpenSpec.ofChange s).bare.plain.vars = [] := hvars
      unfold DataSpec.varTypes
      rw [e1]
      rfl
    rw [e0, List.append_nil, List.append_nil] at hwt0
    exact hwt0
  have hbulk : Rows.uptoBulkAll ds ≤ 1048576 := by
    rw [List.append_nil] at hkk
    exact of_decide_eq_true hkk
  have hlt : ∀ x ∈ p, x.block < (w.forCall tape i).heap.size := fun x hx => hW'.lt x (List.mem_append_left _ hx)
  refine (hrun H enc (w.forCall tape i) w.heap.size i.args ds p hval hA hwt ⟨gl_of hsh, et, es, er⟩ hbulk).mono fun e W' ⟨he, hb⟩ => ?_
  subst he
  refine ChangeSpec.post_blind ?_
  have e1 : s.fn H (ds ++ []) = { results := [.lit (.bool true)], args := ds } := by rw [List.append_nil]; exact hspec H ds (trodAll_length hA)
  refine ⟨ds, [], _, [], p, [], hW', ?_, ?_, ?_, hb.frame _, fun h => by cases h⟩
  · rw [e1, hrt]
    exact trodAll_mk1 (shut_bool Tryz.underlying4 _)
  · rw [e1]
    exact trodAll_stays laidOut hb hread hA hlt
  · rw [e1, hvars]
    rfl
end Go.Proofs.YtpmppndhfljcpaaGreatDoor
