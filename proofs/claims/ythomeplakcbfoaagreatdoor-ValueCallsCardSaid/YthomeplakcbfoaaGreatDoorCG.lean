/-
  Of any name and values Call of both returns one thing.
-/
import Derived.Test.YthomeplakcbfoaaGreatDoorGr
import Derived.Test.YthomeplakcbfoaaGreatDoorGs
import Derived.Test.YthomeplakcbfoaaGreatDoorGn
namespace Go.Proofs.YthomeplakcbfoaaGreatDoor
section
open Go.RowKit

theorem key_no {op : ByteArray} {b : Bs} (h : op.data.toList ≠ b) : (op == (⟨b.toArray⟩ : ByteArray)) = false := by
  obtain ⟨d⟩ := op
  have e : (ByteArray.mk d == (⟨b.toArray⟩ : ByteArray)) = (d == b.toArray) := rfl
  rw [e, beq_eq_false_iff_ne]
  intro e
  exact h (by rw [e])
theorem names_none {op : ByteArray} (h : argsS op = none) : ∀ p ∈ fnTab, op.data.toList ≠ p.1 := by
  intro p hp e
  unfold argsS at h
  rw [Option.map_eq_none_iff, List.find?_eq_none] at h
  exact h p hp (by simpa using e)
theorem none_int {op : ByteArray} (h0 : op.data.toList ≠ [97, 98, 115]) (h1 : op.data.toList ≠ [115, 105, 103, 110]) (h2 : op.data.toList ≠ [116, 111, 95, 116, 101, 120, 116]) : findE ofIntegerMap op = none := by
  have k0 := key_no h0
  have k1 := key_no h1
  have k2 := key_no h2
  unfold findE ofIntegerMap
  simp only [List.find?, k0, k1, k2]
  rfl
theorem none_txt {op : ByteArray} (h0 : op.data.toList ≠ [108, 101, 110, 103, 116, 104]) (h1 : op.data.toList ≠ [117, 112, 112, 101, 114]) (h2 : op.data.toList ≠ [108, 111, 119, 101, 114]) (h3 : op.data.toList ≠ [116, 111, 95, 105, 110, 116]) : findE ofTextMap op = none := by
  have k0 := key_no h0
  have k1 := key_no h1
  have k2 := key_no h2
  have k3 := key_no h3
  unfold findE ofTextMap
  simp only [List.find?, k0, k1, k2, k3]
  rfl
theorem none_two {op : ByteArray} (h0 : op.data.toList ≠ [110, 118, 108]) (h1 : op.data.toList ≠ [110, 117, 108, 108, 105, 102]) (h2 : op.data.toList ≠ [108, 101, 97, 115, 116]) (h3 : op.data.toList ≠ [103, 114, 101, 97, 116, 101, 115, 116]) : noTwo op := by
  intro a b c d
  have k0 := key_no h0
  have k1 := key_no h1
  have k2 := key_no h2
  have k3 := key_no h3
  unfold findE
  simp only [List.find?, k0, k1, k2, k3]
  rfl
/-- What the reference and the program say of kinds. -/
theorem fitOne (d : Int) (hd : d ≠ 0) (v : Va) : fitsW [d] (knd [v]) 0 = if fitsL [v] 0 [d] = true then 0 else 16 := by
  have hb : (d == 0) = false := by simpa using hd
  unfold fitsL knd
  rw [hb]
  simp only [List.getD_cons_zero, fitsL, List.map_cons, List.map_nil, fitsW, hb, Bool.not_false, Bool.true_and, Bool.false_and, Bool.or_false]
  cases q : v.k == 0
  · cases q2 : d == v.k
    · have h1 : oneK d [v] = false := by simp [oneK, q, hb]; intro e; rw [e] at q2; simp at q2
      simp [h1]
    · have h1 : oneK d [v] = true := by simp [oneK, q, hb]; exact (by simpa using q2 : d = v.k).symm
      simp [h1]
  · have h1 : oneK d [v] = true := by simp [oneK, q]
    simp [h1]
theorem fitTwo (p q : Va) : fitsW [0, 0] (knd [p, q]) 0 = if fitsL [p, q] 0 [0, 0] = true then 0 else 16 := by
  have e : fitsL [p, q] 0 [0, 0] = oneK 0 [p, q] := rfl
  rw [e]
  unfold knd
  simp only [List.map_cons, List.map_nil, fitsW, oneK]
  by_cases h1 : p.k = 0
  · by_cases h2 : q.k = 0 <;> simp [h1, h2]
  · by_cases h2 : q.k = 0
    · simp [h1, h2]
    · by_cases h3 : p.k = q.k
      · simp [h2, h3]
      · have h3' : ¬ q.k = p.k := fun e => h3 e.symm
        simp [h1, h2, h3, h3']
theorem fitThree (u v z : Va) : fitsW [2, 1, 1] (knd [u, v, z]) 0 = if fitsL [u, v, z] 0 [2, 1, 1] = true then 0 else 16 := by
  have key : ∀ (d : Int) (x : Va), d ≠ 0 → oneK d [x] = ((x.k == 0) || (d == x.k)) := by
    intro d x hd
    have hb : (d == 0) = false := by simpa using hd
    simp only [oneK, hb]
    cases q : x.k == 0
    · cases q2 : d == x.k
      · simp
        intro e
        rw [e] at q2
        simp at q2
      · simp at q2
        simp [q2]
    · simp
  unfold knd
  simp only [List.map_cons, List.map_nil, fitsW, fitsL, List.getD_cons_zero, List.getD_cons_succ, key 2 _ (by decide), key 1 _ (by decide), show ((2 : Int) == 0) = false from rfl, show ((1 : Int) == 0) = false from rfl]
  cases h1 : u.k == 0 <;> cases h2 : v.k == 0 <;> cases h3 : z.k == 0 <;> cases h4 : (2 : Int) == u.k <;> cases h5 : (1 : Int) == v.k <;> cases h6 : (1 : Int) == z.k <;> simp
theorem knd_len (l : List Va) : (knd l).length = l.length := by unfold knd; rw [List.length_map]
/-- Call of both returns one thing, where the function of the name is known. -/
def CallBoth (op : ByteArray) (l : List Va) : Prop := ∃ r : Va × Int,
  (∀ (A : Option Addr) (c : Nat) (w : World), Env w → Sl w A l → Calls Tryz.prog 8 #[.string op, .slice A l.length c] w fun e w' => e = .returned (two r) ∧ Below w.heap.size w w') ∧
  (∀ (A : Option Addr) (c : Nat) (w : World), Sl w A l → Calls Tryz.prog 9 #[.string op, .slice A l.length c] w fun e w' => e = .returned (two r) ∧ Below w.heap.size w w')
theorem both_fn (op : ByteArray) {ds : List Int} {sn : Bool} {sp : List Va → Va × Int} (hf : ∀ x, Calls Tryz.prog 39 #[.string op] x (RetF ds sn sp x)) (ho : argsS op = some ds) (hfw : ∀ l : List Va, l.length = ds.length → fitsW ds (knd l) 0 = if fitsL l 0 ds = true then 0 else 16)
    (hnn : sn = false → (op.toList == [110, 118, 108]) = false ∧ (op.toList == [110, 117, 108, 108, 105, 102]) = false)
    (l : List Va) (hl : l.length ≤ maxLen) (hs : allOk l = true → l.length ≤ 1000) (hz : ∀ v ∈ l, v.s.size ≤ maxLen)
    (hr : Good ds sn l → fitsR op (knd l) = 0 → l.length ≤ 1000000 → ∀ (A : Option Addr) (c : Nat) (w : World), Sl w A l → Calls Tryz.prog 9 #[.string op, .slice A l.length c] w fun e w' => e = .returned (two (sp l)) ∧ Below w.heap.size w w') : CallBoth op l := by
  cases hok : allOk l with
  | false => exact ⟨(nulV, 2), fun A c w _ h => call_bad op A c l w hl h hok, fun A c w h => refCall_bad op A c l w hl hz h hok⟩
  | true =>
    have hl1 : l.length ≤ 1000000 := by have := hs hok; omega
    by_cases hlen : l.length = ds.length
    · have hfr : fitsR op (knd l) = if fitsL l 0 ds = true then 0 else 16 := by
        rw [← hfw l hlen]
        unfold fitsR
        rw [ho]
        exact if_pos (by rw [knd_len]; exact hlen.symm)
      cases hfit : fitsL l 0 ds with
      | false =>
        have e : fitsR op (knd l) = 16 := by rw [hfr, hfit]; rfl
        refine ⟨(nulV, 16), fun A c w _ h => call_type op hf A c l w hl h hok hlen hfit, fun A c w h => ?_⟩
        have := refCall_fit op ds ho A c l w hl1 hz h hok (by rw [e]; decide)
        rw [e] at this
        exact this
      | true =>
        have e : fitsR op (knd l) = 0 := by rw [hfr, hfit]; rfl
        cases sn with
        | true =>
          refine ⟨sp l, fun A c w E h => call_doN op hf A c l w hl h E hok hlen hfit, fun A c w h => ?_⟩
          exact hr ⟨hlen, hok, hfit, fun q => by cases q⟩ e hl1 A c w h
        | false =>
          cases hn : hasNull l with
          | true => exact ⟨(nulV, 0), fun A c w _ h => call_null op hf A c l w hl h hok hlen hfit hn, fun A c w h => refCall_null op ds ho A c l w hl1 hz h hok e (hnn rfl).1 (hnn rfl).2 hn⟩
          | false =>
            refine ⟨sp l, fun A c w E h => call_do op hf A c l w hl h E hok hlen hfit hn, fun A c w h => ?_⟩
            exact hr ⟨hlen, hok, hfit, fun _ => hn⟩ e hl1 A c w h
    · have e : fitsR op (knd l) = 17 := by
        unfold fitsR
        rw [ho]
        exact if_neg (by rw [knd_len]; exact fun q => hlen q.symm)
      refine ⟨(nulV, 17), fun A c w _ h => call_count op hf A c l w hl h hok hlen, fun A c w h => ?_⟩
      have := refCall_fit op ds ho A c l w hl1 hz h hok (by rw [e]; decide)
      rw [e] at this
      exact this
theorem sgn_eq (n : Int) : Lib.compareInt n 0 = min (max n (-1)) 1 := by unfold Lib.compareInt; repeat' split <;> omega
theorem ext_nil (s : ByteArray) (a : Nat) : s.extract a a = ⟨#[]⟩ := by
  have : (s.extract a a).data = #[] := by simp
  cases h : s.extract a a
  rw [h] at this
  simp only at this
  rw [this]
theorem part_sub (s : ByteArray) (f m : Int) (hs : s.size ≤ 200) : partR s f m = subT s f m := by
  unfold partR subT
  split
  · rename_i h
    have : subM s f m = 0 := by unfold subM subF; omega
    rw [this, Nat.add_zero, ext_nil]
  · rename_i h
    congr 1
    · unfold subF; omega
    · unfold subM subF; omega
/-- One function of one value. -/
theorem both_one (op : ByteArray) (d : Int) (hd : d ≠ 0) {sp : List Va → Va × Int} (hf : ∀ x, Calls Tryz.prog 39 #[.string op] x (RetF [d] false sp x)) (ho : argsS op = some [d])
    (hnn : (op.toList == [110, 118, 108]) = false ∧ (op.toList == [110, 117, 108, 108, 105, 102]) = false)
    (hc : ∀ (v : Va) (A : Option Addr) (c : Nat) (x : World), v.k = d → v.ok = true → Sl x A [v] → Calls Tryz.prog 43 #[.string op, .slice A 1 c] x fun e w' => e = .returned (two (sp [v])) ∧ Below x.heap.size x w')
    (l : List Va) (hl : l.length ≤ maxLen) (hs : allOk l = true → l.length ≤ 1000) (hz : ∀ v ∈ l, v.s.size ≤ maxLen) : CallBoth op l := by
  refine both_fn op hf ho ?_ (fun _ => hnn) l hl hs hz ?_
  · intro l hlen
    match l, hlen with
    | [v], _ => exact fitOne d hd v
  · intro hg e hl1 A c w h
    have hg2 := hg
    obtain ⟨v, rfl, hk, hv⟩ := good1 hd hg2
    exact refCall_called op [d] ho A c [v] w hl1 hz h hg.2.1 e hnn.1 hnn.2 (hg.2.2.2 rfl) _ fun x hx => hc v A c x hk hv hx
/-- A function of two values that do not differ in kind. -/
theorem both_two (op : ByteArray) (d : Int) (hf : ∀ x, Calls Tryz.prog 39 #[.string op] x (RetF [0, 0] false (spO d) x)) (ho : argsS op = some [0, 0])
    (hnn : (op.toList == [110, 118, 108]) = false ∧ (op.toList == [110, 117, 108, 108, 105, 102]) = false)
    (hc : ∀ (p q : Va) (A : Option Addr) (c : Nat) (x : World), p.ok = true → q.ok = true → p.k ≠ 0 → q.k = p.k → Sl x A [p, q] → Calls Tryz.prog 43 #[.string op, .slice A 2 c] x fun e w' => e = .returned (two (spO d [p, q])) ∧ Below x.heap.size x w')
    (l : List Va) (hl : l.length ≤ maxLen) (hs : allOk l = true → l.length ≤ 1000) (hz : ∀ v ∈ l, v.s.size ≤ maxLen) : CallBoth op l := by
  refine both_fn op hf ho ?_ (fun _ => hnn) l hl hs hz ?_
  · intro l hlen
    match l, hlen with
    | [p, q], _ => exact fitTwo p q
  · intro hg e hl1 A c w h
    have hg2 := hg
    obtain ⟨p, q, rfl, h1, h2, h3, h4⟩ := good2 hg2
    exact refCall_called op [0, 0] ho A c [p, q] w hl1 hz h hg.2.1 e hnn.1 hnn.2 (hg.2.2.2 rfl) _ fun x hx => hc p q A c x h1 h2 h3 h4 hx
theorem out_two (d : Int) {p q : Va} (h1 : p.k ≠ 0) (h2 : q.k ≠ 0) : outF d nulV [p, q] = if cm q p = d then q else p := by
  rw [outF_fold, List.foldl_cons, List.foldl_cons, List.foldl_nil]
  have e : best d nulV p = p := by
    unfold best takesO
    have : (p.k == 0) = false := by simpa using h1
    rw [this]
    rfl
  rw [e, best_non d h1 h2]
theorem least_eq {p q : Va} (h1 : p.ok = true) (h2 : q.ok = true) (h3 : p.k ≠ 0) (h4 : q.k = p.k) : ((if lessR p q ≤ 0 then p else q : Va), (0 : Int)) = spO (-1) [p, q] := by
  unfold spO
  rw [out_two (-1) h3 (by rw [h4]; exact h3), less_cm h1 h2 h4.symm h3, cm_anti (x := p) (y := q) h4.symm]
  have := cm_bd q p
  congr 1
  by_cases q1 : cm q p = -1
  · rw [if_pos q1, if_neg (by omega)]
  · rw [if_neg q1, if_pos (by omega)]
theorem greatest_eq {p q : Va} (h1 : p.ok = true) (h2 : q.ok = true) (h3 : p.k ≠ 0) (h4 : q.k = p.k) : ((if lessR p q ≤ 0 then q else p : Va), (0 : Int)) = spO 1 [p, q] := by
  unfold spO
  have hzero := cm_zero (x := q) (y := p) h2 h1 h4 (by rw [h4]; exact h3)
  rw [out_two 1 h3 (by rw [h4]; exact h3), less_cm h1 h2 h4.symm h3, cm_anti (x := p) (y := q) h4.symm]
  have := cm_bd q p
  congr 1
  by_cases q1 : cm q p = 1
  · rw [if_pos q1, if_pos (by omega)]
  · rw [if_neg q1]
    by_cases q2 : cm q p = 0
    · rw [hzero q2]; split <;> rfl
    · rw [if_neg (by omega)]
abbrev nnF (op : ByteArray) : Prop := (op.toList == [110, 118, 108]) = false ∧ (op.toList == [110, 117, 108, 108, 105, 102]) = false
theorem nn_of {b : Bs} (h1 : (b == [110, 118, 108]) = false) (h2 : (b == [110, 117, 108, 108, 105, 102]) = false) : nnF ⟨b.toArray⟩ := by
  exact ⟨by rw [toList_dat]; exact h1, by rw [toList_dat]; exact h2⟩
section
variable (l : List Va) (hl : l.length ≤ maxLen) (hs : allOk l = true → l.length ≤ 1000) (hz : ∀ v ∈ l, v.s.size ≤ maxLen)
include hl hs hz
theorem both_abs : CallBoth ⟨#[97, 98, 115]⟩ l :=
  both_one _ 1 (by decide) (functionOf_int _ _ _ fnN1 rfl) rfl (nn_of (b := [97, 98, 115]) rfl rfl) (fun v A c x hk hv h => called_abs v A c x h (ok_small hk hv)) l hl hs hz
theorem both_sign : CallBoth ⟨#[115, 105, 103, 110]⟩ l :=
  both_one _ 1 (by decide) (functionOf_int _ _ _ fnN2 rfl) rfl (nn_of (b := [115, 105, 103, 110]) rfl rfl) (fun v A c x _ _ h => by
    have e : spN (fun n => intV (Lib.compareInt n 0)) [v] = (intV (min (max v.n (-1)) 1), 0) := by show (intV (Lib.compareInt v.n 0), (0 : Int)) = _; rw [sgn_eq]
    rw [e]
    exact called_sign v A c x h) l hl hs hz
theorem both_to_text : CallBoth ⟨#[116, 111, 95, 116, 101, 120, 116]⟩ l :=
  both_one _ 1 (by decide) (functionOf_int _ _ _ fnN3 rfl) rfl (nn_of (b := [116, 111, 95, 116, 101, 120, 116]) rfl rfl) (fun v A c x hk hv h => called_to_text v A c x h (ok_small hk hv)) l hl hs hz
theorem both_length : CallBoth ⟨#[108, 101, 110, 103, 116, 104]⟩ l :=
  both_one _ 2 (by decide) (functionOf_txt _ _ _ fnS1 rfl rfl) rfl (nn_of (b := [108, 101, 110, 103, 116, 104]) rfl rfl) (fun v A c x _ _ h => called_length v A c x h) l hl hs hz
theorem both_upper : CallBoth ⟨#[117, 112, 112, 101, 114]⟩ l :=
  both_one _ 2 (by decide) (functionOf_txt _ _ _ fnS2 rfl rfl) rfl (nn_of (b := [117, 112, 112, 101, 114]) rfl rfl) (fun v A c x hk hv h => called_upper v A c x h (okText_size _ (ok_text hk hv))) l hl hs hz
theorem both_lower : CallBoth ⟨#[108, 111, 119, 101, 114]⟩ l :=
  both_one _ 2 (by decide) (functionOf_txt _ _ _ fnS3 rfl rfl) rfl (nn_of (b := [108, 111, 119, 101, 114]) rfl rfl) (fun v A c x hk hv h => called_lower v A c x h (okText_size _ (ok_text hk hv))) l hl hs hz
theorem both_to_int : CallBoth ⟨#[116, 111, 95, 105, 110, 116]⟩ l :=
  both_one _ 2 (by decide) (functionOf_txt _ _ _ fnS4 rfl rfl) rfl (nn_of (b := [116, 111, 95, 105, 110, 116]) rfl rfl) (fun v A c x hk hv h => called_to_int v A c x h (okText_size _ (ok_text hk hv))) l hl hs hz
theorem both_least : CallBoth ⟨#[108, 101, 97, 115, 116]⟩ l :=
  both_two _ (-1) (functionOf_outer _ _ functionOf_least) rfl (nn_of (b := [108, 101, 97, 115, 116]) rfl rfl) (fun p q A c x h1 h2 h3 h4 h => by
    rw [← least_eq h1 h2 h3 h4]
    exact called_least p q A c x h) l hl hs hz
theorem both_greatest : CallBoth ⟨#[103, 114, 101, 97, 116, 101, 115, 116]⟩ l :=
  both_two _ 1 (functionOf_outer _ _ functionOf_greatest) rfl (nn_of (b := [103, 114, 101, 97, 116, 101, 115, 116]) rfl rfl) (fun p q A c x h1 h2 h3 h4 h => by
    rw [← greatest_eq h1 h2 h3 h4]
    exact called_greatest p q A c x h) l hl hs hz
theorem both_substr : CallBoth ⟨#[115, 117, 98, 115, 116, 114]⟩ l := by
  refine both_fn _ functionOf_sub rfl ?_ (fun _ => nn_of (b := [115, 117, 98, 115, 116, 114]) rfl rfl) l hl hs hz ?_
  · intro l hlen
    match l, hlen with
    | [u, v, z], _ => exact fitThree u v z
  · intro hg e hl1 A c w h
    have hg2 := hg
    obtain ⟨u, v, z, rfl, o0, o1, o2, k0, k1, k2⟩ := good3 hg2
    have hsz := okText_size _ (ok_text k0 o0)
    have hnn : nnF ⟨#[115, 117, 98, 115, 116, 114]⟩ := nn_of (b := [115, 117, 98, 115, 116, 114]) rfl rfl
    refine refCall_called _ [2, 1, 1] rfl A c [u, v, z] w hl1 hz h hg.2.1 e hnn.1 hnn.2 (hg.2.2.2 rfl) _ fun x hx => ?_
    have e2 : spSub [u, v, z] = (txtV (partR u.s v.n z.n), 0) := by rw [part_sub _ _ _ hsz]; rfl
    rw [e2]
    exact called_substr u v z A c x hx hsz (ok_small k1 o1) (ok_small k2 o2)
theorem both_nvl : CallBoth ⟨#[110, 118, 108]⟩ l := by
  refine both_fn _ (functionOf_nul _ _ _ fnL_nvl rfl rfl (ofTwo_nvl2 _ rfl)) rfl ?_ (fun q => by cases q) l hl hs hz ?_
  · intro l hlen
    match l, hlen with
    | [p, q], _ => exact fitTwo p q
  · intro hg e hl1 A c w h
    have hg2 := hg
    obtain ⟨p, q, rfl⟩ := good2n hg2
    exact refCall_nvl p q _ (by rw [toList_dat]; rfl) [0, 0] rfl A c [p, q] w hl1 hz h hg.2.1 e rfl
theorem both_nullif : CallBoth ⟨#[110, 117, 108, 108, 105, 102]⟩ l := by
  refine both_fn _ (functionOf_nul _ _ _ fnL_nullif rfl rfl (ofTwo_nullif _ rfl)) rfl ?_ (fun q => by cases q) l hl hs hz ?_
  · intro l hlen
    match l, hlen with
    | [p, q], _ => exact fitTwo p q
  · intro hg e hl1 A c w h
    have hg2 := hg
    obtain ⟨p, q, rfl⟩ := good2n hg2
    exact refCall_nullif p q _ (by rw [toList_dat]; rfl) (by rw [toList_dat]; rfl) [0, 0] rfl A c [p, q] w hl1 hz h hg.2.1 e rfl
end
end
end Go.Proofs.YthomeplakcbfoaaGreatDoor
