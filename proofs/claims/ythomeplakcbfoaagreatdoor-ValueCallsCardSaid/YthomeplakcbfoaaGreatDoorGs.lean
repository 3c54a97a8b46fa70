/-
  Contracts of layer 2.
-/
import Derived.Test.YthomeplakcbfoaaGreatDoorSU
import Derived.Test.YthomeplakcbfoaaGreatDoorGm
import Derived.Test.YthomeplakcbfoaaGreatDoorGr
namespace Go.Proofs.YthomeplakcbfoaaGreatDoor
section
open Go.RowKit

theorem OwnV.nil (B : Nat) (x : World) : OwnV B x (.slice none 0 0) [] := World.ownsRow_nil x _ _ _
theorem OwnV.below {B : Nat} {x y : World} {v : Value} {l : List Va} (h : OwnV B x v l) (hb : Below x.heap.size x y) : OwnV B y v l := by
  refine World.ownsRow.kept h (row := none) ⟨hb.os, hb.tape, hb.output, hb.size, fun k hk _ => hb.block k hk⟩ ?_
  cases hv : v.ownBlock with
  | none => exact .inl rfl
  | some b => exact .inr (by simp)
theorem OwnV.lt {B : Nat} {x : World} {v : Value} {l : List Va} (h : OwnV B x v l) : ∀ b, v.ownBlock = some b → B ≤ b ∧ b < x.heap.size := fun b hb => World.ownsRow.lt h b hb
/-- Values are put behind a row. -/
theorem wpList_append_vals {w : World} {ops : Array Oper} {rest : List Oper} {o : Oper} {a : Act} {Q : Exit → Act → World → Prop} (hgd : o.guard = none) (s x : Operand) (ho : o.op = .call { callee := .builtin .append, args := #[s, x], argTypes := #[22, 22] })
    (B : Nat) (v : Value) (l : List Va) (hs : a.eval s = v) (hown : OwnV B w v l) (b m c : Nat) (r : List Va) (hx : a.eval x = .slice (some ⟨b, 0, none⟩) m c) (hm : r.length = m) (hr : Sl w (some ⟨b, 0, none⟩) r) (hn : l.length + r.length ≤ 1000000) (hB : B ≤ w.heap.size)
    (h : ∀ v' w', OwnV B w' v' (l ++ r) → w.grownBy w' v.ownBlock → wpList Tryz.prog ops Q rest (a.put o.dst v') w') : wpList Tryz.prog ops Q (o :: rest) a w := by
  obtain ⟨i0, hi, hz, hsz, hby⟩ := info_parts infoVal
  subst hm
  refine wpList_append_own w hgd s x _ ho B _ i0 _ 3 32 Tryz.underlying22 hi hz hsz hby rfl (by decide) v l.length (vcs l) hs hown ⟨b, 0, none⟩ r.length c (vcs r) hx (vcs_len r) (sl_cells hr) ?_ (by simp only [maxLen]; omega) (by omega) hB ?_
  · intro u hu
    obtain ⟨j, hj, rfl⟩ := List.getElem_of_mem hu
    obtain ⟨i, y, _, hc⟩ := vcs_inv r j _ (List.getElem?_eq_getElem hj)
    rcases hc with ⟨_, e⟩ | ⟨_, e⟩ | ⟨_, e⟩ <;> (rw [e]; rfl)
  · intro v' w' h1 h2 _
    exact h v' w' (by unfold OwnV; rw [List.length_append, vcs_app]; exact h1) h2
theorem refNumber_ (n : Int) (w : World) : Calls Tryz.prog 45 #[.int .i64 n] w fun e w' => e = .returned (two (chkI n)) ∧ Below w.heap.size w w' := by
  have H : Hid (chkI n = if inR n = true then (intV n, 0) else (nulV, 21)) := Lib.hid rfl
  cases hn : inR n
  · rw [hn] at H
    go_enter Tryz.func45, Tryz.ntmps45
    go_wp2_with (first | (go_at_call 76; refine (isInt_ _ _).mono ?_; rintro e y ⟨rfl, rfl⟩; rw [hn]))
    go_returns
    exact ⟨by rw [H.out]; rfl, new1 _ _⟩
  · rw [hn] at H
    go_enter Tryz.func45, Tryz.ntmps45
    go_wp2_with (first
      | (go_at_call 76; refine (isInt_ _ _).mono ?_; rintro e y ⟨rfl, rfl⟩; rw [hn])
      | (go_at_call 25; refine (ref_int _ _).mono ?_; rintro e y ⟨rfl, hb⟩; have K : Hid (K1 w y w.heap.size (.int .i64 0) (.int .i64 0) (.string ⟨#[]⟩)) := Lib.hid (K1.below ⟨new1 w _, B3.new w _ _ _ 27⟩ hb); clear hb; obtain ⟨HB, ⟨r0, r1, r2, g0, g1, g2, rl⟩⟩ := K.out))
    (try simp only [Exit.inBlock, Exit.then])
    exact ret_two rfl rfl K.out.q rfl ⟨by rw [H.out]; rfl, set3 HB _ (Nat.le_refl _) _ _ _⟩
/-- Those that are not null. -/
def fl (l : List Va) : List Va := l.filter fun v => !(v.k == 0)
theorem fl_take (l : List Va) (j : Nat) (h : j < l.length) : fl (l.take (j + 1)) = fl (l.take j) ++ if (l[j].k == 0) = true then [] else [l[j]] := by
  unfold fl
  rw [List.take_succ_eq_append_getElem h, List.filter_append]
  congr 1
  cases q : l[j].k == 0 <;> simp [List.filter, q]
theorem fl_len (l : List Va) : (fl l).length ≤ l.length := List.length_filter_le _ _
/-- Whether a value's kind is the first one's; of a sum: an integer's. -/
def gd (i : Nat) (k : Int) (v : Va) : Bool := (v.k == k) && (!(i == 1) || (v.k == 1))
def totR (S : List Va) : Int := S.foldl (fun n v => n + v.n) 0
def pick (d : Int) (out v : Va) : Va := if lessR v out = d then v else out
def refAg (i : Nat) (l : List Va) : Va × Int := if i = 0 then (intV (fl l).length, 0) else match fl l with
  | [] => (nulV, 0)
  | u :: r => if (u :: r).all (gd i u.k) = true then (if i = 1 then chkI (totR (u :: r)) else ((u :: r).foldl (pick (sideS i)) u, 0)) else (nulV, 16)
theorem KL.both {w y x : World} {p : Nat × Value × Value × Value} {l : List (Nat × Value × Value × Value)} (h : KL w x l) (k : KL y x [p]) : KL w x (p :: l) := ⟨h.HB, k.q.1, h.q⟩
theorem totR_app (a b : List Va) : totR (a ++ b) = totR a + totR b := by
  unfold totR
  have key : ∀ (b : List Va) (z : Int), b.foldl (fun n v => n + v.n) z = z + b.foldl (fun n v => n + v.n) 0 := by
    intro b
    induction b with
    | nil => intro z; simp
    | cons v r ih => intro z; rw [List.foldl_cons, List.foldl_cons, ih (z + v.n), ih (0 + v.n)]; omega
  rw [List.foldl_append, key]
theorem totR_take (l : List Va) (j : Nat) (h : j < l.length) : totR (l.take (j + 1)) = totR (l.take j) + l[j].n := by
  rw [List.take_succ_eq_append_getElem h, totR_app]
  congr 1
  unfold totR
  simp
theorem totR_bd : ∀ (l : List Va), (∀ v ∈ l, Small v.n) → -1099511627776 * (l.length : Int) ≤ totR l ∧ totR l ≤ 1099511627776 * (l.length : Int)
  | [], _ => by simp [totR]
  | v :: r, h => by
    have e : totR (v :: r) = v.n + totR r := by
      have := totR_app [v] r
      rw [List.singleton_append] at this
      rw [this]
      congr 1
      unfold totR
      simp
    have h1 := totR_bd r fun u hu => h u (List.mem_cons_of_mem _ hu)
    have h2 := h v (List.mem_cons_self ..)
    unfold Small at h2
    rw [e, List.length_cons]
    omega
theorem lessR_three (a b : Va) : lessR a b = -1 ∨ lessR a b = 0 ∨ lessR a b = 1 := by
  unfold lessR
  split
  · exact .inl rfl
  · split
    · exact .inr (.inl rfl)
    · exact .inr (.inr rfl)
theorem refAg_nil {i : Nat} (hi : i ≠ 0) {l : List Va} (h : fl l = []) : refAg i l = (nulV, 0) := by
  unfold refAg
  rw [if_neg hi, h]
theorem refAg_bad {i : Nat} (hi : i ≠ 0) {l r : List Va} {u : Va} (h : fl l = u :: r) (hb : (u :: r).all (gd i u.k) = false) : refAg i l = (nulV, 16) := by
  unfold refAg
  rw [if_neg hi, h]
  exact if_neg (by rw [hb]; decide)
theorem refAg_sum {l r : List Va} {u : Va} (h : fl l = u :: r) (hb : (u :: r).all (gd 1 u.k) = true) : refAg 1 l = chkI (totR (u :: r)) := by
  unfold refAg
  rw [if_neg (by decide), h]
  exact (if_pos hb).trans (if_pos rfl)
theorem refAg_out {i : Nat} (hi : i ≠ 0) (h1 : i ≠ 1) {l r : List Va} {u : Va} (h : fl l = u :: r) (hb : (u :: r).all (gd i u.k) = true) : refAg i l = ((u :: r).foldl (pick (sideS i)) u, 0) := by
  unfold refAg
  rw [if_neg hi, h]
  exact (if_pos hb).trans (if_neg h1)
set_option maxRecDepth 100000 in
theorem refAgg_badArg (op : ByteArray) (A : Option Addr) (c : Nat) (l : List Va) (w : World) (hl : l.length ≤ maxLen) (hz : ∀ v ∈ l, v.s.size ≤ maxLen) (h : Sl w A l) (hok : allOk l = false) :
    Calls Tryz.prog 11 #[.string op, .slice A l.length c] w fun e w' => e = .returned (two (nulV, 2)) ∧ Below w.heap.size w w' := by
  go_enter Tryz.func11, Tryz.ntmps11
  go_wp2_with (first
    | (go_at_call 20; refine (ref_all A c l _ hl hz (h.below (new1 w _))).mono ?_; rintro e y ⟨rfl, hb⟩; rw [hok]; have K := Lib.hid (KL.below ((KL.refl w).push (.int .i64 0) (.int .i64 0) (.string ⟨#[]⟩) 27) hb); clear hb; obtain ⟨HB, ⟨r0, r1, r2, g0, g1, g2, rl⟩, _⟩ := K.out))
  (try simp only [Exit.inBlock, Exit.then])
  exact ret_two rfl rfl K.out.q.1 rfl ⟨rfl, set3 HB _ (Nat.le_refl _) _ _ _⟩
set_option maxRecDepth 100000 in
theorem refAgg_none (op : ByteArray) (ho : hasL agNames op.data.toList = false) (A : Option Addr) (c : Nat) (l : List Va) (w : World) (hl : l.length ≤ maxLen) (hz : ∀ v ∈ l, v.s.size ≤ maxLen) (h : Sl w A l) (hok : allOk l = true) :
    Calls Tryz.prog 11 #[.string op, .slice A l.length c] w fun e w' => e = .returned (two (nulV, 13)) ∧ Below w.heap.size w w' := by
  have HI := Lib.hid fun x => refIsAgg_ op x
  rw [ho] at HI
  clear ho
  go_enter Tryz.func11, Tryz.ntmps11
  go_wp2_with (first
    | (go_at_call 20; refine (ref_all A c l _ hl hz (h.below (new1 w _))).mono ?_; rintro e y ⟨rfl, hb⟩; rw [hok]; have K := Lib.hid (KL.below ((KL.refl w).push (.int .i64 0) (.int .i64 0) (.string ⟨#[]⟩) 27) hb); clear hb; obtain ⟨HB, ⟨r0, r1, r2, g0, g1, g2, rl⟩, _⟩ := K.out)
    | (go_at_call 15; refine (HI.out _).mono ?_; rintro e y ⟨rfl, hb⟩; have K' := Lib.hid (KL.below K.out hb); clear hb K HB r0 r1 r2 g0 g1 g2 rl; have K := K'; clear K'; obtain ⟨HB, ⟨r0, r1, r2, g0, g1, g2, rl⟩, _⟩ := K.out))
  (try simp only [Exit.inBlock, Exit.then])
  exact ret_two rfl rfl K.out.q.1 rfl ⟨rfl, set3 HB _ (Nat.le_refl _) _ _ _⟩
set_option maxRecDepth 100000 in
set_option maxHeartbeats 4000000 in
theorem refAgg_count (A : Option Addr) (c : Nat) (l : List Va) (w : World) (hl : l.length ≤ 1000) (hz : ∀ v ∈ l, v.s.size ≤ maxLen) (h : Sl w A l) (hok : allOk l = true) :
    Calls Tryz.prog 11 #[.string ⟨#[99, 111, 117, 110, 116]⟩, .slice A l.length c] w fun e w' => e = .returned (two (refAg 0 l)) ∧ Below w.heap.size w w' := by
  have hT : ∀ l : Bs, ((⟨#[99, 111, 117, 110, 116]⟩ : ByteArray).toList == l) = (([99, 111, 117, 110, 116] : Bs) == l) := fun l => by rw [toList_dat]
  have t0 := hT [99, 111, 117, 110, 116]
  have t1 := hT [115, 117, 109]
  have t2 := hT [109, 105, 110]
  have t3 := hT [109, 97, 120]
  clear hT
  have hlm : l.length ≤ maxLen := by simp only [maxLen]; omega
  have HI : Hid (∀ x, Calls Tryz.prog 15 #[.string ⟨#[99, 111, 117, 110, 116]⟩] x fun e w' => e = .returned (.bool true) ∧ Below x.heap.size x w') := Lib.hid fun x => refIsAgg_ ⟨#[99, 111, 117, 110, 116]⟩ x
  go_enter Tryz.func11, Tryz.ntmps11
  go_wp2_with (first
    | (go_at_call 20; refine (ref_all A c l _ hlm hz (h.below (new1 w _))).mono ?_; rintro e y ⟨rfl, hb⟩; rw [hok]; have K := Lib.hid (KL.below ((KL.refl w).push (.int .i64 0) (.int .i64 0) (.string ⟨#[]⟩) 27) hb); clear hb; obtain ⟨HB, ⟨r0, r1, r2, g0, g1, g2, rl⟩, _⟩ := K.out)
    | (go_at_call 15; refine (HI.out _).mono ?_; rintro e y ⟨rfl, hb⟩; have K' := Lib.hid (KL.below K.out hb); clear hb K HB r0 r1 r2 g0 g1 g2 rl; have K := K'; clear K'; obtain ⟨HB, ⟨r0, r1, r2, g0, g1, g2, rl⟩, _⟩ := K.out))
  go_loopw [6, 28] (fun sv i x => ∃ j : Nat, j ≤ l.length ∧ i = .int .i64 j ∧ OwnV (w.heap.size + 1) x sv (fl (l.take j)) ∧ KL w x [(w.heap.size, .int .i64 0, .int .i64 0, .string ⟨#[]⟩)]) (fun sv i x => l.length - (intOf i).toNat)
  case atStart => exact ⟨0, Nat.zero_le _, rfl, OwnV.nil _ _, K.out⟩
  case round =>
    clear K HB r0 r1 r2 g0 g1 g2 rl
    obtain ⟨j, hj, rfl, hO, hK⟩ := hrel
    have HO := Lib.hid hO
    have K := Lib.hid hK
    clear hO hK
    by_cases hlt : j < l.length
    · have HT := Lib.hid (fl_take l j hlt)
      have hfl : (fl (l.take j)).length ≤ 1000 := by have := fl_len (l.take j); rw [List.length_take] at this; omega
      obtain ⟨b, off, rfl, hb, c0, c1, c2⟩ := (h.below K.out.HB) j _ (List.getElem?_eq_getElem hlt)
      generalize l[j] = v at *
      generalize fl (l.take j) = S at *
      have hsz := K.out.q.1.lt
      obtain ⟨k, n, s⟩ := v
      simp only at c0 c1 c2
      cases q : k == 0
      · simp only [q] at HT
        go_wp2_with (first
          | (at_builtin; refine wpList_append_vals rfl (.tmp 35) (.tmp 37) rfl (w.heap.size + 1) _ S rfl (HO.out.below (new2 _ _ _)) (wr.heap.size + 1) 1 1 [⟨k, n, s⟩] rfl rfl (sl1' _ _ (sz1 _ _) _ _ _) (by simp; omega) (by simp; omega) ?_))
        intro v1 w1 ho1 hg1
        have HO1 := Lib.hid ho1
        have HU6 : Hid (∀ b, Value.ownBlock _ = some b → w.heap.size + 1 ≤ b ∧ b < wr.heap.size) := Lib.hid HO.out.lt
        have K1 := Lib.hid ((K.out.below (new2 wr (.cells #[.int .i64 k, .int .i64 n, .string s] 27) (.cells #[.int .i64 k, .int .i64 n, .string s] 27))).grownOwn hg1 (fun k hk => by have h1 := HU6.out k hk; omega) (fun k hk q hq => by
          have h1 := HU6.out k hk
          simp only [List.mem_cons, List.not_mem_nil, or_false] at hq
          rcases hq with rfl | rfl <;> (dsimp only; omega)))
        clear ho1 hg1
        go_wp2_with fail
        go_roundw
        case rel => exact ⟨j + 1, by omega, by go_num, by rw [HT.out]; exact HO1.out, K1.out⟩
        case measure => simp [intOf]; omega
      · simp only [q] at HT
        have K1 := Lib.hid (K.out.push (.int .i64 k) (.int .i64 n) (.string s) 27)
        have HO1 := Lib.hid (HO.out.below (new1 wr (.cells #[.int .i64 k, .int .i64 n, .string s] 27)))
        go_wp2_with fail
        go_roundw
        case rel => exact ⟨j + 1, by omega, by go_num, by rw [HT.out]; simp only [if_true, List.append_nil]; exact HO1.out, K1.out.tail⟩
        case measure => simp [intOf]; omega
    · obtain rfl : j = l.length := by omega
      rw [List.take_length] at HO
      obtain ⟨B, cB, rfl, hs⟩ := HO.out.sl
      obtain ⟨HB, ⟨r0, r1, r2, g0, g1, g2, rl⟩, _⟩ := K.out
      go_wp2_with (first
        | (go_at_call 25; refine (ref_int _ _).mono ?_; rintro e y ⟨rfl, hb2⟩; have K' := Lib.hid (KL.below K.out hb2); clear hb2 K HB r0 r1 r2 g0 g1 g2 rl; have K := K'; clear K'; obtain ⟨HB, ⟨r0, r1, r2, g0, g1, g2, rl⟩, _⟩ := K.out))
      (try simp only [Exit.inBlock, Exit.then])
      exact ret_two rfl rfl K.out.q.1 rfl ⟨rfl, set3 HB _ (Nat.le_refl _) _ _ _⟩
set_option maxRecDepth 100000 in
set_option maxHeartbeats 4000000 in
theorem refAgg_empty1 (A : Option Addr) (c : Nat) (l : List Va) (w : World) (hl : l.length ≤ 1000) (hz : ∀ v ∈ l, v.s.size ≤ maxLen) (h : Sl w A l) (hok : allOk l = true) (hf : fl l = []) :
    Calls Tryz.prog 11 #[.string ⟨#[115, 117, 109]⟩, .slice A l.length c] w fun e w' => e = .returned (two (refAg 1 l)) ∧ Below w.heap.size w w' := by
  have hT : ∀ l : Bs, ((⟨#[115, 117, 109]⟩ : ByteArray).toList == l) = (([115, 117, 109] : Bs) == l) := fun l => by rw [toList_dat]
  have t0 := hT [99, 111, 117, 110, 116]
  have t1 := hT [115, 117, 109]
  have t2 := hT [109, 105, 110]
  have t3 := hT [109, 97, 120]
  clear hT
  have hlm : l.length ≤ maxLen := by simp only [maxLen]; omega
  have HI : Hid (∀ x, Calls Tryz.prog 15 #[.string ⟨#[115, 117, 109]⟩] x fun e w' => e = .returned (.bool true) ∧ Below x.heap.size x w') := Lib.hid fun x => refIsAgg_ ⟨#[115, 117, 109]⟩ x
  have HF := Lib.hid hf
  clear hf
  go_enter Tryz.func11, Tryz.ntmps11
  go_wp2_with (first
    | (go_at_call 20; refine (ref_all A c l _ hlm hz (h.below (new1 w _))).mono ?_; rintro e y ⟨rfl, hb⟩; rw [hok]; have K := Lib.hid (KL.below ((KL.refl w).push (.int .i64 0) (.int .i64 0) (.string ⟨#[]⟩) 27) hb); clear hb; obtain ⟨HB, ⟨r0, r1, r2, g0, g1, g2, rl⟩, _⟩ := K.out)
    | (go_at_call 15; refine (HI.out _).mono ?_; rintro e y ⟨rfl, hb⟩; have K' := Lib.hid (KL.below K.out hb); clear hb K HB r0 r1 r2 g0 g1 g2 rl; have K := K'; clear K'; obtain ⟨HB, ⟨r0, r1, r2, g0, g1, g2, rl⟩, _⟩ := K.out))
  go_loopw [6, 28] (fun sv i x => ∃ j : Nat, j ≤ l.length ∧ i = .int .i64 j ∧ OwnV (w.heap.size + 1) x sv (fl (l.take j)) ∧ KL w x [(w.heap.size, .int .i64 0, .int .i64 0, .string ⟨#[]⟩)]) (fun sv i x => l.length - (intOf i).toNat)
  case atStart => exact ⟨0, Nat.zero_le _, rfl, OwnV.nil _ _, K.out⟩
  case round =>
    clear K HB r0 r1 r2 g0 g1 g2 rl
    obtain ⟨j, hj, rfl, hO, hK⟩ := hrel
    have HO := Lib.hid hO
    have K := Lib.hid hK
    clear hO hK
    by_cases hlt : j < l.length
    · have HT := Lib.hid (fl_take l j hlt)
      have hfl : (fl (l.take j)).length ≤ 1000 := by have := fl_len (l.take j); rw [List.length_take] at this; omega
      obtain ⟨b, off, rfl, hb, c0, c1, c2⟩ := (h.below K.out.HB) j _ (List.getElem?_eq_getElem hlt)
      generalize l[j] = v at *
      generalize fl (l.take j) = S at *
      have hsz := K.out.q.1.lt
      obtain ⟨k, n, s⟩ := v
      simp only at c0 c1 c2
      cases q : k == 0
      · simp only [q] at HT
        go_wp2_with (first
          | (at_builtin; refine wpList_append_vals rfl (.tmp 35) (.tmp 37) rfl (w.heap.size + 1) _ S rfl (HO.out.below (new2 _ _ _)) (wr.heap.size + 1) 1 1 [⟨k, n, s⟩] rfl rfl (sl1' _ _ (sz1 _ _) _ _ _) (by simp; omega) (by simp; omega) ?_))
        intro v1 w1 ho1 hg1
        have HO1 := Lib.hid ho1
        have HU6 : Hid (∀ b, Value.ownBlock _ = some b → w.heap.size + 1 ≤ b ∧ b < wr.heap.size) := Lib.hid HO.out.lt
        have K1 := Lib.hid ((K.out.below (new2 wr (.cells #[.int .i64 k, .int .i64 n, .string s] 27) (.cells #[.int .i64 k, .int .i64 n, .string s] 27))).grownOwn hg1 (fun k hk => by have h1 := HU6.out k hk; omega) (fun k hk q hq => by
          have h1 := HU6.out k hk
          simp only [List.mem_cons, List.not_mem_nil, or_false] at hq
          rcases hq with rfl | rfl <;> (dsimp only; omega)))
        clear ho1 hg1
        go_wp2_with fail
        go_roundw
        case rel => exact ⟨j + 1, by omega, by go_num, by rw [HT.out]; exact HO1.out, K1.out⟩
        case measure => simp [intOf]; omega
      · simp only [q] at HT
        have K1 := Lib.hid (K.out.push (.int .i64 k) (.int .i64 n) (.string s) 27)
        have HO1 := Lib.hid (HO.out.below (new1 wr (.cells #[.int .i64 k, .int .i64 n, .string s] 27)))
        go_wp2_with fail
        go_roundw
        case rel => exact ⟨j + 1, by omega, by go_num, by rw [HT.out]; simp only [if_true, List.append_nil]; exact HO1.out, K1.out.tail⟩
        case measure => simp [intOf]; omega
    · obtain rfl : j = l.length := by omega
      rw [List.take_length] at HO
      obtain ⟨B, cB, rfl, hs⟩ := HO.out.sl
      obtain ⟨HB, ⟨r0, r1, r2, g0, g1, g2, rl⟩, _⟩ := K.out
      rw [HF.out] at hs
      have hS : (fl l).length = 0 := by rw [HF.out]; rfl
      rw [hS]
      have HR : Hid (refAg 1 l = (nulV, 0)) := Lib.hid (refAg_nil (by decide) HF.out)
      go_wp2_with fail
      go_loopw [47] (fun i x => i = .int .i64 0 ∧ KL w x [(w.heap.size, .int .i64 0, .int .i64 0, .string ⟨#[]⟩)]) (fun i x => 0)
      case atStart => exact ⟨rfl, K.out⟩
      case round =>
        clear K HB r0 r1 r2 g0 g1 g2 rl
        obtain ⟨rfl, hK⟩ := hrel
        have K := Lib.hid hK
        clear hK
        obtain ⟨HB, ⟨r0, r1, r2, g0, g1, g2, rl⟩, _⟩ := K.out
        go_wp2_with (first
          | (go_at_call 24; refine (ref_null _).mono ?_; rintro e y ⟨rfl, hb2⟩; have K' := Lib.hid (KL.below K.out hb2); clear hb2 K HB r0 r1 r2 g0 g1 g2 rl; have K := K'; clear K'; obtain ⟨HB, ⟨r0, r1, r2, g0, g1, g2, rl⟩, _⟩ := K.out))
        (try simp only [Exit.inBlock, Exit.then])
        exact ret_two rfl rfl K.out.q.1 rfl ⟨by rw [HR.out]; rfl, set3 HB _ (Nat.le_refl _) _ _ _⟩
set_option maxRecDepth 100000 in
set_option maxHeartbeats 4000000 in
theorem refAgg_empty2 (A : Option Addr) (c : Nat) (l : List Va) (w : World) (hl : l.length ≤ 1000) (hz : ∀ v ∈ l, v.s.size ≤ maxLen) (h : Sl w A l) (hok : allOk l = true) (hf : fl l = []) :
    Calls Tryz.prog 11 #[.string ⟨#[109, 105, 110]⟩, .slice A l.length c] w fun e w' => e = .returned (two (refAg 2 l)) ∧ Below w.heap.size w w' := by
  have hT : ∀ l : Bs, ((⟨#[109, 105, 110]⟩ : ByteArray).toList == l) = (([109, 105, 110] : Bs) == l) := fun l => by rw [toList_dat]
  have t0 := hT [99, 111, 117, 110, 116]
  have t1 := hT [115, 117, 109]
  have t2 := hT [109, 105, 110]
  have t3 := hT [109, 97, 120]
  clear hT
  have hlm : l.length ≤ maxLen := by simp only [maxLen]; omega
  have HI : Hid (∀ x, Calls Tryz.prog 15 #[.string ⟨#[109, 105, 110]⟩] x fun e w' => e = .returned (.bool true) ∧ Below x.heap.size x w') := Lib.hid fun x => refIsAgg_ ⟨#[109, 105, 110]⟩ x
  have HF := Lib.hid hf
  clear hf
  go_enter Tryz.func11, Tryz.ntmps11
  go_wp2_with (first
    | (go_at_call 20; refine (ref_all A c l _ hlm hz (h.below (new1 w _))).mono ?_; rintro e y ⟨rfl, hb⟩; rw [hok]; have K := Lib.hid (KL.below ((KL.refl w).push (.int .i64 0) (.int .i64 0) (.string ⟨#[]⟩) 27) hb); clear hb; obtain ⟨HB, ⟨r0, r1, r2, g0, g1, g2, rl⟩, _⟩ := K.out)
    | (go_at_call 15; refine (HI.out _).mono ?_; rintro e y ⟨rfl, hb⟩; have K' := Lib.hid (KL.below K.out hb); clear hb K HB r0 r1 r2 g0 g1 g2 rl; have K := K'; clear K'; obtain ⟨HB, ⟨r0, r1, r2, g0, g1, g2, rl⟩, _⟩ := K.out))
  go_loopw [6, 28] (fun sv i x => ∃ j : Nat, j ≤ l.length ∧ i = .int .i64 j ∧ OwnV (w.heap.size + 1) x sv (fl (l.take j)) ∧ KL w x [(w.heap.size, .int .i64 0, .int .i64 0, .string ⟨#[]⟩)]) (fun sv i x => l.length - (intOf i).toNat)
  case atStart => exact ⟨0, Nat.zero_le _, rfl, OwnV.nil _ _, K.out⟩
  case round =>
    clear K HB r0 r1 r2 g0 g1 g2 rl
    obtain ⟨j, hj, rfl, hO, hK⟩ := hrel
    have HO := Lib.hid hO
    have K := Lib.hid hK
    clear hO hK
    by_cases hlt : j < l.length
    · have HT := Lib.hid (fl_take l j hlt)
      have hfl : (fl (l.take j)).length ≤ 1000 := by have := fl_len (l.take j); rw [List.length_take] at this; omega
      obtain ⟨b, off, rfl, hb, c0, c1, c2⟩ := (h.below K.out.HB) j _ (List.getElem?_eq_getElem hlt)
      generalize l[j] = v at *
      generalize fl (l.take j) = S at *
      have hsz := K.out.q.1.lt
      obtain ⟨k, n, s⟩ := v
      simp only at c0 c1 c2
      cases q : k == 0
      · simp only [q] at HT
        go_wp2_with (first
          | (at_builtin; refine wpList_append_vals rfl (.tmp 35) (.tmp 37) rfl (w.heap.size + 1) _ S rfl (HO.out.below (new2 _ _ _)) (wr.heap.size + 1) 1 1 [⟨k, n, s⟩] rfl rfl (sl1' _ _ (sz1 _ _) _ _ _) (by simp; omega) (by simp; omega) ?_))
        intro v1 w1 ho1 hg1
        have HO1 := Lib.hid ho1
        have HU6 : Hid (∀ b, Value.ownBlock _ = some b → w.heap.size + 1 ≤ b ∧ b < wr.heap.size) := Lib.hid HO.out.lt
        have K1 := Lib.hid ((K.out.below (new2 wr (.cells #[.int .i64 k, .int .i64 n, .string s] 27) (.cells #[.int .i64 k, .int .i64 n, .string s] 27))).grownOwn hg1 (fun k hk => by have h1 := HU6.out k hk; omega) (fun k hk q hq => by
          have h1 := HU6.out k hk
          simp only [List.mem_cons, List.not_mem_nil, or_false] at hq
          rcases hq with rfl | rfl <;> (dsimp only; omega)))
        clear ho1 hg1
        go_wp2_with fail
        go_roundw
        case rel => exact ⟨j + 1, by omega, by go_num, by rw [HT.out]; exact HO1.out, K1.out⟩
        case measure => simp [intOf]; omega
      · simp only [q] at HT
        have K1 := Lib.hid (K.out.push (.int .i64 k) (.int .i64 n) (.string s) 27)
        have HO1 := Lib.hid (HO.out.below (new1 wr (.cells #[.int .i64 k, .int .i64 n, .string s] 27)))
        go_wp2_with fail
        go_roundw
        case rel => exact ⟨j + 1, by omega, by go_num, by rw [HT.out]; simp only [if_true, List.append_nil]; exact HO1.out, K1.out.tail⟩
        case measure => simp [intOf]; omega
    · obtain rfl : j = l.length := by omega
      rw [List.take_length] at HO
      obtain ⟨B, cB, rfl, hs⟩ := HO.out.sl
      obtain ⟨HB, ⟨r0, r1, r2, g0, g1, g2, rl⟩, _⟩ := K.out
      rw [HF.out] at hs
      have hS : (fl l).length = 0 := by rw [HF.out]; rfl
      rw [hS]
      have HR : Hid (refAg 2 l = (nulV, 0)) := Lib.hid (refAg_nil (by decide) HF.out)
      go_wp2_with fail
      go_loopw [47] (fun i x => i = .int .i64 0 ∧ KL w x [(w.heap.size, .int .i64 0, .int .i64 0, .string ⟨#[]⟩)]) (fun i x => 0)
      case atStart => exact ⟨rfl, K.out⟩
      case round =>
        clear K HB r0 r1 r2 g0 g1 g2 rl
        obtain ⟨rfl, hK⟩ := hrel
        have K := Lib.hid hK
        clear hK
        obtain ⟨HB, ⟨r0, r1, r2, g0, g1, g2, rl⟩, _⟩ := K.out
        go_wp2_with (first
          | (go_at_call 24; refine (ref_null _).mono ?_; rintro e y ⟨rfl, hb2⟩; have K' := Lib.hid (KL.below K.out hb2); clear hb2 K HB r0 r1 r2 g0 g1 g2 rl; have K := K'; clear K'; obtain ⟨HB, ⟨r0, r1, r2, g0, g1, g2, rl⟩, _⟩ := K.out))
        (try simp only [Exit.inBlock, Exit.then])
        exact ret_two rfl rfl K.out.q.1 rfl ⟨by rw [HR.out]; rfl, set3 HB _ (Nat.le_refl _) _ _ _⟩
set_option maxRecDepth 100000 in
set_option maxHeartbeats 4000000 in
theorem refAgg_empty3 (A : Option Addr) (c : Nat) (l : List Va) (w : World) (hl : l.length ≤ 1000) (hz : ∀ v ∈ l, v.s.size ≤ maxLen) (h : Sl w A l) (hok : allOk l = true) (hf : fl l = []) :
    Calls Tryz.prog 11 #[.string ⟨#[109, 97, 120]⟩, .slice A l.length c] w fun e w' => e = .returned (two (refAg 3 l)) ∧ Below w.heap.size w w' := by
  have hT : ∀ l : Bs, ((⟨#[109, 97, 120]⟩ : ByteArray).toList == l) = (([109, 97, 120] : Bs) == l) := fun l => by rw [toList_dat]
  have t0 := hT [99, 111, 117, 110, 116]
  have t1 := hT [115, 117, 109]
  have t2 := hT [109, 105, 110]
  have t3 := hT [109, 97, 120]
  clear hT
  have hlm : l.length ≤ maxLen := by simp only [maxLen]; omega
  have HI : Hid (∀ x, Calls Tryz.prog 15 #[.string ⟨#[109, 97, 120]⟩] x fun e w' => e = .returned (.bool true) ∧ Below x.heap.size x w') := Lib.hid fun x => refIsAgg_ ⟨#[109, 97, 120]⟩ x
  have HF := Lib.hid hf
  clear hf
  go_enter Tryz.func11, Tryz.ntmps11
  go_wp2_with (first
    | (go_at_call 20; refine (ref_all A c l _ hlm hz (h.below (new1 w _))).mono ?_; rintro e y ⟨rfl, hb⟩; rw [hok]; have K := Lib.hid (KL.below ((KL.refl w).push (.int .i64 0) (.int .i64 0) (.string ⟨#[]⟩) 27) hb); clear hb; obtain ⟨HB, ⟨r0, r1, r2, g0, g1, g2, rl⟩, _⟩ := K.out)
    | (go_at_call 15; refine (HI.out _).mono ?_; rintro e y ⟨rfl, hb⟩; have K' := Lib.hid (KL.below K.out hb); clear hb K HB r0 r1 r2 g0 g1 g2 rl; have K := K'; clear K'; obtain ⟨HB, ⟨r0, r1, r2, g0, g1, g2, rl⟩, _⟩ := K.out))
  go_loopw [6, 28] (fun sv i x => ∃ j : Nat, j ≤ l.length ∧ i = .int .i64 j ∧ OwnV (w.heap.size + 1) x sv (fl (l.take j)) ∧ KL w x [(w.heap.size, .int .i64 0, .int .i64 0, .string ⟨#[]⟩)]) (fun sv i x => l.length - (intOf i).toNat)
  case atStart => exact ⟨0, Nat.zero_le _, rfl, OwnV.nil _ _, K.out⟩
  case round =>
    clear K HB r0 r1 r2 g0 g1 g2 rl
    obtain ⟨j, hj, rfl, hO, hK⟩ := hrel
    have HO := Lib.hid hO
    have K := Lib.hid hK
    clear hO hK
    by_cases hlt : j < l.length
    · have HT := Lib.hid (fl_take l j hlt)
      have hfl : (fl (l.take j)).length ≤ 1000 := by have := fl_len (l.take j); rw [List.length_take] at this; omega
      obtain ⟨b, off, rfl, hb, c0, c1, c2⟩ := (h.below K.out.HB) j _ (List.getElem?_eq_getElem hlt)
      generalize l[j] = v at *
      generalize fl (l.take j) = S at *
      have hsz := K.out.q.1.lt
      obtain ⟨k, n, s⟩ := v
      simp only at c0 c1 c2
      cases q : k == 0
      · simp only [q] at HT
        go_wp2_with (first
          | (at_builtin; refine wpList_append_vals rfl (.tmp 35) (.tmp 37) rfl (w.heap.size + 1) _ S rfl (HO.out.below (new2 _ _ _)) (wr.heap.size + 1) 1 1 [⟨k, n, s⟩] rfl rfl (sl1' _ _ (sz1 _ _) _ _ _) (by simp; omega) (by simp; omega) ?_))
        intro v1 w1 ho1 hg1
        have HO1 := Lib.hid ho1
        have HU6 : Hid (∀ b, Value.ownBlock _ = some b → w.heap.size + 1 ≤ b ∧ b < wr.heap.size) := Lib.hid HO.out.lt
        have K1 := Lib.hid ((K.out.below (new2 wr (.cells #[.int .i64 k, .int .i64 n, .string s] 27) (.cells #[.int .i64 k, .int .i64 n, .string s] 27))).grownOwn hg1 (fun k hk => by have h1 := HU6.out k hk; omega) (fun k hk q hq => by
          have h1 := HU6.out k hk
          simp only [List.mem_cons, List.not_mem_nil, or_false] at hq
          rcases hq with rfl | rfl <;> (dsimp only; omega)))
        clear ho1 hg1
        go_wp2_with fail
        go_roundw
        case rel => exact ⟨j + 1, by omega, by go_num, by rw [HT.out]; exact HO1.out, K1.out⟩
        case measure => simp [intOf]; omega
      · simp only [q] at HT
        have K1 := Lib.hid (K.out.push (.int .i64 k) (.int .i64 n) (.string s) 27)
        have HO1 := Lib.hid (HO.out.below (new1 wr (.cells #[.int .i64 k, .int .i64 n, .string s] 27)))
        go_wp2_with fail
        go_roundw
        case rel => exact ⟨j + 1, by omega, by go_num, by rw [HT.out]; simp only [if_true, List.append_nil]; exact HO1.out, K1.out.tail⟩
        case measure => simp [intOf]; omega
    · obtain rfl : j = l.length := by omega
      rw [List.take_length] at HO
      obtain ⟨B, cB, rfl, hs⟩ := HO.out.sl
      obtain ⟨HB, ⟨r0, r1, r2, g0, g1, g2, rl⟩, _⟩ := K.out
      rw [HF.out] at hs
      have hS : (fl l).length = 0 := by rw [HF.out]; rfl
      rw [hS]
      have HR : Hid (refAg 3 l = (nulV, 0)) := Lib.hid (refAg_nil (by decide) HF.out)
      go_wp2_with fail
      go_loopw [47] (fun i x => i = .int .i64 0 ∧ KL w x [(w.heap.size, .int .i64 0, .int .i64 0, .string ⟨#[]⟩)]) (fun i x => 0)
      case atStart => exact ⟨rfl, K.out⟩
      case round =>
        clear K HB r0 r1 r2 g0 g1 g2 rl
        obtain ⟨rfl, hK⟩ := hrel
        have K := Lib.hid hK
        clear hK
        obtain ⟨HB, ⟨r0, r1, r2, g0, g1, g2, rl⟩, _⟩ := K.out
        go_wp2_with (first
          | (go_at_call 24; refine (ref_null _).mono ?_; rintro e y ⟨rfl, hb2⟩; have K' := Lib.hid (KL.below K.out hb2); clear hb2 K HB r0 r1 r2 g0 g1 g2 rl; have K := K'; clear K'; obtain ⟨HB, ⟨r0, r1, r2, g0, g1, g2, rl⟩, _⟩ := K.out))
        (try simp only [Exit.inBlock, Exit.then])
        exact ret_two rfl rfl K.out.q.1 rfl ⟨by rw [HR.out]; rfl, set3 HB _ (Nat.le_refl _) _ _ _⟩
end
end Go.Proofs.YthomeplakcbfoaaGreatDoor
namespace Go.Proofs.YthomeplakcbfoaaGreatDoor
section
open Go.RowKit

set_option maxRecDepth 100000 in
set_option maxHeartbeats 4000000 in
theorem refAgg_kinds1 (A : Option Addr) (c : Nat) (l : List Va) (w : World) (hl : l.length ≤ 1000) (hz : ∀ v ∈ l, v.s.size ≤ maxLen) (h : Sl w A l) (hok : allOk l = true) (u : Va) (r : List Va) (hu : fl l = u :: r) (hb : (u :: r).all (gd 1 u.k) = false) :
    Calls Tryz.prog 11 #[.string ⟨#[115, 117, 109]⟩, .slice A l.length c] w fun e w' => e = .returned (two (refAg 1 l)) ∧ Below w.heap.size w w' := by
  have hT : ∀ l : Bs, ((⟨#[115, 117, 109]⟩ : ByteArray).toList == l) = (([115, 117, 109] : Bs) == l) := fun l => by rw [toList_dat]
  have t0 := hT [99, 111, 117, 110, 116]
  have t1 := hT [115, 117, 109]
  have t2 := hT [109, 105, 110]
  have t3 := hT [109, 97, 120]
  clear hT
  have hlm : l.length ≤ maxLen := by simp only [maxLen]; omega
  have HI : Hid (∀ x, Calls Tryz.prog 15 #[.string ⟨#[115, 117, 109]⟩] x fun e w' => e = .returned (.bool true) ∧ Below x.heap.size x w') := Lib.hid fun x => refIsAgg_ ⟨#[115, 117, 109]⟩ x
  have HU := Lib.hid hu
  have HBD := Lib.hid hb
  clear hu hb
  have HR : Hid (refAg 1 l = (nulV, 16)) := Lib.hid (refAg_bad (by decide) HU.out HBD.out)
  go_enter Tryz.func11, Tryz.ntmps11
  go_wp2_with (first
    | (go_at_call 20; refine (ref_all A c l _ hlm hz (h.below (new1 w _))).mono ?_; rintro e y ⟨rfl, hb⟩; rw [hok]; have K := Lib.hid (KL.below ((KL.refl w).push (.int .i64 0) (.int .i64 0) (.string ⟨#[]⟩) 27) hb); clear hb; obtain ⟨HB, ⟨r0, r1, r2, g0, g1, g2, rl⟩, _⟩ := K.out)
    | (go_at_call 15; refine (HI.out _).mono ?_; rintro e y ⟨rfl, hb⟩; have K' := Lib.hid (KL.below K.out hb); clear hb K HB r0 r1 r2 g0 g1 g2 rl; have K := K'; clear K'; obtain ⟨HB, ⟨r0, r1, r2, g0, g1, g2, rl⟩, _⟩ := K.out))
  go_loopw [6, 28] (fun sv i x => ∃ j : Nat, j ≤ l.length ∧ i = .int .i64 j ∧ OwnV (w.heap.size + 1) x sv (fl (l.take j)) ∧ KL w x [(w.heap.size, .int .i64 0, .int .i64 0, .string ⟨#[]⟩)]) (fun sv i x => l.length - (intOf i).toNat)
  case atStart => exact ⟨0, Nat.zero_le _, rfl, OwnV.nil _ _, K.out⟩
  case round =>
    clear K HB r0 r1 r2 g0 g1 g2 rl
    obtain ⟨j, hj, rfl, hO, hK⟩ := hrel
    have HO := Lib.hid hO
    have K := Lib.hid hK
    clear hO hK
    by_cases hlt : j < l.length
    · have HT := Lib.hid (fl_take l j hlt)
      have hfl : (fl (l.take j)).length ≤ 1000 := by have := fl_len (l.take j); rw [List.length_take] at this; omega
      obtain ⟨b, off, rfl, hb, c0, c1, c2⟩ := (h.below K.out.HB) j _ (List.getElem?_eq_getElem hlt)
      generalize l[j] = v at *
      generalize fl (l.take j) = S at *
      have hsz := K.out.q.1.lt
      obtain ⟨k, n, s⟩ := v
      simp only at c0 c1 c2
      cases q : k == 0
      · simp only [q] at HT
        go_wp2_with (first
          | (at_builtin; refine wpList_append_vals rfl (.tmp 35) (.tmp 37) rfl (w.heap.size + 1) _ S rfl (HO.out.below (new2 _ _ _)) (wr.heap.size + 1) 1 1 [⟨k, n, s⟩] rfl rfl (sl1' _ _ (sz1 _ _) _ _ _) (by simp; omega) (by simp; omega) ?_))
        intro v1 w1 ho1 hg1
        have HO1 := Lib.hid ho1
        have HU6 : Hid (∀ b, Value.ownBlock _ = some b → w.heap.size + 1 ≤ b ∧ b < wr.heap.size) := Lib.hid HO.out.lt
        have K1 := Lib.hid ((K.out.below (new2 wr (.cells #[.int .i64 k, .int .i64 n, .string s] 27) (.cells #[.int .i64 k, .int .i64 n, .string s] 27))).grownOwn hg1 (fun k hk => by have h1 := HU6.out k hk; omega) (fun k hk q hq => by
          have h1 := HU6.out k hk
          simp only [List.mem_cons, List.not_mem_nil, or_false] at hq
          rcases hq with rfl | rfl <;> (dsimp only; omega)))
        clear ho1 hg1
        go_wp2_with fail
        go_roundw
        case rel => exact ⟨j + 1, by omega, by go_num, by rw [HT.out]; exact HO1.out, K1.out⟩
        case measure => simp [intOf]; omega
      · simp only [q] at HT
        have K1 := Lib.hid (K.out.push (.int .i64 k) (.int .i64 n) (.string s) 27)
        have HO1 := Lib.hid (HO.out.below (new1 wr (.cells #[.int .i64 k, .int .i64 n, .string s] 27)))
        go_wp2_with fail
        go_roundw
        case rel => exact ⟨j + 1, by omega, by go_num, by rw [HT.out]; simp only [if_true, List.append_nil]; exact HO1.out, K1.out.tail⟩
        case measure => simp [intOf]; omega
    · obtain rfl : j = l.length := by omega
      rw [List.take_length] at HO
      obtain ⟨B, cB, rfl, hs⟩ := HO.out.sl
      obtain ⟨HB, ⟨r0, r1, r2, g0, g1, g2, rl⟩, _⟩ := K.out
      rw [HU.out] at hs
      have hS : (fl l).length = (u :: r).length := by rw [HU.out]
      rw [hS]
      have hSl : (u :: r).length ≤ 1000 := by have := fl_len l; omega
      have HS := Lib.hid hs
      have HSZ := Lib.hid hSl
      clear hs hS hSl
      go_wp2_with fail
      go_loopw [47] (fun i x => ∃ j : Nat, j ≤ (u :: r).length ∧ i = .int .i64 j ∧ ((u :: r).take j).all (gd 1 u.k) = true ∧ KL w x [(w.heap.size, .int .i64 0, .int .i64 0, .string ⟨#[]⟩)] ∧ Below wr.heap.size wr x) (fun i x => (u :: r).length - (intOf i).toNat)
      case atStart => exact ⟨0, Nat.zero_le _, rfl, by simp, K.out, Below.refl _ _⟩
      case round =>
        clear K HB r0 r1 r2 g0 g1 g2 rl
        obtain ⟨j, hj, rfl, hA, hK, hB⟩ := hrel
        have HA := Lib.hid hA
        have K := Lib.hid hK
        have HW := Lib.hid hB
        clear hA hK hB
        have hlen : ((u :: r).length : Int) = ((r.length : Int) + 1) := by simp
        by_cases hlt : j < (u :: r).length
        · have HT : Hid (((u :: r).take (j + 1)).all (gd 1 u.k) = (((u :: r).take j).all (gd 1 u.k) && gd 1 u.k (u :: r)[j])) := Lib.hid (by rw [List.take_succ_eq_append_getElem hlt, List.all_append]; simp)
          obtain ⟨b, off, rfl, hb, c0, c1, c2⟩ := (HS.out.below HW.out) j _ (List.getElem?_eq_getElem hlt)
          obtain ⟨b', off', hA, _, d0, _, _⟩ := (HS.out.below HW.out) 0 u rfl
          cases hA
          simp only [Nat.zero_mul, Nat.add_zero] at d0
          have HMEM : Hid ((u :: r)[j] ∈ u :: r) := Lib.hid (List.getElem_mem hlt)
          generalize (u :: r)[j] = v at *
          obtain ⟨vk, vn, vs⟩ := v
          obtain ⟨uk, un, us⟩ := u
          simp only at c0 c1 c2 d0
          have KV := Lib.hid (K.out.push (.int .i64 vk) (.int .i64 vn) (.string vs) 27)
          have d0' := (bcell (new1 _ (.cells #[.int .i64 vk, .int .i64 vn, .string vs] 27)) b off hb).trans d0
          have hltI : (j : Int) < (r.length : Int) + 1 := by simp at hlt; omega
          have hjb : (j : Int) ≤ 1000 := by have := HSZ.out; omega
          obtain ⟨HB, ⟨v0, v1, v2, _, _, _, vl⟩, ⟨r0, r1, r2, g0, g1, g2, rl⟩, _⟩ := KV.out
          cases e1 : vk == uk
          · have p1 : (vk = uk) = ((vk == uk) = true) := by simp
            rw [e1] at p1
            have b1 : (vk != uk) = !(vk == uk) := rfl
            rw [e1] at b1
            simp only [Bool.false_eq_true] at p1
            simp only [Bool.not_false] at b1
            go_wp2_with fail
            have hU : undef = Value.tuple #[] := rfl
            go_quiet (fail)
            (try simp only [← hU])
            clear hU
            go_wp2_with fail
            (try simp only [Exit.inBlock, Exit.then])
            have K2 := Lib.hid (KV.out.below (below_drewN (Below.refl _ _) nq))
            exact ret_two rfl rfl K2.out.q.2.1 rfl ⟨by rw [HR.out]; rfl, set3 K2.out.HB _ (Nat.le_refl _) _ _ _⟩
          · cases e2 : vk == 1
            · have p1 : (vk = uk) = ((vk == uk) = true) := by simp
              rw [e1] at p1
              have b1 : (vk != uk) = !(vk == uk) := rfl
              rw [e1] at b1
              simp only [Bool.not_true] at b1
              have p2 : (vk = 1) = ((vk == 1) = true) := by simp
              rw [e2] at p2
              have b2 : (vk != 1) = !(vk == 1) := rfl
              rw [e2] at b2
              simp only [Bool.false_eq_true] at p2
              simp only [Bool.not_false] at b2
              go_wp2_with fail
              have hU : undef = Value.tuple #[] := rfl
              go_quiet (fail)
              (try simp only [← hU])
              clear hU
              go_wp2_with fail
              (try simp only [Exit.inBlock, Exit.then])
              have K2 := Lib.hid (KV.out.below (below_drewN (Below.refl _ _) nq))
              exact ret_two rfl rfl K2.out.q.2.1 rfl ⟨by rw [HR.out]; rfl, set3 K2.out.HB _ (Nat.le_refl _) _ _ _⟩
            · have p1 : (vk = uk) = ((vk == uk) = true) := by simp
              rw [e1] at p1
              have b1 : (vk != uk) = !(vk == uk) := rfl
              rw [e1] at b1
              simp only [Bool.not_true] at b1
              have p2 : (vk = 1) = ((vk == 1) = true) := by simp
              rw [e2] at p2
              have b2 : (vk != 1) = !(vk == 1) := rfl
              rw [e2] at b2
              simp only [Bool.not_true] at b2
              go_wp2_with fail
              have hgd : gd 1 uk ⟨vk, vn, vs⟩ = true := by unfold gd; simp [e1, e2]
              have hU : undef = Value.tuple #[] := rfl
              go_quiet (fail)
              (try simp only [← hU])
              clear hU
              go_wp2_with fail
              have K2 := Lib.hid (KV.out.below (below_drewN (Below.refl _ _) nq))
              have HW2 := Lib.hid (below_drewN (HW.out.alloc HW.out.size (.cells #[.int .i64 vk, .int .i64 vn, .string vs] 27)) nq)
              go_roundw
              case rel => exact ⟨j + 1, by omega, by go_num, by rw [HT.out, HA.out, hgd]; rfl, K2.out.tail, HW2.out⟩
              case measure => simp [intOf]; omega
        · exfalso
          have e : (u :: r).take j = u :: r := List.take_of_length_le (by omega)
          have := HA.out
          rw [e, HBD.out] at this
          cases this
set_option maxRecDepth 100000 in
set_option maxHeartbeats 4000000 in
theorem refAgg_kinds2 (A : Option Addr) (c : Nat) (l : List Va) (w : World) (hl : l.length ≤ 1000) (hz : ∀ v ∈ l, v.s.size ≤ maxLen) (h : Sl w A l) (hok : allOk l = true) (u : Va) (r : List Va) (hu : fl l = u :: r) (hb : (u :: r).all (gd 2 u.k) = false) :
    Calls Tryz.prog 11 #[.string ⟨#[109, 105, 110]⟩, .slice A l.length c] w fun e w' => e = .returned (two (refAg 2 l)) ∧ Below w.heap.size w w' := by
  have hT : ∀ l : Bs, ((⟨#[109, 105, 110]⟩ : ByteArray).toList == l) = (([109, 105, 110] : Bs) == l) := fun l => by rw [toList_dat]
  have t0 := hT [99, 111, 117, 110, 116]
  have t1 := hT [115, 117, 109]
  have t2 := hT [109, 105, 110]
  have t3 := hT [109, 97, 120]
  clear hT
  have hlm : l.length ≤ maxLen := by simp only [maxLen]; omega
  have HI : Hid (∀ x, Calls Tryz.prog 15 #[.string ⟨#[109, 105, 110]⟩] x fun e w' => e = .returned (.bool true) ∧ Below x.heap.size x w') := Lib.hid fun x => refIsAgg_ ⟨#[109, 105, 110]⟩ x
  have HU := Lib.hid hu
  have HBD := Lib.hid hb
  clear hu hb
  have HR : Hid (refAg 2 l = (nulV, 16)) := Lib.hid (refAg_bad (by decide) HU.out HBD.out)
  go_enter Tryz.func11, Tryz.ntmps11
  go_wp2_with (first
    | (go_at_call 20; refine (ref_all A c l _ hlm hz (h.below (new1 w _))).mono ?_; rintro e y ⟨rfl, hb⟩; rw [hok]; have K := Lib.hid (KL.below ((KL.refl w).push (.int .i64 0) (.int .i64 0) (.string ⟨#[]⟩) 27) hb); clear hb; obtain ⟨HB, ⟨r0, r1, r2, g0, g1, g2, rl⟩, _⟩ := K.out)
    | (go_at_call 15; refine (HI.out _).mono ?_; rintro e y ⟨rfl, hb⟩; have K' := Lib.hid (KL.below K.out hb); clear hb K HB r0 r1 r2 g0 g1 g2 rl; have K := K'; clear K'; obtain ⟨HB, ⟨r0, r1, r2, g0, g1, g2, rl⟩, _⟩ := K.out))
  go_loopw [6, 28] (fun sv i x => ∃ j : Nat, j ≤ l.length ∧ i = .int .i64 j ∧ OwnV (w.heap.size + 1) x sv (fl (l.take j)) ∧ KL w x [(w.heap.size, .int .i64 0, .int .i64 0, .string ⟨#[]⟩)]) (fun sv i x => l.length - (intOf i).toNat)
  case atStart => exact ⟨0, Nat.zero_le _, rfl, OwnV.nil _ _, K.out⟩
  case round =>
    clear K HB r0 r1 r2 g0 g1 g2 rl
    obtain ⟨j, hj, rfl, hO, hK⟩ := hrel
    have HO := Lib.hid hO
    have K := Lib.hid hK
    clear hO hK
    by_cases hlt : j < l.length
    · have HT := Lib.hid (fl_take l j hlt)
      have hfl : (fl (l.take j)).length ≤ 1000 := by have := fl_len (l.take j); rw [List.length_take] at this; omega
      obtain ⟨b, off, rfl, hb, c0, c1, c2⟩ := (h.below K.out.HB) j _ (List.getElem?_eq_getElem hlt)
      generalize l[j] = v at *
      generalize fl (l.take j) = S at *
      have hsz := K.out.q.1.lt
      obtain ⟨k, n, s⟩ := v
      simp only at c0 c1 c2
      cases q : k == 0
      · simp only [q] at HT
        go_wp2_with (first
          | (at_builtin; refine wpList_append_vals rfl (.tmp 35) (.tmp 37) rfl (w.heap.size + 1) _ S rfl (HO.out.below (new2 _ _ _)) (wr.heap.size + 1) 1 1 [⟨k, n, s⟩] rfl rfl (sl1' _ _ (sz1 _ _) _ _ _) (by simp; omega) (by simp; omega) ?_))
        intro v1 w1 ho1 hg1
        have HO1 := Lib.hid ho1
        have HU6 : Hid (∀ b, Value.ownBlock _ = some b → w.heap.size + 1 ≤ b ∧ b < wr.heap.size) := Lib.hid HO.out.lt
        have K1 := Lib.hid ((K.out.below (new2 wr (.cells #[.int .i64 k, .int .i64 n, .string s] 27) (.cells #[.int .i64 k, .int .i64 n, .string s] 27))).grownOwn hg1 (fun k hk => by have h1 := HU6.out k hk; omega) (fun k hk q hq => by
          have h1 := HU6.out k hk
          simp only [List.mem_cons, List.not_mem_nil, or_false] at hq
          rcases hq with rfl | rfl <;> (dsimp only; omega)))
        clear ho1 hg1
        go_wp2_with fail
        go_roundw
        case rel => exact ⟨j + 1, by omega, by go_num, by rw [HT.out]; exact HO1.out, K1.out⟩
        case measure => simp [intOf]; omega
      · simp only [q] at HT
        have K1 := Lib.hid (K.out.push (.int .i64 k) (.int .i64 n) (.string s) 27)
        have HO1 := Lib.hid (HO.out.below (new1 wr (.cells #[.int .i64 k, .int .i64 n, .string s] 27)))
        go_wp2_with fail
        go_roundw
        case rel => exact ⟨j + 1, by omega, by go_num, by rw [HT.out]; simp only [if_true, List.append_nil]; exact HO1.out, K1.out.tail⟩
        case measure => simp [intOf]; omega
    · obtain rfl : j = l.length := by omega
      rw [List.take_length] at HO
      obtain ⟨B, cB, rfl, hs⟩ := HO.out.sl
      obtain ⟨HB, ⟨r0, r1, r2, g0, g1, g2, rl⟩, _⟩ := K.out
      rw [HU.out] at hs
      have hS : (fl l).length = (u :: r).length := by rw [HU.out]
      rw [hS]
      have hSl : (u :: r).length ≤ 1000 := by have := fl_len l; omega
      have HS := Lib.hid hs
      have HSZ := Lib.hid hSl
      clear hs hS hSl
      go_wp2_with fail
      go_loopw [47] (fun i x => ∃ j : Nat, j ≤ (u :: r).length ∧ i = .int .i64 j ∧ ((u :: r).take j).all (gd 2 u.k) = true ∧ KL w x [(w.heap.size, .int .i64 0, .int .i64 0, .string ⟨#[]⟩)] ∧ Below wr.heap.size wr x) (fun i x => (u :: r).length - (intOf i).toNat)
      case atStart => exact ⟨0, Nat.zero_le _, rfl, by simp, K.out, Below.refl _ _⟩
      case round =>
        clear K HB r0 r1 r2 g0 g1 g2 rl
        obtain ⟨j, hj, rfl, hA, hK, hB⟩ := hrel
        have HA := Lib.hid hA
        have K := Lib.hid hK
        have HW := Lib.hid hB
        clear hA hK hB
        have hlen : ((u :: r).length : Int) = ((r.length : Int) + 1) := by simp
        by_cases hlt : j < (u :: r).length
        · have HT : Hid (((u :: r).take (j + 1)).all (gd 2 u.k) = (((u :: r).take j).all (gd 2 u.k) && gd 2 u.k (u :: r)[j])) := Lib.hid (by rw [List.take_succ_eq_append_getElem hlt, List.all_append]; simp)
          obtain ⟨b, off, rfl, hb, c0, c1, c2⟩ := (HS.out.below HW.out) j _ (List.getElem?_eq_getElem hlt)
          obtain ⟨b', off', hA, _, d0, _, _⟩ := (HS.out.below HW.out) 0 u rfl
          cases hA
          simp only [Nat.zero_mul, Nat.add_zero] at d0
          have HMEM : Hid ((u :: r)[j] ∈ u :: r) := Lib.hid (List.getElem_mem hlt)
          generalize (u :: r)[j] = v at *
          obtain ⟨vk, vn, vs⟩ := v
          obtain ⟨uk, un, us⟩ := u
          simp only at c0 c1 c2 d0
          have KV := Lib.hid (K.out.push (.int .i64 vk) (.int .i64 vn) (.string vs) 27)
          have d0' := (bcell (new1 _ (.cells #[.int .i64 vk, .int .i64 vn, .string vs] 27)) b off hb).trans d0
          have hltI : (j : Int) < (r.length : Int) + 1 := by simp at hlt; omega
          have hjb : (j : Int) ≤ 1000 := by have := HSZ.out; omega
          obtain ⟨HB, ⟨v0, v1, v2, _, _, _, vl⟩, ⟨r0, r1, r2, g0, g1, g2, rl⟩, _⟩ := KV.out
          cases e1 : vk == uk
          · have p1 : (vk = uk) = ((vk == uk) = true) := by simp
            rw [e1] at p1
            have b1 : (vk != uk) = !(vk == uk) := rfl
            rw [e1] at b1
            simp only [Bool.false_eq_true] at p1
            simp only [Bool.not_false] at b1
            go_wp2_with fail
            have hU : undef = Value.tuple #[] := rfl
            go_quiet (fail)
            (try simp only [← hU])
            clear hU
            go_wp2_with fail
            (try simp only [Exit.inBlock, Exit.then])
            have K2 := Lib.hid (KV.out.below (below_drewN (Below.refl _ _) nq))
            exact ret_two rfl rfl K2.out.q.2.1 rfl ⟨by rw [HR.out]; rfl, set3 K2.out.HB _ (Nat.le_refl _) _ _ _⟩
          · have p1 : (vk = uk) = ((vk == uk) = true) := by simp
            rw [e1] at p1
            have b1 : (vk != uk) = !(vk == uk) := rfl
            rw [e1] at b1
            simp only [Bool.not_true] at b1
            go_wp2_with fail
            have hgd : gd 2 uk ⟨vk, vn, vs⟩ = true := by unfold gd; simp [e1]
            have hU : undef = Value.tuple #[] := rfl
            go_quiet (fail)
            (try simp only [← hU])
            clear hU
            go_wp2_with fail
            have K2 := Lib.hid (KV.out.below (below_drewN (Below.refl _ _) nq))
            have HW2 := Lib.hid (below_drewN (HW.out.alloc HW.out.size (.cells #[.int .i64 vk, .int .i64 vn, .string vs] 27)) nq)
            go_roundw
            case rel => exact ⟨j + 1, by omega, by go_num, by rw [HT.out, HA.out, hgd]; rfl, K2.out.tail, HW2.out⟩
            case measure => simp [intOf]; omega
        · exfalso
          have e : (u :: r).take j = u :: r := List.take_of_length_le (by omega)
          have := HA.out
          rw [e, HBD.out] at this
          cases this
set_option maxRecDepth 100000 in
set_option maxHeartbeats 4000000 in
theorem refAgg_kinds3 (A : Option Addr) (c : Nat) (l : List Va) (w : World) (hl : l.length ≤ 1000) (hz : ∀ v ∈ l, v.s.size ≤ maxLen) (h : Sl w A l) (hok : allOk l = true) (u : Va) (r : List Va) (hu : fl l = u :: r) (hb : (u :: r).all (gd 3 u.k) = false) :
    Calls Tryz.prog 11 #[.string ⟨#[109, 97, 120]⟩, .slice A l.length c] w fun e w' => e = .returned (two (refAg 3 l)) ∧ Below w.heap.size w w' := by
  have hT : ∀ l : Bs, ((⟨#[109, 97, 120]⟩ : ByteArray).toList == l) = (([109, 97, 120] : Bs) == l) := fun l => by rw [toList_dat]
  have t0 := hT [99, 111, 117, 110, 116]
  have t1 := hT [115, 117, 109]
  have t2 := hT [109, 105, 110]
  have t3 := hT [109, 97, 120]
  clear hT
  have hlm : l.length ≤ maxLen := by simp only [maxLen]; omega
  have HI : Hid (∀ x, Calls Tryz.prog 15 #[.string ⟨#[109, 97, 120]⟩] x fun e w' => e = .returned (.bool true) ∧ Below x.heap.size x w') := Lib.hid fun x => refIsAgg_ ⟨#[109, 97, 120]⟩ x
  have HU := Lib.hid hu
  have HBD := Lib.hid hb
  clear hu hb
  have HR : Hid (refAg 3 l = (nulV, 16)) := Lib.hid (refAg_bad (by decide) HU.out HBD.out)
  go_enter Tryz.func11, Tryz.ntmps11
  go_wp2_with (first
    | (go_at_call 20; refine (ref_all A c l _ hlm hz (h.below (new1 w _))).mono ?_; rintro e y ⟨rfl, hb⟩; rw [hok]; have K := Lib.hid (KL.below ((KL.refl w).push (.int .i64 0) (.int .i64 0) (.string ⟨#[]⟩) 27) hb); clear hb; obtain ⟨HB, ⟨r0, r1, r2, g0, g1, g2, rl⟩, _⟩ := K.out)
    | (go_at_call 15; refine (HI.out _).mono ?_; rintro e y ⟨rfl, hb⟩; have K' := Lib.hid (KL.below K.out hb); clear hb K HB r0 r1 r2 g0 g1 g2 rl; have K := K'; clear K'; obtain ⟨HB, ⟨r0, r1, r2, g0, g1, g2, rl⟩, _⟩ := K.out))
  go_loopw [6, 28] (fun sv i x => ∃ j : Nat, j ≤ l.length ∧ i = .int .i64 j ∧ OwnV (w.heap.size + 1) x sv (fl (l.take j)) ∧ KL w x [(w.heap.size, .int .i64 0, .int .i64 0, .string ⟨#[]⟩)]) (fun sv i x => l.length - (intOf i).toNat)
  case atStart => exact ⟨0, Nat.zero_le _, rfl, OwnV.nil _ _, K.out⟩
  case round =>
    clear K HB r0 r1 r2 g0 g1 g2 rl
    obtain ⟨j, hj, rfl, hO, hK⟩ := hrel
    have HO := Lib.hid hO
    have K := Lib.hid hK
    clear hO hK
    by_cases hlt : j < l.length
    · have HT := Lib.hid (fl_take l j hlt)
      have hfl : (fl (l.take j)).length ≤ 1000 := by have := fl_len (l.take j); rw [List.length_take] at this; omega
      obtain ⟨b, off, rfl, hb, c0, c1, c2⟩ := (h.below K.out.HB) j _ (List.getElem?_eq_getElem hlt)
      generalize l[j] = v at *
      generalize fl (l.take j) = S at *
      have hsz := K.out.q.1.lt
      obtain ⟨k, n, s⟩ := v
      simp only at c0 c1 c2
      cases q : k == 0
      · simp only [q] at HT
        go_wp2_with (first
          | (at_builtin; refine wpList_append_vals rfl (.tmp 35) (.tmp 37) rfl (w.heap.size + 1) _ S rfl (HO.out.below (new2 _ _ _)) (wr.heap.size + 1) 1 1 [⟨k, n, s⟩] rfl rfl (sl1' _ _ (sz1 _ _) _ _ _) (by simp; omega) (by simp; omega) ?_))
        intro v1 w1 ho1 hg1
        have HO1 := Lib.hid ho1
        have HU6 : Hid (∀ b, Value.ownBlock _ = some b → w.heap.size + 1 ≤ b ∧ b < wr.heap.size) := Lib.hid HO.out.lt
        have K1 := Lib.hid ((K.out.below (new2 wr (.cells #[.int .i64 k, .int .i64 n, .string s] 27) (.cells #[.int .i64 k, .int .i64 n, .string s] 27))).grownOwn hg1 (fun k hk => by have h1 := HU6.out k hk; omega) (fun k hk q hq => by
          have h1 := HU6.out k hk
          simp only [List.mem_cons, List.not_mem_nil, or_false] at hq
          rcases hq with rfl | rfl <;> (dsimp only; omega)))
        clear ho1 hg1
        go_wp2_with fail
        go_roundw
        case rel => exact ⟨j + 1, by omega, by go_num, by rw [HT.out]; exact HO1.out, K1.out⟩
        case measure => simp [intOf]; omega
      · simp only [q] at HT
        have K1 := Lib.hid (K.out.push (.int .i64 k) (.int .i64 n) (.string s) 27)
        have HO1 := Lib.hid (HO.out.below (new1 wr (.cells #[.int .i64 k, .int .i64 n, .string s] 27)))
        go_wp2_with fail
        go_roundw
        case rel => exact ⟨j + 1, by omega, by go_num, by rw [HT.out]; simp only [if_true, List.append_nil]; exact HO1.out, K1.out.tail⟩
        case measure => simp [intOf]; omega
    · obtain rfl : j = l.length := by omega
      rw [List.take_length] at HO
      obtain ⟨B, cB, rfl, hs⟩ := HO.out.sl
      obtain ⟨HB, ⟨r0, r1, r2, g0, g1, g2, rl⟩, _⟩ := K.out
      rw [HU.out] at hs
      have hS : (fl l).length = (u :: r).length := by rw [HU.out]
      rw [hS]
      have hSl : (u :: r).length ≤ 1000 := by have := fl_len l; omega
      have HS := Lib.hid hs
      have HSZ := Lib.hid hSl
      clear hs hS hSl
      go_wp2_with fail
      go_loopw [47] (fun i x => ∃ j : Nat, j ≤ (u :: r).length ∧ i = .int .i64 j ∧ ((u :: r).take j).all (gd 3 u.k) = true ∧ KL w x [(w.heap.size, .int .i64 0, .int .i64 0, .string ⟨#[]⟩)] ∧ Below wr.heap.size wr x) (fun i x => (u :: r).length - (intOf i).toNat)
      case atStart => exact ⟨0, Nat.zero_le _, rfl, by simp, K.out, Below.refl _ _⟩
      case round =>
        clear K HB r0 r1 r2 g0 g1 g2 rl
        obtain ⟨j, hj, rfl, hA, hK, hB⟩ := hrel
        have HA := Lib.hid hA
        have K := Lib.hid hK
        have HW := Lib.hid hB
        clear hA hK hB
        have hlen : ((u :: r).length : Int) = ((r.length : Int) + 1) := by simp
        by_cases hlt : j < (u :: r).length
        · have HT : Hid (((u :: r).take (j + 1)).all (gd 3 u.k) = (((u :: r).take j).all (gd 3 u.k) && gd 3 u.k (u :: r)[j])) := Lib.hid (by rw [List.take_succ_eq_append_getElem hlt, List.all_append]; simp)
          obtain ⟨b, off, rfl, hb, c0, c1, c2⟩ := (HS.out.below HW.out) j _ (List.getElem?_eq_getElem hlt)
          obtain ⟨b', off', hA, _, d0, _, _⟩ := (HS.out.below HW.out) 0 u rfl
          cases hA
          simp only [Nat.zero_mul, Nat.add_zero] at d0
          have HMEM : Hid ((u :: r)[j] ∈ u :: r) := Lib.hid (List.getElem_mem hlt)
          generalize (u :: r)[j] = v at *
          obtain ⟨vk, vn, vs⟩ := v
          obtain ⟨uk, un, us⟩ := u
          simp only at c0 c1 c2 d0
          have KV := Lib.hid (K.out.push (.int .i64 vk) (.int .i64 vn) (.string vs) 27)
          have d0' := (bcell (new1 _ (.cells #[.int .i64 vk, .int .i64 vn, .string vs] 27)) b off hb).trans d0
          have hltI : (j : Int) < (r.length : Int) + 1 := by simp at hlt; omega
          have hjb : (j : Int) ≤ 1000 := by have := HSZ.out; omega
          obtain ⟨HB, ⟨v0, v1, v2, _, _, _, vl⟩, ⟨r0, r1, r2, g0, g1, g2, rl⟩, _⟩ := KV.out
          cases e1 : vk == uk
          · have p1 : (vk = uk) = ((vk == uk) = true) := by simp
            rw [e1] at p1
            have b1 : (vk != uk) = !(vk == uk) := rfl
            rw [e1] at b1
            simp only [Bool.false_eq_true] at p1
            simp only [Bool.not_false] at b1
            go_wp2_with fail
            have hU : undef = Value.tuple #[] := rfl
            go_quiet (fail)
            (try simp only [← hU])
            clear hU
            go_wp2_with fail
            (try simp only [Exit.inBlock, Exit.then])
            have K2 := Lib.hid (KV.out.below (below_drewN (Below.refl _ _) nq))
            exact ret_two rfl rfl K2.out.q.2.1 rfl ⟨by rw [HR.out]; rfl, set3 K2.out.HB _ (Nat.le_refl _) _ _ _⟩
          · have p1 : (vk = uk) = ((vk == uk) = true) := by simp
            rw [e1] at p1
            have b1 : (vk != uk) = !(vk == uk) := rfl
            rw [e1] at b1
            simp only [Bool.not_true] at b1
            go_wp2_with fail
            have hgd : gd 3 uk ⟨vk, vn, vs⟩ = true := by unfold gd; simp [e1]
            have hU : undef = Value.tuple #[] := rfl
            go_quiet (fail)
            (try simp only [← hU])
            clear hU
            go_wp2_with fail
            have K2 := Lib.hid (KV.out.below (below_drewN (Below.refl _ _) nq))
            have HW2 := Lib.hid (below_drewN (HW.out.alloc HW.out.size (.cells #[.int .i64 vk, .int .i64 vn, .string vs] 27)) nq)
            go_roundw
            case rel => exact ⟨j + 1, by omega, by go_num, by rw [HT.out, HA.out, hgd]; rfl, K2.out.tail, HW2.out⟩
            case measure => simp [intOf]; omega
        · exfalso
          have e : (u :: r).take j = u :: r := List.take_of_length_le (by omega)
          have := HA.out
          rw [e, HBD.out] at this
          cases this
end
end Go.Proofs.YthomeplakcbfoaaGreatDoor
namespace Go.Proofs.YthomeplakcbfoaaGreatDoor
section
open Go.RowKit

set_option maxRecDepth 100000 in
set_option maxHeartbeats 4000000 in
theorem refAgg_sum (A : Option Addr) (c : Nat) (l : List Va) (w : World) (hl : l.length ≤ 1000) (hz : ∀ v ∈ l, v.s.size ≤ maxLen) (h : Sl w A l) (hok : allOk l = true) (u : Va) (r : List Va) (hu : fl l = u :: r) (hb : (u :: r).all (gd 1 u.k) = true) (hint : ∀ v ∈ u :: r, Small v.n) :
    Calls Tryz.prog 11 #[.string ⟨#[115, 117, 109]⟩, .slice A l.length c] w fun e w' => e = .returned (two (refAg 1 l)) ∧ Below w.heap.size w w' := by
  have hT : ∀ l : Bs, ((⟨#[115, 117, 109]⟩ : ByteArray).toList == l) = (([115, 117, 109] : Bs) == l) := fun l => by rw [toList_dat]
  have t0 := hT [99, 111, 117, 110, 116]
  have t1 := hT [115, 117, 109]
  have t2 := hT [109, 105, 110]
  have t3 := hT [109, 97, 120]
  clear hT
  have hlm : l.length ≤ maxLen := by simp only [maxLen]; omega
  have HI : Hid (∀ x, Calls Tryz.prog 15 #[.string ⟨#[115, 117, 109]⟩] x fun e w' => e = .returned (.bool true) ∧ Below x.heap.size x w') := Lib.hid fun x => refIsAgg_ ⟨#[115, 117, 109]⟩ x
  have HU := Lib.hid hu
  have HBD := Lib.hid hb
  clear hu hb
  have HIN := Lib.hid hint
  clear hint
  have HR : Hid (refAg 1 l = chkI (totR (u :: r))) := Lib.hid (refAg_sum HU.out HBD.out)
  go_enter Tryz.func11, Tryz.ntmps11
  go_wp2_with (first
    | (go_at_call 20; refine (ref_all A c l _ hlm hz (h.below (new1 w _))).mono ?_; rintro e y ⟨rfl, hb⟩; rw [hok]; have K := Lib.hid (KL.below ((KL.refl w).push (.int .i64 0) (.int .i64 0) (.string ⟨#[]⟩) 27) hb); clear hb; obtain ⟨HB, ⟨r0, r1, r2, g0, g1, g2, rl⟩, _⟩ := K.out)
    | (go_at_call 15; refine (HI.out _).mono ?_; rintro e y ⟨rfl, hb⟩; have K' := Lib.hid (KL.below K.out hb); clear hb K HB r0 r1 r2 g0 g1 g2 rl; have K := K'; clear K'; obtain ⟨HB, ⟨r0, r1, r2, g0, g1, g2, rl⟩, _⟩ := K.out))
  go_loopw [6, 28] (fun sv i x => ∃ j : Nat, j ≤ l.length ∧ i = .int .i64 j ∧ OwnV (w.heap.size + 1) x sv (fl (l.take j)) ∧ KL w x [(w.heap.size, .int .i64 0, .int .i64 0, .string ⟨#[]⟩)]) (fun sv i x => l.length - (intOf i).toNat)
  case atStart => exact ⟨0, Nat.zero_le _, rfl, OwnV.nil _ _, K.out⟩
  case round =>
    clear K HB r0 r1 r2 g0 g1 g2 rl
    obtain ⟨j, hj, rfl, hO, hK⟩ := hrel
    have HO := Lib.hid hO
    have K := Lib.hid hK
    clear hO hK
    by_cases hlt : j < l.length
    · have HT := Lib.hid (fl_take l j hlt)
      have hfl : (fl (l.take j)).length ≤ 1000 := by have := fl_len (l.take j); rw [List.length_take] at this; omega
      obtain ⟨b, off, rfl, hb, c0, c1, c2⟩ := (h.below K.out.HB) j _ (List.getElem?_eq_getElem hlt)
      generalize l[j] = v at *
      generalize fl (l.take j) = S at *
      have hsz := K.out.q.1.lt
      obtain ⟨k, n, s⟩ := v
      simp only at c0 c1 c2
      cases q : k == 0
      · simp only [q] at HT
        go_wp2_with (first
          | (at_builtin; refine wpList_append_vals rfl (.tmp 35) (.tmp 37) rfl (w.heap.size + 1) _ S rfl (HO.out.below (new2 _ _ _)) (wr.heap.size + 1) 1 1 [⟨k, n, s⟩] rfl rfl (sl1' _ _ (sz1 _ _) _ _ _) (by simp; omega) (by simp; omega) ?_))
        intro v1 w1 ho1 hg1
        have HO1 := Lib.hid ho1
        have HU6 : Hid (∀ b, Value.ownBlock _ = some b → w.heap.size + 1 ≤ b ∧ b < wr.heap.size) := Lib.hid HO.out.lt
        have K1 := Lib.hid ((K.out.below (new2 wr (.cells #[.int .i64 k, .int .i64 n, .string s] 27) (.cells #[.int .i64 k, .int .i64 n, .string s] 27))).grownOwn hg1 (fun k hk => by have h1 := HU6.out k hk; omega) (fun k hk q hq => by
          have h1 := HU6.out k hk
          simp only [List.mem_cons, List.not_mem_nil, or_false] at hq
          rcases hq with rfl | rfl <;> (dsimp only; omega)))
        clear ho1 hg1
        go_wp2_with fail
        go_roundw
        case rel => exact ⟨j + 1, by omega, by go_num, by rw [HT.out]; exact HO1.out, K1.out⟩
        case measure => simp [intOf]; omega
      · simp only [q] at HT
        have K1 := Lib.hid (K.out.push (.int .i64 k) (.int .i64 n) (.string s) 27)
        have HO1 := Lib.hid (HO.out.below (new1 wr (.cells #[.int .i64 k, .int .i64 n, .string s] 27)))
        go_wp2_with fail
        go_roundw
        case rel => exact ⟨j + 1, by omega, by go_num, by rw [HT.out]; simp only [if_true, List.append_nil]; exact HO1.out, K1.out.tail⟩
        case measure => simp [intOf]; omega
    · obtain rfl : j = l.length := by omega
      rw [List.take_length] at HO
      obtain ⟨B, cB, rfl, hs⟩ := HO.out.sl
      obtain ⟨HB, ⟨r0, r1, r2, g0, g1, g2, rl⟩, _⟩ := K.out
      rw [HU.out] at hs
      have hS : (fl l).length = (u :: r).length := by rw [HU.out]
      rw [hS]
      have hSl : (u :: r).length ≤ 1000 := by have := fl_len l; omega
      have HS := Lib.hid hs
      have HSZ := Lib.hid hSl
      clear hs hS hSl
      go_wp2_with fail
      go_loopw [47] (fun i x => ∃ j : Nat, j ≤ (u :: r).length ∧ i = .int .i64 j ∧ ((u :: r).take j).all (gd 1 u.k) = true ∧ KL w x [(w.heap.size, .int .i64 0, .int .i64 0, .string ⟨#[]⟩)] ∧ Below wr.heap.size wr x) (fun i x => (u :: r).length - (intOf i).toNat)
      case atStart => exact ⟨0, Nat.zero_le _, rfl, by simp, K.out, Below.refl _ _⟩
      case round =>
        clear K HB r0 r1 r2 g0 g1 g2 rl
        obtain ⟨j, hj, rfl, hA, hK, hB⟩ := hrel
        have HA := Lib.hid hA
        have K := Lib.hid hK
        have HW := Lib.hid hB
        clear hA hK hB
        have hlen : ((u :: r).length : Int) = ((r.length : Int) + 1) := by simp
        by_cases hlt : j < (u :: r).length
        · have HT : Hid (((u :: r).take (j + 1)).all (gd 1 u.k) = (((u :: r).take j).all (gd 1 u.k) && gd 1 u.k (u :: r)[j])) := Lib.hid (by rw [List.take_succ_eq_append_getElem hlt, List.all_append]; simp)
          obtain ⟨b, off, rfl, hb, c0, c1, c2⟩ := (HS.out.below HW.out) j _ (List.getElem?_eq_getElem hlt)
          obtain ⟨b', off', hA, _, d0, _, _⟩ := (HS.out.below HW.out) 0 u rfl
          cases hA
          simp only [Nat.zero_mul, Nat.add_zero] at d0
          have HMEM : Hid ((u :: r)[j] ∈ u :: r) := Lib.hid (List.getElem_mem hlt)
          generalize (u :: r)[j] = v at *
          obtain ⟨vk, vn, vs⟩ := v
          obtain ⟨uk, un, us⟩ := u
          simp only at c0 c1 c2 d0
          have KV := Lib.hid (K.out.push (.int .i64 vk) (.int .i64 vn) (.string vs) 27)
          have d0' := (bcell (new1 _ (.cells #[.int .i64 vk, .int .i64 vn, .string vs] 27)) b off hb).trans d0
          have hltI : (j : Int) < (r.length : Int) + 1 := by simp at hlt; omega
          have hjb : (j : Int) ≤ 1000 := by have := HSZ.out; omega
          obtain ⟨HB, ⟨v0, v1, v2, _, _, _, vl⟩, ⟨r0, r1, r2, g0, g1, g2, rl⟩, _⟩ := KV.out
          cases e1 : vk == uk
          · exfalso
            have hgd : gd 1 uk ⟨vk, vn, vs⟩ = false := by unfold gd; simp [e1]
            have := List.all_eq_true.1 HBD.out _ HMEM.out
            rw [hgd] at this
            cases this
          · cases e2 : vk == 1
            · exfalso
              have hgd : gd 1 uk ⟨vk, vn, vs⟩ = false := by unfold gd; simp [e1, e2]
              have := List.all_eq_true.1 HBD.out _ HMEM.out
              rw [hgd] at this
              cases this
            · have p1 : (vk = uk) = ((vk == uk) = true) := by simp
              rw [e1] at p1
              have b1 : (vk != uk) = !(vk == uk) := rfl
              rw [e1] at b1
              simp only [Bool.not_true] at b1
              have p2 : (vk = 1) = ((vk == 1) = true) := by simp
              rw [e2] at p2
              have b2 : (vk != 1) = !(vk == 1) := rfl
              rw [e2] at b2
              simp only [Bool.not_true] at b2
              go_wp2_with fail
              have hgd : gd 1 uk ⟨vk, vn, vs⟩ = true := by unfold gd; simp [e1, e2]
              have hU : undef = Value.tuple #[] := rfl
              go_quiet (fail)
              (try simp only [← hU])
              clear hU
              go_wp2_with fail
              have K2 := Lib.hid (KV.out.below (below_drewN (Below.refl _ _) nq))
              have HW2 := Lib.hid (below_drewN (HW.out.alloc HW.out.size (.cells #[.int .i64 vk, .int .i64 vn, .string vs] 27)) nq)
              go_roundw
              case rel => exact ⟨j + 1, by omega, by go_num, by rw [HT.out, HA.out, hgd]; rfl, K2.out.tail, HW2.out⟩
              case measure => simp [intOf]; omega
        · clear HA HBD
          have hnz : (((r.length : Int) + 1) == 0) = false := by rw [beq_eq_false_iff_ne]; omega
          have HS2 := Lib.hid (HS.out.below HW.out)
          obtain ⟨HB, ⟨r0, r1, r2, g0, g1, g2, rl⟩, _⟩ := K.out
          have hge : ¬ (j : Int) < (r.length : Int) + 1 := by simp at hlt; omega
          clear HS HW hj hlt
          go_wp2_with fail
          go_loopw [11, 77] (fun nv i x => ∃ j : Nat, j ≤ (u :: r).length ∧ i = .int .i64 j ∧ nv = .int .i64 (totR ((u :: r).take j)) ∧ KL w x [(w.heap.size, .int .i64 0, .int .i64 0, .string ⟨#[]⟩)] ∧ Below wr.heap.size wr x) (fun nv i x => (u :: r).length - (intOf i).toNat)
          case atStart => exact ⟨0, Nat.zero_le _, rfl, rfl, K.out, Below.refl _ _⟩
          case round =>
            clear K HB r0 r1 r2 g0 g1 g2 rl
            obtain ⟨j, hj, rfl, rfl, hK, hB⟩ := hrel
            have K := Lib.hid hK
            have HW := Lib.hid hB
            clear hK hB
            have hbd := totR_bd ((u :: r).take j) (fun v hv => HIN.out v (List.mem_of_mem_take hv))
            have hl5 : ((u :: r).take j).length ≤ 1000 := by have := HSZ.out; rw [List.length_take]; omega
            by_cases hlt : j < (u :: r).length
            · have HT := Lib.hid (totR_take (u :: r) j hlt)
              obtain ⟨hs0, hs1⟩ := HIN.out _ (List.getElem_mem hlt)
              obtain ⟨b, off, rfl, hb, c0, c1, c2⟩ := (HS2.out.below HW.out) j _ (List.getElem?_eq_getElem hlt)
              have hltI : (j : Int) < (r.length : Int) + 1 := by simp at hlt; omega
              have hjb : (j : Int) ≤ 1000 := by have := HSZ.out; omega
              have hn0 : -1099511627776000 ≤ totR ((u :: r).take j) := by omega
              have hn1 : totR ((u :: r).take j) ≤ 1099511627776000 := by omega
              generalize (u :: r)[j] = v at *
              generalize totR ((u :: r).take j) = n at *
              clear hbd hl5
              obtain ⟨vk, vn, vs⟩ := v
              simp only at c0 c1 c2 hs0 hs1
              have KV := Lib.hid (K.out.push (.int .i64 vk) (.int .i64 vn) (.string vs) 27)
              have HW2 := Lib.hid (HW.out.alloc HW.out.size (.cells #[.int .i64 vk, .int .i64 vn, .string vs] 27))
              go_wp2_with fail
              go_roundw
              case rel => exact ⟨j + 1, by omega, by go_num, by rw [HT.out], KV.out.tail, HW2.out⟩
              case measure => simp [intOf]; omega
            · obtain rfl : j = (u :: r).length := by omega
              rw [List.take_length]
              have HC := Lib.hid fun x => refNumber_ (totR (u :: r)) x
              obtain ⟨⟨rk, rn, rs⟩, re, hr⟩ : ∃ r' e, chkI (totR (u :: r)) = (r', e) := ⟨_, _, rfl⟩
              rw [hr] at HC HR
              clear hr hbd hl5
              generalize totR (u :: r) = n at *
              obtain ⟨HB, ⟨r0, r1, r2, g0, g1, g2, rl⟩, _⟩ := K.out
              go_wp2_with (first
                | (go_at_call 45; refine (HC.out _).mono ?_; rintro e y5 ⟨rfl, hb2⟩; have K' := Lib.hid (KL.below K.out hb2); clear hb2 K HB r0 r1 r2 g0 g1 g2 rl; have K := K'; clear K'; obtain ⟨HB, ⟨r0, r1, r2, g0, g1, g2, rl⟩, _⟩ := K.out))
              (try simp only [Exit.inBlock, Exit.then])
              exact ret_two rfl rfl K.out.q.1 rfl ⟨by rw [HR.out]; rfl, set3 HB _ (Nat.le_refl _) _ _ _⟩
set_option maxRecDepth 100000 in
set_option maxHeartbeats 4000000 in
theorem refAgg_min (A : Option Addr) (c : Nat) (l : List Va) (w : World) (hl : l.length ≤ 1000) (hz : ∀ v ∈ l, v.s.size ≤ maxLen) (h : Sl w A l) (hok : allOk l = true) (u : Va) (r : List Va) (hu : fl l = u :: r) (hb : (u :: r).all (gd 2 u.k) = true) :
    Calls Tryz.prog 11 #[.string ⟨#[109, 105, 110]⟩, .slice A l.length c] w fun e w' => e = .returned (two (refAg 2 l)) ∧ Below w.heap.size w w' := by
  have hT : ∀ l : Bs, ((⟨#[109, 105, 110]⟩ : ByteArray).toList == l) = (([109, 105, 110] : Bs) == l) := fun l => by rw [toList_dat]
  have t0 := hT [99, 111, 117, 110, 116]
  have t1 := hT [115, 117, 109]
  have t2 := hT [109, 105, 110]
  have t3 := hT [109, 97, 120]
  clear hT
  have hlm : l.length ≤ maxLen := by simp only [maxLen]; omega
  have HI : Hid (∀ x, Calls Tryz.prog 15 #[.string ⟨#[109, 105, 110]⟩] x fun e w' => e = .returned (.bool true) ∧ Below x.heap.size x w') := Lib.hid fun x => refIsAgg_ ⟨#[109, 105, 110]⟩ x
  have HU := Lib.hid hu
  have HBD := Lib.hid hb
  clear hu hb
  have HR : Hid (refAg 2 l = ((u :: r).foldl (pick (sideS 2)) u, 0)) := Lib.hid (refAg_out (by decide) (by decide) HU.out HBD.out)
  go_enter Tryz.func11, Tryz.ntmps11
  go_wp2_with (first
    | (go_at_call 20; refine (ref_all A c l _ hlm hz (h.below (new1 w _))).mono ?_; rintro e y ⟨rfl, hb⟩; rw [hok]; have K := Lib.hid (KL.below ((KL.refl w).push (.int .i64 0) (.int .i64 0) (.string ⟨#[]⟩) 27) hb); clear hb; obtain ⟨HB, ⟨r0, r1, r2, g0, g1, g2, rl⟩, _⟩ := K.out)
    | (go_at_call 15; refine (HI.out _).mono ?_; rintro e y ⟨rfl, hb⟩; have K' := Lib.hid (KL.below K.out hb); clear hb K HB r0 r1 r2 g0 g1 g2 rl; have K := K'; clear K'; obtain ⟨HB, ⟨r0, r1, r2, g0, g1, g2, rl⟩, _⟩ := K.out))
  go_loopw [6, 28] (fun sv i x => ∃ j : Nat, j ≤ l.length ∧ i = .int .i64 j ∧ OwnV (w.heap.size + 1) x sv (fl (l.take j)) ∧ KL w x [(w.heap.size, .int .i64 0, .int .i64 0, .string ⟨#[]⟩)]) (fun sv i x => l.length - (intOf i).toNat)
  case atStart => exact ⟨0, Nat.zero_le _, rfl, OwnV.nil _ _, K.out⟩
  case round =>
    clear K HB r0 r1 r2 g0 g1 g2 rl
    obtain ⟨j, hj, rfl, hO, hK⟩ := hrel
    have HO := Lib.hid hO
    have K := Lib.hid hK
    clear hO hK
    by_cases hlt : j < l.length
    · have HT := Lib.hid (fl_take l j hlt)
      have hfl : (fl (l.take j)).length ≤ 1000 := by have := fl_len (l.take j); rw [List.length_take] at this; omega
      obtain ⟨b, off, rfl, hb, c0, c1, c2⟩ := (h.below K.out.HB) j _ (List.getElem?_eq_getElem hlt)
      generalize l[j] = v at *
      generalize fl (l.take j) = S at *
      have hsz := K.out.q.1.lt
      obtain ⟨k, n, s⟩ := v
      simp only at c0 c1 c2
      cases q : k == 0
      · simp only [q] at HT
        go_wp2_with (first
          | (at_builtin; refine wpList_append_vals rfl (.tmp 35) (.tmp 37) rfl (w.heap.size + 1) _ S rfl (HO.out.below (new2 _ _ _)) (wr.heap.size + 1) 1 1 [⟨k, n, s⟩] rfl rfl (sl1' _ _ (sz1 _ _) _ _ _) (by simp; omega) (by simp; omega) ?_))
        intro v1 w1 ho1 hg1
        have HO1 := Lib.hid ho1
        have HU6 : Hid (∀ b, Value.ownBlock _ = some b → w.heap.size + 1 ≤ b ∧ b < wr.heap.size) := Lib.hid HO.out.lt
        have K1 := Lib.hid ((K.out.below (new2 wr (.cells #[.int .i64 k, .int .i64 n, .string s] 27) (.cells #[.int .i64 k, .int .i64 n, .string s] 27))).grownOwn hg1 (fun k hk => by have h1 := HU6.out k hk; omega) (fun k hk q hq => by
          have h1 := HU6.out k hk
          simp only [List.mem_cons, List.not_mem_nil, or_false] at hq
          rcases hq with rfl | rfl <;> (dsimp only; omega)))
        clear ho1 hg1
        go_wp2_with fail
        go_roundw
        case rel => exact ⟨j + 1, by omega, by go_num, by rw [HT.out]; exact HO1.out, K1.out⟩
        case measure => simp [intOf]; omega
      · simp only [q] at HT
        have K1 := Lib.hid (K.out.push (.int .i64 k) (.int .i64 n) (.string s) 27)
        have HO1 := Lib.hid (HO.out.below (new1 wr (.cells #[.int .i64 k, .int .i64 n, .string s] 27)))
        go_wp2_with fail
        go_roundw
        case rel => exact ⟨j + 1, by omega, by go_num, by rw [HT.out]; simp only [if_true, List.append_nil]; exact HO1.out, K1.out.tail⟩
        case measure => simp [intOf]; omega
    · obtain rfl : j = l.length := by omega
      rw [List.take_length] at HO
      obtain ⟨B, cB, rfl, hs⟩ := HO.out.sl
      obtain ⟨HB, ⟨r0, r1, r2, g0, g1, g2, rl⟩, _⟩ := K.out
      rw [HU.out] at hs
      have hS : (fl l).length = (u :: r).length := by rw [HU.out]
      rw [hS]
      have hSl : (u :: r).length ≤ 1000 := by have := fl_len l; omega
      have HS := Lib.hid hs
      have HSZ := Lib.hid hSl
      clear hs hS hSl
      go_wp2_with fail
      go_loopw [47] (fun i x => ∃ j : Nat, j ≤ (u :: r).length ∧ i = .int .i64 j ∧ ((u :: r).take j).all (gd 2 u.k) = true ∧ KL w x [(w.heap.size, .int .i64 0, .int .i64 0, .string ⟨#[]⟩)] ∧ Below wr.heap.size wr x) (fun i x => (u :: r).length - (intOf i).toNat)
      case atStart => exact ⟨0, Nat.zero_le _, rfl, by simp, K.out, Below.refl _ _⟩
      case round =>
        clear K HB r0 r1 r2 g0 g1 g2 rl
        obtain ⟨j, hj, rfl, hA, hK, hB⟩ := hrel
        have HA := Lib.hid hA
        have K := Lib.hid hK
        have HW := Lib.hid hB
        clear hA hK hB
        have hlen : ((u :: r).length : Int) = ((r.length : Int) + 1) := by simp
        by_cases hlt : j < (u :: r).length
        · have HT : Hid (((u :: r).take (j + 1)).all (gd 2 u.k) = (((u :: r).take j).all (gd 2 u.k) && gd 2 u.k (u :: r)[j])) := Lib.hid (by rw [List.take_succ_eq_append_getElem hlt, List.all_append]; simp)
          obtain ⟨b, off, rfl, hb, c0, c1, c2⟩ := (HS.out.below HW.out) j _ (List.getElem?_eq_getElem hlt)
          obtain ⟨b', off', hA, _, d0, _, _⟩ := (HS.out.below HW.out) 0 u rfl
          cases hA
          simp only [Nat.zero_mul, Nat.add_zero] at d0
          have HMEM : Hid ((u :: r)[j] ∈ u :: r) := Lib.hid (List.getElem_mem hlt)
          generalize (u :: r)[j] = v at *
          obtain ⟨vk, vn, vs⟩ := v
          obtain ⟨uk, un, us⟩ := u
          simp only at c0 c1 c2 d0
          have KV := Lib.hid (K.out.push (.int .i64 vk) (.int .i64 vn) (.string vs) 27)
          have d0' := (bcell (new1 _ (.cells #[.int .i64 vk, .int .i64 vn, .string vs] 27)) b off hb).trans d0
          have hltI : (j : Int) < (r.length : Int) + 1 := by simp at hlt; omega
          have hjb : (j : Int) ≤ 1000 := by have := HSZ.out; omega
          obtain ⟨HB, ⟨v0, v1, v2, _, _, _, vl⟩, ⟨r0, r1, r2, g0, g1, g2, rl⟩, _⟩ := KV.out
          cases e1 : vk == uk
          · exfalso
            have hgd : gd 2 uk ⟨vk, vn, vs⟩ = false := by unfold gd; simp [e1]
            have := List.all_eq_true.1 HBD.out _ HMEM.out
            rw [hgd] at this
            cases this
          · have p1 : (vk = uk) = ((vk == uk) = true) := by simp
            rw [e1] at p1
            have b1 : (vk != uk) = !(vk == uk) := rfl
            rw [e1] at b1
            simp only [Bool.not_true] at b1
            go_wp2_with fail
            have hgd : gd 2 uk ⟨vk, vn, vs⟩ = true := by unfold gd; simp [e1]
            have hU : undef = Value.tuple #[] := rfl
            go_quiet (fail)
            (try simp only [← hU])
            clear hU
            go_wp2_with fail
            have K2 := Lib.hid (KV.out.below (below_drewN (Below.refl _ _) nq))
            have HW2 := Lib.hid (below_drewN (HW.out.alloc HW.out.size (.cells #[.int .i64 vk, .int .i64 vn, .string vs] 27)) nq)
            go_roundw
            case rel => exact ⟨j + 1, by omega, by go_num, by rw [HT.out, HA.out, hgd]; rfl, K2.out.tail, HW2.out⟩
            case measure => simp [intOf]; omega
        · clear HA HBD
          have hnz : (((r.length : Int) + 1) == 0) = false := by rw [beq_eq_false_iff_ne]; omega
          have HS2 := Lib.hid (HS.out.below HW.out)
          have KW := K
          obtain ⟨HB, ⟨r0, r1, r2, g0, g1, g2, rl⟩, _⟩ := K.out
          have hge : ¬ (j : Int) < (r.length : Int) + 1 := by simp at hlt; omega
          clear HS HW hj hlt
          obtain ⟨b, off, rfl, hb, c0, c1, c2⟩ := HS2.out 0 u rfl
          obtain ⟨uk, un, us⟩ := u
          simp only [Nat.zero_mul, Nat.add_zero] at c0 c1 c2
          go_wp2_with fail
          go_loopw [95] (fun i x => ∃ (j : Nat) (out : Va), j ≤ ((⟨uk, un, us⟩ : Va) :: r).length ∧ i = .int .i64 j ∧ (((⟨uk, un, us⟩ : Va) :: r).take j).foldl (pick (sideS 2)) ⟨uk, un, us⟩ = out ∧ KL wr x [(wr.heap.size, .int .i64 out.k, .int .i64 out.n, .string out.s)] ∧ KL w x [(w.heap.size, .int .i64 0, .int .i64 0, .string ⟨#[]⟩)]) (fun i x => ((⟨uk, un, us⟩ : Va) :: r).length - (intOf i).toNat)
          case atStart => exact ⟨0, ⟨uk, un, us⟩, Nat.zero_le _, rfl, rfl, (KL.refl wr).push _ _ _ 27, K.out.alloc _⟩
          case round =>
            clear K HB r0 r1 r2 g0 g1 g2 rl
            obtain ⟨j, out, hj, rfl, hF, hK, hX⟩ := hrel
            have HF := Lib.hid hF
            have KX := Lib.hid hX
            have K := Lib.hid hK
            clear hF hK hX
            obtain ⟨ok, on, os⟩ := out
            by_cases hlt : j < ((⟨uk, un, us⟩ : Va) :: r).length
            · have HT : Hid ((((⟨uk, un, us⟩ : Va) :: r).take (j + 1)).foldl (pick (sideS 2)) ⟨uk, un, us⟩ = pick (sideS 2) ⟨ok, on, os⟩ (((⟨uk, un, us⟩ : Va) :: r)[j])) := Lib.hid (by rw [List.take_succ_eq_append_getElem hlt, List.foldl_append, HF.out]; rfl)
              obtain ⟨b5, off5, hA5, hb5, c0, c1, c2⟩ := (HS2.out.below K.out.HB) j _ (List.getElem?_eq_getElem hlt)
              cases hA5
              have hltI : (j : Int) < (r.length : Int) + 1 := by simp at hlt; omega
              have hjb : (j : Int) ≤ 1000 := by have := HSZ.out; simp at hlt this; omega
              generalize ((⟨uk, un, us⟩ : Va) :: r)[j] = v at *
              obtain ⟨vk, vn, vs⟩ := v
              simp only at c0 c1 c2
              have KV := Lib.hid (K.out.push (.int .i64 vk) (.int .i64 vn) (.string vs) 27)
              have KX' := Lib.hid (KX.out.alloc (.cells #[.int .i64 vk, .int .i64 vn, .string vs] 27))
              clear KX
              have KX := KX'
              clear KX'
              obtain ⟨HB, ⟨v0, v1, v2, _, _, _, vl⟩, ⟨o0, o1, o2, h0, h1, h2, ol⟩, _⟩ := KV.out
              have HL := Lib.hid fun x => refLess_ ⟨vk, vn, vs⟩ ⟨ok, on, os⟩ x
              rcases lessR_three ⟨vk, vn, vs⟩ ⟨ok, on, os⟩ with hq | hq | hq
              · have HP : Hid (pick (sideS 2) ⟨ok, on, os⟩ ⟨vk, vn, vs⟩ = ⟨vk, vn, vs⟩) := Lib.hid (by unfold pick; rw [hq]; rfl)
                rw [hq] at HL
                go_wp2_with (first
                  | (go_at_call 46; refine (HL.out _).mono ?_; rintro e y5 ⟨rfl, hb2⟩; have K5 := Lib.hid (KL.below KV.out hb2); have K6 := Lib.hid (KL.below KX.out hb2); clear hb2 HB v0 v1 v2 vl o0 o1 o2 h0 h1 h2 ol; obtain ⟨HB, ⟨v0, v1, v2, _, _, _, vl⟩, ⟨o0, o1, o2, h0, h1, h2, ol⟩, _⟩ := K5.out))
                go_roundw
                case rel => exact ⟨j + 1, ⟨vk, vn, vs⟩, by omega, by go_num, by rw [HT.out, HP.out], (K5.out.tail.set (Nat.le_refl _) (by simp) (.int .i64 vk) (.int .i64 vn) (.string vs)), ⟨_root_.Go.Proofs.YthomeplakcbfoaaGreatDoor.set3 K6.out.HB _ (by have := KW.out.q.1.lt; omega) _ _ _, KQ.other _ _ _ (by intro p hp; simp only [List.mem_cons, List.not_mem_nil, or_false] at hp; subst hp; have := KW.out.q.1.lt; dsimp only at this ⊢; omega) K6.out.q⟩⟩
                case measure => simp [intOf]; omega
              · have HP : Hid (pick (sideS 2) ⟨ok, on, os⟩ ⟨vk, vn, vs⟩ = ⟨ok, on, os⟩) := Lib.hid (by unfold pick; rw [hq]; rfl)
                rw [hq] at HL
                go_wp2_with (first
                  | (go_at_call 46; refine (HL.out _).mono ?_; rintro e y5 ⟨rfl, hb2⟩; have K5 := Lib.hid (KL.below KV.out hb2); have K6 := Lib.hid (KL.below KX.out hb2); clear hb2 HB v0 v1 v2 vl o0 o1 o2 h0 h1 h2 ol; obtain ⟨HB, ⟨v0, v1, v2, _, _, _, vl⟩, ⟨o0, o1, o2, h0, h1, h2, ol⟩, _⟩ := K5.out))
                go_roundw
                case rel => exact ⟨j + 1, ⟨ok, on, os⟩, by omega, by go_num, by rw [HT.out, HP.out], K5.out.tail, K6.out⟩
                case measure => simp [intOf]; omega
              · have HP : Hid (pick (sideS 2) ⟨ok, on, os⟩ ⟨vk, vn, vs⟩ = ⟨ok, on, os⟩) := Lib.hid (by unfold pick; rw [hq]; rfl)
                rw [hq] at HL
                go_wp2_with (first
                  | (go_at_call 46; refine (HL.out _).mono ?_; rintro e y5 ⟨rfl, hb2⟩; have K5 := Lib.hid (KL.below KV.out hb2); have K6 := Lib.hid (KL.below KX.out hb2); clear hb2 HB v0 v1 v2 vl o0 o1 o2 h0 h1 h2 ol; obtain ⟨HB, ⟨v0, v1, v2, _, _, _, vl⟩, ⟨o0, o1, o2, h0, h1, h2, ol⟩, _⟩ := K5.out))
                go_roundw
                case rel => exact ⟨j + 1, ⟨ok, on, os⟩, by omega, by go_num, by rw [HT.out, HP.out], K5.out.tail, K6.out⟩
                case measure => simp [intOf]; omega
            · obtain rfl : j = ((⟨uk, un, us⟩ : Va) :: r).length := by omega
              have HF2 := HF.out
              rw [List.take_length] at HF2
              rw [HF2] at HR
              have KK := Lib.hid (KL.both KX.out K.out)
              obtain ⟨HB, ⟨o0, o1, o2, h0, h1, h2, ol⟩, ⟨r0, r1, r2, g0, g1, g2, rl⟩, _⟩ := KK.out
              go_wp2_with fail
              (try simp only [Exit.inBlock, Exit.then])
              exact ret_two rfl rfl KK.out.q.2.1 rfl ⟨by rw [HR.out]; rfl, set3 HB _ (Nat.le_refl _) _ _ _⟩
set_option maxRecDepth 100000 in
set_option maxHeartbeats 4000000 in
theorem refAgg_max (A : Option Addr) (c : Nat) (l : List Va) (w : World) (hl : l.length ≤ 1000) (hz : ∀ v ∈ l, v.s.size ≤ maxLen) (h : Sl w A l) (hok : allOk l = true) (u : Va) (r : List Va) (hu : fl l = u :: r) (hb : (u :: r).all (gd 3 u.k) = true) :
    Calls Tryz.prog 11 #[.string ⟨#[109, 97, 120]⟩, .slice A l.length c] w fun e w' => e = .returned (two (refAg 3 l)) ∧ Below w.heap.size w w' := by
  have hT : ∀ l : Bs, ((⟨#[109, 97, 120]⟩ : ByteArray).toList == l) = (([109, 97, 120] : Bs) == l) := fun l => by rw [toList_dat]
  have t0 := hT [99, 111, 117, 110, 116]
  have t1 := hT [115, 117, 109]
  have t2 := hT [109, 105, 110]
  have t3 := hT [109, 97, 120]
  clear hT
  have hlm : l.length ≤ maxLen := by simp only [maxLen]; omega
  have HI : Hid (∀ x, Calls Tryz.prog 15 #[.string ⟨#[109, 97, 120]⟩] x fun e w' => e = .returned (.bool true) ∧ Below x.heap.size x w') := Lib.hid fun x => refIsAgg_ ⟨#[109, 97, 120]⟩ x
  have HU := Lib.hid hu
  have HBD := Lib.hid hb
  clear hu hb
  have HR : Hid (refAg 3 l = ((u :: r).foldl (pick (sideS 3)) u, 0)) := Lib.hid (refAg_out (by decide) (by decide) HU.out HBD.out)
  go_enter Tryz.func11, Tryz.ntmps11
  go_wp2_with (first
    | (go_at_call 20; refine (ref_all A c l _ hlm hz (h.below (new1 w _))).mono ?_; rintro e y ⟨rfl, hb⟩; rw [hok]; have K := Lib.hid (KL.below ((KL.refl w).push (.int .i64 0) (.int .i64 0) (.string ⟨#[]⟩) 27) hb); clear hb; obtain ⟨HB, ⟨r0, r1, r2, g0, g1, g2, rl⟩, _⟩ := K.out)
    | (go_at_call 15; refine (HI.out _).mono ?_; rintro e y ⟨rfl, hb⟩; have K' := Lib.hid (KL.below K.out hb); clear hb K HB r0 r1 r2 g0 g1 g2 rl; have K := K'; clear K'; obtain ⟨HB, ⟨r0, r1, r2, g0, g1, g2, rl⟩, _⟩ := K.out))
  go_loopw [6, 28] (fun sv i x => ∃ j : Nat, j ≤ l.length ∧ i = .int .i64 j ∧ OwnV (w.heap.size + 1) x sv (fl (l.take j)) ∧ KL w x [(w.heap.size, .int .i64 0, .int .i64 0, .string ⟨#[]⟩)]) (fun sv i x => l.length - (intOf i).toNat)
  case atStart => exact ⟨0, Nat.zero_le _, rfl, OwnV.nil _ _, K.out⟩
  case round =>
    clear K HB r0 r1 r2 g0 g1 g2 rl
    obtain ⟨j, hj, rfl, hO, hK⟩ := hrel
    have HO := Lib.hid hO
    have K := Lib.hid hK
    clear hO hK
    by_cases hlt : j < l.length
    · have HT := Lib.hid (fl_take l j hlt)
      have hfl : (fl (l.take j)).length ≤ 1000 := by have := fl_len (l.take j); rw [List.length_take] at this; omega
      obtain ⟨b, off, rfl, hb, c0, c1, c2⟩ := (h.below K.out.HB) j _ (List.getElem?_eq_getElem hlt)
      generalize l[j] = v at *
      generalize fl (l.take j) = S at *
      have hsz := K.out.q.1.lt
      obtain ⟨k, n, s⟩ := v
      simp only at c0 c1 c2
      cases q : k == 0
      · simp only [q] at HT
        go_wp2_with (first
          | (at_builtin; refine wpList_append_vals rfl (.tmp 35) (.tmp 37) rfl (w.heap.size + 1) _ S rfl (HO.out.below (new2 _ _ _)) (wr.heap.size + 1) 1 1 [⟨k, n, s⟩] rfl rfl (sl1' _ _ (sz1 _ _) _ _ _) (by simp; omega) (by simp; omega) ?_))
        intro v1 w1 ho1 hg1
        have HO1 := Lib.hid ho1
        have HU6 : Hid (∀ b, Value.ownBlock _ = some b → w.heap.size + 1 ≤ b ∧ b < wr.heap.size) := Lib.hid HO.out.lt
        have K1 := Lib.hid ((K.out.below (new2 wr (.cells #[.int .i64 k, .int .i64 n, .string s] 27) (.cells #[.int .i64 k, .int .i64 n, .string s] 27))).grownOwn hg1 (fun k hk => by have h1 := HU6.out k hk; omega) (fun k hk q hq => by
          have h1 := HU6.out k hk
          simp only [List.mem_cons, List.not_mem_nil, or_false] at hq
          rcases hq with rfl | rfl <;> (dsimp only; omega)))
        clear ho1 hg1
        go_wp2_with fail
        go_roundw
        case rel => exact ⟨j + 1, by omega, by go_num, by rw [HT.out]; exact HO1.out, K1.out⟩
        case measure => simp [intOf]; omega
      · simp only [q] at HT
        have K1 := Lib.hid (K.out.push (.int .i64 k) (.int .i64 n) (.string s) 27)
        have HO1 := Lib.hid (HO.out.below (new1 wr (.cells #[.int .i64 k, .int .i64 n, .string s] 27)))
        go_wp2_with fail
        go_roundw
        case rel => exact ⟨j + 1, by omega, by go_num, by rw [HT.out]; simp only [if_true, List.append_nil]; exact HO1.out, K1.out.tail⟩
        case measure => simp [intOf]; omega
    · obtain rfl : j = l.length := by omega
      rw [List.take_length] at HO
      obtain ⟨B, cB, rfl, hs⟩ := HO.out.sl
      obtain ⟨HB, ⟨r0, r1, r2, g0, g1, g2, rl⟩, _⟩ := K.out
      rw [HU.out] at hs
      have hS : (fl l).length = (u :: r).length := by rw [HU.out]
      rw [hS]
      have hSl : (u :: r).length ≤ 1000 := by have := fl_len l; omega
      have HS := Lib.hid hs
      have HSZ := Lib.hid hSl
      clear hs hS hSl
      go_wp2_with fail
      go_loopw [47] (fun i x => ∃ j : Nat, j ≤ (u :: r).length ∧ i = .int .i64 j ∧ ((u :: r).take j).all (gd 3 u.k) = true ∧ KL w x [(w.heap.size, .int .i64 0, .int .i64 0, .string ⟨#[]⟩)] ∧ Below wr.heap.size wr x) (fun i x => (u :: r).length - (intOf i).toNat)
      case atStart => exact ⟨0, Nat.zero_le _, rfl, by simp, K.out, Below.refl _ _⟩
      case round =>
        clear K HB r0 r1 r2 g0 g1 g2 rl
        obtain ⟨j, hj, rfl, hA, hK, hB⟩ := hrel
        have HA := Lib.hid hA
        have K := Lib.hid hK
        have HW := Lib.hid hB
        clear hA hK hB
        have hlen : ((u :: r).length : Int) = ((r.length : Int) + 1) := by simp
        by_cases hlt : j < (u :: r).length
        · have HT : Hid (((u :: r).take (j + 1)).all (gd 3 u.k) = (((u :: r).take j).all (gd 3 u.k) && gd 3 u.k (u :: r)[j])) := Lib.hid (by rw [List.take_succ_eq_append_getElem hlt, List.all_append]; simp)
          obtain ⟨b, off, rfl, hb, c0, c1, c2⟩ := (HS.out.below HW.out) j _ (List.getElem?_eq_getElem hlt)
          obtain ⟨b', off', hA, _, d0, _, _⟩ := (HS.out.below HW.out) 0 u rfl
          cases hA
          simp only [Nat.zero_mul, Nat.add_zero] at d0
          have HMEM : Hid ((u :: r)[j] ∈ u :: r) := Lib.hid (List.getElem_mem hlt)
          generalize (u :: r)[j] = v at *
          obtain ⟨vk, vn, vs⟩ := v
          obtain ⟨uk, un, us⟩ := u
          simp only at c0 c1 c2 d0
          have KV := Lib.hid (K.out.push (.int .i64 vk) (.int .i64 vn) (.string vs) 27)
          have d0' := (bcell (new1 _ (.cells #[.int .i64 vk, .int .i64 vn, .string vs] 27)) b off hb).trans d0
          have hltI : (j : Int) < (r.length : Int) + 1 := by simp at hlt; omega
          have hjb : (j : Int) ≤ 1000 := by have := HSZ.out; omega
          obtain ⟨HB, ⟨v0, v1, v2, _, _, _, vl⟩, ⟨r0, r1, r2, g0, g1, g2, rl⟩, _⟩ := KV.out
          cases e1 : vk == uk
          · exfalso
            have hgd : gd 3 uk ⟨vk, vn, vs⟩ = false := by unfold gd; simp [e1]
            have := List.all_eq_true.1 HBD.out _ HMEM.out
            rw [hgd] at this
            cases this
          · have p1 : (vk = uk) = ((vk == uk) = true) := by simp
            rw [e1] at p1
            have b1 : (vk != uk) = !(vk == uk) := rfl
            rw [e1] at b1
            simp only [Bool.not_true] at b1
            go_wp2_with fail
            have hgd : gd 3 uk ⟨vk, vn, vs⟩ = true := by unfold gd; simp [e1]
            have hU : undef = Value.tuple #[] := rfl
            go_quiet (fail)
            (try simp only [← hU])
            clear hU
            go_wp2_with fail
            have K2 := Lib.hid (KV.out.below (below_drewN (Below.refl _ _) nq))
            have HW2 := Lib.hid (below_drewN (HW.out.alloc HW.out.size (.cells #[.int .i64 vk, .int .i64 vn, .string vs] 27)) nq)
            go_roundw
            case rel => exact ⟨j + 1, by omega, by go_num, by rw [HT.out, HA.out, hgd]; rfl, K2.out.tail, HW2.out⟩
            case measure => simp [intOf]; omega
        · clear HA HBD
          have hnz : (((r.length : Int) + 1) == 0) = false := by rw [beq_eq_false_iff_ne]; omega
          have HS2 := Lib.hid (HS.out.below HW.out)
          have KW := K
          obtain ⟨HB, ⟨r0, r1, r2, g0, g1, g2, rl⟩, _⟩ := K.out
          have hge : ¬ (j : Int) < (r.length : Int) + 1 := by simp at hlt; omega
          clear HS HW hj hlt
          obtain ⟨b, off, rfl, hb, c0, c1, c2⟩ := HS2.out 0 u rfl
          obtain ⟨uk, un, us⟩ := u
          simp only [Nat.zero_mul, Nat.add_zero] at c0 c1 c2
          go_wp2_with fail
          go_loopw [95] (fun i x => ∃ (j : Nat) (out : Va), j ≤ ((⟨uk, un, us⟩ : Va) :: r).length ∧ i = .int .i64 j ∧ (((⟨uk, un, us⟩ : Va) :: r).take j).foldl (pick (sideS 3)) ⟨uk, un, us⟩ = out ∧ KL wr x [(wr.heap.size, .int .i64 out.k, .int .i64 out.n, .string out.s)] ∧ KL w x [(w.heap.size, .int .i64 0, .int .i64 0, .string ⟨#[]⟩)]) (fun i x => ((⟨uk, un, us⟩ : Va) :: r).length - (intOf i).toNat)
          case atStart => exact ⟨0, ⟨uk, un, us⟩, Nat.zero_le _, rfl, rfl, (KL.refl wr).push _ _ _ 27, K.out.alloc _⟩
          case round =>
            clear K HB r0 r1 r2 g0 g1 g2 rl
            obtain ⟨j, out, hj, rfl, hF, hK, hX⟩ := hrel
            have HF := Lib.hid hF
            have KX := Lib.hid hX
            have K := Lib.hid hK
            clear hF hK hX
            obtain ⟨ok, on, os⟩ := out
            by_cases hlt : j < ((⟨uk, un, us⟩ : Va) :: r).length
            · have HT : Hid ((((⟨uk, un, us⟩ : Va) :: r).take (j + 1)).foldl (pick (sideS 3)) ⟨uk, un, us⟩ = pick (sideS 3) ⟨ok, on, os⟩ (((⟨uk, un, us⟩ : Va) :: r)[j])) := Lib.hid (by rw [List.take_succ_eq_append_getElem hlt, List.foldl_append, HF.out]; rfl)
              obtain ⟨b5, off5, hA5, hb5, c0, c1, c2⟩ := (HS2.out.below K.out.HB) j _ (List.getElem?_eq_getElem hlt)
              cases hA5
              have hltI : (j : Int) < (r.length : Int) + 1 := by simp at hlt; omega
              have hjb : (j : Int) ≤ 1000 := by have := HSZ.out; simp at hlt this; omega
              generalize ((⟨uk, un, us⟩ : Va) :: r)[j] = v at *
              obtain ⟨vk, vn, vs⟩ := v
              simp only at c0 c1 c2
              have KV := Lib.hid (K.out.push (.int .i64 vk) (.int .i64 vn) (.string vs) 27)
              have KX' := Lib.hid (KX.out.alloc (.cells #[.int .i64 vk, .int .i64 vn, .string vs] 27))
              clear KX
              have KX := KX'
              clear KX'
              obtain ⟨HB, ⟨v0, v1, v2, _, _, _, vl⟩, ⟨o0, o1, o2, h0, h1, h2, ol⟩, _⟩ := KV.out
              have HL := Lib.hid fun x => refLess_ ⟨vk, vn, vs⟩ ⟨ok, on, os⟩ x
              rcases lessR_three ⟨vk, vn, vs⟩ ⟨ok, on, os⟩ with hq | hq | hq
              · have HP : Hid (pick (sideS 3) ⟨ok, on, os⟩ ⟨vk, vn, vs⟩ = ⟨ok, on, os⟩) := Lib.hid (by unfold pick; rw [hq]; rfl)
                rw [hq] at HL
                go_wp2_with (first
                  | (go_at_call 46; refine (HL.out _).mono ?_; rintro e y5 ⟨rfl, hb2⟩; have K5 := Lib.hid (KL.below KV.out hb2); have K6 := Lib.hid (KL.below KX.out hb2); clear hb2 HB v0 v1 v2 vl o0 o1 o2 h0 h1 h2 ol; obtain ⟨HB, ⟨v0, v1, v2, _, _, _, vl⟩, ⟨o0, o1, o2, h0, h1, h2, ol⟩, _⟩ := K5.out))
                go_roundw
                case rel => exact ⟨j + 1, ⟨ok, on, os⟩, by omega, by go_num, by rw [HT.out, HP.out], K5.out.tail, K6.out⟩
                case measure => simp [intOf]; omega
              · have HP : Hid (pick (sideS 3) ⟨ok, on, os⟩ ⟨vk, vn, vs⟩ = ⟨ok, on, os⟩) := Lib.hid (by unfold pick; rw [hq]; rfl)
                rw [hq] at HL
                go_wp2_with (first
                  | (go_at_call 46; refine (HL.out _).mono ?_; rintro e y5 ⟨rfl, hb2⟩; have K5 := Lib.hid (KL.below KV.out hb2); have K6 := Lib.hid (KL.below KX.out hb2); clear hb2 HB v0 v1 v2 vl o0 o1 o2 h0 h1 h2 ol; obtain ⟨HB, ⟨v0, v1, v2, _, _, _, vl⟩, ⟨o0, o1, o2, h0, h1, h2, ol⟩, _⟩ := K5.out))
                go_roundw
                case rel => exact ⟨j + 1, ⟨ok, on, os⟩, by omega, by go_num, by rw [HT.out, HP.out], K5.out.tail, K6.out⟩
                case measure => simp [intOf]; omega
              · have HP : Hid (pick (sideS 3) ⟨ok, on, os⟩ ⟨vk, vn, vs⟩ = ⟨vk, vn, vs⟩) := Lib.hid (by unfold pick; rw [hq]; rfl)
                rw [hq] at HL
                go_wp2_with (first
                  | (go_at_call 46; refine (HL.out _).mono ?_; rintro e y5 ⟨rfl, hb2⟩; have K5 := Lib.hid (KL.below KV.out hb2); have K6 := Lib.hid (KL.below KX.out hb2); clear hb2 HB v0 v1 v2 vl o0 o1 o2 h0 h1 h2 ol; obtain ⟨HB, ⟨v0, v1, v2, _, _, _, vl⟩, ⟨o0, o1, o2, h0, h1, h2, ol⟩, _⟩ := K5.out))
                go_roundw
                case rel => exact ⟨j + 1, ⟨vk, vn, vs⟩, by omega, by go_num, by rw [HT.out, HP.out], (K5.out.tail.set (Nat.le_refl _) (by simp) (.int .i64 vk) (.int .i64 vn) (.string vs)), ⟨_root_.Go.Proofs.YthomeplakcbfoaaGreatDoor.set3 K6.out.HB _ (by have := KW.out.q.1.lt; omega) _ _ _, KQ.other _ _ _ (by intro p hp; simp only [List.mem_cons, List.not_mem_nil, or_false] at hp; subst hp; have := KW.out.q.1.lt; dsimp only at this ⊢; omega) K6.out.q⟩⟩
                case measure => simp [intOf]; omega
            · obtain rfl : j = ((⟨uk, un, us⟩ : Va) :: r).length := by omega
              have HF2 := HF.out
              rw [List.take_length] at HF2
              rw [HF2] at HR
              have KK := Lib.hid (KL.both KX.out K.out)
              obtain ⟨HB, ⟨o0, o1, o2, h0, h1, h2, ol⟩, ⟨r0, r1, r2, g0, g1, g2, rl⟩, _⟩ := KK.out
              go_wp2_with fail
              (try simp only [Exit.inBlock, Exit.then])
              exact ret_two rfl rfl KK.out.q.2.1 rfl ⟨by rw [HR.out]; rfl, set3 HB _ (Nat.le_refl _) _ _ _⟩
end
end Go.Proofs.YthomeplakcbfoaaGreatDoor
namespace Go.Proofs.YthomeplakcbfoaaGreatDoor
section
open Go.RowKit

theorem fl_mem {l : List Va} {v : Va} (h : v ∈ fl l) : v ∈ l ∧ v.k ≠ 0 := by
  unfold fl at h
  rw [List.mem_filter] at h
  exact ⟨h.1, by simpa using h.2⟩
theorem mem_fl {l : List Va} {v : Va} (h : v ∈ l) (h0 : v.k ≠ 0) : v ∈ fl l := by
  unfold fl
  rw [List.mem_filter]
  exact ⟨h, by simpa using h0⟩
theorem allOk_mem {l : List Va} (h : allOk l = true) {v : Va} (hv : v ∈ l) : v.ok = true := List.all_eq_true.1 h v hv
theorem refAgg_ (i : Nat) (g : Bs) (hg : agNames[i]? = some g) (A : Option Addr) (c : Nat) (l : List Va) (w : World) (hl : l.length ≤ 1000) (hz : ∀ v ∈ l, v.s.size ≤ maxLen) (h : Sl w A l) (hok : allOk l = true) :
    Calls Tryz.prog 11 #[.string (baOf g), .slice A l.length c] w fun e w' => e = .returned (two (refAg i l)) ∧ Below w.heap.size w w' := by
  match i, hg with
  | 0, hg =>
    cases hg
    exact refAgg_count A c l w hl hz h hok
  | 1, hg =>
    cases hg
    cases hf : fl l with
    | nil => exact refAgg_empty1 A c l w hl hz h hok hf
    | cons u r =>
      cases hb : (u :: r).all (gd 1 u.k) with
      | false => exact refAgg_kinds1 A c l w hl hz h hok u r hf hb
      | true =>
        refine refAgg_sum A c l w hl hz h hok u r hf hb fun v hv => ?_
        have h1 := List.all_eq_true.1 hb v hv
        have h2 := (fl_mem (l := l) (v := v) (by rw [hf]; exact hv)).1
        refine ok_small ?_ (allOk_mem hok h2)
        unfold gd at h1
        simp at h1
        exact h1.2
  | 2, hg =>
    cases hg
    cases hf : fl l with
    | nil => exact refAgg_empty2 A c l w hl hz h hok hf
    | cons u r =>
      cases hb : (u :: r).all (gd 2 u.k) with
      | false => exact refAgg_kinds2 A c l w hl hz h hok u r hf hb
      | true => exact refAgg_min A c l w hl hz h hok u r hf hb
  | 3, hg =>
    cases hg
    cases hf : fl l with
    | nil => exact refAgg_empty3 A c l w hl hz h hok hf
    | cons u r =>
      cases hb : (u :: r).all (gd 3 u.k) with
      | false => exact refAgg_kinds3 A c l w hl hz h hok u r hf hb
      | true => exact refAgg_max A c l w hl hz h hok u r hf hb
theorem cnt_fl (l : List Va) : cntS l = (fl l).length := List.countP_eq_length_filter ..
theorem tot_fl : ∀ (l : List Va), tot l = totR (fl l)
  | [] => rfl
  | v :: r => by
    have e : fl (v :: r) = (if (v.k == 0) = true then [] else [v]) ++ fl r := by
      unfold fl
      rw [List.filter_cons]
      cases q : v.k == 0 <;> simp
    rw [tot_cons, tot_fl r, e, totR_app]
    congr 1
    split
    · rfl
    · unfold totR; simp
theorem any_fl (l : List Va) : anyN l = !(fl l).isEmpty := by
  unfold anyN fl
  induction l with
  | nil => rfl
  | cons v r ih =>
    rw [List.any_cons, List.filter_cons, ih]
    cases q : v.k == 0 <;> simp
theorem oneK1_fl (l : List Va) : oneK 1 l = true ↔ ∀ v ∈ fl l, v.k = 1 := by
  rw [oneK_iff 1 (by decide)]
  constructor
  · intro h v hv
    have := fl_mem hv
    rcases h v this.1 with q | q
    · exact absurd q this.2
    · exact q
  · intro h v hv
    by_cases q : v.k = 0
    · exact .inl q
    · exact .inr (h v (mem_fl hv q))
theorem oneK0_fl (l r : List Va) (u : Va) (hf : fl l = u :: r) : oneK 0 l = true ↔ ∀ v ∈ fl l, v.k = u.k := by
  have hu := fl_mem (l := l) (v := u) (by rw [hf]; exact List.mem_cons_self ..)
  rw [oneK0_iff]
  constructor
  · rintro ⟨κ, _, h⟩ v hv
    have h1 := fl_mem hv
    rcases h v h1.1 with q | q
    · exact absurd q h1.2
    · rcases h u hu.1 with q2 | q2
      · exact absurd q2 hu.2
      · rw [q, q2]
  · intro h
    refine ⟨u.k, hu.2, fun v hv => ?_⟩
    by_cases q : v.k = 0
    · exact .inl q
    · exact .inr (h v (mem_fl hv q))
theorem less_cm {a b : Va} (ha : a.ok = true) (hb : b.ok = true) (h : a.k = b.k) (h0 : a.k ≠ 0) : lessR a b = cm a b := by
  have hz : eqV a.k a.n a.s b.k b.n b.s = true ↔ cm a b = 0 := by
    rw [eqV_iff]
    constructor
    · rintro ⟨_, h2, h3⟩
      unfold cm cmpV
      rw [← h2, ← h3]
      split
      · exact (cb_zero _ _).2 rfl
      · exact (ci_zero _ _).2 rfl
    · intro e
      have := cm_zero ha hb h h0 e
      rw [this]
      exact ⟨rfl, rfl, rfl⟩
  have hbd := cm_bd a b
  have hm : ((a.k = 2 ∧ Op.bytesLess a.s.toList b.s.toList = true) ∨ (a.k ≠ 2 ∧ a.n < b.n)) ↔ cm a b = -1 := by
    unfold cm cmpV
    by_cases q : a.k = 2
    · rw [if_pos (by simpa using q)]
      simp only [q, true_and, ne_eq, not_true_eq_false, false_and, or_false]
      rw [less_cmp, toList_dat, toList_dat]
    · rw [if_neg (by simpa using q)]
      simp only [q, false_and, false_or, ne_eq, not_false_eq_true, true_and]
      unfold Lib.compareInt
      constructor
      · intro h; repeat' split <;> omega
      · intro h; repeat' split at h <;> omega
  unfold lessR
  by_cases h1 : cm a b = -1
  · rw [if_pos (hm.2 h1), h1]
  · rw [if_neg (fun q => h1 (hm.1 q))]
    by_cases h2 : cm a b = 0
    · rw [if_pos (hz.2 h2), h2]
    · rw [if_neg (fun q => h2 (hz.1 q))]
      omega
theorem fold_fl (d : Int) : ∀ (l : List Va) (p : Va), l.foldl (best d) p = (fl l).foldl (best d) p
  | [], _ => rfl
  | v :: r, p => by
    have e : fl (v :: r) = (if (v.k == 0) = true then [] else [v]) ++ fl r := by
      unfold fl
      rw [List.filter_cons]
      cases q : v.k == 0 <;> simp
    rw [List.foldl_cons, fold_fl d r, e, List.foldl_append]
    congr 1
    cases q : v.k == 0
    · rfl
    · unfold best takesO
      rw [q]
      rfl
theorem fold_pick (d : Int) (κ : Int) (h0 : κ ≠ 0) : ∀ (l : List Va) (p : Va), p.ok = true → p.k = κ → (∀ v ∈ l, v.ok = true ∧ v.k = κ) → l.foldl (best d) p = l.foldl (pick d) p
  | [], _, _, _, _ => rfl
  | v :: r, p, h1, h2, h => by
    have hv := h v (List.mem_cons_self ..)
    have e : best d p v = pick d p v := by
      rw [best_non d (by rw [h2]; exact h0) (by rw [hv.2]; exact h0)]
      unfold pick
      rw [less_cm hv.1 h1 (by rw [hv.2, h2]) (by rw [hv.2]; exact h0)]
    rw [List.foldl_cons, List.foldl_cons, e]
    have hp : (pick d p v).ok = true ∧ (pick d p v).k = κ := by
      unfold pick
      split
      · exact hv
      · exact ⟨h1, h2⟩
    exact fold_pick d κ h0 r _ hp.1 hp.2 fun u hu => h u (List.mem_cons_of_mem _ hu)
theorem refAg_eq (i : Nat) (hi : i < 4) (l : List Va) (hok : allOk l = true) : refAg i l = agS i l := by
  have key : ∀ d : Int, ∀ j, j ≠ 0 → j ≠ 1 → sideS j = d → refAg j l = minS d l := by
    intro d j j0 j1 hd
    unfold minS
    cases hf : fl l with
    | nil =>
      rw [refAg_nil j0 hf]
      have h1 : oneK 0 l = true := (oneK0_iff l).2 ⟨1, by decide, fun v hv => by
        by_cases q : v.k = 0
        · exact .inl q
        · have := mem_fl hv q; rw [hf] at this; cases this⟩
      rw [h1, if_neg (by decide), outF_fold, fold_fl, hf]
      rfl
    | cons u r =>
      have hu := fl_mem (l := l) (v := u) (by rw [hf]; exact List.mem_cons_self ..)
      have hk := oneK0_fl l r u hf
      cases hb : (u :: r).all (gd j u.k) with
      | false =>
        rw [refAg_bad j0 hf hb, if_pos]
        rw [← Bool.not_eq_true]
        intro q
        have h3 := hk.1 q
        rw [← Bool.not_eq_true] at hb
        refine hb (List.all_eq_true.2 fun v hv => ?_)
        have := h3 v (by rw [hf]; exact hv)
        unfold gd
        simp [this, j1]
      | true =>
        have hg := List.all_eq_true.1 hb
        have h3 : ∀ v ∈ fl l, v.k = u.k := fun v hv => by
          have := hg v (by rw [hf] at hv; exact hv)
          unfold gd at this
          simpa [j1] using this
        rw [refAg_out j0 j1 hf hb, if_neg (by rw [hk.2 h3]; decide), outF_fold, fold_fl, hf, List.foldl_cons, List.foldl_cons, hd]
        have e1 : best d nulV u = u := by
          unfold best takesO
          have : (u.k == 0) = false := by simpa using hu.2
          rw [this]
          rfl
        have e2 : pick d u u = u := by unfold pick; split <;> rfl
        rw [e1, e2]
        congr 1
        refine (fold_pick d u.k hu.2 r u (allOk_mem hok hu.1) rfl fun v hv => ?_).symm
        have hv' : v ∈ fl l := by rw [hf]; exact List.mem_cons_of_mem _ hv
        exact ⟨allOk_mem hok (fl_mem hv').1, h3 v hv'⟩
  match i, hi with
  | 0, _ =>
    show (if 0 = 0 then _ else _) = (intV (cntS l), 0)
    rw [if_pos rfl, cnt_fl]
  | 1, _ =>
    show refAg 1 l = sumS l
    rw [sumS_spec, any_fl]
    cases hf : fl l with
    | nil =>
      rw [refAg_nil (by decide) hf]
      have h1 : oneK 1 l = true := (oneK1_fl l).2 fun v hv => by rw [hf] at hv; cases hv
      rw [h1]
      rfl
    | cons u r =>
      have hk := oneK1_fl l
      cases hb : (u :: r).all (gd 1 u.k) with
      | false =>
        rw [refAg_bad (by decide) hf hb, if_pos]
        rw [← Bool.not_eq_true]
        intro q
        have h3 := hk.1 q
        rw [← Bool.not_eq_true] at hb
        refine hb (List.all_eq_true.2 fun v hv => ?_)
        have e1 := h3 v (by rw [hf]; exact hv)
        have e2 := h3 u (by rw [hf]; exact List.mem_cons_self ..)
        unfold gd
        simp [e1, e2]
      | true =>
        have hg := List.all_eq_true.1 hb
        have h3 : ∀ v ∈ fl l, v.k = 1 := fun v hv => by
          have := hg v (by rw [hf] at hv; exact hv)
          unfold gd at this
          simp at this
          exact this.2
        rw [refAg_sum hf hb, hk.2 h3, tot_fl, hf]
        rfl
  | 2, _ => exact key (-1) 2 (by decide) (by decide) rfl
  | 3, _ => exact key 1 3 (by decide) (by decide) rfl
end
end Go.Proofs.YthomeplakcbfoaaGreatDoor
namespace Go.Proofs.YthomeplakcbfoaaGreatDoor
section
section
open Go.RowKit

set_option maxRecDepth 100000 in
set_option maxHeartbeats 4000000 in
theorem aggregateOf_none (op : ByteArray) (hT : findT agTab op = none) (w : World) : Calls Tryz.prog 44 #[.string op] w fun e w' => e = .returned (.tuple #[.nilFunc, .bool false]) ∧ Below w.heap.size w w' := by
  have hmm := @run_makeMap Tryz.prog
  have HT := Lib.hid hT
  clear hT
  go_enter Tryz.func44, Tryz.ntmps44
  go_wp2_with (first
            | (refine wpList_insert_lit rfl (.tmp 7) _ _ _ _ _ rfl Tryz.underlying94 Tryz.underlying9 (Fed.made w) ⟨#[99, 111, 117, 110, 116]⟩ (fnP 72) rfl rfl rfl rfl ?_; intro w1 (hF1 : Fed _ w1 _ [(⟨#[99, 111, 117, 110, 116]⟩, fnP 72)]); skip)
            | (refine wpList_insert_lit rfl (.tmp 7) _ _ _ _ _ rfl Tryz.underlying94 Tryz.underlying9 hF1 ⟨#[115, 117, 109]⟩ (fnP 73) rfl rfl rfl rfl ?_; clear hF1; intro w2 (hF2 : Fed _ w2 _ [(⟨#[99, 111, 117, 110, 116]⟩, fnP 72), (⟨#[115, 117, 109]⟩, fnP 73)]); have B2 : Hid (Below w.heap.size w w2) := Lib.hid ((new1 w _).trans (hF2.below (Nat.le_refl _) (by simp))))
            | (refine wpList_insert_lit rfl (.tmp 7) _ _ _ _ _ rfl Tryz.underlying94 Tryz.underlying9 hF2 ⟨#[109, 105, 110]⟩ (fnD (w2.heap.size + 1)) rfl rfl rfl rfl ?_; clear hF2; intro w3 (hF3 : Fed _ w3 _ [(⟨#[99, 111, 117, 110, 116]⟩, fnP 72), (⟨#[115, 117, 109]⟩, fnP 73), (⟨#[109, 105, 110]⟩, fnD (w2.heap.size + 1))]); have B3 : Hid (Below w.heap.size w w3) := Lib.hid (((B2.out.alloc B2.out.size _).alloc (by simp; have := B2.out.size; omega) _).trans (hF3.below (Nat.le_refl _) (by simp; have := B2.out.size; omega))))
            | (refine wpList_insert_lit rfl (.tmp 7) _ _ _ _ _ rfl Tryz.underlying94 Tryz.underlying9 hF3 ⟨#[109, 97, 120]⟩ (fnD (w3.heap.size + 1)) rfl rfl rfl rfl ?_; clear hF3; intro w4 (hF4 : Fed _ w4 _ [(⟨#[99, 111, 117, 110, 116]⟩, fnP 72), (⟨#[115, 117, 109]⟩, fnP 73), (⟨#[109, 105, 110]⟩, fnD (w2.heap.size + 1)), (⟨#[109, 97, 120]⟩, fnD (w3.heap.size + 1))]); have hF : Fed _ w4 _ (agTab.map fun p => (p.1, agFn (w2.heap.size + 1) (w3.heap.size + 1) p.2)) := hF4; have hlk := run_lookup_lit hF.here Tryz.underlying94 Tryz.underlying9 (zero82 _) op; rw [findE_map, HT.out] at hlk; simp only [Option.map_none, Option.getD_none, Option.isSome_none] at hlk; have B4 : Hid (Below w.heap.size w w4) := Lib.hid (((B3.out.alloc B3.out.size _).alloc (by simp; have := B3.out.size; omega) _).trans (hF4.below (Nat.le_refl _) (by simp; have := B3.out.size; omega))); clear hF4 hF)
            | (go_at_call 75; refine (outermost_ _ _).mono ?_; rintro e y ⟨rfl, rfl⟩; first | (have hG := Fed.begin (hF3.here.of_block (Below.heap_alloc _ (.cells #[.int .i64 1] 3) _ hF3.here.lt)); clear hF3; have hF3 := hG; clear hG) | (have hG := Fed.begin (hF2.here.of_block (Below.heap_alloc _ (.cells #[.int .i64 (-1)] 3) _ hF2.here.lt)); clear hF2; have hF2 := hG; clear hG))
            | (go_at_call 74; refine (ofOneKind_ _ _ _).mono ?_; rintro e y ⟨rfl, rfl⟩; first | (have hG := Fed.begin (hF3.here.of_block (Below.heap_alloc _ (.cells #[.func (.func 104) #[] #[.pointer (some ⟨w3.heap.size, 0, none⟩)]] 59) _ hF3.here.lt)); clear hF3; have hF3 := hG; clear hG) | (have hG := Fed.begin (hF2.here.of_block (Below.heap_alloc _ (.cells #[.func (.func 104) #[] #[.pointer (some ⟨w2.heap.size, 0, none⟩)]] 59) _ hF2.here.lt)); clear hF2; have hF2 := hG; clear hG)))
  (try simp only [Exit.inBlock, Exit.then])
  go_ret2
  exact ⟨rfl, B4.out⟩
set_option maxRecDepth 100000 in
theorem agg_bad (op : ByteArray) (A : Option Addr) (c : Nat) (l : List Va) (w : World) (hl : l.length ≤ maxLen) (h : Sl w A l) (hok : allOk l = false) :
    Calls Tryz.prog 10 #[.string op, .slice A l.length c] w fun e w' => e = .returned (two (nulV, 2)) ∧ Below w.heap.size w w' := by
  go_enter Tryz.func10, Tryz.ntmps10
  go_wp2_with (first
    | (go_at_call 38; refine (allValid_ A c l _ hl (h.below (new1 w _))).mono ?_; rintro e y ⟨rfl, hb⟩; rw [hok]; have K := Lib.hid (KL.below ((KL.refl w).push (.int .i64 0) (.int .i64 0) (.string ⟨#[]⟩) 27) hb); clear hb; obtain ⟨HB, ⟨r0, r1, r2, g0, g1, g2, rl⟩, _⟩ := K.out))
  (try simp only [Exit.inBlock, Exit.then])
  exact ret_two rfl rfl K.out.q.1 rfl ⟨rfl, _root_.Go.Proofs.YthomeplakcbfoaaGreatDoor.set3 HB _ (Nat.le_refl _) _ _ _⟩
set_option maxRecDepth 100000 in
theorem agg_none (op : ByteArray) (hT : findT agTab op = none) (A : Option Addr) (c : Nat) (l : List Va) (w : World) (hl : l.length ≤ maxLen) (h : Sl w A l) (hok : allOk l = true) :
    Calls Tryz.prog 10 #[.string op, .slice A l.length c] w fun e w' => e = .returned (two (nulV, 13)) ∧ Below w.heap.size w w' := by
  have HG := Lib.hid fun x => aggregateOf_none op hT x
  clear hT
  go_enter Tryz.func10, Tryz.ntmps10
  go_wp2_with (first
    | (go_at_call 38; refine (allValid_ A c l _ hl (h.below (new1 w _))).mono ?_; rintro e y ⟨rfl, hb⟩; rw [hok]; have K := Lib.hid (KL.below ((KL.refl w).push (.int .i64 0) (.int .i64 0) (.string ⟨#[]⟩) 27) hb); clear hb; obtain ⟨HB, ⟨r0, r1, r2, g0, g1, g2, rl⟩, _⟩ := K.out)
    | (go_at_call 44; refine (HG.out _).mono ?_; rintro e y ⟨rfl, hb⟩; have K' := Lib.hid (KL.below K.out hb); clear hb K HB r0 r1 r2 g0 g1 g2 rl; have K := K'; clear K'; obtain ⟨HB, ⟨r0, r1, r2, g0, g1, g2, rl⟩, _⟩ := K.out))
  (try simp only [Exit.inBlock, Exit.then])
  exact ret_two rfl rfl K.out.q.1 rfl ⟨rfl, _root_.Go.Proofs.YthomeplakcbfoaaGreatDoor.set3 HB _ (Nat.le_refl _) _ _ _⟩
theorem isAgg_no (op : ByteArray) (hT : findT agTab op = none) (w : World) : Calls Tryz.prog 14 #[.string op] w fun e w' => e = .returned (.bool false) ∧ Below w.heap.size w w' := by
  have HG := Lib.hid fun x => aggregateOf_none op hT x
  clear hT
  go_enter Tryz.func14, Tryz.ntmps14
  go_wp2_with (first
    | (go_at_call 44; refine (HG.out _).mono ?_; rintro e y ⟨rfl, hb⟩))
  go_ret
  exact ⟨rfl, hb⟩
theorem tab_none {op : ByteArray} (h : hasL agNames op.data.toList = false) : findT agTab op = none := by
  unfold hasL agNames at h
  simp only [List.contains_cons, List.contains_nil, Bool.or_false, Bool.or_eq_false_iff, beq_eq_false_iff_ne] at h
  have key : ∀ b : Bs, op.data.toList ≠ b → (op == (⟨b.toArray⟩ : ByteArray)) = false := fun b hb => by
    obtain ⟨d⟩ := op
    have e : (ByteArray.mk d == (⟨b.toArray⟩ : ByteArray)) = (d == b.toArray) := rfl
    rw [e, beq_eq_false_iff_ne]
    intro e
    exact hb (by rw [e])
  unfold findT agTab
  have k0 := key _ h.1
  have k1 := key _ h.2.1
  have k2 := key _ h.2.2.1
  have k3 := key _ h.2.2.2
  simp only [List.find?, k0, k1, k2, k3]
  rfl
/-- Of any name and values Aggregate of both returns one thing. -/
theorem aggBoth (op : ByteArray) (l : List Va) (hl : l.length ≤ maxLen) (hs : allOk l = true → l.length ≤ 1000) (hz : ∀ v ∈ l, v.s.size ≤ maxLen) : ∃ r : Va × Int,
    (∀ (A : Option Addr) (c : Nat) (w : World), Sl w A l → Calls Tryz.prog 10 #[.string op, .slice A l.length c] w fun e w' => e = .returned (two r) ∧ Below w.heap.size w w') ∧
    (∀ (A : Option Addr) (c : Nat) (w : World), Sl w A l → Calls Tryz.prog 11 #[.string op, .slice A l.length c] w fun e w' => e = .returned (two r) ∧ Below w.heap.size w w') := by
  cases hok : allOk l with
  | false => exact ⟨(nulV, 2), fun A c w h => agg_bad op A c l w hl h hok, fun A c w h => refAgg_badArg op A c l w hl hz h hok⟩
  | true =>
    cases ho : hasL agNames op.data.toList with
    | false => exact ⟨(nulV, 13), fun A c w h => agg_none op (tab_none ho) A c l w hl h hok, fun A c w h => refAgg_none op ho A c l w hl hz h hok⟩
    | true =>
      have hm : op.data.toList ∈ agNames := by
        unfold hasL at ho
        exact List.contains_iff_mem.1 ho
      obtain ⟨i, hi, hg⟩ := List.getElem_of_mem hm
      have hg' : agNames[i]? = some op.data.toList := by rw [List.getElem?_eq_getElem hi, hg]
      have e : baOf op.data.toList = op := by unfold baOf; simp
      have hT : findT agTab op = some i := by rw [← e]; exact ag_tab i _ hg'
      refine ⟨agS i l, fun A c w h => aggr_ op i hT A c l w hl h hok, fun A c w h => ?_⟩
      have := refAgg_ i _ hg' A c l w (hs hok) hz h hok
      rw [e, refAg_eq i hi l hok] at this
      exact this
/-- Of any name IsAggregate of both returns one thing. -/
theorem isAggBoth (op : ByteArray) : ∃ b : Bool, (∀ w, Calls Tryz.prog 14 #[.string op] w fun e w' => e = .returned (.bool b) ∧ Below w.heap.size w w') ∧ (∀ w, Calls Tryz.prog 15 #[.string op] w fun e w' => e = .returned (.bool b) ∧ Below w.heap.size w w') := by
  refine ⟨hasL agNames op.data.toList, fun w => ?_, fun w => refIsAgg_ op w⟩
  cases ho : hasL agNames op.data.toList with
  | false => exact isAgg_no op (tab_none ho) w
  | true =>
    have hm : op.data.toList ∈ agNames := by
      unfold hasL at ho
      exact List.contains_iff_mem.1 ho
    obtain ⟨i, hi, hg⟩ := List.getElem_of_mem hm
    have hg' : agNames[i]? = some op.data.toList := by rw [List.getElem?_eq_getElem hi, hg]
    have e : baOf op.data.toList = op := by unfold baOf; simp
    exact isAggregate_ op i (by rw [← e]; exact ag_tab i _ hg') w
end
end
end Go.Proofs.YthomeplakcbfoaaGreatDoor
