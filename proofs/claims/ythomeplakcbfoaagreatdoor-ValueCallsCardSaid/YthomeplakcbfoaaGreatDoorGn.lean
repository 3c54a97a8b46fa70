/-
  Contracts of layer 2.
-/
import Derived.Test.YthomeplakcbfoaaGreatDoorGm
import Derived.Deep.RegionLaw
namespace Go.Proofs.YthomeplakcbfoaaGreatDoor
section
open Go.RowKit

def ics (ks : List Int) : List Value := ks.map fun d => Value.int .i64 d
theorem ics_app (a b : List Int) : ics (a ++ b) = ics a ++ ics b := by simp [ics]
theorem ics_len (a : List Int) : (ics a).length = a.length := by simp [ics]
/-- A row of kinds that the call has made. -/
def OwnK (B : Nat) (x : World) (v : Value) (ks : List Int) : Prop := x.ownsRow B 25 1 v ks.length (ics ks)
theorem OwnK.nil (B : Nat) (x : World) : OwnK B x (.slice none 0 0) [] := World.ownsRow_nil x _ _ _
theorem OwnK.kept {B : Nat} {x y : World} {v : Value} {l : List Int} {row : Option Nat} (h : OwnK B x v l) (hg : x.grownBy y row) (hr : ∀ k, row = some k → k < B) : OwnK B y v l := by
  refine World.ownsRow.kept h hg ?_
  cases hv : v.ownBlock with
  | none => exact .inl rfl
  | some b =>
    right
    intro e
    have h1 := (World.ownsRow.lt h b hv).1
    have h2 := hr b e.symm
    omega
theorem OwnK.below {B : Nat} {x y : World} {v : Value} {l : List Int} (h : OwnK B x v l) (hb : Below x.heap.size x y) : OwnK B y v l :=
  h.kept (row := none) ⟨hb.os, hb.tape, hb.output, hb.size, fun k hk _ => hb.block k hk⟩ (fun k e => by cases e)
theorem OwnK.lt {B : Nat} {x : World} {v : Value} {l : List Int} (h : OwnK B x v l) : ∀ b, v.ownBlock = some b → B ≤ b := fun b hb => (World.ownsRow.lt h b hb).1
theorem OwnK.sl {B : Nat} {x : World} {v : Value} {l : List Int} (h : OwnK B x v l) : ∃ A c, v = .slice A l.length c ∧ KSl x A l := by
  have h0 := h
  obtain ⟨h1, h2⟩ := h
  rcases h2 with ⟨rfl, hn⟩ | ⟨g, cap, cur, rfl, _, hg, _⟩
  · obtain rfl : l = [] := List.eq_nil_of_length_eq_zero hn
    exact ⟨none, 0, rfl, by intro i d hd; simp at hd⟩
  · refine ⟨_, cap, rfl, fun i d hd => ?_⟩
    have hc := World.ownsRow.cells (g := g) h0 rfl i (.int .i64 d) (by simp [ics, hd])
    have hlt : g < x.heap.size := (Array.getElem?_eq_some_iff.1 hg).1
    have e : ∀ j, (⟨g, 0, none⟩ : Addr).add j = ⟨g, 0 + j, none⟩ := fun j => by unfold Addr.add; split <;> simp_all
    rw [e, Nat.zero_add] at hc
    exact ⟨g, rfl, hlt, hc⟩
theorem infoKind : (Tryz.prog.info? 25).map (fun i => (i.zero, i.size, i.bytes)) = some (some (.int .i64 0), 1, 8) := by kernel_rfl
/-- A kind is put behind a row, as a step of a region that draws its order. -/
theorem step_append_kind {ops : Array Oper} {o : Oper} {a : Act} {w : World} {K : Act → World → Prop} {Q : Exit → Act → World → Prop} {E : Prop}
    (hg : o.guard = none) (s x : Operand) (hop : o.op = Op.call { callee := Callee.builtin Builtin.append, args := #[s, x], argTypes := #[58, 58] })
    (B : Nat) (v : Value) (l : List Int) (hs : a.eval s = v) (hown : OwnK B w v l) (b : Nat) (d : Int) (hx : a.eval x = .slice (some ⟨b, 0, none⟩) 1 1) (hr : w.cell? ⟨b, 0, none⟩ = some (.int .i64 d)) (hn : l.length ≤ 1000000000) (hB : B ≤ w.heap.size)
    (hK : ∀ v' w', OwnK B w' v' (l ++ [d]) → w.grownBy w' v.ownBlock → K (a.put o.dst v') w') :
    if Region.wanted o (yielded ops a.tmps) = true then Oper.wp Tryz.prog o a w K Q else E := by
  have hw : Region.wanted o (yielded ops a.tmps) = true := by simp [Region.wanted, hg]
  rw [if_pos hw]
  obtain ⟨i0, hi, hz, hsz, hby⟩ := info_parts infoKind
  obtain ⟨v', w', hrun, r1, r2, _⟩ := run_append_own (P := Tryz.prog) w B 58 o.type 25 i0 _ 1 8 Tryz.underlying58 hi hz hsz hby rfl (by decide) v l.length (ics l) hown ⟨b, 0, none⟩ 1 1 [.int .i64 d] rfl (by
    intro j u hu
    match j, hu with
    | 0, hu =>
      cases hu
      have e : (⟨b, 0, none⟩ : Addr).add 0 = ⟨b, 0, none⟩ := by unfold Addr.add; split <;> simp_all
      rw [e]
      exact hr) (by intro u hu; simp at hu; rw [hu]; rfl) (by simp only [maxLen]; omega) (by omega) hB
  unfold Oper.wp
  simp [execOp, hop, resolve, invoke, builtin, hs, hx, hrun, Result.andThen]
  exact hK v' w' (by unfold OwnK; rw [List.length_append, ics_app]; exact r1) r2
end
end Go.Proofs.YthomeplakcbfoaaGreatDoor
namespace Go.Proofs.YthomeplakcbfoaaGreatDoor
section
open Go.RowKit

def knd (l : List Va) : List Int := l.map (·.k)
theorem knd_take (l : List Va) (j : Nat) (h : j < l.length) : knd (l.take (j + 1)) = knd (l.take j) ++ [l[j].k] := by
  unfold knd
  rw [List.take_succ_eq_append_getElem h, List.map_append]
  rfl
set_option maxRecDepth 100000 in
set_option maxHeartbeats 1000000 in
theorem refCall_bad (op : ByteArray) (A : Option Addr) (c : Nat) (l : List Va) (w : World) (hl : l.length ≤ maxLen) (hz : ∀ v ∈ l, v.s.size ≤ maxLen) (h : Sl w A l) (hok : allOk l = false) :
    Calls Tryz.prog 9 #[.string op, .slice A l.length c] w fun e w' => e = .returned (two (nulV, 2)) ∧ Below w.heap.size w w' := by
  go_enter Tryz.func9, Tryz.ntmps9
  go_wp2_with (first
    | (go_at_call 20; refine (ref_all A c l _ hl hz (h.below (new1 w _))).mono ?_; rintro e y ⟨rfl, hb⟩; rw [hok]; have K : Hid (KL w y [(w.heap.size, .int .i64 0, .int .i64 0, .string ⟨#[]⟩)]) := Lib.hid (KL.below ((KL.refl w).push _ _ _ 27) hb); clear hb; obtain ⟨HB, ⟨r0, r1, r2, g0, g1, g2, rl⟩, _⟩ := K.out))
  (try simp only [Exit.inBlock, Exit.then])
  exact ret_two rfl rfl K.out.q.1 rfl ⟨rfl, set3 HB _ (Nat.le_refl _) _ _ _⟩
set_option maxRecDepth 100000 in
set_option maxHeartbeats 1000000 in
theorem refCall_none (op : ByteArray) (ho : argsS op = none) (A : Option Addr) (c : Nat) (l : List Va) (w : World) (hl : l.length ≤ maxLen) (hz : ∀ v ∈ l, v.s.size ≤ maxLen) (h : Sl w A l) (hok : allOk l = true) :
    Calls Tryz.prog 9 #[.string op, .slice A l.length c] w fun e w' => e = .returned (two (nulV, 13)) ∧ Below w.heap.size w w' := by
  have HBI := Lib.hid fun x => refBuiltin_ op x
  rw [ho] at HBI
  clear ho
  go_enter Tryz.func9, Tryz.ntmps9
  go_wp2_with (first
    | (go_at_call 20; refine (ref_all A c l _ hl hz (h.below (new1 w _))).mono ?_; rintro e y ⟨rfl, hb⟩; rw [hok]; have K1 : Hid (KL w y [(w.heap.size, .int .i64 0, .int .i64 0, .string ⟨#[]⟩)]) := Lib.hid (KL.below ((KL.refl w).push _ _ _ 27) hb); clear hb; obtain ⟨HB1, ⟨s0, s1, s2, _, _, _, sl⟩, _⟩ := K1.out)
    | (go_at_call 13; refine (HBI.out _).mono ?_; rintro e y2 ⟨rfl, hb⟩; have K := Lib.hid (KL.below K1.out hb); clear hb; obtain ⟨HB, ⟨r0, r1, r2, g0, g1, g2, rl⟩, _⟩ := K.out))
  (try simp only [Exit.inBlock, Exit.then])
  exact ret_two rfl rfl K.out.q.1 rfl ⟨rfl, set3 HB _ (Nat.le_refl _) _ _ _⟩
end
end Go.Proofs.YthomeplakcbfoaaGreatDoor
namespace Go.Proofs.YthomeplakcbfoaaGreatDoor
section
open Go.RowKit

theorem drewNewK (w : World) (o : Obj) : Below w.heap.size w (w.drew.alloc o) := ((Below.refl _ _).drew).alloc (Nat.le_refl _) o
set_option maxRecDepth 100000 in
set_option maxHeartbeats 1000000 in
theorem refCall_fit (op : ByteArray) (ds : List Int) (ho : argsS op = some ds) (A : Option Addr) (c : Nat) (l : List Va) (w : World) (hl : l.length ≤ 1000000) (hz : ∀ v ∈ l, v.s.size ≤ maxLen) (h : Sl w A l) (hok : allOk l = true) (hf : fitsR op (knd l) ≠ 0) :
    Calls Tryz.prog 9 #[.string op, .slice A l.length c] w fun e w' => e = .returned (two (nulV, fitsR op (knd l))) ∧ Below w.heap.size w w' := by
  have hlm : l.length ≤ maxLen := by simp only [maxLen]; omega
  have HBI := Lib.hid fun x => refBuiltin_ op x
  rw [ho] at HBI
  have HFI := Lib.hid fun B c ks hk x hx => fitsR_ op ds ho B c ks hk x hx
  clear ho
  go_enter Tryz.func9, Tryz.ntmps9
  go_wp2_with (first
    | (go_at_call 20; refine (ref_all A c l _ hlm hz (h.below (new1 w _))).mono ?_; rintro e y ⟨rfl, hb⟩; rw [hok]; have K1 : Hid (KL w y [(w.heap.size, .int .i64 0, .int .i64 0, .string ⟨#[]⟩)]) := Lib.hid (KL.below ((KL.refl w).push _ _ _ 27) hb); clear hb; obtain ⟨HB1, ⟨s0, s1, s2, _, _, _, sl⟩, _⟩ := K1.out)
    | (go_at_call 13; refine (HBI.out _).mono ?_; rintro e y2 ⟨rfl, hb⟩; have K := Lib.hid (KL.below K1.out hb); clear hb K1 HB1 s0 s1 s2 sl; obtain ⟨HB, ⟨r0, r1, r2, g0, g1, g2, rl⟩, _⟩ := K.out))
  go_loopw [6, 7, 21] (fun kv nl i x => ∃ j : Nat, j ≤ l.length ∧ i = .int .i64 j ∧ OwnK (w.heap.size + 1) x kv (knd (l.take j)) ∧ nl = .bool (hasNull (l.take j)) ∧ KL w x [(w.heap.size, .int .i64 0, .int .i64 0, .string ⟨#[]⟩)]) (fun kv nl i x => l.length - (intOf i).toNat)
  case atStart => exact ⟨0, Nat.zero_le _, rfl, OwnK.nil _ _, rfl, K.out⟩
  case round =>
    clear K HB r0 r1 r2 g0 g1 g2 rl
    obtain ⟨j, hj, rfl, hO, rfl, hK⟩ := hrel
    have HO := Lib.hid hO
    have K := Lib.hid hK
    clear hO hK
    by_cases hlt : j < l.length
    · have HT := Lib.hid (knd_take l j hlt)
      have HN := Lib.hid (hasNull_take l j hlt)
      have hkl : (knd (l.take j)).length ≤ 1000000 := by unfold knd; rw [List.length_map, List.length_take]; omega
      obtain ⟨b, off, rfl, hb, c0, c1, c2⟩ := (h.below K.out.HB) j _ (List.getElem?_eq_getElem hlt)
      generalize l[j] = v at *
      generalize knd (l.take j) = ks at *
      generalize hasNull (l.take j) = q at *
      have hsz := K.out.q.1.lt
      go_upto_region 10 with fail
      have HU6 : Hid (∀ b, u6.ownBlock = some b → w.heap.size + 1 ≤ b ∧ b < wr.heap.size) := Lib.hid (World.ownsRow.lt HO.out)
      have HO1 := Lib.hid (HO.out.below (new1 wr (.cells #[.int .i64 v.k, .int .i64 v.n, .string v.s] 27)))
      have K1 := Lib.hid (K.out.push (.int .i64 v.k) (.int .i64 v.n) (.string v.s) 27)
      have HH := Lib.hid K1.out.HB.size
      clear HO K
      have hU : undef = Value.tuple #[] := rfl
      cases q
      all_goals first | (go_region_law (first
        | (refine step_append_kind rfl (.tmp 25) (.tmp 28) rfl (w.heap.size + 1) u6 ks (by simp [Act.eval]) (HO1.out.below (new1 _ _).drew) (wr.heap.size + 1) v.k (by simp [Act.eval]) (by simp) (by omega) (by simp; omega) ?_
           intro v' w' ho2 hg2
           have HO2 := Lib.hid ho2
           have K2 := Lib.hid ((K1.out.below (new1 _ (.cells #[.int .i64 v.k] 25)).drew).grownOwn hg2 (fun k hk => by have h1 := HU6.out k hk; omega) (fun k hk q hq => by
             have h1 := HU6.out k hk
             simp only [List.mem_cons, List.not_mem_nil, or_false] at hq
             rcases hq with rfl | rfl <;> (dsimp only; omega)))
           clear ho2 hg2
           obtain ⟨HB, ⟨k0, k1, k2, _, _, _, kl⟩, ⟨r0, r1, r2, g0, g1, g2, rl⟩, _⟩ := K2.out
           obtain ⟨A2, c2', rfl, hs2⟩ := HO2.out.sl))) | fail
      all_goals (simp only [← hU]; clear hU)
      all_goals go_wp2_with fail
      all_goals go_roundw
      case rel => exact ⟨j + 1, by omega, by go_num, by rw [HT.out]; have h9 := HO2.out; rw [List.length_append] at h9; exact h9, by rw [HN.out]; simp, K2.out.tail⟩
      case measure => simp [intOf]; omega
      case rel => exact ⟨j + 1, by omega, by go_num, by rw [HT.out]; have h9 := HO2.out; rw [List.length_append] at h9; exact h9, by rw [HN.out]; simp, K2.out.tail⟩
      case measure => simp [intOf]; omega
    · obtain rfl : j = l.length := by omega
      rw [List.take_length] at HO
      obtain ⟨B, cB, rfl, hs⟩ := HO.out.sl
      have HFX := Lib.hid (HFI.out B cB (knd l) (by unfold knd; rw [List.length_map]; exact hl) _ hs)
      have hne : (fitsR op (knd l) != 0) = true := by simpa using hf
      go_wp2_with (first
        | (go_at_call 42; refine HFX.out.mono ?_; rintro e y3 ⟨rfl, hb⟩; have KZ := Lib.hid (KL.below K.out hb); clear hb; obtain ⟨HB, ⟨r0, r1, r2, g0, g1, g2, rl⟩, _⟩ := KZ.out))
      (try simp only [Exit.inBlock, Exit.then])
      exact ret_two rfl rfl KZ.out.q.1 rfl ⟨rfl, set3 HB _ (Nat.le_refl _) _ _ _⟩
end
end Go.Proofs.YthomeplakcbfoaaGreatDoor
namespace Go.Proofs.YthomeplakcbfoaaGreatDoor
section
open Go.RowKit

set_option maxRecDepth 100000 in
set_option maxHeartbeats 1000000 in
theorem refCall_null (op : ByteArray) (ds : List Int) (ho : argsS op = some ds) (A : Option Addr) (c : Nat) (l : List Va) (w : World) (hl : l.length ≤ 1000000) (hz : ∀ v ∈ l, v.s.size ≤ maxLen) (h : Sl w A l) (hok : allOk l = true) (hf : fitsR op (knd l) = 0) (hn1 : (op.toList == [110, 118, 108]) = false) (hn2 : (op.toList == [110, 117, 108, 108, 105, 102]) = false) (hnl : hasNull l = true) :
    Calls Tryz.prog 9 #[.string op, .slice A l.length c] w fun e w' => e = .returned (two (nulV, 0)) ∧ Below w.heap.size w w' := by
  have hlm : l.length ≤ maxLen := by simp only [maxLen]; omega
  have HBI := Lib.hid fun x => refBuiltin_ op x
  rw [ho] at HBI
  have HFI := Lib.hid fun B c ks hk x hx => fitsR_ op ds ho B c ks hk x hx
  clear ho
  go_enter Tryz.func9, Tryz.ntmps9
  go_wp2_with (first
    | (go_at_call 20; refine (ref_all A c l _ hlm hz (h.below (new1 w _))).mono ?_; rintro e y ⟨rfl, hb⟩; rw [hok]; have K1 : Hid (KL w y [(w.heap.size, .int .i64 0, .int .i64 0, .string ⟨#[]⟩)]) := Lib.hid (KL.below ((KL.refl w).push _ _ _ 27) hb); clear hb; obtain ⟨HB1, ⟨s0, s1, s2, _, _, _, sl⟩, _⟩ := K1.out)
    | (go_at_call 13; refine (HBI.out _).mono ?_; rintro e y2 ⟨rfl, hb⟩; have K := Lib.hid (KL.below K1.out hb); clear hb K1 HB1 s0 s1 s2 sl; obtain ⟨HB, ⟨r0, r1, r2, g0, g1, g2, rl⟩, _⟩ := K.out))
  go_loopw [6, 7, 21] (fun kv nl i x => ∃ j : Nat, j ≤ l.length ∧ i = .int .i64 j ∧ OwnK (w.heap.size + 1) x kv (knd (l.take j)) ∧ nl = .bool (hasNull (l.take j)) ∧ KL w x [(w.heap.size, .int .i64 0, .int .i64 0, .string ⟨#[]⟩)]) (fun kv nl i x => l.length - (intOf i).toNat)
  case atStart => exact ⟨0, Nat.zero_le _, rfl, OwnK.nil _ _, rfl, K.out⟩
  case round =>
    clear K HB r0 r1 r2 g0 g1 g2 rl
    obtain ⟨j, hj, rfl, hO, rfl, hK⟩ := hrel
    have HO := Lib.hid hO
    have K := Lib.hid hK
    clear hO hK
    by_cases hlt : j < l.length
    · have HT := Lib.hid (knd_take l j hlt)
      have HN := Lib.hid (hasNull_take l j hlt)
      have hkl : (knd (l.take j)).length ≤ 1000000 := by unfold knd; rw [List.length_map, List.length_take]; omega
      obtain ⟨b, off, rfl, hb, c0, c1, c2⟩ := (h.below K.out.HB) j _ (List.getElem?_eq_getElem hlt)
      generalize l[j] = v at *
      generalize knd (l.take j) = ks at *
      generalize hasNull (l.take j) = q at *
      have hsz := K.out.q.1.lt
      go_upto_region 10 with fail
      have HU6 : Hid (∀ b, u6.ownBlock = some b → w.heap.size + 1 ≤ b ∧ b < wr.heap.size) := Lib.hid (World.ownsRow.lt HO.out)
      have HO1 := Lib.hid (HO.out.below (new1 wr (.cells #[.int .i64 v.k, .int .i64 v.n, .string v.s] 27)))
      have K1 := Lib.hid (K.out.push (.int .i64 v.k) (.int .i64 v.n) (.string v.s) 27)
      have HH := Lib.hid K1.out.HB.size
      clear HO K
      have hU : undef = Value.tuple #[] := rfl
      cases q
      all_goals first | (go_region_law (first
        | (refine step_append_kind rfl (.tmp 25) (.tmp 28) rfl (w.heap.size + 1) u6 ks (by simp [Act.eval]) (HO1.out.below (new1 _ _).drew) (wr.heap.size + 1) v.k (by simp [Act.eval]) (by simp) (by omega) (by simp; omega) ?_
           intro v' w' ho2 hg2
           have HO2 := Lib.hid ho2
           have K2 := Lib.hid ((K1.out.below (new1 _ (.cells #[.int .i64 v.k] 25)).drew).grownOwn hg2 (fun k hk => by have h1 := HU6.out k hk; omega) (fun k hk q hq => by
             have h1 := HU6.out k hk
             simp only [List.mem_cons, List.not_mem_nil, or_false] at hq
             rcases hq with rfl | rfl <;> (dsimp only; omega)))
           clear ho2 hg2
           obtain ⟨HB, ⟨k0, k1, k2, _, _, _, kl⟩, ⟨r0, r1, r2, g0, g1, g2, rl⟩, _⟩ := K2.out
           obtain ⟨A2, c2', rfl, hs2⟩ := HO2.out.sl))) | fail
      all_goals (simp only [← hU]; clear hU)
      all_goals go_wp2_with fail
      all_goals go_roundw
      case rel => exact ⟨j + 1, by omega, by go_num, by rw [HT.out]; have h9 := HO2.out; rw [List.length_append] at h9; exact h9, by rw [HN.out]; simp, K2.out.tail⟩
      case measure => simp [intOf]; omega
      case rel => exact ⟨j + 1, by omega, by go_num, by rw [HT.out]; have h9 := HO2.out; rw [List.length_append] at h9; exact h9, by rw [HN.out]; simp, K2.out.tail⟩
      case measure => simp [intOf]; omega
    · obtain rfl : j = l.length := by omega
      rw [List.take_length] at HO
      obtain ⟨B, cB, rfl, hs⟩ := HO.out.sl
      have HFX := Lib.hid (HFI.out B cB (knd l) (by unfold knd; rw [List.length_map]; exact hl) _ hs)
      rw [hf] at HFX
      go_wp2_with (first
        | (go_at_call 42; refine HFX.out.mono ?_; rintro e y3 ⟨rfl, hb⟩; have KZ := Lib.hid (KL.below K.out hb); clear hb; obtain ⟨HB, ⟨r0, r1, r2, g0, g1, g2, rl⟩, _⟩ := KZ.out)
        | (go_at_call 24; refine (ref_null _).mono ?_; rintro e y4 ⟨rfl, hb⟩; have KY := Lib.hid (KL.below KZ.out hb); clear hb HB r0 r1 r2 g0 g1 g2 rl; obtain ⟨HB, ⟨r0, r1, r2, g0, g1, g2, rl⟩, _⟩ := KY.out))
      (try simp only [Exit.inBlock, Exit.then])
      exact ret_two rfl rfl KY.out.q.1 rfl ⟨rfl, set3 HB _ (Nat.le_refl _) _ _ _⟩
end
end Go.Proofs.YthomeplakcbfoaaGreatDoor
namespace Go.Proofs.YthomeplakcbfoaaGreatDoor
section
open Go.RowKit

set_option maxRecDepth 100000 in
set_option maxHeartbeats 1000000 in
theorem refCall_called (op : ByteArray) (ds : List Int) (ho : argsS op = some ds) (A : Option Addr) (c : Nat) (l : List Va) (w : World) (hl : l.length ≤ 1000000) (hz : ∀ v ∈ l, v.s.size ≤ maxLen) (h : Sl w A l) (hok : allOk l = true) (hf : fitsR op (knd l) = 0) (hn1 : (op.toList == [110, 118, 108]) = false) (hn2 : (op.toList == [110, 117, 108, 108, 105, 102]) = false) (hnl : hasNull l = false) (r : Va × Int) (hc : ∀ x, Sl x A l → Calls Tryz.prog 43 #[.string op, .slice A l.length c] x fun e w' => e = .returned (two r) ∧ Below x.heap.size x w') :
    Calls Tryz.prog 9 #[.string op, .slice A l.length c] w fun e w' => e = .returned (two r) ∧ Below w.heap.size w w' := by
  obtain ⟨rv, re⟩ := r
  have HC := Lib.hid hc
  clear hc
  have hlm : l.length ≤ maxLen := by simp only [maxLen]; omega
  have HBI := Lib.hid fun x => refBuiltin_ op x
  rw [ho] at HBI
  have HFI := Lib.hid fun B c ks hk x hx => fitsR_ op ds ho B c ks hk x hx
  clear ho
  go_enter Tryz.func9, Tryz.ntmps9
  go_wp2_with (first
    | (go_at_call 20; refine (ref_all A c l _ hlm hz (h.below (new1 w _))).mono ?_; rintro e y ⟨rfl, hb⟩; rw [hok]; have K1 : Hid (KL w y [(w.heap.size, .int .i64 0, .int .i64 0, .string ⟨#[]⟩)]) := Lib.hid (KL.below ((KL.refl w).push _ _ _ 27) hb); clear hb; obtain ⟨HB1, ⟨s0, s1, s2, _, _, _, sl⟩, _⟩ := K1.out)
    | (go_at_call 13; refine (HBI.out _).mono ?_; rintro e y2 ⟨rfl, hb⟩; have K := Lib.hid (KL.below K1.out hb); clear hb K1 HB1 s0 s1 s2 sl; obtain ⟨HB, ⟨r0, r1, r2, g0, g1, g2, rl⟩, _⟩ := K.out))
  go_loopw [6, 7, 21] (fun kv nl i x => ∃ j : Nat, j ≤ l.length ∧ i = .int .i64 j ∧ OwnK (w.heap.size + 1) x kv (knd (l.take j)) ∧ nl = .bool (hasNull (l.take j)) ∧ KL w x [(w.heap.size, .int .i64 0, .int .i64 0, .string ⟨#[]⟩)]) (fun kv nl i x => l.length - (intOf i).toNat)
  case atStart => exact ⟨0, Nat.zero_le _, rfl, OwnK.nil _ _, rfl, K.out⟩
  case round =>
    clear K HB r0 r1 r2 g0 g1 g2 rl
    obtain ⟨j, hj, rfl, hO, rfl, hK⟩ := hrel
    have HO := Lib.hid hO
    have K := Lib.hid hK
    clear hO hK
    by_cases hlt : j < l.length
    · have HT := Lib.hid (knd_take l j hlt)
      have HN := Lib.hid (hasNull_take l j hlt)
      have hkl : (knd (l.take j)).length ≤ 1000000 := by unfold knd; rw [List.length_map, List.length_take]; omega
      obtain ⟨b, off, rfl, hb, c0, c1, c2⟩ := (h.below K.out.HB) j _ (List.getElem?_eq_getElem hlt)
      generalize l[j] = v at *
      generalize knd (l.take j) = ks at *
      generalize hasNull (l.take j) = q at *
      have hsz := K.out.q.1.lt
      go_upto_region 10 with fail
      have HU6 : Hid (∀ b, u6.ownBlock = some b → w.heap.size + 1 ≤ b ∧ b < wr.heap.size) := Lib.hid (World.ownsRow.lt HO.out)
      have HO1 := Lib.hid (HO.out.below (new1 wr (.cells #[.int .i64 v.k, .int .i64 v.n, .string v.s] 27)))
      have K1 := Lib.hid (K.out.push (.int .i64 v.k) (.int .i64 v.n) (.string v.s) 27)
      have HH := Lib.hid K1.out.HB.size
      clear HO K
      have hU : undef = Value.tuple #[] := rfl
      cases q
      all_goals first | (go_region_law (first
        | (refine step_append_kind rfl (.tmp 25) (.tmp 28) rfl (w.heap.size + 1) u6 ks (by simp [Act.eval]) (HO1.out.below (new1 _ _).drew) (wr.heap.size + 1) v.k (by simp [Act.eval]) (by simp) (by omega) (by simp; omega) ?_
           intro v' w' ho2 hg2
           have HO2 := Lib.hid ho2
           have K2 := Lib.hid ((K1.out.below (new1 _ (.cells #[.int .i64 v.k] 25)).drew).grownOwn hg2 (fun k hk => by have h1 := HU6.out k hk; omega) (fun k hk q hq => by
             have h1 := HU6.out k hk
             simp only [List.mem_cons, List.not_mem_nil, or_false] at hq
             rcases hq with rfl | rfl <;> (dsimp only; omega)))
           clear ho2 hg2
           obtain ⟨HB, ⟨k0, k1, k2, _, _, _, kl⟩, ⟨r0, r1, r2, g0, g1, g2, rl⟩, _⟩ := K2.out
           obtain ⟨A2, c2', rfl, hs2⟩ := HO2.out.sl))) | fail
      all_goals (simp only [← hU]; clear hU)
      all_goals go_wp2_with fail
      all_goals go_roundw
      case rel => exact ⟨j + 1, by omega, by go_num, by rw [HT.out]; have h9 := HO2.out; rw [List.length_append] at h9; exact h9, by rw [HN.out]; simp, K2.out.tail⟩
      case measure => simp [intOf]; omega
      case rel => exact ⟨j + 1, by omega, by go_num, by rw [HT.out]; have h9 := HO2.out; rw [List.length_append] at h9; exact h9, by rw [HN.out]; simp, K2.out.tail⟩
      case measure => simp [intOf]; omega
    · obtain rfl : j = l.length := by omega
      rw [List.take_length] at HO
      obtain ⟨B, cB, rfl, hs⟩ := HO.out.sl
      have HFX := Lib.hid (HFI.out B cB (knd l) (by unfold knd; rw [List.length_map]; exact hl) _ hs)
      rw [hf] at HFX
      go_wp2_with (first
        | (go_at_call 42; refine HFX.out.mono ?_; rintro e y3 ⟨rfl, hb⟩; have KZ := Lib.hid (KL.below K.out hb); clear hb; obtain ⟨HB, ⟨r0, r1, r2, g0, g1, g2, rl⟩, _⟩ := KZ.out)
        | (go_at_call 43; refine (HC.out _ (h.below KZ.out.HB)).mono ?_; rintro e y4 ⟨rfl, hb⟩; have KY := Lib.hid (KL.below KZ.out hb); clear hb HB r0 r1 r2 g0 g1 g2 rl; obtain ⟨HB, ⟨r0, r1, r2, g0, g1, g2, rl⟩, _⟩ := KY.out))
      (try simp only [Exit.inBlock, Exit.then])
      exact ret_two rfl rfl KY.out.q.1 rfl ⟨rfl, set3 HB _ (Nat.le_refl _) _ _ _⟩
end
end Go.Proofs.YthomeplakcbfoaaGreatDoor
namespace Go.Proofs.YthomeplakcbfoaaGreatDoor
section
open Go.RowKit

set_option maxRecDepth 100000 in
set_option maxHeartbeats 1000000 in
theorem refCall_nvl (p q : Va) (op : ByteArray) (hn1 : (op.toList == [110, 118, 108]) = true) (ds : List Int) (ho : argsS op = some ds) (A : Option Addr) (c : Nat) (l : List Va) (w : World) (hl : l.length ≤ 1000000) (hz : ∀ v ∈ l, v.s.size ≤ maxLen) (h : Sl w A l) (hok : allOk l = true) (hf : fitsR op (knd l) = 0) (hl2 : l = [p, q]) :
    Calls Tryz.prog 9 #[.string op, .slice A l.length c] w fun e w' => e = .returned (two (if p.k = 0 then q else p, 0)) ∧ Below w.heap.size w w' := by
  have hlm : l.length ≤ maxLen := by simp only [maxLen]; omega
  obtain ⟨res, hres⟩ : ∃ z, (if p.k = 0 then q else p : Va) = z := ⟨_, rfl⟩
  have HR := Lib.hid hres
  rw [hres]
  clear hres
  have HL2 := Lib.hid hl2
  clear hl2
  have HBI := Lib.hid fun x => refBuiltin_ op x
  rw [ho] at HBI
  have HFI := Lib.hid fun B c ks hk x hx => fitsR_ op ds ho B c ks hk x hx
  clear ho
  go_enter Tryz.func9, Tryz.ntmps9
  go_wp2_with (first
    | (go_at_call 20; refine (ref_all A c l _ hlm hz (h.below (new1 w _))).mono ?_; rintro e y ⟨rfl, hb⟩; rw [hok]; have K1 : Hid (KL w y [(w.heap.size, .int .i64 0, .int .i64 0, .string ⟨#[]⟩)]) := Lib.hid (KL.below ((KL.refl w).push _ _ _ 27) hb); clear hb; obtain ⟨HB1, ⟨s0, s1, s2, _, _, _, sl⟩, _⟩ := K1.out)
    | (go_at_call 13; refine (HBI.out _).mono ?_; rintro e y2 ⟨rfl, hb⟩; have K := Lib.hid (KL.below K1.out hb); clear hb K1 HB1 s0 s1 s2 sl; obtain ⟨HB, ⟨r0, r1, r2, g0, g1, g2, rl⟩, _⟩ := K.out))
  go_loopw [6, 7, 21] (fun kv nl i x => ∃ j : Nat, j ≤ l.length ∧ i = .int .i64 j ∧ OwnK (w.heap.size + 1) x kv (knd (l.take j)) ∧ nl = .bool (hasNull (l.take j)) ∧ KL w x [(w.heap.size, .int .i64 0, .int .i64 0, .string ⟨#[]⟩)]) (fun kv nl i x => l.length - (intOf i).toNat)
  case atStart => exact ⟨0, Nat.zero_le _, rfl, OwnK.nil _ _, rfl, K.out⟩
  case round =>
    clear K HB r0 r1 r2 g0 g1 g2 rl
    obtain ⟨j, hj, rfl, hO, rfl, hK⟩ := hrel
    have HO := Lib.hid hO
    have K := Lib.hid hK
    clear hO hK
    by_cases hlt : j < l.length
    · have HT := Lib.hid (knd_take l j hlt)
      have HN := Lib.hid (hasNull_take l j hlt)
      have hkl : (knd (l.take j)).length ≤ 1000000 := by unfold knd; rw [List.length_map, List.length_take]; omega
      obtain ⟨b, off, rfl, hb, c0, c1, c2⟩ := (h.below K.out.HB) j _ (List.getElem?_eq_getElem hlt)
      generalize l[j] = v at *
      generalize knd (l.take j) = ks at *
      generalize hasNull (l.take j) = q at *
      have hsz := K.out.q.1.lt
      go_upto_region 10 with fail
      have HU6 : Hid (∀ b, u6.ownBlock = some b → w.heap.size + 1 ≤ b ∧ b < wr.heap.size) := Lib.hid (World.ownsRow.lt HO.out)
      have HO1 := Lib.hid (HO.out.below (new1 wr (.cells #[.int .i64 v.k, .int .i64 v.n, .string v.s] 27)))
      have K1 := Lib.hid (K.out.push (.int .i64 v.k) (.int .i64 v.n) (.string v.s) 27)
      have HH := Lib.hid K1.out.HB.size
      clear HO K
      have hU : undef = Value.tuple #[] := rfl
      cases q
      all_goals first | (go_region_law (first
        | (refine step_append_kind rfl (.tmp 25) (.tmp 28) rfl (w.heap.size + 1) u6 ks (by simp [Act.eval]) (HO1.out.below (new1 _ _).drew) (wr.heap.size + 1) v.k (by simp [Act.eval]) (by simp) (by omega) (by simp; omega) ?_
           intro v' w' ho2 hg2
           have HO2 := Lib.hid ho2
           have K2 := Lib.hid ((K1.out.below (new1 _ (.cells #[.int .i64 v.k] 25)).drew).grownOwn hg2 (fun k hk => by have h1 := HU6.out k hk; omega) (fun k hk q hq => by
             have h1 := HU6.out k hk
             simp only [List.mem_cons, List.not_mem_nil, or_false] at hq
             rcases hq with rfl | rfl <;> (dsimp only; omega)))
           clear ho2 hg2
           obtain ⟨HB, ⟨k0, k1, k2, _, _, _, kl⟩, ⟨r0, r1, r2, g0, g1, g2, rl⟩, _⟩ := K2.out
           obtain ⟨A2, c2', rfl, hs2⟩ := HO2.out.sl))) | fail
      all_goals (simp only [← hU]; clear hU)
      all_goals go_wp2_with fail
      all_goals go_roundw
      case rel => exact ⟨j + 1, by omega, by go_num, by rw [HT.out]; have h9 := HO2.out; rw [List.length_append] at h9; exact h9, by rw [HN.out]; simp, K2.out.tail⟩
      case measure => simp [intOf]; omega
      case rel => exact ⟨j + 1, by omega, by go_num, by rw [HT.out]; have h9 := HO2.out; rw [List.length_append] at h9; exact h9, by rw [HN.out]; simp, K2.out.tail⟩
      case measure => simp [intOf]; omega
    · obtain rfl : j = l.length := by omega
      rw [List.take_length] at HO
      obtain ⟨B, cB, rfl, hs⟩ := HO.out.sl
      have HFX := Lib.hid (HFI.out B cB (knd l) (by unfold knd; rw [List.length_map]; exact hl) _ hs)
      rw [hf] at HFX
      obtain ⟨b, off, rfl, hb0, c0, c1, c2⟩ := h 0 p (by rw [HL2.out]; rfl)
      obtain ⟨b', off', e1, -, d0, d1, d2⟩ := h 1 q (by rw [HL2.out]; rfl)
      have hll : l.length = 2 := by rw [HL2.out]; rfl
      cases e1
      simp only [Nat.zero_mul, Nat.one_mul, Nat.add_zero] at c0 c1 c2 d0 d1 d2
      generalize hasNull l = nl
      generalize l.length = n at *
      subst hll
      by_cases hk : p.k = 0
      all_goals go_wp2_with (first
        | (go_at_call 42; refine HFX.out.mono ?_; rintro e y3 ⟨rfl, hb⟩; have KZ := Lib.hid (KL.below K.out hb); clear hb; obtain ⟨HB, ⟨r0, r1, r2, g0, g1, g2, rl⟩, _⟩ := KZ.out; have x0 := (bcell HB b off hb0).trans c0; have x1 := (bcell HB b (off + 1) hb0).trans c1; have x2 := (bcell HB b (off + 2) hb0).trans c2; have z0 := (bcell HB b (off + 3) hb0).trans d0; have z1 := (bcell HB b (off + 3 + 1) hb0).trans d1; have z2 := (bcell HB b (off + 3 + 2) hb0).trans d2))
      all_goals (try simp only [Exit.inBlock, Exit.then])
      all_goals exact ret_two rfl rfl KZ.out.q.1 rfl ⟨by rw [← HR.out]; first | (rw [if_pos hk]; rfl) | (rw [if_neg hk]; rfl), set3 HB _ (Nat.le_refl _) _ _ _⟩
end
end Go.Proofs.YthomeplakcbfoaaGreatDoor
namespace Go.Proofs.YthomeplakcbfoaaGreatDoor
section
open Go.RowKit

set_option maxRecDepth 100000 in
set_option maxHeartbeats 1000000 in
theorem refCall_nullif (p q : Va) (op : ByteArray) (hn1 : (op.toList == [110, 118, 108]) = false) (hn2 : (op.toList == [110, 117, 108, 108, 105, 102]) = true) (ds : List Int) (ho : argsS op = some ds) (A : Option Addr) (c : Nat) (l : List Va) (w : World) (hl : l.length ≤ 1000000) (hz : ∀ v ∈ l, v.s.size ≤ maxLen) (h : Sl w A l) (hok : allOk l = true) (hf : fitsR op (knd l) = 0) (hl2 : l = [p, q]) :
    Calls Tryz.prog 9 #[.string op, .slice A l.length c] w fun e w' => e = .returned (two (if eqV p.k p.n p.s q.k q.n q.s = true then nulV else p, 0)) ∧ Below w.heap.size w w' := by
  have hlm : l.length ≤ maxLen := by simp only [maxLen]; omega
  obtain ⟨res, hres⟩ : ∃ z, (if eqV p.k p.n p.s q.k q.n q.s = true then nulV else p : Va) = z := ⟨_, rfl⟩
  have HR := Lib.hid hres
  rw [hres]
  clear hres
  have HL2 := Lib.hid hl2
  clear hl2
  have HBI := Lib.hid fun x => refBuiltin_ op x
  rw [ho] at HBI
  have HFI := Lib.hid fun B c ks hk x hx => fitsR_ op ds ho B c ks hk x hx
  clear ho
  go_enter Tryz.func9, Tryz.ntmps9
  go_wp2_with (first
    | (go_at_call 20; refine (ref_all A c l _ hlm hz (h.below (new1 w _))).mono ?_; rintro e y ⟨rfl, hb⟩; rw [hok]; have K1 : Hid (KL w y [(w.heap.size, .int .i64 0, .int .i64 0, .string ⟨#[]⟩)]) := Lib.hid (KL.below ((KL.refl w).push _ _ _ 27) hb); clear hb; obtain ⟨HB1, ⟨s0, s1, s2, _, _, _, sl⟩, _⟩ := K1.out)
    | (go_at_call 13; refine (HBI.out _).mono ?_; rintro e y2 ⟨rfl, hb⟩; have K := Lib.hid (KL.below K1.out hb); clear hb K1 HB1 s0 s1 s2 sl; obtain ⟨HB, ⟨r0, r1, r2, g0, g1, g2, rl⟩, _⟩ := K.out))
  go_loopw [6, 7, 21] (fun kv nl i x => ∃ j : Nat, j ≤ l.length ∧ i = .int .i64 j ∧ OwnK (w.heap.size + 1) x kv (knd (l.take j)) ∧ nl = .bool (hasNull (l.take j)) ∧ KL w x [(w.heap.size, .int .i64 0, .int .i64 0, .string ⟨#[]⟩)]) (fun kv nl i x => l.length - (intOf i).toNat)
  case atStart => exact ⟨0, Nat.zero_le _, rfl, OwnK.nil _ _, rfl, K.out⟩
  case round =>
    clear K HB r0 r1 r2 g0 g1 g2 rl
    obtain ⟨j, hj, rfl, hO, rfl, hK⟩ := hrel
    have HO := Lib.hid hO
    have K := Lib.hid hK
    clear hO hK
    by_cases hlt : j < l.length
    · have HT := Lib.hid (knd_take l j hlt)
      have HN := Lib.hid (hasNull_take l j hlt)
      have hkl : (knd (l.take j)).length ≤ 1000000 := by unfold knd; rw [List.length_map, List.length_take]; omega
      obtain ⟨b, off, rfl, hb, c0, c1, c2⟩ := (h.below K.out.HB) j _ (List.getElem?_eq_getElem hlt)
      generalize l[j] = v at *
      generalize knd (l.take j) = ks at *
      generalize hasNull (l.take j) = q at *
      have hsz := K.out.q.1.lt
      go_upto_region 10 with fail
      have HU6 : Hid (∀ b, u6.ownBlock = some b → w.heap.size + 1 ≤ b ∧ b < wr.heap.size) := Lib.hid (World.ownsRow.lt HO.out)
      have HO1 := Lib.hid (HO.out.below (new1 wr (.cells #[.int .i64 v.k, .int .i64 v.n, .string v.s] 27)))
      have K1 := Lib.hid (K.out.push (.int .i64 v.k) (.int .i64 v.n) (.string v.s) 27)
      have HH := Lib.hid K1.out.HB.size
      clear HO K
      have hU : undef = Value.tuple #[] := rfl
      cases q
      all_goals first | (go_region_law (first
        | (refine step_append_kind rfl (.tmp 25) (.tmp 28) rfl (w.heap.size + 1) u6 ks (by simp [Act.eval]) (HO1.out.below (new1 _ _).drew) (wr.heap.size + 1) v.k (by simp [Act.eval]) (by simp) (by omega) (by simp; omega) ?_
           intro v' w' ho2 hg2
           have HO2 := Lib.hid ho2
           have K2 := Lib.hid ((K1.out.below (new1 _ (.cells #[.int .i64 v.k] 25)).drew).grownOwn hg2 (fun k hk => by have h1 := HU6.out k hk; omega) (fun k hk q hq => by
             have h1 := HU6.out k hk
             simp only [List.mem_cons, List.not_mem_nil, or_false] at hq
             rcases hq with rfl | rfl <;> (dsimp only; omega)))
           clear ho2 hg2
           obtain ⟨HB, ⟨k0, k1, k2, _, _, _, kl⟩, ⟨r0, r1, r2, g0, g1, g2, rl⟩, _⟩ := K2.out
           obtain ⟨A2, c2', rfl, hs2⟩ := HO2.out.sl))) | fail
      all_goals (simp only [← hU]; clear hU)
      all_goals go_wp2_with fail
      all_goals go_roundw
      case rel => exact ⟨j + 1, by omega, by go_num, by rw [HT.out]; have h9 := HO2.out; rw [List.length_append] at h9; exact h9, by rw [HN.out]; simp, K2.out.tail⟩
      case measure => simp [intOf]; omega
      case rel => exact ⟨j + 1, by omega, by go_num, by rw [HT.out]; have h9 := HO2.out; rw [List.length_append] at h9; exact h9, by rw [HN.out]; simp, K2.out.tail⟩
      case measure => simp [intOf]; omega
    · obtain rfl : j = l.length := by omega
      rw [List.take_length] at HO
      obtain ⟨B, cB, rfl, hs⟩ := HO.out.sl
      have HFX := Lib.hid (HFI.out B cB (knd l) (by unfold knd; rw [List.length_map]; exact hl) _ hs)
      rw [hf] at HFX
      obtain ⟨b, off, rfl, hb0, c0, c1, c2⟩ := h 0 p (by rw [HL2.out]; rfl)
      obtain ⟨b', off', e1, -, d0, d1, d2⟩ := h 1 q (by rw [HL2.out]; rfl)
      have hll : l.length = 2 := by rw [HL2.out]; rfl
      cases e1
      simp only [Nat.zero_mul, Nat.one_mul, Nat.add_zero] at c0 c1 c2 d0 d1 d2
      generalize hasNull l = nl
      generalize l.length = n at *
      subst hll
      rcases Bool.eq_false_or_eq_true (eqV p.k p.n p.s q.k q.n q.s) with hk | hk
      all_goals go_wp2_with (first
        | (go_at_call 42; refine HFX.out.mono ?_; rintro e y3 ⟨rfl, hb⟩; have KZ := Lib.hid (KL.below K.out hb); clear hb; obtain ⟨HB, ⟨r0, r1, r2, g0, g1, g2, rl⟩, _⟩ := KZ.out; have x0 := (bcell HB b off hb0).trans c0; have x1 := (bcell HB b (off + 1) hb0).trans c1; have x2 := (bcell HB b (off + 2) hb0).trans c2; have z0 := (bcell HB b (off + 3) hb0).trans d0; have z1 := (bcell HB b (off + 3 + 1) hb0).trans d1; have z2 := (bcell HB b (off + 3 + 2) hb0).trans d2)
        | (go_at_call 24; refine (ref_null _).mono ?_; rintro e y4 ⟨rfl, hb⟩; have KY := Lib.hid (KL.below KZ.out hb); clear hb HB r0 r1 r2 g0 g1 g2 rl; obtain ⟨HB, ⟨r0, r1, r2, g0, g1, g2, rl⟩, _⟩ := KY.out))
      all_goals go_region
      all_goals have KD := Lib.hid (KZ.out.below (Below.refl _ _).drew)
      all_goals go_wp2_with (go_at_call 24; refine (ref_null _).mono ?_; rintro e y4 ⟨rfl, hb⟩; have KY := Lib.hid (KL.below KD.out hb); clear hb HB r0 r1 r2 g0 g1 g2 rl; obtain ⟨HB, ⟨r0, r1, r2, g0, g1, g2, rl⟩, _⟩ := KY.out)
      all_goals (try simp only [Exit.inBlock, Exit.then])
      all_goals first | exact ret_two rfl rfl KY.out.q.1 rfl ⟨by rw [← HR.out]; rw [hk]; rfl, set3 HB _ (Nat.le_refl _) _ _ _⟩ | exact ret_two rfl rfl KD.out.q.1 rfl ⟨by rw [← HR.out]; rw [hk]; rfl, set3 KD.out.HB _ (Nat.le_refl _) _ _ _⟩
end
end Go.Proofs.YthomeplakcbfoaaGreatDoor
