/-
  Contracts: the least and the greatest of a list.
-/
import Derived.Test.YthomeplakcbfoaaGreatDoorSM
import Derived.Deep.RegionWith
import Derived.Deep.RegionHeld3
namespace Go.Proofs.YthomeplakcbfoaaGreatDoor
open Go.RowKit

/-- Whether a value takes the place of the outermost one so far. -/
def takesO (d : Int) (v out : Va) : Bool := !(v.k == 0) && ((out.k == 0) || (cmpV v.k v.n v.s out.n out.s == d))
def outF (d : Int) : Va → List Va → Va
  | out, [] => out
  | out, v :: r => outF d (if takesO d v out = true then v else out) r
theorem outF_drop (d : Int) (out : Va) (l : List Va) (k : Nat) (h : k < l.length) : outF d out (l.drop k) = outF d (if takesO d l[k] out = true then l[k] else out) (l.drop (k + 1)) := by
  rw [List.drop_eq_getElem_cons h]; rfl
/-- What stands through the region that draws its order. -/
abbrev OS (w : World) (vb ob rb c2 : Nat) (v out : Va) (d : Int) (z : World) : Prop :=
  (z.cell? ⟨vb, 0, none⟩ = some (.int .i64 v.k) ∧ z.cell? ⟨vb, 1, none⟩ = some (.int .i64 v.n) ∧ z.cell? ⟨vb, 2, none⟩ = some (.string v.s) ∧ z.cell? ⟨ob, 0, none⟩ = some (.int .i64 out.k) ∧ z.cell? ⟨ob, 1, none⟩ = some (.int .i64 out.n) ∧ z.cell? ⟨ob, 2, none⟩ = some (.string out.s) ∧ z.cell? ⟨c2, 0, none⟩ = some (.int .i64 d)) ∧
  KL w z [(vb, .int .i64 v.k, .int .i64 v.n, .string v.s), (ob, .int .i64 out.k, .int .i64 out.n, .string out.s), (rb, .int .i64 0, .int .i64 0, .string ⟨#[]⟩)]
theorem OS.make {w z : World} {vb ob rb c2 : Nat} {v out : Va} {d : Int} (hd : w.cell? ⟨c2, 0, none⟩ = some (.int .i64 d)) (h : KL w z [(vb, .int .i64 v.k, .int .i64 v.n, .string v.s), (ob, .int .i64 out.k, .int .i64 out.n, .string out.s), (rb, .int .i64 0, .int .i64 0, .string ⟨#[]⟩)]) : OS w vb ob rb c2 v out d z :=
  ⟨⟨h.q.1.c0, h.q.1.c1, h.q.1.c2, h.q.2.1.c0, h.q.2.1.c1, h.q.2.1.c2, (bcell h.HB c2 0 (World.block_lt_of_cell? w _ hd)).trans hd⟩, h⟩
theorem OS.below {w x z : World} {vb ob rb c2 : Nat} {v out : Va} {d : Int} (hd : w.cell? ⟨c2, 0, none⟩ = some (.int .i64 d)) (h : OS w vb ob rb c2 v out d x) (hb : Below x.heap.size x z) : OS w vb ob rb c2 v out d z := OS.make hd (h.2.below hb)
theorem Sl.drew {x : World} {A : Option Addr} {l : List Va} (h : Sl x A l) : Sl x.drew A l := h
theorem someN1 (x : World) (g : Nat) (k n : Int) (s : ByteArray) (h : Sl x (some ⟨g, 0, none⟩) [⟨k, n, s⟩]) : Calls Tryz.prog 41 #[.slice (some ⟨g, 0, none⟩) 1 1] x fun e w' => e = .returned (.bool (k == 0)) ∧ Below x.heap.size x w' := by
  refine (someNull_ _ _ [⟨k, n, s⟩] _ (by simp [maxLen]) h).mono ?_
  rintro e y ⟨rfl, hb⟩
  exact ⟨by simp [hasNull], hb⟩
theorem hasNull_one (v : Va) : hasNull [v] = (v.k == 0) := by simp [hasNull]
set_option maxRecDepth 100000 in
set_option maxHeartbeats 4000000 in
theorem outer_ (d : Int) (c2 : Nat) (A : Option Addr) (c : Nat) (l : List Va) (w : World) (hl : l.length ≤ maxLen) (h : Sl w A l) (hd : w.cell? ⟨c2, 0, none⟩ = some (.int .i64 d)) :
    Calls Tryz.prog 104 #[.slice A l.length c, .pointer (some ⟨c2, 0, none⟩)] w fun e w' => e = .returned (two (outF d nulV l, 0)) ∧ Below w.heap.size w w' := by
  have hl' : l.length ≤ 9223372036854775807 := hl
  have HDD := Lib.hid hd
  have hc2 : c2 < w.heap.size := World.block_lt_of_cell? w _ hd
  go_enter Tryz.func104, Tryz.ntmps104
  go_wp2_with fail
  go_loopw [10] (fun i x => ∃ (j : Nat) (out : Va), j ≤ l.length ∧ i = .int .i64 j ∧ outF d nulV l = outF d out (l.drop j) ∧ KL w x [(w.heap.size + 1, .int .i64 out.k, .int .i64 out.n, .string out.s), (w.heap.size, .int .i64 0, .int .i64 0, .string ⟨#[]⟩)]) (fun i x => l.length - (intOf i).toNat)
  case atStart => exact ⟨0, nulV, Nat.zero_le _, rfl, by simp, ((KL.refl w).push _ _ _ 27).push' _ (sz1 _ _) _ _ _ 27⟩
  case round =>
    obtain ⟨j, out, hj, rfl, hI, hK⟩ := hrel
    have HI := Lib.hid hI
    have KX := Lib.hid hK
    clear hI hK
    obtain ⟨HB, ⟨o0, o1, o2, oe0, oe1, oe2, ol⟩, ⟨r0, r1, r2, g0, g1, g2, rl⟩, _⟩ := KX.out
    by_cases hlt : j < l.length
    · have HD0 := outF_drop d out l j hlt
      obtain ⟨b, off, rfl, hb, c0, c1, c2'⟩ := (h.below HB) j _ (List.getElem?_eq_getElem hlt)
      clear h
      generalize l[j] = v at *
      have HD := Lib.hid HD0
      clear HD0
      cases q1 : v.k == 0
      · cases q2 : out.k == 0
        · cases q3 : cmpV v.k v.n v.s out.n out.s == d
          · have HT : Hid (takesO d v out = false) := Lib.hid (by unfold takesO; rw [q1, q2, q3]; rfl)
            go_upto_region 5 with fail
            have KO := Lib.hid (KL.push KX.out (.int .i64 v.k) (.int .i64 v.n) (.string v.s) 27)
            clear o0 o1 o2 oe0 oe1 oe2 ol r0 r1 r2 g0 g1 g2 rl c0 c1 c2' hd hb HB
            obtain ⟨HB0, ⟨v0, v1, v2, f0, f1, f2, vl⟩, ⟨o0, o1, o2, oe0, oe1, oe2, ol⟩, ⟨r0, r1, r2, g0, g1, g2, rl⟩, _⟩ := KO.out
            have hU : undef = Value.tuple #[] := rfl
            first | (go_region_with (first
              | (go_at_call 41; refine (someN1 _ _ v.k v.n v.s (by first | exact sl1' _ _ rfl _ _ _ | exact sl1' _ _ (sz1 _ _) _ _ _ | exact Sl.drew (sl1' _ _ rfl _ _ _) | exact Sl.drew (sl1' _ _ (sz1 _ _) _ _ _))).mono ?_; rintro e y ⟨rfl, hb⟩; rw [q1]; have KH := Lib.hid (KL.below (KL.below KO.out (new1 _ _).drew) hb); clear hb HB0 v0 v1 v2 f0 f1 f2 vl o0 o1 o2 oe0 oe1 oe2 ol r0 r1 r2 g0 g1 g2 rl; obtain ⟨HB, ⟨v0, v1, v2, f0, f1, f2, vl⟩, ⟨o0, o1, o2, oe0, oe1, oe2, ol⟩, ⟨r0, r1, r2, g0, g1, g2, rl⟩, _⟩ := KH.out; have hdx := (bcell HB c2 0 hc2).trans HDD.out)
              | (go_at_call 41; refine (someN1 _ _ out.k out.n out.s (by first | exact sl1' _ _ rfl _ _ _ | exact sl1' _ _ (sz1 _ _) _ _ _ | exact Sl.drew (sl1' _ _ rfl _ _ _) | exact Sl.drew (sl1' _ _ (sz1 _ _) _ _ _))).mono ?_; rintro e y2 ⟨rfl, hb⟩; rw [q2]; have KH2 := Lib.hid (KL.below (KL.alloc KH.out _) hb); clear hb KH HB v0 v1 v2 f0 f1 f2 vl o0 o1 o2 oe0 oe1 oe2 ol r0 r1 r2 g0 g1 g2 rl hdx; have KH := KH2; clear KH2; obtain ⟨HB, ⟨v0, v1, v2, f0, f1, f2, vl⟩, ⟨o0, o1, o2, oe0, oe1, oe2, ol⟩, ⟨r0, r1, r2, g0, g1, g2, rl⟩, _⟩ := KH.out; have hdx := (bcell HB c2 0 hc2).trans HDD.out)
              | (go_at_call 61; refine (compare_ _ _ _ _ _ _ _).mono ?_; rintro e y3 ⟨rfl, hb⟩; have KH2 := Lib.hid (KL.below KH.out hb); clear hb KH HB v0 v1 v2 f0 f1 f2 vl o0 o1 o2 oe0 oe1 oe2 ol r0 r1 r2 g0 g1 g2 rl hdx; have KH := KH2; clear KH2; obtain ⟨HB, ⟨v0, v1, v2, f0, f1, f2, vl⟩, ⟨o0, o1, o2, oe0, oe1, oe2, ol⟩, ⟨r0, r1, r2, g0, g1, g2, rl⟩, _⟩ := KH.out; have hdx := (bcell HB c2 0 hc2).trans HDD.out))) | fail
            all_goals (simp only [← hU]; clear hU)
            all_goals go_wp2_with fail
            all_goals go_roundw
            all_goals first | exact ⟨j + 1, out, by omega, by go_num, by rw [HI.out, HD.out, HT.out]; rfl, KH.out.tail⟩ | (simp [intOf]; omega)
          · have HT : Hid (takesO d v out = true) := Lib.hid (by unfold takesO; rw [q1, q2, q3]; rfl)
            go_upto_region 5 with fail
            have KO := Lib.hid (KL.push KX.out (.int .i64 v.k) (.int .i64 v.n) (.string v.s) 27)
            clear o0 o1 o2 oe0 oe1 oe2 ol r0 r1 r2 g0 g1 g2 rl c0 c1 c2' hd hb HB
            obtain ⟨HB0, ⟨v0, v1, v2, f0, f1, f2, vl⟩, ⟨o0, o1, o2, oe0, oe1, oe2, ol⟩, ⟨r0, r1, r2, g0, g1, g2, rl⟩, _⟩ := KO.out
            have hU : undef = Value.tuple #[] := rfl
            first | (go_region_with (first
              | (go_at_call 41; refine (someN1 _ _ v.k v.n v.s (by first | exact sl1' _ _ rfl _ _ _ | exact sl1' _ _ (sz1 _ _) _ _ _ | exact Sl.drew (sl1' _ _ rfl _ _ _) | exact Sl.drew (sl1' _ _ (sz1 _ _) _ _ _))).mono ?_; rintro e y ⟨rfl, hb⟩; rw [q1]; have KH := Lib.hid (KL.below (KL.below KO.out (new1 _ _).drew) hb); clear hb HB0 v0 v1 v2 f0 f1 f2 vl o0 o1 o2 oe0 oe1 oe2 ol r0 r1 r2 g0 g1 g2 rl; obtain ⟨HB, ⟨v0, v1, v2, f0, f1, f2, vl⟩, ⟨o0, o1, o2, oe0, oe1, oe2, ol⟩, ⟨r0, r1, r2, g0, g1, g2, rl⟩, _⟩ := KH.out; have hdx := (bcell HB c2 0 hc2).trans HDD.out)
              | (go_at_call 41; refine (someN1 _ _ out.k out.n out.s (by first | exact sl1' _ _ rfl _ _ _ | exact sl1' _ _ (sz1 _ _) _ _ _ | exact Sl.drew (sl1' _ _ rfl _ _ _) | exact Sl.drew (sl1' _ _ (sz1 _ _) _ _ _))).mono ?_; rintro e y2 ⟨rfl, hb⟩; rw [q2]; have KH2 := Lib.hid (KL.below (KL.alloc KH.out _) hb); clear hb KH HB v0 v1 v2 f0 f1 f2 vl o0 o1 o2 oe0 oe1 oe2 ol r0 r1 r2 g0 g1 g2 rl hdx; have KH := KH2; clear KH2; obtain ⟨HB, ⟨v0, v1, v2, f0, f1, f2, vl⟩, ⟨o0, o1, o2, oe0, oe1, oe2, ol⟩, ⟨r0, r1, r2, g0, g1, g2, rl⟩, _⟩ := KH.out; have hdx := (bcell HB c2 0 hc2).trans HDD.out)
              | (go_at_call 61; refine (compare_ _ _ _ _ _ _ _).mono ?_; rintro e y3 ⟨rfl, hb⟩; have KH2 := Lib.hid (KL.below KH.out hb); clear hb KH HB v0 v1 v2 f0 f1 f2 vl o0 o1 o2 oe0 oe1 oe2 ol r0 r1 r2 g0 g1 g2 rl hdx; have KH := KH2; clear KH2; obtain ⟨HB, ⟨v0, v1, v2, f0, f1, f2, vl⟩, ⟨o0, o1, o2, oe0, oe1, oe2, ol⟩, ⟨r0, r1, r2, g0, g1, g2, rl⟩, _⟩ := KH.out; have hdx := (bcell HB c2 0 hc2).trans HDD.out))) | fail
            all_goals (simp only [← hU]; clear hU)
            all_goals go_wp2_with fail
            all_goals go_roundw
            all_goals first | exact ⟨j + 1, v, by omega, by go_num, by rw [HI.out, HD.out, HT.out]; rfl, KH.out.tail.set (by omega) (by simp) (.int .i64 v.k) (.int .i64 v.n) (.string v.s)⟩ | (simp [intOf]; omega)
        · have HT : Hid (takesO d v out = true) := Lib.hid (by unfold takesO; rw [q1, q2]; rfl)
          go_upto_region 5 with fail
          have KO := Lib.hid (KL.push KX.out (.int .i64 v.k) (.int .i64 v.n) (.string v.s) 27)
          clear o0 o1 o2 oe0 oe1 oe2 ol r0 r1 r2 g0 g1 g2 rl c0 c1 c2' hd hb HB
          obtain ⟨HB0, ⟨v0, v1, v2, f0, f1, f2, vl⟩, ⟨o0, o1, o2, oe0, oe1, oe2, ol⟩, ⟨r0, r1, r2, g0, g1, g2, rl⟩, _⟩ := KO.out
          have hU : undef = Value.tuple #[] := rfl
          first | (go_region_with (first
            | (go_at_call 41; refine (someN1 _ _ v.k v.n v.s (by first | exact sl1' _ _ rfl _ _ _ | exact sl1' _ _ (sz1 _ _) _ _ _ | exact Sl.drew (sl1' _ _ rfl _ _ _) | exact Sl.drew (sl1' _ _ (sz1 _ _) _ _ _))).mono ?_; rintro e y ⟨rfl, hb⟩; rw [q1]; have KH := Lib.hid (KL.below (KL.below KO.out (new1 _ _).drew) hb); clear hb HB0 v0 v1 v2 f0 f1 f2 vl o0 o1 o2 oe0 oe1 oe2 ol r0 r1 r2 g0 g1 g2 rl; obtain ⟨HB, ⟨v0, v1, v2, f0, f1, f2, vl⟩, ⟨o0, o1, o2, oe0, oe1, oe2, ol⟩, ⟨r0, r1, r2, g0, g1, g2, rl⟩, _⟩ := KH.out; have hdx := (bcell HB c2 0 hc2).trans HDD.out)
            | (go_at_call 41; refine (someN1 _ _ out.k out.n out.s (by first | exact sl1' _ _ rfl _ _ _ | exact sl1' _ _ (sz1 _ _) _ _ _ | exact Sl.drew (sl1' _ _ rfl _ _ _) | exact Sl.drew (sl1' _ _ (sz1 _ _) _ _ _))).mono ?_; rintro e y2 ⟨rfl, hb⟩; rw [q2]; have KH2 := Lib.hid (KL.below (KL.alloc KH.out _) hb); clear hb KH HB v0 v1 v2 f0 f1 f2 vl o0 o1 o2 oe0 oe1 oe2 ol r0 r1 r2 g0 g1 g2 rl hdx; have KH := KH2; clear KH2; obtain ⟨HB, ⟨v0, v1, v2, f0, f1, f2, vl⟩, ⟨o0, o1, o2, oe0, oe1, oe2, ol⟩, ⟨r0, r1, r2, g0, g1, g2, rl⟩, _⟩ := KH.out; have hdx := (bcell HB c2 0 hc2).trans HDD.out)
            | (go_at_call 61; refine (compare_ _ _ _ _ _ _ _).mono ?_; rintro e y3 ⟨rfl, hb⟩; have KH2 := Lib.hid (KL.below KH.out hb); clear hb KH HB v0 v1 v2 f0 f1 f2 vl o0 o1 o2 oe0 oe1 oe2 ol r0 r1 r2 g0 g1 g2 rl hdx; have KH := KH2; clear KH2; obtain ⟨HB, ⟨v0, v1, v2, f0, f1, f2, vl⟩, ⟨o0, o1, o2, oe0, oe1, oe2, ol⟩, ⟨r0, r1, r2, g0, g1, g2, rl⟩, _⟩ := KH.out; have hdx := (bcell HB c2 0 hc2).trans HDD.out))) | fail
          all_goals (simp only [← hU]; clear hU)
          all_goals go_wp2_with fail
          all_goals go_roundw
          all_goals first | exact ⟨j + 1, v, by omega, by go_num, by rw [HI.out, HD.out, HT.out]; rfl, KH.out.tail.set (by omega) (by simp) (.int .i64 v.k) (.int .i64 v.n) (.string v.s)⟩ | (simp [intOf]; omega)
      · have HT : Hid (takesO d v out = false) := Lib.hid (by unfold takesO; rw [q1]; rfl)
        go_upto_region 5 with fail
        have KO := Lib.hid (KL.push KX.out (.int .i64 v.k) (.int .i64 v.n) (.string v.s) 27)
        clear o0 o1 o2 oe0 oe1 oe2 ol r0 r1 r2 g0 g1 g2 rl c0 c1 c2' hd hb HB
        obtain ⟨HB0, ⟨v0, v1, v2, f0, f1, f2, vl⟩, ⟨o0, o1, o2, oe0, oe1, oe2, ol⟩, ⟨r0, r1, r2, g0, g1, g2, rl⟩, _⟩ := KO.out
        have hU : undef = Value.tuple #[] := rfl
        first | (go_region_with (first
          | (go_at_call 41; refine (someN1 _ _ v.k v.n v.s (by first | exact sl1' _ _ rfl _ _ _ | exact sl1' _ _ (sz1 _ _) _ _ _ | exact Sl.drew (sl1' _ _ rfl _ _ _) | exact Sl.drew (sl1' _ _ (sz1 _ _) _ _ _))).mono ?_; rintro e y ⟨rfl, hb⟩; rw [q1]; have KH := Lib.hid (KL.below (KL.below KO.out (new1 _ _).drew) hb); clear hb HB0 v0 v1 v2 f0 f1 f2 vl o0 o1 o2 oe0 oe1 oe2 ol r0 r1 r2 g0 g1 g2 rl; obtain ⟨HB, ⟨v0, v1, v2, f0, f1, f2, vl⟩, ⟨o0, o1, o2, oe0, oe1, oe2, ol⟩, ⟨r0, r1, r2, g0, g1, g2, rl⟩, _⟩ := KH.out; have hdx := (bcell HB c2 0 hc2).trans HDD.out))) | fail
        all_goals (simp only [← hU]; clear hU)
        all_goals go_wp2_with fail
        all_goals go_roundw
        all_goals first | exact ⟨j + 1, out, by omega, by go_num, by rw [HI.out, HD.out, HT.out]; rfl, KH.out.tail⟩ | (simp [intOf]; omega)
    · have HE : Hid (outF d nulV l = out) := Lib.hid (by rw [HI.out, List.drop_of_length_le (by omega)]; rfl)
      go_wp2_with fail
      (try simp only [Exit.inBlock, Exit.then])
      exact ret_two rfl rfl KX.out.q.2.1 rfl ⟨by rw [HE.out]; rfl, _root_.Go.Proofs.YthomeplakcbfoaaGreatDoor.set3 HB _ (Nat.le_refl _) _ _ _⟩
end Go.Proofs.YthomeplakcbfoaaGreatDoor
