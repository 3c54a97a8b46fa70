/-
  Contracts: the closure of and and or.
-/
import Derived.Test.YthomeplakcbfoaaGreatDoorG
namespace Go.Proofs.YthomeplakcbfoaaGreatDoor
open Go.RowKit

def juncS (d : Bool) (a b : Va) : Va × Int :=
  if eqV a.k a.n a.s 3 (b2i d) ⟨#[]⟩ = true then (booV d, 0) else if eqV b.k b.n b.s 3 (b2i d) ⟨#[]⟩ = true then (booV d, 0) else if hasNull [a, b] = true then (nulV, 0) else (booV (!d), 0)

theorem sl2 (x : World) (k n : Int) (s : ByteArray) (k' n' : Int) (s' : ByteArray) : Sl (x.alloc (.cells #[.int .i64 k, .int .i64 n, .string s, .int .i64 k', .int .i64 n', .string s'] 27)) (some ⟨x.heap.size, 0, none⟩) [⟨k, n, s⟩, ⟨k', n', s'⟩] := by
  intro i u hu
  match i, hu with
  | 0, hu => cases hu; exact ⟨x.heap.size, 0, rfl, by simp, by simp, by simp, by simp⟩
  | 1, hu => cases hu; exact ⟨x.heap.size, 0, rfl, by simp, by simp, by simp, by simp⟩

theorem K3.drew {w x : World} {b : Nat} {c0 c1 c2 : Value} {b' : Nat} {c0' c1' c2' : Value} {d : Nat} {e0 e1 e2 : Value} (h : K3 w x b c0 c1 c2 b' c0' c1' c2' d e0 e1 e2) : K3 w x.drew b c0 c1 c2 b' c0' c1' c2' d e0 e1 e2 := ⟨h.HB.drew, h.q.drew, h.q'.drew, h.p.drew⟩

set_option maxRecDepth 100000 in
set_option maxHeartbeats 1600000 in
theorem junction1_ (a b : Va) (d : Bool) (c : Nat) (w : World) (c0 : w.cell? ⟨c, 0, none⟩ = some (.bool d)) :
    Calls Tryz.prog 115 #[a.val, b.val, .pointer (some ⟨c, 0, none⟩)] w fun x w' => x = .returned (two (juncS d a b)) ∧ Below w.heap.size w w' := by
  have hlt : c < w.heap.size := World.block_lt_of_cell? w _ c0
  obtain ⟨k, n, s⟩ := a
  obtain ⟨k', n', s'⟩ := b
  have H : Hid (juncS d ⟨k, n, s⟩ ⟨k', n', s'⟩ = if eqV k n s 3 (b2i d) ⟨#[]⟩ = true then (booV d, 0) else if eqV k' n' s' 3 (b2i d) ⟨#[]⟩ = true then (booV d, 0) else if hasNull [⟨k, n, s⟩, ⟨k', n', s'⟩] = true then (nulV, 0) else (booV (!d), 0)) := Lib.hid rfl
  have HB3 := Lib.hid ((new2 w (.cells #[.int .i64 k, .int .i64 n, .string s] 27) (.cells #[.int .i64 k', .int .i64 n', .string s'] 27)).alloc (by simp; omega) (.cells #[.int .i64 0, .int .i64 0, .string ⟨#[]⟩] 27))
  have hc' := (bcell HB3.out c 0 hlt).trans c0
  have KX : Hid (K3 w (((w.alloc (.cells #[.int .i64 k, .int .i64 n, .string s] 27)).alloc (.cells #[.int .i64 k', .int .i64 n', .string s'] 27)).alloc (.cells #[.int .i64 0, .int .i64 0, .string ⟨#[]⟩] 27)) w.heap.size (.int .i64 k) (.int .i64 n) (.string s) (w.heap.size + 1) (.int .i64 k') (.int .i64 n') (.string s') (w.heap.size + 1 + 1) (.int .i64 0) (.int .i64 0) (.string ⟨#[]⟩)) :=
    Lib.hid ⟨HB3.out, ((B3.new w _ _ _ 27).alloc _).alloc _, (B3.new' _ _ (sz1 _ _) _ _ _ 27).alloc _, B3.new' _ _ (sz2 _ _ _) _ _ _ 27⟩
  cases h1 : eqV k n s 3 (b2i d) ⟨#[]⟩
  · rw [h1] at H
    cases h2 : eqV k' n' s' 3 (b2i d) ⟨#[]⟩
    · rw [h2] at H
      cases h3 : hasNull [⟨k, n, s⟩, ⟨k', n', s'⟩]
      · rw [h3] at H
        go_enter Tryz.func115, Tryz.ntmps115
        go_wp2
        go_region_held3 (fun x => (x.cell? ⟨w.heap.size, 0, none⟩ = some (.int .i64 k) ∧ x.cell? ⟨w.heap.size, 1, none⟩ = some (.int .i64 n) ∧ x.cell? ⟨w.heap.size, 2, none⟩ = some (.string s) ∧ x.cell? ⟨w.heap.size + 1, 0, none⟩ = some (.int .i64 k') ∧ x.cell? ⟨w.heap.size + 1, 1, none⟩ = some (.int .i64 n') ∧ x.cell? ⟨w.heap.size + 1, 2, none⟩ = some (.string s') ∧ x.cell? ⟨c, 0, none⟩ = some (.bool d)) ∧ K3 w x w.heap.size (.int .i64 k) (.int .i64 n) (.string s) (w.heap.size + 1) (.int .i64 k') (.int .i64 n') (.string s') (w.heap.size + 1 + 1) (.int .i64 0) (.int .i64 0) (.string ⟨#[]⟩))
          (first | exact ⟨⟨by simp [go_sem], by simp [go_sem], by simp [go_sem], by simp [go_sem], by simp [go_sem], by simp [go_sem], hc'⟩, KX.out.drew⟩ | (obtain ⟨_, KH⟩ := ‹_ ∧ K3 _ _ _ _ _ _ _ _ _ _ _ _ _ _›; have KN := KH.below hb; exact ⟨⟨KN.q.c0, KN.q.c1, KN.q.c2, KN.q'.c0, KN.q'.c1, KN.q'.c2, (bcell KN.HB c 0 hlt).trans c0⟩, KN⟩))
          (first | (go_at_call 60; refine (boolean_ _ _).mono ?_; rintro e w1 ⟨rfl, hb⟩))
        rename_i hH
        obtain ⟨⟨_, _, _, _, _, _, cw⟩, KH⟩ := hH
        have K := Lib.hid KH
        clear KH
        obtain ⟨HB, ⟨v0, v1, v2, _, _, _, vl⟩, ⟨u0, u1, u2, _, _, _, ul⟩, ⟨r0, r1, r2, g0, g1, g2, rl⟩⟩ := K.out
        go_wp2_with (first
          | (go_at_call 41; refine (someNull_ _ _ [⟨k, n, s⟩, ⟨k', n', s'⟩] _ (by simp [maxLen]) (sl2 _ _ _ _ _ _ _)).mono ?_; rintro e y ⟨rfl, hb⟩; have K := Lib.hid (K3.below (K3.alloc (Hid.out (by assumption)) _) hb); clear hb; obtain ⟨HB, ⟨v0, v1, v2, _, _, _, vl⟩, ⟨u0, u1, u2, _, _, _, ul⟩, ⟨r0, r1, r2, g0, g1, g2, rl⟩⟩ := K.out; have cw := (bcell HB c 0 hlt).trans c0)
          | (go_at_call 60; refine (boolean_ _ _).mono ?_; rintro e y ⟨rfl, hb⟩; have K := Lib.hid (K3.below (Hid.out (by assumption)) hb); clear hb; obtain ⟨HB, ⟨v0, v1, v2, _, _, _, vl⟩, ⟨u0, u1, u2, _, _, _, ul⟩, ⟨r0, r1, r2, g0, g1, g2, rl⟩⟩ := K.out))
        (try simp only [Exit.inBlock, Exit.then])
        exact ret_two rfl rfl K.out.p rfl ⟨by rw [H.out]; rfl, set3 HB _ (by omega) _ _ _⟩
      · rw [h3] at H
        go_enter Tryz.func115, Tryz.ntmps115
        go_wp2
        go_region_held3 (fun x => (x.cell? ⟨w.heap.size, 0, none⟩ = some (.int .i64 k) ∧ x.cell? ⟨w.heap.size, 1, none⟩ = some (.int .i64 n) ∧ x.cell? ⟨w.heap.size, 2, none⟩ = some (.string s) ∧ x.cell? ⟨w.heap.size + 1, 0, none⟩ = some (.int .i64 k') ∧ x.cell? ⟨w.heap.size + 1, 1, none⟩ = some (.int .i64 n') ∧ x.cell? ⟨w.heap.size + 1, 2, none⟩ = some (.string s') ∧ x.cell? ⟨c, 0, none⟩ = some (.bool d)) ∧ K3 w x w.heap.size (.int .i64 k) (.int .i64 n) (.string s) (w.heap.size + 1) (.int .i64 k') (.int .i64 n') (.string s') (w.heap.size + 1 + 1) (.int .i64 0) (.int .i64 0) (.string ⟨#[]⟩))
          (first | exact ⟨⟨by simp [go_sem], by simp [go_sem], by simp [go_sem], by simp [go_sem], by simp [go_sem], by simp [go_sem], hc'⟩, KX.out.drew⟩ | (obtain ⟨_, KH⟩ := ‹_ ∧ K3 _ _ _ _ _ _ _ _ _ _ _ _ _ _›; have KN := KH.below hb; exact ⟨⟨KN.q.c0, KN.q.c1, KN.q.c2, KN.q'.c0, KN.q'.c1, KN.q'.c2, (bcell KN.HB c 0 hlt).trans c0⟩, KN⟩))
          (first | (go_at_call 60; refine (boolean_ _ _).mono ?_; rintro e w1 ⟨rfl, hb⟩))
        rename_i hH
        obtain ⟨⟨_, _, _, _, _, _, cw⟩, KH⟩ := hH
        have K := Lib.hid KH
        clear KH
        obtain ⟨HB, ⟨v0, v1, v2, _, _, _, vl⟩, ⟨u0, u1, u2, _, _, _, ul⟩, ⟨r0, r1, r2, g0, g1, g2, rl⟩⟩ := K.out
        go_wp2_with (first
          | (go_at_call 41; refine (someNull_ _ _ [⟨k, n, s⟩, ⟨k', n', s'⟩] _ (by simp [maxLen]) (sl2 _ _ _ _ _ _ _)).mono ?_; rintro e y ⟨rfl, hb⟩; have K := Lib.hid (K3.below (K3.alloc (Hid.out (by assumption)) _) hb); clear hb; obtain ⟨HB, ⟨v0, v1, v2, _, _, _, vl⟩, ⟨u0, u1, u2, _, _, _, ul⟩, ⟨r0, r1, r2, g0, g1, g2, rl⟩⟩ := K.out; have cw := (bcell HB c 0 hlt).trans c0)
          | (go_at_call 60; refine (boolean_ _ _).mono ?_; rintro e y ⟨rfl, hb⟩; have K := Lib.hid (K3.below (Hid.out (by assumption)) hb); clear hb; obtain ⟨HB, ⟨v0, v1, v2, _, _, _, vl⟩, ⟨u0, u1, u2, _, _, _, ul⟩, ⟨r0, r1, r2, g0, g1, g2, rl⟩⟩ := K.out))
        (try simp only [Exit.inBlock, Exit.then])
        exact ret_two rfl rfl K.out.p rfl ⟨by rw [H.out]; rfl, set3 HB _ (by omega) _ _ _⟩
    · rw [h2] at H
      go_enter Tryz.func115, Tryz.ntmps115
      go_wp2
      go_region_held3 (fun x => (x.cell? ⟨w.heap.size, 0, none⟩ = some (.int .i64 k) ∧ x.cell? ⟨w.heap.size, 1, none⟩ = some (.int .i64 n) ∧ x.cell? ⟨w.heap.size, 2, none⟩ = some (.string s) ∧ x.cell? ⟨w.heap.size + 1, 0, none⟩ = some (.int .i64 k') ∧ x.cell? ⟨w.heap.size + 1, 1, none⟩ = some (.int .i64 n') ∧ x.cell? ⟨w.heap.size + 1, 2, none⟩ = some (.string s') ∧ x.cell? ⟨c, 0, none⟩ = some (.bool d)) ∧ K3 w x w.heap.size (.int .i64 k) (.int .i64 n) (.string s) (w.heap.size + 1) (.int .i64 k') (.int .i64 n') (.string s') (w.heap.size + 1 + 1) (.int .i64 0) (.int .i64 0) (.string ⟨#[]⟩))
        (first | exact ⟨⟨by simp [go_sem], by simp [go_sem], by simp [go_sem], by simp [go_sem], by simp [go_sem], by simp [go_sem], hc'⟩, KX.out.drew⟩ | (obtain ⟨_, KH⟩ := ‹_ ∧ K3 _ _ _ _ _ _ _ _ _ _ _ _ _ _›; have KN := KH.below hb; exact ⟨⟨KN.q.c0, KN.q.c1, KN.q.c2, KN.q'.c0, KN.q'.c1, KN.q'.c2, (bcell KN.HB c 0 hlt).trans c0⟩, KN⟩))
        (first | (go_at_call 60; refine (boolean_ _ _).mono ?_; rintro e w1 ⟨rfl, hb⟩))
      rename_i hH
      obtain ⟨⟨_, _, _, _, _, _, cw⟩, KH⟩ := hH
      have K := Lib.hid KH
      clear KH
      obtain ⟨HB, ⟨v0, v1, v2, _, _, _, vl⟩, ⟨u0, u1, u2, _, _, _, ul⟩, ⟨r0, r1, r2, g0, g1, g2, rl⟩⟩ := K.out
      go_wp2_with (first
        | (go_at_call 41; refine (someNull_ _ _ [⟨k, n, s⟩, ⟨k', n', s'⟩] _ (by simp [maxLen]) (sl2 _ _ _ _ _ _ _)).mono ?_; rintro e y ⟨rfl, hb⟩; have K := Lib.hid (K3.below (K3.alloc (Hid.out (by assumption)) _) hb); clear hb; obtain ⟨HB, ⟨v0, v1, v2, _, _, _, vl⟩, ⟨u0, u1, u2, _, _, _, ul⟩, ⟨r0, r1, r2, g0, g1, g2, rl⟩⟩ := K.out; have cw := (bcell HB c 0 hlt).trans c0)
        | (go_at_call 60; refine (boolean_ _ _).mono ?_; rintro e y ⟨rfl, hb⟩; have K := Lib.hid (K3.below (Hid.out (by assumption)) hb); clear hb; obtain ⟨HB, ⟨v0, v1, v2, _, _, _, vl⟩, ⟨u0, u1, u2, _, _, _, ul⟩, ⟨r0, r1, r2, g0, g1, g2, rl⟩⟩ := K.out))
      (try simp only [Exit.inBlock, Exit.then])
      exact ret_two rfl rfl K.out.p rfl ⟨by rw [H.out]; rfl, set3 HB _ (by omega) _ _ _⟩
  · rw [h1] at H
    go_enter Tryz.func115, Tryz.ntmps115
    go_wp2
    go_region_with (go_at_call 60; refine (boolean_ _ _).mono ?_; rintro e w1 ⟨rfl, hb⟩; have q0 := bcell hb w.heap.size 0 (by simp; omega); have q1 := bcell hb w.heap.size 1 (by simp; omega); have q2 := bcell hb w.heap.size 2 (by simp; omega); have q3 := (bcell hb c 0 (by simp; omega)).trans hc')
    all_goals
      have K := Lib.hid ((KX.out.drew).below hb)
      clear hb
      clear q0 q1 q2 q3
      obtain ⟨HB, ⟨v0, v1, v2, _, _, _, vl⟩, ⟨u0, u1, u2, _, _, _, ul⟩, ⟨r0, r1, r2, g0, g1, g2, rl⟩⟩ := K.out
      have cw := (bcell HB c 0 hlt).trans c0
      go_wp2_with (first
        | (go_at_call 41; refine (someNull_ _ _ [⟨k, n, s⟩, ⟨k', n', s'⟩] _ (by simp [maxLen]) (sl2 _ _ _ _ _ _ _)).mono ?_; rintro e y ⟨rfl, hb⟩; have K := Lib.hid (K3.below (K3.alloc (Hid.out (by assumption)) _) hb); clear hb; obtain ⟨HB, ⟨v0, v1, v2, _, _, _, vl⟩, ⟨u0, u1, u2, _, _, _, ul⟩, ⟨r0, r1, r2, g0, g1, g2, rl⟩⟩ := K.out; have cw := (bcell HB c 0 hlt).trans c0)
        | (go_at_call 60; refine (boolean_ _ _).mono ?_; rintro e y ⟨rfl, hb⟩; have K := Lib.hid (K3.below (Hid.out (by assumption)) hb); clear hb; obtain ⟨HB, ⟨v0, v1, v2, _, _, _, vl⟩, ⟨u0, u1, u2, _, _, _, ul⟩, ⟨r0, r1, r2, g0, g1, g2, rl⟩⟩ := K.out))
      (try simp only [Exit.inBlock, Exit.then])
      exact ret_two rfl rfl K.out.p rfl ⟨by rw [H.out]; rfl, set3 HB _ (by omega) _ _ _⟩
end Go.Proofs.YthomeplakcbfoaaGreatDoor
