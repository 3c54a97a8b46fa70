/-
  Contracts: Builtin at nvl; which arguments fit a function; substr; Call at substr.
-/
import Derived.Test.YthomeplakcbfoaaGreatDoorCC
namespace Go.Proofs.YthomeplakcbfoaaGreatDoor
open Go.RowKit

theorem builtin_nvl (w : World) : Calls Tryz.prog 12 #[.string sNvl] w fun e w' => e = .returned (.bool true) ∧ Below w.heap.size w w' := by
  go_enter Tryz.func12, Tryz.ntmps12
  go_wp2_with (first
            | (go_at_call 39; refine (functionOf_nvl _).mono ?_; rintro e y ⟨⟨b6, rfl⟩, hb⟩))
  go_ret
  exact ⟨rfl, hb.alloc hb.size _⟩

def fitsL (l : List Va) : Nat → List Int → Bool
  | _, [] => true
  | i, d :: ks => if (d == 0) = true then oneK 0 l else if oneK d [l.getD i nulV] = false then false else fitsL l (i + 1) ks
theorem fitsL_drop (l : List Va) (ks : List Int) (j : Nat) (h : j < ks.length) :
    fitsL l j (ks.drop j) = if (ks[j] == 0) = true then oneK 0 l else if oneK ks[j] [l.getD j nulV] = false then false else fitsL l (j + 1) (ks.drop (j + 1)) := by
  rw [List.drop_eq_getElem_cons h]; rfl
set_option maxRecDepth 100000 in
set_option maxHeartbeats 800000 in
theorem fits_ (bt : Nat) (ks : List Int) (ct : Nat) (sn : Bool) (g : Nat) (caps : Array Value) (A : Option Addr) (c : Nat) (l : List Va) (w : World) (hl : l.length ≤ maxLen) (h : Sl w A l) (hk : ks.length = l.length)
    (hks : ∀ (i : Nat) (d : Int), ks[i]? = some d → w.cell? ⟨bt, i, none⟩ = some (.int .i64 d)) (hbt : bt < w.heap.size) :
    Calls Tryz.prog 40 #[.agg #[.slice (some ⟨bt, 0, none⟩) ks.length ct, .bool sn, .func (.func g) #[] caps], .slice A l.length c] w fun e w' => e = .returned (.bool (fitsL l 0 ks)) ∧ Below w.heap.size w w' := by
  have hl' : ks.length ≤ 9223372036854775807 := by rw [hk]; exact hl
  have HK := Lib.hid hk
  clear hk
  go_enter Tryz.func40, Tryz.ntmps40
  go_wp2
  go_loopw [10] (fun i x => ∃ j : Nat, j ≤ ks.length ∧ i = .int .i64 j ∧ fitsL l 0 ks = fitsL l j (ks.drop j) ∧ Below w.heap.size w x) (fun i x => ks.length - (intOf i).toNat)
  case atStart => exact ⟨0, Nat.zero_le _, rfl, by simp, new1 _ _⟩
  case round =>
    obtain ⟨j, hj, rfl, hI, hB⟩ := hrel
    have HI := Lib.hid hI
    have HB := Lib.hid hB
    clear hI hB
    by_cases hlt : j < ks.length
    · have hlt2 : j < l.length := by rw [← HK.out]; exact hlt
      have HD0 := fitsL_drop l ks j hlt
      have hcell := (bcell HB.out bt j hbt).trans (hks j _ (List.getElem?_eq_getElem hlt))
      have hls := h.below HB.out
      obtain ⟨b, off, hA, hb, c0, c1, c2⟩ := hls j _ (List.getElem?_eq_getElem hlt2)
      have HA := Lib.hid hA
      clear hA
      rw [show l.getD j nulV = l[j] from by simp [hlt2]] at HD0
      obtain ⟨k', n', s', hv⟩ : ∃ k' n' s', l[j] = ⟨k', n', s'⟩ := ⟨_, _, _, rfl⟩
      rw [hv] at HD0 c0 c1 c2
      clear hv
      obtain ⟨d, hd⟩ : ∃ d, ks[j] = d := ⟨_, rfl⟩
      rw [hd] at HD0 hcell
      clear hd
      simp only at c0 c1 c2
      have HD := Lib.hid HD0
      clear HD0
      cases q1 : d == 0
      · rw [q1] at HD
        have ha := HA.out
        subst ha
        cases q2 : oneK d [⟨k', n', s'⟩]
        · rw [q2] at HD
          go_wp2_with (first
            | (go_at_call 58; refine (oneKind_ _ _ _ [⟨k', n', s'⟩] _ (by simp [maxLen]) (sl1' _ _ rfl _ _ _)).mono ?_; rintro e y ⟨rfl, hb1⟩))
          go_ret
          exact ⟨ret_bool (by rw [HI.out, HD.out]; rfl), HB.out.trans ((new1 _ _).mono HB.out.size |>.trans (hb1.mono (by have := HB.out.size; simp; omega)))⟩
        · rw [q2] at HD
          go_wp2_with (first
            | (go_at_call 58; refine (oneKind_ _ _ _ [⟨k', n', s'⟩] _ (by simp [maxLen]) (sl1' _ _ rfl _ _ _)).mono ?_; rintro e y ⟨rfl, hb1⟩))
          go_roundw
          case rel => exact ⟨j + 1, by omega, by go_num, by rw [HI.out, HD.out]; rfl, HB.out.trans ((new1 _ _).mono HB.out.size |>.trans (hb1.mono (by have := HB.out.size; simp; omega)))⟩
          case measure => simp [intOf]; omega
      · rw [q1] at HD
        obtain rfl : d = 0 := by simpa using q1
        go_wp2_with (first
            | (go_at_call 58; refine (oneKind_ 0 A c l _ hl hls).mono ?_; rintro e y ⟨rfl, hb1⟩))
        go_ret
        exact ⟨ret_bool (by rw [HI.out, HD.out]; rfl), HB.out.trans (hb1.mono HB.out.size)⟩
    · go_wp2
      go_ret
      exact ⟨ret_bool (by rw [HI.out, List.drop_of_length_le (by omega)]; rfl), HB.out⟩

def subF (s : ByteArray) (f : Int) : Nat := (min (max f 1 - 1) (s.size : Int)).toNat
def subM (s : ByteArray) (f m : Int) : Nat := (min (max m 0) ((s.size : Int) - subF s f)).toNat
def subT (s : ByteArray) (f m : Int) : ByteArray := s.extract (subF s f) (subF s f + subM s f m)
set_option maxRecDepth 100000 in
theorem substr_ (s : ByteArray) (f m : Int) (e1 e2 : ByteArray) (hs : s.size ≤ 200) (hf : Small f) (hm : Small m) (k0 n0 k1 k2 : Int) (A : Option Addr) (c : Nat) (w : World) (h : Sl w A [⟨k0, n0, s⟩, ⟨k1, f, e1⟩, ⟨k2, m, e2⟩]) :
    Calls Tryz.prog 68 #[.slice A 3 c] w fun e w' => e = .returned (two (txtV (subT s f m), 0)) ∧ Below w.heap.size w w' := by
  obtain ⟨f1, f2⟩ := hf
  obtain ⟨m1, m2⟩ := hm
  have hF : min (max f 1 - 1) (s.size : Int) = (subF s f : Int) := by unfold subF; omega
  have hM : min (max m 0) ((s.size : Int) - subF s f) = (subM s f m : Int) := by unfold subM subF; omega
  have b1 : subF s f ≤ s.size := by unfold subF; omega
  have b2 : subF s f + subM s f m ≤ s.size := by unfold subM; omega
  obtain ⟨b, off, rfl, hb, x0, x1, x2⟩ := h 0 _ rfl
  obtain ⟨b', off', hA, _, y0, y1, y2⟩ := h 1 _ rfl
  cases hA
  obtain ⟨b', off', hA, _, z0, z1, z2⟩ := h 2 _ rfl
  cases hA
  clear h
  simp only [Nat.zero_mul, Nat.one_mul, Nat.add_zero] at x0 x1 x2 y0 y1 y2 z0 z1 z2
  go_enter Tryz.func68, Tryz.ntmps68
  go_wp2_with (first
            | (go_at_call 81; refine (text_ _ _).mono ?_; rintro e y ⟨rfl, hb⟩; have K : Hid (KL w y [(w.heap.size, .int .i64 0, .int .i64 0, .string ⟨#[]⟩)]) := Lib.hid (KL.below ((KL.refl w).push _ _ _ 27) hb); clear hb; obtain ⟨HB, ⟨r0, r1, r2, g0, g1, g2, rl⟩, _⟩ := K.out))
  (try simp only [Exit.inBlock, Exit.then])
  exact ret_two rfl rfl K.out.q.1 rfl ⟨rfl, _root_.Go.Proofs.YthomeplakcbfoaaGreatDoor.set3 HB _ (Nat.le_refl _) _ _ _⟩

theorem B3.ints {x : World} {b : Nat} {k0 k1 k2 : Int} (h : B3 x b (.int .i64 k0) (.int .i64 k1) (.int .i64 k2)) : ∀ (i : Nat) (d : Int), [k0, k1, k2][i]? = some d → x.cell? ⟨b, i, none⟩ = some (.int .i64 d) := by
  intro i d hd
  match i, hd with
  | 0, hd => cases hd; exact h.c0
  | 1, hd => cases hd; exact h.c1
  | 2, hd => cases hd; exact h.c2
set_option maxRecDepth 100000 in
set_option maxHeartbeats 1000000 in
theorem callSubstr_ (s : ByteArray) (f m : Int) (e1 e2 : ByteArray) (A : Option Addr) (c : Nat) (w : World) (hok : allOk [⟨2, 0, s⟩, ⟨1, f, e1⟩, ⟨1, m, e2⟩] = true) (h : Sl w A [⟨2, 0, s⟩, ⟨1, f, e1⟩, ⟨1, m, e2⟩]) :
    Calls Tryz.prog 8 #[.string sSubstr, .slice A 3 c] w fun e w' => e = .returned (two (txtV (subT s f m), 0)) ∧ Below w.heap.size w w' := by
  obtain ⟨q0, q1, q2⟩ : vld 2 0 s = true ∧ vld 1 f e1 = true ∧ vld 1 m e2 = true := by simpa [allOk, Va.ok] using hok
  have hs := okText_size s (vld_text 2 0 s rfl q0)
  have hf := int_in 1 f e1 rfl q1
  have hm := int_in 1 m e2 rfl q2
  have hnn : hasNull [⟨2, 0, s⟩, ⟨1, f, e1⟩, ⟨1, m, e2⟩] = false := rfl
  have hfit : fitsL [⟨2, 0, s⟩, ⟨1, f, e1⟩, ⟨1, m, e2⟩] 0 [2, 1, 1] = true := rfl
  clear q0 q1 q2
  go_enter Tryz.func8, Tryz.ntmps8
  go_wp2_with (first
            | (go_at_call 38; refine (allValid_ A c [⟨2, 0, s⟩, ⟨1, f, e1⟩, ⟨1, m, e2⟩] _ (by simp [maxLen]) (h.below (new1 w _))).mono ?_; rintro e y ⟨rfl, hb⟩; have K : Hid (KL w y [(w.heap.size, .int .i64 0, .int .i64 0, .string ⟨#[]⟩)]) := Lib.hid (KL.below ((KL.refl w).push _ _ _ 27) hb); clear hb; obtain ⟨HB, ⟨r0, r1, r2, g0, g1, g2, rl⟩, _⟩ := K.out)
            | (go_at_call 39; refine (functionOf_substr _).mono ?_; rintro e y2 ⟨⟨bt, rfl, hbt, hq⟩, hb⟩; have K0 : KL w y2 [(w.heap.size, .int .i64 0, .int .i64 0, .string ⟨#[]⟩)] := KL.below (Hid.out (by assumption)) hb; have K1 : KL w y2 [(bt, .int .i64 2, .int .i64 1, .int .i64 1), (w.heap.size, .int .i64 0, .int .i64 0, .string ⟨#[]⟩)] := ⟨K0.HB, hq, K0.q⟩; have K := Lib.hid (KL.push K1 (.slice (some ⟨bt, 0, none⟩) 3 3) (.bool false) (fnP 68) 61); clear hb hq K0 K1; obtain ⟨HB, ⟨p0, p1, p2, _, _, _, pl⟩, ⟨t0, t1, t2, _, _, _, tl⟩, ⟨r0, r1, r2, g0, g1, g2, rl⟩, _⟩ := K.out)
            | (go_at_call 40; refine (fits_ bt [2, 1, 1] 3 false 68 #[] A c [⟨2, 0, s⟩, ⟨1, f, e1⟩, ⟨1, m, e2⟩] _ (by simp [maxLen]) (h.below HB) rfl (B3.ints K.out.q.2.1) tl).mono ?_; rintro e y3 ⟨rfl, hb⟩; have K := Lib.hid (KL.below (Hid.out (by assumption)) hb); clear hb; obtain ⟨HB, ⟨p0, p1, p2, _, _, _, pl⟩, ⟨t0, t1, t2, _, _, _, tl⟩, ⟨r0, r1, r2, g0, g1, g2, rl⟩, _⟩ := K.out)
            | (go_at_call 41; refine (someNull_ A c [⟨2, 0, s⟩, ⟨1, f, e1⟩, ⟨1, m, e2⟩] _ (by simp [maxLen]) (h.below HB)).mono ?_; rintro e y3 ⟨rfl, hb⟩; have K := Lib.hid (KL.below (Hid.out (by assumption)) hb); clear hb; obtain ⟨HB, ⟨p0, p1, p2, _, _, _, pl⟩, ⟨t0, t1, t2, _, _, _, tl⟩, ⟨r0, r1, r2, g0, g1, g2, rl⟩, _⟩ := K.out)
            | (go_at_call 68; refine (substr_ s f m e1 e2 hs hf hm _ _ _ _ A c _ (h.below HB)).mono ?_; rintro e y3 ⟨rfl, hb⟩; have K := Lib.hid (KL.below (Hid.out (by assumption)) hb); clear hb; obtain ⟨HB, ⟨p0, p1, p2, _, _, _, pl⟩, ⟨t0, t1, t2, _, _, _, tl⟩, ⟨r0, r1, r2, g0, g1, g2, rl⟩, _⟩ := K.out))
  (try simp only [Exit.inBlock, Exit.then])
  exact ret_two rfl rfl K.out.q.2.2.1 rfl ⟨rfl, _root_.Go.Proofs.YthomeplakcbfoaaGreatDoor.set3 HB _ (Nat.le_refl _) _ _ _⟩

end Go.Proofs.YthomeplakcbfoaaGreatDoor
