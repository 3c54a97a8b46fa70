/-
  Contracts of layer 2.
-/
import Derived.Test.YthomeplakcbfoaaGreatDoorRC
import Derived.Lib.OthersKept
import Derived.Shelf.Strings.BuilderK
import Derived.Shelf.Strings.BuilderRune
import Derived.Test.YthomeplakcbfoaaGreatDoorDD
import Derived.Test.YthomeplakcbfoaaGreatDoorGv
namespace Go.Proofs.YthomeplakcbfoaaGreatDoor
section
section
open Go.RowKit Go.Lib

def wrRen : Go.Shelf.Ren := ⟨fun | 168 => 130 | 169 => 111 | 240 => 137 | 242 => 149 | 276 => 155 | 278 => 164 | n => n, fun | 0 => 0 | 3 => 3 | 4 => 4 | 5 => 5 | 9 => 9 | 20 => 20 | 21 => 21 | 37 => 75 | 46 => 154 | 51 => 152 | 70 => 111 | 72 => 113 | 75 => 97 | 80 => 117 | 127 => 141 | 164 => 156 | n => n, fun | n => n⟩
theorem wr168 : Go.Proofs.Lays.n168 Tryz.prog wrRen := {
  mixed := by kernel_rfl
  f168 := Tryz.func130.trans (congrArg some (by kernel_rfl))
  f240 := Tryz.func137.trans (congrArg some (by kernel_rfl))
  f242 := Tryz.func149.trans (congrArg some (by kernel_rfl))
  f276 := Tryz.func155.trans (congrArg some (by kernel_rfl))
  f278 := Tryz.func164.trans (congrArg some (by kernel_rfl))
  t0 := Tryz.underlying0
  a0 := Tryz.isAgg0
  z0 := Tryz.sizeOf0
  v0 := Tryz.zeroValue0
  t3 := Tryz.underlying3
  a3 := Tryz.isAgg3
  z3 := Tryz.sizeOf3
  v3 := Tryz.zeroValue3
  t4 := Tryz.underlying4
  a4 := Tryz.isAgg4
  z4 := Tryz.sizeOf4
  v4 := Tryz.zeroValue4
  t5 := Tryz.underlying5
  a5 := Tryz.isAgg5
  z5 := Tryz.sizeOf5
  v5 := Tryz.zeroValue5
  t9 := Tryz.underlying9
  a9 := Tryz.isAgg9
  z9 := Tryz.sizeOf9
  v9 := Tryz.zeroValue9
  t20 := Tryz.underlying20
  a20 := Tryz.isAgg20
  z20 := Tryz.sizeOf20
  v20 := Tryz.zeroValue20
  t21 := Tryz.underlying21
  a21 := Tryz.isAgg21
  z21 := Tryz.sizeOf21
  v21 := Tryz.zeroValue21
  t37 := Tryz.underlying75
  a37 := Tryz.isAgg75
  z37 := Tryz.sizeOf75
  v37 := Tryz.zeroValue75
  t46 := Tryz.underlying154
  a46 := Tryz.isAgg154
  z46 := Tryz.sizeOf154
  v46 := Tryz.zeroValue154
  t51 := Tryz.underlying152
  a51 := Tryz.isAgg152
  z51 := Tryz.sizeOf152
  v51 := Tryz.zeroValue152
  t70 := Tryz.underlying111
  a70 := Tryz.isAgg111
  z70 := Tryz.sizeOf111
  v70 := Tryz.zeroValue111
  t72 := Tryz.underlying113
  a72 := Tryz.isAgg113
  z72 := Tryz.sizeOf113
  v72 := Tryz.zeroValue113
  t75 := Tryz.underlying97
  a75 := Tryz.isAgg97
  z75 := Tryz.sizeOf97
  v75 := Tryz.zeroValue97
  t164 := Tryz.underlying156
  a164 := Tryz.isAgg156
  z164 := Tryz.sizeOf156
  v164 := Tryz.zeroValue156 }
theorem wr169 : Go.Proofs.Lays.n169 Tryz.prog wrRen := {
  mixed := by kernel_rfl
  f169 := Tryz.func111.trans (congrArg some (by kernel_rfl))
  t0 := Tryz.underlying0
  a0 := Tryz.isAgg0
  z0 := Tryz.sizeOf0
  v0 := Tryz.zeroValue0
  t3 := Tryz.underlying3
  a3 := Tryz.isAgg3
  z3 := Tryz.sizeOf3
  v3 := Tryz.zeroValue3
  t9 := Tryz.underlying9
  a9 := Tryz.isAgg9
  z9 := Tryz.sizeOf9
  v9 := Tryz.zeroValue9
  t37 := Tryz.underlying75
  a37 := Tryz.isAgg75
  z37 := Tryz.sizeOf75
  v37 := Tryz.zeroValue75
  t70 := Tryz.underlying111
  a70 := Tryz.isAgg111
  z70 := Tryz.sizeOf111
  v70 := Tryz.zeroValue111
  t72 := Tryz.underlying113
  a72 := Tryz.isAgg113
  z72 := Tryz.sizeOf113
  v72 := Tryz.zeroValue113
  t127 := Tryz.underlying141
  a127 := Tryz.isAgg141
  z127 := Tryz.sizeOf141
  v127 := Tryz.zeroValue141 }
theorem wrX : Builder.Extra Tryz.prog wrRen := {
  sizeBuilder := by kernel_rfl
  liesBuilder := by kernel_rfl
  t5 := Tryz.underlying5
  a5 := Tryz.isAgg5
  z5 := Tryz.sizeOf5
  v5 := Tryz.zeroValue5
  infoByte := by kernel_rfl
  cellsByte := by kernel_rfl
  sizeByte := by kernel_rfl
  neB5 := by decide }
/-- A builder of the call's own, with its bytes; it may have been read. -/
def Bf (B b : Nat) (l : List UInt8) (w : World) : Prop := Lib.IsBuilderF 113 5 B b (Lib.byteCells l) w
theorem Bf.fresh (w : World) : Bf w.heap.size w.heap.size [] (w.alloc (.cells #[.pointer none, .slice none 0 0] 113)) := Lib.IsBuilderF.of (Lib.fresh_isBuilder 113 5 w)
theorem Bf.alloc {B b : Nat} {l : List UInt8} {w : World} (h : Bf B b l w) (o : Obj) : Bf B b l (w.alloc o) := Lib.IsBuilderF.alloc h o
theorem Bf.iterAt {B b : Nat} {l : List UInt8} {w : World} (h : Bf B b l w) {k : Nat} {s : ByteArray} {pos : Nat} (hk : w.heap[k]? = some (.stringIter s pos)) (pos' : Nat) : Bf B b l (w.iterAt k s pos') := Lib.IsBuilderF.iterAt h hk pos'
/-- A builder with a rune behind what it had. -/
def BfR (B b : Nat) (l : List UInt8) (r : Int) (w : World) : Prop := Lib.BuilderAtF 113 5 B b (.pointer (some ⟨b, 0, none⟩)) (Lib.byteCells l ++ Lib.runeCells r) w
theorem BfR.rune {B b : Nat} {l : List UInt8} {r : Int} {w : World} (h : BfR B b l r w) (c : UInt8) (hc : c.toNat < 128) (hr : (c.toNat : Int) = r) : Bf B b (l ++ [c]) w := by
  refine Or.inr ?_
  have e : Lib.byteCells (l ++ [c]) = Lib.byteCells l ++ Lib.runeCells r := by
    rw [Lib.byteCells_append]
    congr 1
    unfold Lib.runeCells
    rw [Lib.encodeRuneZ_one (by omega) (by omega), ← hr]
    simp [Lib.byteCells]
  rw [e]
  exact h
theorem bfRune (B b : Nat) (l : List UInt8) (r : Int) (h0 : -2147483648 ≤ r) (h1 : r ≤ 2147483647) (w : World) (h : Bf B b l w) (hlen : l.length + 4 ≤ 140737488355328) (hBw : B ≤ w.heap.size) :
    Calls Tryz.prog 130 #[.pointer (some ⟨b, 0, none⟩), .int .i32 r] w fun e w' => e = .returned (.tuple #[.int .i64 (Lib.runeCells r).length, .nilIface]) ∧ BfR B b l r w' ∧ Below B w w' ∧ Lib.OthersKept 5 (some b) w w' :=
  Any.Builder_WriteRune_k wr168 wrX B b (Lib.byteCells l) r h0 h1 w h (by rw [Lib.byteCells_length]; exact hlen) hBw
theorem bfString (B b : Nat) (l : List UInt8) (w : World) (h : Bf B b l w) (hBw : B ≤ w.heap.size) :
    Calls Tryz.prog 111 #[.pointer (some ⟨b, 0, none⟩)] w fun e w' => e = .returned (.string (baOf l)) ∧ Below B w w' :=
  (Any.Builder_String_any_k wr169 wrX B b l w h hBw).mono fun _ _ ⟨h1, _, h3, _⟩ => ⟨h1, h3⟩
set_option maxRecDepth 100000 in
set_option maxHeartbeats 4000000 in
theorem shiftU_ (s : ByteArray) (hs : s.size ≤ 200) (hok : ∀ (k : Nat) (h : k < s.size), (s[k]'h).toNat < 128) (w : World) : Calls Tryz.prog 96 #[.string s, .int .i32 97, .int .i32 65] w fun e w' => e = .returned (.string (baOf (s.data.toList.map upperB))) ∧ Below w.heap.size w w' := by
  have HOK := Lib.hid hok
  clear hok
  have HSZ : Hid (s.data.toList.length = s.size) := Lib.hid (by simp)
  go_enter Tryz.func96, Tryz.ntmps96
  go_wp2
  go_loopw [] (fun wr => ∃ (pos : Nat), pos ≤ s.size ∧ Bf w.heap.size w.heap.size ((s.data.toList.take pos).map upperB) wr ∧ wr.heap[w.heap.size + 1]? = some (.stringIter s pos) ∧ Below w.heap.size w wr) (fun wr => s.size - wr.iterPos (w.heap.size + 1))
  case atStart =>
    refine ⟨0, Nat.zero_le _, (Bf.fresh w).alloc _, ?_, ((Below.refl _ w).alloc (Nat.le_refl _) _).alloc (by simp) _⟩
    have := World.iter_heap (w.alloc (.cells #[.pointer none, .slice none 0 0] 113)) s 0
    simpa using this
  case round =>
    obtain ⟨pos, hps, hI, hit, hbw⟩ := hrel
    have hsz : w.heap.size + 1 < wr.heap.size := (Array.getElem?_eq_some_iff.1 hit).1
    by_cases hp : pos < s.size
    · have hpl : pos < s.data.toList.length := by rw [HSZ.out]; exact hp
      have ha := HOK.out pos hp
      have hnx := fun ty => Lib.run_next_ascii_at (P := Tryz.prog) wr (w.heap.size + 1) s pos ty hit hp ha
      have HI2 := Lib.hid (hI.iterAt hit (pos + 1))
      have HT2 := Lib.hid (Lib.iterAt_heap wr (w.heap.size + 1) s pos (pos + 1) hit)
      have HB2 := Lib.hid (Lib.below_iterAt hbw (k := w.heap.size + 1) (by omega) s (pos + 1))
      have hsz2 : w.heap.size ≤ (wr.iterAt (w.heap.size + 1) s (pos + 1)).heap.size := by rw [Lib.iterAt_size]; omega
      have HE : Hid (s.data.toList[pos] = s[pos]) := Lib.hid (by rfl)
      have HT : Hid ((s.data.toList.take (pos + 1)).map upperB = (s.data.toList.take pos).map upperB ++ [upperB s[pos]]) := Lib.hid (by rw [List.take_succ_eq_append_getElem hpl, List.map_append, HE.out]; rfl)
      have hel : ((s.data.toList.take pos).map upperB).length ≤ 200 := by rw [List.length_map, List.length_take]; omega
      have HEL := Lib.hid hel
      have HIT := Lib.hid hit
      clear hel hit hI
      generalize (s.data.toList.take pos).map upperB = L at *
      have HW := Lib.hid fun r h0 h1 x hx hlen hb => bfRune w.heap.size w.heap.size L r h0 h1 x hx hlen hb
      by_cases h1 : 97 ≤ s[pos].toNat ∧ s[pos].toNat ≤ 122
      · have p1 : (97 : Int) ≤ s[pos].toNat := by omega
        have p2 : (s[pos].toNat : Int) < 123 := by omega
        have HC : Hid ((upperB s[pos]).toNat = s[pos].toNat - 32) := Lib.hid (by unfold upperB; rw [if_pos h1, UInt8.toNat_ofNat']; omega)
        have hcl : (upperB s[pos]).toNat < 128 := by rw [HC.out]; omega
        go_wp2_with (first
          | (go_at_call 130; refine (HW.out _ (by omega) (by omega) _ HI2.out (by have := HEL.out; omega) hsz2).mono ?_; rintro e W1 ⟨rfl, h1, b1, k1⟩))
        go_wp2
        go_roundw
        case rel =>
          refine ⟨pos + 1, by omega, ?_, k1.iter HT2.out (by omega), HB2.out.trans b1⟩
          rw [HT.out]
          exact h1.rune (upperB s[pos]) hcl (by rw [HC.out]; omega)
        case measure =>
          simp only [World.iterPos, k1.iter HT2.out (by omega), HIT.out]
          omega
      · have HC : Hid (upperB s[pos] = s[pos]) := Lib.hid (by unfold upperB; rw [if_neg h1])
        rw [HC.out] at HT
        have hor : (s[pos].toNat : Int) < 97 ∨ ((97 : Int) ≤ s[pos].toNat ∧ ¬ (s[pos].toNat : Int) < 123) := by omega
        clear h1 HC
        rcases hor with p1 | ⟨p1, p2⟩
        all_goals
          go_wp2_with (first
            | (go_at_call 130; refine (HW.out _ (by omega) (by omega) _ HI2.out (by have := HEL.out; omega) hsz2).mono ?_; rintro e W1 ⟨rfl, h1, b1, k1⟩))
          go_wp2
          go_roundw
          case rel =>
            refine ⟨pos + 1, by omega, ?_, k1.iter HT2.out (by omega), HB2.out.trans b1⟩
            rw [HT.out]
            exact h1.rune s[pos] ha rfl
          case measure =>
            simp only [World.iterPos, k1.iter HT2.out (by omega), HIT.out]
            omega
    · have hnx := fun ty => Lib.run_next_end_at (P := Tryz.prog) wr (w.heap.size + 1) s pos ty hit hp
      have HK : Hid (s.data.toList.take pos = s.data.toList) := Lib.hid (List.take_of_length_le (by rw [HSZ.out]; omega))
      have HI := Lib.hid hI
      clear hI
      rw [HK.out] at HI
      go_wp2_with (first | (go_at_call 111; refine (bfString w.heap.size w.heap.size _ _ HI.out (by omega)).mono ?_; rintro e W1 ⟨rfl, b1⟩))
      go_wp2
      go_ret
      exact ⟨rfl, hbw.trans b1⟩
set_option maxRecDepth 100000 in
set_option maxHeartbeats 4000000 in
theorem shiftL_ (s : ByteArray) (hs : s.size ≤ 200) (hok : ∀ (k : Nat) (h : k < s.size), (s[k]'h).toNat < 128) (w : World) : Calls Tryz.prog 96 #[.string s, .int .i32 65, .int .i32 97] w fun e w' => e = .returned (.string (baOf (s.data.toList.map lowerB))) ∧ Below w.heap.size w w' := by
  have HOK := Lib.hid hok
  clear hok
  have HSZ : Hid (s.data.toList.length = s.size) := Lib.hid (by simp)
  go_enter Tryz.func96, Tryz.ntmps96
  go_wp2
  go_loopw [] (fun wr => ∃ (pos : Nat), pos ≤ s.size ∧ Bf w.heap.size w.heap.size ((s.data.toList.take pos).map lowerB) wr ∧ wr.heap[w.heap.size + 1]? = some (.stringIter s pos) ∧ Below w.heap.size w wr) (fun wr => s.size - wr.iterPos (w.heap.size + 1))
  case atStart =>
    refine ⟨0, Nat.zero_le _, (Bf.fresh w).alloc _, ?_, ((Below.refl _ w).alloc (Nat.le_refl _) _).alloc (by simp) _⟩
    have := World.iter_heap (w.alloc (.cells #[.pointer none, .slice none 0 0] 113)) s 0
    simpa using this
  case round =>
    obtain ⟨pos, hps, hI, hit, hbw⟩ := hrel
    have hsz : w.heap.size + 1 < wr.heap.size := (Array.getElem?_eq_some_iff.1 hit).1
    by_cases hp : pos < s.size
    · have hpl : pos < s.data.toList.length := by rw [HSZ.out]; exact hp
      have ha := HOK.out pos hp
      have hnx := fun ty => Lib.run_next_ascii_at (P := Tryz.prog) wr (w.heap.size + 1) s pos ty hit hp ha
      have HI2 := Lib.hid (hI.iterAt hit (pos + 1))
      have HT2 := Lib.hid (Lib.iterAt_heap wr (w.heap.size + 1) s pos (pos + 1) hit)
      have HB2 := Lib.hid (Lib.below_iterAt hbw (k := w.heap.size + 1) (by omega) s (pos + 1))
      have hsz2 : w.heap.size ≤ (wr.iterAt (w.heap.size + 1) s (pos + 1)).heap.size := by rw [Lib.iterAt_size]; omega
      have HE : Hid (s.data.toList[pos] = s[pos]) := Lib.hid (by rfl)
      have HT : Hid ((s.data.toList.take (pos + 1)).map lowerB = (s.data.toList.take pos).map lowerB ++ [lowerB s[pos]]) := Lib.hid (by rw [List.take_succ_eq_append_getElem hpl, List.map_append, HE.out]; rfl)
      have hel : ((s.data.toList.take pos).map lowerB).length ≤ 200 := by rw [List.length_map, List.length_take]; omega
      have HEL := Lib.hid hel
      have HIT := Lib.hid hit
      clear hel hit hI
      generalize (s.data.toList.take pos).map lowerB = L at *
      have HW := Lib.hid fun r h0 h1 x hx hlen hb => bfRune w.heap.size w.heap.size L r h0 h1 x hx hlen hb
      by_cases h1 : 65 ≤ s[pos].toNat ∧ s[pos].toNat ≤ 90
      · have p1 : (65 : Int) ≤ s[pos].toNat := by omega
        have p2 : (s[pos].toNat : Int) < 91 := by omega
        have HC : Hid ((lowerB s[pos]).toNat = s[pos].toNat + 32) := Lib.hid (by unfold lowerB; rw [if_pos h1, UInt8.toNat_ofNat']; omega)
        have hcl : (lowerB s[pos]).toNat < 128 := by rw [HC.out]; omega
        go_wp2_with (first
          | (go_at_call 130; refine (HW.out _ (by omega) (by omega) _ HI2.out (by have := HEL.out; omega) hsz2).mono ?_; rintro e W1 ⟨rfl, h1, b1, k1⟩))
        go_wp2
        go_roundw
        case rel =>
          refine ⟨pos + 1, by omega, ?_, k1.iter HT2.out (by omega), HB2.out.trans b1⟩
          rw [HT.out]
          exact h1.rune (lowerB s[pos]) hcl (by rw [HC.out]; omega)
        case measure =>
          simp only [World.iterPos, k1.iter HT2.out (by omega), HIT.out]
          omega
      · have HC : Hid (lowerB s[pos] = s[pos]) := Lib.hid (by unfold lowerB; rw [if_neg h1])
        rw [HC.out] at HT
        have hor : (s[pos].toNat : Int) < 65 ∨ ((65 : Int) ≤ s[pos].toNat ∧ ¬ (s[pos].toNat : Int) < 91) := by omega
        clear h1 HC
        rcases hor with p1 | ⟨p1, p2⟩
        all_goals
          go_wp2_with (first
            | (go_at_call 130; refine (HW.out _ (by omega) (by omega) _ HI2.out (by have := HEL.out; omega) hsz2).mono ?_; rintro e W1 ⟨rfl, h1, b1, k1⟩))
          go_wp2
          go_roundw
          case rel =>
            refine ⟨pos + 1, by omega, ?_, k1.iter HT2.out (by omega), HB2.out.trans b1⟩
            rw [HT.out]
            exact h1.rune s[pos] ha rfl
          case measure =>
            simp only [World.iterPos, k1.iter HT2.out (by omega), HIT.out]
            omega
    · have hnx := fun ty => Lib.run_next_end_at (P := Tryz.prog) wr (w.heap.size + 1) s pos ty hit hp
      have HK : Hid (s.data.toList.take pos = s.data.toList) := Lib.hid (List.take_of_length_le (by rw [HSZ.out]; omega))
      have HI := Lib.hid hI
      clear hI
      rw [HK.out] at HI
      go_wp2_with (first | (go_at_call 111; refine (bfString w.heap.size w.heap.size _ _ HI.out (by omega)).mono ?_; rintro e W1 ⟨rfl, b1⟩))
      go_wp2
      go_ret
      exact ⟨rfl, hbw.trans b1⟩
end
end
end Go.Proofs.YthomeplakcbfoaaGreatDoor
namespace Go.Proofs.YthomeplakcbfoaaGreatDoor
section
section
open Go.RowKit

theorem fnAbs_ (n : Int) (hn : Small n) (w : World) : Calls Tryz.prog 89 #[.int .i64 n] w fun e w' => e = .returned (intV (max n (-n))).val ∧ Below w.heap.size w w' := by
  obtain ⟨h0, h1⟩ := hn
  go_enter Tryz.func89, Tryz.ntmps89
  go_wp2_with (first
    | (go_at_call 90; refine (absolute_ _ (by omega) (by omega) _).mono ?_; rintro e y ⟨rfl, rfl⟩)
    | (go_at_call 59; refine (integer_ _ _).mono ?_; rintro e y ⟨rfl, hb⟩; have K := Lib.hid (KL.below ((KL.refl w).push (.int .i64 0) (.int .i64 0) (.string ⟨#[]⟩) 27) hb); clear hb; obtain ⟨HB, ⟨r0, r1, r2, g0, g1, g2, rl⟩, _⟩ := K.out))
  (try simp only [Exit.inBlock, Exit.then])
  exact ret_one rfl rfl K.out.q.1 rfl ⟨rfl, set3 HB _ (Nat.le_refl _) _ _ _⟩
theorem fnSign_ (n : Int) (w : World) : Calls Tryz.prog 91 #[.int .i64 n] w fun e w' => e = .returned (intV (Lib.compareInt n 0)).val ∧ Below w.heap.size w w' := by
  go_enter Tryz.func91, Tryz.ntmps91
  go_wp2_with (first
    | (go_at_call 61; refine (compare_ _ _ _ _ _ _ _).mono ?_; rintro e y ⟨rfl, hb⟩; have K' := Lib.hid (KL.below K.out hb); clear hb K HB r0 r1 r2 g0 g1 g2 rl; have K := K'; clear K'; obtain ⟨HB, ⟨r0, r1, r2, g0, g1, g2, rl⟩, _⟩ := K.out)
    | (go_at_call 59; refine (integer_ _ _).mono ?_; rintro e y ⟨rfl, hb⟩; first | (have K' := Lib.hid (KL.below K.out hb); clear hb K HB r0 r1 r2 g0 g1 g2 rl; have K := K'; clear K'; obtain ⟨HB, ⟨r0, r1, r2, g0, g1, g2, rl⟩, _⟩ := K.out) | (have K := Lib.hid (KL.below ((KL.refl w).push (.int .i64 0) (.int .i64 0) (.string ⟨#[]⟩) 27) hb); clear hb; obtain ⟨HB, ⟨r0, r1, r2, g0, g1, g2, rl⟩, _⟩ := K.out)))
  (try simp only [Exit.inBlock, Exit.then])
  exact ret_one rfl rfl K.out.q.1 rfl ⟨rfl, set3 HB _ (Nat.le_refl _) _ _ _⟩
theorem fnItoa_ (n : Int) (hn : Small n) (w : World) (E : Env w) : Calls Tryz.prog 92 #[.int .i64 n] w fun e w' => e = .returned (txtV (baOf (Lib.itoa n))).val ∧ Below w.heap.size w w' := by
  obtain ⟨h0, h1⟩ := hn
  have HI := Lib.hid fun x hx => itoa_ n (by omega) (by omega) x hx
  have HE := Lib.hid E
  clear E
  go_enter Tryz.func92, Tryz.ntmps92
  go_wp2_with (first
    | (go_at_call 49; refine (HI.out _ (HE.out.below (new1 w _))).mono ?_; rintro e y ⟨rfl, hb⟩; have K := Lib.hid (KL.below ((KL.refl w).push (.int .i64 0) (.int .i64 0) (.string ⟨#[]⟩) 27) hb); clear hb; obtain ⟨HB, ⟨r0, r1, r2, g0, g1, g2, rl⟩, _⟩ := K.out)
    | (go_at_call 81; refine (text_ _ _).mono ?_; rintro e y ⟨rfl, hb⟩; have K' := Lib.hid (KL.below K.out hb); clear hb K HB r0 r1 r2 g0 g1 g2 rl; have K := K'; clear K'; obtain ⟨HB, ⟨r0, r1, r2, g0, g1, g2, rl⟩, _⟩ := K.out))
  (try simp only [Exit.inBlock, Exit.then])
  exact ret_one rfl rfl K.out.q.1 rfl ⟨rfl, set3 HB _ (Nat.le_refl _) _ _ _⟩
/-- What a function of an integer of the table does. -/
structure FnN (g : Nat) (sp : Int → Va) : Prop where
  call : ∀ (args : Array Value) (y : World), (callFunc g args).run Tryz.prog y = .ok (.enter g args) y
  does : ∀ (n : Int) (y : World), Small n → Env y → Calls Tryz.prog g #[.int .i64 n] y fun e w' => e = .returned (sp n).val ∧ Below y.heap.size y w'
theorem fnN1 : FnN 89 fun n => intV (max n (-n)) := ⟨fun args y => by simp [go_sem], fun n y hn _ => fnAbs_ n hn y⟩
theorem fnN2 : FnN 91 fun n => intV (Lib.compareInt n 0) := ⟨fun args y => by simp [go_sem], fun n y _ _ => fnSign_ n y⟩
theorem fnN3 : FnN 92 fun n => txtV (baOf (Lib.itoa n)) := ⟨fun args y => by simp [go_sem], fun n y hn E => fnItoa_ n hn y E⟩
set_option maxRecDepth 100000 in
theorem int4_ (g : Nat) (sp : Int → Va) (hg : FnN g sp) (v : Va) (hn : Small v.n) (A : Option Addr) (c cb : Nat) (w : World) (E : Env w) (h : Sl w A [v]) (hc : w.cell? ⟨cb, 0, none⟩ = some (fnP g)) :
    Calls Tryz.prog 93 #[.slice A 1 c, .pointer (some ⟨cb, 0, none⟩)] w fun e w' => e = .returned (two (sp v.n, 0)) ∧ Below w.heap.size w w' := by
  have hlt : cb < w.heap.size := World.block_lt_of_cell? w _ hc
  obtain ⟨hcall, hF⟩ := hg
  have HF := Lib.hid hF
  have HE := Lib.hid E
  clear hF E
  obtain ⟨b, off, rfl, hb, c0, c1, c2⟩ := h 0 v rfl
  simp only [Nat.zero_mul, Nat.add_zero] at c0 c1 c2
  clear h
  have hc' : (w.alloc (.cells #[.int .i64 0, .int .i64 0, .string ⟨#[]⟩] 27)).cell? ⟨cb, 0, none⟩ = some (fnP g) := (World.cell?_alloc_lt w _ _ hlt).trans hc
  obtain ⟨rk, rn, rs, hr⟩ : ∃ rk rn rs, sp v.n = ⟨rk, rn, rs⟩ := ⟨_, _, _, rfl⟩
  have HR := Lib.hid fun x hx => HF.out v.n x hn hx
  rw [hr] at HR ⊢
  have HN := Lib.hid (new1 w (.cells #[.int .i64 0, .int .i64 0, .string ⟨#[]⟩] 27))
  go_enter Tryz.func93, Tryz.ntmps93
  go_wp2_with fail
  go_region_with (refine (HR.out _ (HE.out.below HN.out.drew)).mono ?_; rintro e y ⟨rfl, hb1⟩; have K := Lib.hid (KL.below ((KL.refl w).push (.int .i64 0) (.int .i64 0) (.string ⟨#[]⟩) 27) ((Below.refl _ _).drew.trans hb1)); clear hb1; obtain ⟨HB, ⟨r0, r1, r2, g0, g1, g2, rl⟩, _⟩ := K.out)
  all_goals go_wp2
  all_goals (try simp only [Exit.inBlock, Exit.then])
  all_goals exact ret_two rfl rfl K.out.q.1 rfl ⟨rfl, set3 HB _ (Nat.le_refl _) _ _ _⟩

theorem fnLen_ (s : ByteArray) (w : World) : Calls Tryz.prog 94 #[.string s] w fun e w' => e = .returned (two (intV s.size, 0)) ∧ Below w.heap.size w w' := by
  go_enter Tryz.func94, Tryz.ntmps94
  go_wp2_with (first
    | (go_at_call 59; refine (integer_ _ _).mono ?_; rintro e y ⟨rfl, hb⟩; have K := Lib.hid (KL.below ((KL.refl w).push (.int .i64 0) (.int .i64 0) (.string ⟨#[]⟩) 27) hb); clear hb; obtain ⟨HB, ⟨r0, r1, r2, g0, g1, g2, rl⟩, _⟩ := K.out))
  (try simp only [Exit.inBlock, Exit.then])
  exact ret_two rfl rfl K.out.q.1 rfl ⟨rfl, set3 HB _ (Nat.le_refl _) _ _ _⟩
theorem okText_ascii {s : ByteArray} (h : okText s = true) (k : Nat) (hk : k < s.size) : (s[k]'hk).toNat < 128 := by
  unfold okText at h
  simp only [Bool.and_eq_true, List.all_eq_true] at h
  have hl : k < s.data.toList.length := by simpa using hk
  have h1 := h.2 _ (List.getElem_mem hl)
  have e : s.data.toList[k] = s[k] := rfl
  rw [e] at h1
  unfold okByte at h1
  simp only [Bool.and_eq_true, decide_eq_true_eq] at h1
  omega
theorem fnUp_ (s : ByteArray) (h : okText s = true) (w : World) : Calls Tryz.prog 95 #[.string s] w fun e w' => e = .returned (two (txtV (baOf (s.data.toList.map upperB)), 0)) ∧ Below w.heap.size w w' := by
  have HS := Lib.hid (shiftU_ s (okText_size s h) (okText_ascii h))
  clear h
  go_enter Tryz.func95, Tryz.ntmps95
  go_wp2_with (first
    | (go_at_call 96; refine (HS.out _).mono ?_; rintro e y ⟨rfl, hb⟩; have K := Lib.hid (KL.below ((KL.refl w).push (.int .i64 0) (.int .i64 0) (.string ⟨#[]⟩) 27) hb); clear hb; obtain ⟨HB, ⟨r0, r1, r2, g0, g1, g2, rl⟩, _⟩ := K.out)
    | (go_at_call 81; refine (text_ _ _).mono ?_; rintro e y ⟨rfl, hb⟩; have K' := Lib.hid (KL.below K.out hb); clear hb K HB r0 r1 r2 g0 g1 g2 rl; have K := K'; clear K'; obtain ⟨HB, ⟨r0, r1, r2, g0, g1, g2, rl⟩, _⟩ := K.out))
  (try simp only [Exit.inBlock, Exit.then])
  exact ret_two rfl rfl K.out.q.1 rfl ⟨rfl, set3 HB _ (Nat.le_refl _) _ _ _⟩
theorem fnLow_ (s : ByteArray) (h : okText s = true) (w : World) : Calls Tryz.prog 97 #[.string s] w fun e w' => e = .returned (two (txtV (baOf (s.data.toList.map lowerB)), 0)) ∧ Below w.heap.size w w' := by
  have HS := Lib.hid (shiftL_ s (okText_size s h) (okText_ascii h))
  clear h
  go_enter Tryz.func97, Tryz.ntmps97
  go_wp2_with (first
    | (go_at_call 96; refine (HS.out _).mono ?_; rintro e y ⟨rfl, hb⟩; have K := Lib.hid (KL.below ((KL.refl w).push (.int .i64 0) (.int .i64 0) (.string ⟨#[]⟩) 27) hb); clear hb; obtain ⟨HB, ⟨r0, r1, r2, g0, g1, g2, rl⟩, _⟩ := K.out)
    | (go_at_call 81; refine (text_ _ _).mono ?_; rintro e y ⟨rfl, hb⟩; have K' := Lib.hid (KL.below K.out hb); clear hb K HB r0 r1 r2 g0 g1 g2 rl; have K := K'; clear K'; obtain ⟨HB, ⟨r0, r1, r2, g0, g1, g2, rl⟩, _⟩ := K.out))
  (try simp only [Exit.inBlock, Exit.then])
  exact ret_two rfl rfl K.out.q.1 rfl ⟨rfl, set3 HB _ (Nat.le_refl _) _ _ _⟩
/-- What to_int gives. -/
def toIntS (l : Bs) : Va × Int := if (wholeS l).2 = true then (intV (wholeS l).1, 0) else (nulV, 21)
theorem toInt_ok {s : ByteArray} {v : Int} (h : Lib.atoiAll s.data.toList = .ok v) (hi : Lib.itoa v = s.data.toList) : toIntS s.data.toList = chkI v := by
  unfold toIntS chkI
  by_cases hr : inR v = true
  · have hr2 := hr
    unfold inR at hr2
    simp only [Bool.and_eq_true, decide_eq_true_eq] at hr2
    have := whole_itoa v hr2.1 hr2.2
    rw [hi] at this
    rw [this, if_pos rfl, if_pos hr]
  · rw [if_neg hr, if_neg]
    intro hw
    unfold wholeS at hw
    split at hw
    · simp only [Bool.and_eq_true, beq_iff_eq] at hw
      have h1 := hw.1
      have h3 := h1
      unfold inR at h3
      simp only [Bool.and_eq_true, decide_eq_true_eq] at h3
      have h2 := atoi_itoa _ h3.1 h3.2
      rw [hw.2, h] at h2
      cases h2
      exact hr h1
    · simp at hw
theorem toInt_no {s : ByteArray} (h : ∀ v, Lib.atoiAll s.data.toList = .ok v → Lib.itoa v ≠ s.data.toList) : toIntS s.data.toList = (nulV, 21) := by
  unfold toIntS
  rw [if_neg]
  intro hw
  unfold wholeS at hw
  split at hw
  · simp only [Bool.and_eq_true, beq_iff_eq] at hw
    have h3 := hw.1
    unfold inR at h3
    simp only [Bool.and_eq_true, decide_eq_true_eq] at h3
    have h2 := atoi_itoa _ h3.1 h3.2
    rw [hw.2] at h2
    exact h _ h2 hw.2
  · simp at hw
set_option maxRecDepth 100000 in
theorem toInt_ (s : ByteArray) (hs : s.size ≤ 4000000) (w : World) (E : Env w) : Calls Tryz.prog 98 #[.string s] w fun e w' => e = .returned (two (toIntS s.data.toList)) ∧ Below w.heap.size w w' := by
  have HE := Lib.hid E
  clear E
  by_cases h : ∃ v, Lib.atoiAll s.data.toList = .ok v
  · obtain ⟨v, hv⟩ := h
    have HA := Lib.hid fun x => atoi_ok s v hv hs x
    have hvb := Lib.atoiAll_bounds hv
    have HI := Lib.hid fun x hx => itoa_ v hvb.1 hvb.2 x hx
    have HC := Lib.hid fun x => checkedInteger_ v x
    by_cases hi : Lib.itoa v = s.data.toList
    · have HS := Lib.hid (toInt_ok hv hi)
      have hq : (Lib.itoa v == s.toList) = true := by rw [toList_dat, beq_iff_eq]; exact hi
      obtain ⟨⟨rk, rn, rs⟩, re, hr⟩ : ∃ r e, chkI v = (r, e) := ⟨_, _, rfl⟩
      rw [hr] at HS HC
      clear hr hv hvb hi
      go_enter Tryz.func98, Tryz.ntmps98
      go_wp2_with (first
        | (go_at_call 82; refine (HA.out _).mono ?_; rintro e y ⟨rfl, hb⟩; have K := Lib.hid (KL.below ((KL.refl w).push (.int .i64 0) (.int .i64 0) (.string ⟨#[]⟩) 27) hb); clear hb; obtain ⟨HB, ⟨r0, r1, r2, g0, g1, g2, rl⟩, _⟩ := K.out)
        | (go_at_call 49; refine (HI.out _ (HE.out.below HB)).mono ?_; rintro e y ⟨rfl, hb⟩; have K' := Lib.hid (KL.below K.out hb); clear hb K HB r0 r1 r2 g0 g1 g2 rl; have K := K'; clear K'; obtain ⟨HB, ⟨r0, r1, r2, g0, g1, g2, rl⟩, _⟩ := K.out)
        | (go_at_call 102; refine (HC.out _).mono ?_; rintro e y ⟨rfl, hb⟩; have K' := Lib.hid (KL.below K.out hb); clear hb K HB r0 r1 r2 g0 g1 g2 rl; have K := K'; clear K'; obtain ⟨HB, ⟨r0, r1, r2, g0, g1, g2, rl⟩, _⟩ := K.out))
      (try simp only [Exit.inBlock, Exit.then])
      exact ret_two rfl rfl K.out.q.1 rfl ⟨by rw [HS.out]; rfl, set3 HB _ (Nat.le_refl _) _ _ _⟩
    · have HS := Lib.hid (toInt_no (s := s) fun u hu => by rw [hv] at hu; cases hu; exact hi)
      have hq : (Lib.itoa v == s.toList) = false := by rw [toList_dat, beq_eq_false_iff_ne]; exact hi
      clear hv hvb hi HC
      go_enter Tryz.func98, Tryz.ntmps98
      go_wp2_with (first
        | (go_at_call 82; refine (HA.out _).mono ?_; rintro e y ⟨rfl, hb⟩; have K := Lib.hid (KL.below ((KL.refl w).push (.int .i64 0) (.int .i64 0) (.string ⟨#[]⟩) 27) hb); clear hb; obtain ⟨HB, ⟨r0, r1, r2, g0, g1, g2, rl⟩, _⟩ := K.out)
        | (go_at_call 49; refine (HI.out _ (HE.out.below HB)).mono ?_; rintro e y ⟨rfl, hb⟩; have K' := Lib.hid (KL.below K.out hb); clear hb K HB r0 r1 r2 g0 g1 g2 rl; have K := K'; clear K'; obtain ⟨HB, ⟨r0, r1, r2, g0, g1, g2, rl⟩, _⟩ := K.out))
      (try simp only [Exit.inBlock, Exit.then])
      exact ret_two rfl rfl K.out.q.1 rfl ⟨by rw [HS.out]; rfl, set3 HB _ (Nat.le_refl _) _ _ _⟩
  · have HS := Lib.hid (toInt_no (s := s) fun u hu => absurd ⟨u, hu⟩ h)
    have HA := Lib.hid fun x hx => atoi_no s (fun u hu => h ⟨u, hu⟩) hs x hx
    clear h
    go_enter Tryz.func98, Tryz.ntmps98
    go_wp2_with (first
      | (go_at_call 82; refine (HA.out _ (HE.out.below (new1 w _))).mono ?_; rintro e y ⟨nn, tt, pp, rfl, hb⟩; have K := Lib.hid (KL.below ((KL.refl w).push (.int .i64 0) (.int .i64 0) (.string ⟨#[]⟩) 27) hb); clear hb; obtain ⟨HB, ⟨r0, r1, r2, g0, g1, g2, rl⟩, _⟩ := K.out))
    (try simp only [Exit.inBlock, Exit.then])
    exact ret_two rfl rfl K.out.q.1 rfl ⟨by rw [HS.out]; rfl, set3 HB _ (Nat.le_refl _) _ _ _⟩
/-- What a function of a string of the table does. -/
structure FnS (g : Nat) (sp : ByteArray → Va × Int) : Prop where
  call : ∀ (args : Array Value) (y : World), (callFunc g args).run Tryz.prog y = .ok (.enter g args) y
  does : ∀ (s : ByteArray) (y : World), okText s = true → Env y → Calls Tryz.prog g #[.string s] y fun e w' => e = .returned (two (sp s)) ∧ Below y.heap.size y w'
theorem fnS1 : FnS 94 fun s => (intV s.size, 0) := ⟨fun args y => by simp [go_sem], fun s y _ _ => fnLen_ s y⟩
theorem fnS2 : FnS 95 fun s => (txtV (baOf (s.data.toList.map upperB)), 0) := ⟨fun args y => by simp [go_sem], fun s y h _ => fnUp_ s h y⟩
theorem fnS3 : FnS 97 fun s => (txtV (baOf (s.data.toList.map lowerB)), 0) := ⟨fun args y => by simp [go_sem], fun s y h _ => fnLow_ s h y⟩
theorem fnS4 : FnS 98 fun s => toIntS s.data.toList := ⟨fun args y => by simp [go_sem], fun s y h E => toInt_ s (by have := okText_size s h; omega) y E⟩
set_option maxRecDepth 100000 in
theorem txt4_ (g : Nat) (sp : ByteArray → Va × Int) (hg : FnS g sp) (v : Va) (hn : okText v.s = true) (A : Option Addr) (c cb : Nat) (w : World) (E : Env w) (h : Sl w A [v]) (hc : w.cell? ⟨cb, 0, none⟩ = some (fnP g)) :
    Calls Tryz.prog 99 #[.slice A 1 c, .pointer (some ⟨cb, 0, none⟩)] w fun e w' => e = .returned (two (sp v.s)) ∧ Below w.heap.size w w' := by
  have hlt : cb < w.heap.size := World.block_lt_of_cell? w _ hc
  obtain ⟨hcall, hF⟩ := hg
  have HF := Lib.hid hF
  have HE := Lib.hid E
  clear hF E
  obtain ⟨b, off, rfl, hb, c0, c1, c2⟩ := h 0 v rfl
  simp only [Nat.zero_mul, Nat.add_zero] at c0 c1 c2
  clear h
  have hc' : (w.alloc (.cells #[.int .i64 0, .int .i64 0, .string ⟨#[]⟩] 27)).cell? ⟨cb, 0, none⟩ = some (fnP g) := (World.cell?_alloc_lt w _ _ hlt).trans hc
  obtain ⟨⟨rk, rn, rs⟩, re, hr⟩ : ∃ r e, sp v.s = (r, e) := ⟨_, _, rfl⟩
  have HR := Lib.hid fun x hx => HF.out v.s x hn hx
  rw [hr] at HR ⊢
  have HN := Lib.hid (new1 w (.cells #[.int .i64 0, .int .i64 0, .string ⟨#[]⟩] 27))
  go_enter Tryz.func99, Tryz.ntmps99
  go_wp2_with fail
  go_region_with (refine (HR.out _ (HE.out.below HN.out.drew)).mono ?_; rintro e y ⟨rfl, hb1⟩; have K := Lib.hid (KL.below ((KL.refl w).push (.int .i64 0) (.int .i64 0) (.string ⟨#[]⟩) 27) ((Below.refl _ _).drew.trans hb1)); clear hb1; obtain ⟨HB, ⟨r0, r1, r2, g0, g1, g2, rl⟩, _⟩ := K.out)
  all_goals go_wp2
  all_goals (try simp only [Exit.inBlock, Exit.then])
  all_goals exact ret_two rfl rfl K.out.q.1 rfl ⟨rfl, set3 HB _ (Nat.le_refl _) _ _ _⟩
end
end
end Go.Proofs.YthomeplakcbfoaaGreatDoor
