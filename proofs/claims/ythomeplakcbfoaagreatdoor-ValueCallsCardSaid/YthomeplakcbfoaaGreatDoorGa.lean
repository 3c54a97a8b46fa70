/-
  Contracts of package value and tools of the walk: values, kinds, strings, maps; blocks of memory.
-/
import Derived.WalkKit
import Derived.Test.YthomeplakcbfoaaGreatDoorProg
import Derived.WalkLawsBesides
import Derived.WalkSpells
import Derived.Handy
import Derived.Lib.Hide
import Derived.Deep.RegionHeld3
import Derived.Deep.RegionWith
import Derived.WideMake
namespace Go.Proofs.YthomeplakcbfoaaGreatDoor
section

/-- A value of the program: kind, number, text. -/
abbrev V (k n : Int) (s : ByteArray) : Value := .agg #[.int .i64 k, .int .i64 n, .string s]

/-- A bool's number. -/
def b2i (b : Bool) : Int := if b then 1 else 0
@[go_sem, simp] theorem b2i_true : b2i true = 1 := rfl
@[go_sem, simp] theorem b2i_false : b2i false = 0 := rfl
def inR (n : Int) : Bool := decide (-1099511627776 ≤ n) && decide (n ≤ 1099511627776)
def okByte (c : UInt8) : Bool := decide (32 ≤ (c.toNat : Int)) && decide ((c.toNat : Int) ≤ 126)
def okText (s : ByteArray) : Bool := decide (s.size ≤ 200) && s.data.toList.all okByte
def eqV (k n : Int) (s : ByteArray) (k' n' : Int) (s' : ByteArray) : Bool := k == k' && n == n' && s.toList == s'.toList

/-- A value is valid. -/
def vld (k n : Int) (s : ByteArray) : Bool :=
  eqV k n s 0 0 ⟨#[]⟩ || (k == 1 && inR n && s.toList.isEmpty) || (k == 2 && n == 0 && okText s) || eqV k n s 3 0 ⟨#[]⟩ || eqV k n s 3 1 ⟨#[]⟩
theorem eqV_ne {k n : Int} {s : ByteArray} {k' n' : Int} {s' : ByteArray} (h : k ≠ k') : eqV k n s k' n' s' = false := by simp [eqV, h]
theorem toList_eq {s s' : ByteArray} (h : s.toList = s'.toList) : s = s' := by
  rw [ByteArray.toList_eq, ByteArray.toList_eq] at h
  obtain ⟨⟨x⟩⟩ := s
  obtain ⟨⟨y⟩⟩ := s'
  exact congrArg (fun l : List UInt8 => (⟨⟨l⟩⟩ : ByteArray)) h
theorem eqV_iff (k n : Int) (s : ByteArray) (k' n' : Int) (s' : ByteArray) : eqV k n s k' n' s' = true ↔ k = k' ∧ n = n' ∧ s = s' := by
  simp only [eqV, Bool.and_eq_true, beq_iff_eq]
  exact ⟨fun ⟨⟨a, b⟩, c⟩ => ⟨a, b, toList_eq c⟩, fun ⟨a, b, c⟩ => ⟨⟨a, b⟩, by rw [c]⟩⟩
theorem toList_nil : (ByteArray.mk #[]).toList = [] := by rw [ByteArray.toList_eq]

structure Va where
  k : Int
  n : Int
  s : ByteArray
abbrev Va.val (v : Va) : Value := .agg #[.int .i64 v.k, .int .i64 v.n, .string v.s]
def Va.ok (v : Va) : Bool := vld v.k v.n v.s
/-- The slice at A, of as many values as l has, holds just these. -/
def Sl (w : World) (A : Option Addr) (l : List Va) : Prop :=
  ∀ (i : Nat) (v : Va), l[i]? = some v → ∃ b off, A = some ⟨b, off, none⟩ ∧ b < w.heap.size ∧
    w.cell? ⟨b, off + i * 3, none⟩ = some (.int .i64 v.k) ∧ w.cell? ⟨b, off + i * 3 + 1, none⟩ = some (.int .i64 v.n) ∧ w.cell? ⟨b, off + i * 3 + 2, none⟩ = some (.string v.s)
theorem Sl.below {w w' : World} {A : Option Addr} {l : List Va} (h : Sl w A l) (hb : RowKit.Below w.heap.size w w') : Sl w' A l := by
  intro i v hv
  obtain ⟨b, off, hA, hlt, h0, h1, h2⟩ := h i v hv
  exact ⟨b, off, hA, Nat.lt_of_lt_of_le hlt hb.size, (hb.cell (p := ⟨b, _, none⟩) hlt).trans h0, (hb.cell (p := ⟨b, _, none⟩) hlt).trans h1, (hb.cell (p := ⟨b, _, none⟩) hlt).trans h2⟩
theorem Sl.nil (w : World) (A : Option Addr) : Sl w A [] := by intro i v h; simp at h
/-- null among values. -/
def hasNull (l : List Va) : Bool := l.any fun v => v.k == 0
end
end Go.Proofs.YthomeplakcbfoaaGreatDoor
namespace Go.Proofs.YthomeplakcbfoaaGreatDoor
section
def allOk (l : List Va) : Bool := l.all Va.ok
/-- Whether all values that are not null are of the kind, or, if that is 0, of one kind. -/
def oneK : Int → List Va → Bool
  | _, [] => true
  | d, v :: r => if (v.k == 0) = true then oneK d r else if (d == 0) = true then oneK v.k r else if (v.k != d) = true then false else oneK d r
theorem hasNull_take (l : List Va) (k : Nat) (h : k < l.length) : hasNull (l.take (k + 1)) = (hasNull (l.take k) || (l[k].k == 0)) := by
  rw [List.take_succ_eq_append_getElem h]; unfold hasNull; rw [List.any_append]; simp only [List.any_cons, List.any_nil, Bool.or_false]
theorem hasNull_yes (l : List Va) (k : Nat) (h : k < l.length) (hk : (l[k].k == 0) = true) : hasNull l = true := by
  unfold hasNull; rw [List.any_eq_true]; exact ⟨l[k], List.getElem_mem h, hk⟩
theorem take_all {α : Type} (l : List α) (k : Nat) (h1 : k ≤ l.length) (h : ¬ k < l.length) : l.take k = l := List.take_of_length_le (by omega)
theorem allOk_take (l : List Va) (k : Nat) (h : k < l.length) : allOk (l.take (k + 1)) = (allOk (l.take k) && vld l[k].k l[k].n l[k].s) := by
  rw [List.take_succ_eq_append_getElem h]; unfold allOk; rw [List.all_append]; simp only [List.all_cons, List.all_nil, Bool.and_true]; rfl
theorem allOk_no (l : List Va) (k : Nat) (h : k < l.length) (hk : vld l[k].k l[k].n l[k].s = false) : allOk l = false := by
  unfold allOk; rw [List.all_eq_false]; exact ⟨l[k], List.getElem_mem h, by simp [Va.ok, hk]⟩
theorem oneK_drop (d : Int) (l : List Va) (k : Nat) (h : k < l.length) :
    oneK d (l.drop k) = if (l[k].k == 0) = true then oneK d (l.drop (k + 1)) else if (d == 0) = true then oneK l[k].k (l.drop (k + 1)) else if (l[k].k != d) = true then false else oneK d (l.drop (k + 1)) := by
  rw [List.drop_eq_getElem_cons h]; rfl


def nulV : Va := ⟨0, 0, ⟨#[]⟩⟩
def intV (n : Int) : Va := ⟨1, n, ⟨#[]⟩⟩
def txtV (s : ByteArray) : Va := ⟨2, 0, s⟩
def booV (b : Bool) : Va := ⟨3, b2i b, ⟨#[]⟩⟩
def tru (v : Va) : Bool := eqV v.k v.n v.s 3 1 ⟨#[]⟩
/-- What an operation of one gives; d: the kind that it takes. -/
def unS (d : Int) (v : Va) : Va × Int :=
  if v.ok = false then (nulV, 2) else if oneK d [v] = false then (nulV, 16) else if hasNull [v] = true then (nulV, 0) else if (d == 1) = true then (intV (-v.n), 0) else (booV (!tru v), 0)
/-- Two results, a value and an error. -/
abbrev two (r : Va × Int) : Value := .tuple #[r.1.val, .int .i64 r.2]
theorem oneK1 (d : Int) (v : Va) (h : oneK d [v] = true) : v.k = 0 ∨ d = 0 ∨ v.k = d := by
  simp only [oneK] at h
  by_cases h1 : v.k = 0
  · exact .inl h1
  by_cases h2 : d = 0
  · exact .inr (.inl h2)
  by_cases h3 : v.k = d
  · exact .inr (.inr h3)
  simp [h1, h2, h3] at h
theorem notNull1 (v : Va) (h : hasNull [v] = false) : v.k ≠ 0 := by simpa [hasNull] using h
theorem int_in (k n : Int) (s : ByteArray) (hk : k = 1) (h : vld k n s = true) : -1099511627776 ≤ n ∧ n ≤ 1099511627776 := by
  subst hk
  simp [vld, eqV, inR] at h
  omega
end
end Go.Proofs.YthomeplakcbfoaaGreatDoor
namespace Go.Proofs.YthomeplakcbfoaaGreatDoor
section
open Go.RowKit

theorem new1 (w : World) (o : Obj) : Below w.heap.size w (w.alloc o) := (Below.refl _ _).alloc (Nat.le_refl _) _

theorem ref_bool (b : Bool) (w : World) : Calls Tryz.prog 23 #[.bool b] w fun e w' => e = .returned (V 3 (b2i b) ⟨#[]⟩) ∧ Below w.heap.size w w' := by
  cases b
  all_goals
    go_enter Tryz.func23, Tryz.ntmps23
    go_wp2
    go_returns
    exact ⟨rfl, new1 _ _⟩
theorem boolean_ (b : Bool) (w : World) : Calls Tryz.prog 60 #[.bool b] w fun e w' => e = .returned (V 3 (b2i b) ⟨#[]⟩) ∧ Below w.heap.size w w' := by
  cases b
  all_goals
    go_enter Tryz.func60, Tryz.ntmps60
    go_wp2
    go_returns
    exact ⟨rfl, new1 _ _⟩
theorem ref_null (w : World) : Calls Tryz.prog 24 #[] w fun e w' => e = .returned (V 0 0 ⟨#[]⟩) ∧ Below w.heap.size w w' := by
  go_enter Tryz.func24, Tryz.ntmps24
  go_wp2
  go_returns
  exact ⟨rfl, new1 _ _⟩
theorem ref_int (n : Int) (w : World) : Calls Tryz.prog 25 #[.int .i64 n] w fun e w' => e = .returned (V 1 n ⟨#[]⟩) ∧ Below w.heap.size w w' := by
  go_enter Tryz.func25, Tryz.ntmps25
  go_wp2
  go_returns
  exact ⟨rfl, new1 _ _⟩
theorem integer_ (n : Int) (w : World) : Calls Tryz.prog 59 #[.int .i64 n] w fun e w' => e = .returned (V 1 n ⟨#[]⟩) ∧ Below w.heap.size w w' := by
  go_enter Tryz.func59, Tryz.ntmps59
  go_wp2
  go_returns
  exact ⟨rfl, new1 _ _⟩
theorem ref_string (s : ByteArray) (w : World) : Calls Tryz.prog 26 #[.string s] w fun e w' => e = .returned (V 2 0 s) ∧ Below w.heap.size w w' := by
  go_enter Tryz.func26, Tryz.ntmps26
  go_wp2
  go_returns
  exact ⟨rfl, new1 _ _⟩
theorem text_ (s : ByteArray) (w : World) : Calls Tryz.prog 81 #[.string s] w fun e w' => e = .returned (V 2 0 s) ∧ Below w.heap.size w w' := by
  go_enter Tryz.func81, Tryz.ntmps81
  go_wp2
  go_returns
  exact ⟨rfl, new1 _ _⟩

theorem inRange_ (n : Int) (w : World) : Calls Tryz.prog 62 #[.int .i64 n] w fun e w' => e = .returned (.bool (inR n)) ∧ w = w' := by
  by_cases h : (-1099511627776 : Int) ≤ n
  · go_enter Tryz.func62, Tryz.ntmps62
    go_wp2
    go_ret
    simp [inR, h]
  · go_enter Tryz.func62, Tryz.ntmps62
    go_wp2
    go_ret
    simp [inR]
    omega
theorem isInt_ (n : Int) (w : World) : Calls Tryz.prog 76 #[.int .i64 n] w fun e w' => e = .returned (.bool (inR n)) ∧ w = w' := by
  by_cases h : (-1099511627776 : Int) ≤ n
  · go_enter Tryz.func76, Tryz.ntmps76
    go_wp2
    go_ret
    simp [inR, h]
  · go_enter Tryz.func76, Tryz.ntmps76
    go_wp2
    go_ret
    simp [inR]
    omega

theorem run_eqV (k n : Int) (s : ByteArray) (k' n' : Int) (s' : ByteArray) (w : World) :
    (binOp .eql 27 (.agg #[.int .i64 k, .int .i64 n, .string s]) (.agg #[.int .i64 k', .int .i64 n', .string s'])).run Tryz.prog w = .ok (.bool (eqV k n s k' n' s')) w := by
  unfold eqV
  by_cases h1 : k = k' <;> by_cases h2 : n = n' <;> by_cases h3 : s.toList = s'.toList <;> simp [go_sem, h1, h2, h3]
theorem run_neqV (k n : Int) (s : ByteArray) (k' n' : Int) (s' : ByteArray) (w : World) :
    (binOp .neq 27 (.agg #[.int .i64 k, .int .i64 n, .string s]) (.agg #[.int .i64 k', .int .i64 n', .string s'])).run Tryz.prog w = .ok (.bool (!eqV k n s k' n' s')) w := by
  unfold eqV
  by_cases h1 : k = k' <;> by_cases h2 : n = n' <;> by_cases h3 : s.toList = s'.toList <;> simp [go_sem, h1, h2, h3]
attribute [go_sem ↓] run_eqV run_neqV

theorem new2 (w : World) (o o' : Obj) : Below w.heap.size w ((w.alloc o).alloc o') := (new1 w o).alloc (by simp) _

theorem same_ (k n : Int) (s : ByteArray) (k' n' : Int) (s' : ByteArray) (w : World) :
    Calls Tryz.prog 33 #[V k n s, V k' n' s'] w fun e w' => e = .returned (.bool (eqV k n s k' n' s')) ∧ Below w.heap.size w w' := by
  go_enter Tryz.func33, Tryz.ntmps33
  go_wp2
  go_ret
  exact ⟨rfl, new2 _ _ _⟩
end
end Go.Proofs.YthomeplakcbfoaaGreatDoor
namespace Go.Proofs.YthomeplakcbfoaaGreatDoor
section
open Go.RowKit

theorem bcell {W w1 : World} (hb : Below W.heap.size W w1) (b o : Nat) (h : b < W.heap.size) : w1.cell? ⟨b, o, none⟩ = W.cell? ⟨b, o, none⟩ := hb.cell (p := ⟨b, o, none⟩) h

theorem true_ (k n : Int) (s : ByteArray) (w : World) :
    Calls Tryz.prog 37 #[V k n s] w fun e w' => e = .returned (.bool (eqV k n s 3 1 ⟨#[]⟩)) ∧ Below w.heap.size w w' := by
  go_enter Tryz.func37, Tryz.ntmps37
  go_wp2
  go_region_held3 (fun x => (x.cell? ⟨w.heap.size, 0, none⟩ = some (.int .i64 k) ∧ x.cell? ⟨w.heap.size, 1, none⟩ = some (.int .i64 n) ∧ x.cell? ⟨w.heap.size, 2, none⟩ = some (.string s)) ∧ w.heap.size < x.heap.size ∧ Below w.heap.size w x)
    (first | exact ⟨by simp [go_sem], by simp, (new1 _ _).drew⟩ | (obtain ⟨⟨c0, c1, c2⟩, hz, hB⟩ := ‹_ ∧ _›; exact ⟨⟨(bcell hb _ _ hz).trans c0, (bcell hb _ _ hz).trans c1, (bcell hb _ _ hz).trans c2⟩, Nat.lt_of_lt_of_le hz hb.size, hB.trans (hb.mono (Nat.le_of_lt hz))⟩))
    (first | (go_at_call 60; refine (boolean_ _ _).mono ?_; rintro e w1 ⟨rfl, hb⟩))
  rename_i hH
  have hB := Lib.hid hH.2.2
  clear hH
  go_wp2
  go_ret
  exact ⟨rfl, hB.out⟩
theorem ret_bool {a b : Bool} (h : a = b) : Ending.returned (.bool a) = Ending.returned (.bool b) := by rw [h]
theorem all_take (s : ByteArray) (k : Nat) (h : k < s.size) : (s.data.toList.take (k + 1)).all okByte = ((s.data.toList.take k).all okByte && okByte s[k]) := by
  rw [List.take_succ_eq_append_getElem (by simpa using h), List.all_append]
  simp
  rfl
theorem okText_bad (s : ByteArray) (k : Nat) (h : k < s.size) (hb : (s[k].toNat : Int) < 32 ∨ 126 < (s[k].toNat : Int)) : okText s = false := by
  have h1 : s.data.toList.all okByte = false := by
    rw [List.all_eq_false]
    refine ⟨s[k], ?_, ?_⟩
    · show s.data[k] ∈ _
      simp
    · unfold okByte
      simp
      omega
  simp [okText, h1]
theorem okText_good (s : ByteArray) (k : Nat) (hk : k ≤ s.size) (hge : ¬ k < s.size) (ha : (s.data.toList.take k).all okByte = true) (h : s.size ≤ 200) : okText s = true := by
  have : k = s.data.toList.length := by simp; show k = s.size; omega
  rw [this, List.take_length] at ha
  simp only [okText, ha, Bool.and_true, decide_eq_true_eq]
  exact h
theorem okText_long (s : ByteArray) (h : 200 < s.size) : okText s = false := by simp [okText]; omega
theorem okByte_of (c : UInt8) (h1 : (32 : Int) ≤ c.toNat) (h2 : (c.toNat : Int) ≤ 126) : okByte c = true := by simp [okByte]; omega

theorem isText_ (s : ByteArray) (w : World) : Calls Tryz.prog 63 #[.string s] w fun e w' => e = .returned (.bool (okText s)) ∧ w = w' := by
  by_cases hs : 200 < s.size
  · go_enter Tryz.func63, Tryz.ntmps63
    go_wp2
    go_ret
    exact ⟨ret_bool (okText_long s hs).symm, rfl⟩
  · go_enter Tryz.func63, Tryz.ntmps63
    go_wp2
    go_loop [9] (fun i => ∃ k : Nat, k ≤ s.size ∧ i = .int .i64 k ∧ (s.data.toList.take k).all okByte = true) (fun i => s.size - (intOf i).toNat)
    case atStart => exact ⟨0, Nat.zero_le _, rfl, by simp⟩
    case round =>
      obtain ⟨k, hk, rfl, ha⟩ := hrel
      have HA := Lib.hid ha
      clear ha
      by_cases hlt : k < s.size
      · go_wp2
        · go_ret
          exact ⟨ret_bool (okText_bad s k hlt (by omega)).symm, rfl⟩
        · go_round
          case rel => exact ⟨k + 1, by omega, by go_num, by rw [all_take s k hlt, HA.out, okByte_of _ (by omega) (by omega)]; rfl⟩
          case measure => simp [intOf]; omega
        · go_ret
          exact ⟨ret_bool (okText_bad s k hlt (by omega)).symm, rfl⟩
      · go_wp2
        go_ret
        exact ⟨ret_bool (okText_good s k hk hlt HA.out (by omega)).symm, rfl⟩

theorem isString_ (s : ByteArray) (w : World) (hm : s.size ≤ maxLen) : Calls Tryz.prog 80 #[.string s] w fun e w' => e = .returned (.bool (okText s)) ∧ w = w' := by
  unfold maxLen at hm
  go_enter Tryz.func80, Tryz.ntmps80
  go_wp2
  go_loop [3] (fun i => ∃ k : Nat, k ≤ s.size ∧ i = .int .i64 k ∧ (s.data.toList.take k).all okByte = true) (fun i => s.size - (intOf i).toNat)
  case atStart => exact ⟨0, Nat.zero_le _, rfl, by simp⟩
  case round =>
    obtain ⟨k, hk, rfl, ha⟩ := hrel
    have HA := Lib.hid ha
    clear ha
    by_cases hlt : k < s.size
    · go_wp2
      · go_ret
        exact ⟨ret_bool (okText_bad s k hlt (by omega)).symm, rfl⟩
      · go_round
        case rel => exact ⟨k + 1, by omega, by go_num, by rw [all_take s k hlt, HA.out, okByte_of _ (by omega) (by omega)]; rfl⟩
        case measure => simp [intOf]; omega
      · go_ret
        exact ⟨ret_bool (okText_bad s k hlt (by omega)).symm, rfl⟩
    · by_cases hs : 200 < s.size
      · go_wp2
        go_ret
        exact ⟨ret_bool (by rw [okText_long s hs]; simp; omega), rfl⟩
      · go_wp2
        go_ret
        exact ⟨ret_bool (by rw [okText_good s k hk hlt HA.out (by omega)]; simp; omega), rfl⟩
end
end Go.Proofs.YthomeplakcbfoaaGreatDoor
namespace Go.Proofs.YthomeplakcbfoaaGreatDoor
section
open Go.RowKit

theorem vld0 (n : Int) (s : ByteArray) : vld 0 n s = eqV 0 n s 0 0 ⟨#[]⟩ := by simp [vld, eqV]
theorem vld1 (n : Int) (s : ByteArray) : vld 1 n s = (inR n && s.toList.isEmpty) := by simp [vld, eqV]
theorem vld2 (n : Int) (s : ByteArray) : vld 2 n s = (n == 0 && okText s) := by simp [vld, eqV]
theorem vld3 (n : Int) (s : ByteArray) : vld 3 n s = (eqV 3 n s 3 0 ⟨#[]⟩ || eqV 3 n s 3 1 ⟨#[]⟩) := by simp [vld, eqV]
theorem vldx (k n : Int) (s : ByteArray) (h0 : k ≠ 0) (h1 : k ≠ 1) (h2 : k ≠ 2) (h3 : k ≠ 3) : vld k n s = false := by simp [vld, eqV, h0, h1, h2, h3]

theorem valid_ (k n : Int) (s : ByteArray) (w : World) : Calls Tryz.prog 31 #[V k n s] w fun e w' => e = .returned (.bool (vld k n s)) ∧ Below w.heap.size w w' := by
  by_cases h0 : k = 0
  · subst h0
    go_enter Tryz.func31, Tryz.ntmps31
    go_wp2
    go_ret
    exact ⟨ret_bool (vld0 _ _).symm, new1 _ _⟩
  by_cases h1 : k = 1
  · subst h1
    cases hn : inR n
    · have H := Lib.hid (vld1 n s); rw [hn] at H
      go_enter Tryz.func31, Tryz.ntmps31
      go_wp2_with (first | (go_at_call 62; refine (inRange_ _ _).mono ?_; rintro e w1 ⟨rfl, rfl⟩))
      go_ret
      exact ⟨ret_bool (by rw [H.out]; rfl), new1 _ _⟩
    · have H := Lib.hid (vld1 n s); rw [hn] at H
      go_enter Tryz.func31, Tryz.ntmps31
      go_wp2_with (first | (go_at_call 62; refine (inRange_ _ _).mono ?_; rintro e w1 ⟨rfl, rfl⟩))
      go_ret
      exact ⟨ret_bool (by rw [H.out]; rfl), new1 _ _⟩
  by_cases h2 : k = 2
  · subst h2
    cases hn : n == 0
    · have H := Lib.hid (vld2 n s); rw [hn] at H
      go_enter Tryz.func31, Tryz.ntmps31
      go_wp2_with (first | (go_at_call 63; refine (isText_ _ _).mono ?_; rintro e w1 ⟨rfl, rfl⟩))
      go_ret
      exact ⟨ret_bool (by rw [H.out]; rfl), new1 _ _⟩
    · have H := Lib.hid (vld2 n s); rw [hn] at H
      go_enter Tryz.func31, Tryz.ntmps31
      go_wp2_with (first | (go_at_call 63; refine (isText_ _ _).mono ?_; rintro e w1 ⟨rfl, rfl⟩))
      go_ret
      exact ⟨ret_bool (by rw [H.out]; rfl), new1 _ _⟩
  by_cases h3 : k = 3
  · subst h3
    cases hn : eqV 3 n s 3 0 ⟨#[]⟩
    · have H := Lib.hid (vld3 n s); rw [hn] at H
      go_enter Tryz.func31, Tryz.ntmps31
      go_wp2
      go_region_held3 (fun x => (x.cell? ⟨w.heap.size, 0, none⟩ = some (.int .i64 3) ∧ x.cell? ⟨w.heap.size, 1, none⟩ = some (.int .i64 n) ∧ x.cell? ⟨w.heap.size, 2, none⟩ = some (.string s)) ∧ w.heap.size < x.heap.size ∧ Below w.heap.size w x)
        (first | exact ⟨by simp [go_sem], by simp, (new1 _ _).drew⟩ | (obtain ⟨⟨c0, c1, c2⟩, hz, hB⟩ := ‹_ ∧ _›; exact ⟨⟨(bcell hb _ _ hz).trans c0, (bcell hb _ _ hz).trans c1, (bcell hb _ _ hz).trans c2⟩, Nat.lt_of_lt_of_le hz hb.size, hB.trans (hb.mono (Nat.le_of_lt hz))⟩))
        (first | (go_at_call 60; refine (boolean_ _ _).mono ?_; rintro e w1 ⟨rfl, hb⟩))
      rename_i hH
      have hB := Lib.hid hH.2.2
      clear hH
      go_wp2
      go_ret
      exact ⟨ret_bool (by rw [H.out]; rfl), hB.out⟩
    · have H := Lib.hid (vld3 n s); rw [hn] at H
      go_enter Tryz.func31, Tryz.ntmps31
      go_wp2
      go_region_with (go_at_call 60; refine (boolean_ _ _).mono ?_; rintro e w1 ⟨rfl, hb⟩; have q0 := bcell hb w.heap.size 0 (by simp); have q1 := bcell hb w.heap.size 1 (by simp); have q2 := bcell hb w.heap.size 2 (by simp))
      all_goals
        have hB := Lib.hid (((new1 w _).drew).trans (hb.mono (Nat.le_of_lt (show w.heap.size < _ by simp))))
        clear hb q0 q1 q2
        go_wp2
        go_ret
        exact ⟨ret_bool (by rw [H.out]; rfl), hB.out⟩
  · go_enter Tryz.func31, Tryz.ntmps31
    go_wp2
    go_ret
    exact ⟨ret_bool (vldx k n s h0 h1 h2 h3).symm, new1 _ _⟩

theorem eqV_split (k n : Int) (s : ByteArray) (k' n' : Int) : eqV k n s k' n' ⟨#[]⟩ = (k == k' && n == n' && s.toList.isEmpty) := by
  rw [eqV, toList_nil]
  cases s.toList <;> rfl
theorem ref_valid (k n : Int) (s : ByteArray) (w : World) (hm : s.size ≤ maxLen) : Calls Tryz.prog 52 #[V k n s] w fun e w' => e = .returned (.bool (vld k n s)) ∧ Below w.heap.size w w' := by
  have hm' : s.size ≤ maxLen := hm
  by_cases h0 : k = 0
  · subst h0
    have H := Lib.hid (vld0 n s); rw [eqV_split] at H
    cases hn : n == 0
    all_goals
      rw [hn] at H
      go_enter Tryz.func52, Tryz.ntmps52
      go_wp2
      go_ret
      exact ⟨ret_bool (by rw [H.out]; rfl), new1 _ _⟩
  by_cases h1 : k = 1
  · subst h1
    have H := Lib.hid (vld1 n s)
    cases hn : inR n
    all_goals
      rw [hn] at H
      go_enter Tryz.func52, Tryz.ntmps52
      go_wp2_with (first | (go_at_call 76; refine (isInt_ _ _).mono ?_; rintro e w1 ⟨rfl, rfl⟩))
      go_ret
      exact ⟨ret_bool (by rw [H.out]; rfl), new1 _ _⟩
  by_cases h2 : k = 2
  · subst h2
    have H := Lib.hid (vld2 n s)
    cases hn : n == 0
    all_goals
      rw [hn] at H
      go_enter Tryz.func52, Tryz.ntmps52
      go_wp2_with (first | (go_at_call 80; refine (isString_ _ _ hm').mono ?_; rintro e w1 ⟨rfl, rfl⟩))
      go_ret
      exact ⟨ret_bool (by rw [H.out]; rfl), new1 _ _⟩
  by_cases h3 : k = 3
  · subst h3
    have H := Lib.hid (vld3 n s); rw [eqV_split, eqV_split] at H
    cases hn : n == 0
    · cases hn1 : n == 1
      all_goals
        rw [hn, hn1] at H
        go_enter Tryz.func52, Tryz.ntmps52
        go_wp2
        go_ret
        exact ⟨ret_bool (by rw [H.out]; simp), new1 _ _⟩
    · obtain rfl : n = 0 := by simpa using hn
      clear hn
      go_enter Tryz.func52, Tryz.ntmps52
      go_wp2
      go_ret
      exact ⟨ret_bool (by rw [H.out]; simp), new1 _ _⟩
  · go_enter Tryz.func52, Tryz.ntmps52
    go_wp2
    go_ret
    exact ⟨ret_bool (vldx k n s h0 h1 h2 h3).symm, new1 _ _⟩
end
end Go.Proofs.YthomeplakcbfoaaGreatDoor
namespace Go.Proofs.YthomeplakcbfoaaGreatDoor
section
open Go.RowKit

/-- Block b is a map with just these entries, in this order. -/
def MapIs (w : World) (b : Nat) (es : List (ByteArray × Value)) : Prop :=
  ∃ (a : Array MapEntry) (clock : Nat), w.heap[b]? = some (.map a clock) ∧ a.toList.map (fun e => (e.key, e.val)) = es.map (fun p => (Value.string p.1, p.2))

theorem MapIs.made (w : World) : MapIs (w.alloc (.map #[] 0)) w.heap.size [] := ⟨#[], 0, (MapKept.heap_alloc w _).1, by simp⟩
theorem MapIs.lt {w : World} {b : Nat} {es : List (ByteArray × Value)} (h : MapIs w b es) : b < w.heap.size := by
  obtain ⟨a, c, hb, _⟩ := h
  exact (Array.getElem?_eq_some_iff.1 hb).1
theorem MapIs.of_block {w w' : World} {b : Nat} {es : List (ByteArray × Value)} (h : MapIs w b es) (hb : w'.heap[b]? = w.heap[b]?) : MapIs w' b es := by
  obtain ⟨a, c, h1, h2⟩ := h
  exact ⟨a, c, hb.trans h1, h2⟩

def findE (es : List (ByteArray × Value)) (key : ByteArray) : Option Value := (es.find? fun p => key == p.1).map (·.2)

theorem findNow_lit (key : ByteArray) : ∀ (l : List MapEntry) (es : List (ByteArray × Value)) (i : Nat), l.map (fun e => (e.key, e.val)) = es.map (fun p => (Value.string p.1, p.2)) →
    ∃ r : Option (Nat × Value), Instr.findNow .string (.string key) l i = some r ∧ r.map (·.2) = findE es key
  | [], es, i, h => by
    cases es with
    | nil => exact ⟨none, rfl, rfl⟩
    | cons _ _ => simp at h
  | e :: l, es, i, h => by
    cases es with
    | nil => simp at h
    | cons p es =>
      simp only [List.map_cons, List.cons.injEq, Prod.mk.injEq] at h
      obtain ⟨⟨hk, hv⟩, hl⟩ := h
      obtain ⟨r, h1, h2⟩ := findNow_lit key l es (i + 1) hl
      cases hq : key == p.1
      · refine ⟨r, ?_, ?_⟩
        · simp [Instr.findNow, hk, Instr.sameNow, hq, h1]
        · rw [h2]; simp [findE, List.find?, hq]
      · refine ⟨some (i, e.val), ?_, ?_⟩
        · simp [Instr.findNow, hk, Instr.sameNow, hq]
        · simp [findE, List.find?, hq, hv]

variable {P : Program}

theorem run_lookup_lit {w : World} {b : Nat} {es : List (ByteArray × Value)} (h : MapIs w b es) {t kt e : TypeId} (ht : P.underlying t = some (.map kt e)) (hk : P.underlying kt = some .string) {z : Value} (hz : (zeroValue e).run P w = .ok z w) (key : ByteArray) :
    (Instr.lookup t (.map (some b)) (.string key) true).run P w = .ok (.tuple #[(findE es key).getD z, .bool (findE es key).isSome]) w := by
  obtain ⟨a, c, hb, hl⟩ := h
  obtain ⟨r, h1, h2⟩ := findNow_lit key a.toList es 0 hl
  have hc : (Instr.checkKey a.isEmpty 10000 kt (.string key)).run P w = .ok () w := MapKept.run_checkKey (k := .string key) hk (by simp [MapKept.IsKey]) _ 9999
  have hf := MapKept.run_findKey (w := w) hk h1
  rw [← h2]
  cases r with
  | none => simp [Instr.lookup, run_underlying ht, MapKept.run_getObj_map hb, hc, hf, hz, Result.andThen]
  | some p => simp [Instr.lookup, run_underlying ht, MapKept.run_getObj_map hb, hc, hf, Result.andThen]

/-- Only the map at block b has turned, since w0. -/
structure Fed (w0 w : World) (b : Nat) (es : List (ByteArray × Value)) : Prop where
  here : MapIs w b es
  cell : ∀ p, w.cell? p = w0.cell? p
  frozen : ∀ p, w.frozen? p = w0.frozen? p
  size : w.heap.size = w0.heap.size
  grown : w0.grownBy w (some b)

theorem Fed.begin {w : World} {b : Nat} {es : List (ByteArray × Value)} (h : MapIs w b es) : Fed w w b es := ⟨h, fun _ => rfl, fun _ => rfl, rfl, World.grownBy.refl w _⟩
theorem Fed.made (w : World) : Fed (w.alloc (.map #[] 0)) (w.alloc (.map #[] 0)) w.heap.size [] := .begin (MapIs.made w)
theorem Fed.made' (w : World) (b : Nat) (h : w.heap.size = b) : Fed (w.alloc (.map #[] 0)) (w.alloc (.map #[] 0)) b [] := by rw [← h]; exact Fed.made w
theorem Fed.below {w0 w : World} {b : Nat} {es : List (ByteArray × Value)} (h : Fed w0 w b es) {B : Nat} (hB : B ≤ b) (hB' : B ≤ w0.heap.size) : Below B w0 w :=
  (Below.refl _ _).grown h.grown hB' (fun k hk => by cases hk; exact hB)

theorem Fed.insert {w0 w : World} {b : Nat} {es : List (ByteArray × Value)} (h : Fed w0 w b es) {t kt e : TypeId} (ht : P.underlying t = some (.map kt e)) (hk : P.underlying kt = some .string) (key : ByteArray) (val : Value) (hnew : findE es key = none) :
    ∃ w', (Instr.mapUpdate t (.map (some b)) (.string key) val).run P w = .ok () w' ∧ Fed w0 w' b (es ++ [(key, val)]) := by
  obtain ⟨⟨a, c, hb, hl⟩, hcell, hfz, hsz, hg⟩ := h
  obtain ⟨r, h1, h2⟩ := findNow_lit key a.toList es 0 hl
  rw [hnew] at h2
  have hr : r = none := by cases r <;> simp at h2 ⊢
  subst hr
  have hc : (Instr.checkKey false 10000 kt (.string key)).run P w = .ok () w := MapKept.run_checkKey (k := .string key) hk (by simp [MapKept.IsKey]) _ 9999
  have hf := MapKept.run_findKey (w := w) hk h1
  refine ⟨{ w with heap := w.heap.setIfInBounds b (.map (a.push { key := .string key, val := val, born := c }) (c + 1)) }, ?_, ?_⟩
  · simp [Instr.mapUpdate, run_underlying ht, MapKept.run_getObj_map hb, hc, hf, MapKept.run_setObj_map _ hb, Result.andThen]
  · have hset := MapKept.heap_set (o' := .map (a.push { key := .string key, val := val, born := c }) (c + 1)) hb
    refine ⟨⟨_, _, hset.1, by simp [hl]⟩, fun p => ?_, fun p => ?_, by simp [hsz], ⟨hg.os, hg.tape, hg.output, by simp [hg.size], fun i hi hne => ?_⟩⟩
    · rw [← hcell p]
      by_cases hp : p.block = b
      · simp only [World.cell?, hp, hset.1, hb]
      · simp only [World.cell?, hset.2 _ hp]
    · rw [← hfz p]
      by_cases hp : p.block = b
      · simp only [World.frozen?, hp, hset.1, hb]
      · simp only [World.frozen?, hset.2 _ hp]
    · have hib : i ≠ b := fun e => hne (by rw [e])
      exact (hset.2 i hib).trans (hg.block i hi hne)

/-- The operation by which a literal lays an entry, for the walk. -/
theorem wpList_insert_lit {w0 w : World} {ops : Array Oper} {rest : List Oper} {o : Oper} {a : Act} {Q : Exit → Act → World → Prop}
    (hg : o.guard = none) (m x v : Operand) (t kt e : TypeId) (hop : o.op = Op.insert t m x v) (ht : P.underlying t = some (.map kt e)) (hk : P.underlying kt = some .string)
    {b : Nat} {es : List (ByteArray × Value)} (h : Fed w0 w b es) (key : ByteArray) (val : Value) (hm : a.eval m = .map (some b)) (hx : a.eval x = .string key) (hv : a.eval v = val) (hnew : findE es key = none)
    (hK : ∀ w', Fed w0 w' b (es ++ [(key, val)]) → wpList P ops Q rest (a.put o.dst undef) w') : wpList P ops Q (o :: rest) a w := by
  refine wpList_plain hg fun K' hK' => ?_
  obtain ⟨w', hrun, hF⟩ := h.insert ht hk key val hnew
  unfold Oper.wp
  simp [execOp, hop, hm, hx, hv, hrun, Result.andThen]
  exact hK' _ _ (hK w' hF)

/-- Block b holds three cells, that may be written. -/
structure B3 (x : World) (b : Nat) (c0 c1 c2 : Value) : Prop where
  c0 : x.cell? ⟨b, 0, none⟩ = some c0
  c1 : x.cell? ⟨b, 1, none⟩ = some c1
  c2 : x.cell? ⟨b, 2, none⟩ = some c2
  f0 : x.frozen? ⟨b, 0, none⟩ = false
  f1 : x.frozen? ⟨b, 1, none⟩ = false
  f2 : x.frozen? ⟨b, 2, none⟩ = false
  lt : b < x.heap.size
theorem B3.below {x y : World} {b : Nat} {c0 c1 c2 : Value} (h : B3 x b c0 c1 c2) (hb : Below x.heap.size x y) : B3 y b c0 c1 c2 :=
  ⟨(hb.cell (p := ⟨b, 0, none⟩) h.lt).trans h.c0, (hb.cell (p := ⟨b, 1, none⟩) h.lt).trans h.c1, (hb.cell (p := ⟨b, 2, none⟩) h.lt).trans h.c2,
   (hb.frozen (p := ⟨b, 0, none⟩) h.lt).trans h.f0, (hb.frozen (p := ⟨b, 1, none⟩) h.lt).trans h.f1, (hb.frozen (p := ⟨b, 2, none⟩) h.lt).trans h.f2, Nat.lt_of_lt_of_le h.lt hb.size⟩
theorem B3.alloc {x : World} {b : Nat} {c0 c1 c2 : Value} (h : B3 x b c0 c1 c2) (o : Obj) : B3 (x.alloc o) b c0 c1 c2 := h.below ((Below.refl _ _).alloc (Nat.le_refl _) o)
theorem B3.new (x : World) (c0 c1 c2 : Value) (t : TypeId) : B3 (x.alloc (.cells #[c0, c1, c2] t)) x.heap.size c0 c1 c2 :=
  ⟨by simp, by simp, by simp, by simp, by simp, by simp, by simp⟩
theorem B3.new' (x : World) (b : Nat) (h : x.heap.size = b) (c0 c1 c2 : Value) (t : TypeId) : B3 (x.alloc (.cells #[c0, c1, c2] t)) b c0 c1 c2 := by rw [← h]; exact B3.new x c0 c1 c2 t
theorem B3.fed {x y : World} {b g : Nat} {es : List (ByteArray × Value)} {c0 c1 c2 : Value} (h : B3 x b c0 c1 c2) (hF : Fed x y g es) : B3 y b c0 c1 c2 :=
  ⟨(hF.cell _).trans h.c0, (hF.cell _).trans h.c1, (hF.cell _).trans h.c2, (hF.frozen _).trans h.f0, (hF.frozen _).trans h.f1, (hF.frozen _).trans h.f2, by rw [hF.size]; exact h.lt⟩
theorem B3.drew {x : World} {b : Nat} {c0 c1 c2 : Value} (h : B3 x b c0 c1 c2) : B3 x.drew b c0 c1 c2 := ⟨h.c0, h.c1, h.c2, h.f0, h.f1, h.f2, h.lt⟩

/-- Since w the call has made blocks of its own alone; here are one, two or three of them. -/
structure K1 (w x : World) (b : Nat) (c0 c1 c2 : Value) : Prop where
  HB : Below w.heap.size w x
  q : B3 x b c0 c1 c2
theorem K1.below {w x y : World} {b : Nat} {c0 c1 c2 : Value} (h : K1 w x b c0 c1 c2) (hb : Below x.heap.size x y) : K1 w y b c0 c1 c2 :=
  ⟨h.HB.trans (hb.mono h.HB.size), h.q.below hb⟩
theorem K1.alloc {w x : World} {b : Nat} {c0 c1 c2 : Value} (h : K1 w x b c0 c1 c2) (o : Obj) : K1 w (x.alloc o) b c0 c1 c2 := h.below ((Below.refl _ _).alloc (Nat.le_refl _) o)
structure K2 (w x : World) (b : Nat) (c0 c1 c2 : Value) (b' : Nat) (c0' c1' c2' : Value) : Prop where
  HB : Below w.heap.size w x
  q : B3 x b c0 c1 c2
  q' : B3 x b' c0' c1' c2'
theorem K2.below {w x y : World} {b : Nat} {c0 c1 c2 : Value} {b' : Nat} {c0' c1' c2' : Value} (h : K2 w x b c0 c1 c2 b' c0' c1' c2') (hb : Below x.heap.size x y) : K2 w y b c0 c1 c2 b' c0' c1' c2' :=
  ⟨h.HB.trans (hb.mono h.HB.size), h.q.below hb, h.q'.below hb⟩
theorem K2.alloc {w x : World} {b : Nat} {c0 c1 c2 : Value} {b' : Nat} {c0' c1' c2' : Value} (h : K2 w x b c0 c1 c2 b' c0' c1' c2') (o : Obj) : K2 w (x.alloc o) b c0 c1 c2 b' c0' c1' c2' := h.below ((Below.refl _ _).alloc (Nat.le_refl _) o)
structure K3 (w x : World) (b : Nat) (c0 c1 c2 : Value) (b' : Nat) (c0' c1' c2' : Value) (d : Nat) (e0 e1 e2 : Value) : Prop where
  HB : Below w.heap.size w x
  q : B3 x b c0 c1 c2
  q' : B3 x b' c0' c1' c2'
  p : B3 x d e0 e1 e2
theorem K3.below {w x y : World} {b : Nat} {c0 c1 c2 : Value} {b' : Nat} {c0' c1' c2' : Value} {d : Nat} {e0 e1 e2 : Value} (h : K3 w x b c0 c1 c2 b' c0' c1' c2' d e0 e1 e2) (hb : Below x.heap.size x y) : K3 w y b c0 c1 c2 b' c0' c1' c2' d e0 e1 e2 :=
  ⟨h.HB.trans (hb.mono h.HB.size), h.q.below hb, h.q'.below hb, h.p.below hb⟩
theorem K3.alloc {w x : World} {b : Nat} {c0 c1 c2 : Value} {b' : Nat} {c0' c1' c2' : Value} {d : Nat} {e0 e1 e2 : Value} (h : K3 w x b c0 c1 c2 b' c0' c1' c2' d e0 e1 e2) (o : Obj) : K3 w (x.alloc o) b c0 c1 c2 b' c0' c1' c2' d e0 e1 e2 := h.below ((Below.refl _ _).alloc (Nat.le_refl _) o)
theorem sz1 (w : World) (o : Obj) : (w.alloc o).heap.size = w.heap.size + 1 := by simp
theorem sz2 (w : World) (o o' : Obj) : ((w.alloc o).alloc o').heap.size = w.heap.size + 1 + 1 := by simp
theorem sz3 (w : World) (o o' o'' : Obj) : (((w.alloc o).alloc o').alloc o'').heap.size = w.heap.size + 1 + 1 + 1 := by simp
theorem lt_add1 (n : Nat) : n ≤ n + 1 := Nat.le_succ n
/-- The result's block written: nothing that was there before the call has turned. -/
theorem set3 {w x : World} (h : Below w.heap.size w x) (b : Nat) (hb : w.heap.size ≤ b) (u0 u1 u2 : Value) :
    Below w.heap.size w (((x.setCell ⟨b, 0, none⟩ u0).setCell ⟨b, 1, none⟩ u1).setCell ⟨b, 2, none⟩ u2) :=
  ((h.setCell hb u0).setCell hb u1).setCell hb u2

end
end Go.Proofs.YthomeplakcbfoaaGreatDoor
namespace Go.Proofs.YthomeplakcbfoaaGreatDoor
section
open Go.RowKit

theorem sl1 (x : World) (k n : Int) (s : ByteArray) : Sl (x.alloc (.cells #[.int .i64 k, .int .i64 n, .string s] 27)) (some ⟨x.heap.size, 0, none⟩) [⟨k, n, s⟩] := by
  intro i u hu
  match i, hu with
  | 0, hu => cases hu; exact ⟨x.heap.size, 0, rfl, by simp, by simp, by simp, by simp⟩

theorem read3 {x : World} {b : Nat} {c0 c1 c2 : Value} (h : B3 x b c0 c1 c2) (u0 u1 u2 : Value) :
    (((x.setCell ⟨b, 0, none⟩ u0).setCell ⟨b, 1, none⟩ u1).setCell ⟨b, 2, none⟩ u2).cell? ⟨b, 0, none⟩ = some u0 ∧
    (((x.setCell ⟨b, 0, none⟩ u0).setCell ⟨b, 1, none⟩ u1).setCell ⟨b, 2, none⟩ u2).cell? ⟨b, 1, none⟩ = some u1 ∧
    (((x.setCell ⟨b, 0, none⟩ u0).setCell ⟨b, 1, none⟩ u1).setCell ⟨b, 2, none⟩ u2).cell? ⟨b, 2, none⟩ = some u2 := by
  refine ⟨?_, ?_, ?_⟩
  · rw [World.cell?_setCell_other _ _ _ _ (by simp), World.cell?_setCell_other _ _ _ _ (by simp)]
    exact World.cell?_setCell_same _ _ _ h.c0
  · rw [World.cell?_setCell_other _ _ _ _ (by simp)]
    exact World.cell?_setCell_same _ _ _ (u := c1) (by rw [World.cell?_setCell_other _ _ _ _ (by simp)]; exact h.c1)
  · exact World.cell?_setCell_same _ _ _ (u := c2) (by rw [World.cell?_setCell_other _ _ _ _ (by simp), World.cell?_setCell_other _ _ _ _ (by simp)]; exact h.c2)
theorem results_two {fn : Func} {p q : Tmp} (h : fn.results = #[.cell p 27, .tmp q]) (tmps : Array Value) {b : Nat} (hp : tmps.getD p undef = .pointer (some ⟨b, 0, none⟩)) {z : World} {k n : Int} {s : ByteArray}
    (z0 : z.cell? ⟨b, 0, none⟩ = some (.int .i64 k)) (z1 : z.cell? ⟨b, 1, none⟩ = some (.int .i64 n)) (z2 : z.cell? ⟨b, 2, none⟩ = some (.string s)) :
    (results fn tmps).run Tryz.prog z = .ok (.tuple #[V k n s, tmps.getD q undef]) z := by
  simp only [Array.getD_eq_getD_getElem?] at hp
  simp [results, h, hp, go_sem, z0, z1, z2]
/-- A return of a value and an error, the value having been written into the result's block. -/
theorem ret_two {fn : Func} {p q : Tmp} (h : fn.results = #[.cell p 27, .tmp q]) {R : Ending → World → Prop} {a : Act} (hd : a.defers = []) {x : World} {b : Nat} {c0 c1 c2 : Value} (K : B3 x b c0 c1 c2) {k n : Int} {s : ByteArray}
    (hp : a.tmps.getD p undef = .pointer (some ⟨b, 0, none⟩))
    (hR : R (.returned (.tuple #[V k n s, a.tmps.getD q undef])) (((x.setCell ⟨b, 0, none⟩ (.int .i64 k)).setCell ⟨b, 1, none⟩ (.int .i64 n)).setCell ⟨b, 2, none⟩ (.string s))) :
    bodyPost Tryz.prog fn R .ret a (((x.setCell ⟨b, 0, none⟩ (.int .i64 k)).setCell ⟨b, 1, none⟩ (.int .i64 n)).setCell ⟨b, 2, none⟩ (.string s)) :=
  let z := read3 K (.int .i64 k) (.int .i64 n) (.string s)
  bodyPost_ret (results_two h a.tmps hp z.1 z.2.1 z.2.2) hd hR

/-- Blocks of three cells each, of the call's own. -/
def KQ (x : World) : List (Nat × Value × Value × Value) → Prop
  | [] => True
  | p :: l => B3 x p.1 p.2.1 p.2.2.1 p.2.2.2 ∧ KQ x l
theorem KQ.below {x y : World} (hb : Below x.heap.size x y) : ∀ {l : List (Nat × Value × Value × Value)}, KQ x l → KQ y l
  | [], _ => trivial
  | _ :: _, h => ⟨h.1.below hb, KQ.below hb h.2⟩
structure KL (w x : World) (l : List (Nat × Value × Value × Value)) : Prop where
  HB : Below w.heap.size w x
  q : KQ x l
theorem KL.below {w x y : World} {l : List (Nat × Value × Value × Value)} (h : KL w x l) (hb : Below x.heap.size x y) : KL w y l := ⟨h.HB.trans (hb.mono h.HB.size), h.q.below hb⟩
theorem KL.alloc {w x : World} {l : List (Nat × Value × Value × Value)} (h : KL w x l) (o : Obj) : KL w (x.alloc o) l := h.below (new1 _ _)
theorem KL.push {w x : World} {l : List (Nat × Value × Value × Value)} (h : KL w x l) (c0 c1 c2 : Value) (t : TypeId) : KL w (x.alloc (.cells #[c0, c1, c2] t)) ((x.heap.size, c0, c1, c2) :: l) :=
  ⟨(h.alloc _).HB, B3.new x c0 c1 c2 t, (h.alloc _).q⟩
theorem KL.push' {w x : World} {l : List (Nat × Value × Value × Value)} (h : KL w x l) (b : Nat) (hb : x.heap.size = b) (c0 c1 c2 : Value) (t : TypeId) : KL w (x.alloc (.cells #[c0, c1, c2] t)) ((b, c0, c1, c2) :: l) := by
  rw [← hb]; exact h.push c0 c1 c2 t
theorem KL.refl (w : World) : KL w w [] := ⟨Below.refl _ _, trivial⟩
theorem B3.other {x : World} {b : Nat} {c0 c1 c2 : Value} (h : B3 x b c0 c1 c2) {p : Addr} (hp : p.block ≠ b) (u : Value) : B3 (x.setCell p u) b c0 c1 c2 :=
  ⟨(World.cell?_setCell_other _ _ _ _ (by intro e; apply hp; rw [e])).trans h.c0, (World.cell?_setCell_other _ _ _ _ (by intro e; apply hp; rw [e])).trans h.c1, (World.cell?_setCell_other _ _ _ _ (by intro e; apply hp; rw [e])).trans h.c2,
   by rw [World.frozen?_setCell]; exact h.f0, by rw [World.frozen?_setCell]; exact h.f1, by rw [World.frozen?_setCell]; exact h.f2, by simpa using h.lt⟩
theorem B3.set3 {x : World} {b : Nat} {c0 c1 c2 : Value} (h : B3 x b c0 c1 c2) (u0 u1 u2 : Value) : B3 (((x.setCell ⟨b, 0, none⟩ u0).setCell ⟨b, 1, none⟩ u1).setCell ⟨b, 2, none⟩ u2) b u0 u1 u2 := by
  obtain ⟨z0, z1, z2⟩ := read3 h u0 u1 u2
  exact ⟨z0, z1, z2, by simp only [World.frozen?_setCell]; exact h.f0, by simp only [World.frozen?_setCell]; exact h.f1, by simp only [World.frozen?_setCell]; exact h.f2, by simpa using h.lt⟩
theorem KQ.other {x : World} {b : Nat} (u0 u1 u2 : Value) : ∀ {l : List (Nat × Value × Value × Value)}, (∀ p ∈ l, b ≠ p.1) → KQ x l → KQ (((x.setCell ⟨b, 0, none⟩ u0).setCell ⟨b, 1, none⟩ u1).setCell ⟨b, 2, none⟩ u2) l
  | [], _, _ => trivial
  | p :: _, hn, h => ⟨((h.1.other (hn p (by simp)) u0).other (hn p (by simp)) u1).other (hn p (by simp)) u2, KQ.other u0 u1 u2 (fun q hq => hn q (by simp [hq])) h.2⟩
/-- The first of the blocks is written. -/
theorem KL.set {w x : World} {b : Nat} {c0 c1 c2 : Value} {l : List (Nat × Value × Value × Value)} (h : KL w x ((b, c0, c1, c2) :: l)) (hw : w.heap.size ≤ b) (hn : ∀ p ∈ l, b ≠ p.1) (u0 u1 u2 : Value) :
    KL w (((x.setCell ⟨b, 0, none⟩ u0).setCell ⟨b, 1, none⟩ u1).setCell ⟨b, 2, none⟩ u2) ((b, u0, u1, u2) :: l) :=
  ⟨_root_.Go.Proofs.YthomeplakcbfoaaGreatDoor.set3 h.HB b hw u0 u1 u2, h.q.1.set3 u0 u1 u2, KQ.other u0 u1 u2 hn h.q.2⟩
theorem KL.tail {w x : World} {p : Nat × Value × Value × Value} {l : List (Nat × Value × Value × Value)} (h : KL w x (p :: l)) : KL w x l := ⟨h.HB, h.q.2⟩
theorem ret_two_at {fn : Func} {p q : Tmp} (h : fn.results = #[.cell p 27, .tmp q]) {R : Ending → World → Prop} {a : Act} (hd : a.defers = []) {z : World} {b : Nat} {k n : Int} {s : ByteArray} (K : B3 z b (.int .i64 k) (.int .i64 n) (.string s))
    (hp : a.tmps.getD p undef = .pointer (some ⟨b, 0, none⟩)) (hR : R (.returned (.tuple #[V k n s, a.tmps.getD q undef])) z) : bodyPost Tryz.prog fn R .ret a z :=
  bodyPost_ret (results_two h a.tmps hp K.c0 K.c1 K.c2) hd hR
/-- What is left of the body behind its first n statements. -/
def tailC : Nat → Code → Code
  | 0, c => c
  | n + 1, .seq _ b => tailC n b
  | _ + 1, c => c
theorem results_one {fn : Func} {p : Tmp} (h : fn.results = #[.cell p 27]) (tmps : Array Value) {b : Nat} (hp : tmps.getD p undef = .pointer (some ⟨b, 0, none⟩)) {z : World} {k n : Int} {s : ByteArray}
    (z0 : z.cell? ⟨b, 0, none⟩ = some (.int .i64 k)) (z1 : z.cell? ⟨b, 1, none⟩ = some (.int .i64 n)) (z2 : z.cell? ⟨b, 2, none⟩ = some (.string s)) :
    (results fn tmps).run Tryz.prog z = .ok (V k n s) z := by
  simp only [Array.getD_eq_getD_getElem?] at hp
  simp [results, h, hp, go_sem, z0, z1, z2]
theorem ret_one {fn : Func} {p : Tmp} (h : fn.results = #[.cell p 27]) {R : Ending → World → Prop} {a : Act} (hd : a.defers = []) {x : World} {b : Nat} {c0 c1 c2 : Value} (K : B3 x b c0 c1 c2) {k n : Int} {s : ByteArray}
    (hp : a.tmps.getD p undef = .pointer (some ⟨b, 0, none⟩))
    (hR : R (.returned (V k n s)) (((x.setCell ⟨b, 0, none⟩ (.int .i64 k)).setCell ⟨b, 1, none⟩ (.int .i64 n)).setCell ⟨b, 2, none⟩ (.string s))) :
    bodyPost Tryz.prog fn R .ret a (((x.setCell ⟨b, 0, none⟩ (.int .i64 k)).setCell ⟨b, 1, none⟩ (.int .i64 n)).setCell ⟨b, 2, none⟩ (.string s)) :=
  let z := read3 K (.int .i64 k) (.int .i64 n) (.string s)
  bodyPost_ret (results_one h a.tmps hp z.1 z.2.1 z.2.2) hd hR
theorem ret_str {a b : ByteArray} (h : a = b) : Ending.returned (.string a) = .returned (.string b) := by rw [h]
theorem ret_int {k : IntKind} {a b : Int} (h : a = b) : Ending.returned (.int k a) = .returned (.int k b) := by rw [h]
theorem ret_int2 {k : IntKind} {a b : Int} (h : b = a) : Ending.returned (.int k a) = .returned (.int k b) := by rw [h]
end
end Go.Proofs.YthomeplakcbfoaaGreatDoor
namespace Go.Proofs.YthomeplakcbfoaaGreatDoor
section
open Go.RowKit

theorem toList_dat (s : ByteArray) : s.toList = s.data.toList := by rw [ByteArray.toList_eq]
theorem ne_emp {s : ByteArray} (h : ¬ s.size = 0) : ∃ c r, s.data.toList = c :: r ∧ ∃ h0 : 0 < s.size, s[0] = c := by
  obtain ⟨⟨l⟩⟩ := s
  cases l with
  | nil => exact absurd rfl h
  | cons c r => exact ⟨c, r, rfl, by show 0 < (c :: r).length; simp, rfl⟩
theorem byte_eq' (c d : UInt8) : ((c.toNat : Int) == (d.toNat : Int)) = (c == d) := by
  rw [Bool.eq_iff_iff, beq_iff_eq, beq_iff_eq, Int.ofNat_inj]
  exact UInt8.toNat_inj
/-- Block b holds these cells, that may be written. -/
structure BL (x : World) (b : Nat) (cs : List Value) : Prop where
  c : ∀ i v, cs[i]? = some v → x.cell? ⟨b, i, none⟩ = some v ∧ x.frozen? ⟨b, i, none⟩ = false
  lt : b < x.heap.size
theorem BL.of_block {x y : World} {b : Nat} {cs : List Value} (h : BL x b cs) (hb : y.heap[b]? = x.heap[b]?) : BL y b cs := by
  refine ⟨fun i v hv => ?_, ?_⟩
  · obtain ⟨h1, h2⟩ := h.c i v hv
    exact ⟨(World.cell?_of_block (w := x) (a := ⟨b, i, none⟩) hb).trans h1, (World.frozen?_of_block (w := x) (a := ⟨b, i, none⟩) hb).trans h2⟩
  · have h1 : ∃ o, x.heap[b]? = some o := ⟨_, Array.getElem?_eq_getElem h.lt⟩
    obtain ⟨o, ho⟩ := h1
    rw [ho] at hb
    exact (Array.getElem?_eq_some_iff.1 hb).1
theorem BL.below {x y : World} {b : Nat} {cs : List Value} (h : BL x b cs) (hb : Below x.heap.size x y) : BL y b cs := h.of_block (hb.block b h.lt)
theorem BL.grown {x y : World} {b : Nat} {cs : List Value} {row : Option Nat} (h : BL x b cs) (hg : x.grownBy y row) (hne : some b ≠ row) : BL y b cs := h.of_block (hg.block b h.lt hne)
theorem BL.alloc {x : World} {b : Nat} {cs : List Value} (h : BL x b cs) (o : Obj) : BL (x.alloc o) b cs := h.below (new1 _ _)
theorem BL.drew {x : World} {b : Nat} {cs : List Value} (h : BL x b cs) : BL x.drew b cs := ⟨h.c, h.lt⟩
theorem BL.other {x : World} {b : Nat} {cs : List Value} (h : BL x b cs) {p : Addr} (hp : p.block ≠ b) (u : Value) : BL (x.setCell p u) b cs :=
  h.of_block (Below.heap_setCell _ _ _ _ (Ne.symm hp))
theorem BL.set {x : World} {b : Nat} {cs : List Value} (h : BL x b cs) (i : Nat) (v : Value) (hi : i < cs.length) : BL (x.setCell ⟨b, i, none⟩ v) b (cs.set i v) := by
  obtain ⟨h0, _⟩ := h.c i cs[i] (List.getElem?_eq_getElem hi)
  refine ⟨fun j u hj => ?_, by simpa using h.lt⟩
  rw [World.frozen?_setCell]
  by_cases hij : i = j
  · subst hij
    rw [List.getElem?_set_self hi] at hj
    cases hj
    exact ⟨World.cell?_setCell_same _ _ _ h0, (h.c i _ (List.getElem?_eq_getElem hi)).2⟩
  · rw [List.getElem?_set_ne hij] at hj
    obtain ⟨h1, h2⟩ := h.c j u hj
    exact ⟨(World.cell?_setCell_other _ _ _ _ (by intro e; apply hij; injection e with _ e)).trans h1, h2⟩
theorem BL.new (x : World) (cs : List Value) (t : TypeId) : BL (x.alloc (.cells cs.toArray t)) x.heap.size cs := by
  refine ⟨fun i v hv => ?_, by simp⟩
  exact ⟨(World.cell?_alloc_new x cs.toArray t i).trans (by simpa using hv), World.frozen?_alloc_new x cs.toArray t i⟩
theorem BL.new' (x : World) (b : Nat) (hb : x.heap.size = b) (cs : List Value) (t : TypeId) : BL (x.alloc (.cells cs.toArray t)) b cs := by rw [← hb]; exact BL.new x cs t
theorem BL.g {x : World} {b : Nat} {cs : List Value} (h : BL x b cs) (i : Nat) (v : Value) (hv : cs[i]? = some v) : x.cell? ⟨b, i, none⟩ = some v := (h.c i v hv).1
theorem BL.f {x : World} {b : Nat} {cs : List Value} (h : BL x b cs) (i : Nat) (v : Value) (hv : cs[i]? = some v) : x.frozen? ⟨b, i, none⟩ = false := (h.c i v hv).2
theorem BL.open1 {x : World} {b : Nat} {v0 : Value} (h : BL x b [v0]) : x.cell? ⟨b, 0, none⟩ = some v0 ∧ x.frozen? ⟨b, 0, none⟩ = false ∧ b < x.heap.size := ⟨h.g 0 _ rfl, h.f 0 _ rfl, h.lt⟩
theorem BL.open3 {x : World} {b : Nat} {v0 v1 v2 : Value} (h : BL x b [v0, v1, v2]) :
    x.cell? ⟨b, 0, none⟩ = some v0 ∧ x.cell? ⟨b, 1, none⟩ = some v1 ∧ x.cell? ⟨b, 2, none⟩ = some v2 ∧ x.frozen? ⟨b, 0, none⟩ = false ∧ x.frozen? ⟨b, 1, none⟩ = false ∧ x.frozen? ⟨b, 2, none⟩ = false ∧ b < x.heap.size :=
  ⟨h.g 0 _ rfl, h.g 1 _ rfl, h.g 2 _ rfl, h.f 0 _ rfl, h.f 1 _ rfl, h.f 2 _ rfl, h.lt⟩
theorem BL.open4 {x : World} {b : Nat} {v0 v1 v2 v3 : Value} (h : BL x b [v0, v1, v2, v3]) :
    x.cell? ⟨b, 0, none⟩ = some v0 ∧ x.cell? ⟨b, 1, none⟩ = some v1 ∧ x.cell? ⟨b, 2, none⟩ = some v2 ∧ x.cell? ⟨b, 3, none⟩ = some v3 ∧ x.frozen? ⟨b, 0, none⟩ = false ∧ x.frozen? ⟨b, 1, none⟩ = false ∧ x.frozen? ⟨b, 2, none⟩ = false ∧ x.frozen? ⟨b, 3, none⟩ = false ∧ b < x.heap.size :=
  ⟨h.g 0 _ rfl, h.g 1 _ rfl, h.g 2 _ rfl, h.g 3 _ rfl, h.f 0 _ rfl, h.f 1 _ rfl, h.f 2 _ rfl, h.f 3 _ rfl, h.lt⟩
theorem BL.open5 {x : World} {b : Nat} {v0 v1 v2 v3 v4 : Value} (h : BL x b [v0, v1, v2, v3, v4]) :
    x.cell? ⟨b, 0, none⟩ = some v0 ∧ x.cell? ⟨b, 1, none⟩ = some v1 ∧ x.cell? ⟨b, 2, none⟩ = some v2 ∧ x.cell? ⟨b, 3, none⟩ = some v3 ∧ x.cell? ⟨b, 4, none⟩ = some v4 ∧ x.frozen? ⟨b, 0, none⟩ = false ∧ x.frozen? ⟨b, 1, none⟩ = false ∧ x.frozen? ⟨b, 2, none⟩ = false ∧ x.frozen? ⟨b, 3, none⟩ = false ∧ x.frozen? ⟨b, 4, none⟩ = false ∧ b < x.heap.size :=
  ⟨h.g 0 _ rfl, h.g 1 _ rfl, h.g 2 _ rfl, h.g 3 _ rfl, h.g 4 _ rfl, h.f 0 _ rfl, h.f 1 _ rfl, h.f 2 _ rfl, h.f 3 _ rfl, h.f 4 _ rfl, h.lt⟩
theorem BL.open9 {x : World} {b : Nat} {v0 v1 v2 v3 v4 v5 v6 v7 v8 : Value} (h : BL x b [v0, v1, v2, v3, v4, v5, v6, v7, v8]) :
    (x.cell? ⟨b, 0, none⟩ = some v0 ∧ x.cell? ⟨b, 1, none⟩ = some v1 ∧ x.cell? ⟨b, 2, none⟩ = some v2 ∧ x.cell? ⟨b, 3, none⟩ = some v3 ∧ x.cell? ⟨b, 4, none⟩ = some v4 ∧ x.cell? ⟨b, 5, none⟩ = some v5 ∧ x.cell? ⟨b, 6, none⟩ = some v6 ∧ x.cell? ⟨b, 7, none⟩ = some v7 ∧ x.cell? ⟨b, 8, none⟩ = some v8) ∧
    (x.frozen? ⟨b, 0, none⟩ = false ∧ x.frozen? ⟨b, 1, none⟩ = false ∧ x.frozen? ⟨b, 2, none⟩ = false ∧ x.frozen? ⟨b, 3, none⟩ = false ∧ x.frozen? ⟨b, 4, none⟩ = false ∧ x.frozen? ⟨b, 5, none⟩ = false ∧ x.frozen? ⟨b, 6, none⟩ = false ∧ x.frozen? ⟨b, 7, none⟩ = false ∧ x.frozen? ⟨b, 8, none⟩ = false) ∧ b < x.heap.size :=
  ⟨⟨h.g 0 _ rfl, h.g 1 _ rfl, h.g 2 _ rfl, h.g 3 _ rfl, h.g 4 _ rfl, h.g 5 _ rfl, h.g 6 _ rfl, h.g 7 _ rfl, h.g 8 _ rfl⟩, ⟨h.f 0 _ rfl, h.f 1 _ rfl, h.f 2 _ rfl, h.f 3 _ rfl, h.f 4 _ rfl, h.f 5 _ rfl, h.f 6 _ rfl, h.f 7 _ rfl, h.f 8 _ rfl⟩, h.lt⟩

/-- Blocks of the call's own (from B on), with what they hold. -/
def GQ (B : Nat) (x : World) : List (Nat × List Value) → Prop
  | [] => True
  | p :: l => (BL x p.1 p.2 ∧ B ≤ p.1 ∧ ∀ q ∈ l, p.1 ≠ q.1) ∧ GQ B x l
theorem GQ.mem {B : Nat} {x : World} : ∀ {l : List (Nat × List Value)}, GQ B x l → ∀ p ∈ l, BL x p.1 p.2 ∧ B ≤ p.1
  | [], _, _, hp => by simp at hp
  | _ :: _, h, p, hp => by
    rcases List.mem_cons.1 hp with rfl | hp
    · exact ⟨h.1.1, h.1.2.1⟩
    · exact GQ.mem h.2 p hp
theorem GQ.of_blocks {B : Nat} {x y : World} : ∀ {l : List (Nat × List Value)}, GQ B x l → (∀ p ∈ l, y.heap[p.1]? = x.heap[p.1]?) → GQ B y l
  | [], _, _ => trivial
  | p :: _, h, hb => ⟨⟨h.1.1.of_block (hb p (by simp)), h.1.2⟩, GQ.of_blocks h.2 fun q hq => hb q (by simp [hq])⟩
theorem GQ.below {B : Nat} {x y : World} {l : List (Nat × List Value)} (h : GQ B x l) (hb : Below x.heap.size x y) : GQ B y l := h.of_blocks fun p hp => hb.block _ (h.mem p hp).1.lt
/-- Since w the call has made blocks of its own alone. -/
structure KG (w x : World) (l : List (Nat × List Value)) : Prop where
  HB : Below w.heap.size w x
  q : GQ w.heap.size x l
theorem KG.refl (w : World) : KG w w [] := ⟨Below.refl _ _, trivial⟩
theorem KG.below {w x y : World} {l : List (Nat × List Value)} (h : KG w x l) (hb : Below x.heap.size x y) : KG w y l := ⟨h.HB.trans (hb.mono h.HB.size), h.q.below hb⟩
theorem KG.alloc {w x : World} {l : List (Nat × List Value)} (h : KG w x l) (o : Obj) : KG w (x.alloc o) l := h.below (new1 _ _)
theorem KG.drew {w x : World} {l : List (Nat × List Value)} (h : KG w x l) : KG w x.drew l := h.below (Below.refl _ _).drew
theorem GQ.new_ne {B : Nat} {x : World} {l : List (Nat × List Value)} (h : GQ B x l) (b : Nat) (hb : x.heap.size ≤ b) : ∀ q ∈ l, b ≠ q.1 := fun q hq e => by have := (h.mem q hq).1.lt; omega
theorem KG.push {w x : World} {l : List (Nat × List Value)} (h : KG w x l) (cs : List Value) (t : TypeId) : KG w (x.alloc (.cells cs.toArray t)) ((x.heap.size, cs) :: l) :=
  ⟨(h.alloc _).HB, ⟨BL.new x cs t, h.HB.size, h.q.new_ne _ (Nat.le_refl _)⟩, (h.alloc _).q⟩
theorem KG.push' {w x : World} {l : List (Nat × List Value)} (h : KG w x l) (b : Nat) (hb : x.heap.size = b) (cs : List Value) (t : TypeId) : KG w (x.alloc (.cells cs.toArray t)) ((b, cs) :: l) := by
  rw [← hb]; exact h.push cs t
theorem KG.tail {w x : World} {p : Nat × List Value} {l : List (Nat × List Value)} (h : KG w x (p :: l)) : KG w x l := ⟨h.HB, h.q.2⟩
theorem GQ.other {B : Nat} {x : World} {l : List (Nat × List Value)} (h : GQ B x l) {p : Addr} (hn : ∀ q ∈ l, p.block ≠ q.1) (u : Value) : GQ B (x.setCell p u) l :=
  h.of_blocks fun q hq => Below.heap_setCell _ _ _ _ (Ne.symm (hn q hq))
theorem KG.set {w x : World} {b : Nat} {cs : List Value} {l : List (Nat × List Value)} (h : KG w x ((b, cs) :: l)) (i : Nat) (v : Value) (hi : i < cs.length) : KG w (x.setCell ⟨b, i, none⟩ v) ((b, cs.set i v) :: l) :=
  ⟨h.HB.setCell h.q.1.2.1 v, ⟨h.q.1.1.set i v hi, h.q.1.2.1, h.q.1.2.2⟩, h.q.2.other h.q.1.2.2 v⟩
/-- The second of the blocks is written. -/
theorem KG.set2 {w x : World} {a b : Nat} {ca cs : List Value} {l : List (Nat × List Value)} (h : KG w x ((a, ca) :: (b, cs) :: l)) (i : Nat) (v : Value) (hi : i < cs.length) : KG w (x.setCell ⟨b, i, none⟩ v) ((a, ca) :: (b, cs.set i v) :: l) :=
  have h2 := h.tail.set i v hi
  ⟨h2.HB, ⟨h.q.1.1.other (Ne.symm (h.q.1.2.2 (b, cs) (by simp))) v, h.q.1.2.1, fun q hq => by
    rcases List.mem_cons.1 hq with rfl | hq
    · exact h.q.1.2.2 (b, cs) (by simp)
    · exact h.q.1.2.2 q (by simp [hq])⟩, h2.q⟩
/-- The first of the blocks is handed to a callee that writes it. -/
theorem KG.turn {w x y : World} {b : Nat} {cs cs' : List Value} {l : List (Nat × List Value)} (h : KG w x ((b, cs) :: l)) (hg : x.grownBy y (some b)) (hb : BL y b cs') : KG w y ((b, cs') :: l) :=
  ⟨h.HB.grown hg h.HB.size (fun k hk => by cases hk; exact h.q.1.2.1), ⟨hb, h.q.1.2.1, h.q.1.2.2⟩,
    h.q.2.of_blocks fun q hq => hg.block _ (h.q.2.mem q hq).1.lt (fun e => by cases e; exact h.q.1.2.2 q hq rfl)⟩

theorem grownBy.trans {a b c : World} {row : Option Nat} (h : a.grownBy b row) (k : b.grownBy c row) : a.grownBy c row :=
  ⟨k.os.trans h.os, k.tape.trans h.tape, k.output.trans h.output, Nat.le_trans h.size k.size, fun i hi hne => (k.block i (Nat.lt_of_lt_of_le hi h.size) hne).trans (h.block i hi hne)⟩
theorem grownBy.below {a b c : World} {row : Option Nat} (h : a.grownBy b row) (k : Below b.heap.size b c) : a.grownBy c row :=
  ⟨k.os.trans h.os, k.tape.trans h.tape, k.output.trans h.output, Nat.le_trans h.size k.size, fun i hi hne => (k.block i (Nat.lt_of_lt_of_le hi h.size)).trans (h.block i hi hne)⟩
theorem grownBy.setCell {a b : World} {r : Nat} (h : a.grownBy b (some r)) {p : Addr} (hp : p.block = r ∨ a.heap.size ≤ p.block) (v : Value) : a.grownBy (b.setCell p v) (some r) :=
  ⟨h.os, h.tape, h.output, by simpa using h.size, fun i hi hne => (Below.heap_setCell _ _ _ _ (by
    rcases hp with hp | hp
    · intro e; apply hne; rw [← hp, ← e]
    · omega)).trans (h.block i hi hne)⟩
/-- Since w the call has written block R, that came in, and made blocks of its own. -/
structure KR (w x : World) (R : Nat) (cs : List Value) (l : List (Nat × List Value)) : Prop where
  g : w.grownBy x (some R)
  r : BL x R cs
  lt : R < w.heap.size
  q : GQ w.heap.size x l
theorem KR.start {w : World} {R : Nat} {cs : List Value} (h : BL w R cs) : KR w w R cs [] := ⟨World.grownBy.refl _ _, h, h.lt, trivial⟩
theorem KR.below {w x y : World} {R : Nat} {cs : List Value} {l : List (Nat × List Value)} (h : KR w x R cs l) (hb : Below x.heap.size x y) : KR w y R cs l := ⟨grownBy.below h.g hb, h.r.below hb, h.lt, h.q.below hb⟩
theorem KR.drew {w x : World} {R : Nat} {cs : List Value} {l : List (Nat × List Value)} (h : KR w x R cs l) : KR w x.drew R cs l := h.below (Below.refl _ _).drew
theorem KR.push {w x : World} {R : Nat} {cs : List Value} {l : List (Nat × List Value)} (h : KR w x R cs l) (ds : List Value) (t : TypeId) : KR w (x.alloc (.cells ds.toArray t)) R cs ((x.heap.size, ds) :: l) :=
  have h2 := h.below (new1 x (.cells ds.toArray t))
  ⟨h2.g, h2.r, h.lt, ⟨BL.new x ds t, h.g.size, h.q.new_ne _ (Nat.le_refl _)⟩, h2.q⟩
theorem KR.push' {w x : World} {R : Nat} {cs : List Value} {l : List (Nat × List Value)} (h : KR w x R cs l) (b : Nat) (hb : x.heap.size = b) (ds : List Value) (t : TypeId) : KR w (x.alloc (.cells ds.toArray t)) R cs ((b, ds) :: l) := by
  rw [← hb]; exact h.push ds t
theorem KR.tail {w x : World} {R : Nat} {cs : List Value} {p : Nat × List Value} {l : List (Nat × List Value)} (h : KR w x R cs (p :: l)) : KR w x R cs l := ⟨h.g, h.r, h.lt, h.q.2⟩
theorem KR.ne {w x : World} {R : Nat} {cs : List Value} {l : List (Nat × List Value)} (h : KR w x R cs l) : ∀ q ∈ l, R ≠ q.1 := fun q hq e => by have := (h.q.mem q hq).2; have := h.lt; omega
theorem KR.setR {w x : World} {R : Nat} {cs : List Value} {l : List (Nat × List Value)} (h : KR w x R cs l) (i : Nat) (v : Value) (hi : i < cs.length) : KR w (x.setCell ⟨R, i, none⟩ v) R (cs.set i v) l :=
  ⟨grownBy.setCell h.g (.inl rfl) v, h.r.set i v hi, h.lt, h.q.other h.ne v⟩
theorem KR.set {w x : World} {R : Nat} {cs : List Value} {b : Nat} {ds : List Value} {l : List (Nat × List Value)} (h : KR w x R cs ((b, ds) :: l)) (i : Nat) (v : Value) (hi : i < ds.length) : KR w (x.setCell ⟨b, i, none⟩ v) R cs ((b, ds.set i v) :: l) :=
  ⟨grownBy.setCell h.g (.inr h.q.1.2.1) v, h.r.other (Ne.symm (h.ne (b, ds) (by simp))) v, h.lt, ⟨h.q.1.1.set i v hi, h.q.1.2.1, h.q.1.2.2⟩, h.q.2.other h.q.1.2.2 v⟩
theorem KR.set2 {w x : World} {R : Nat} {cs : List Value} {a b : Nat} {ca ds : List Value} {l : List (Nat × List Value)} (h : KR w x R cs ((a, ca) :: (b, ds) :: l)) (i : Nat) (v : Value) (hi : i < ds.length) : KR w (x.setCell ⟨b, i, none⟩ v) R cs ((a, ca) :: (b, ds.set i v) :: l) :=
  have h2 := h.tail.set i v hi
  ⟨h2.g, h2.r, h.lt, ⟨h.q.1.1.other (Ne.symm (h.q.1.2.2 (b, ds) (by simp))) v, h.q.1.2.1, fun q hq => by
    rcases List.mem_cons.1 hq with rfl | hq
    · exact h.q.1.2.2 (b, ds) (by simp)
    · exact h.q.1.2.2 q (by simp [hq])⟩, h2.q⟩
/-- A callee has written block R. -/
theorem KR.turn {w x y : World} {R : Nat} {cs cs' : List Value} {l : List (Nat × List Value)} (h : KR w x R cs l) (hg : x.grownBy y (some R)) (hb : BL y R cs') : KR w y R cs' l :=
  ⟨grownBy.trans h.g hg, hb, h.lt, h.q.of_blocks fun q hq => hg.block _ (h.q.mem q hq).1.lt (fun e => by cases e; exact h.ne q hq rfl)⟩
theorem KR.turn2 {w x y : World} {R : Nat} {cs cs' : List Value} {l : List (Nat × List Value)} (h : KR w x R cs l) (k : KR x y R cs' []) : KR w y R cs' l := h.turn k.g k.r
end
end Go.Proofs.YthomeplakcbfoaaGreatDoor
