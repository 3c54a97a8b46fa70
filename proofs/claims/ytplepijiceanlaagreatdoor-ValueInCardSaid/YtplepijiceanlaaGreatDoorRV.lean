/-
  Contracts of the reference: operations, their kinds, integers, truths, Unary.
-/
import Derived.Test.YtplepijiceanlaaGreatDoorTB
import Derived.Test.YtplepijiceanlaaGreatDoorX
import Derived.Test.YtplepijiceanlaaGreatDoorTU
import Derived.Test.YtplepijiceanlaaGreatDoorVB
namespace Go.Proofs.YtplepijiceanlaaGreatDoor
section
open Go.RowKit

def hasS (l : List ByteArray) (s : ByteArray) : Bool := l.any fun x => x.toList == s.toList
theorem has_next (l : List ByteArray) (s : ByteArray) (k : Nat) (hk : k < l.length) (h : hasS (l.take k) s = false) (hq : ((l.getD k ByteArray.empty).toList == s.toList) = false) : hasS (l.take (k + 1)) s = false := by
  have e : l.getD k ByteArray.empty = l[k] := by simp [hk]
  rw [e] at hq
  unfold hasS at *
  rw [List.take_succ_eq_append_getElem hk, List.any_append, h]
  simp only [List.any_cons, List.any_nil, hq]; rfl
theorem has_here (l : List ByteArray) (s : ByteArray) (k : Nat) (hk : k < l.length) (hq : ((l.getD k ByteArray.empty).toList == s.toList) = true) : hasS l s = true := by
  have e : l.getD k ByteArray.empty = l[k] := by simp [hk]
  rw [e] at hq
  unfold hasS
  rw [List.any_eq_true]
  exact ⟨l[k], List.getElem_mem hk, hq⟩
theorem has_ (g c : Nat) (l : List ByteArray) (s : ByteArray) (w : World) (hl : l.length ≤ 1000) (h : OpsAt w g l) :
    Calls Tryz.prog 85 #[.slice (some ⟨g, 0, none⟩) l.length c, .string s] w fun e w' => e = .returned (.bool (hasS l s)) ∧ w = w' := by
  have HO := Lib.hid h
  clear h
  go_enter Tryz.func85, Tryz.ntmps85
  go_wp2
  go_loop [9] (fun i => ∃ k : Nat, k ≤ l.length ∧ i = .int .i64 k ∧ hasS (l.take k) s = false) (fun i => l.length - (intOf i).toNat)
  case atStart => exact ⟨0, Nat.zero_le _, rfl, rfl⟩
  case round =>
    obtain ⟨k, hk, rfl, hq⟩ := hrel
    have HQ := Lib.hid hq
    clear hq
    by_cases hlt : k < l.length
    · have hcell := HO.out.2 k hlt
      have HN := Lib.hid (has_next l s k hlt HQ.out)
      have HH := Lib.hid (has_here l s k hlt)
      generalize l.getD k ByteArray.empty = z at *
      cases hz : z.toList == s.toList
      · have HF := Lib.hid (HN.out hz)
        go_wp2
        go_round
        case rel => exact ⟨k + 1, by omega, by go_num, HF.out⟩
        case measure => simp [intOf]; omega
      · have HF := Lib.hid (HH.out hz)
        go_wp2
        go_ret
        exact ⟨ret_bool HF.out.symm, rfl⟩
    · go_wp2
      go_ret
      exact ⟨ret_bool (by rw [← HQ.out, List.take_of_length_le (by omega)]), rfl⟩
def arOps : List ByteArray := [⟨#[43]⟩, ⟨#[45]⟩, ⟨#[42]⟩, ⟨#[47]⟩, ⟨#[109, 111, 100]⟩]
def cmpOps : List ByteArray := [⟨#[61]⟩, ⟨#[60, 62]⟩, ⟨#[60]⟩, ⟨#[60, 61]⟩, ⟨#[62]⟩, ⟨#[62, 61]⟩]
abbrev arObj : Obj := .cells #[.string ⟨#[43]⟩, .string ⟨#[45]⟩, .string ⟨#[42]⟩, .string ⟨#[47]⟩, .string ⟨#[109, 111, 100]⟩] 9
abbrev cmpObj : Obj := .cells #[.string ⟨#[61]⟩, .string ⟨#[60, 62]⟩, .string ⟨#[60]⟩, .string ⟨#[60, 61]⟩, .string ⟨#[62]⟩, .string ⟨#[62, 61]⟩] 9
theorem hasAr (x : World) (s : ByteArray) : Calls Tryz.prog 85 #[.slice (some ⟨x.heap.size, 0, none⟩) 5 5, .string s] (x.alloc arObj) fun e w' => e = .returned (.bool (hasS arOps s)) ∧ x.alloc arObj = w' :=
  has_ _ _ arOps s _ (by decide) (OpsAt.new x arOps 9)
theorem hasCmp (x : World) (s : ByteArray) : Calls Tryz.prog 85 #[.slice (some ⟨x.heap.size, 0, none⟩) 6 6, .string s] (x.alloc cmpObj) fun e w' => e = .returned (.bool (hasS cmpOps s)) ∧ x.alloc cmpObj = w' :=
  has_ _ _ cmpOps s _ (by decide) (OpsAt.new x cmpOps 9)
theorem compares_ (s : ByteArray) (w : World) : Calls Tryz.prog 72 #[.string s] w fun e w' => e = .returned (.bool (hasS cmpOps s)) ∧ Below w.heap.size w w' := by
  go_enter Tryz.func72, Tryz.ntmps72
  go_wp2_with (first
    | (go_at_call 85; (with_reducible refine (hasCmp _ _).mono ?_); rintro e y ⟨rfl, rfl⟩))
  go_ret
  exact ⟨rfl, new1 _ _⟩
/-- The kinds that an operation between two takes; none: there is no such operation. -/
def kK (op : ByteArray) : List Int :=
  if hasS arOps op = true then [1] else if ((op.toList == [124, 124]) || (op.toList == [108, 105, 107, 101])) = true then [2] else
    if ((op.toList == [97, 110, 100]) || (op.toList == [111, 114])) = true then [3] else if hasS cmpOps op = true then [1, 2, 3] else []
/-- A block of numbers. -/
def IntsAt (z : World) (A : Option Addr) (l : List Int) : Prop := (l = [] ∧ A = none) ∨ (l ≠ [] ∧ ∃ g, A = some ⟨g, 0, none⟩ ∧ g < z.heap.size ∧ ∀ j, j < l.length → z.cell? ⟨g, j, none⟩ = some (.int .i64 (l.getD j 0)))
theorem IntsAt.below {z y : World} {A : Option Addr} {l : List Int} (h : IntsAt z A l) (hb : Below z.heap.size z y) : IntsAt y A l := by
  rcases h with h | ⟨h0, g, h1, h2, h3⟩
  · exact .inl h
  · exact .inr ⟨h0, g, h1, Nat.lt_of_lt_of_le h2 hb.size, fun j hj => (bcell hb _ _ h2).trans (h3 j hj)⟩
theorem IntsAt.new (x : World) (l : List Int) (t : TypeId) (h : l ≠ []) : IntsAt (x.alloc (.cells (l.map fun n => Value.int .i64 n).toArray t)) (some ⟨x.heap.size, 0, none⟩) l := by
  refine .inr ⟨h, _, rfl, by simp, fun j hj => ?_⟩
  rw [World.cell?_alloc_new]
  simp [hj]
theorem IntsAt.new' (x : World) (b : Nat) (hb : x.heap.size = b) (l : List Int) (t : TypeId) (h : l ≠ []) : IntsAt (x.alloc (.cells (l.map fun n => Value.int .i64 n).toArray t)) (some ⟨b, 0, none⟩) l := by
  rw [← hb]; exact IntsAt.new x l t h
def KRet (op : ByteArray) (w : World) (e : Ending) (w' : World) : Prop :=
  ∃ A, e = .returned (.slice A (kK op).length (kK op).length) ∧ IntsAt w' A (kK op) ∧ Below w.heap.size w w'
set_option maxRecDepth 100000 in
theorem kinds_ (op : ByteArray) (w : World) : Calls Tryz.prog 99 #[.string op] w (KRet op w) := by
  have HC := Lib.hid (fun x => compares_ op x)
  have H : Hid (kK op = if hasS arOps op = true then [1] else if ((op.toList == [124, 124]) || (op.toList == [108, 105, 107, 101])) = true then [2] else
    if ((op.toList == [97, 110, 100]) || (op.toList == [111, 114])) = true then [3] else if hasS cmpOps op = true then [1, 2, 3] else []) := Lib.hid rfl
  have HA := Lib.hid (fun x => hasAr x op)
  generalize hasS arOps op = b1 at *
  generalize hasS cmpOps op = b2 at *
  cases b1
  · cases h2 : op.toList == [124, 124]
    · cases h3 : op.toList == [108, 105, 107, 101]
      · cases h4 : op.toList == [97, 110, 100]
        · cases h5 : op.toList == [111, 114]
          · cases b2
            · have H2 : Hid (kK op = []) := Lib.hid (by rw [H.out, h2, h3, h4, h5]; rfl)
              go_enter Tryz.func99, Tryz.ntmps99
              go_wp2_with (first
                | (go_at_call 85; (with_reducible refine (HA.out _).mono ?_); rintro e y ⟨rfl, rfl⟩)
                | (go_at_call 72; (with_reducible refine (HC.out _).mono ?_); rintro e y ⟨rfl, hb⟩; have HB := Lib.hid ((new1 w arObj).trans (hb.mono (new1 w arObj).size)); clear hb))
              go_ret
              refine ⟨none, by rw [H2.out]; rfl, .inl ⟨H2.out, rfl⟩, HB.out⟩
            · have H2 : Hid (kK op = [1, 2, 3]) := Lib.hid (by rw [H.out, h2, h3, h4, h5]; rfl)
              go_enter Tryz.func99, Tryz.ntmps99
              go_wp2_with (first
                | (go_at_call 85; (with_reducible refine (HA.out _).mono ?_); rintro e y ⟨rfl, rfl⟩)
                | (go_at_call 72; (with_reducible refine (HC.out _).mono ?_); rintro e y ⟨rfl, hb⟩; have HB := Lib.hid ((new1 w arObj).trans (hb.mono (new1 w arObj).size)); clear hb))
              go_ret
              exact ⟨_, by rw [H2.out]; rfl, by rw [H2.out]; exact IntsAt.new _ [1, 2, 3] _ (by decide), HB.out.alloc HB.out.size _⟩
          · have H2 : Hid (kK op = [3]) := Lib.hid (by rw [H.out, h2, h3, h4, h5]; rfl)
            go_enter Tryz.func99, Tryz.ntmps99
            go_wp2_with (first
              | (go_at_call 85; (with_reducible refine (HA.out _).mono ?_); rintro e y ⟨rfl, rfl⟩))
            go_ret
            exact ⟨_, by rw [H2.out]; rfl, by rw [H2.out]; exact IntsAt.new' _ _ (sz1 _ _) [3] _ (by decide), (new1 w arObj).alloc (by simp) _⟩
        · have H2 : Hid (kK op = [3]) := Lib.hid (by rw [H.out, h2, h3, h4]; rfl)
          go_enter Tryz.func99, Tryz.ntmps99
          go_wp2_with (first
            | (go_at_call 85; (with_reducible refine (HA.out _).mono ?_); rintro e y ⟨rfl, rfl⟩))
          go_ret
          exact ⟨_, by rw [H2.out]; rfl, by rw [H2.out]; exact IntsAt.new' _ _ (sz1 _ _) [3] _ (by decide), (new1 w arObj).alloc (by simp) _⟩
      · have H2 : Hid (kK op = [2]) := Lib.hid (by rw [H.out, h2, h3]; rfl)
        go_enter Tryz.func99, Tryz.ntmps99
        go_wp2_with (first
          | (go_at_call 85; (with_reducible refine (HA.out _).mono ?_); rintro e y ⟨rfl, rfl⟩))
        go_ret
        exact ⟨_, by rw [H2.out]; rfl, by rw [H2.out]; exact IntsAt.new' _ _ (sz1 _ _) [2] _ (by decide), (new1 w arObj).alloc (by simp) _⟩
    · have H2 : Hid (kK op = [2]) := Lib.hid (by rw [H.out, h2]; rfl)
      go_enter Tryz.func99, Tryz.ntmps99
      go_wp2_with (first
        | (go_at_call 85; (with_reducible refine (HA.out _).mono ?_); rintro e y ⟨rfl, rfl⟩))
      go_ret
      exact ⟨_, by rw [H2.out]; rfl, by rw [H2.out]; exact IntsAt.new' _ _ (sz1 _ _) [2] _ (by decide), (new1 w arObj).alloc (by simp) _⟩
  · have H2 : Hid (kK op = [1]) := Lib.hid (by rw [H.out]; rfl)
    go_enter Tryz.func99, Tryz.ntmps99
    go_wp2_with (first
      | (go_at_call 85; (with_reducible refine (HA.out _).mono ?_); rintro e y ⟨rfl, rfl⟩))
    go_ret
    exact ⟨_, by rw [H2.out]; rfl, by rw [H2.out]; exact IntsAt.new' _ _ (sz1 _ _) [1] _ (by decide), (new1 w arObj).alloc (by simp) _⟩
theorem isBinary_ (op : ByteArray) (w : World) : Calls Tryz.prog 68 #[.string op] w fun e w' => e = .returned (.bool !(kK op).isEmpty) ∧ Below w.heap.size w w' := by
  have HK := Lib.hid (fun x => kinds_ op x)
  have e1 := fun (w : World) (A : Option Addr) (n c : Nat) => run_neq_slice_nil_any (P := Tryz.prog) w 81 25 A n c 0 0 Tryz.underlying81
  go_enter Tryz.func68, Tryz.ntmps68
  go_wp2_with fail
  refine (HK.out _).mono ?_
  rintro e y ⟨A, rfl, hA, hb⟩
  have HB := Lib.hid hb
  clear hb
  rcases hA with ⟨h0, rfl⟩ | ⟨h0, g, rfl, _, _⟩
  · have H0 := Lib.hid h0
    clear h0
    go_wp2
    go_ret
    exact ⟨ret_bool (by rw [H0.out]; rfl), HB.out⟩
  · have H0 : Hid ((kK op).isEmpty = false) := Lib.hid (by simpa using h0)
    clear h0
    go_wp2
    go_ret
    exact ⟨ret_bool (by rw [H0.out]; rfl), HB.out⟩
theorem tak_next (l : List Int) (k : Int) (j : Nat) (hj : j < l.length) (h : ((l.take j).any fun x => x == k) = false) (hq : (l.getD j 0 == k) = false) : ((l.take (j + 1)).any fun x => x == k) = false := by
  have e : l.getD j 0 = l[j] := by simp [hj]
  rw [e] at hq
  rw [List.take_succ_eq_append_getElem hj, List.any_append, h]
  simp only [List.any_cons, List.any_nil, hq]; rfl
def takK (l : List Int) (k : Int) : Bool := (l.any fun x => x == k) || k == 0
theorem tak_here (l : List Int) (k : Int) (j : Nat) (hj : j < l.length) (hq : (l.getD j 0 == k) = true) : takK l k = true := by
  have e : l.getD j 0 = l[j] := by simp [hj]
  rw [e] at hq
  unfold takK
  rw [Bool.or_eq_true]
  exact .inl (List.any_eq_true.2 ⟨l[j], List.getElem_mem hj, hq⟩)
theorem takes_ (A : Option Addr) (c : Nat) (l : List Int) (k : Int) (w : World) (hl : l.length ≤ 3) (h : IntsAt w A l) :
    Calls Tryz.prog 100 #[.slice A l.length c, .int .i64 k] w fun e w' => e = .returned (.bool (takK l k)) ∧ w = w' := by
  have HO := Lib.hid h
  clear h
  go_enter Tryz.func100, Tryz.ntmps100
  go_wp2
  go_loop [9] (fun i => ∃ j : Nat, j ≤ l.length ∧ i = .int .i64 j ∧ ((l.take j).any fun x => x == k) = false) (fun i => l.length - (intOf i).toNat)
  case atStart => exact ⟨0, Nat.zero_le _, rfl, rfl⟩
  case round =>
    obtain ⟨j, hj, rfl, hq⟩ := hrel
    have HQ := Lib.hid hq
    clear hq
    by_cases hlt : j < l.length
    · obtain ⟨h0, -⟩ | ⟨h0, g, rfl, h2, h3⟩ := HO.out
      · subst h0; simp at hlt
      · have hcell := h3 j hlt
        have HN := Lib.hid (tak_next l k j hlt HQ.out)
        have HH := Lib.hid (tak_here l k j hlt)
        clear h0 h2 h3
        generalize l.getD j 0 = z at *
        cases hz : z == k
        · have HF := Lib.hid (HN.out hz)
          go_wp2
          go_round
          case rel => exact ⟨j + 1, by omega, by go_num, HF.out⟩
          case measure => simp [intOf]; omega
        · have HF := Lib.hid (HH.out hz)
          go_wp2
          go_ret
          exact ⟨ret_bool HF.out.symm, rfl⟩
    · have HE : Hid (takK l k = (k == 0)) := Lib.hid (by
        unfold takK
        rw [← List.take_of_length_le (show l.length ≤ j by omega), HQ.out]; rfl)
      go_wp2
      go_ret
      exact ⟨ret_bool (by rw [HE.out]), rfl⟩
end
end Go.Proofs.YtplepijiceanlaaGreatDoor
namespace Go.Proofs.YtplepijiceanlaaGreatDoor
section
open Go.RowKit

theorem kK_len (op : ByteArray) : (kK op).length ≤ 3 := by unfold kK; (repeat' split) <;> simp
theorem ret_int2 {k : IntKind} {a b : Int} (h : b = a) : Ending.returned (.int k a) = .returned (.int k b) := by rw [h]
/-- The error of an operation at two kinds; 0: none. -/
def tyS (op : ByteArray) (ka kb : Int) : Int :=
  if takK (kK op) ka = false then 16 else if takK (kK op) kb = false then 16 else if (ka != 0) = false then 0 else if (kb != 0) = false then 0 else if (ka != kb) = true then 16 else 0
set_option maxRecDepth 100000 in
theorem typed_ (op : ByteArray) (ka kb : Int) (w : World) : Calls Tryz.prog 69 #[.string op, .int .i64 ka, .int .i64 kb] w fun e w' => e = .returned (.int .i64 (tyS op ka kb)) ∧ Below w.heap.size w w' := by
  have H : Hid (tyS op ka kb = if takK (kK op) ka = false then 16 else if takK (kK op) kb = false then 16 else if (ka != 0) = false then 0 else if (kb != 0) = false then 0 else if (ka != kb) = true then 16 else 0) := Lib.hid rfl
  have HK := Lib.hid (fun x => kinds_ op x)
  have HA := Lib.hid (fun A c x => takes_ A c (kK op) ka x (kK_len op))
  have HB := Lib.hid (fun A c x => takes_ A c (kK op) kb x (kK_len op))
  obtain ⟨n, hl⟩ : ∃ n, (kK op).length = n := ⟨_, rfl⟩
  rw [hl] at HA HB
  have HL := Lib.hid hl
  clear hl
  generalize takK (kK op) ka = t1 at *
  generalize takK (kK op) kb = t2 at *
  cases t1
  · go_enter Tryz.func69, Tryz.ntmps69
    go_wp2_with fail
    refine (HK.out _).mono ?_
    rintro e y ⟨A, rfl, hA, hb⟩
    have HI := Lib.hid hA
    have HW := Lib.hid hb
    clear hA hb
    rw [HL.out]
    go_wp2_with (first
      | (go_at_call_of 100 (Value.int .i64 ka); (with_reducible refine (HA.out _ _ _ HI.out).mono ?_); rintro e z ⟨rfl, rfl⟩)
      | (go_at_call_of 100 (Value.int .i64 kb); (with_reducible refine (HB.out _ _ _ HI.out).mono ?_); rintro e z ⟨rfl, rfl⟩))
    go_ret
    exact ⟨ret_int2 (by rw [H.out]; rfl), HW.out⟩
  cases t2
  · go_enter Tryz.func69, Tryz.ntmps69
    go_wp2_with fail
    refine (HK.out _).mono ?_
    rintro e y ⟨A, rfl, hA, hb⟩
    have HI := Lib.hid hA
    have HW := Lib.hid hb
    clear hA hb
    rw [HL.out]
    go_wp2_with (first
      | (go_at_call_of 100 (Value.int .i64 ka); (with_reducible refine (HA.out _ _ _ HI.out).mono ?_); rintro e z ⟨rfl, rfl⟩)
      | (go_at_call_of 100 (Value.int .i64 kb); (with_reducible refine (HB.out _ _ _ HI.out).mono ?_); rintro e z ⟨rfl, rfl⟩))
    go_ret
    exact ⟨ret_int2 (by rw [H.out]; rfl), HW.out⟩
  cases q1 : ka != 0
  · go_enter Tryz.func69, Tryz.ntmps69
    go_wp2_with fail
    refine (HK.out _).mono ?_
    rintro e y ⟨A, rfl, hA, hb⟩
    have HI := Lib.hid hA
    have HW := Lib.hid hb
    clear hA hb
    rw [HL.out]
    go_wp2_with (first
      | (go_at_call_of 100 (Value.int .i64 ka); (with_reducible refine (HA.out _ _ _ HI.out).mono ?_); rintro e z ⟨rfl, rfl⟩)
      | (go_at_call_of 100 (Value.int .i64 kb); (with_reducible refine (HB.out _ _ _ HI.out).mono ?_); rintro e z ⟨rfl, rfl⟩))
    go_ret
    exact ⟨ret_int2 (by rw [H.out, q1]; rfl), HW.out⟩
  cases q2 : kb != 0
  · go_enter Tryz.func69, Tryz.ntmps69
    go_wp2_with fail
    refine (HK.out _).mono ?_
    rintro e y ⟨A, rfl, hA, hb⟩
    have HI := Lib.hid hA
    have HW := Lib.hid hb
    clear hA hb
    rw [HL.out]
    go_wp2_with (first
      | (go_at_call_of 100 (Value.int .i64 ka); (with_reducible refine (HA.out _ _ _ HI.out).mono ?_); rintro e z ⟨rfl, rfl⟩)
      | (go_at_call_of 100 (Value.int .i64 kb); (with_reducible refine (HB.out _ _ _ HI.out).mono ?_); rintro e z ⟨rfl, rfl⟩))
    go_ret
    exact ⟨ret_int2 (by rw [H.out, q1, q2]; rfl), HW.out⟩
  cases q3 : ka != kb
  · go_enter Tryz.func69, Tryz.ntmps69
    go_wp2_with fail
    refine (HK.out _).mono ?_
    rintro e y ⟨A, rfl, hA, hb⟩
    have HI := Lib.hid hA
    have HW := Lib.hid hb
    clear hA hb
    rw [HL.out]
    go_wp2_with (first
      | (go_at_call_of 100 (Value.int .i64 ka); (with_reducible refine (HA.out _ _ _ HI.out).mono ?_); rintro e z ⟨rfl, rfl⟩)
      | (go_at_call_of 100 (Value.int .i64 kb); (with_reducible refine (HB.out _ _ _ HI.out).mono ?_); rintro e z ⟨rfl, rfl⟩))
    go_ret
    exact ⟨ret_int2 (by rw [H.out, q1, q2, q3]; rfl), HW.out⟩
  · go_enter Tryz.func69, Tryz.ntmps69
    go_wp2_with fail
    refine (HK.out _).mono ?_
    rintro e y ⟨A, rfl, hA, hb⟩
    have HI := Lib.hid hA
    have HW := Lib.hid hb
    clear hA hb
    rw [HL.out]
    go_wp2_with (first
      | (go_at_call_of 100 (Value.int .i64 ka); (with_reducible refine (HA.out _ _ _ HI.out).mono ?_); rintro e z ⟨rfl, rfl⟩)
      | (go_at_call_of 100 (Value.int .i64 kb); (with_reducible refine (HB.out _ _ _ HI.out).mono ?_); rintro e z ⟨rfl, rfl⟩))
    go_ret
    exact ⟨ret_int2 (by rw [H.out, q1, q2, q3]; rfl), HW.out⟩

theorem size_ (n : Int) (h1 : -9223372036854775807 ≤ n) (h2 : n ≤ 9223372036854775807) (w : World) :
    Calls Tryz.prog 101 #[.int .i64 n] w fun e w' => e = .returned (.int .i64 (max n (-n))) ∧ w = w' := by
  go_enter Tryz.func101, Tryz.ntmps101
  go_wp2
  go_ret
  exact ⟨rfl, rfl⟩
theorem refNum_ (n : Int) (w : World) : Calls Tryz.prog 83 #[.int .i64 n] w fun e w' => e = .returned (two (chkI n)) ∧ Below w.heap.size w w' := by
  have H : Hid (chkI n = if inR n = true then (intV n, 0) else (nulV, 21)) := Lib.hid rfl
  cases hn : inR n
  · rw [hn] at H
    go_enter Tryz.func83, Tryz.ntmps83
    go_wp2_with (first | (go_at_call 61; refine (isInt_ _ _).mono ?_; rintro e y ⟨rfl, rfl⟩))
    go_returns
    exact ⟨by rw [H.out]; rfl, new1 _ _⟩
  · rw [hn] at H
    go_enter Tryz.func83, Tryz.ntmps83
    go_wp2_with (first
      | (go_at_call 61; refine (isInt_ _ _).mono ?_; rintro e y ⟨rfl, rfl⟩)
      | (go_at_call 57; refine (ref_int _ _).mono ?_; rintro e y ⟨rfl, hb⟩; have K : Hid (K1 w y w.heap.size (.int .i64 0) (.int .i64 0) (.string ⟨#[]⟩)) := Lib.hid (K1.below ⟨new1 w _, B3.new w _ _ _ 27⟩ hb); clear hb; obtain ⟨HB, ⟨r0, r1, r2, g0, g1, g2, rl⟩⟩ := K.out))
    (try simp only [Exit.inBlock, Exit.then])
    exact ret_two rfl rfl K.out.q rfl ⟨by rw [H.out]; rfl, set3 HB _ (Nat.le_refl _) _ _ _⟩
/-- Two values in order. -/
def lessV (a b : Va) : Int :=
  if ((a.k == 2) && Op.bytesLess a.s.toList b.s.toList) = true then -1 else if ((a.k != 2) && decide (a.n < b.n)) = true then -1 else if eqV a.k a.n a.s b.k b.n b.s = true then 0 else 1
set_option maxRecDepth 100000 in
theorem less_ (a b : Va) (w : World) : Calls Tryz.prog 74 #[a.val, b.val] w fun e w' => e = .returned (.int .i64 (lessV a b)) ∧ Below w.heap.size w w' := by
  have H : Hid (lessV a b = if ((a.k == 2) && Op.bytesLess a.s.toList b.s.toList) = true then -1 else if ((a.k != 2) && decide (a.n < b.n)) = true then -1 else if eqV a.k a.n a.s b.k b.n b.s = true then 0 else 1) := Lib.hid rfl
  obtain ⟨k, n, s⟩ := a
  obtain ⟨k', n', s'⟩ := b
  cases hk : k == 2
  · have hk2 : (k != 2) = true := by simpa using hk
    by_cases hn : n < n'
    · go_enter Tryz.func74, Tryz.ntmps74
      go_wp2
      go_ret
      exact ⟨ret_int2 (by rw [H.out]; simp [hk, hk2, hn]), new2 _ _ _⟩
    · cases he : eqV k n s k' n' s'
      all_goals
        go_enter Tryz.func74, Tryz.ntmps74
        go_wp2
        go_ret
        exact ⟨ret_int2 (by rw [H.out]; simp [hk, hn, he]), new2 _ _ _⟩
  · have hk2 : (k != 2) = false := by simpa using hk
    cases hs : Op.bytesLess s.toList s'.toList
    · cases he : eqV k n s k' n' s'
      all_goals
        go_enter Tryz.func74, Tryz.ntmps74
        go_wp2
        go_ret
        exact ⟨ret_int2 (by rw [H.out]; simp [hk2, hs, he]), new2 _ _ _⟩
    · go_enter Tryz.func74, Tryz.ntmps74
      go_wp2
      go_ret
      exact ⟨ret_int2 (by rw [H.out]; simp [hk, hs]), new2 _ _ _⟩
def cmpdS (op : ByteArray) (c : Int) : Bool :=
  if (op.toList == [61]) = true then c == 0 else if (op.toList == [60, 62]) = true then c != 0 else if (op.toList == [60]) = true then decide (c < 0) else
    if (op.toList == [60, 61]) = true then decide (c ≤ 0) else if (op.toList == [62]) = true then decide (0 < c) else decide (0 ≤ c)
theorem compared_ (op : ByteArray) (c : Int) (w : World) : Calls Tryz.prog 73 #[.string op, .int .i64 c] w fun e w' => e = .returned (.bool (cmpdS op c)) ∧ w = w' := by
  have H : Hid (cmpdS op c = if (op.toList == [61]) = true then c == 0 else if (op.toList == [60, 62]) = true then c != 0 else if (op.toList == [60]) = true then decide (c < 0) else
    if (op.toList == [60, 61]) = true then decide (c ≤ 0) else if (op.toList == [62]) = true then decide (0 < c) else decide (0 ≤ c)) := Lib.hid rfl
  cases h0 : op.toList == [61]
  rotate_left
  · go_enter Tryz.func73, Tryz.ntmps73
    go_wp2
    go_ret
    exact ⟨ret_bool (by rw [H.out, h0]; rfl), rfl⟩
  cases h1 : op.toList == [60, 62]
  rotate_left
  · go_enter Tryz.func73, Tryz.ntmps73
    go_wp2
    go_ret
    exact ⟨ret_bool (by rw [H.out, h0, h1]; rfl), rfl⟩
  cases h2 : op.toList == [60]
  rotate_left
  · go_enter Tryz.func73, Tryz.ntmps73
    go_wp2
    go_ret
    exact ⟨ret_bool (by rw [H.out, h0, h1, h2]; rfl), rfl⟩
  cases h3 : op.toList == [60, 61]
  rotate_left
  · go_enter Tryz.func73, Tryz.ntmps73
    go_wp2
    go_ret
    exact ⟨ret_bool (by rw [H.out, h0, h1, h2, h3]; rfl), rfl⟩
  cases h4 : op.toList == [62]
  rotate_left
  · go_enter Tryz.func73, Tryz.ntmps73
    go_wp2
    go_ret
    exact ⟨ret_bool (by rw [H.out, h0, h1, h2, h3, h4]; rfl), rfl⟩
  go_enter Tryz.func73, Tryz.ntmps73
  go_wp2
  go_ret
  exact ⟨ret_bool (by rw [H.out, h0, h1, h2, h3, h4]; rfl), rfl⟩
end
end Go.Proofs.YtplepijiceanlaaGreatDoor
namespace Go.Proofs.YtplepijiceanlaaGreatDoor
section
open Go.RowKit

theorem num_at {n : Int} {v : Va} {e : Int} (h : chkI n = (v, e)) (w : World) : Calls Tryz.prog 83 #[.int .i64 n] w fun r w' => r = .returned (.tuple #[v.val, .int .i64 e]) ∧ Below w.heap.size w w' := by
  have := refNum_ n w
  rw [h] at this
  exact this
theorem abs_eq (a : Int) : max a (-a) = (a.natAbs : Int) := by omega
theorem mul_pos1 (a b : Int) (ha : a ≠ 0) (hb : b ≠ 0) (h : 2199023255552 / max b (-b) < max a (-a)) : mulS a b = (nulV, 21) := by
  unfold mulS
  rw [if_pos]
  refine ⟨ha, ?_⟩
  rw [Int.ediv_lt_iff_lt_mul (by omega)] at h ⊢
  rw [Int.mul_comm] at h
  omega
theorem mul_bd (a b : Int) (hb : b ≠ 0) (h : ¬ 2199023255552 / max b (-b) < max a (-a)) : -2199023255552 ≤ a * b ∧ a * b ≤ 2199023255552 := by
  have h1 : max a (-a) ≤ 2199023255552 / max b (-b) := by omega
  rw [Int.le_ediv_iff_mul_le (by omega), abs_eq, abs_eq] at h1
  have e : (a * b).natAbs = a.natAbs * b.natAbs := Int.natAbs_mul a b
  have e2 : ((a.natAbs * b.natAbs : Nat) : Int) = (a.natAbs : Int) * (b.natAbs : Int) := by simp
  rw [← e2, ← e] at h1
  omega
theorem mul_neg1 (a b : Int) (h : ¬ 2199023255552 / max b (-b) < max a (-a)) (hb : b ≠ 0) : chkI (a * b) = mulS a b := by
  have e : (a * b).natAbs = a.natAbs * b.natAbs := Int.natAbs_mul a b
  have e2 : ((a.natAbs * b.natAbs : Nat) : Int) = (a.natAbs : Int) * (b.natAbs : Int) := by simp
  unfold mulS
  by_cases ha : a = 0
  · subst ha
    rw [if_neg (by simp)]
    exact chkI_of _ (by unfold Small; omega)
  · by_cases h2 : 1099511627776 / max a (-a) < max b (-b)
    · rw [if_pos ⟨ha, h2⟩]
      rw [Int.ediv_lt_iff_lt_mul (by omega), abs_eq, abs_eq, Int.mul_comm, ← e2, ← e] at h2
      unfold chkI
      rw [if_neg]
      simp only [inR, Bool.and_eq_true, decide_eq_true_eq]
      omega
    · rw [if_neg (fun q => h2 q.2)]
      have h3 : max b (-b) ≤ 1099511627776 / max a (-a) := by omega
      rw [Int.le_ediv_iff_mul_le (by omega), abs_eq, abs_eq, Int.mul_comm, ← e2, ← e] at h3
      exact chkI_of _ (by unfold Small; omega)
theorem mul_neg0 (a : Int) : mulS a 0 = chkI 0 := by
  unfold mulS
  rw [if_neg (by
    rintro ⟨h0, h⟩
    have : 0 ≤ (1099511627776 : Int) / max a (-a) := Int.ediv_nonneg (by decide) (by omega)
    simp at h; omega), Int.mul_zero]
  exact (chkI_of 0 (by unfold Small; omega)).symm
theorem tmod_small (a b : Int) (ha : Small a) : -1099511627776 ≤ a.tmod b ∧ a.tmod b ≤ 1099511627776 := by
  obtain ⟨a1, a2⟩ := ha
  have h : (a.tmod b).natAbs ≤ a.natAbs := by rw [Int.natAbs_tmod]; exact Nat.mod_le _ _
  omega
set_option maxRecDepth 100000 in
theorem arith_add (a b : Int) (ha : Small a) (hb : Small b) (w : World) : Calls Tryz.prog 75 #[.string ⟨#[43]⟩, .int .i64 a, .int .i64 b] w fun e w' => e = .returned (two (addS a b)) ∧ Below w.heap.size w w' := by
  obtain ⟨a1, a2⟩ := ha
  obtain ⟨b1, b2⟩ := hb
  obtain ⟨⟨v, e⟩, hv⟩ : ∃ z, chkI (a + b) = z := ⟨_, rfl⟩
  have H : Hid (addS a b = (v, e)) := Lib.hid (by exact hv)
  have HN := Lib.hid (num_at hv)
  clear hv
  go_enter Tryz.func75, Tryz.ntmps75
  go_wp2_with (first
    | (go_at_call 101; refine (size_ _ (by omega) (by omega) _).mono ?_; rintro r y ⟨rfl, rfl⟩)
    | (go_at_call 83; (with_reducible refine (HN.out _).mono ?_); rintro r y ⟨rfl, hb⟩; have K : Hid (K1 w y w.heap.size (.int .i64 0) (.int .i64 0) (.string ⟨#[]⟩)) := Lib.hid (K1.below ⟨new1 w _, B3.new w _ _ _ 27⟩ hb); clear hb; obtain ⟨HB, ⟨r0, r1, r2, g0, g1, g2, rl⟩⟩ := K.out))
  (try simp only [Exit.inBlock, Exit.then])
  exact ret_two rfl rfl K.out.q rfl ⟨by rw [H.out]; rfl, set3 HB _ (Nat.le_refl _) _ _ _⟩
set_option maxRecDepth 100000 in
theorem arith_sub (a b : Int) (ha : Small a) (hb : Small b) (w : World) : Calls Tryz.prog 75 #[.string ⟨#[45]⟩, .int .i64 a, .int .i64 b] w fun e w' => e = .returned (two (subS a b)) ∧ Below w.heap.size w w' := by
  obtain ⟨a1, a2⟩ := ha
  obtain ⟨b1, b2⟩ := hb
  obtain ⟨⟨v, e⟩, hv⟩ : ∃ z, chkI (a - b) = z := ⟨_, rfl⟩
  have H : Hid (subS a b = (v, e)) := Lib.hid (by exact hv)
  have HN := Lib.hid (num_at hv)
  clear hv
  go_enter Tryz.func75, Tryz.ntmps75
  go_wp2_with (first
    | (go_at_call 101; refine (size_ _ (by omega) (by omega) _).mono ?_; rintro r y ⟨rfl, rfl⟩)
    | (go_at_call 83; (with_reducible refine (HN.out _).mono ?_); rintro r y ⟨rfl, hb⟩; have K : Hid (K1 w y w.heap.size (.int .i64 0) (.int .i64 0) (.string ⟨#[]⟩)) := Lib.hid (K1.below ⟨new1 w _, B3.new w _ _ _ 27⟩ hb); clear hb; obtain ⟨HB, ⟨r0, r1, r2, g0, g1, g2, rl⟩⟩ := K.out))
  (try simp only [Exit.inBlock, Exit.then])
  exact ret_two rfl rfl K.out.q rfl ⟨by rw [H.out]; rfl, set3 HB _ (Nat.le_refl _) _ _ _⟩
set_option maxRecDepth 100000 in
theorem arith_mul (a b : Int) (ha : Small a) (hb : Small b) (w : World) : Calls Tryz.prog 75 #[.string ⟨#[42]⟩, .int .i64 a, .int .i64 b] w fun e w' => e = .returned (two (mulS a b)) ∧ Below w.heap.size w w' := by
  obtain ⟨a1, a2⟩ := ha
  obtain ⟨b1, b2⟩ := hb
  by_cases h0 : a = 0
  · subst h0
    have m0 : (0 : Int) * b = 0 := by simp
    obtain ⟨⟨v, e⟩, hv⟩ : ∃ z, chkI (0) = z := ⟨_, rfl⟩
    have H : Hid (mulS 0 b = (v, e)) := Lib.hid (by rw [← hv]; unfold mulS; rw [if_neg (by simp), m0]; exact (chkI_of 0 (by unfold Small; omega)).symm)
    have HN := Lib.hid (num_at hv)
    clear hv
    clear m0
    go_enter Tryz.func75, Tryz.ntmps75
    go_wp2_with (first
      | (go_at_call 101; refine (size_ _ (by omega) (by omega) _).mono ?_; rintro r y ⟨rfl, rfl⟩)
      | (go_at_call 83; (with_reducible refine (HN.out _).mono ?_); rintro r y ⟨rfl, hb⟩; have K : Hid (K1 w y w.heap.size (.int .i64 0) (.int .i64 0) (.string ⟨#[]⟩)) := Lib.hid (K1.below ⟨new1 w _, B3.new w _ _ _ 27⟩ hb); clear hb; obtain ⟨HB, ⟨r0, r1, r2, g0, g1, g2, rl⟩⟩ := K.out))
    (try simp only [Exit.inBlock, Exit.then])
    exact ret_two rfl rfl K.out.q rfl ⟨by rw [H.out]; rfl, set3 HB _ (Nat.le_refl _) _ _ _⟩
  have z1 : (a == 0) = false := by simpa using h0
  have z1' : (a != 0) = true := by simpa using h0
  by_cases h1 : b = 0
  · subst h1
    have m0 : a * (0 : Int) = 0 := by simp
    obtain ⟨⟨v, e⟩, hv⟩ : ∃ z, chkI (0) = z := ⟨_, rfl⟩
    have H : Hid (mulS a 0 = (v, e)) := Lib.hid (by rw [← hv, ← mul_neg0 a])
    have HN := Lib.hid (num_at hv)
    clear hv
    clear m0
    go_enter Tryz.func75, Tryz.ntmps75
    go_wp2_with (first
      | (go_at_call 101; refine (size_ _ (by omega) (by omega) _).mono ?_; rintro r y ⟨rfl, rfl⟩)
      | (go_at_call 83; (with_reducible refine (HN.out _).mono ?_); rintro r y ⟨rfl, hb⟩; have K : Hid (K1 w y w.heap.size (.int .i64 0) (.int .i64 0) (.string ⟨#[]⟩)) := Lib.hid (K1.below ⟨new1 w _, B3.new w _ _ _ 27⟩ hb); clear hb; obtain ⟨HB, ⟨r0, r1, r2, g0, g1, g2, rl⟩⟩ := K.out))
    (try simp only [Exit.inBlock, Exit.then])
    exact ret_two rfl rfl K.out.q rfl ⟨by rw [H.out]; rfl, set3 HB _ (Nat.le_refl _) _ _ _⟩
  have z2 : (b == 0) = false := by simpa using h1
  have z2' : (b != 0) = true := by simpa using h1
  by_cases h2 : 2199023255552 / max b (-b) < max a (-a)
  · have H : Hid (mulS a b = (nulV, 21)) := Lib.hid (mul_pos1 a b h0 h1 h2)
    go_enter Tryz.func75, Tryz.ntmps75
    go_wp2_with (first
      | (go_at_call 101; refine (size_ _ (by omega) (by omega) _).mono ?_; rintro r y ⟨rfl, rfl⟩))
    go_returns
    exact ⟨by rw [H.out]; rfl, new1 _ _⟩
  · have hm := mul_bd a b h1 h2
    obtain ⟨m1, m2⟩ := hm
    obtain ⟨⟨v, e⟩, hv⟩ : ∃ z, chkI (a * b) = z := ⟨_, rfl⟩
    have H : Hid (mulS a b = (v, e)) := Lib.hid (by rw [← hv, mul_neg1 a b h2 h1])
    have HN := Lib.hid (num_at hv)
    clear hv
    go_enter Tryz.func75, Tryz.ntmps75
    go_wp2_with (first
      | (go_at_call 101; refine (size_ _ (by omega) (by omega) _).mono ?_; rintro r y ⟨rfl, rfl⟩)
      | (go_at_call 83; (with_reducible refine (HN.out _).mono ?_); rintro r y ⟨rfl, hb⟩; have K : Hid (K1 w y w.heap.size (.int .i64 0) (.int .i64 0) (.string ⟨#[]⟩)) := Lib.hid (K1.below ⟨new1 w _, B3.new w _ _ _ 27⟩ hb); clear hb; obtain ⟨HB, ⟨r0, r1, r2, g0, g1, g2, rl⟩⟩ := K.out))
    (try simp only [Exit.inBlock, Exit.then])
    exact ret_two rfl rfl K.out.q rfl ⟨by rw [H.out]; rfl, set3 HB _ (Nat.le_refl _) _ _ _⟩
set_option maxRecDepth 100000 in
theorem arith_quo (a b : Int) (ha : Small a) (hb : Small b) (w : World) : Calls Tryz.prog 75 #[.string ⟨#[47]⟩, .int .i64 a, .int .i64 b] w fun e w' => e = .returned (two (quoS a b)) ∧ Below w.heap.size w w' := by
  have hq := tdiv_small a b ha
  have ha' := ha
  obtain ⟨a1, a2⟩ := ha
  obtain ⟨b1, b2⟩ := hb
  by_cases h1 : b = 0
  · subst h1
    have H : Hid (quoS a 0 = (nulV, 22)) := Lib.hid (by unfold quoS; rw [if_pos rfl])
    go_enter Tryz.func75, Tryz.ntmps75
    go_wp2
    go_returns
    exact ⟨by rw [H.out]; rfl, new1 _ _⟩
  · have z2 : (b == 0) = false := by simpa using h1
    obtain ⟨⟨v, e⟩, hv⟩ : ∃ z, chkI (a.tdiv b) = z := ⟨_, rfl⟩
    have H : Hid (quoS a b = (v, e)) := Lib.hid (by unfold quoS; rw [if_neg h1, ← hv, chkI_of _ hq])
    have HN := Lib.hid (num_at hv)
    clear hv
    obtain ⟨q1, q2⟩ := hq
    clear ha'
    go_enter Tryz.func75, Tryz.ntmps75
    go_wp2_with (first
      | (go_at_call 101; refine (size_ _ (by omega) (by omega) _).mono ?_; rintro r y ⟨rfl, rfl⟩)
      | (go_at_call 83; (with_reducible refine (HN.out _).mono ?_); rintro r y ⟨rfl, hb⟩; have K : Hid (K1 w y w.heap.size (.int .i64 0) (.int .i64 0) (.string ⟨#[]⟩)) := Lib.hid (K1.below ⟨new1 w _, B3.new w _ _ _ 27⟩ hb); clear hb; obtain ⟨HB, ⟨r0, r1, r2, g0, g1, g2, rl⟩⟩ := K.out))
    (try simp only [Exit.inBlock, Exit.then])
    exact ret_two rfl rfl K.out.q rfl ⟨by rw [H.out]; rfl, set3 HB _ (Nat.le_refl _) _ _ _⟩
set_option maxRecDepth 100000 in
theorem arith_rem (a b : Int) (ha : Small a) (hb : Small b) (w : World) : Calls Tryz.prog 75 #[.string ⟨#[109, 111, 100]⟩, .int .i64 a, .int .i64 b] w fun e w' => e = .returned (two (remS a b)) ∧ Below w.heap.size w w' := by
  have hq := tmod_small a b ha
  have ha' := ha
  obtain ⟨a1, a2⟩ := ha
  obtain ⟨b1, b2⟩ := hb
  by_cases h1 : b = 0
  · subst h1
    have H : Hid (remS a 0 = (nulV, 22)) := Lib.hid (by unfold remS; rw [if_pos rfl])
    go_enter Tryz.func75, Tryz.ntmps75
    go_wp2
    go_returns
    exact ⟨by rw [H.out]; rfl, new1 _ _⟩
  · have z2 : (b == 0) = false := by simpa using h1
    obtain ⟨⟨v, e⟩, hv⟩ : ∃ z, chkI (a.tmod b) = z := ⟨_, rfl⟩
    have H : Hid (remS a b = (v, e)) := Lib.hid (by unfold remS; rw [if_neg h1, ← hv, chkI_of _ hq])
    have HN := Lib.hid (num_at hv)
    clear hv
    obtain ⟨q1, q2⟩ := hq
    clear ha'
    go_enter Tryz.func75, Tryz.ntmps75
    go_wp2_with (first
      | (go_at_call 101; refine (size_ _ (by omega) (by omega) _).mono ?_; rintro r y ⟨rfl, rfl⟩)
      | (go_at_call 83; (with_reducible refine (HN.out _).mono ?_); rintro r y ⟨rfl, hb⟩; have K : Hid (K1 w y w.heap.size (.int .i64 0) (.int .i64 0) (.string ⟨#[]⟩)) := Lib.hid (K1.below ⟨new1 w _, B3.new w _ _ _ 27⟩ hb); clear hb; obtain ⟨HB, ⟨r0, r1, r2, g0, g1, g2, rl⟩⟩ := K.out))
    (try simp only [Exit.inBlock, Exit.then])
    exact ret_two rfl rfl K.out.q rfl ⟨by rw [H.out]; rfl, set3 HB _ (Nat.le_refl _) _ _ _⟩
end
end Go.Proofs.YtplepijiceanlaaGreatDoor
namespace Go.Proofs.YtplepijiceanlaaGreatDoor
section
open Go.RowKit

/-- and, or: the truth that decides alone, else null, else the other. -/
def truS (op : ByteArray) (a b : Va) : Va :=
  if eqV a.k a.n a.s 3 (b2i (op.toList == [111, 114])) ⟨#[]⟩ = true then booV (op.toList == [111, 114]) else if eqV b.k b.n b.s 3 (b2i (op.toList == [111, 114])) ⟨#[]⟩ = true then booV (op.toList == [111, 114]) else
    if (a.k == 0) = true then nulV else if (b.k == 0) = true then nulV else booV (op.toList == [97, 110, 100])
set_option maxRecDepth 100000 in
set_option maxHeartbeats 4000000 in
theorem truths_ (op : ByteArray) (a b : Va) (w : World) : Calls Tryz.prog 70 #[.string op, a.val, b.val] w fun e w' => e = .returned (truS op a b).val ∧ Below w.heap.size w w' := by
  have H : Hid (truS op a b = if eqV a.k a.n a.s 3 (b2i (op.toList == [111, 114])) ⟨#[]⟩ = true then booV (op.toList == [111, 114]) else if eqV b.k b.n b.s 3 (b2i (op.toList == [111, 114])) ⟨#[]⟩ = true then booV (op.toList == [111, 114]) else
    if (a.k == 0) = true then nulV else if (b.k == 0) = true then nulV else booV (op.toList == [97, 110, 100])) := Lib.hid rfl
  obtain ⟨ia, hia⟩ : ∃ x, (op.toList == [97, 110, 100]) = x := ⟨_, rfl⟩
  rw [hia] at H
  cases hio : op.toList == [111, 114]
  · have hia0 := Lib.hid hia
    clear hia
    rw [hio] at H
    cases e1 : eqV a.k a.n a.s 3 0 ⟨#[]⟩
    · cases e2 : eqV b.k b.n b.s 3 0 ⟨#[]⟩
      · cases ka : a.k == 0
        · cases kb : b.k == 0
          · have hia := hia0.out
            go_enter Tryz.func70, Tryz.ntmps70
            go_wp2_with fail
            refine (ref_bool false _).mono ?_
            rintro e y ⟨rfl, hb⟩
            have K : Hid (KL w (y.alloc (.cells #[.int .i64 3, .int .i64 0, .string ⟨#[]⟩] 27)) ((y.heap.size, .int .i64 3, .int .i64 0, .string ⟨#[]⟩) :: [(w.heap.size + 1 + 1, .int .i64 0, .int .i64 0, .string ⟨#[]⟩), (w.heap.size + 1, .int .i64 b.k, .int .i64 b.n, .string b.s), (w.heap.size, .int .i64 a.k, .int .i64 a.n, .string a.s)])) := Lib.hid (KL.push (KL.below ((((KL.refl w).push _ _ _ 27).push' _ (sz1 _ _) _ _ _ 27).push' _ (sz2 _ _ _) _ _ _ 27) hb) _ _ _ 27)
            clear hb
            obtain ⟨HB, ⟨s0, s1, s2, -, -, -, sl⟩, ⟨r0, r1, r2, rf0, rf1, rf2, rl⟩, ⟨b0, b1, b2, -, -, -, bl⟩, ⟨a0, a1, a2, -, -, -, al⟩, -⟩ := K.out
            go_wp2_with (first
              | (go_at_call 56; refine (ref_null _).mono ?_; rintro e z ⟨rfl, hb⟩; have K' := Lib.hid (KL.below K.out hb); clear hb K; have K := K'; clear K'; obtain ⟨HB, ⟨s0, s1, s2, -, -, -, sl⟩, ⟨r0, r1, r2, rf0, rf1, rf2, rl⟩, ⟨b0, b1, b2, -, -, -, bl⟩, ⟨a0, a1, a2, -, -, -, al⟩, -⟩ := K.out)
              | (go_at_call 55; refine (ref_bool _ _).mono ?_; rintro e z ⟨rfl, hb⟩; have K' := Lib.hid (KL.below K.out hb); clear hb K; have K := K'; clear K'; obtain ⟨HB, ⟨s0, s1, s2, -, -, -, sl⟩, ⟨r0, r1, r2, rf0, rf1, rf2, rl⟩, ⟨b0, b1, b2, -, -, -, bl⟩, ⟨a0, a1, a2, -, -, -, al⟩, -⟩ := K.out))
            (try simp only [Exit.inBlock, Exit.then])
            exact ret_one rfl rfl K.out.q.2.1 rfl ⟨by rw [H.out, if_neg (by simp [e1]), if_neg (by simp [e2]), if_neg (by simp [ka]), if_neg (by simp [kb])]; rfl, set3 HB _ (by omega) _ _ _⟩
          · go_enter Tryz.func70, Tryz.ntmps70
            go_wp2_with fail
            refine (ref_bool false _).mono ?_
            rintro e y ⟨rfl, hb⟩
            have K : Hid (KL w (y.alloc (.cells #[.int .i64 3, .int .i64 0, .string ⟨#[]⟩] 27)) ((y.heap.size, .int .i64 3, .int .i64 0, .string ⟨#[]⟩) :: [(w.heap.size + 1 + 1, .int .i64 0, .int .i64 0, .string ⟨#[]⟩), (w.heap.size + 1, .int .i64 b.k, .int .i64 b.n, .string b.s), (w.heap.size, .int .i64 a.k, .int .i64 a.n, .string a.s)])) := Lib.hid (KL.push (KL.below ((((KL.refl w).push _ _ _ 27).push' _ (sz1 _ _) _ _ _ 27).push' _ (sz2 _ _ _) _ _ _ 27) hb) _ _ _ 27)
            clear hb
            obtain ⟨HB, ⟨s0, s1, s2, -, -, -, sl⟩, ⟨r0, r1, r2, rf0, rf1, rf2, rl⟩, ⟨b0, b1, b2, -, -, -, bl⟩, ⟨a0, a1, a2, -, -, -, al⟩, -⟩ := K.out
            go_wp2_with (first
              | (go_at_call 56; refine (ref_null _).mono ?_; rintro e z ⟨rfl, hb⟩; have K' := Lib.hid (KL.below K.out hb); clear hb K; have K := K'; clear K'; obtain ⟨HB, ⟨s0, s1, s2, -, -, -, sl⟩, ⟨r0, r1, r2, rf0, rf1, rf2, rl⟩, ⟨b0, b1, b2, -, -, -, bl⟩, ⟨a0, a1, a2, -, -, -, al⟩, -⟩ := K.out)
              | (go_at_call 55; refine (ref_bool _ _).mono ?_; rintro e z ⟨rfl, hb⟩; have K' := Lib.hid (KL.below K.out hb); clear hb K; have K := K'; clear K'; obtain ⟨HB, ⟨s0, s1, s2, -, -, -, sl⟩, ⟨r0, r1, r2, rf0, rf1, rf2, rl⟩, ⟨b0, b1, b2, -, -, -, bl⟩, ⟨a0, a1, a2, -, -, -, al⟩, -⟩ := K.out))
            (try simp only [Exit.inBlock, Exit.then])
            exact ret_one rfl rfl K.out.q.2.1 rfl ⟨by rw [H.out, if_neg (by simp [e1]), if_neg (by simp [e2]), if_neg (by simp [ka]), if_pos kb]; rfl, set3 HB _ (by omega) _ _ _⟩
        · go_enter Tryz.func70, Tryz.ntmps70
          go_wp2_with fail
          refine (ref_bool false _).mono ?_
          rintro e y ⟨rfl, hb⟩
          have K : Hid (KL w (y.alloc (.cells #[.int .i64 3, .int .i64 0, .string ⟨#[]⟩] 27)) ((y.heap.size, .int .i64 3, .int .i64 0, .string ⟨#[]⟩) :: [(w.heap.size + 1 + 1, .int .i64 0, .int .i64 0, .string ⟨#[]⟩), (w.heap.size + 1, .int .i64 b.k, .int .i64 b.n, .string b.s), (w.heap.size, .int .i64 a.k, .int .i64 a.n, .string a.s)])) := Lib.hid (KL.push (KL.below ((((KL.refl w).push _ _ _ 27).push' _ (sz1 _ _) _ _ _ 27).push' _ (sz2 _ _ _) _ _ _ 27) hb) _ _ _ 27)
          clear hb
          obtain ⟨HB, ⟨s0, s1, s2, -, -, -, sl⟩, ⟨r0, r1, r2, rf0, rf1, rf2, rl⟩, ⟨b0, b1, b2, -, -, -, bl⟩, ⟨a0, a1, a2, -, -, -, al⟩, -⟩ := K.out
          go_wp2_with (first
            | (go_at_call 56; refine (ref_null _).mono ?_; rintro e z ⟨rfl, hb⟩; have K' := Lib.hid (KL.below K.out hb); clear hb K; have K := K'; clear K'; obtain ⟨HB, ⟨s0, s1, s2, -, -, -, sl⟩, ⟨r0, r1, r2, rf0, rf1, rf2, rl⟩, ⟨b0, b1, b2, -, -, -, bl⟩, ⟨a0, a1, a2, -, -, -, al⟩, -⟩ := K.out)
            | (go_at_call 55; refine (ref_bool _ _).mono ?_; rintro e z ⟨rfl, hb⟩; have K' := Lib.hid (KL.below K.out hb); clear hb K; have K := K'; clear K'; obtain ⟨HB, ⟨s0, s1, s2, -, -, -, sl⟩, ⟨r0, r1, r2, rf0, rf1, rf2, rl⟩, ⟨b0, b1, b2, -, -, -, bl⟩, ⟨a0, a1, a2, -, -, -, al⟩, -⟩ := K.out))
          (try simp only [Exit.inBlock, Exit.then])
          exact ret_one rfl rfl K.out.q.2.1 rfl ⟨by rw [H.out, if_neg (by simp [e1]), if_neg (by simp [e2]), if_pos ka]; rfl, set3 HB _ (by omega) _ _ _⟩
      · go_enter Tryz.func70, Tryz.ntmps70
        go_wp2_with fail
        refine (ref_bool false _).mono ?_
        rintro e y ⟨rfl, hb⟩
        have K : Hid (KL w (y.alloc (.cells #[.int .i64 3, .int .i64 0, .string ⟨#[]⟩] 27)) ((y.heap.size, .int .i64 3, .int .i64 0, .string ⟨#[]⟩) :: [(w.heap.size + 1 + 1, .int .i64 0, .int .i64 0, .string ⟨#[]⟩), (w.heap.size + 1, .int .i64 b.k, .int .i64 b.n, .string b.s), (w.heap.size, .int .i64 a.k, .int .i64 a.n, .string a.s)])) := Lib.hid (KL.push (KL.below ((((KL.refl w).push _ _ _ 27).push' _ (sz1 _ _) _ _ _ 27).push' _ (sz2 _ _ _) _ _ _ 27) hb) _ _ _ 27)
        clear hb
        obtain ⟨HB, ⟨s0, s1, s2, -, -, -, sl⟩, ⟨r0, r1, r2, rf0, rf1, rf2, rl⟩, ⟨b0, b1, b2, -, -, -, bl⟩, ⟨a0, a1, a2, -, -, -, al⟩, -⟩ := K.out
        go_wp2_with (first
          | (go_at_call 56; refine (ref_null _).mono ?_; rintro e z ⟨rfl, hb⟩; have K' := Lib.hid (KL.below K.out hb); clear hb K; have K := K'; clear K'; obtain ⟨HB, ⟨s0, s1, s2, -, -, -, sl⟩, ⟨r0, r1, r2, rf0, rf1, rf2, rl⟩, ⟨b0, b1, b2, -, -, -, bl⟩, ⟨a0, a1, a2, -, -, -, al⟩, -⟩ := K.out)
          | (go_at_call 55; refine (ref_bool _ _).mono ?_; rintro e z ⟨rfl, hb⟩; have K' := Lib.hid (KL.below K.out hb); clear hb K; have K := K'; clear K'; obtain ⟨HB, ⟨s0, s1, s2, -, -, -, sl⟩, ⟨r0, r1, r2, rf0, rf1, rf2, rl⟩, ⟨b0, b1, b2, -, -, -, bl⟩, ⟨a0, a1, a2, -, -, -, al⟩, -⟩ := K.out))
        (try simp only [Exit.inBlock, Exit.then])
        exact ret_one rfl rfl K.out.q.2.1 rfl ⟨by rw [H.out, if_neg (by simp [e1]), if_pos (by simp [e2])]; rfl, set3 HB _ (by omega) _ _ _⟩
    · go_enter Tryz.func70, Tryz.ntmps70
      go_wp2_with fail
      refine (ref_bool false _).mono ?_
      rintro e y ⟨rfl, hb⟩
      have K : Hid (KL w (y.alloc (.cells #[.int .i64 3, .int .i64 0, .string ⟨#[]⟩] 27)) ((y.heap.size, .int .i64 3, .int .i64 0, .string ⟨#[]⟩) :: [(w.heap.size + 1 + 1, .int .i64 0, .int .i64 0, .string ⟨#[]⟩), (w.heap.size + 1, .int .i64 b.k, .int .i64 b.n, .string b.s), (w.heap.size, .int .i64 a.k, .int .i64 a.n, .string a.s)])) := Lib.hid (KL.push (KL.below ((((KL.refl w).push _ _ _ 27).push' _ (sz1 _ _) _ _ _ 27).push' _ (sz2 _ _ _) _ _ _ 27) hb) _ _ _ 27)
      clear hb
      obtain ⟨HB, ⟨s0, s1, s2, -, -, -, sl⟩, ⟨r0, r1, r2, rf0, rf1, rf2, rl⟩, ⟨b0, b1, b2, -, -, -, bl⟩, ⟨a0, a1, a2, -, -, -, al⟩, -⟩ := K.out
      go_wp2_with (first
        | (go_at_call 56; refine (ref_null _).mono ?_; rintro e z ⟨rfl, hb⟩; have K' := Lib.hid (KL.below K.out hb); clear hb K; have K := K'; clear K'; obtain ⟨HB, ⟨s0, s1, s2, -, -, -, sl⟩, ⟨r0, r1, r2, rf0, rf1, rf2, rl⟩, ⟨b0, b1, b2, -, -, -, bl⟩, ⟨a0, a1, a2, -, -, -, al⟩, -⟩ := K.out)
        | (go_at_call 55; refine (ref_bool _ _).mono ?_; rintro e z ⟨rfl, hb⟩; have K' := Lib.hid (KL.below K.out hb); clear hb K; have K := K'; clear K'; obtain ⟨HB, ⟨s0, s1, s2, -, -, -, sl⟩, ⟨r0, r1, r2, rf0, rf1, rf2, rl⟩, ⟨b0, b1, b2, -, -, -, bl⟩, ⟨a0, a1, a2, -, -, -, al⟩, -⟩ := K.out))
      (try simp only [Exit.inBlock, Exit.then])
      exact ret_one rfl rfl K.out.q.2.1 rfl ⟨by rw [H.out, if_pos (by simp [e1])]; rfl, set3 HB _ (by omega) _ _ _⟩
  · have hia0 := Lib.hid hia
    clear hia
    rw [hio] at H
    cases e1 : eqV a.k a.n a.s 3 1 ⟨#[]⟩
    · cases e2 : eqV b.k b.n b.s 3 1 ⟨#[]⟩
      · cases ka : a.k == 0
        · cases kb : b.k == 0
          · have hia := hia0.out
            go_enter Tryz.func70, Tryz.ntmps70
            go_wp2_with fail
            refine (ref_bool true _).mono ?_
            rintro e y ⟨rfl, hb⟩
            have K : Hid (KL w (y.alloc (.cells #[.int .i64 3, .int .i64 1, .string ⟨#[]⟩] 27)) ((y.heap.size, .int .i64 3, .int .i64 1, .string ⟨#[]⟩) :: [(w.heap.size + 1 + 1, .int .i64 0, .int .i64 0, .string ⟨#[]⟩), (w.heap.size + 1, .int .i64 b.k, .int .i64 b.n, .string b.s), (w.heap.size, .int .i64 a.k, .int .i64 a.n, .string a.s)])) := Lib.hid (KL.push (KL.below ((((KL.refl w).push _ _ _ 27).push' _ (sz1 _ _) _ _ _ 27).push' _ (sz2 _ _ _) _ _ _ 27) hb) _ _ _ 27)
            clear hb
            obtain ⟨HB, ⟨s0, s1, s2, -, -, -, sl⟩, ⟨r0, r1, r2, rf0, rf1, rf2, rl⟩, ⟨b0, b1, b2, -, -, -, bl⟩, ⟨a0, a1, a2, -, -, -, al⟩, -⟩ := K.out
            go_wp2_with (first
              | (go_at_call 56; refine (ref_null _).mono ?_; rintro e z ⟨rfl, hb⟩; have K' := Lib.hid (KL.below K.out hb); clear hb K; have K := K'; clear K'; obtain ⟨HB, ⟨s0, s1, s2, -, -, -, sl⟩, ⟨r0, r1, r2, rf0, rf1, rf2, rl⟩, ⟨b0, b1, b2, -, -, -, bl⟩, ⟨a0, a1, a2, -, -, -, al⟩, -⟩ := K.out)
              | (go_at_call 55; refine (ref_bool _ _).mono ?_; rintro e z ⟨rfl, hb⟩; have K' := Lib.hid (KL.below K.out hb); clear hb K; have K := K'; clear K'; obtain ⟨HB, ⟨s0, s1, s2, -, -, -, sl⟩, ⟨r0, r1, r2, rf0, rf1, rf2, rl⟩, ⟨b0, b1, b2, -, -, -, bl⟩, ⟨a0, a1, a2, -, -, -, al⟩, -⟩ := K.out))
            (try simp only [Exit.inBlock, Exit.then])
            exact ret_one rfl rfl K.out.q.2.1 rfl ⟨by rw [H.out, if_neg (by simp [e1]), if_neg (by simp [e2]), if_neg (by simp [ka]), if_neg (by simp [kb])]; rfl, set3 HB _ (by omega) _ _ _⟩
          · go_enter Tryz.func70, Tryz.ntmps70
            go_wp2_with fail
            refine (ref_bool true _).mono ?_
            rintro e y ⟨rfl, hb⟩
            have K : Hid (KL w (y.alloc (.cells #[.int .i64 3, .int .i64 1, .string ⟨#[]⟩] 27)) ((y.heap.size, .int .i64 3, .int .i64 1, .string ⟨#[]⟩) :: [(w.heap.size + 1 + 1, .int .i64 0, .int .i64 0, .string ⟨#[]⟩), (w.heap.size + 1, .int .i64 b.k, .int .i64 b.n, .string b.s), (w.heap.size, .int .i64 a.k, .int .i64 a.n, .string a.s)])) := Lib.hid (KL.push (KL.below ((((KL.refl w).push _ _ _ 27).push' _ (sz1 _ _) _ _ _ 27).push' _ (sz2 _ _ _) _ _ _ 27) hb) _ _ _ 27)
            clear hb
            obtain ⟨HB, ⟨s0, s1, s2, -, -, -, sl⟩, ⟨r0, r1, r2, rf0, rf1, rf2, rl⟩, ⟨b0, b1, b2, -, -, -, bl⟩, ⟨a0, a1, a2, -, -, -, al⟩, -⟩ := K.out
            go_wp2_with (first
              | (go_at_call 56; refine (ref_null _).mono ?_; rintro e z ⟨rfl, hb⟩; have K' := Lib.hid (KL.below K.out hb); clear hb K; have K := K'; clear K'; obtain ⟨HB, ⟨s0, s1, s2, -, -, -, sl⟩, ⟨r0, r1, r2, rf0, rf1, rf2, rl⟩, ⟨b0, b1, b2, -, -, -, bl⟩, ⟨a0, a1, a2, -, -, -, al⟩, -⟩ := K.out)
              | (go_at_call 55; refine (ref_bool _ _).mono ?_; rintro e z ⟨rfl, hb⟩; have K' := Lib.hid (KL.below K.out hb); clear hb K; have K := K'; clear K'; obtain ⟨HB, ⟨s0, s1, s2, -, -, -, sl⟩, ⟨r0, r1, r2, rf0, rf1, rf2, rl⟩, ⟨b0, b1, b2, -, -, -, bl⟩, ⟨a0, a1, a2, -, -, -, al⟩, -⟩ := K.out))
            (try simp only [Exit.inBlock, Exit.then])
            exact ret_one rfl rfl K.out.q.2.1 rfl ⟨by rw [H.out, if_neg (by simp [e1]), if_neg (by simp [e2]), if_neg (by simp [ka]), if_pos kb]; rfl, set3 HB _ (by omega) _ _ _⟩
        · go_enter Tryz.func70, Tryz.ntmps70
          go_wp2_with fail
          refine (ref_bool true _).mono ?_
          rintro e y ⟨rfl, hb⟩
          have K : Hid (KL w (y.alloc (.cells #[.int .i64 3, .int .i64 1, .string ⟨#[]⟩] 27)) ((y.heap.size, .int .i64 3, .int .i64 1, .string ⟨#[]⟩) :: [(w.heap.size + 1 + 1, .int .i64 0, .int .i64 0, .string ⟨#[]⟩), (w.heap.size + 1, .int .i64 b.k, .int .i64 b.n, .string b.s), (w.heap.size, .int .i64 a.k, .int .i64 a.n, .string a.s)])) := Lib.hid (KL.push (KL.below ((((KL.refl w).push _ _ _ 27).push' _ (sz1 _ _) _ _ _ 27).push' _ (sz2 _ _ _) _ _ _ 27) hb) _ _ _ 27)
          clear hb
          obtain ⟨HB, ⟨s0, s1, s2, -, -, -, sl⟩, ⟨r0, r1, r2, rf0, rf1, rf2, rl⟩, ⟨b0, b1, b2, -, -, -, bl⟩, ⟨a0, a1, a2, -, -, -, al⟩, -⟩ := K.out
          go_wp2_with (first
            | (go_at_call 56; refine (ref_null _).mono ?_; rintro e z ⟨rfl, hb⟩; have K' := Lib.hid (KL.below K.out hb); clear hb K; have K := K'; clear K'; obtain ⟨HB, ⟨s0, s1, s2, -, -, -, sl⟩, ⟨r0, r1, r2, rf0, rf1, rf2, rl⟩, ⟨b0, b1, b2, -, -, -, bl⟩, ⟨a0, a1, a2, -, -, -, al⟩, -⟩ := K.out)
            | (go_at_call 55; refine (ref_bool _ _).mono ?_; rintro e z ⟨rfl, hb⟩; have K' := Lib.hid (KL.below K.out hb); clear hb K; have K := K'; clear K'; obtain ⟨HB, ⟨s0, s1, s2, -, -, -, sl⟩, ⟨r0, r1, r2, rf0, rf1, rf2, rl⟩, ⟨b0, b1, b2, -, -, -, bl⟩, ⟨a0, a1, a2, -, -, -, al⟩, -⟩ := K.out))
          (try simp only [Exit.inBlock, Exit.then])
          exact ret_one rfl rfl K.out.q.2.1 rfl ⟨by rw [H.out, if_neg (by simp [e1]), if_neg (by simp [e2]), if_pos ka]; rfl, set3 HB _ (by omega) _ _ _⟩
      · go_enter Tryz.func70, Tryz.ntmps70
        go_wp2_with fail
        refine (ref_bool true _).mono ?_
        rintro e y ⟨rfl, hb⟩
        have K : Hid (KL w (y.alloc (.cells #[.int .i64 3, .int .i64 1, .string ⟨#[]⟩] 27)) ((y.heap.size, .int .i64 3, .int .i64 1, .string ⟨#[]⟩) :: [(w.heap.size + 1 + 1, .int .i64 0, .int .i64 0, .string ⟨#[]⟩), (w.heap.size + 1, .int .i64 b.k, .int .i64 b.n, .string b.s), (w.heap.size, .int .i64 a.k, .int .i64 a.n, .string a.s)])) := Lib.hid (KL.push (KL.below ((((KL.refl w).push _ _ _ 27).push' _ (sz1 _ _) _ _ _ 27).push' _ (sz2 _ _ _) _ _ _ 27) hb) _ _ _ 27)
        clear hb
        obtain ⟨HB, ⟨s0, s1, s2, -, -, -, sl⟩, ⟨r0, r1, r2, rf0, rf1, rf2, rl⟩, ⟨b0, b1, b2, -, -, -, bl⟩, ⟨a0, a1, a2, -, -, -, al⟩, -⟩ := K.out
        go_wp2_with (first
          | (go_at_call 56; refine (ref_null _).mono ?_; rintro e z ⟨rfl, hb⟩; have K' := Lib.hid (KL.below K.out hb); clear hb K; have K := K'; clear K'; obtain ⟨HB, ⟨s0, s1, s2, -, -, -, sl⟩, ⟨r0, r1, r2, rf0, rf1, rf2, rl⟩, ⟨b0, b1, b2, -, -, -, bl⟩, ⟨a0, a1, a2, -, -, -, al⟩, -⟩ := K.out)
          | (go_at_call 55; refine (ref_bool _ _).mono ?_; rintro e z ⟨rfl, hb⟩; have K' := Lib.hid (KL.below K.out hb); clear hb K; have K := K'; clear K'; obtain ⟨HB, ⟨s0, s1, s2, -, -, -, sl⟩, ⟨r0, r1, r2, rf0, rf1, rf2, rl⟩, ⟨b0, b1, b2, -, -, -, bl⟩, ⟨a0, a1, a2, -, -, -, al⟩, -⟩ := K.out))
        (try simp only [Exit.inBlock, Exit.then])
        exact ret_one rfl rfl K.out.q.2.1 rfl ⟨by rw [H.out, if_neg (by simp [e1]), if_pos (by simp [e2])]; rfl, set3 HB _ (by omega) _ _ _⟩
    · go_enter Tryz.func70, Tryz.ntmps70
      go_wp2_with fail
      refine (ref_bool true _).mono ?_
      rintro e y ⟨rfl, hb⟩
      have K : Hid (KL w (y.alloc (.cells #[.int .i64 3, .int .i64 1, .string ⟨#[]⟩] 27)) ((y.heap.size, .int .i64 3, .int .i64 1, .string ⟨#[]⟩) :: [(w.heap.size + 1 + 1, .int .i64 0, .int .i64 0, .string ⟨#[]⟩), (w.heap.size + 1, .int .i64 b.k, .int .i64 b.n, .string b.s), (w.heap.size, .int .i64 a.k, .int .i64 a.n, .string a.s)])) := Lib.hid (KL.push (KL.below ((((KL.refl w).push _ _ _ 27).push' _ (sz1 _ _) _ _ _ 27).push' _ (sz2 _ _ _) _ _ _ 27) hb) _ _ _ 27)
      clear hb
      obtain ⟨HB, ⟨s0, s1, s2, -, -, -, sl⟩, ⟨r0, r1, r2, rf0, rf1, rf2, rl⟩, ⟨b0, b1, b2, -, -, -, bl⟩, ⟨a0, a1, a2, -, -, -, al⟩, -⟩ := K.out
      go_wp2_with (first
        | (go_at_call 56; refine (ref_null _).mono ?_; rintro e z ⟨rfl, hb⟩; have K' := Lib.hid (KL.below K.out hb); clear hb K; have K := K'; clear K'; obtain ⟨HB, ⟨s0, s1, s2, -, -, -, sl⟩, ⟨r0, r1, r2, rf0, rf1, rf2, rl⟩, ⟨b0, b1, b2, -, -, -, bl⟩, ⟨a0, a1, a2, -, -, -, al⟩, -⟩ := K.out)
        | (go_at_call 55; refine (ref_bool _ _).mono ?_; rintro e z ⟨rfl, hb⟩; have K' := Lib.hid (KL.below K.out hb); clear hb K; have K := K'; clear K'; obtain ⟨HB, ⟨s0, s1, s2, -, -, -, sl⟩, ⟨r0, r1, r2, rf0, rf1, rf2, rl⟩, ⟨b0, b1, b2, -, -, -, bl⟩, ⟨a0, a1, a2, -, -, -, al⟩, -⟩ := K.out))
      (try simp only [Exit.inBlock, Exit.then])
      exact ret_one rfl rfl K.out.q.2.1 rfl ⟨by rw [H.out, if_pos (by simp [e1])]; rfl, set3 HB _ (by omega) _ _ _⟩

end
end Go.Proofs.YtplepijiceanlaaGreatDoor
namespace Go.Proofs.YtplepijiceanlaaGreatDoor
section
open Go.RowKit

theorem of_toList {s : ByteArray} {l : List UInt8} (h : (s.toList == l) = true) : s = ⟨l.toArray⟩ := by
  apply toList_eq
  rw [beq_iff_eq] at h
  rw [h, ByteArray.toList_eq]
theorem ne_of_toList {s t : ByteArray} (h : (s.toList == t.toList) = false) : (s == t) = false := by
  cases q : s == t
  · rfl
  · exfalso
    have q2 : (s.data == t.data) = true := q
    have e : s.toList = t.toList := by rw [ByteArray.toList_eq, ByteArray.toList_eq, eq_of_beq q2]
    rw [e] at h
    simp at h
theorem tl (l : List UInt8) : (ByteArray.mk l.toArray).toList = l := by rw [ByteArray.toList_eq]
/-- What an operation of one gives, of whatever name. -/
def unaS (op : ByteArray) (v : Va) : Va × Int := if (op.toList == [45]) = true then unS 1 v else if (op.toList == [110, 111, 116]) = true then unS 3 v else (nulV, 2)
theorem unMap_none (op : ByteArray) (h1 : (op.toList == [45]) = false) (h2 : (op.toList == [110, 111, 116]) = false) : findE unMap op = none := by
  have e1 : (op == sMinus) = false := ne_of_toList (by rw [show sMinus.toList = [45] from tl [45]]; exact h1)
  have e2 : (op == sNot) = false := ne_of_toList (by rw [show sNot.toList = [110, 111, 116] from tl [110, 111, 116]]; exact h2)
  unfold findE unMap
  simp [e1, e2]
set_option maxRecDepth 100000 in
set_option maxHeartbeats 800000 in
theorem unaryNo_ (op : ByteArray) (hop : findE unMap op = none) (v : Va) (w : World) :
    Calls Tryz.prog 25 #[.string op, v.val] w fun e w' => e = .returned (two (nulV, 2)) ∧ Below w.heap.size w w' := by
  have hmm := @run_makeMap Tryz.prog
  have HOP := Lib.hid hop
  clear hop
  obtain ⟨k, n, s⟩ := v
  unfold Va.val
  simp only
  go_enter Tryz.func25, Tryz.ntmps25
  go_wp2_with (first
    | (refine wpList_insert_lit rfl (.tmp 9) _ _ 69 9 25 rfl Tryz.underlying69 Tryz.underlying9 (Fed.made' _ _ (sz2 _ _ _)) sMinus (.int .i64 1) rfl rfl rfl rfl ?_; intro w1 (hF1 : Fed _ w1 _ [(sMinus, .int .i64 1)]))
    | (refine wpList_insert_lit rfl (.tmp 9) _ _ 69 9 25 rfl Tryz.underlying69 Tryz.underlying9 hF1 sNot (.int .i64 3) rfl rfl rfl rfl ?_; intro w2 (hF2 : Fed _ w2 _ unMap); have hlk := run_lookup_lit hF2.here Tryz.underlying69 Tryz.underlying9 (zero25 _) op; rw [HOP.out] at hlk; have K : Hid (K2 w w2 w.heap.size (.int .i64 k) (.int .i64 n) (.string s) (w.heap.size + 1) (.int .i64 0) (.int .i64 0) (.string ⟨#[]⟩)) := Lib.hid ⟨(((new2 w _ _).alloc (by simp; omega) _)).trans (hF2.below (by omega) (by simp; omega)), (((B3.new w _ _ _ 27).alloc _).alloc _).fed hF2, ((B3.new' (w.alloc _) _ (sz1 _ _) _ _ _ 27).alloc _).fed hF2⟩; clear hF1 hF2; obtain ⟨HB, ⟨v0, v1, v2, _, _, _, vl⟩, ⟨r0, r1, r2, g0, g1, g2, rl⟩⟩ := K.out)
    | (go_at_call 15; refine (valid_ _ _ _ _).mono ?_; rintro e y ⟨rfl, hb⟩; have K := Lib.hid (K2.below (Hid.out (by assumption)) hb); clear hb; obtain ⟨HB, ⟨v0, v1, v2, _, _, _, vl⟩, ⟨r0, r1, r2, g0, g1, g2, rl⟩⟩ := K.out)
    | (go_at_call 63; refine (oneKind_ _ _ _ [⟨k, n, s⟩] _ (by simp [maxLen]) (sl1 _ _ _ _)).mono ?_; rintro e y ⟨rfl, hb⟩; have K := Lib.hid (K2.below (K2.alloc (Hid.out (by assumption)) _) hb); clear hb; obtain ⟨HB, ⟨v0, v1, v2, _, _, _, vl⟩, ⟨r0, r1, r2, g0, g1, g2, rl⟩⟩ := K.out)
    | (go_at_call 64; refine (someNull_ _ _ [⟨k, n, s⟩] _ (by simp [maxLen]) (sl1 _ _ _ _)).mono ?_; rintro e y ⟨rfl, hb⟩; have K := Lib.hid (K2.below (K2.alloc (Hid.out (by assumption)) _) hb); clear hb; obtain ⟨HB, ⟨v0, v1, v2, _, _, _, vl⟩, ⟨r0, r1, r2, g0, g1, g2, rl⟩⟩ := K.out)
    | (go_at_call 65; refine (integer_ _ _).mono ?_; rintro e y ⟨rfl, hb⟩; have K := Lib.hid (K2.below (Hid.out (by assumption)) hb); clear hb; obtain ⟨HB, ⟨v0, v1, v2, _, _, _, vl⟩, ⟨r0, r1, r2, g0, g1, g2, rl⟩⟩ := K.out)
    | (go_at_call 17; refine (true_ _ _ _ _).mono ?_; rintro e y ⟨rfl, hb⟩; have K := Lib.hid (K2.below (Hid.out (by assumption)) hb); clear hb; obtain ⟨HB, ⟨v0, v1, v2, _, _, _, vl⟩, ⟨r0, r1, r2, g0, g1, g2, rl⟩⟩ := K.out)
    | (go_at_call 60; refine (boolean_ _ _).mono ?_; rintro e y ⟨rfl, hb⟩; have K := Lib.hid (K2.below (Hid.out (by assumption)) hb); clear hb; obtain ⟨HB, ⟨v0, v1, v2, _, _, _, vl⟩, ⟨r0, r1, r2, g0, g1, g2, rl⟩⟩ := K.out))
  (try simp only [Exit.inBlock, Exit.then])
  exact ret_two rfl rfl K.out.q' rfl ⟨rfl, set3 HB _ (lt_add1 _) _ _ _⟩

theorem unaryAll_ (op : ByteArray) (v : Va) (w : World) : Calls Tryz.prog 25 #[.string op, v.val] w fun e w' => e = .returned (two (unaS op v)) ∧ Below w.heap.size w w' := by
  unfold unaS
  cases h1 : op.toList == [45]
  · cases h2 : op.toList == [110, 111, 116]
    · rw [if_neg (by decide), if_neg (by decide)]
      exact unaryNo_ op (unMap_none op h1 h2) v w
    · rw [if_neg (by decide), if_pos rfl]
      obtain rfl := of_toList h2
      exact unary_ 3 _ rfl v w
  · rw [if_pos rfl]
    obtain rfl := of_toList h1
    exact unary_ 1 _ rfl v w
theorem isUnary_ (op : ByteArray) (w : World) : Calls Tryz.prog 66 #[.string op] w fun e w' => e = .returned (.bool ((op.toList == [45]) || (op.toList == [110, 111, 116]))) ∧ w = w' := by
  cases h1 : op.toList == [45]
  all_goals
    go_enter Tryz.func66, Tryz.ntmps66
    go_wp2
    go_ret
    exact ⟨rfl, rfl⟩
set_option maxRecDepth 100000 in
set_option maxHeartbeats 4000000 in
theorem refUnary_neg (op : ByteArray) (h1 : (op.toList == [45]) = true) (h2 : (op.toList == [110, 111, 116]) = false) (v : Va) (hm : v.s.size ≤ maxLen) (w : World) : Calls Tryz.prog 26 #[.string op, v.val] w fun e w' => e = .returned (two (unS 1 v)) ∧ Below w.heap.size w w' := by
  have HU : Hid (((op.toList == [45]) || (op.toList == [110, 111, 116])) = true) := Lib.hid (by rw [h1, h2]; rfl)
  cases hok : v.ok
  · have H : Hid (unS 1 v = (nulV, 2)) := Lib.hid (by unfold unS; rw [if_pos hok])
    obtain ⟨k, n, s⟩ := v
    have HV := Lib.hid (fun x => refValid_at (v := ⟨k, n, s⟩) hok hm x)
    clear hok hm
    go_enter Tryz.func26, Tryz.ntmps26
    go_wp2_with (first
      | (go_at_call 66; (with_reducible refine (isUnary_ _ _).mono ?_); rintro e y ⟨rfl, rfl⟩; rw [HU.out])
      | (go_at_call 16; refine (HV.out _).mono ?_; rintro e y ⟨rfl, hb⟩; have K : Hid (KL w y [(w.heap.size + 1, .int .i64 0, .int .i64 0, .string ⟨#[]⟩), (w.heap.size, .int .i64 k, .int .i64 n, .string s)]) := Lib.hid (KL.below (((KL.refl w).push _ _ _ 27).push' _ (sz1 _ _) _ _ _ 27) hb); clear hb; obtain ⟨HB, ⟨r0, r1, r2, rf0, rf1, rf2, rl⟩, ⟨a0, a1, a2, -, -, -, al⟩, -⟩ := K.out)
      | (go_at_call 57; refine (ref_int _ _).mono ?_; rintro e y ⟨rfl, hb⟩; have K' := Lib.hid (KL.below K.out hb); clear hb K; have K := K'; clear K'; obtain ⟨HB, ⟨r0, r1, r2, rf0, rf1, rf2, rl⟩, ⟨a0, a1, a2, -, -, -, al⟩, -⟩ := K.out)
      | (go_at_call 55; refine (ref_bool _ _).mono ?_; rintro e y ⟨rfl, hb⟩; have K' := Lib.hid (KL.below K.out hb); clear hb K; have K := K'; clear K'; obtain ⟨HB, ⟨r0, r1, r2, rf0, rf1, rf2, rl⟩, ⟨a0, a1, a2, -, -, -, al⟩, -⟩ := K.out))
    (try simp only [Exit.inBlock, Exit.then])
    exact ret_two rfl rfl K.out.q.1 rfl ⟨by rw [H.out]; rfl, set3 HB _ (by omega) _ _ _⟩
  · rcases ok_cases v hok with rfl | ⟨n, rfl, hn⟩ | ⟨s, rfl, hs⟩ | ⟨b, rfl⟩
    · have H : Hid (unS 1 nulV = (nulV, 0)) := Lib.hid (by unfold unS; rw [if_neg (by simp [ok_nul]), if_neg (by simp [oneK, nulV]), if_pos (by simp [hasNull, nulV])])
      have HV := Lib.hid (fun x => refValid_at (v := nulV) hok hm x)
      clear hok
      show Calls Tryz.prog 26 #[.string op, V 0 0 ⟨#[]⟩] w _
      go_enter Tryz.func26, Tryz.ntmps26
      go_wp2_with (first
        | (go_at_call 66; (with_reducible refine (isUnary_ _ _).mono ?_); rintro e y ⟨rfl, rfl⟩; rw [HU.out])
        | (go_at_call 16; refine (HV.out _).mono ?_; rintro e y ⟨rfl, hb⟩; have K : Hid (KL w y [(w.heap.size + 1, .int .i64 0, .int .i64 0, .string ⟨#[]⟩), (w.heap.size, .int .i64 0, .int .i64 0, .string ⟨#[]⟩)]) := Lib.hid (KL.below (((KL.refl w).push _ _ _ 27).push' _ (sz1 _ _) _ _ _ 27) hb); clear hb; obtain ⟨HB, ⟨r0, r1, r2, rf0, rf1, rf2, rl⟩, ⟨a0, a1, a2, -, -, -, al⟩, -⟩ := K.out)
        | (go_at_call 57; refine (ref_int _ _).mono ?_; rintro e y ⟨rfl, hb⟩; have K' := Lib.hid (KL.below K.out hb); clear hb K; have K := K'; clear K'; obtain ⟨HB, ⟨r0, r1, r2, rf0, rf1, rf2, rl⟩, ⟨a0, a1, a2, -, -, -, al⟩, -⟩ := K.out)
        | (go_at_call 55; refine (ref_bool _ _).mono ?_; rintro e y ⟨rfl, hb⟩; have K' := Lib.hid (KL.below K.out hb); clear hb K; have K := K'; clear K'; obtain ⟨HB, ⟨r0, r1, r2, rf0, rf1, rf2, rl⟩, ⟨a0, a1, a2, -, -, -, al⟩, -⟩ := K.out))
      (try simp only [Exit.inBlock, Exit.then])
      exact ret_two rfl rfl K.out.q.1 rfl ⟨by rw [H.out]; rfl, set3 HB _ (by omega) _ _ _⟩
    · have H : Hid (unS 1 (intV n) = (intV (-n), 0)) := Lib.hid (by unfold unS; rw [if_neg (by simp [ok_int n hn]), if_neg (by simp [oneK, intV]), if_neg (by simp [hasNull, intV]), if_pos (by decide)]; rfl)
      have HV := Lib.hid (fun x => refValid_at (v := (intV n)) hok hm x)
      clear hok
      obtain ⟨n1, n2⟩ := hn
      show Calls Tryz.prog 26 #[.string op, V 1 n ⟨#[]⟩] w _
      go_enter Tryz.func26, Tryz.ntmps26
      go_wp2_with (first
        | (go_at_call 66; (with_reducible refine (isUnary_ _ _).mono ?_); rintro e y ⟨rfl, rfl⟩; rw [HU.out])
        | (go_at_call 16; refine (HV.out _).mono ?_; rintro e y ⟨rfl, hb⟩; have K : Hid (KL w y [(w.heap.size + 1, .int .i64 0, .int .i64 0, .string ⟨#[]⟩), (w.heap.size, .int .i64 1, .int .i64 n, .string ⟨#[]⟩)]) := Lib.hid (KL.below (((KL.refl w).push _ _ _ 27).push' _ (sz1 _ _) _ _ _ 27) hb); clear hb; obtain ⟨HB, ⟨r0, r1, r2, rf0, rf1, rf2, rl⟩, ⟨a0, a1, a2, -, -, -, al⟩, -⟩ := K.out)
        | (go_at_call 57; refine (ref_int _ _).mono ?_; rintro e y ⟨rfl, hb⟩; have K' := Lib.hid (KL.below K.out hb); clear hb K; have K := K'; clear K'; obtain ⟨HB, ⟨r0, r1, r2, rf0, rf1, rf2, rl⟩, ⟨a0, a1, a2, -, -, -, al⟩, -⟩ := K.out)
        | (go_at_call 55; refine (ref_bool _ _).mono ?_; rintro e y ⟨rfl, hb⟩; have K' := Lib.hid (KL.below K.out hb); clear hb K; have K := K'; clear K'; obtain ⟨HB, ⟨r0, r1, r2, rf0, rf1, rf2, rl⟩, ⟨a0, a1, a2, -, -, -, al⟩, -⟩ := K.out))
      (try simp only [Exit.inBlock, Exit.then])
      exact ret_two rfl rfl K.out.q.1 rfl ⟨by rw [H.out]; rfl, set3 HB _ (by omega) _ _ _⟩
    · have H : Hid (unS 1 (txtV s) = (nulV, 16)) := Lib.hid (by unfold unS; rw [if_neg (by simp [ok_txt s hs]), if_pos (by simp [oneK, txtV])])
      have HV := Lib.hid (fun x => refValid_at (v := (txtV s)) hok hm x)
      clear hok
      show Calls Tryz.prog 26 #[.string op, V 2 0 s] w _
      go_enter Tryz.func26, Tryz.ntmps26
      go_wp2_with (first
        | (go_at_call 66; (with_reducible refine (isUnary_ _ _).mono ?_); rintro e y ⟨rfl, rfl⟩; rw [HU.out])
        | (go_at_call 16; refine (HV.out _).mono ?_; rintro e y ⟨rfl, hb⟩; have K : Hid (KL w y [(w.heap.size + 1, .int .i64 0, .int .i64 0, .string ⟨#[]⟩), (w.heap.size, .int .i64 2, .int .i64 0, .string s)]) := Lib.hid (KL.below (((KL.refl w).push _ _ _ 27).push' _ (sz1 _ _) _ _ _ 27) hb); clear hb; obtain ⟨HB, ⟨r0, r1, r2, rf0, rf1, rf2, rl⟩, ⟨a0, a1, a2, -, -, -, al⟩, -⟩ := K.out)
        | (go_at_call 57; refine (ref_int _ _).mono ?_; rintro e y ⟨rfl, hb⟩; have K' := Lib.hid (KL.below K.out hb); clear hb K; have K := K'; clear K'; obtain ⟨HB, ⟨r0, r1, r2, rf0, rf1, rf2, rl⟩, ⟨a0, a1, a2, -, -, -, al⟩, -⟩ := K.out)
        | (go_at_call 55; refine (ref_bool _ _).mono ?_; rintro e y ⟨rfl, hb⟩; have K' := Lib.hid (KL.below K.out hb); clear hb K; have K := K'; clear K'; obtain ⟨HB, ⟨r0, r1, r2, rf0, rf1, rf2, rl⟩, ⟨a0, a1, a2, -, -, -, al⟩, -⟩ := K.out))
      (try simp only [Exit.inBlock, Exit.then])
      exact ret_two rfl rfl K.out.q.1 rfl ⟨by rw [H.out]; rfl, set3 HB _ (by omega) _ _ _⟩
    · have H : Hid (unS 1 (booV b) = (nulV, 16)) := Lib.hid (by unfold unS; rw [if_neg (by simp [ok_boo b]), if_pos (by simp [oneK, booV])])
      have HV := Lib.hid (fun x => refValid_at (v := (booV b)) hok hm x)
      clear hok
      show Calls Tryz.prog 26 #[.string op, V 3 (b2i b) ⟨#[]⟩] w _
      go_enter Tryz.func26, Tryz.ntmps26
      go_wp2_with (first
        | (go_at_call 66; (with_reducible refine (isUnary_ _ _).mono ?_); rintro e y ⟨rfl, rfl⟩; rw [HU.out])
        | (go_at_call 16; refine (HV.out _).mono ?_; rintro e y ⟨rfl, hb⟩; have K : Hid (KL w y [(w.heap.size + 1, .int .i64 0, .int .i64 0, .string ⟨#[]⟩), (w.heap.size, .int .i64 3, .int .i64 (b2i b), .string ⟨#[]⟩)]) := Lib.hid (KL.below (((KL.refl w).push _ _ _ 27).push' _ (sz1 _ _) _ _ _ 27) hb); clear hb; obtain ⟨HB, ⟨r0, r1, r2, rf0, rf1, rf2, rl⟩, ⟨a0, a1, a2, -, -, -, al⟩, -⟩ := K.out)
        | (go_at_call 57; refine (ref_int _ _).mono ?_; rintro e y ⟨rfl, hb⟩; have K' := Lib.hid (KL.below K.out hb); clear hb K; have K := K'; clear K'; obtain ⟨HB, ⟨r0, r1, r2, rf0, rf1, rf2, rl⟩, ⟨a0, a1, a2, -, -, -, al⟩, -⟩ := K.out)
        | (go_at_call 55; refine (ref_bool _ _).mono ?_; rintro e y ⟨rfl, hb⟩; have K' := Lib.hid (KL.below K.out hb); clear hb K; have K := K'; clear K'; obtain ⟨HB, ⟨r0, r1, r2, rf0, rf1, rf2, rl⟩, ⟨a0, a1, a2, -, -, -, al⟩, -⟩ := K.out))
      (try simp only [Exit.inBlock, Exit.then])
      exact ret_two rfl rfl K.out.q.1 rfl ⟨by rw [H.out]; rfl, set3 HB _ (by omega) _ _ _⟩
set_option maxRecDepth 100000 in
set_option maxHeartbeats 4000000 in
theorem refUnary_not (op : ByteArray) (h1 : (op.toList == [45]) = false) (h2 : (op.toList == [110, 111, 116]) = true) (v : Va) (hm : v.s.size ≤ maxLen) (w : World) : Calls Tryz.prog 26 #[.string op, v.val] w fun e w' => e = .returned (two (unS 3 v)) ∧ Below w.heap.size w w' := by
  have HU : Hid (((op.toList == [45]) || (op.toList == [110, 111, 116])) = true) := Lib.hid (by rw [h1, h2]; rfl)
  cases hok : v.ok
  · have H : Hid (unS 3 v = (nulV, 2)) := Lib.hid (by unfold unS; rw [if_pos hok])
    obtain ⟨k, n, s⟩ := v
    have HV := Lib.hid (fun x => refValid_at (v := ⟨k, n, s⟩) hok hm x)
    clear hok hm
    go_enter Tryz.func26, Tryz.ntmps26
    go_wp2_with (first
      | (go_at_call 66; (with_reducible refine (isUnary_ _ _).mono ?_); rintro e y ⟨rfl, rfl⟩; rw [HU.out])
      | (go_at_call 16; refine (HV.out _).mono ?_; rintro e y ⟨rfl, hb⟩; have K : Hid (KL w y [(w.heap.size + 1, .int .i64 0, .int .i64 0, .string ⟨#[]⟩), (w.heap.size, .int .i64 k, .int .i64 n, .string s)]) := Lib.hid (KL.below (((KL.refl w).push _ _ _ 27).push' _ (sz1 _ _) _ _ _ 27) hb); clear hb; obtain ⟨HB, ⟨r0, r1, r2, rf0, rf1, rf2, rl⟩, ⟨a0, a1, a2, -, -, -, al⟩, -⟩ := K.out)
      | (go_at_call 57; refine (ref_int _ _).mono ?_; rintro e y ⟨rfl, hb⟩; have K' := Lib.hid (KL.below K.out hb); clear hb K; have K := K'; clear K'; obtain ⟨HB, ⟨r0, r1, r2, rf0, rf1, rf2, rl⟩, ⟨a0, a1, a2, -, -, -, al⟩, -⟩ := K.out)
      | (go_at_call 55; refine (ref_bool _ _).mono ?_; rintro e y ⟨rfl, hb⟩; have K' := Lib.hid (KL.below K.out hb); clear hb K; have K := K'; clear K'; obtain ⟨HB, ⟨r0, r1, r2, rf0, rf1, rf2, rl⟩, ⟨a0, a1, a2, -, -, -, al⟩, -⟩ := K.out))
    (try simp only [Exit.inBlock, Exit.then])
    exact ret_two rfl rfl K.out.q.1 rfl ⟨by rw [H.out]; rfl, set3 HB _ (by omega) _ _ _⟩
  · rcases ok_cases v hok with rfl | ⟨n, rfl, hn⟩ | ⟨s, rfl, hs⟩ | ⟨b, rfl⟩
    · have H : Hid (unS 3 nulV = (nulV, 0)) := Lib.hid (by unfold unS; rw [if_neg (by simp [ok_nul]), if_neg (by simp [oneK, nulV]), if_pos (by simp [hasNull, nulV])])
      have HV := Lib.hid (fun x => refValid_at (v := nulV) hok hm x)
      clear hok
      show Calls Tryz.prog 26 #[.string op, V 0 0 ⟨#[]⟩] w _
      go_enter Tryz.func26, Tryz.ntmps26
      go_wp2_with (first
        | (go_at_call 66; (with_reducible refine (isUnary_ _ _).mono ?_); rintro e y ⟨rfl, rfl⟩; rw [HU.out])
        | (go_at_call 16; refine (HV.out _).mono ?_; rintro e y ⟨rfl, hb⟩; have K : Hid (KL w y [(w.heap.size + 1, .int .i64 0, .int .i64 0, .string ⟨#[]⟩), (w.heap.size, .int .i64 0, .int .i64 0, .string ⟨#[]⟩)]) := Lib.hid (KL.below (((KL.refl w).push _ _ _ 27).push' _ (sz1 _ _) _ _ _ 27) hb); clear hb; obtain ⟨HB, ⟨r0, r1, r2, rf0, rf1, rf2, rl⟩, ⟨a0, a1, a2, -, -, -, al⟩, -⟩ := K.out)
        | (go_at_call 57; refine (ref_int _ _).mono ?_; rintro e y ⟨rfl, hb⟩; have K' := Lib.hid (KL.below K.out hb); clear hb K; have K := K'; clear K'; obtain ⟨HB, ⟨r0, r1, r2, rf0, rf1, rf2, rl⟩, ⟨a0, a1, a2, -, -, -, al⟩, -⟩ := K.out)
        | (go_at_call 55; refine (ref_bool _ _).mono ?_; rintro e y ⟨rfl, hb⟩; have K' := Lib.hid (KL.below K.out hb); clear hb K; have K := K'; clear K'; obtain ⟨HB, ⟨r0, r1, r2, rf0, rf1, rf2, rl⟩, ⟨a0, a1, a2, -, -, -, al⟩, -⟩ := K.out))
      (try simp only [Exit.inBlock, Exit.then])
      exact ret_two rfl rfl K.out.q.1 rfl ⟨by rw [H.out]; rfl, set3 HB _ (by omega) _ _ _⟩
    · have H : Hid (unS 3 (intV n) = (nulV, 16)) := Lib.hid (by unfold unS; rw [if_neg (by simp [ok_int n hn]), if_pos (by simp [oneK, intV])])
      have HV := Lib.hid (fun x => refValid_at (v := (intV n)) hok hm x)
      clear hok
      show Calls Tryz.prog 26 #[.string op, V 1 n ⟨#[]⟩] w _
      go_enter Tryz.func26, Tryz.ntmps26
      go_wp2_with (first
        | (go_at_call 66; (with_reducible refine (isUnary_ _ _).mono ?_); rintro e y ⟨rfl, rfl⟩; rw [HU.out])
        | (go_at_call 16; refine (HV.out _).mono ?_; rintro e y ⟨rfl, hb⟩; have K : Hid (KL w y [(w.heap.size + 1, .int .i64 0, .int .i64 0, .string ⟨#[]⟩), (w.heap.size, .int .i64 1, .int .i64 n, .string ⟨#[]⟩)]) := Lib.hid (KL.below (((KL.refl w).push _ _ _ 27).push' _ (sz1 _ _) _ _ _ 27) hb); clear hb; obtain ⟨HB, ⟨r0, r1, r2, rf0, rf1, rf2, rl⟩, ⟨a0, a1, a2, -, -, -, al⟩, -⟩ := K.out)
        | (go_at_call 57; refine (ref_int _ _).mono ?_; rintro e y ⟨rfl, hb⟩; have K' := Lib.hid (KL.below K.out hb); clear hb K; have K := K'; clear K'; obtain ⟨HB, ⟨r0, r1, r2, rf0, rf1, rf2, rl⟩, ⟨a0, a1, a2, -, -, -, al⟩, -⟩ := K.out)
        | (go_at_call 55; refine (ref_bool _ _).mono ?_; rintro e y ⟨rfl, hb⟩; have K' := Lib.hid (KL.below K.out hb); clear hb K; have K := K'; clear K'; obtain ⟨HB, ⟨r0, r1, r2, rf0, rf1, rf2, rl⟩, ⟨a0, a1, a2, -, -, -, al⟩, -⟩ := K.out))
      (try simp only [Exit.inBlock, Exit.then])
      exact ret_two rfl rfl K.out.q.1 rfl ⟨by rw [H.out]; rfl, set3 HB _ (by omega) _ _ _⟩
    · have H : Hid (unS 3 (txtV s) = (nulV, 16)) := Lib.hid (by unfold unS; rw [if_neg (by simp [ok_txt s hs]), if_pos (by simp [oneK, txtV])])
      have HV := Lib.hid (fun x => refValid_at (v := (txtV s)) hok hm x)
      clear hok
      show Calls Tryz.prog 26 #[.string op, V 2 0 s] w _
      go_enter Tryz.func26, Tryz.ntmps26
      go_wp2_with (first
        | (go_at_call 66; (with_reducible refine (isUnary_ _ _).mono ?_); rintro e y ⟨rfl, rfl⟩; rw [HU.out])
        | (go_at_call 16; refine (HV.out _).mono ?_; rintro e y ⟨rfl, hb⟩; have K : Hid (KL w y [(w.heap.size + 1, .int .i64 0, .int .i64 0, .string ⟨#[]⟩), (w.heap.size, .int .i64 2, .int .i64 0, .string s)]) := Lib.hid (KL.below (((KL.refl w).push _ _ _ 27).push' _ (sz1 _ _) _ _ _ 27) hb); clear hb; obtain ⟨HB, ⟨r0, r1, r2, rf0, rf1, rf2, rl⟩, ⟨a0, a1, a2, -, -, -, al⟩, -⟩ := K.out)
        | (go_at_call 57; refine (ref_int _ _).mono ?_; rintro e y ⟨rfl, hb⟩; have K' := Lib.hid (KL.below K.out hb); clear hb K; have K := K'; clear K'; obtain ⟨HB, ⟨r0, r1, r2, rf0, rf1, rf2, rl⟩, ⟨a0, a1, a2, -, -, -, al⟩, -⟩ := K.out)
        | (go_at_call 55; refine (ref_bool _ _).mono ?_; rintro e y ⟨rfl, hb⟩; have K' := Lib.hid (KL.below K.out hb); clear hb K; have K := K'; clear K'; obtain ⟨HB, ⟨r0, r1, r2, rf0, rf1, rf2, rl⟩, ⟨a0, a1, a2, -, -, -, al⟩, -⟩ := K.out))
      (try simp only [Exit.inBlock, Exit.then])
      exact ret_two rfl rfl K.out.q.1 rfl ⟨by rw [H.out]; rfl, set3 HB _ (by omega) _ _ _⟩
    · cases b
      · have H : Hid (unS 3 (booV false) = (booV true, 0)) := Lib.hid (by kernel_rfl)
        have HV := Lib.hid (fun x => refValid_at (v := booV false) hok hm x)
        clear hok
        show Calls Tryz.prog 26 #[.string op, V 3 0 ⟨#[]⟩] w _
        go_enter Tryz.func26, Tryz.ntmps26
        go_wp2_with (first
          | (go_at_call 66; (with_reducible refine (isUnary_ _ _).mono ?_); rintro e y ⟨rfl, rfl⟩; rw [HU.out])
          | (go_at_call 16; refine (HV.out _).mono ?_; rintro e y ⟨rfl, hb⟩; have K : Hid (KL w y [(w.heap.size + 1, .int .i64 0, .int .i64 0, .string ⟨#[]⟩), (w.heap.size, .int .i64 3, .int .i64 0, .string ⟨#[]⟩)]) := Lib.hid (KL.below (((KL.refl w).push _ _ _ 27).push' _ (sz1 _ _) _ _ _ 27) hb); clear hb; obtain ⟨HB, ⟨r0, r1, r2, rf0, rf1, rf2, rl⟩, ⟨a0, a1, a2, -, -, -, al⟩, -⟩ := K.out)
          | (go_at_call 57; refine (ref_int _ _).mono ?_; rintro e y ⟨rfl, hb⟩; have K' := Lib.hid (KL.below K.out hb); clear hb K; have K := K'; clear K'; obtain ⟨HB, ⟨r0, r1, r2, rf0, rf1, rf2, rl⟩, ⟨a0, a1, a2, -, -, -, al⟩, -⟩ := K.out)
          | (go_at_call 55; refine (ref_bool _ _).mono ?_; rintro e y ⟨rfl, hb⟩; have K' := Lib.hid (KL.below K.out hb); clear hb K; have K := K'; clear K'; obtain ⟨HB, ⟨r0, r1, r2, rf0, rf1, rf2, rl⟩, ⟨a0, a1, a2, -, -, -, al⟩, -⟩ := K.out))
        (try simp only [Exit.inBlock, Exit.then])
        exact ret_two rfl rfl K.out.q.1 rfl ⟨by rw [H.out]; rfl, set3 HB _ (by omega) _ _ _⟩
      · have H : Hid (unS 3 (booV true) = (booV false, 0)) := Lib.hid (by kernel_rfl)
        have HV := Lib.hid (fun x => refValid_at (v := booV true) hok hm x)
        clear hok
        show Calls Tryz.prog 26 #[.string op, V 3 1 ⟨#[]⟩] w _
        go_enter Tryz.func26, Tryz.ntmps26
        go_wp2_with (first
          | (go_at_call 66; (with_reducible refine (isUnary_ _ _).mono ?_); rintro e y ⟨rfl, rfl⟩; rw [HU.out])
          | (go_at_call 16; refine (HV.out _).mono ?_; rintro e y ⟨rfl, hb⟩; have K : Hid (KL w y [(w.heap.size + 1, .int .i64 0, .int .i64 0, .string ⟨#[]⟩), (w.heap.size, .int .i64 3, .int .i64 1, .string ⟨#[]⟩)]) := Lib.hid (KL.below (((KL.refl w).push _ _ _ 27).push' _ (sz1 _ _) _ _ _ 27) hb); clear hb; obtain ⟨HB, ⟨r0, r1, r2, rf0, rf1, rf2, rl⟩, ⟨a0, a1, a2, -, -, -, al⟩, -⟩ := K.out)
          | (go_at_call 57; refine (ref_int _ _).mono ?_; rintro e y ⟨rfl, hb⟩; have K' := Lib.hid (KL.below K.out hb); clear hb K; have K := K'; clear K'; obtain ⟨HB, ⟨r0, r1, r2, rf0, rf1, rf2, rl⟩, ⟨a0, a1, a2, -, -, -, al⟩, -⟩ := K.out)
          | (go_at_call 55; refine (ref_bool _ _).mono ?_; rintro e y ⟨rfl, hb⟩; have K' := Lib.hid (KL.below K.out hb); clear hb K; have K := K'; clear K'; obtain ⟨HB, ⟨r0, r1, r2, rf0, rf1, rf2, rl⟩, ⟨a0, a1, a2, -, -, -, al⟩, -⟩ := K.out))
        (try simp only [Exit.inBlock, Exit.then])
        exact ret_two rfl rfl K.out.q.1 rfl ⟨by rw [H.out]; rfl, set3 HB _ (by omega) _ _ _⟩
theorem refUnary_no (op : ByteArray) (h1 : (op.toList == [45]) = false) (h2 : (op.toList == [110, 111, 116]) = false) (v : Va) (w : World) : Calls Tryz.prog 26 #[.string op, v.val] w fun e w' => e = .returned (two (nulV, 2)) ∧ Below w.heap.size w w' := by
  have HU : Hid (((op.toList == [45]) || (op.toList == [110, 111, 116])) = false) := Lib.hid (by rw [h1, h2]; rfl)
  obtain ⟨k, n, s⟩ := v
  go_enter Tryz.func26, Tryz.ntmps26
  go_wp2_with (first
    | (go_at_call 66; (with_reducible refine (isUnary_ _ _).mono ?_); rintro e y ⟨rfl, rfl⟩; rw [HU.out]))
  go_returns
  exact ⟨rfl, new2 _ _ _⟩
theorem refUnary_ (op : ByteArray) (v : Va) (hm : v.s.size ≤ maxLen) (w : World) : Calls Tryz.prog 26 #[.string op, v.val] w fun e w' => e = .returned (two (unaS op v)) ∧ Below w.heap.size w w' := by
  unfold unaS
  cases h1 : op.toList == [45]
  · cases h2 : op.toList == [110, 111, 116]
    · rw [if_neg (by decide), if_neg (by decide)]
      exact refUnary_no op h1 h2 v w
    · rw [if_neg (by decide), if_pos rfl]
      exact refUnary_not op h1 h2 v hm w
  · rw [if_pos rfl]
    refine refUnary_neg op h1 ?_ v hm w
    obtain rfl := of_toList h1
    rw [tl]; rfl
end
end Go.Proofs.YtplepijiceanlaaGreatDoor
