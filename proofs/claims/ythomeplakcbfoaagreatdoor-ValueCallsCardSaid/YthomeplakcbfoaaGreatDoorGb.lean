/-
  The specification of layer 2 in plain Lean, and what follows from it.
-/
import Derived.WalkKit
import Derived.Lib.ItoaNum
import Derived.Lib.LastIndexByte
import Derived.Lib.ReplaceLaws
namespace Go.Proofs.YthomeplakcbfoaaGreatDoor
section

abbrev Bs := List UInt8
def smallB (c : UInt8) : Bool := decide (97 ≤ c.toNat) && decide (c.toNat ≤ 122)
def digitB (c : UInt8) : Bool := decide (48 ≤ c.toNat) && decide (c.toNat ≤ 57)
def namedB (c : UInt8) : Bool := smallB c || digitB c || c.toNat == 95
/-- Words, each behind a blank, and a blank behind all of them. -/
def rowOf : List Bs → Bs
  | [] => [32]
  | w :: r => 32 :: (w ++ rowOf r)
theorem rowOf_head (l : List Bs) : ∃ t, rowOf l = 32 :: t := by cases l <;> exact ⟨_, rfl⟩
theorem pre_word : ∀ (s w : Bs) (t : Bs), 32 ∉ s → 32 ∉ w → (s ++ [32] <+: w ++ 32 :: t ↔ s = w)
  | [], [], t, _, _ => by simp [List.prefix_cons_iff]
  | [], b :: w, t, _, hw => by
    have : b ≠ 32 := fun e => hw (by simp [e])
    simp [List.cons_prefix_cons, Ne.symm this]
  | a :: s, [], t, hs, _ => by
    have : a ≠ 32 := fun e => hs (by simp [e])
    simp [List.cons_prefix_cons, this]
  | a :: s, b :: w, t, hs, hw => by
    have ih := pre_word s w t (fun h => hs (by simp [h])) (fun h => hw (by simp [h]))
    simp only [List.cons_append, List.cons_prefix_cons, ih, List.cons.injEq]
theorem infix_skip (p : Bs) (w : Bs) (t : Bs) (hw : 32 ∉ w) : (32 :: p <:+: w ++ t) ↔ (32 :: p <:+: t) := by
  induction w with
  | nil => rfl
  | cons b w ih =>
    have hb : (32 : UInt8) ≠ b := fun e => hw (by simp [← e])
    rw [List.cons_append, List.infix_cons_iff, ih (fun h => hw (by simp [h])), List.cons_prefix_cons]
    simp [hb]
theorem infix_row (s : Bs) (hs : 32 ∉ s) (hne : s ≠ []) : ∀ (l : List Bs), (∀ w ∈ l, 32 ∉ w) → (32 :: (s ++ [32]) <:+: rowOf l ↔ s ∈ l)
  | [], _ => by
    simp only [rowOf, List.not_mem_nil, iff_false]
    intro h
    have := h.length_le
    simp at this
  | w :: r, h => by
    have hw := h w (by simp)
    obtain ⟨t, ht⟩ := rowOf_head r
    have ih := infix_row s hs hne r (fun x hx => h x (by simp [hx]))
    rw [rowOf, List.infix_cons_iff, infix_skip _ _ _ hw, ih, List.cons_prefix_cons, ht, pre_word s w t hs hw]
    simp
/-- The words, by the letter that they begin with. -/
def wtab : List (UInt8 × List Bs) := [
  (97, [[97, 100, 100], [97, 102, 116, 101, 114], [97, 108, 108], [97, 108, 116, 101, 114], [97, 110, 100], [97, 114, 114, 97, 121], [97, 115], [97, 117, 116, 111, 110, 111, 109, 111, 117, 115]]),
  (98, [[98, 101, 102, 111, 114, 101], [98, 101, 103, 105, 110], [98, 101, 116, 119, 101, 101, 110], [98, 111, 111, 108], [98, 117, 108, 107], [98, 121]]),
  (99, [[99, 97, 99, 104, 101], [99, 97, 115, 101], [99, 104, 101, 99, 107], [99, 108, 111, 115, 101], [99, 111, 108, 108, 101, 99, 116], [99, 111, 109, 109, 105, 116], [99, 111, 110, 115, 116, 114, 97, 105, 110, 116], [99, 111, 117, 110, 116], [99, 114, 101, 97, 116, 101], [99, 117, 114, 115, 111, 114]]),
  (100, [[100, 101, 99, 108, 97, 114, 101], [100, 101, 102, 97, 117, 108, 116], [100, 101, 102, 101, 114, 114, 101, 100], [100, 101, 108, 101, 116, 101], [100, 101, 115, 99], [100, 105, 115, 116, 105, 110, 99, 116], [100, 114, 111, 112]]),
  (101, [[101, 97, 99, 104], [101, 108, 115, 101], [101, 108, 115, 105, 102], [101, 110, 100], [101, 120, 99, 101, 112, 116, 105, 111, 110], [101, 120, 101, 99, 117, 116, 101], [101, 120, 105, 115, 116, 115], [101, 120, 105, 116]]),
  (102, [[102, 97, 108, 115, 101], [102, 101, 116, 99, 104], [102, 111, 114], [102, 111, 114, 97, 108, 108], [102, 111, 114, 101, 105, 103, 110], [102, 111, 117, 110, 100], [102, 114, 111, 109], [102, 117, 110, 99, 116, 105, 111, 110]]),
  (103, [[103, 114, 97, 110, 116], [103, 114, 111, 117, 112]]),
  (104, [[104, 97, 118, 105, 110, 103]]),
  (105, [[105, 102], [105, 110], [105, 110, 100, 101, 120], [105, 110, 115, 101, 114, 116], [105, 110, 116], [105, 110, 116, 111], [105, 110, 118, 111, 107, 101, 114], [105, 115], [105, 115, 111, 112, 101, 110]]),
  (107, [[107, 101, 121]]),
  (108, [[108, 105, 107, 101], [108, 105, 109, 105, 116], [108, 111, 111, 112]]),
  (109, [[109, 111, 100]]),
  (110, [[110, 101, 119], [110, 111, 116], [110, 111, 116, 102, 111, 117, 110, 100], [110, 117, 108, 108]]),
  (111, [[111, 102], [111, 108, 100], [111, 110], [111, 112, 101, 110], [111, 114], [111, 114, 100, 101, 114], [111, 117, 116]]),
  (112, [[112, 97, 99, 107, 97, 103, 101], [112, 114, 105, 109, 97, 114, 121], [112, 114, 105, 118, 97, 116, 101], [112, 114, 111, 99, 101, 100, 117, 114, 101]]),
  (114, [[114, 97, 105, 115, 101], [114, 101, 102, 101, 114, 101, 110, 99, 101, 115], [114, 101, 112, 108, 97, 99, 101], [114, 101, 116, 117, 114, 110], [114, 101, 118, 101, 114, 115, 101], [114, 101, 118, 111, 107, 101], [114, 111, 108, 108, 98, 97, 99, 107], [114, 111, 119], [114, 111, 119, 99, 111, 117, 110, 116]]),
  (115, [[115, 97, 118, 101, 112, 111, 105, 110, 116], [115, 101, 108, 101, 99, 116], [115, 101, 113, 117, 101, 110, 99, 101], [115, 101, 116], [115, 113, 108], [115, 116, 97, 114, 116]]),
  (116, [[116, 97, 98, 108, 101], [116, 101, 120, 116], [116, 104, 101, 110], [116, 111], [116, 114, 105, 103, 103, 101, 114], [116, 114, 117, 101]]),
  (117, [[117, 110, 105, 113, 117, 101], [117, 112, 100, 97, 116, 101], [117, 115, 101, 114]]),
  (118, [[118, 97, 108, 117, 101, 115], [118, 105, 101, 119]]),
  (119, [[119, 104, 101, 110], [119, 104, 101, 114, 101], [119, 104, 105, 108, 101]])]
def wordsAt (c : UInt8) : List Bs := ((wtab.find? fun p => p.1 == c).map (·.2)).getD []
def words : List Bs := wtab.flatMap (·.2)
theorem tab_mem (s : Bs) : ∀ (t : List (UInt8 × List Bs)), (t.all fun p => p.2.all fun w => w.head? == some p.1) = true → (t.map (·.1)).Nodup →
    ((t.flatMap (·.2)).contains s = match s with | [] => false | c :: _ => ((((t.find? fun p => p.1 == c).map (·.2)).getD []).contains s))
  | [], _, _ => by cases s <;> rfl
  | p :: t, h, hn => by
    simp only [List.all_cons, Bool.and_eq_true] at h
    simp only [List.map_cons, List.nodup_cons] at hn
    have ih := tab_mem s t h.2 hn.2
    have hp : ∀ w ∈ p.2, w.head? = some p.1 := fun w hw => by simpa using List.all_eq_true.1 h.1 w hw
    rw [List.flatMap_cons, List.contains_append, ih]
    cases s with
    | nil =>
      have : p.2.contains ([] : Bs) = false := by
        rw [List.contains_eq_mem, decide_eq_false_iff_not]
        intro hm
        have := hp _ hm
        simp at this
      rw [this]; rfl
    | cons c r =>
      by_cases hc : p.1 = c
      · have hf : (t.find? fun q => q.1 == c) = none := by
          rw [List.find?_eq_none]
          intro q hq hqc
          exact hn.1 (by rw [hc, ← beq_iff_eq.1 hqc]; exact List.mem_map_of_mem hq)
        simp [hc, hf]
      · have hq : (p.1 == c) = false := by simpa using hc
        have hno : p.2.contains (c :: r) = false := by
          rw [List.contains_eq_mem, decide_eq_false_iff_not]
          intro hm
          have := hp _ hm
          simp at this
          exact hc this.symm
        rw [hno, Bool.false_or]
        simp only [List.find?_cons, hq]
theorem words_at (s : Bs) : words.contains s = match s with | [] => false | c :: _ => (wordsAt c).contains s := tab_mem s wtab (by decide +kernel) (by decide +kernel)
theorem words_small : ∀ w ∈ words, w.all smallB = true := by
  have h : (words.all fun w => w.all smallB) = true := by decide +kernel
  exact fun w hw => List.all_eq_true.1 h w hw
theorem words_ne : ∀ w ∈ words, w ≠ [] := by
  have h : (words.all fun w => !w.isEmpty) = true := by decide +kernel
  intro w hw e
  have := List.all_eq_true.1 h w hw
  rw [e] at this
  simp at this
/-- All words in a row, each between blanks. -/
def wordRow : Bs := rowOf words
theorem words_row (s : Bs) (hs : s.all smallB = true) (hne : s ≠ []) : (32 :: (s ++ [32]) <:+: wordRow ↔ words.contains s = true) := by
  have hb : (32 : UInt8) ∉ s := fun h => by
    have := List.all_eq_true.1 hs _ h
    simp [smallB] at this
  rw [List.contains_iff_mem]
  exact infix_row s hb hne words fun w hw h => by
    have := List.all_eq_true.1 (words_small w hw) _ h
    simp [smallB] at this
end
end Go.Proofs.YthomeplakcbfoaaGreatDoor
namespace Go.Proofs.YthomeplakcbfoaaGreatDoor
section

def blankB (c : UInt8) : Bool := c == 32 || c == 9 || c == 10 || c == 13
def quotB (c : UInt8) : Bool := decide (32 ≤ c.toNat) && decide (c.toNat ≤ 126) && c != 39
/-- How many bytes of blanks and comments a string begins with (true: within a comment). -/
def skipL : Bool → Bs → Nat
  | _, [] => 0
  | true, c :: r => if c == 10 then 1 + skipL false r else 1 + skipL true r
  | false, c :: r => if blankB c = true then 1 + skipL false r else if (c == 45 && r.head? == some 45) = true then 1 + skipL true r else 0
/-- How many bytes from the beginning on are as is asked. -/
def many (p : UInt8 → Bool) (l : Bs) : Nat := (l.takeWhile p).length
/-- What a string in quotation marks is, from behind its first one on, and how many bytes it has up to the last one with it. -/
def textL : Bs → Option (Bs × Nat)
  | [] => none
  | [c] => if (c == 39) = true then some ([], 1) else none
  | c :: d :: r => if (c == 39) = true then (if (d == 39) = true then (textL r).map (fun q => (39 :: q.1, q.2 + 2)) else some ([], 1)) else if quotB c = true then (textL (d :: r)).map (fun q => (c :: q.1, q.2 + 1)) else none
def stepD (n : Nat) (c : UInt8) : Nat := 10 * n + (c.toNat - 48)
def valD (n : Nat) (l : Bs) : Nat := l.foldl stepD n
def signs : List Bs := [[58, 61], [60, 62], [60, 61], [62, 61], [124, 124], [46, 46], [40], [41], [44], [59], [46], [58], [61], [60], [62], [43], [45], [42], [47], [37]]
/-- A token: its kind, string, number. -/
structure Tk where
  k : Int
  t : Bs
  n : Int
/-- What stands at a place: a token and how many bytes it has, or an error and what it names. -/
inductive TR where
  | tok (x : Tk) (len : Nat)
  | bad (c : Int) (nm : Bs)
def signR (two : Bs) (c : UInt8) : TR := if signs.contains two = true then .tok ⟨5, two, 0⟩ two.length else if signs.contains [c] = true then .tok ⟨5, [c], 0⟩ 1 else .bad 10 [c]
def tokR : Bs → TR
  | [] => .bad 0 []
  | c :: r =>
    if smallB c = true then
      (if 30 < many namedB (c :: r) then .bad 21 ((c :: r).take 30) else .tok ⟨if words.contains ((c :: r).take (many namedB (c :: r))) = true then 2 else 1, (c :: r).take (many namedB (c :: r)), 0⟩ (many namedB (c :: r)))
    else if digitB c = true then
      (if 1099511627776 < valD 0 ((c :: r).take (many digitB (c :: r))) then .bad 21 ((c :: r).take (min (many digitB (c :: r)) 40)) else .tok ⟨3, [], valD 0 ((c :: r).take (many digitB (c :: r)))⟩ (many digitB (c :: r)))
    else if (c == 39) = true then
      match textL r with
      | none => .bad 10 [39]
      | some q => if 200 < q.1.length then .bad 21 [39] else .tok ⟨4, q.1, 0⟩ (q.2 + 1)
    else signR ((c :: r).take 2) c
def okTxt (t : Bs) : Bool := decide (t.length ≤ 200) && t.all fun c => decide (32 ≤ c.toNat) && decide (c.toNat ≤ 126)
def shapedB : Bs → Bool
  | [] => false
  | c :: r => smallB c && (c :: r).all namedB
def isNameB (t : Bs) : Bool := shapedB t && decide (t.length ≤ 30) && !words.contains t
/-- Whether a token is one. -/
def okT (x : Tk) : Bool :=
  (x.k == 1 && x.n == 0 && isNameB x.t) || (x.k == 2 && x.n == 0 && words.contains x.t) || (x.k == 3 && x.t.isEmpty && decide (0 ≤ x.n) && decide (x.n ≤ 1099511627776)) ||
  (x.k == 4 && x.n == 0 && okTxt x.t) || (x.k == 5 && x.n == 0 && signs.contains x.t)
def quoB (t : Bs) : Bs := 39 :: (t.flatMap (fun c => if (c == 39) = true then [39, 39] else [c]) ++ [39])
/-- A token's string. -/
def writ (x : Tk) : Bs := if (x.k == 3) = true then Lib.itoa x.n else if (x.k == 4) = true then quoB x.t else x.t
def joinW : List Tk → Bs
  | [] => []
  | [x] => writ x
  | x :: y :: r => writ x ++ 32 :: joinW (y :: r)
/-- The tokens of a string from a place on (k: how many there are before), each with its place, or the first fault: its error, what it names, and its place. -/
def lexC : Nat → Bs → Nat → Nat → List (Tk × Nat) × Option (Int × Bs × Nat)
  | 0, _, _, _ => ([], none)
  | f + 1, l, i, k =>
    if (l.drop (skipL false l)).isEmpty = true then ([], none) else
    match tokR (l.drop (skipL false l)) with
    | .bad c nm => ([], some (c, nm, i + skipL false l))
    | .tok x len => if (k == 4000) = true then ([], some (3, writ x, i + skipL false l)) else
      match lexC f ((l.drop (skipL false l)).drop len) (i + skipL false l + len) (k + 1) with
      | (_, some e) => ([], some e)
      | (r, none) => ((x, i + skipL false l) :: r, none)
/-- Line and column behind bytes. -/
def stepP (p : Int × Int) (c : UInt8) : Int × Int := if (c == 10) = true then (p.1 + 1, 1) else (p.1, p.2 + 1)
def placeP (l : Bs) : Int × Int := l.foldl stepP (1, 1)
end
end Go.Proofs.YthomeplakcbfoaaGreatDoor
namespace Go.Proofs.YthomeplakcbfoaaGreatDoor
section

theorem many_le (p : UInt8 → Bool) (l : Bs) : many p l ≤ l.length := (List.takeWhile_prefix p).length_le
theorem many_take (p : UInt8 → Bool) (l : Bs) : l.take (many p l) = l.takeWhile p := by
  have := List.prefix_iff_eq_take.1 (List.takeWhile_prefix p (l := l))
  exact this.symm
/-- Whether a string's first byte, if it has one, is none of those. -/
def headNot (p : UInt8 → Bool) (x : Bs) : Prop := ∀ c, x.head? = some c → p c = false
theorem takeWhile_app (p : UInt8 → Bool) (x : Bs) (hx : headNot p x) : ∀ (l : Bs), (l ++ x).takeWhile p = l.takeWhile p
  | [] => by
    cases x with
    | nil => rfl
    | cons c r => simp [hx c rfl]
  | c :: r => by
    rw [List.cons_append, List.takeWhile_cons, List.takeWhile_cons, takeWhile_app p x hx r]
theorem many_app (p : UInt8 → Bool) (l x : Bs) (hx : headNot p x) : many p (l ++ x) = many p l := by unfold many; rw [takeWhile_app p x hx l]
theorem many_all (p : UInt8 → Bool) (l x : Bs) (hl : l.all p = true) (hx : headNot p x) : many p (l ++ x) = l.length := by
  rw [many_app p l x hx]; unfold many
  have : l.takeWhile p = l := by
    induction l with
    | nil => rfl
    | cons c r ih =>
      simp only [List.all_cons, Bool.and_eq_true] at hl
      rw [List.takeWhile_cons, if_pos hl.1, ih hl.2]
  rw [this]
/-- In which mode blanks and comments leave a string that they are all of. -/
def modeL : Bool → Bs → Bool
  | b, [] => b
  | true, c :: r => if c == 10 then modeL false r else modeL true r
  | false, c :: r => if blankB c = true then modeL false r else modeL true r
theorem skip_le : ∀ (b : Bool) (l : Bs), skipL b l ≤ l.length
  | _, [] => by simp [skipL]
  | true, c :: r => by
    have h1 := skip_le false r; have h2 := skip_le true r
    simp only [skipL, List.length_cons]; split <;> omega
  | false, c :: r => by
    have h1 := skip_le false r; have h2 := skip_le true r
    simp only [skipL, List.length_cons]; split
    · omega
    · split <;> omega
theorem blank45 : blankB 45 = false := by decide
theorem skip_app (x : Bs) (hx : x.head? ≠ some 45) : ∀ (b : Bool) (l : Bs), skipL b (l ++ x) = if skipL b l < l.length then skipL b l else l.length + skipL (modeL b l) x
  | b, [] => by simp [skipL, modeL]
  | true, c :: r => by
    have h1 := skip_app x hx false r; have h2 := skip_app x hx true r
    simp only [List.cons_append, skipL, modeL, List.length_cons]
    split
    · rw [h1]; split <;> (split <;> omega)
    · rw [h2]; split <;> (split <;> omega)
  | false, c :: r => by
    have h1 := skip_app x hx false r; have h2 := skip_app x hx true r
    simp only [List.cons_append, skipL, modeL, List.length_cons]
    split
    · rw [h1]; split <;> (split <;> omega)
    · have hh : ((c == 45 && (r ++ x).head? == some 45) = true) ↔ ((c == 45 && r.head? == some 45) = true) := by
        cases r with
        | nil =>
          cases x with
          | nil => simp
          | cons d t =>
            have : d ≠ 45 := fun e => hx (by simp [e])
            simp [this]
        | cons d t => simp
      by_cases hc : (c == 45 && r.head? == some 45) = true
      · rw [if_pos hc, if_pos (hh.2 hc), h2]; split <;> (split <;> omega)
      · rw [if_neg hc, if_neg (fun q => hc (hh.1 q))]; simp
theorem skip_stays : ∀ (b : Bool) (l : Bs), skipL b l < l.length → b = false ∨ 0 < skipL b l
  | false, _, _ => .inl rfl
  | true, [], h => by simp at h
  | true, c :: r, _ => by
    right; simp only [skipL]; split <;> omega

theorem textL_app (x : Bs) (hx : headNot (fun c => c == 39) x) : ∀ (n : Nat) (l : Bs) (q : Bs × Nat), l.length ≤ n → textL l = some q → textL (l ++ x) = some q
  | _, [], q, _, h => by simp [textL] at h
  | 0, _ :: _, _, hn, _ => by simp at hn
  | n + 1, [c], q, _, h => by
    simp only [textL] at h
    split at h
    · rename_i hc
      cases h
      cases x with
      | nil => simp only [List.append_nil, textL, if_pos hc]
      | cons d t =>
        have hd := hx d rfl
        simp only [List.cons_append, List.nil_append, textL, if_pos hc]
        rw [if_neg (by simpa using hd)]
    · cases h
  | n + 1, c :: d :: r, q, hn, h => by
    simp only [List.length_cons] at hn
    simp only [textL] at h
    simp only [List.cons_append, textL]
    split at h
    · rename_i hc
      rw [if_pos hc]
      split at h
      · rename_i hd
        rw [if_pos hd]
        simp only [Option.map_eq_some_iff] at h
        obtain ⟨a, ha, rfl⟩ := h
        rw [textL_app x hx n r a (by omega) ha]
        rfl
      · rename_i hd
        rw [if_neg hd]
        exact h
    · rename_i hc
      rw [if_neg hc]
      split at h
      · rename_i hq
        rw [if_pos hq]
        simp only [Option.map_eq_some_iff] at h
        obtain ⟨a, ha, rfl⟩ := h
        have ih := textL_app x hx n (d :: r) a (by simp; omega) ha
        rw [List.cons_append] at ih
        rw [ih]
        rfl
      · cases h
end
end Go.Proofs.YthomeplakcbfoaaGreatDoor
namespace Go.Proofs.YthomeplakcbfoaaGreatDoor
section

/-- A string that is empty or begins with a blank or the end of a line. -/
def Sep (y : Bs) : Prop := ∀ c, y.head? = some c → c = 10 ∨ c = 32
theorem Sep.not {y : Bs} (h : Sep y) (p : UInt8 → Bool) (h1 : p 10 = false) (h2 : p 32 = false) : headNot p y := by
  intro c hc
  rcases h c hc with rfl | rfl
  · exact h1
  · exact h2
theorem Sep.nil : Sep [] := by intro c h; simp at h
theorem Sep.blank (l : Bs) : Sep (32 :: l) := by intro c h; simp at h; exact .inr h.symm
theorem sign_sep (c : UInt8) : signs.contains [c, 10] = false ∧ signs.contains [c, 32] = false := by
  constructor <;> (simp only [signs, List.contains_cons, List.contains_nil, Bool.or_false, Bool.or_eq_false_iff, beq_eq_false_iff_ne, ne_eq, List.cons.injEq, not_and] ; simp)
theorem sign_one (c : UInt8) (y : Bs) (hy : Sep y) (q : signs.contains [c] = true) : signR ((c :: ([] ++ y)).take 2) c = .tok ⟨5, [c], 0⟩ 1 := by
  cases y with
  | nil => show signR [c] c = _; unfold signR; rw [if_pos q]; rfl
  | cons b t =>
    have hb : signs.contains [c, b] = false := by
      rcases hy b rfl with rfl | rfl
      · exact (sign_sep c).1
      · exact (sign_sep c).2
    show signR [c, b] c = _
    unfold signR
    rw [if_neg (by rw [hb]; simp), if_pos q]
theorem take_app {l y : Bs} {k : Nat} (h : k ≤ l.length) : (l ++ y).take k = l.take k := List.take_append_of_le_length h
theorem tokR_app (y : Bs) (hy : Sep y) (l : Bs) (x : Tk) (len : Nat) (h : tokR l = .tok x len) : tokR (l ++ y) = .tok x len := by
  cases l with
  | nil => simp [tokR] at h
  | cons c r =>
    have e1 : many namedB (c :: (r ++ y)) = many namedB (c :: r) := many_app namedB (c :: r) y (hy.not _ (by decide) (by decide))
    have e2 : many digitB (c :: (r ++ y)) = many digitB (c :: r) := many_app digitB (c :: r) y (hy.not _ (by decide) (by decide))
    have t1 : ∀ k, k ≤ (c :: r).length → (c :: (r ++ y)).take k = (c :: r).take k := fun k hk => take_app (l := c :: r) hk
    rw [List.cons_append]
    simp only [tokR] at h ⊢
    split at h
    · rename_i h1
      rw [if_pos h1, e1, t1 _ (many_le _ _)]
      split at h
      · cases h
      · rename_i h2
        rw [if_neg h2]
        exact h
    · rename_i h1
      rw [if_neg h1]
      split at h
      · rename_i h2
        rw [if_pos h2, e2, t1 _ (many_le _ _)]
        split at h
        · cases h
        · rename_i h3
          rw [if_neg h3]
          exact h
      · rename_i h2
        rw [if_neg h2]
        split at h
        · rename_i h3
          rw [if_pos h3]
          cases ht : textL r with
          | none => rw [ht] at h; cases h
          | some q =>
            rw [ht] at h
            rw [textL_app y (hy.not _ (by decide) (by decide)) r.length r q (Nat.le_refl _) ht]
            exact h
        · rename_i h3
          rw [if_neg h3]
          cases r with
          | cons d r => exact h
          | nil =>
            have hs : signs.contains [c] = true ∧ x = ⟨5, [c], 0⟩ ∧ len = 1 := by
              by_cases q : signs.contains [c] = true
              · have e : signR ([c].take 2) c = .tok ⟨5, [c], 0⟩ 1 := by show signR [c] c = _; unfold signR; rw [if_pos q]; rfl
                rw [e] at h
                injection h with a b
                exact ⟨q, a.symm, b.symm⟩
              · have e : signR ([c].take 2) c = .bad 10 [c] := by show signR [c] c = _; unfold signR; rw [if_neg q, if_neg q]
                rw [e] at h
                cases h
            obtain ⟨q, rfl, rfl⟩ := hs
            exact sign_one c y hy q
theorem valD_app (b a : Bs) (n : Nat) : valD n (a ++ b) = valD (valD n a) b := List.foldl_append
theorem valD_one (n : Nat) (c : UInt8) : valD n [c] = 10 * n + (c.toNat - 48) := rfl
theorem dig_byte (d : Nat) (h : d < 10) : (UInt8.ofNat (48 + d)).toNat = 48 + d := by
  rw [UInt8.toNat_ofNat']; omega
theorem dec_digits (u : Nat) : (Lib.decDigits u).all digitB = true ∧ valD 0 (Lib.decDigits u) = u ∧ 1 ≤ (Lib.decDigits u).length := by
  induction u using Nat.strongRecOn with
  | _ u ih =>
    rw [Lib.decDigits]
    by_cases h : u < 10
    · rw [dif_pos h]
      refine ⟨?_, ?_, by simp⟩
      · simp only [List.all_cons, List.all_nil, Bool.and_true, digitB, dig_byte u h, Bool.and_eq_true, decide_eq_true_eq]; omega
      · rw [valD_one, dig_byte u h]; omega
    · rw [dif_neg h]
      obtain ⟨h1, h2, h3⟩ := ih (u / 10) (by omega)
      refine ⟨?_, ?_, by simp⟩
      · rw [List.all_append, h1]
        simp only [Bool.true_and, List.all_cons, List.all_nil, Bool.and_true, digitB, dig_byte (u % 10) (by omega), Bool.and_eq_true, decide_eq_true_eq]; omega
      · rw [valD_app, h2, valD_one, dig_byte (u % 10) (by omega)]; omega
theorem head_all {p : UInt8 → Bool} {l : Bs} (h : l.all p = true) (hl : 1 ≤ l.length) : ∃ c r, l = c :: r ∧ p c = true := by
  cases l with
  | nil => simp at hl
  | cons c r => simp only [List.all_cons, Bool.and_eq_true] at h; exact ⟨c, r, rfl, h.1⟩
theorem textL_writ (y : Bs) (hy : Sep y) : ∀ (t : Bs), (t.all fun c => decide (32 ≤ c.toNat) && decide (c.toNat ≤ 126)) = true →
    textL (t.flatMap (fun c => if (c == 39) = true then [39, 39] else [c]) ++ 39 :: y) = some (t, (t.flatMap (fun c => if (c == 39) = true then [39, 39] else [c])).length + 1)
  | [], _ => by
    cases y with
    | nil => rfl
    | cons d r =>
      have hd : ((d == 39) = true) = False := by
        rcases hy d rfl with rfl | rfl <;> simp
      simp [textL, hd]
  | c :: t, h => by
    simp only [List.all_cons, Bool.and_eq_true] at h
    have ih := textL_writ y hy t h.2
    by_cases hc : (c == 39) = true
    · have e : c = 39 := by simpa using hc
      simp only [List.flatMap_cons, List.cons_append, List.nil_append, textL, beq_self_eq_true, if_true, ih, Option.map_some, List.length_cons, e]
    · have hq : quotB c = true := by
        simp only [quotB, Bool.and_eq_true, decide_eq_true_eq, bne_iff_ne]
        simp only [decide_eq_true_eq] at h
        exact ⟨h.1, by simpa using hc⟩
      simp only [List.flatMap_cons, if_neg hc, List.cons_append, List.nil_append]
      generalize ht : t.flatMap (fun c => if (c == 39) = true then [39, 39] else [c]) ++ 39 :: y = z at *
      cases z with
      | nil => simp at ht
      | cons d z => simp only [textL, if_neg hc, if_pos hq, ih, Option.map_some, List.length_cons]
theorem named_small (c : UInt8) (h : smallB c = true) : namedB c = true := by simp [namedB, h]
theorem digit_not (c : UInt8) (h : digitB c = true) : smallB c = false ∧ (c == 39) = false ∧ blankB c = false ∧ (c == 45) = false := by
  simp only [digitB, Bool.and_eq_true, decide_eq_true_eq] at h
  have ne : ∀ d : UInt8, d.toNat < 48 → (c == d) = false := by
    intro d hd
    rw [beq_eq_false_iff_ne]
    intro e
    rw [e] at h
    omega
  refine ⟨?_, ne _ (by decide), ?_, ne _ (by decide)⟩
  · simp only [smallB, Bool.and_eq_false_iff, decide_eq_false_iff_not]; omega
  · simp only [blankB, ne 32 (by decide), ne 9 (by decide), ne 10 (by decide), ne 13 (by decide), Bool.or_self]
theorem small_not (c : UInt8) (h : smallB c = true) : blankB c = false ∧ (c == 45) = false := by
  simp only [smallB, Bool.and_eq_true, decide_eq_true_eq] at h
  have ne : ∀ d : UInt8, d.toNat < 97 → (c == d) = false := by
    intro d hd
    rw [beq_eq_false_iff_ne]
    intro e
    rw [e] at h
    omega
  exact ⟨by simp only [blankB, ne 32 (by decide), ne 9 (by decide), ne 10 (by decide), ne 13 (by decide), Bool.or_self], ne _ (by decide)⟩
theorem words_short : ∀ w ∈ words, w.length ≤ 30 := by
  have h : (words.all fun w => decide (w.length ≤ 30)) = true := by decide +kernel
  exact fun w hw => by simpa using List.all_eq_true.1 h w hw
theorem sign_cases : ∀ t ∈ signs, (∃ c, t = [c] ∧ smallB c = false ∧ digitB c = false ∧ (c == 39) = false ∧ blankB c = false) ∨ (∃ c d, t = [c, d] ∧ smallB c = false ∧ digitB c = false ∧ (c == 39) = false ∧ blankB c = false ∧ (c == 45 && d == 45) = false) := by
  have h : (signs.all fun t => match t with | [c] => !smallB c && !digitB c && !(c == 39) && !blankB c | [c, d] => !smallB c && !digitB c && !(c == 39) && !blankB c && !(c == 45 && d == 45) | _ => false) = true := by decide +kernel
  intro t ht
  have := List.all_eq_true.1 h t ht
  match t, this with
  | [c], q => simp only [Bool.and_eq_true, Bool.not_eq_true'] at q; exact .inl ⟨c, rfl, q.1.1.1, q.1.1.2, q.1.2, q.2⟩
  | [c, d], q => simp only [Bool.and_eq_true, Bool.not_eq_true'] at q; exact .inr ⟨c, d, rfl, q.1.1.1.1, q.1.1.1.2, q.1.1.2, q.1.2, q.2⟩
/-- Of names and words. -/
theorem tokR_name (t y : Bs) (hy : Sep y) (h : shapedB t = true) (hl : t.length ≤ 30) : tokR (t ++ y) = .tok ⟨if words.contains t = true then 2 else 1, t, 0⟩ t.length ∧ skipL false (t ++ y) = 0 := by
  cases t with
  | nil => simp [shapedB] at h
  | cons c r =>
    simp only [shapedB, Bool.and_eq_true] at h
    have e1 : many namedB (c :: (r ++ y)) = (c :: r).length := many_all namedB (c :: r) y h.2 (hy.not _ (by decide) (by decide))
    have e2 : (c :: (r ++ y)).take (c :: r).length = c :: r := by rw [← List.cons_append, take_app (Nat.le_refl _), List.take_length]
    have hb := small_not c h.1
    refine ⟨?_, ?_⟩
    · simp only [List.cons_append, tokR]
      rw [if_pos h.1, e1, e2, if_neg (by omega)]
    · simp only [List.cons_append, skipL, hb.1, hb.2, Bool.false_and, Bool.false_eq_true, if_false]
theorem tokR_writ (x : Tk) (y : Bs) (hy : Sep y) (h : okT x = true) : tokR (writ x ++ y) = .tok x (writ x).length ∧ skipL false (writ x ++ y) = 0 ∧ writ x ≠ [] := by
  obtain ⟨k, t, n⟩ := x
  simp only [okT, Bool.or_eq_true, Bool.and_eq_true, beq_iff_eq, decide_eq_true_eq] at h
  rcases h with (((⟨⟨rfl, rfl⟩, h⟩ | ⟨⟨rfl, rfl⟩, h⟩) | ⟨⟨⟨rfl, h⟩, h0⟩, h1⟩) | ⟨⟨rfl, rfl⟩, h⟩) | ⟨⟨rfl, rfl⟩, h⟩
  · have e : writ ⟨1, t, 0⟩ = t := by simp [writ]
    rw [e]
    simp only [isNameB, Bool.and_eq_true, decide_eq_true_eq, Bool.not_eq_true'] at h
    have := tokR_name t y hy h.1.1 h.1.2
    rw [h.2] at this
    refine ⟨this.1, this.2, ?_⟩
    rintro rfl
    simp [shapedB] at h
  · have e : writ ⟨2, t, 0⟩ = t := by simp [writ]
    rw [e]
    have hm : t ∈ words := by simpa using h
    have hs := words_small t hm
    have hne := words_ne t hm
    have hsh : shapedB t = true := by
      cases t with
      | nil => exact absurd rfl hne
      | cons c r =>
        simp only [shapedB, Bool.and_eq_true]
        refine ⟨List.all_eq_true.1 hs c (by simp), ?_⟩
        rw [List.all_eq_true] at hs ⊢
        exact fun b hb => named_small b (hs b hb)
    have := tokR_name t y hy hsh (words_short t hm)
    rw [h] at this
    exact ⟨this.1, this.2, hne⟩
  · obtain ⟨u, rfl⟩ := Int.eq_ofNat_of_zero_le h0
    have ht : t = [] := by simpa using h
    subst ht
    have e : writ ⟨3, [], (u : Int)⟩ = Lib.decDigits u := by
      have : ¬ ((u : Int) < 0) := by omega
      simp [writ, Lib.itoa, this]
    rw [e]
    obtain ⟨d1, d2, d3⟩ := dec_digits u
    obtain ⟨c, r, hc, hd⟩ := head_all d1 d3
    rw [hc] at d1 d2 ⊢
    obtain ⟨n1, n2, n3, n4⟩ := digit_not c hd
    have e1 : many digitB (c :: (r ++ y)) = (c :: r).length := many_all digitB (c :: r) y d1 (hy.not _ (by decide) (by decide))
    have e2 : (c :: (r ++ y)).take (c :: r).length = c :: r := by rw [← List.cons_append, take_app (Nat.le_refl _), List.take_length]
    refine ⟨?_, ?_, by simp⟩
    · simp only [List.cons_append, tokR, n1, Bool.false_eq_true, if_false]
      rw [if_pos hd, e1, e2, d2, if_neg (by omega)]
    · simp only [List.cons_append, skipL, n3, n4, Bool.false_and, Bool.false_eq_true, if_false]
  · have e : writ ⟨4, t, 0⟩ = quoB t := by simp [writ]
    rw [e]
    simp only [okTxt, Bool.and_eq_true, decide_eq_true_eq] at h
    have ht := textL_writ y hy t h.2
    refine ⟨?_, ?_, by simp [quoB]⟩
    · have s1 : smallB 39 = false := by decide
      have s2 : digitB 39 = false := by decide
      simp only [quoB, List.cons_append, List.append_assoc, List.nil_append, tokR, s1, s2, Bool.false_eq_true, if_false, beq_self_eq_true, if_true, ht]
      rw [if_neg (by omega)]
      simp
    · have s1 : blankB 39 = false := by decide
      have s2 : ((39 : UInt8) == 45) = false := by decide
      simp only [quoB, List.cons_append, skipL, s1, s2, Bool.false_and, Bool.false_eq_true, if_false]
  · have e : writ ⟨5, t, 0⟩ = t := by simp [writ]
    rw [e]
    rcases sign_cases t (by simpa using h) with ⟨c, rfl, n1, n2, n3, n4⟩ | ⟨c, d, rfl, n1, n2, n3, n4, n5⟩
    · refine ⟨?_, ?_, by simp⟩
      · simp only [List.cons_append, List.nil_append, tokR, n1, n2, n3, Bool.false_eq_true, if_false]
        exact sign_one c y hy h
      · simp only [List.cons_append, List.nil_append, skipL, n4, Bool.false_eq_true, if_false]
        rw [if_neg]
        intro q
        simp only [Bool.and_eq_true, beq_iff_eq] at q
        rcases hy _ q.2 with r | r <;> simp at r
    · refine ⟨?_, ?_, by simp⟩
      · simp only [List.cons_append, List.nil_append, tokR, n1, n2, n3, Bool.false_eq_true, if_false]
        show signR [c, d] c = _
        unfold signR
        rw [if_pos h]
      · have q : (c == 45 && some d == some (45 : UInt8)) = false := by rw [← n5]; rfl
        simp only [List.cons_append, List.nil_append, skipL, n4, Bool.false_eq_true, if_false, List.head?_cons, q]
end
end Go.Proofs.YthomeplakcbfoaaGreatDoor
namespace Go.Proofs.YthomeplakcbfoaaGreatDoor
section

theorem named_ten : namedB 10 = false := by decide
theorem mem_takeWhile {p : UInt8 → Bool} {l : Bs} {c : UInt8} (h : c ∈ l.takeWhile p) : p c = true := by
  induction l with
  | nil => simp at h
  | cons d r ih =>
    rw [List.takeWhile_cons] at h
    split at h
    · rename_i hd
      rcases List.mem_cons.1 h with rfl | h
      · exact hd
      · exact ih h
    · simp at h
theorem textL_ok : ∀ (n : Nat) (l : Bs) (q : Bs × Nat), l.length ≤ n → textL l = some q →
    (q.1.all fun c => decide (32 ≤ c.toNat) && decide (c.toNat ≤ 126)) = true ∧ 1 ≤ q.2 ∧ q.2 ≤ l.length ∧ (10 : UInt8) ∉ l.take q.2
  | _, [], q, _, h => by simp [textL] at h
  | 0, _ :: _, _, hn, _ => by simp at hn
  | n + 1, [c], q, _, h => by
    simp only [textL] at h
    split at h
    · rename_i hc
      have e : c = 39 := by simpa using hc
      cases h
      subst e
      refine ⟨rfl, by simp, by simp, by decide⟩
    · cases h
  | n + 1, c :: d :: r, q, hn, h => by
    simp only [List.length_cons] at hn
    simp only [textL] at h
    split at h
    · rename_i hc
      have e : c = 39 := by simpa using hc
      subst e
      split at h
      · rename_i hd
        have e : d = 39 := by simpa using hd
        subst e
        simp only [Option.map_eq_some_iff] at h
        obtain ⟨a, ha, rfl⟩ := h
        obtain ⟨h1, h2, h3, h4⟩ := textL_ok n r a (by omega) ha
        refine ⟨by rw [List.all_cons, h1]; decide, by omega, by simp; omega, ?_⟩
        intro hm
        rw [show a.2 + 2 = (a.2 + 1) + 1 from rfl, List.take_succ_cons, List.take_succ_cons] at hm
        rcases List.mem_cons.1 hm with e | hm
        · simp at e
        rcases List.mem_cons.1 hm with e | hm
        · simp at e
        exact h4 hm
      · cases h
        refine ⟨rfl, by simp, by simp, ?_⟩
        show (10 : UInt8) ∉ [39]
        decide
    · split at h
      · rename_i hq
        simp only [Option.map_eq_some_iff] at h
        obtain ⟨a, ha, rfl⟩ := h
        obtain ⟨h1, h2, h3, h4⟩ := textL_ok n (d :: r) a (by simp; omega) ha
        simp only [quotB, Bool.and_eq_true, decide_eq_true_eq] at hq
        refine ⟨by rw [List.all_cons, h1]; simp [hq.1.1, hq.1.2], by omega, by simp at h3 ⊢; omega, ?_⟩
        intro hm
        rw [List.take_succ_cons] at hm
        rcases List.mem_cons.1 hm with e | hm
        · rw [← e] at hq; simp at hq
        exact h4 hm
      · cases h
theorem sign_ten (t : Bs) (h : signs.contains t = true) : (10 : UInt8) ∉ t ∧ 1 ≤ t.length := by
  have hq : (signs.all fun t => !t.contains 10 && decide (1 ≤ t.length)) = true := by decide +kernel
  have := List.all_eq_true.1 hq t (by simpa using h)
  simpa using this
theorem all_named {c : UInt8} {r : Bs} (h : smallB c = true) : shapedB ((c :: r).take (many namedB (c :: r))) = true := by
  have e : (c :: r).take (many namedB (c :: r)) = (c :: r).takeWhile namedB := many_take _ _
  rw [e, List.takeWhile_cons, if_pos (named_small c h)]
  simp only [shapedB, h, Bool.true_and, List.all_cons, named_small c h]
  rw [List.all_eq_true]
  exact fun b hb => mem_takeWhile hb
theorem many_pos {p : UInt8 → Bool} {c : UInt8} {r : Bs} (h : p c = true) : 1 ≤ many p (c :: r) := by
  unfold many; rw [List.takeWhile_cons, if_pos h]; simp
theorem tokR_ok (l : Bs) (x : Tk) (len : Nat) (h : tokR l = .tok x len) : okT x = true ∧ 1 ≤ len ∧ len ≤ l.length ∧ (10 : UInt8) ∉ l.take len := by
  cases l with
  | nil => simp [tokR] at h
  | cons c r =>
    simp only [tokR] at h
    split at h
    · rename_i h1
      split at h
      · cases h
      · rename_i h2
        injection h with a b
        subst a b
        refine ⟨?_, many_pos (named_small c h1), many_le _ _, ?_⟩
        · have hs := all_named (r := r) h1
          have hl : ((c :: r).take (many namedB (c :: r))).length ≤ 30 := by rw [List.length_take]; omega
          generalize (c :: r).take (many namedB (c :: r)) = t at *
          cases hw : words.contains t
          · simp only [okT, isNameB, hs, hw, Bool.false_eq_true, if_false]
            simp [hl]
          · simp only [okT, hw, if_true]
            simp
        · intro hm
          rw [many_take] at hm
          have := mem_takeWhile hm
          rw [named_ten] at this
          cases this
    · split at h
      · rename_i h1 h2
        split at h
        · cases h
        · rename_i h3
          injection h with a b
          subst a b
          refine ⟨?_, many_pos h2, many_le _ _, ?_⟩
          · generalize valD 0 ((c :: r).take (many digitB (c :: r))) = v at *
            have : (v : Int) ≤ 1099511627776 := by omega
            simp [okT, this]
          · intro hm
            rw [many_take] at hm
            have := mem_takeWhile hm
            exact absurd this (by decide)
      · split at h
        · rename_i h1 h2 h3
          cases ht : textL r with
          | none => rw [ht] at h; cases h
          | some q =>
            rw [ht] at h
            simp only at h
            split at h
            · cases h
            · rename_i h4
              injection h with a b
              subst a b
              obtain ⟨t1, t2, t3, t4⟩ := textL_ok r.length r q (Nat.le_refl _) ht
              refine ⟨?_, by omega, by simp; omega, ?_⟩
              · have : q.1.length ≤ 200 := by omega
                simp only [okT, okTxt, t1, Bool.and_true]
                simp [this]
              · intro hm
                rw [List.take_succ_cons] at hm
                rcases List.mem_cons.1 hm with e | hm
                · rw [← e] at h3; simp at h3
                · exact t4 hm
        · unfold signR at h
          split at h
          · rename_i h4
            injection h with a b
            subst a b
            have := sign_ten _ h4
            refine ⟨by simp only [okT, h4]; simp, this.2, by rw [List.length_take]; omega, ?_⟩
            intro hm
            have e : (c :: r).take ((c :: r).take 2).length = (c :: r).take 2 := by rw [List.length_take, List.take_eq_take_iff]; omega
            rw [e] at hm
            exact this.1 hm
          · split at h
            · rename_i h4 h5
              injection h with a b
              subst a b
              have := sign_ten _ h5
              refine ⟨by simp only [okT, h5]; simp, Nat.le_refl _, by simp, ?_⟩
              exact this.1
            · cases h

theorem drop_skip_lt {l : Bs} (h : ¬ (l.drop (skipL false l)).isEmpty = true) : skipL false l < l.length := by
  have := skip_le false l
  rcases Nat.lt_or_ge (skipL false l) l.length with q | q
  · exact q
  · exfalso; apply h; rw [List.drop_of_length_le q]; rfl
theorem lexC_fuel : ∀ (f : Nat) (l : Bs) (i k : Nat), l.length < f → lexC (f + 1) l i k = lexC f l i k
  | 0, _, _, _, h => by omega
  | f + 1, l, i, k, h => by
    rw [lexC, lexC]
    by_cases h1 : (l.drop (skipL false l)).isEmpty = true
    · rw [if_pos h1, if_pos h1]
    · rw [if_neg h1, if_neg h1]
      cases ht : tokR (l.drop (skipL false l)) with
      | bad c nm => rfl
      | tok x len =>
        obtain ⟨_, t2, t3, _⟩ := tokR_ok _ _ _ ht
        simp only
        rw [lexC_fuel f _ _ _ (by rw [List.length_drop, List.length_drop] at *; omega)]
theorem lexC_fuels (l : Bs) (i k : Nat) : ∀ (f : Nat), l.length < f → lexC f l i k = lexC (l.length + 1) l i k := by
  intro f hf
  obtain ⟨d, rfl⟩ : ∃ d, f = l.length + 1 + d := ⟨f - (l.length + 1), by omega⟩
  clear hf
  induction d with
  | zero => rfl
  | succ d ih => rw [← ih]; exact lexC_fuel (l.length + 1 + d) _ _ _ (by omega)
theorem lexC_okT : ∀ (f : Nat) (l : Bs) (i k : Nat), ∀ p ∈ (lexC f l i k).1, okT p.1 = true
  | 0, _, _, _ => by intro p hp; simp [lexC] at hp
  | f + 1, l, i, k => by
    intro p hp
    rw [lexC] at hp
    split at hp
    · simp at hp
    · cases ht : tokR (l.drop (skipL false l)) with
      | bad c nm => rw [ht] at hp; simp at hp
      | tok x len =>
        rw [ht] at hp
        simp only at hp
        split at hp
        · simp at hp
        · have ih := lexC_okT f ((l.drop (skipL false l)).drop len) (i + skipL false l + len) (k + 1)
          cases hr : lexC f ((l.drop (skipL false l)).drop len) (i + skipL false l + len) (k + 1) with
          | mk a b =>
            rw [hr] at hp ih
            cases b with
            | some e => simp at hp
            | none =>
              rcases List.mem_cons.1 hp with rfl | hp
              · exact (tokR_ok _ _ _ ht).1
              · exact ih p hp
theorem lexC_count : ∀ (f : Nat) (l : Bs) (i k : Nat), k ≤ 4000 → (lexC f l i k).1.length + k ≤ 4000
  | 0, _, _, k => by intro h; simpa [lexC] using h
  | f + 1, l, i, k => by
    intro h
    rw [lexC]
    split
    · simpa using h
    · cases ht : tokR (l.drop (skipL false l)) with
      | bad c nm => simpa using h
      | tok x len =>
        simp only
        split
        · simpa using h
        · rename_i hk
          have hk' : k ≠ 4000 := by simpa using hk
          have ih := lexC_count f ((l.drop (skipL false l)).drop len) (i + skipL false l + len) (k + 1) (by omega)
          cases hr : lexC f ((l.drop (skipL false l)).drop len) (i + skipL false l + len) (k + 1) with
          | mk a b =>
            rw [hr] at ih
            cases b with
            | some e => simpa using h
            | none => simp at ih ⊢; omega
/-- The string of tokens has just these. -/
theorem lexC_join : ∀ (xs : List Tk) (f i k : Nat), (∀ x ∈ xs, okT x = true) → xs.length + k ≤ 4000 → (joinW xs).length < f → ∀ (b : Bs), (b = [] ∨ b = [32]) → b.length + (joinW xs).length < f →
    ∃ r, lexC f (b ++ joinW xs) i k = (r, none) ∧ r.map (·.1) = xs
  | [], f, i, k, _, _, h, b, hb, _ => by
    obtain ⟨g, rfl⟩ : ∃ g, f = g + 1 := ⟨f - 1, by omega⟩
    refine ⟨[], ?_, rfl⟩
    rcases hb with rfl | rfl
    · rfl
    · rw [lexC, if_pos (by decide)]
  | x :: xs, f, i, k, hx, hk, hf, b, hb, hbf => by
    obtain ⟨g, rfl⟩ : ∃ g, f = g + 1 := ⟨f - 1, by omega⟩
    have e : ∃ y, joinW (x :: xs) = writ x ++ y ∧ Sep y ∧ ((y = [] ∧ xs = []) ∨ y = 32 :: joinW xs) := by
      cases xs with
      | nil => exact ⟨[], by simp [joinW], Sep.nil, .inl ⟨rfl, rfl⟩⟩
      | cons z zs => exact ⟨32 :: joinW (z :: zs), rfl, Sep.blank _, .inr rfl⟩
    obtain ⟨y, ey, hs, hy⟩ := e
    obtain ⟨t1, t2, t3⟩ := tokR_writ x y hs (hx x (by simp))
    have hsk : skipL false (b ++ joinW (x :: xs)) = b.length := by
      rw [ey]
      rcases hb with rfl | rfl
      · simpa using t2
      · show skipL false (32 :: (writ x ++ y)) = 1
        simp only [skipL]
        rw [if_pos (by decide), t2]
    have hd : (b ++ joinW (x :: xs)).drop b.length = writ x ++ y := by rw [List.drop_left, ey]
    rw [lexC, hsk, hd]
    have hne : ¬ (writ x ++ y).isEmpty = true := by simp [t3]
    rw [if_neg hne, t1]
    simp only
    rw [if_neg (by simp at hk ⊢; omega), List.drop_left]
    have hlen : (joinW (x :: xs)).length = (writ x).length + y.length := by rw [ey, List.length_append]
    have hw : 1 ≤ (writ x).length := by
      cases hq : writ x with
      | nil => exact absurd hq t3
      | cons _ _ => simp
    rcases hy with ⟨rfl, rfl⟩ | rfl
    · obtain ⟨g', rfl⟩ : ∃ g', g = g' + 1 := ⟨g - 1, by simp at hlen; omega⟩
      exact ⟨_, rfl, rfl⟩
    · obtain ⟨r, hr, hm⟩ := lexC_join xs g (i + b.length + (writ x).length) (k + 1) (fun z hz => hx z (by simp [hz])) (by simp at hk; omega) (by simp at hlen; omega) [32] (.inr rfl) (by simp at hlen ⊢; omega)
      rw [List.cons_append, List.nil_append] at hr
      rw [hr]
      exact ⟨_, rfl, by simp [hm]⟩
/-- A string without faults behind another one: its tokens come behind those of the other one. -/
theorem skip_drop (l : Bs) (x : Bs) : (l ++ x).drop (l.length + (skipL false x)) = x.drop (skipL false x) := by rw [List.drop_append]; simp
theorem lexC_parts (g t : Bs) (hg : Sep (g ++ t)) (hgs : ∀ b, skipL b (g ++ t) = g.length + skipL false t) :
    ∀ (f : Nat) (l : Bs) (i k : Nat) (A B : List (Tk × Nat)), l.length < f → lexC f l i k = (A, none) → (∀ f' i' k', t.length < f' → k' + B.length ≤ 4000 → ∃ r, lexC f' t i' k' = (r, none) ∧ r.map (·.1) = B.map (·.1)) →
    ∀ (f' i' k' : Nat), (l ++ (g ++ t)).length < f' → k' + A.length + B.length ≤ 4000 → ∃ r, lexC f' (l ++ (g ++ t)) i' k' = (r, none) ∧ r.map (·.1) = A.map (·.1) ++ B.map (·.1)
  | 0, l, i, k, A, B, hf, hA, hB, f', i', k', hf', hk => by omega
  | f + 1, l, i, k, A, B, hf, hA, hB, f', i', k', hf', hk => by
    have h45 : (g ++ t).head? ≠ some 45 := by
      intro e
      rcases hg 45 e with h | h <;> simp at h
    obtain ⟨f2, rfl⟩ : ∃ f2, f' = f2 + 1 := ⟨f' - 1, by omega⟩
    rw [lexC] at hA
    by_cases h1 : (l.drop (skipL false l)).isEmpty = true
    · rw [if_pos h1] at hA
      cases hA
      have hs : ¬ skipL false l < l.length := by
        intro q
        rw [List.isEmpty_iff] at h1
        have := congrArg List.length h1
        rw [List.length_drop] at this
        simp at this
        omega
      have hsk := skip_app (g ++ t) h45 false l
      rw [if_neg hs, hgs] at hsk
      obtain ⟨r, hr, hm⟩ := hB (f2 + 1) (i' + (l.length + g.length)) k' (by simp at hf'; omega) (by simp at hk; omega)
      refine ⟨r, ?_, by simpa using hm⟩
      rw [← hr, lexC, lexC, hsk]
      have hd : (l ++ (g ++ t)).drop (l.length + (g.length + skipL false t)) = t.drop (skipL false t) := by
        rw [← List.append_assoc, ← Nat.add_assoc, ← List.length_append, skip_drop]
      have hi : i' + (l.length + (g.length + skipL false t)) = i' + (l.length + g.length) + skipL false t := by omega
      rw [hd, hi]
    · rw [if_neg h1] at hA
      have hlt := drop_skip_lt h1
      have hsk := skip_app (g ++ t) h45 false l
      rw [if_pos hlt] at hsk
      cases ht : tokR (l.drop (skipL false l)) with
      | bad c nm => rw [ht] at hA; cases hA
      | tok x len =>
        obtain ⟨_, t2, t3, _⟩ := tokR_ok _ _ _ ht
        rw [ht] at hA
        simp only at hA
        split at hA
        · cases hA
        · cases hr : lexC f ((l.drop (skipL false l)).drop len) (i + skipL false l + len) (k + 1) with
          | mk a b =>
            rw [hr] at hA
            cases b with
            | some e => cases hA
            | none =>
              cases hA
              have hdr : (l ++ (g ++ t)).drop (skipL false l) = l.drop (skipL false l) ++ (g ++ t) := List.drop_append_of_le_length (by omega)
              have ht' := tokR_app (g ++ t) hg _ _ _ ht
              have hdr2 : (l.drop (skipL false l) ++ (g ++ t)).drop len = (l.drop (skipL false l)).drop len ++ (g ++ t) := List.drop_append_of_le_length t3
              rw [List.length_drop] at t3
              obtain ⟨r, hr2, hm⟩ := lexC_parts g t hg hgs f ((l.drop (skipL false l)).drop len) _ _ a B (by rw [List.length_drop, List.length_drop]; omega) hr hB f2 (i' + skipL false l + len) (k' + 1)
                (by simp only [List.length_append, List.length_drop] at hf' ⊢; omega) (by simp at hk; omega)
              refine ⟨(x, i' + skipL false l) :: r, ?_, ?_⟩
              · rw [lexC, hsk, hdr, ht']
                have hne : ¬ (l.drop (skipL false l) ++ (g ++ t)).isEmpty = true := by
                  intro q
                  apply h1
                  simp only [List.isEmpty_iff, List.append_eq_nil_iff] at q ⊢
                  exact q.1
                rw [if_neg hne]
                simp only
                rw [if_neg (by simp at hk ⊢; omega), hdr2, hr2]
              · simp [hm]
def lexS (s : Bs) : List (Tk × Nat) × Option (Int × Bs × Nat) := lexC (s.length + 1) s 0 0
/-- Tokens do not hang on how many there are before, nor on the place, as long as they are not too many. -/
theorem lexC_shift : ∀ (f : Nat) (l : Bs) (i k : Nat) (A : List (Tk × Nat)), lexC f l i k = (A, none) → ∀ (i' k' : Nat), k' + A.length ≤ 4000 → ∃ r, lexC f l i' k' = (r, none) ∧ r.map (·.1) = A.map (·.1)
  | 0, l, i, k, A, h, i', k', _ => by cases h; exact ⟨[], rfl, rfl⟩
  | f + 1, l, i, k, A, h, i', k', hk => by
    rw [lexC] at h ⊢
    split at h
    · rename_i h1
      cases h
      rw [if_pos h1]
      exact ⟨[], rfl, rfl⟩
    · rename_i h1
      rw [if_neg h1]
      cases ht : tokR (l.drop (skipL false l)) with
      | bad c nm => rw [ht] at h; cases h
      | tok x len =>
        rw [ht] at h
        simp only at h ⊢
        split at h
        · cases h
        · cases hr : lexC f ((l.drop (skipL false l)).drop len) (i + skipL false l + len) (k + 1) with
          | mk a b =>
            rw [hr] at h
            cases b with
            | some e => cases h
            | none =>
              cases h
              obtain ⟨r, hr2, hm⟩ := lexC_shift f _ _ _ a hr (i' + skipL false l + len) (k' + 1) (by simp at hk; omega)
              rw [if_neg (by simp at hk ⊢; omega), hr2]
              exact ⟨_, rfl, by simp [hm]⟩
theorem lexS_parts (s g t : Bs) (hg : Sep (g ++ t)) (hgs : ∀ b, skipL b (g ++ t) = g.length + skipL false t) (A B : List (Tk × Nat)) (hA : lexS s = (A, none)) (hB : lexS t = (B, none)) (hk : A.length + B.length ≤ 4000) :
    ∃ r, lexS (s ++ (g ++ t)) = (r, none) ∧ r.map (·.1) = A.map (·.1) ++ B.map (·.1) := by
  refine lexC_parts g t hg hgs (s.length + 1) s 0 0 A B (by omega) hA (fun f' i' k' hf hk => ?_) _ 0 0 (by omega) (by omega)
  rw [lexC_fuels t i' k' f' hf]
  exact lexC_shift _ _ _ _ _ hB i' k' hk
theorem lexS_join (xs : List Tk) (h : ∀ x ∈ xs, okT x = true) (hk : xs.length ≤ 4000) : ∃ r, lexS (joinW xs) = (r, none) ∧ r.map (·.1) = xs :=
  lexC_join xs _ 0 0 h (by omega) (by omega) [] (.inl rfl) (by simp)
end
end Go.Proofs.YthomeplakcbfoaaGreatDoor
namespace Go.Proofs.YthomeplakcbfoaaGreatDoor
section

theorem fold_no (b : Bs) (h : (10 : UInt8) ∉ b) (p : Int × Int) : b.foldl stepP p = (p.1, p.2 + b.length) := by
  induction b generalizing p with
  | nil => simp
  | cons c r ih =>
    have hc : ¬ (c == 10) = true := by intro e; apply h; simp at e; simp [e]
    rw [List.foldl_cons, ih (fun q => h (by simp [q]))]
    unfold stepP
    rw [if_neg hc]
    simp; omega
theorem fold_line (b : Bs) (p : Int × Int) : (b.foldl stepP p).1 = p.1 + (b.count 10 : Nat) := by
  induction b generalizing p with
  | nil => simp
  | cons c r ih =>
    rw [List.foldl_cons, ih]
    unfold stepP
    rw [List.count_cons]
    by_cases hc : (c == 10) = true
    · rw [if_pos hc, if_pos hc]; simp; omega
    · rw [if_neg hc, if_neg hc]; simp
/-- The line, and how many bytes there are before it, are those of place i. -/
def Pos (s : Bs) (i ln st : Nat) : Prop := st ≤ i ∧ i ≤ s.length ∧ 1 ≤ ln ∧ ln ≤ i + 1 ∧ placeP (s.take i) = ((ln : Int), (i : Int) - st + 1)
theorem take_more (s : Bs) (i n : Nat) : s.take (i + n) = s.take i ++ (s.drop i).take n := by rw [List.take_add]
theorem Pos.go {s : Bs} {i ln st : Nat} (h : Pos s i ln st) (n : Nat) (hn : i + n ≤ s.length) (hb : (10 : UInt8) ∉ (s.drop i).take n) : Pos s (i + n) ln st := by
  obtain ⟨h1, h2, h3, h4, h5⟩ := h
  refine ⟨by omega, hn, h3, by omega, ?_⟩
  have e : ((s.drop i).take n).length = n := by rw [List.length_take, List.length_drop]; omega
  rw [take_more, placeP, List.foldl_append, ← placeP, h5, fold_no _ hb, e]
  simp; omega
theorem Pos.start (s : Bs) : Pos s 0 1 0 := ⟨Nat.le_refl _, Nat.zero_le _, Nat.le_refl _, Nat.le_refl _, rfl⟩
theorem split_last (b : Bs) (e : Nat) (he : e < b.length) (h : b[e]? = some 10) : b = b.take e ++ 10 :: b.drop (e + 1) := by
  have h2 := List.getElem?_eq_getElem he
  rw [h] at h2
  have h3 : b.drop e = 10 :: b.drop (e + 1) := by rw [List.drop_eq_getElem_cons he, ← Option.some.inj h2]
  rw [← h3, List.take_append_drop]
theorem Pos.lines {s : Bs} {i ln st : Nat} (h : Pos s i ln st) (n e : Nat) (hn : i + n ≤ s.length) (he : e < n) (h10 : ((s.drop i).take n)[e]? = some 10) (hno : ∀ j, e < j → ((s.drop i).take n)[j]? ≠ some 10) :
    Pos s (i + n) (ln + ((s.drop i).take n).count 10) (i + e + 1) := by
  obtain ⟨h1, h2, h3, h4, h5⟩ := h
  have el : ((s.drop i).take n).length = n := by rw [List.length_take, List.length_drop]; omega
  have hc := List.count_le_length (a := (10 : UInt8)) (l := (s.drop i).take n)
  rw [el] at hc
  refine ⟨by omega, hn, by omega, by omega, ?_⟩
  rw [take_more, placeP, List.foldl_append, ← placeP, h5]
  have hs := split_last ((s.drop i).take n) e (by rw [el]; exact he) h10
  have h10n : (10 : UInt8) ∉ ((s.drop i).take n).drop (e + 1) := by
    intro hm
    obtain ⟨j, hj⟩ := List.mem_iff_getElem?.1 hm
    rw [List.getElem?_drop] at hj
    exact hno _ (by omega) hj
  have hl : (((s.drop i).take n).drop (e + 1)).length = n - (e + 1) := by rw [List.length_drop, el]
  generalize hb : (s.drop i).take n = b at *
  have f1 := fold_line b ((ln : Int), (i : Int) - st + 1)
  have f2 : (b.foldl stepP ((ln : Int), (i : Int) - st + 1)).2 = 1 + ((n - (e + 1) : Nat) : Int) := by
    rw [hs, List.foldl_append, List.foldl_cons, fold_no _ h10n, hl]
    unfold stepP
    rw [if_pos (by rfl)]
  refine Prod.ext ?_ ?_
  · rw [f1]; simp
  · rw [f2]; simp; omega
/-- Where the last of some bytes stands. -/
theorem last_ten (t : ByteArray) : (Lib.lastIndexByte t 10 = -1 ∧ (10 : UInt8) ∉ t.data.toList) ∨ ∃ e : Nat, Lib.lastIndexByte t 10 = e ∧ e < t.size ∧ t.data.toList[e]? = some 10 ∧ ∀ j, e < j → t.data.toList[j]? ≠ some 10 := by
  have hb : ∀ (j : Nat), j < t.size → t.data.toList[j]? = some (t.data[j]!) := by
    intro j hj
    rw [Array.getElem?_toList, Array.getElem?_eq_getElem hj, getElem!_pos t.data j hj]
  have hi : ∀ c : UInt8, ((c.toNat : Int) = 10 ↔ c = 10) := by
    intro c
    constructor
    · intro h; apply UInt8.toNat_inj.1; show c.toNat = 10; omega
    · rintro rfl; rfl
  have hsp := Lib.lastIdx_spec t 10 t.size
  rcases hsp with ⟨h1, h2⟩ | ⟨e, h1, h2, h3, h4⟩
  · refine .inl ⟨h1, ?_⟩
    intro hm
    obtain ⟨j, hj⟩ := List.mem_iff_getElem?.1 hm
    have hlt : j < t.size := by
      rcases Nat.lt_or_ge j t.size with q | q
      · exact q
      · rw [List.getElem?_eq_none (by simpa using q)] at hj; cases hj
    rw [hb j hlt] at hj
    exact h2 j hlt ((hi _).2 (Option.some.inj hj))
  · refine .inr ⟨e, h2, h1, by rw [hb e h1, (hi _).1 h3], ?_⟩
    intro j hj hq
    have hlt : j < t.size := by
      rcases Nat.lt_or_ge j t.size with q | q
      · exact q
      · rw [List.getElem?_eq_none (by simpa using q)] at hq; cases hq
    rw [hb j hlt] at hq
    exact h4 j hj hlt ((hi _).2 (Option.some.inj hq))
/-- Blanks, and comments. -/
theorem skip_false (l : Bs) : skipL false l = many blankB l + (if ([45, 45] : Bs).isPrefixOf (l.drop (many blankB l)) = true then skipL true (l.drop (many blankB l)) else 0) := by
  induction l with
  | nil => rfl
  | cons c r ih =>
    by_cases hb : blankB c = true
    · have e : many blankB (c :: r) = 1 + many blankB r := by unfold many; rw [List.takeWhile_cons, if_pos hb]; simp; omega
      have e2 : (c :: r).drop (1 + many blankB r) = r.drop (many blankB r) := by rw [Nat.add_comm, List.drop_succ_cons]
      simp only [skipL]
      rw [if_pos hb, ih, e, e2]
      omega
    · have e : many blankB (c :: r) = 0 := by unfold many; rw [List.takeWhile_cons, if_neg hb]; rfl
      rw [e, List.drop_zero]
      have hp : (([45, 45] : Bs).isPrefixOf (c :: r) = true) ↔ ((c == 45 && r.head? == some 45) = true) := by
        cases r with
        | nil => simp [List.isPrefixOf]
        | cons d t =>
          have a : ∀ x : UInt8, ((45 : UInt8) == x) = (x == 45) := fun x => by rw [Bool.eq_iff_iff, beq_iff_eq, beq_iff_eq]; exact ⟨fun e => e.symm, fun e => e.symm⟩
          simp [List.isPrefixOf, a]
      by_cases hq : (c == 45 && r.head? == some 45) = true
      · have h45 : ¬ (c == 10) = true := by
          simp only [Bool.and_eq_true, beq_iff_eq] at hq
          rw [hq.1]; decide
        rw [if_pos (hp.2 hq)]
        simp only [skipL]
        rw [if_neg hb, if_pos hq, if_neg h45]
        omega
      · rw [if_neg (fun x => hq (hp.1 x))]
        simp only [skipL]
        rw [if_neg hb, if_neg hq]
theorem skip_true (l : Bs) : skipL true l = many (fun c => c != 10) l + skipL false (l.drop (many (fun c => c != 10) l)) := by
  induction l with
  | nil => rfl
  | cons c r ih =>
    by_cases hc : (c == 10) = true
    · have e : many (fun c => c != 10) (c :: r) = 0 := by
        have hn : ¬ (c != 10) = true := by simp only [bne, hc]; simp
        unfold many; rw [List.takeWhile_cons, if_neg hn]; rfl
      have hb : blankB c = true := by
        have : c = 10 := by simpa using hc
        rw [this]; decide
      rw [e, List.drop_zero]
      simp only [skipL]
      rw [if_pos hc, if_pos hb]
      omega
    · have hn : (c != 10) = true := by simpa using hc
      have e : many (fun c => c != 10) (c :: r) = 1 + many (fun c => c != 10) r := by unfold many; rw [List.takeWhile_cons, if_pos hn]; simp; omega
      have e2 : (c :: r).drop (1 + many (fun c => c != 10) r) = r.drop (many (fun c => c != 10) r) := by rw [Nat.add_comm, List.drop_succ_cons]
      rw [e, e2]
      simp only [skipL]
      rw [if_neg hc, ih]
      omega
theorem many_not10 (l : Bs) : (10 : UInt8) ∉ l.take (many (fun c => c != 10) l) := by
  rw [many_take]
  intro h
  have := mem_takeWhile h
  simp at this
end
end Go.Proofs.YthomeplakcbfoaaGreatDoor
namespace Go.Proofs.YthomeplakcbfoaaGreatDoor
section
open Go.Lib

/-- Each quotation mark twice. -/
def esc (t : Bs) : Bs := t.flatMap fun c => if (c == 39) = true then [39, 39] else [c]
theorem esc_app (a b : Bs) : esc (a ++ b) = esc a ++ esc b := by unfold esc; exact List.flatMap_append
theorem esc_no (u : Bs) (h : (39 : UInt8) ∉ u) : esc u = u := by
  induction u with
  | nil => rfl
  | cons c r ih =>
    have hc : ¬ (c == 39) = true := by intro e; apply h; simp at e; simp [e]
    have e : esc (c :: r) = [c] ++ esc r := by unfold esc; rw [List.flatMap_cons, if_neg hc]
    rw [e, ih (fun q => h (by simp [q]))]
    rfl
theorem esc_one (v : Bs) : esc (39 :: v) = 39 :: 39 :: esc v := by
  unfold esc; rw [List.flatMap_cons, if_pos (by rfl)]; rfl
theorem split_first (b : Bs) (h : (39 : UInt8) ∈ b) : ∃ u v, b = u ++ 39 :: v ∧ (39 : UInt8) ∉ u := by
  induction b with
  | nil => simp at h
  | cons c r ih =>
    by_cases hc : c = 39
    · exact ⟨[], r, by simp [hc], by simp⟩
    · obtain ⟨u, v, e, hu⟩ := ih (by rcases List.mem_cons.1 h with q | q; exact absurd q.symm hc; exact q)
      exact ⟨c :: u, v, by simp [e], by simp [hu, Ne.symm hc]⟩
theorem index_no (p : Bs) (hp : ∃ q, p = 39 :: q) : ∀ (b : Bs), (39 : UInt8) ∉ b → index b p = -1
  | [], _ => by obtain ⟨q, rfl⟩ := hp; rfl
  | c :: r, h => by
    have ih := index_no p hp r (fun q => h (by simp [q]))
    obtain ⟨q, rfl⟩ := hp
    have hc : ((39 : UInt8) == c) = false := by rw [beq_eq_false_iff_ne]; intro e; exact h (by simp [← e])
    rw [index, if_neg (by simp [List.isPrefixOf, hc]), if_pos (by rw [ih]; rfl)]
theorem index_at (p : Bs) (hp : ∃ q, p = 39 :: q) (r : Bs) (hr : p.isPrefixOf r = true) : ∀ (u : Bs), (39 : UInt8) ∉ u → index (u ++ r) p = u.length
  | [], _ => by
    obtain ⟨q, rfl⟩ := hp
    cases r with
    | nil => simp [List.isPrefixOf] at hr
    | cons c t => rw [List.nil_append, index, if_pos hr]; rfl
  | c :: u, h => by
    have ih := index_at p hp r hr u (fun q => h (by simp [q]))
    obtain ⟨q, rfl⟩ := hp
    have hc : ((39 : UInt8) == c) = false := by rw [beq_eq_false_iff_ne]; intro e; exact h (by simp [← e])
    rw [List.cons_append, index, if_neg (by simp [List.isPrefixOf, hc]), ih, if_neg (by simp)]
    simp
/-- One mark for two: what was escaped is given back. -/
theorem half_esc : ∀ (n : Nat) (b : Bs), b.length ≤ n → replaceK [39, 39] [39] (count (esc b) [39, 39]) (esc b) = b
  | n, b, hn => by
    by_cases h : (39 : UInt8) ∈ b
    · obtain ⟨u, v, rfl, hu⟩ := split_first b h
      have e : esc (u ++ 39 :: v) = u ++ 39 :: 39 :: esc v := by rw [esc_app, esc_no u hu, esc_one]
      have hi := index_at [39, 39] ⟨[39], rfl⟩ (39 :: 39 :: esc v) (by simp [List.isPrefixOf]) u hu
      cases n with
      | zero => simp at hn
      | succ n =>
        have ih := half_esc n v (by simp at hn; omega)
        rw [e]
        rw [count_hit (by simp) hi, Nat.add_comm 1]
        rw [replaceK_hit _ _ _ _ _ hi]
        have d : (u ++ 39 :: 39 :: esc v).drop (u.length + ([39, 39] : Bs).length) = esc v := by
          rw [List.drop_append]; simp
        rw [d, ih, List.take_left]
        simp
    · rw [esc_no b h]
      have hi := index_no [39, 39] ⟨[39], rfl⟩ b h
      rw [count_miss hi]
      rfl
/-- Two marks for each: what is escaped. -/
theorem dbl_esc : ∀ (n : Nat) (b : Bs), b.length ≤ n → replaceK [39] [39, 39] (count b [39]) b = esc b
  | n, b, hn => by
    by_cases h : (39 : UInt8) ∈ b
    · obtain ⟨u, v, rfl, hu⟩ := split_first b h
      have e : esc (u ++ 39 :: v) = u ++ 39 :: 39 :: esc v := by rw [esc_app, esc_no u hu, esc_one]
      have hi := index_at [39] ⟨[], rfl⟩ (39 :: v) (by simp [List.isPrefixOf]) u hu
      cases n with
      | zero => simp at hn
      | succ n =>
        have ih := dbl_esc n v (by simp at hn; omega)
        rw [e]
        rw [count_hit (by simp) hi, Nat.add_comm 1]
        rw [replaceK_hit _ _ _ _ _ hi]
        have d : (u ++ 39 :: v).drop (u.length + ([39] : Bs).length) = v := by
          rw [List.drop_append]; simp
        rw [d, ih, List.take_left]
        simp
    · rw [esc_no b h]
      have hi := index_no [39] ⟨[], rfl⟩ b h
      rw [count_miss hi]
      rfl
theorem all_half (b : Bs) : replaceAll (esc b) [39, 39] [39] = b := by
  unfold replaceAll replace replaceNum
  rw [if_neg (by decide), if_pos (.inl (by decide))]
  exact half_esc _ b (Nat.le_refl _)
theorem all_dbl (b : Bs) : replaceAll b [39] [39, 39] = esc b := by
  unfold replaceAll replace replaceNum
  rw [if_neg (by decide), if_pos (.inl (by decide))]
  exact dbl_esc _ b (Nat.le_refl _)
end
end Go.Proofs.YthomeplakcbfoaaGreatDoor
