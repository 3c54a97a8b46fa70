/-
  The law of likeness: its walk, statement by statement.
-/
import Derived.Test.YtplepijiceanlaaGreatDoorNB
namespace Go.Proofs.YtplepijiceanlaaGreatDoor
open Go.RowKit

abbrev Ends12 (w : World) : Exit → Act → World → Prop := bodyPost Tryz.prog Tryz.f12 fun e w' => e = .returned (.bool true) ∧ Below w.heap.size w w'
abbrev sLike : ByteArray := ⟨#[108, 105, 107, 101]⟩
abbrev sPct : ByteArray := ⟨#[37]⟩
theorem kLike : opK sLike = 3 := by decide +kernel
theorem iLike : findT txTab sLike = some 1 := by decide +kernel
theorem lk_pct : ∀ s : List UInt8, lk s [37] = true
  | [] => by simp [lk]
  | a :: s => by rw [lk]; simp [lk_pct s]
theorem lk_pre : ∀ s t : List UInt8, (∀ c ∈ s, c ≠ 37) → lk (s ++ t) (s ++ [37]) = true
  | [], t, _ => lk_pct t
  | a :: s, t, h => by
    have ha : (a == 37) = false := by simpa using h a (by simp)
    rw [List.cons_append, List.cons_append, lk, ha, lk_pre s t (fun c hc => h c (by simp [hc]))]
    simp
theorem lk_self : ∀ s : List UInt8, (∀ c ∈ s, c ≠ 37) → lk s s = true
  | [], _ => by simp [lk]
  | a :: s, h => by
    have ha : (a == 37) = false := by simpa using h a (by simp)
    rw [lk, ha, lk_self s (fun c hc => h c (by simp [hc]))]
    simp
theorem data_append (s t : ByteArray) : (s ++ t).data.toList = s.data.toList ++ t.data.toList := by simp
theorem okText_app (s t : ByteArray) (h : okText (s ++ t) = true) : okText s = true ∧ okText t = true := by
  simp only [okText, Bool.and_eq_true, decide_eq_true_eq, data_append, List.all_append, ByteArray.size_append] at h ⊢
  exact ⟨⟨by omega, h.2.1⟩, by omega, h.2.2⟩
theorem okText_pct : okText sPct = true := by decide +kernel
theorem okText_more (s : ByteArray) (h : okText s = true) (hs : s.size + 1 ≤ 200) : okText (s ++ sPct) = true := by
  have hp := okText_pct
  simp only [okText, Bool.and_eq_true, decide_eq_true_eq, data_append, List.all_append, ByteArray.size_append] at h hp ⊢
  have e : sPct.size = 1 := rfl
  exact ⟨by omega, h.2, hp.2⟩
theorem like_yes (s p : ByteArray) (hs : okText s = true) (hp : okText p = true) (h : lk s.data.toList p.data.toList = true) (w : World) :
    Calls Tryz.prog 27 #[.string sLike, V 2 0 s, V 2 0 p] w fun e w' => e = .returned (.tuple #[V 3 1 ⟨#[]⟩, .int .i64 0]) ∧ Below w.heap.size w w' := by
  have hb := binary_ sLike (txtV s) (txtV p) w
  rw [bin_go sLike 3 kLike (by decide) _ _ (ok_txt s hs) (ok_txt p hp) (by simp [oneK, txtV, opT]) (.inl (by simp [hasNull, txtV]))] at hb
  have e : opSp sLike 3 (txtV s) (txtV p) = (booV true, 0) := by
    simp only [opSp, txSp, iLike, Option.getD_some, txI, likeS, txtV]
    rw [h]
  rw [e] at hb
  exact hb
theorem no_next (s : ByteArray) (k : Nat) (h : k < s.size) (hn : ∀ c ∈ s.data.toList.take k, c ≠ 37) (hk : (s[k].toNat : Int) ≠ 37) : ∀ c ∈ s.data.toList.take (k + 1), c ≠ 37 := by
  intro c hc
  have h' : k < s.data.toList.length := by simpa using h
  rw [List.take_succ_eq_append_getElem h', List.mem_append, List.mem_singleton] at hc
  rcases hc with hc | rfl
  · exact hn c hc
  · intro e
    apply hk
    have e2 : s[k] = 37 := e
    rw [e2]; rfl
end Go.Proofs.YtplepijiceanlaaGreatDoor
