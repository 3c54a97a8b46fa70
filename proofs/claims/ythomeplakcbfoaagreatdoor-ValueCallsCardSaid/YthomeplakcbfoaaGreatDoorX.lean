/-
  Contracts: Text of a string; Parse of a string that begins with a quotation mark.
-/
import Derived.Test.YthomeplakcbfoaaGreatDoorGe
import Derived.Test.YthomeplakcbfoaaGreatDoorGa
import Derived.Test.YthomeplakcbfoaaGreatDoorE
import Derived.Test.YthomeplakcbfoaaGreatDoorL
import Derived.Lib.ReplaceLaws
namespace Go.Proofs.YthomeplakcbfoaaGreatDoor
open Go.RowKit

def dbl (s : ByteArray) : ByteArray := ⟨(Lib.replaceAll s.data.toList [39] [39, 39]).toArray⟩
def half (s : ByteArray) : ByteArray := ⟨(Lib.replaceAll s.data.toList [39, 39] [39]).toArray⟩
def quo (s : ByteArray) : ByteArray := sQ ++ dbl s ++ sQ
theorem count_le (s old : ByteArray) (h : 1 ≤ old.size) : Lib.countB s old ≤ s.size := by
  have h1 := Lib.countB_mul_le old h s.size s (Nat.le_refl _)
  have h2 : Lib.countB s old * 1 ≤ Lib.countB s old * old.size := Nat.mul_le_mul_left _ h
  omega
theorem xdbl_ (s : ByteArray) (w : World) (hs : s.size ≤ 4000000) (hg : Gl w) : Calls Tryz.prog 51 #[.string s, .string sQ, .string sQQ] w fun e w' => e = .returned (.string (dbl s)) ∧ Below w.heap.size w w' := by
  obtain ⟨m, hm⟩ := hg
  have hc := count_le s sQ (by decide)
  exact Tryz.strings_ReplaceAll s sQ sQQ m w (by omega) hm (by decide) (by have e : sQQ.size = 2 := rfl; rw [e]; omega)
theorem xhalf_ (s : ByteArray) (w : World) (hs : s.size ≤ 4000000) (hg : Gl w) : Calls Tryz.prog 51 #[.string s, .string sQQ, .string sQ] w fun e w' => e = .returned (.string (half s)) ∧ Below w.heap.size w w' := by
  obtain ⟨m, hm⟩ := hg
  have hc := count_le s sQQ (by decide)
  exact Tryz.strings_ReplaceAll s sQQ sQ m w (by omega) hm (by decide) (by have e : sQ.size = 1 := rfl; rw [e]; omega)

theorem replaceK_len (old new : List UInt8) : ∀ (k : Nat) (s : List UInt8), (Lib.replaceK old new k s).length ≤ s.length + k * new.length
  | 0, s => by simp [Lib.replaceK]
  | k + 1, s => by
    rw [Lib.replaceK]
    split
    · omega
    · have ih := replaceK_len old new k (s.drop ((Lib.index s old).toNat + old.length))
      simp only [List.length_append, List.length_take, List.length_drop] at ih ⊢
      rw [Nat.succ_mul]
      omega
theorem dbl_size (s : ByteArray) : (dbl s).size ≤ 3 * s.size := by
  have hc := count_le s sQ (by decide)
  show (Lib.replaceAll s.data.toList [39] [39, 39]).toArray.size ≤ _
  rw [List.size_toArray]
  unfold Lib.replaceAll Lib.replace
  rw [if_neg (by decide)]
  have h := replaceK_len [39] [39, 39] (Lib.replaceNum s.data.toList [39] (-1)) s.data.toList
  have e : Lib.replaceNum s.data.toList [39] (-1) = Lib.countB s sQ := by unfold Lib.replaceNum; rw [if_pos (.inl (by decide))]
  rw [e] at h ⊢
  simp only [List.length_cons, List.length_nil] at h
  have e2 : s.data.toList.length = s.size := by simp
  omega
theorem text2_ (s : ByteArray) (w : World) (hs : okText s = true) (hg : Gl w) : Calls Tryz.prog 16 #[V 2 0 s] w fun e w' => e = .returned (.tuple #[.string (quo s), .int .i64 0]) ∧ Below w.heap.size w w' := by
  have hv : vld 2 0 s = true := by rw [vld2, hs]; rfl
  have h2 := okSize s hs
  have h3 := dbl_size s
  have HG := Lib.hid hg
  clear hg hs
  go_enter Tryz.func16, Tryz.ntmps16
  go_wp2_with (first
    | (go_at_call 31; refine (valid_ _ _ _ _).mono ?_; rintro e y ⟨rfl, hb⟩; have K := Lib.hid (K1.below ⟨new1 w _, B3.new w _ _ _ 27⟩ hb); clear hb; obtain ⟨HB, ⟨r0, r1, r2, g0, g1, g2, rl⟩⟩ := K.out)
    | (go_at_call 51; refine (xdbl_ s _ (by omega) (HG.out.below HB)).mono ?_; rintro e y ⟨rfl, hb⟩; have K := Lib.hid (K1.below (Hid.out (by assumption)) hb); clear hb; obtain ⟨HB, ⟨r0, r1, r2, g0, g1, g2, rl⟩⟩ := K.out))
  (try simp only [Exit.inBlock, Exit.then])
  go_ret2
  exact ⟨rfl, HB⟩

theorem likelyQ_ (s : ByteArray) (w : World) (hs : s.size ≤ 4000000) (hg : Gl w) (ht : (s.toList == [116, 114, 117, 101]) = false) (hf : (s.toList == [102, 97, 108, 115, 101]) = false) (h1 : 1 < s.size) (hq : ((s[0]).toNat : Int) = 39) :
    Calls Tryz.prog 55 #[.string s] w fun e w' => e = .returned (V 2 0 (half (s.extract 1 (s.size - 1)))) ∧ Below w.heap.size w w' := by
  have HG := Lib.hid hg
  have hx : (s.extract 1 (s.size - 1)).size ≤ 4000000 := by simp; omega
  clear hg
  go_enter Tryz.func55, Tryz.ntmps55
  go_wp2_with (first
    | (go_at_call 51; refine (xhalf_ (s.extract 1 (s.size - 1)) _ hx (HG.out.below (new1 w _))).mono ?_; rintro e y ⟨rfl, hb⟩; have K := Lib.hid (K1.below ⟨new1 w _, B3.new w _ _ _ 27⟩ hb); clear hb; obtain ⟨HB, ⟨r0, r1, r2, g0, g1, g2, rl⟩⟩ := K.out)
    | (go_at_call 81; refine (text_ _ _).mono ?_; rintro e y ⟨rfl, hb⟩; have K := Lib.hid (K1.below (Hid.out (by assumption)) hb); clear hb; obtain ⟨HB, ⟨r0, r1, r2, g0, g1, g2, rl⟩⟩ := K.out))
  (try simp only [Exit.inBlock, Exit.then])
  exact ret_one rfl rfl K.out.q rfl ⟨rfl, set3 HB _ (Nat.le_refl _) _ _ _⟩

theorem parseQ_ (s : ByteArray) (w : World) (hs : s.size ≤ 4000000) (hg : Gl w) (ht : (s.toList == [116, 114, 117, 101]) = false) (hf : (s.toList == [102, 97, 108, 115, 101]) = false) (h1 : 1 < s.size) (hq : ((s[0]).toNat : Int) = 39)
    (u : ByteArray) (hu : half (s.extract 1 (s.size - 1)) = u) (hok : okText u = true) (he : ((quo u).toList == s.toList) = true) :
    Calls Tryz.prog 18 #[.string s] w fun e w' => e = .returned (two (txtV u, 0)) ∧ Below w.heap.size w w' := by
  have HG := Lib.hid hg
  have HT := Lib.hid (fun x hx => likelyQ_ s x hs hx ht hf h1 hq)
  have HU := Lib.hid hu
  clear hg ht hf hq hu
  go_enter Tryz.func18, Tryz.ntmps18
  go_wp2_with (first
    | (go_at_call 55; refine (HT.out _ (HG.out.below (new1 w _))).mono ?_; rintro e y ⟨he1, hb⟩; rw [HU.out] at he1; subst he1; have K0 : Hid (K1 w y w.heap.size (.int .i64 0) (.int .i64 0) (.string ⟨#[]⟩)) := Lib.hid (K1.below ⟨new1 w _, B3.new w _ _ _ 27⟩ hb); have K : Hid (K2 w (y.alloc (.cells #[.int .i64 2, .int .i64 0, .string u] 27)) w.heap.size (.int .i64 0) (.int .i64 0) (.string ⟨#[]⟩) y.heap.size (.int .i64 2) (.int .i64 0) (.string u)) := Lib.hid ⟨(K0.out.alloc _).HB, (K0.out.alloc _).q, B3.new y _ _ _ 27⟩; clear hb K0; obtain ⟨HB, ⟨r0, r1, r2, g0, g1, g2, rl⟩, ⟨v0, v1, v2, _, _, _, vl⟩⟩ := K.out)
    | (go_at_call 16; refine (text2_ u _ hok (HG.out.below HB)).mono ?_; rintro e y2 ⟨rfl, hb⟩; have K := Lib.hid (K2.below (Hid.out (by assumption)) hb); clear hb; obtain ⟨HB, ⟨r0, r1, r2, g0, g1, g2, rl⟩, ⟨v0, v1, v2, _, _, _, vl⟩⟩ := K.out))
  (try simp only [Exit.inBlock, Exit.then])
  exact ret_two rfl rfl K.out.q rfl ⟨rfl, set3 HB _ (Nat.le_refl _) _ _ _⟩
end Go.Proofs.YthomeplakcbfoaaGreatDoor
