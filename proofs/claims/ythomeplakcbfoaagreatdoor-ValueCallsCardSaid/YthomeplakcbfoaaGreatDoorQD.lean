/-
  The reference's digits.
-/
import Derived.Test.YthomeplakcbfoaaGreatDoorQA
import Derived.Lib.ItoaLen
import Derived.Laws.Cover4
namespace Go.Proofs.YthomeplakcbfoaaGreatDoor
open Go.RowKit

theorem dec_one (u : Nat) (h : u < 10) : Lib.decDigits u = [UInt8.ofNat (48 + u)] := by rw [Lib.decDigits, dif_pos h]
theorem dec_more (u : Nat) (h : ¬ u < 10) : Lib.decDigits u = Lib.decDigits (u / 10) ++ [UInt8.ofNat (48 + u % 10)] := by
  conv => lhs; rw [Lib.decDigits]
  rw [dif_neg h]
theorem enc_one (r : Int) (h0 : 0 ≤ r) (h1 : r ≤ 127) : Utf8.encode r = baOf [UInt8.ofNat r.toNat] := by
  obtain ⟨n, rfl⟩ : ∃ n : Nat, r = n := ⟨r.toNat, by omega⟩
  have h : n < 128 := by omega
  clear h0 h1
  revert n
  decide
theorem enc_dig (u : Nat) (h : u < 10) : Utf8.encode (48 + (u : Int)) = baOf [UInt8.ofNat (48 + u)] := by
  rw [enc_one _ (by omega) (by omega)]
  congr 2
theorem dec_size (u : Nat) (h : u ≤ 1099511627777) : (baOf (Lib.decDigits u)).size ≤ 20 := by
  rw [baOf_size, Lib.decDigits_length]
  exact Lib.nDigits_le20 u (by omega)
set_option maxRecDepth 100000 in
set_option maxHeartbeats 1000000 in
theorem digitsN_ : ∀ (u : Nat), u ≤ 1099511627777 → ∀ (w : World), Calls Tryz.prog 53 #[.int .i64 (u : Int)] w fun e w' => e = .returned (.string (baOf (Lib.decDigits u))) ∧ Below w.heap.size w w' := by
  intro u
  induction u using Nat.strongRecOn with
  | _ u ih =>
    intro hu w
    by_cases h : u < 10
    · have HD := Lib.hid (dec_one u h)
      have h' : (u : Int) < 10 := by omega
      clear ih
      go_enter Tryz.func53, Tryz.ntmps53
      go_wp2_with fail
      go_ret
      refine ⟨ret_str ?_, Below.refl _ _⟩
      rw [HD.out, ← enc_dig u h]
      congr 1
      omega
    · have HD := Lib.hid (dec_more u h)
      have h' : (10 : Int) ≤ u := by omega
      clear h
      have HR0 := ih (u / 10) (by omega) (by omega)
      clear ih
      have hDs := dec_size (u / 10) (by omega)
      generalize hD : baOf (Lib.decDigits (u / 10)) = D at HR0 hDs
      have HD2 := Lib.hid hD
      have HDs := Lib.hid hDs
      clear hD hDs
      have HR : Hid (∀ x, Calls Tryz.prog 53 #[.int .i64 ((u : Int) / 10)] x fun e w' => e = .returned (.string D) ∧ Below x.heap.size x w') := Lib.hid HR0
      clear HR0
      go_enter Tryz.func53, Tryz.ntmps53
      go_wp2_with fail
      refine (HR.out _).mono ?_
      rintro e y ⟨rfl, hb⟩
      have HB := Lib.hid hb
      clear hb
      have hEs := encode_size_le (48 + (u : Int) % 10)
      generalize hE : Utf8.encode (48 + (u : Int) % 10) = E at hEs ⊢
      have HE2 := Lib.hid hE
      clear hE
      have hDs := HDs.out
      go_wp2_with fail
      go_ret
      refine ⟨ret_str ?_, HB.out⟩
      rw [HD.out, ← HD2.out, ← HE2.out]
      apply ba_ext
      rw [ba_app, baOf_data, baOf_data]
      have e : (48 + (u : Int) % 10) = 48 + ((u % 10 : Nat) : Int) := by omega
      rw [e, enc_dig (u % 10) (by omega), baOf_data]
set_option maxRecDepth 100000 in
set_option maxHeartbeats 1000000 in
theorem digits_ (n : Int) (h0 : -1099511627777 ≤ n) (h1 : n ≤ 1099511627777) (w : World) : Calls Tryz.prog 53 #[.int .i64 n] w fun e w' => e = .returned (.string (baOf (Lib.itoa n))) ∧ Below w.heap.size w w' := by
  by_cases hn : n < 0
  · have HI : Hid (Lib.itoa n = 45 :: Lib.decDigits n.natAbs) := Lib.hid (if_pos hn)
    have HR0 := digitsN_ n.natAbs (by omega)
    have e : ((n.natAbs : Nat) : Int) = -n := by omega
    rw [e] at HR0
    have hDs := dec_size n.natAbs (by omega)
    clear e
    generalize hD : baOf (Lib.decDigits n.natAbs) = D at HR0 hDs
    have HD2 := Lib.hid hD
    have HDs := Lib.hid hDs
    have HR := Lib.hid HR0
    clear hD hDs HR0
    go_enter Tryz.func53, Tryz.ntmps53
    go_wp2_with fail
    refine (HR.out _).mono ?_
    rintro e y ⟨rfl, hb⟩
    have HB := Lib.hid hb
    clear hb
    have hDs := HDs.out
    go_wp2_with fail
    go_ret
    refine ⟨ret_str ?_, HB.out⟩
    rw [HI.out, ← HD2.out]
    apply ba_ext
    rw [ba_app, baOf_data, baOf_data]
    rfl
  · have HI : Hid (Lib.itoa n = Lib.decDigits n.toNat) := Lib.hid (if_neg hn)
    have h := digitsN_ n.toNat (by omega) w
    have e : ((n.toNat : Nat) : Int) = n := by omega
    rw [e] at h
    rw [HI.out]
    exact h
end Go.Proofs.YthomeplakcbfoaaGreatDoor
