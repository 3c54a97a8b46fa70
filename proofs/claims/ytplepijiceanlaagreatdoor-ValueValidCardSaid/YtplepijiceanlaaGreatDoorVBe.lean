/-
  The law of valid values: its walk, statement by statement.
-/
import Derived.Test.YtplepijiceanlaaGreatDoorVBf
import Derived.Deep.RegionHeld3
import Derived.Deep.RegionWith
namespace Go.Proofs.YtplepijiceanlaaGreatDoor
open Go.RowKit
set_option maxRecDepth 100000 in
set_option maxHeartbeats 40000000 in
theorem vv2 (w x : World) (A B : Option Addr) (ca cb : Nat) (la lb : List Va) (u2 u3 u4 u5 u6 u7 u8 u9 u10 u11 u12 u13 u14 u15 u16 u17 u18 u19 u20 u21 u22 u23 u24 u25 u26 u27 u28 u29 u30 u31 u32 u33 u34 u35 u36 u37 u38 u39 u40 u41 u42 u43 u44 u45 u46 u47 u48 u49 u50 u51 u52 u53 u54 u55 u56 u57 u58 u59 u60 u61 u62 u63 u64 u65 u66 u67 u68 u69 u70 u71 u72 u73 : Value) (hA : Awk) (hg : Gl w) (hla : la.length ≤ maxLen) (hlb : lb.length ≤ maxLen) (sa : Sl w A la) (sb : Sl w B lb) (za : ∀ v ∈ la, v.s.size ≤ maxLen) (hK : KL w x []) :
    Code.wp Tryz.prog (tailC 2 (Tryz.f3.body.getD .skip)) (Ends3 w) ⟨List.toArray (.slice A la.length ca :: .slice B lb.length cb :: u2 :: u3 :: u4 :: u5 :: u6 :: u7 :: u8 :: u9 :: u10 :: u11 :: u12 :: u13 :: u14 :: u15 :: u16 :: u17 :: u18 :: u19 :: u20 :: u21 :: u22 :: u23 :: u24 :: u25 :: u26 :: u27 :: u28 :: u29 :: u30 :: u31 :: u32 :: u33 :: u34 :: u35 :: u36 :: u37 :: u38 :: u39 :: u40 :: u41 :: u42 :: u43 :: u44 :: u45 :: u46 :: u47 :: u48 :: u49 :: u50 :: u51 :: u52 :: u53 :: u54 :: u55 :: u56 :: u57 :: u58 :: u59 :: u60 :: u61 :: u62 :: u63 :: u64 :: u65 :: u66 :: u67 :: u68 :: u69 :: u70 :: u71 :: u72 :: u73 :: []), []⟩ x := by
  have K := Lib.hid hK
  clear hK
  conv => arg 2; whnf
  refine wp_seq_k (fun Kont hKont => ?_)
  have HK := Lib.hid hKont
  clear hKont
  have HA := Lib.hid hA
  have HG := Lib.hid hg
  have LA := Lib.hid hla
  have LB := Lib.hid hlb
  have SA := Lib.hid sa
  have SB := Lib.hid sb
  have ZA := Lib.hid za
  clear hA hg sa sb za
  unfold maxLen at hla hlb
  go_wp2_with fail
  go_loopw [18] (fun i z => ∃ k : Nat, k ≤ la.length ∧ i = .int .i64 k ∧ KL w z []) (fun i z => la.length - (intOf i).toNat)
  case atStart => exact ⟨0, by omega, rfl, K.out⟩
  case round =>
    obtain ⟨k, hk, rfl, hK⟩ := hrel
    clear K
    have K := Lib.hid hK
    clear hK
    by_cases hlt : k < la.length
    · obtain ⟨b1, o1, rfl, l1, c0, c1, c2⟩ := (SA.out.below K.out.HB) k _ (getD_of la k hlt)
      have ZU := Lib.hid (ZA.out _ (List.mem_of_getElem? (getD_of la k hlt)))
      generalize la.getD k nulV = u at *
      obtain ⟨bv, hv⟩ : ∃ b, vld u.k u.n u.s = b := ⟨_, rfl⟩
      obtain ⟨bt, ht⟩ : ∃ b, eqV u.k u.n u.s 3 1 ⟨#[]⟩ = b := ⟨_, rfl⟩
      have V1 := Lib.hid (valid_at hv)
      have V2 := Lib.hid (refValid_at hv ZU.out)
      have V3 := Lib.hid (true_at ht)
      have V4 := Lib.hid (refTrue_at ht)
      have ev : (bv != bv) = false := by simp
      have et : (bt != bt) = false := by simp
      clear hv ht
      by_cases hlb2 : k < lb.length
      · obtain ⟨b2, o2, rfl, l2, d0, d1, d2⟩ := (SB.out.below K.out.HB) k _ (getD_of lb k hlb2)
        generalize lb.getD k nulV = v at *
        obtain ⟨bs, hs⟩ : ∃ b, eqV u.k u.n u.s v.k v.n v.s = b := ⟨_, rfl⟩
        have V5 := Lib.hid (same_at hs)
        have V6 := Lib.hid (refSame_at hs)
        have es : (bs != bs) = false := by simp
        clear hs
        go_upto_region 6 with fail
        obtain ⟨p, hp⟩ : ∃ p, wr.heap.size = p := ⟨_, rfl⟩
        have q0 := (B3.new wr (.int .i64 u.k) (.int .i64 u.n) (.string u.s) 27)
        have KB := Lib.hid (KL.alloc K.out (.cells #[.int .i64 u.k, .int .i64 u.n, .string u.s] 27))
        have HS := Lib.hid (H6_of q0 (show b2 < _ from Nat.lt_of_lt_of_le l2 (by simp)) ((bcell (new1 wr _) _ _ l2).trans d0) ((bcell (new1 wr _) _ _ l2).trans d1) ((bcell (new1 wr _) _ _ l2).trans d2))
        have lp : wr.heap.size < (wr.alloc (.cells #[.int .i64 u.k, .int .i64 u.n, .string u.s] 27)).heap.size := by simp
        have lq : b2 < (wr.alloc (.cells #[.int .i64 u.k, .int .i64 u.n, .string u.s] 27)).heap.size := by simp; omega
        clear q0 c0 c1 c2 d0 d1 d2
        rw [hp] at HS lp ⊢
        generalize (wr.alloc (.cells #[.int .i64 u.k, .int .i64 u.n, .string u.s] 27)) = x0 at *
        clear hp
        go_region_held3 (fun z => (z.cell? ⟨p, 0, none⟩ = some (.int .i64 u.k) ∧ z.cell? ⟨p, 1, none⟩ = some (.int .i64 u.n) ∧ z.cell? ⟨p, 2, none⟩ = some (.string u.s) ∧ z.cell? ⟨b2, o2 + k * 3, none⟩ = some (.int .i64 v.k) ∧ z.cell? ⟨b2, o2 + k * 3 + 1, none⟩ = some (.int .i64 v.n) ∧ z.cell? ⟨b2, o2 + k * 3 + 2, none⟩ = some (.string v.s)) ∧ Below x0.heap.size x0 z)
          (first | with_reducible exact H6_drew HS.out | with_reducible assumption | with_reducible exact H6_call (by assumption) lp lq hb)
          (first
          | (go_at_call 15; (with_reducible refine (V1.out _).mono ?_); rintro e y ⟨rfl, hb⟩)
          | (go_at_call 16; (with_reducible refine (V2.out _).mono ?_); rintro e y ⟨rfl, hb⟩)
          | (go_at_call 17; (with_reducible refine (V3.out _).mono ?_); rintro e y ⟨rfl, hb⟩)
          | (go_at_call 18; (with_reducible refine (V4.out _).mono ?_); rintro e y ⟨rfl, hb⟩)
          | (go_at_call 19; (with_reducible refine (V5.out _).mono ?_); rintro e y ⟨rfl, hb⟩)
          | (go_at_call 20; (with_reducible refine (V6.out _).mono ?_); rintro e y ⟨rfl, hb⟩))
        all_goals (have hH := And.right ‹(_ ∧ _ ∧ _ ∧ _ ∧ _ ∧ _) ∧ Below x0.heap.size x0 _›)
        all_goals (have KZ := Lib.hid (KL.below KB.out hH))
        all_goals go_wp2_with fail
        all_goals go_roundw
        all_goals first
          | exact ⟨k + 1, by omega, by go_num, KZ.out⟩
          | (simp [intOf]; omega)
      · go_upto_region 6 with fail
        obtain ⟨p, hp⟩ : ∃ p, wr.heap.size = p := ⟨_, rfl⟩
        have q0 := (B3.new wr (.int .i64 u.k) (.int .i64 u.n) (.string u.s) 27)
        have KB := Lib.hid (KL.alloc K.out (.cells #[.int .i64 u.k, .int .i64 u.n, .string u.s] 27))
        rw [hp] at q0 ⊢
        generalize (wr.alloc (.cells #[.int .i64 u.k, .int .i64 u.n, .string u.s] 27)) = x0 at *
        have Z : Hid (ZB x0 x0 p u) := Lib.hid ⟨q0, Below.refl _ _⟩
        clear hp q0 c0 c1 c2
        obtain ⟨⟨z0, z1, z2, -, -, -, lp⟩, -⟩ := Z.out
        clear Z
        have hd1 : decide (k < lb.length) = false := by simpa using hlb2
        have hd2 : decide ((k : Int) < (lb.length : Int)) = false := by simpa using hlb2
        refine wp_region_held_drew (S := fun z => (z.cell? ⟨p, 0, none⟩ = some (.int .i64 u.k) ∧ z.cell? ⟨p, 1, none⟩ = some (.int .i64 u.n) ∧ z.cell? ⟨p, 2, none⟩ = some (.string u.s)) ∧ Below x0.heap.size x0 z) (by kernel_rfl) (S_drew z0 z1 z2) (fun hH => ?_)
        refine wpAnyH_take (i := 0) (oi := ({ dst := some 23, op := Op.load 27 (Operand.tmp 6), type := 27, pos := "law.go:45", after := #[], guard := none } : Oper)) (v := _) rfl (by kernel_rfl) (by kernel_rfl) (by kernel_rfl) (fun _ _ _ h => h) (Or.inl ⟨by rfl, (by intro w hSw; (try dsimp only at hSw); go_simp; try with_reducible rfl)⟩) hH ?_
        (try simp only [Act.put, List.setIfInBounds_toArray, List.set_cons_zero, List.set_cons_succ])
        refine wpAnyH_take (i := 2) (oi := ({ dst := some 25, op := Op.load 27 (Operand.tmp 6), type := 27, pos := "law.go:45", after := #[], guard := none } : Oper)) (v := _) rfl (by kernel_rfl) (by kernel_rfl) (by kernel_rfl) (fun _ _ _ h => h) (Or.inl ⟨by rfl, (by intro w hSw; (try dsimp only at hSw); go_simp; try with_reducible rfl)⟩) hH ?_
        (try simp only [Act.put, List.setIfInBounds_toArray, List.set_cons_zero, List.set_cons_succ])
        refine wpAnyH_ready (rs := [1]) (by kernel_rfl) (by simp) ?_
        refine AllReadyH.cons (o := ({ dst := some 24, op := Op.call { callee := Callee.value (Operand.func 15), args := #[Operand.tmp 23], argTypes := #[27] }, type := 4, pos := "law.go:45", after := #[{ on := 0, ground := Ground.data }], guard := none } : Oper)) rfl (fun K hK => ?_) AllReadyH.nil
        go_simp
        refine (V1.out _).mono ?_
        rintro e y1 ⟨rfl, hb⟩
        go_wp2_with fail
        refine hK.out _ _ (S_call hH lp hb) (fun hH1 => ?_)
        clear hK K hb hH
        (try simp only [Act.put, List.setIfInBounds_toArray, List.set_cons_zero, List.set_cons_succ])
        refine wpAnyH_ready (rs := [3]) (by kernel_rfl) (by simp) ?_
        refine AllReadyH.cons (o := ({ dst := some 26, op := Op.call { callee := Callee.value (Operand.func 16), args := #[Operand.tmp 25], argTypes := #[27] }, type := 4, pos := "law.go:45", after := #[{ on := 2, ground := Ground.data }, { on := 1, ground := Ground.chain }], guard := none } : Oper)) rfl (fun K hK => ?_) AllReadyH.nil
        go_simp
        refine (V2.out _).mono ?_
        rintro e y2 ⟨rfl, hb⟩
        go_wp2_with fail
        refine hK.out _ _ (S_call hH1 lp hb) (fun hH2 => ?_)
        clear hK K hb hH1
        (try simp only [Act.put, List.setIfInBounds_toArray, List.set_cons_zero, List.set_cons_succ])
        refine wpAnyH_take (i := 4) (oi := ({ dst := some 27, op := Op.binOp BinOp.neq 4 (Operand.tmp 24) (Operand.tmp 26) 4, type := 4, pos := "law.go:45", after := #[{ on := 1, ground := Ground.data }, { on := 3, ground := Ground.data }], guard := none } : Oper)) (v := _) rfl (by kernel_rfl) (by kernel_rfl) (by kernel_rfl) (fun _ _ _ h => h) (Or.inl ⟨by rfl, (by intro w hSw; (try dsimp only at hSw); go_simp; try with_reducible rfl)⟩) hH2 ?_
        (try simp only [Act.put, List.setIfInBounds_toArray, List.set_cons_zero, List.set_cons_succ])
        refine wpAnyH_take (i := 5) (oi := ({ dst := some 28, op := Op.move (Operand.tmp 27), type := 4, pos := "law.go:45", after := #[{ on := 4, ground := Ground.data }, { on := 3, ground := Ground.chain }], guard := none } : Oper)) (v := _) rfl (by kernel_rfl) (by kernel_rfl) (by kernel_rfl) (fun _ _ _ h => h) (Or.inl ⟨by rfl, (by intro w hSw; (try dsimp only at hSw); go_simp; try with_reducible rfl)⟩) hH2 ?_
        (try simp only [Act.put, List.setIfInBounds_toArray, List.set_cons_zero, List.set_cons_succ])
        refine wpAnyH_take (i := 6) (oi := ({ dst := some 29, op := Op.load 27 (Operand.tmp 6), type := 27, pos := "law.go:45", after := #[{ on := 5, ground := Ground.guard }], guard := some (5, false) } : Oper)) (v := _) rfl (by kernel_rfl) (by kernel_rfl) (by kernel_rfl) (fun _ _ _ h => h) (Or.inl ⟨by rfl, (by intro w hSw; (try dsimp only at hSw); go_simp; try with_reducible rfl)⟩) hH2 ?_
        (try simp only [Act.put, List.setIfInBounds_toArray, List.set_cons_zero, List.set_cons_succ])
        refine wpAnyH_take (i := 8) (oi := ({ dst := some 31, op := Op.load 27 (Operand.tmp 6), type := 27, pos := "law.go:45", after := #[{ on := 5, ground := Ground.guard }], guard := some (5, false) } : Oper)) (v := _) rfl (by kernel_rfl) (by kernel_rfl) (by kernel_rfl) (fun _ _ _ h => h) (Or.inl ⟨by rfl, (by intro w hSw; (try dsimp only at hSw); go_simp; try with_reducible rfl)⟩) hH2 ?_
        (try simp only [Act.put, List.setIfInBounds_toArray, List.set_cons_zero, List.set_cons_succ])
        refine wpAnyH_ready (rs := [7]) (by kernel_rfl) (by simp) ?_
        refine AllReadyH.cons (o := ({ dst := some 30, op := Op.call { callee := Callee.value (Operand.func 17), args := #[Operand.tmp 29], argTypes := #[27] }, type := 4, pos := "law.go:45", after := #[{ on := 6, ground := Ground.data }, { on := 5, ground := Ground.chain }, { on := 5, ground := Ground.guard }], guard := some (5, false) } : Oper)) rfl (fun K hK => ?_) AllReadyH.nil
        go_simp
        refine (V3.out _).mono ?_
        rintro e y3 ⟨rfl, hb⟩
        go_wp2_with fail
        refine hK.out _ _ (S_call hH2 lp hb) (fun hH3 => ?_)
        clear hK K hb hH2
        (try simp only [Act.put, List.setIfInBounds_toArray, List.set_cons_zero, List.set_cons_succ])
        refine wpAnyH_ready (rs := [9]) (by kernel_rfl) (by simp) ?_
        refine AllReadyH.cons (o := ({ dst := some 32, op := Op.call { callee := Callee.value (Operand.func 18), args := #[Operand.tmp 31], argTypes := #[27] }, type := 4, pos := "law.go:45", after := #[{ on := 8, ground := Ground.data }, { on := 7, ground := Ground.chain }, { on := 5, ground := Ground.guard }], guard := some (5, false) } : Oper)) rfl (fun K hK => ?_) AllReadyH.nil
        go_simp
        refine (V4.out _).mono ?_
        rintro e y4 ⟨rfl, hb⟩
        go_wp2_with fail
        refine hK.out _ _ (S_call hH3 lp hb) (fun hH4 => ?_)
        clear hK K hb hH3
        (try simp only [Act.put, List.setIfInBounds_toArray, List.set_cons_zero, List.set_cons_succ])
        refine wpAnyH_take (i := 10) (oi := ({ dst := some 33, op := Op.binOp BinOp.neq 4 (Operand.tmp 30) (Operand.tmp 32) 4, type := 4, pos := "law.go:45", after := #[{ on := 7, ground := Ground.data }, { on := 9, ground := Ground.data }, { on := 5, ground := Ground.guard }], guard := some (5, false) } : Oper)) (v := _) rfl (by kernel_rfl) (by kernel_rfl) (by kernel_rfl) (fun _ _ _ h => h) (Or.inl ⟨by rfl, (by intro w hSw; (try dsimp only at hSw); go_simp; try with_reducible rfl)⟩) hH4 ?_
        (try simp only [Act.put, List.setIfInBounds_toArray, List.set_cons_zero, List.set_cons_succ])
        refine wpAnyH_take (i := 11) (oi := ({ dst := some 34, op := Op.pick (Operand.tmp 28) (Operand.const (Value.bool true)) (Operand.tmp 33), type := 4, pos := "law.go:45", after := #[{ on := 5, ground := Ground.data }, { on := 10, ground := Ground.data }], guard := none } : Oper)) (v := _) rfl (by kernel_rfl) (by kernel_rfl) (by kernel_rfl) (fun _ _ _ h => h) (Or.inl ⟨by rfl, (by intro w hSw; (try dsimp only at hSw); go_simp; try with_reducible rfl)⟩) hH4 ?_
        (try simp only [Act.put, List.setIfInBounds_toArray, List.set_cons_zero, List.set_cons_succ])
        refine wpAnyH_take (i := 12) (oi := ({ dst := some 35, op := Op.move (Operand.tmp 34), type := 4, pos := "law.go:45", after := #[{ on := 11, ground := Ground.data }, { on := 9, ground := Ground.chain }], guard := none } : Oper)) (v := _) rfl (by kernel_rfl) (by kernel_rfl) (by kernel_rfl) (fun _ _ _ h => h) (Or.inl ⟨by rfl, (by intro w hSw; (try dsimp only at hSw); go_simp; try with_reducible rfl)⟩) hH4 ?_
        (try simp only [Act.put, List.setIfInBounds_toArray, List.set_cons_zero, List.set_cons_succ])
        refine wpAnyH_take (i := 13) (oi := ({ dst := some 36, op := Op.move (Operand.tmp 5), type := 3, pos := "law.go:45", after := #[{ on := 12, ground := Ground.guard }], guard := some (12, false) } : Oper)) (v := _) rfl (by kernel_rfl) (by kernel_rfl) (by kernel_rfl) (fun _ _ _ h => h) (Or.inl ⟨by rfl, (by intro w hSw; (try dsimp only at hSw); go_simp; try with_reducible rfl)⟩) hH4 ?_
        (try simp only [Act.put, List.setIfInBounds_toArray, List.set_cons_zero, List.set_cons_succ])
        refine wpAnyH_take (i := 14) (oi := ({ dst := some 37, op := Op.move (Operand.tmp 1), type := 22, pos := "law.go:45", after := #[{ on := 12, ground := Ground.guard }], guard := some (12, false) } : Oper)) (v := _) rfl (by kernel_rfl) (by kernel_rfl) (by kernel_rfl) (fun _ _ _ h => h) (Or.inl ⟨by rfl, (by intro w hSw; (try dsimp only at hSw); go_simp; try with_reducible rfl)⟩) hH4 ?_
        (try simp only [Act.put, List.setIfInBounds_toArray, List.set_cons_zero, List.set_cons_succ])
        refine wpAnyH_take (i := 15) (oi := ({ dst := some 38, op := Op.call { callee := Callee.builtin Builtin.len, args := #[Operand.tmp 37], argTypes := #[22] }, type := 3, pos := "law.go:45", after := #[{ on := 14, ground := Ground.data }, { on := 12, ground := Ground.guard }], guard := some (12, false) } : Oper)) (v := _) rfl (by kernel_rfl) (by kernel_rfl) (by kernel_rfl) (fun _ _ _ h => h) (Or.inl ⟨by rfl, (by intro w hSw; (try dsimp only at hSw); go_simp; try with_reducible rfl)⟩) hH4 ?_
        (try simp only [Act.put, List.setIfInBounds_toArray, List.set_cons_zero, List.set_cons_succ])
        refine wpAnyH_take (i := 16) (oi := ({ dst := some 39, op := Op.binOp BinOp.lss 3 (Operand.tmp 36) (Operand.tmp 38) 3, type := 4, pos := "law.go:45", after := #[{ on := 13, ground := Ground.data }, { on := 15, ground := Ground.data }, { on := 12, ground := Ground.guard }], guard := some (12, false) } : Oper)) (v := _) rfl (by kernel_rfl) (by kernel_rfl) (by kernel_rfl) (fun _ _ _ h => h) (Or.inl ⟨by rfl, (by intro w hSw; (try dsimp only at hSw); go_simp; try with_reducible rfl)⟩) hH4 ?_
        (try simp only [Act.put, List.setIfInBounds_toArray, List.set_cons_zero, List.set_cons_succ])
        refine wpAnyH_take (i := 17) (oi := ({ dst := some 40, op := Op.move (Operand.tmp 39), type := 4, pos := "law.go:45", after := #[{ on := 16, ground := Ground.data }, { on := 12, ground := Ground.chain }, { on := 12, ground := Ground.guard }], guard := some (12, false) } : Oper)) (v := _) rfl (by kernel_rfl) (by kernel_rfl) (by kernel_rfl) (fun _ _ _ h => h) (Or.inl ⟨by rfl, (by intro w hSw; (try dsimp only at hSw); go_simp; try with_reducible rfl)⟩) hH4 ?_
        (try simp only [Act.put, List.setIfInBounds_toArray, List.set_cons_zero, List.set_cons_succ])
        refine wpAnyH_take (i := 18) (oi := ({ dst := some 41, op := Op.load 27 (Operand.tmp 6), type := 27, pos := "law.go:45", after := #[{ on := 17, ground := Ground.guard }], guard := some (17, true) } : Oper)) (v := undef) rfl (by kernel_rfl) (by kernel_rfl) (by kernel_rfl) (fun _ _ _ h => h) (Or.inr ⟨by rfl, rfl⟩) hH4 ?_
        (try simp only [Act.put, List.setIfInBounds_toArray, List.set_cons_zero, List.set_cons_succ])
        refine wpAnyH_take (i := 19) (oi := ({ dst := some 42, op := Op.move (Operand.tmp 1), type := 22, pos := "law.go:45", after := #[{ on := 17, ground := Ground.guard }], guard := some (17, true) } : Oper)) (v := undef) rfl (by kernel_rfl) (by kernel_rfl) (by kernel_rfl) (fun _ _ _ h => h) (Or.inr ⟨by rfl, rfl⟩) hH4 ?_
        (try simp only [Act.put, List.setIfInBounds_toArray, List.set_cons_zero, List.set_cons_succ])
        refine wpAnyH_take (i := 20) (oi := ({ dst := some 43, op := Op.move (Operand.tmp 5), type := 3, pos := "law.go:45", after := #[{ on := 17, ground := Ground.guard }], guard := some (17, true) } : Oper)) (v := undef) rfl (by kernel_rfl) (by kernel_rfl) (by kernel_rfl) (fun _ _ _ h => h) (Or.inr ⟨by rfl, rfl⟩) hH4 ?_
        (try simp only [Act.put, List.setIfInBounds_toArray, List.set_cons_zero, List.set_cons_succ])
        refine wpAnyH_take (i := 21) (oi := ({ dst := some 44, op := Op.indexAddr 22 (Operand.tmp 42) (Operand.tmp 43), type := 0, pos := "law.go:45", after := #[{ on := 19, ground := Ground.data }, { on := 20, ground := Ground.data }, { on := 17, ground := Ground.guard }], guard := some (17, true) } : Oper)) (v := undef) rfl (by kernel_rfl) (by kernel_rfl) (by kernel_rfl) (fun _ _ _ h => h) (Or.inr ⟨by rfl, rfl⟩) hH4 ?_
        (try simp only [Act.put, List.setIfInBounds_toArray, List.set_cons_zero, List.set_cons_succ])
        refine wpAnyH_take (i := 22) (oi := ({ dst := some 45, op := Op.load 27 (Operand.tmp 44), type := 27, pos := "law.go:45", after := #[{ on := 21, ground := Ground.data }, { on := 17, ground := Ground.guard }], guard := some (17, true) } : Oper)) (v := undef) rfl (by kernel_rfl) (by kernel_rfl) (by kernel_rfl) (fun _ _ _ h => h) (Or.inr ⟨by rfl, rfl⟩) hH4 ?_
        (try simp only [Act.put, List.setIfInBounds_toArray, List.set_cons_zero, List.set_cons_succ])
        refine wpAnyH_take (i := 23) (oi := ({ dst := some 46, op := Op.call { callee := Callee.value (Operand.func 19), args := #[Operand.tmp 41, Operand.tmp 45], argTypes := #[27, 27] }, type := 4, pos := "law.go:45", after := #[{ on := 18, ground := Ground.data }, { on := 22, ground := Ground.data }, { on := 17, ground := Ground.chain }, { on := 17, ground := Ground.guard }], guard := some (17, true) } : Oper)) (v := undef) rfl (by kernel_rfl) (by kernel_rfl) (by kernel_rfl) (fun _ _ _ h => h) (Or.inr ⟨by rfl, rfl⟩) hH4 ?_
        (try simp only [Act.put, List.setIfInBounds_toArray, List.set_cons_zero, List.set_cons_succ])
        refine wpAnyH_take (i := 24) (oi := ({ dst := some 47, op := Op.load 27 (Operand.tmp 6), type := 27, pos := "law.go:45", after := #[{ on := 17, ground := Ground.guard }], guard := some (17, true) } : Oper)) (v := undef) rfl (by kernel_rfl) (by kernel_rfl) (by kernel_rfl) (fun _ _ _ h => h) (Or.inr ⟨by rfl, rfl⟩) hH4 ?_
        (try simp only [Act.put, List.setIfInBounds_toArray, List.set_cons_zero, List.set_cons_succ])
        refine wpAnyH_take (i := 25) (oi := ({ dst := some 48, op := Op.move (Operand.tmp 1), type := 22, pos := "law.go:45", after := #[{ on := 17, ground := Ground.guard }], guard := some (17, true) } : Oper)) (v := undef) rfl (by kernel_rfl) (by kernel_rfl) (by kernel_rfl) (fun _ _ _ h => h) (Or.inr ⟨by rfl, rfl⟩) hH4 ?_
        (try simp only [Act.put, List.setIfInBounds_toArray, List.set_cons_zero, List.set_cons_succ])
        refine wpAnyH_take (i := 26) (oi := ({ dst := some 49, op := Op.move (Operand.tmp 5), type := 3, pos := "law.go:45", after := #[{ on := 17, ground := Ground.guard }], guard := some (17, true) } : Oper)) (v := undef) rfl (by kernel_rfl) (by kernel_rfl) (by kernel_rfl) (fun _ _ _ h => h) (Or.inr ⟨by rfl, rfl⟩) hH4 ?_
        (try simp only [Act.put, List.setIfInBounds_toArray, List.set_cons_zero, List.set_cons_succ])
        refine wpAnyH_take (i := 27) (oi := ({ dst := some 50, op := Op.indexAddr 22 (Operand.tmp 48) (Operand.tmp 49), type := 0, pos := "law.go:45", after := #[{ on := 25, ground := Ground.data }, { on := 26, ground := Ground.data }, { on := 17, ground := Ground.guard }], guard := some (17, true) } : Oper)) (v := undef) rfl (by kernel_rfl) (by kernel_rfl) (by kernel_rfl) (fun _ _ _ h => h) (Or.inr ⟨by rfl, rfl⟩) hH4 ?_
        (try simp only [Act.put, List.setIfInBounds_toArray, List.set_cons_zero, List.set_cons_succ])
        refine wpAnyH_take (i := 28) (oi := ({ dst := some 51, op := Op.load 27 (Operand.tmp 50), type := 27, pos := "law.go:45", after := #[{ on := 27, ground := Ground.data }, { on := 17, ground := Ground.guard }], guard := some (17, true) } : Oper)) (v := undef) rfl (by kernel_rfl) (by kernel_rfl) (by kernel_rfl) (fun _ _ _ h => h) (Or.inr ⟨by rfl, rfl⟩) hH4 ?_
        (try simp only [Act.put, List.setIfInBounds_toArray, List.set_cons_zero, List.set_cons_succ])
        refine wpAnyH_take (i := 29) (oi := ({ dst := some 52, op := Op.call { callee := Callee.value (Operand.func 20), args := #[Operand.tmp 47, Operand.tmp 51], argTypes := #[27, 27] }, type := 4, pos := "law.go:45", after := #[{ on := 24, ground := Ground.data }, { on := 28, ground := Ground.data }, { on := 23, ground := Ground.chain }, { on := 17, ground := Ground.guard }], guard := some (17, true) } : Oper)) (v := undef) rfl (by kernel_rfl) (by kernel_rfl) (by kernel_rfl) (fun _ _ _ h => h) (Or.inr ⟨by rfl, rfl⟩) hH4 ?_
        (try simp only [Act.put, List.setIfInBounds_toArray, List.set_cons_zero, List.set_cons_succ])
        refine wpAnyH_take (i := 30) (oi := ({ dst := some 53, op := Op.binOp BinOp.neq 4 (Operand.tmp 46) (Operand.tmp 52) 4, type := 4, pos := "law.go:45", after := #[{ on := 23, ground := Ground.data }, { on := 29, ground := Ground.data }, { on := 17, ground := Ground.guard }], guard := some (17, true) } : Oper)) (v := undef) rfl (by kernel_rfl) (by kernel_rfl) (by kernel_rfl) (fun _ _ _ h => h) (Or.inr ⟨by rfl, rfl⟩) hH4 ?_
        (try simp only [Act.put, List.setIfInBounds_toArray, List.set_cons_zero, List.set_cons_succ])
        refine wpAnyH_take (i := 31) (oi := ({ dst := some 54, op := Op.pick (Operand.tmp 40) (Operand.tmp 53) (Operand.const (Value.bool false)), type := 4, pos := "law.go:45", after := #[{ on := 17, ground := Ground.data }, { on := 30, ground := Ground.data }, { on := 12, ground := Ground.guard }], guard := some (12, false) } : Oper)) (v := _) rfl (by kernel_rfl) (by kernel_rfl) (by kernel_rfl) (fun _ _ _ h => h) (Or.inl ⟨by rfl, (by intro w hSw; (try dsimp only at hSw); go_simp; try with_reducible rfl)⟩) hH4 ?_
        (try simp only [Act.put, List.setIfInBounds_toArray, List.set_cons_zero, List.set_cons_succ])
        refine wpAnyH_take (i := 32) (oi := ({ dst := some 55, op := Op.pick (Operand.tmp 35) (Operand.const (Value.bool true)) (Operand.tmp 54), type := 4, pos := "law.go:45", after := #[{ on := 12, ground := Ground.data }, { on := 31, ground := Ground.data }], guard := none } : Oper)) (v := _) rfl (by kernel_rfl) (by kernel_rfl) (by kernel_rfl) (fun _ _ _ h => h) (Or.inl ⟨by rfl, (by intro w hSw; (try dsimp only at hSw); go_simp; try with_reducible rfl)⟩) hH4 ?_
        (try simp only [Act.put, List.setIfInBounds_toArray, List.set_cons_zero, List.set_cons_succ])
        refine wpAnyH_done (by kernel_rfl) ?_ _
        have KZ := Lib.hid (KL.below KB.out hH4.2)
        go_wp2_with fail
        go_roundw
        case rel => exact ⟨k + 1, by omega, by go_num, KZ.out⟩
        case measure => simp [intOf]; omega
    · go_wp2_with fail
      exact HK.out _ _ (vv3 _ _ _ _ _ _ _ _ _ _ _ _ _ _ _ _ _ _ _ _ _ _ _ _ _ _ _ _ _ _ _ _ _ _ _ _ _ _ _ _ _ _ _ _ _ _ _ _ _ _ _ _ _ _ _ _ _ _ _ _ _ _ _ _ _ _ _ _ _ _ _ _ _ _ _ _ _ _ _ _ HA.out HG.out LA.out LB.out SA.out SB.out ZA.out K.out)
end Go.Proofs.YtplepijiceanlaaGreatDoor
