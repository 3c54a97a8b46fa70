/-
  The law of sums.
-/
import Derived.Test.YtchajbcmgdnpmaaGreatDoorSU
namespace Go.Proofs.YtchajbcmgdnpmaaGreatDoor
open Go.RowKit

def StrsV (x : World) (b : Nat) (L : List Bs) : Prop := b < x.heap.size ∧ ∀ i g, L[i]? = some g → x.cell? ⟨b, i, none⟩ = some (.string (baOf g))
theorem StrsV.below {x y : World} {b : Nat} {L : List Bs} (h : StrsV x b L) (hb : Below x.heap.size x y) : StrsV y b L :=
  ⟨Nat.lt_of_lt_of_le h.1 hb.size, fun i g hg => (hb.cell (p := ⟨b, i, none⟩) h.1).trans (h.2 i g hg)⟩
theorem strsV_new (w : World) (L : List Bs) (t : TypeId) : StrsV (w.alloc (.cells (L.map fun g => Value.string (baOf g)).toArray t)) w.heap.size L :=
  ⟨by simp, fun i g hg => (World.cell?_alloc_new w _ t i).trans (by simp [hg])⟩
theorem drewNewV (w : World) (o : Obj) : Below w.heap.size w (w.drew.alloc o) := ((Below.refl _ _).drew).alloc (Nat.le_refl _) o
set_option maxRecDepth 100000 in
set_option maxHeartbeats 4000000 in
theorem valueSums_ (A : Option Addr) (c : Nat) (l : List Va) (cut : Int) (w : World) (E : Env w) (hc0 : 0 ≤ cut) (hc1 : cut < 65536) (hl : l.length ≤ 4398046511000) (hcap : l.length ≤ c) (h : Sl w A l) (hz : ∀ v ∈ l, v.s.size ≤ maxLen) :
    Calls Tryz.prog 5 #[.slice A l.length c, .int .u16 cut] w fun e w' => e = .returned (.bool true) ∧ Below w.heap.size w w' := by
  have HG := Lib.hid E.gl
  clear E
  have HA := Lib.hid fun x (hx : Gl x) => awake_ x hx
  have hlm : l.length ≤ maxLen := by simp only [maxLen]; omega
  cases hok : allOk l
  · go_enter Tryz.func5, Tryz.ntmps5
    go_wp2_with (first
      | (go_at_call 6; refine (few_ A c l _ hlm h).mono ?_; rintro e y ⟨⟨bb, rfl⟩, hb⟩; have HB := Lib.hid hb; clear hb)
      | (go_at_call 20; refine (ref_all A c l _ hlm hz (h.below HB.out)).mono ?_; rintro e y2 ⟨rfl, hb⟩; rw [hok]; have HB' := Lib.hid (HB.out.trans (hb.mono HB.out.size)); clear hb HB; have HB := HB'; clear HB')
      | (go_at_call 7; refine (HA.out _ (HG.out.below HB.out)).mono ?_; rintro e y3 ⟨rfl, hb⟩; have HZ := Lib.hid (HB.out.trans (hb.mono HB.out.size)); clear hb))
    all_goals (go_ret; exact ⟨rfl, HZ.out⟩)
  · have hs : ∀ v ∈ l, v.s.size ≤ 200 := by
      intro v hv
      have hv' : v.ok = true := List.all_eq_true.1 hok v hv
      rcases ok_cases v hv' with rfl | ⟨n, -, -, rfl⟩ | ⟨b, rfl⟩ | ⟨b, rfl⟩
      · exact Nat.zero_le _
      · exact Nat.zero_le _
      · have : vld 2 0 (baOf b) = true := hv'
        rw [vld2, Bool.and_eq_true] at this
        exact okSize _ this.2
      · exact Nat.zero_le _
    by_cases hn : l.length = 0
    · have hnI : ((l.length : Int) == 0) = true := by simp [hn]
      clear hn hs
      go_enter Tryz.func5, Tryz.ntmps5
      go_wp2_with (first
        | (go_at_call 6; refine (few_ A c l _ hlm h).mono ?_; rintro e y ⟨⟨bb, rfl⟩, hb⟩; have HB := Lib.hid hb; clear hb)
        | (go_at_call 20; refine (ref_all A c l _ hlm hz (h.below HB.out)).mono ?_; rintro e y2 ⟨rfl, hb⟩; rw [hok]; have HB' := Lib.hid (HB.out.trans (hb.mono HB.out.size)); clear hb HB; have HB := HB'; clear HB')
        | (go_at_call 7; refine (HA.out _ (HG.out.below HB.out)).mono ?_; rintro e y3 ⟨rfl, hb⟩; have HZ := Lib.hid (HB.out.trans (hb.mono HB.out.size)); clear hb))
      all_goals (go_ret; exact ⟨rfl, HZ.out⟩)
    · obtain ⟨b, off, rfl⟩ : ∃ b off, A = some ⟨b, off, none⟩ := by
        obtain ⟨b, off, e, _⟩ := h 0 _ (List.getElem?_eq_getElem (by omega : 0 < l.length))
        exact ⟨b, off, e⟩
      obtain ⟨k, hk, hkl⟩ : ∃ k : Nat, cut.tmod (l.length : Int) = (k : Int) ∧ k < l.length := by
        refine ⟨(cut.tmod (l.length : Int)).toNat, ?_, ?_⟩
        · have := Int.tmod_nonneg (l.length : Int) hc0
          omega
        · have h1 := Int.tmod_nonneg (l.length : Int) hc0
          have h2 := Int.tmod_lt_of_pos cut (b := (l.length : Int)) (by omega)
          omega
      have hnI : ((l.length : Int) == 0) = false := by rw [beq_eq_false_iff_ne]; omega
      clear hn
      have hkI : (k : Int) < l.length := by omega
      have hcI : (l.length : Int) ≤ c := by omega
      have hkc : (k : Int) ≤ c := by omega
      have hkn : k ≤ l.length := by omega
      have hkcn : k ≤ c := by omega
      have hck : ¬ c = k := by omega
      have hlk : ¬ l.length = k := by omega
      go_enter Tryz.func5, Tryz.ntmps5
      go_upto_region 4 with (first
        | (go_at_call 6; refine (few600_ (some ⟨b, off, none⟩) c l _ hl h hs).mono ?_; rintro e y ⟨⟨bb, rfl, hbb⟩, hb⟩; have HB := Lib.hid hb; clear hb)
        | (go_at_call 20; refine (ref_all (some ⟨b, off, none⟩) c l _ hlm hz (h.below HB.out)).mono ?_; rintro e y2 ⟨rfl, hb⟩; rw [hok]; have HB' := Lib.hid (HB.out.trans (hb.mono HB.out.size)); clear hb HB; have HB := HB'; clear HB')
        | (go_at_call 7; refine (HA.out _ (HG.out.below HB.out)).mono ?_; rintro e y3 ⟨rfl, hb⟩; have HZ := Lib.hid (HB.out.trans (hb.mono HB.out.size)); clear hb))
      all_goals first | (go_ret; exact ⟨rfl, HZ.out⟩) | skip
      have h600 : l.length ≤ 600 := hbb (by assumption)
      clear hbb
      go_cut [6] (fun v6 wx => ∃ A' c', v6 = .slice A' l.length c' ∧ Sl wx A' (l.drop k ++ l.take k) ∧ Below w.heap.size w wx)
      case first =>
        have hsz := HB.out.size
        go_region_law (first
          | (refine step_append_vals rfl (.tmp 39) (.tmp 42) rfl y2.heap.size (.slice (some ⟨y2.heap.size, 0, none⟩) 0 0) [] (by simp [Act.eval]) (OwnV.new y2.drew) b (off + k * 3) (l.length - k) (c - k) (l.drop k) (by simp [Act.eval]) (List.length_drop) ((sl_drop h k).below (HB.out.trans ((drewNewV y2 _).mono hsz))) (by simp; omega) (by simp) ?_
             intro v1 w1 ho1 hg1
             have HO1 := Lib.hid ho1
             have HB1 := Lib.hid ((HB.out.trans ((drewNewV y2 (.cells #[] 27)).mono hsz)).grown hg1 (by simp; omega) (fun j hj => by cases hj; omega))
             have HZ1 : Hid (y2.heap.size ≤ w1.heap.size) := Lib.hid (by have := hg1.size; simp at this; omega)
             obtain ⟨A1, c1, rfl, hs1⟩ := HO1.out.sl
             clear ho1 hg1)
          | (refine step_append_vals rfl (.tmp 43) (.tmp 46) rfl y2.heap.size (.slice A1 (l.drop k).length c1) (l.drop k) (by simp [Act.eval]) HO1.out b off k c (l.take k) (by simp [Act.eval]) (by rw [List.length_take]; omega) ((sl_take h k).below HB1.out) (by simp; omega) HZ1.out ?_
             intro v2 w2 ho2 hg2
             have HO2 := Lib.hid ho2
             have HB2 := Lib.hid (HB1.out.grown hg2 (by have := HZ1.out; have := HB.out.size; omega) (fun j hj => by have := (World.ownsRow.lt HO1.out j hj).1; have := HB.out.size; omega))
             obtain ⟨A2, c2, rfl, hs2⟩ := HO2.out.sl
             have hln : (l.drop k ++ l.take k).length = l.length := by simp; omega
             rw [hln]
             clear ho2 hg2))
        all_goals go_wp2_with fail
        all_goals go_meet
        all_goals exact ⟨A2, c2, rfl, hs2, HB2.out⟩
      case rest =>
        obtain ⟨A', c', rfl, hS2, hBx0⟩ := hcut
        have HBX := Lib.hid hBx0
        have HS2 := Lib.hid hS2
        have HL := Lib.hid h
        clear hBx0 hS2 h hs
        go_wp2_with fail
        go_loopw [50] (fun i x => ∃ j : Nat, j ≤ 4 ∧ i = .int .i64 j ∧ StrsV x wc.heap.size agN ∧ Below wc.heap.size wc x) (fun i x => 4 - (intOf i).toNat)
        case atStart => exact ⟨0, Nat.zero_le _, rfl, strsV_new wc agN 9, new1 _ _⟩
        case round =>
          obtain ⟨j, hj, rfl, hT, hBx⟩ := hrel
          have T := Lib.hid hT
          clear hT
          by_cases hlt : j < 4
          · obtain ⟨g, hg⟩ : ∃ g, agN[j]? = some g := ⟨agN[j]'hlt, List.getElem?_eq_getElem hlt⟩
            have nm := T.out.2 j g hg
            have nml := T.out.1
            have tab := ag_tab j g hg
            have HLx : Sl wr (some ⟨b, off, none⟩) l := (HL.out.below HBX.out).below hBx
            have HS2x : Sl wr A' (l.drop k ++ l.take k) := HS2.out.below hBx
            have hall : allOk (l.take k ++ l.drop k) = true := by rw [List.take_append_drop]; exact hok
            have hturn : agS j (l.drop k ++ l.take k) = agS j l := by rw [ag_turn j (l.take k) (l.drop k) hall, List.take_append_drop]
            have hlen : (l.drop k ++ l.take k).length = l.length := by simp; omega
            have hokt : allOk (l.take k) = true := by unfold allOk at hall ⊢; rw [List.all_append, Bool.and_eq_true] at hall; exact hall.1
            have hokd : allOk (l.drop k) = true := by unfold allOk at hall ⊢; rw [List.all_append, Bool.and_eq_true] at hall; exact hall.2
            have hok2 : allOk (l.drop k ++ l.take k) = true := by unfold allOk at hokt hokd ⊢; rw [List.all_append, hokt, hokd]; rfl
            have C10 := fun z (hz : Below wr.heap.size wr z) => aggr_ (baOf g) j tab (some ⟨b, off, none⟩) c l z hlm (HLx.below hz) hok
            have C20 := fun z (hz : Below wr.heap.size wr z) => aggr_ (baOf g) j tab A' c' (l.drop k ++ l.take k) z (by rw [hlen]; exact hlm) (HS2x.below hz) hok2
            have C30 := fun z (hz : Below wr.heap.size wr z) => aggr_ (baOf g) j tab (some ⟨b, off, none⟩) k (l.take k) z (by rw [List.length_take]; omega) ((sl_take HLx k).below hz) hokt
            have C40 := fun z (hz : Below wr.heap.size wr z) => aggr_ (baOf g) j tab (some ⟨b, off + k * 3, none⟩) (l.length - k) (l.drop k) z (by rw [List.length_drop]; omega) ((sl_drop HLx k).below hz) hokd
            rw [hlen, hturn] at C20
            rw [List.length_take, Nat.min_eq_left hkn] at C30
            rw [List.length_drop] at C40
            obtain ⟨⟨x, e⟩, hx⟩ : ∃ r, agS j l = r := ⟨_, rfl⟩
            obtain ⟨⟨p, g1⟩, hp⟩ : ∃ r, agS j (l.take k) = r := ⟨_, rfl⟩
            obtain ⟨⟨q, h1⟩, hq⟩ : ∃ r, agS j (l.drop k) = r := ⟨_, rfl⟩
            rw [hx] at C10 C20
            rw [hp] at C30
            rw [hq] at C40
            have C1 := Lib.hid C10
            have C2 := Lib.hid C20
            have C3 := Lib.hid C30
            have C4 := Lib.hid C40
            have hboth := ag_both j (l.take k) (l.drop k) x
            rw [List.take_append_drop] at hboth
            have HBo := Lib.hid fun a b c d e f => hboth a b c d e f
            have CB := Lib.hid (both_ j g hg)
            have K := Lib.hid (KL.refl wr)
            have hxx := eqV_me x
            have ee : (e == e) = true := by simp
            clear C10 C20 C30 C40 hboth hturn hall hokt hokd hok2 HS2x HLx hlen
            by_cases he : e = 0
            · by_cases hg1 : g1 = 0
              · by_cases hh1 : h1 = 0
                · obtain ⟨B1, B2, B3⟩ := HBo.out p q hok h600 (by rw [hx, he]) (by rw [hp, hg1]) (by rw [hq, hh1])
                  subst he hg1 hh1
                  clear hx hp hq HBo
                  by_cases pk : p.k = 0
                  · have hpk : (p.k == 0) = true := by simp [pk]
                    have hqx := B1 pk
                    clear B1 B2 B3 pk
                    subst hqx
                    go_wp2_with (first
                      | (go_at_call 10; (with_reducible refine (C1.out _ K.out.HB).mono ?_); rintro e a1 ⟨rfl, hb⟩; have K' := Lib.hid (KL.below K.out hb); clear hb K; have K := K'; clear K'; have HB := K.out.HB)
                      | (go_at_call 10; (with_reducible refine (C2.out _ (KL.alloc K.out _).HB).mono ?_); rintro e a2 ⟨rfl, hb⟩; have K' := Lib.hid (KL.below (KL.push K.out _ _ _ 27) hb); clear hb K HB; have K := K'; clear K'; obtain ⟨HB, ⟨x0, x1, x2, _, _, _, xl⟩, _⟩ := K.out)
                      | (go_at_call 10; (with_reducible refine (C3.out _ (KL.alloc K.out _).HB).mono ?_); rintro e a3 ⟨rfl, hb⟩; have K' := Lib.hid (KL.below (KL.push K.out _ _ _ 27) hb); clear hb K HB x0 x1 x2 xl; have K := K'; clear K'; obtain ⟨HB, ⟨y0, y1, y2, _, _, _, yl⟩, ⟨x0, x1, x2, _, _, _, xl⟩, _⟩ := K.out)
                      | (go_at_call 10; (with_reducible refine (C4.out _ (KL.alloc K.out _).HB).mono ?_); rintro e a4 ⟨rfl, hb⟩; have K' := Lib.hid (KL.below (KL.push K.out _ _ _ 27) hb); clear hb K HB x0 x1 x2 xl y0 y1 y2 yl; have K := K'; clear K'; obtain ⟨HB, ⟨p0, p1, p2, _, _, _, pl⟩, ⟨y0, y1, y2, _, _, _, yl⟩, ⟨x0, x1, x2, _, _, _, xl⟩, _⟩ := K.out)
                      | (go_at_call 21; (with_reducible refine (CB.out _).mono ?_); rintro e a5 ⟨rfl, rfl⟩; have hz4 : wr.heap.size ≤ a4.heap.size + 1 := Nat.le_succ_of_le K.out.HB.size; have hp4 := pl; have hy4 := yl; have hx4 := xl))
                    go_roundw
                    case rel => exact ⟨j + 1, by omega, by go_num, T.out.below (KL.alloc (KL.alloc K.out _) _).HB, hBx.trans ((KL.alloc (KL.alloc K.out _) _).HB.mono hBx.size)⟩
                    case measure => simp [intOf]; omega
                  · by_cases qk : q.k = 0
                    · have hpk : (p.k == 0) = false := by simp [pk]
                      have hqk : (q.k == 0) = true := by simp [qk]
                      have hpx := B2 pk qk
                      clear B1 B2 B3 pk qk
                      subst hpx
                      go_wp2_with (first
                        | (go_at_call 10; (with_reducible refine (C1.out _ K.out.HB).mono ?_); rintro e a1 ⟨rfl, hb⟩; have K' := Lib.hid (KL.below K.out hb); clear hb K; have K := K'; clear K'; have HB := K.out.HB)
                        | (go_at_call 10; (with_reducible refine (C2.out _ (KL.alloc K.out _).HB).mono ?_); rintro e a2 ⟨rfl, hb⟩; have K' := Lib.hid (KL.below (KL.push K.out _ _ _ 27) hb); clear hb K HB; have K := K'; clear K'; obtain ⟨HB, ⟨x0, x1, x2, _, _, _, xl⟩, _⟩ := K.out)
                        | (go_at_call 10; (with_reducible refine (C3.out _ (KL.alloc K.out _).HB).mono ?_); rintro e a3 ⟨rfl, hb⟩; have K' := Lib.hid (KL.below (KL.push K.out _ _ _ 27) hb); clear hb K HB x0 x1 x2 xl; have K := K'; clear K'; obtain ⟨HB, ⟨y0, y1, y2, _, _, _, yl⟩, ⟨x0, x1, x2, _, _, _, xl⟩, _⟩ := K.out)
                        | (go_at_call 10; (with_reducible refine (C4.out _ (KL.alloc K.out _).HB).mono ?_); rintro e a4 ⟨rfl, hb⟩; have K' := Lib.hid (KL.below (KL.push K.out _ _ _ 27) hb); clear hb K HB x0 x1 x2 xl y0 y1 y2 yl; have K := K'; clear K'; obtain ⟨HB, ⟨p0, p1, p2, _, _, _, pl⟩, ⟨y0, y1, y2, _, _, _, yl⟩, ⟨x0, x1, x2, _, _, _, xl⟩, _⟩ := K.out)
                        | (go_at_call 21; (with_reducible refine (CB.out _).mono ?_); rintro e a5 ⟨rfl, rfl⟩; have hz4 : wr.heap.size ≤ a4.heap.size + 1 := Nat.le_succ_of_le K.out.HB.size; have hp4 := pl; have hy4 := yl; have hx4 := xl))
                      go_roundw
                      case rel => exact ⟨j + 1, by omega, by go_num, T.out.below (KL.alloc (KL.alloc K.out _) _).HB, hBx.trans ((KL.alloc (KL.alloc K.out _) _).HB.mono hBx.size)⟩
                      case measure => simp [intOf]; omega
                    · have hpk : (p.k == 0) = false := by simp [pk]
                      have hqk : (q.k == 0) = false := by simp [qk]
                      obtain ⟨S1, S2⟩ := B3 pk qk
                      clear B1 B2 B3 pk qk
                      by_cases hj1 : j ≤ 1
                      · have hop : opB j = sPl := by match j, hj1 with | 0, _ => rfl | 1, _ => rfl
                        rw [hop] at CB
                        have CX0 := fun z => binary_ sPl p q z
                        rw [S1 hj1] at CX0
                        have CX := Lib.hid CX0
                        clear S1 S2 CX0 hop
                        go_upto_region 24 with (first
                          | (go_at_call 10; (with_reducible refine (C1.out _ K.out.HB).mono ?_); rintro e a1 ⟨rfl, hb⟩; have K' := Lib.hid (KL.below K.out hb); clear hb K; have K := K'; clear K'; have HB := K.out.HB)
                          | (go_at_call 10; (with_reducible refine (C2.out _ (KL.alloc K.out _).HB).mono ?_); rintro e a2 ⟨rfl, hb⟩; have K' := Lib.hid (KL.below (KL.push K.out _ _ _ 27) hb); clear hb K HB; have K := K'; clear K'; obtain ⟨HB, ⟨x0, x1, x2, _, _, _, xl⟩, _⟩ := K.out)
                          | (go_at_call 10; (with_reducible refine (C3.out _ (KL.alloc K.out _).HB).mono ?_); rintro e a3 ⟨rfl, hb⟩; have K' := Lib.hid (KL.below (KL.push K.out _ _ _ 27) hb); clear hb K HB x0 x1 x2 xl; have K := K'; clear K'; obtain ⟨HB, ⟨y0, y1, y2, _, _, _, yl⟩, ⟨x0, x1, x2, _, _, _, xl⟩, _⟩ := K.out)
                          | (go_at_call 10; (with_reducible refine (C4.out _ (KL.alloc K.out _).HB).mono ?_); rintro e a4 ⟨rfl, hb⟩; have K' := Lib.hid (KL.below (KL.push K.out _ _ _ 27) hb); clear hb K HB x0 x1 x2 xl y0 y1 y2 yl; have K := K'; clear K'; obtain ⟨HB, ⟨p0, p1, p2, _, _, _, pl⟩, ⟨y0, y1, y2, _, _, _, yl⟩, ⟨x0, x1, x2, _, _, _, xl⟩, _⟩ := K.out)
                          | (go_at_call 21; (with_reducible refine (CB.out _).mono ?_); rintro e a5 ⟨rfl, rfl⟩; have hz4 : wr.heap.size ≤ a4.heap.size + 1 := Nat.le_succ_of_le K.out.HB.size; have hp4 := pl; have hy4 := yl; have hx4 := xl)
                          | (go_at_call 22; (with_reducible refine (CX.out _).mono ?_); rintro e a6 ⟨rfl, hb⟩; have K' := Lib.hid (KL.below (KL.push' (KL.push K.out (.int .i64 q.k) (.int .i64 q.n) (.string q.s) 27) (a4.heap.size + 1) (sz1 _ _) (.int .i64 0) (.int .i64 0) (.string ⟨#[]⟩) 27) hb); clear hb K HB x0 x1 x2 xl y0 y1 y2 yl p0 p1 p2 pl; have K := K'; clear K'; obtain ⟨HB, ⟨z0, z1, z2, _, _, _, zl⟩, ⟨q0, q1, q2, _, _, _, ql⟩, ⟨p0, p1, p2, _, _, _, pl⟩, ⟨y0, y1, y2, _, _, _, yl⟩, ⟨x0, x1, x2, _, _, _, xl⟩, _⟩ := K.out))
                        have K5 := Lib.hid ((K.out).set (hz4) (by intro r hr; simp only [List.mem_cons, List.not_mem_nil, or_false] at hr; rcases hr with rfl | rfl | rfl | rfl <;> (dsimp only; omega)) (.int .i64 x.k) (.int .i64 x.n) (.string x.s))
                        clear K HB x0 x1 x2 xl y0 y1 y2 yl p0 p1 p2 pl q0 q1 q2 ql z0 z1 z2 zl
                        obtain ⟨HB, ⟨z0, z1, z2, _, _, _, zl⟩, ⟨q0, q1, q2, _, _, _, ql⟩, ⟨p0, p1, p2, _, _, _, pl⟩, ⟨y0, y1, y2, _, _, _, yl⟩, ⟨x0, x1, x2, _, _, _, xl⟩, _⟩ := K5.out
                        go_wp2_with fail
                        go_roundw
                        case rel => exact ⟨j + 1, by omega, by go_num, T.out.below K5.out.HB, hBx.trans (K5.out.HB.mono hBx.size)⟩
                        case measure => simp [intOf]; omega
                      · have hj2 : 2 ≤ j := by omega
                        obtain ⟨s1, s2, s3, s4⟩ := S2 hj2
                        clear S1 S2
                        have hf : ∀ z, Calls Tryz.prog 39 #[.string (opB j)] z (RetTwo (sideS j) z) := by
                          intro z
                          rcases (by omega : j = 2 ∨ j = 3) with rfl | rfl
                          · exact functionOf_least z
                          · exact functionOf_greatest z
                        have hpl : ((opB j).toList == [43]) = false := by
                          rw [toList_dat]
                          rcases (by omega : j = 2 ∨ j = 3) with rfl | rfl <;> decide
                        have CX0 := fun z A (hs : Sl z A [p, q]) => callOuter_ (opB j) (sideS j) hf p q A 2 z s1 s2 s3 hs
                        rw [s4] at CX0
                        have CX := Lib.hid CX0
                        clear CX0 s1 s2 s3 s4 hf
                        go_upto_region 24 with (first
                          | (go_at_call 10; (with_reducible refine (C1.out _ K.out.HB).mono ?_); rintro e a1 ⟨rfl, hb⟩; have K' := Lib.hid (KL.below K.out hb); clear hb K; have K := K'; clear K'; have HB := K.out.HB)
                          | (go_at_call 10; (with_reducible refine (C2.out _ (KL.alloc K.out _).HB).mono ?_); rintro e a2 ⟨rfl, hb⟩; have K' := Lib.hid (KL.below (KL.push K.out _ _ _ 27) hb); clear hb K HB; have K := K'; clear K'; obtain ⟨HB, ⟨x0, x1, x2, _, _, _, xl⟩, _⟩ := K.out)
                          | (go_at_call 10; (with_reducible refine (C3.out _ (KL.alloc K.out _).HB).mono ?_); rintro e a3 ⟨rfl, hb⟩; have K' := Lib.hid (KL.below (KL.push K.out _ _ _ 27) hb); clear hb K HB x0 x1 x2 xl; have K := K'; clear K'; obtain ⟨HB, ⟨y0, y1, y2, _, _, _, yl⟩, ⟨x0, x1, x2, _, _, _, xl⟩, _⟩ := K.out)
                          | (go_at_call 10; (with_reducible refine (C4.out _ (KL.alloc K.out _).HB).mono ?_); rintro e a4 ⟨rfl, hb⟩; have K' := Lib.hid (KL.below (KL.push K.out _ _ _ 27) hb); clear hb K HB x0 x1 x2 xl y0 y1 y2 yl; have K := K'; clear K'; obtain ⟨HB, ⟨p0, p1, p2, _, _, _, pl⟩, ⟨y0, y1, y2, _, _, _, yl⟩, ⟨x0, x1, x2, _, _, _, xl⟩, _⟩ := K.out)
                          | (go_at_call 21; (with_reducible refine (CB.out _).mono ?_); rintro e a5 ⟨rfl, rfl⟩; have hz4 : wr.heap.size ≤ a4.heap.size + 1 := Nat.le_succ_of_le K.out.HB.size; have hp4 := pl; have hy4 := yl; have hx4 := xl)
                          | (go_at_call 8; (with_reducible refine (CX.out _ _ (by first | exact sl2' _ _ (sz2 _ _ _) _ _ _ _ _ _ | exact sl2' _ _ rfl _ _ _ _ _ _)).mono ?_); rintro e a6 ⟨rfl, hb⟩; have K' := Lib.hid (KL.below (KL.alloc (KL.push' (KL.push K.out (.int .i64 q.k) (.int .i64 q.n) (.string q.s) 27) (a4.heap.size + 1) (sz1 _ _) (.int .i64 0) (.int .i64 0) (.string ⟨#[]⟩) 27) _) hb); clear hb K HB x0 x1 x2 xl y0 y1 y2 yl p0 p1 p2 pl; have K := K'; clear K'; obtain ⟨HB, ⟨z0, z1, z2, _, _, _, zl⟩, ⟨q0, q1, q2, _, _, _, ql⟩, ⟨p0, p1, p2, _, _, _, pl⟩, ⟨y0, y1, y2, _, _, _, yl⟩, ⟨x0, x1, x2, _, _, _, xl⟩, _⟩ := K.out))
                        have K5 := Lib.hid ((K.out).set (hz4) (by intro r hr; simp only [List.mem_cons, List.not_mem_nil, or_false] at hr; rcases hr with rfl | rfl | rfl | rfl <;> (dsimp only; omega)) (.int .i64 x.k) (.int .i64 x.n) (.string x.s))
                        clear K HB x0 x1 x2 xl y0 y1 y2 yl p0 p1 p2 pl q0 q1 q2 ql z0 z1 z2 zl
                        obtain ⟨HB, ⟨z0, z1, z2, _, _, _, zl⟩, ⟨q0, q1, q2, _, _, _, ql⟩, ⟨p0, p1, p2, _, _, _, pl⟩, ⟨y0, y1, y2, _, _, _, yl⟩, ⟨x0, x1, x2, _, _, _, xl⟩, _⟩ := K5.out
                        go_wp2_with fail
                        go_roundw
                        case rel => exact ⟨j + 1, by omega, by go_num, T.out.below K5.out.HB, hBx.trans (K5.out.HB.mono hBx.size)⟩
                        case measure => simp [intOf]; omega
                · subst he hg1
                  have hh : (h1 == 0) = false := by simpa using hh1
                  clear hx hp hq HBo hh1
                  go_wp2_with (first
                    | (go_at_call 10; (with_reducible refine (C1.out _ K.out.HB).mono ?_); rintro e a1 ⟨rfl, hb⟩; have K' := Lib.hid (KL.below K.out hb); clear hb K; have K := K'; clear K'; have HB := K.out.HB)
                    | (go_at_call 10; (with_reducible refine (C2.out _ (KL.alloc K.out _).HB).mono ?_); rintro e a2 ⟨rfl, hb⟩; have K' := Lib.hid (KL.below (KL.push K.out _ _ _ 27) hb); clear hb K HB; have K := K'; clear K'; obtain ⟨HB, ⟨x0, x1, x2, _, _, _, xl⟩, _⟩ := K.out)
                    | (go_at_call 10; (with_reducible refine (C3.out _ (KL.alloc K.out _).HB).mono ?_); rintro e a3 ⟨rfl, hb⟩; have K' := Lib.hid (KL.below (KL.push K.out _ _ _ 27) hb); clear hb K HB x0 x1 x2 xl; have K := K'; clear K'; obtain ⟨HB, ⟨y0, y1, y2, _, _, _, yl⟩, ⟨x0, x1, x2, _, _, _, xl⟩, _⟩ := K.out)
                    | (go_at_call 10; (with_reducible refine (C4.out _ (KL.alloc K.out _).HB).mono ?_); rintro e a4 ⟨rfl, hb⟩; have K' := Lib.hid (KL.below (KL.push K.out _ _ _ 27) hb); clear hb K HB x0 x1 x2 xl y0 y1 y2 yl; have K := K'; clear K'; obtain ⟨HB, ⟨p0, p1, p2, _, _, _, pl⟩, ⟨y0, y1, y2, _, _, _, yl⟩, ⟨x0, x1, x2, _, _, _, xl⟩, _⟩ := K.out))
                  all_goals go_roundw
                  all_goals first | exact ⟨j + 1, by omega, by go_num, T.out.below (KL.alloc K.out _).HB, hBx.trans ((KL.alloc K.out _).HB.mono hBx.size)⟩ | (simp [intOf]; omega)
              · subst he
                have hh : (g1 == 0) = false := by simpa using hg1
                clear hx hp hq HBo hg1
                go_wp2_with (first
                  | (go_at_call 10; (with_reducible refine (C1.out _ K.out.HB).mono ?_); rintro e a1 ⟨rfl, hb⟩; have K' := Lib.hid (KL.below K.out hb); clear hb K; have K := K'; clear K'; have HB := K.out.HB)
                  | (go_at_call 10; (with_reducible refine (C2.out _ (KL.alloc K.out _).HB).mono ?_); rintro e a2 ⟨rfl, hb⟩; have K' := Lib.hid (KL.below (KL.push K.out _ _ _ 27) hb); clear hb K HB; have K := K'; clear K'; obtain ⟨HB, ⟨x0, x1, x2, _, _, _, xl⟩, _⟩ := K.out)
                  | (go_at_call 10; (with_reducible refine (C3.out _ (KL.alloc K.out _).HB).mono ?_); rintro e a3 ⟨rfl, hb⟩; have K' := Lib.hid (KL.below (KL.push K.out _ _ _ 27) hb); clear hb K HB x0 x1 x2 xl; have K := K'; clear K'; obtain ⟨HB, ⟨y0, y1, y2, _, _, _, yl⟩, ⟨x0, x1, x2, _, _, _, xl⟩, _⟩ := K.out)
                  | (go_at_call 10; (with_reducible refine (C4.out _ (KL.alloc K.out _).HB).mono ?_); rintro e a4 ⟨rfl, hb⟩; have K' := Lib.hid (KL.below (KL.push K.out _ _ _ 27) hb); clear hb K HB x0 x1 x2 xl y0 y1 y2 yl; have K := K'; clear K'; obtain ⟨HB, ⟨p0, p1, p2, _, _, _, pl⟩, ⟨y0, y1, y2, _, _, _, yl⟩, ⟨x0, x1, x2, _, _, _, xl⟩, _⟩ := K.out))
                all_goals go_roundw
                all_goals first | exact ⟨j + 1, by omega, by go_num, T.out.below (KL.alloc K.out _).HB, hBx.trans ((KL.alloc K.out _).HB.mono hBx.size)⟩ | (simp [intOf]; omega)
            · have hh : (e == 0) = false := by simpa using he
              clear hx hp hq HBo he
              go_wp2_with (first
                | (go_at_call 10; (with_reducible refine (C1.out _ K.out.HB).mono ?_); rintro e a1 ⟨rfl, hb⟩; have K' := Lib.hid (KL.below K.out hb); clear hb K; have K := K'; clear K'; have HB := K.out.HB)
                | (go_at_call 10; (with_reducible refine (C2.out _ (KL.alloc K.out _).HB).mono ?_); rintro e a2 ⟨rfl, hb⟩; have K' := Lib.hid (KL.below (KL.push K.out _ _ _ 27) hb); clear hb K HB; have K := K'; clear K'; obtain ⟨HB, ⟨x0, x1, x2, _, _, _, xl⟩, _⟩ := K.out)
                | (go_at_call 10; (with_reducible refine (C3.out _ (KL.alloc K.out _).HB).mono ?_); rintro e a3 ⟨rfl, hb⟩; have K' := Lib.hid (KL.below (KL.push K.out _ _ _ 27) hb); clear hb K HB x0 x1 x2 xl; have K := K'; clear K'; obtain ⟨HB, ⟨y0, y1, y2, _, _, _, yl⟩, ⟨x0, x1, x2, _, _, _, xl⟩, _⟩ := K.out)
                | (go_at_call 10; (with_reducible refine (C4.out _ (KL.alloc K.out _).HB).mono ?_); rintro e a4 ⟨rfl, hb⟩; have K' := Lib.hid (KL.below (KL.push K.out _ _ _ 27) hb); clear hb K HB x0 x1 x2 xl y0 y1 y2 yl; have K := K'; clear K'; obtain ⟨HB, ⟨p0, p1, p2, _, _, _, pl⟩, ⟨y0, y1, y2, _, _, _, yl⟩, ⟨x0, x1, x2, _, _, _, xl⟩, _⟩ := K.out))
              all_goals go_roundw
              all_goals first | exact ⟨j + 1, by omega, by go_num, T.out.below (KL.alloc K.out _).HB, hBx.trans ((KL.alloc K.out _).HB.mono hBx.size)⟩ | (simp [intOf]; omega)
          · obtain rfl : j = 4 := by omega
            have HB := Lib.hid (HBX.out.trans (hBx.mono HBX.out.size))
            go_wp2_with (first
              | (go_at_call 7; refine (HA.out _ (HG.out.below HB.out)).mono ?_; rintro e y3 ⟨rfl, hb⟩; have HZ := Lib.hid (HB.out.trans (hb.mono HB.out.size)); clear hb))
            go_ret
            exact ⟨rfl, HZ.out⟩
end Go.Proofs.YtchajbcmgdnpmaaGreatDoor
