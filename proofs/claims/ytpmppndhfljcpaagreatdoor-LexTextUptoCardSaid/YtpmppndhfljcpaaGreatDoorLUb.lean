/-
  Contracts of package lex: the fault that something raised is, case by case.
-/
import Derived.Test.YtpmppndhfljcpaaGreatDoorGg
import Derived.ChangeAlike
import Derived.RegionTactic
namespace Go.Proofs.YtpmppndhfljcpaaGreatDoor
open Go.RowKit

set_option maxRecDepth 100000 in
set_option maxHeartbeats 4000000 in
theorem faultOf_excess (R : Nat) (s : ByteArray) (k i ln st : Nat) (nm : ByteArray) (w : World) (h : BL w R (rd s k i ln st)) (hi : i ≤ 4000000) (hst : st ≤ i) (hn : nm.size ≤ 4000000) :
    Calls Tryz.prog 77 #[.pointer (some ⟨R, 0, none⟩), .iface 144 (.agg #[.string nm])] w fun e w' => e = .returned (flV 21 nm ln ((i : Int) - st + 1)) ∧ Below w.heap.size w w' := by
  have K0 := Lib.hid ((KG.refl w).push' w.heap.size rfl (flC 0 ⟨#[]⟩ 0 0) 45)
  have HR := Lib.hid h
  have HC := Lib.hid fun x (hx : BL x R (rd s k i ln st)) => column_ R s k i ln st x hx hst hi
  have HCL := Lib.hid fun x => sclone_ nm x hn
  obtain ⟨c0, c1, c2, c3, c4, f0, f1, f2, f3, f4, hl⟩ := h.open5
  clear h
  go_enter Tryz.func77, Tryz.ntmps77
  go_upto_region 1 with fail
  go_cut [5] (fun s5 wx => s5 = .pointer (some ⟨w.heap.size + 1, 0, none⟩) ∧ KG w wx [(w.heap.size + 1, flC 10 ⟨#[]⟩ ln ((i : Int) - st + 1)), (w.heap.size, flC 0 ⟨#[]⟩ 0 0)])
  case first =>
    have HSZ : Hid ((w.alloc (.cells #[.int .i64 0, .string ⟨#[]⟩, .int .i64 0, .int .i64 0] 45)).heap.size = w.heap.size + 1) := Lib.hid (by simp)
    go_region_with ((first | (go_at_call 126; refine (HC.out _ ?_).mono ?_; (first | exact (HR.out.alloc _).drew | exact ((HR.out.alloc _).drew.alloc _) | exact ((HR.out.alloc _).alloc _).drew); rintro e y ⟨rfl, nn, rfl⟩)))
    all_goals go_wp2_with fail
    all_goals go_meet
    all_goals refine ⟨rfl, ?_⟩
    all_goals first
      | with_reducible exact K0.out.made1 HSZ.out _ _ _ _ _
      | with_reducible exact K0.out.made2 HSZ.out _ _ _ _ _ _ _ _ _
  case rest =>
    obtain ⟨rfl, hK⟩ := hcut
    have K := Lib.hid hK
    clear hK K0 c0 c1 c2 c3 c4 f0 f1 f2 f3 f4 hl
    obtain ⟨t0, t1, t2, t3, g0, g1, g2, g3, gl⟩ := K.out.q.1.1.open4
    obtain ⟨r0, r1, r2, r3, e0, e1, e2, e3, el⟩ := K.out.q.2.1.1.open4
    have hta0 : ∀ x : World, (Instr.typeAssert (.iface 144 (.agg #[.string nm])) 20 143 true).run Tryz.prog x = .ok (.tuple #[.agg #[.string ⟨#[]⟩], .bool false]) x := fun x => by kernel_rfl
    have hta1 : ∀ x : World, (Instr.typeAssert (.iface 144 (.agg #[.string nm])) 20 144 true).run Tryz.prog x = .ok (.tuple #[.agg #[.string nm], .bool true]) x := fun x => by kernel_rfl
    go_upto_region 8 with fail
    have KP := Lib.hid (K.out.push' wc.heap.size rfl [.string nm] 144)
    obtain ⟨n0, m0, nl⟩ := KP.out.q.1.1.open1
    clear t0 t1 t2 t3 g0 g1 g2 g3 gl r0 r1 r2 r3 e0 e1 e2 e3 el
    obtain ⟨t0, t1, t2, t3, g0, g1, g2, g3, gl⟩ := KP.out.q.2.1.1.open4
    have hne1 : ¬ w.heap.size + 1 = wc.heap.size := by have := K.out.q.1.1.lt; omega
    have hne2 : ¬ wc.heap.size = w.heap.size + 1 := by have := K.out.q.1.1.lt; omega
    go_region
    rename_i Kq hKq
    simp only [Exit.inBlock, Exit.then]
    refine hKq _ _ ?_
    clear hKq
    have K2 := Lib.hid (((KP.out.tail).set 0 (.int .i64 21) (by simp)).set 1 (.string nm) (by simp)).drew
    clear KP n0 m0 nl t0 t1 t2 t3 g0 g1 g2 g3 gl
    obtain ⟨t0, t1, t2, t3, g0, g1, g2, g3, gl⟩ := K2.out.q.1.1.open4
    obtain ⟨r0, r1, r2, r3, e0, e1, e2, e3, el⟩ := K2.out.q.2.1.1.open4
    go_wp2_with fail
    clear t0 t1 t2 t3 g0 g1 g2 g3 gl r0 r1 r2 r3 e0 e1 e2 e3 el
    obtain ⟨t0, t1, t2, t3, g0, g1, g2, g3, gl⟩ := K2.out.q.1.1.open4
    obtain ⟨r0, r1, r2, r3, e0, e1, e2, e3, el⟩ := K2.out.q.2.1.1.open4
    refine (HCL.out _).mono ?_
    rintro e y ⟨rfl, hb⟩
    have K3 := Lib.hid (K2.out.below hb)
    clear hb K2 t0 t1 t2 t3 g0 g1 g2 g3 gl r0 r1 r2 r3 e0 e1 e2 e3 el
    obtain ⟨t0, t1, t2, t3, g0, g1, g2, g3, gl⟩ := K3.out.q.1.1.open4
    obtain ⟨r0, r1, r2, r3, e0, e1, e2, e3, el⟩ := K3.out.q.2.1.1.open4
    go_wp2_with fail
    (try simp only [Exit.inBlock, Exit.then])
    have K4 := (K3.out.set 1 (.string nm) (by simp)).fill4_2 (.int .i64 21) (.string nm) (.int .i64 ln) (.int .i64 ((i : Int) - st + 1))
    exact ret_flt rfl rfl K4.q.2.1.1 rfl ⟨rfl, K4.HB⟩
end Go.Proofs.YtpmppndhfljcpaaGreatDoor
