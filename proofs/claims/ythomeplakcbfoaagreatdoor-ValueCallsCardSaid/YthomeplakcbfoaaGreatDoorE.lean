/-
  Contracts: Unary.
-/
import Derived.Test.YthomeplakcbfoaaGreatDoorD
import Derived.Test.YthomeplakcbfoaaGreatDoorGa
namespace Go.Proofs.YthomeplakcbfoaaGreatDoor
open Go.RowKit

theorem zero25 (w : World) : (zeroValue 25).run Tryz.prog w = .ok (.int .i64 0) w := by kernel_rfl
abbrev sMinus : ByteArray := ⟨#[45]⟩
abbrev sNot : ByteArray := ⟨#[110, 111, 116]⟩
abbrev unMap : List (ByteArray × Value) := [(sMinus, .int .i64 1), (sNot, .int .i64 3)]

set_option maxRecDepth 100000 in
set_option maxHeartbeats 800000 in
theorem unary_ (d : Int) (op : ByteArray) (hop : findE unMap op = some (.int .i64 d)) (v : Va) (w : World) :
    Calls Tryz.prog 27 #[.string op, v.val] w fun e w' => e = .returned (two (unS d v)) ∧ Below w.heap.size w w' := by
  have hmm := @run_makeMap Tryz.prog
  have HOP := Lib.hid hop
  clear hop
  obtain ⟨k, n, s⟩ := v
  unfold Va.val
  simp only
  have HU : Hid (unS d ⟨k, n, s⟩ = if vld k n s = false then (nulV, 2) else if oneK d [⟨k, n, s⟩] = false then (nulV, 16) else if hasNull [⟨k, n, s⟩] = true then (nulV, 0) else if (d == 1) = true then (intV (-n), 0) else (booV (!eqV k n s 3 1 ⟨#[]⟩), 0)) := Lib.hid rfl
  cases hok : vld k n s
  · rw [hok] at HU
    go_enter Tryz.func27, Tryz.ntmps27
    go_wp2_with (first
      | (refine wpList_insert_lit rfl (.tmp 9) _ _ _ _ _ rfl Tryz.underlying85 Tryz.underlying9 (Fed.made' _ _ (sz2 _ _ _)) sMinus (.int .i64 1) rfl rfl rfl rfl ?_; intro w1 (hF1 : Fed _ w1 _ [(sMinus, .int .i64 1)]))
      | (refine wpList_insert_lit rfl (.tmp 9) _ _ _ _ _ rfl Tryz.underlying85 Tryz.underlying9 hF1 sNot (.int .i64 3) rfl rfl rfl rfl ?_; intro w2 (hF2 : Fed _ w2 _ unMap); have hlk := run_lookup_lit hF2.here Tryz.underlying85 Tryz.underlying9 (zero25 _) op; rw [HOP.out] at hlk; have K : Hid (K2 w w2 w.heap.size (.int .i64 k) (.int .i64 n) (.string s) (w.heap.size + 1) (.int .i64 0) (.int .i64 0) (.string ⟨#[]⟩)) := Lib.hid ⟨(((new2 w _ _).alloc (by simp; omega) _)).trans (hF2.below (by omega) (by simp; omega)), (((B3.new w _ _ _ 27).alloc _).alloc _).fed hF2, ((B3.new' (w.alloc _) _ (sz1 _ _) _ _ _ 27).alloc _).fed hF2⟩; clear hF1 hF2; obtain ⟨HB, ⟨v0, v1, v2, _, _, _, vl⟩, ⟨r0, r1, r2, g0, g1, g2, rl⟩⟩ := K.out)
      | (go_at_call 31; refine (valid_ _ _ _ _).mono ?_; rintro e y ⟨rfl, hb⟩; have K := Lib.hid (K2.below (Hid.out (by assumption)) hb); clear hb; obtain ⟨HB, ⟨v0, v1, v2, _, _, _, vl⟩, ⟨r0, r1, r2, g0, g1, g2, rl⟩⟩ := K.out)
      | (go_at_call 58; refine (oneKind_ _ _ _ [⟨k, n, s⟩] _ (by simp [maxLen]) (sl1 _ _ _ _)).mono ?_; rintro e y ⟨rfl, hb⟩; have K := Lib.hid (K2.below (K2.alloc (Hid.out (by assumption)) _) hb); clear hb; obtain ⟨HB, ⟨v0, v1, v2, _, _, _, vl⟩, ⟨r0, r1, r2, g0, g1, g2, rl⟩⟩ := K.out)
      | (go_at_call 41; refine (someNull_ _ _ [⟨k, n, s⟩] _ (by simp [maxLen]) (sl1 _ _ _ _)).mono ?_; rintro e y ⟨rfl, hb⟩; have K := Lib.hid (K2.below (K2.alloc (Hid.out (by assumption)) _) hb); clear hb; obtain ⟨HB, ⟨v0, v1, v2, _, _, _, vl⟩, ⟨r0, r1, r2, g0, g1, g2, rl⟩⟩ := K.out)
      | (go_at_call 59; refine (integer_ _ _).mono ?_; rintro e y ⟨rfl, hb⟩; have K := Lib.hid (K2.below (Hid.out (by assumption)) hb); clear hb; obtain ⟨HB, ⟨v0, v1, v2, _, _, _, vl⟩, ⟨r0, r1, r2, g0, g1, g2, rl⟩⟩ := K.out)
      | (go_at_call 37; refine (true_ _ _ _ _).mono ?_; rintro e y ⟨rfl, hb⟩; have K := Lib.hid (K2.below (Hid.out (by assumption)) hb); clear hb; obtain ⟨HB, ⟨v0, v1, v2, _, _, _, vl⟩, ⟨r0, r1, r2, g0, g1, g2, rl⟩⟩ := K.out)
      | (go_at_call 60; refine (boolean_ _ _).mono ?_; rintro e y ⟨rfl, hb⟩; have K := Lib.hid (K2.below (Hid.out (by assumption)) hb); clear hb; obtain ⟨HB, ⟨v0, v1, v2, _, _, _, vl⟩, ⟨r0, r1, r2, g0, g1, g2, rl⟩⟩ := K.out))
    (try simp only [Exit.inBlock, Exit.then])
    exact ret_two rfl rfl K.out.q' rfl ⟨by rw [HU.out]; rfl, set3 HB _ (lt_add1 _) _ _ _⟩
  · rw [hok] at HU
    cases hk : oneK d [⟨k, n, s⟩]
    · rw [hk] at HU
      go_enter Tryz.func27, Tryz.ntmps27
      go_wp2_with (first
        | (refine wpList_insert_lit rfl (.tmp 9) _ _ _ _ _ rfl Tryz.underlying85 Tryz.underlying9 (Fed.made' _ _ (sz2 _ _ _)) sMinus (.int .i64 1) rfl rfl rfl rfl ?_; intro w1 (hF1 : Fed _ w1 _ [(sMinus, .int .i64 1)]))
        | (refine wpList_insert_lit rfl (.tmp 9) _ _ _ _ _ rfl Tryz.underlying85 Tryz.underlying9 hF1 sNot (.int .i64 3) rfl rfl rfl rfl ?_; intro w2 (hF2 : Fed _ w2 _ unMap); have hlk := run_lookup_lit hF2.here Tryz.underlying85 Tryz.underlying9 (zero25 _) op; rw [HOP.out] at hlk; have K : Hid (K2 w w2 w.heap.size (.int .i64 k) (.int .i64 n) (.string s) (w.heap.size + 1) (.int .i64 0) (.int .i64 0) (.string ⟨#[]⟩)) := Lib.hid ⟨(((new2 w _ _).alloc (by simp; omega) _)).trans (hF2.below (by omega) (by simp; omega)), (((B3.new w _ _ _ 27).alloc _).alloc _).fed hF2, ((B3.new' (w.alloc _) _ (sz1 _ _) _ _ _ 27).alloc _).fed hF2⟩; clear hF1 hF2; obtain ⟨HB, ⟨v0, v1, v2, _, _, _, vl⟩, ⟨r0, r1, r2, g0, g1, g2, rl⟩⟩ := K.out)
        | (go_at_call 31; refine (valid_ _ _ _ _).mono ?_; rintro e y ⟨rfl, hb⟩; have K := Lib.hid (K2.below (Hid.out (by assumption)) hb); clear hb; obtain ⟨HB, ⟨v0, v1, v2, _, _, _, vl⟩, ⟨r0, r1, r2, g0, g1, g2, rl⟩⟩ := K.out)
        | (go_at_call 58; refine (oneKind_ _ _ _ [⟨k, n, s⟩] _ (by simp [maxLen]) (sl1 _ _ _ _)).mono ?_; rintro e y ⟨rfl, hb⟩; have K := Lib.hid (K2.below (K2.alloc (Hid.out (by assumption)) _) hb); clear hb; obtain ⟨HB, ⟨v0, v1, v2, _, _, _, vl⟩, ⟨r0, r1, r2, g0, g1, g2, rl⟩⟩ := K.out)
        | (go_at_call 41; refine (someNull_ _ _ [⟨k, n, s⟩] _ (by simp [maxLen]) (sl1 _ _ _ _)).mono ?_; rintro e y ⟨rfl, hb⟩; have K := Lib.hid (K2.below (K2.alloc (Hid.out (by assumption)) _) hb); clear hb; obtain ⟨HB, ⟨v0, v1, v2, _, _, _, vl⟩, ⟨r0, r1, r2, g0, g1, g2, rl⟩⟩ := K.out)
        | (go_at_call 59; refine (integer_ _ _).mono ?_; rintro e y ⟨rfl, hb⟩; have K := Lib.hid (K2.below (Hid.out (by assumption)) hb); clear hb; obtain ⟨HB, ⟨v0, v1, v2, _, _, _, vl⟩, ⟨r0, r1, r2, g0, g1, g2, rl⟩⟩ := K.out)
        | (go_at_call 37; refine (true_ _ _ _ _).mono ?_; rintro e y ⟨rfl, hb⟩; have K := Lib.hid (K2.below (Hid.out (by assumption)) hb); clear hb; obtain ⟨HB, ⟨v0, v1, v2, _, _, _, vl⟩, ⟨r0, r1, r2, g0, g1, g2, rl⟩⟩ := K.out)
        | (go_at_call 60; refine (boolean_ _ _).mono ?_; rintro e y ⟨rfl, hb⟩; have K := Lib.hid (K2.below (Hid.out (by assumption)) hb); clear hb; obtain ⟨HB, ⟨v0, v1, v2, _, _, _, vl⟩, ⟨r0, r1, r2, g0, g1, g2, rl⟩⟩ := K.out))
      (try simp only [Exit.inBlock, Exit.then])
      exact ret_two rfl rfl K.out.q' rfl ⟨by rw [HU.out]; rfl, set3 HB _ (lt_add1 _) _ _ _⟩
    · rw [hk] at HU
      cases hn : hasNull [⟨k, n, s⟩]
      · rw [hn] at HU
        cases hd : d == 1
        · rw [hd] at HU
          go_enter Tryz.func27, Tryz.ntmps27
          go_wp2_with (first
            | (refine wpList_insert_lit rfl (.tmp 9) _ _ _ _ _ rfl Tryz.underlying85 Tryz.underlying9 (Fed.made' _ _ (sz2 _ _ _)) sMinus (.int .i64 1) rfl rfl rfl rfl ?_; intro w1 (hF1 : Fed _ w1 _ [(sMinus, .int .i64 1)]))
            | (refine wpList_insert_lit rfl (.tmp 9) _ _ _ _ _ rfl Tryz.underlying85 Tryz.underlying9 hF1 sNot (.int .i64 3) rfl rfl rfl rfl ?_; intro w2 (hF2 : Fed _ w2 _ unMap); have hlk := run_lookup_lit hF2.here Tryz.underlying85 Tryz.underlying9 (zero25 _) op; rw [HOP.out] at hlk; have K : Hid (K2 w w2 w.heap.size (.int .i64 k) (.int .i64 n) (.string s) (w.heap.size + 1) (.int .i64 0) (.int .i64 0) (.string ⟨#[]⟩)) := Lib.hid ⟨(((new2 w _ _).alloc (by simp; omega) _)).trans (hF2.below (by omega) (by simp; omega)), (((B3.new w _ _ _ 27).alloc _).alloc _).fed hF2, ((B3.new' (w.alloc _) _ (sz1 _ _) _ _ _ 27).alloc _).fed hF2⟩; clear hF1 hF2; obtain ⟨HB, ⟨v0, v1, v2, _, _, _, vl⟩, ⟨r0, r1, r2, g0, g1, g2, rl⟩⟩ := K.out)
            | (go_at_call 31; refine (valid_ _ _ _ _).mono ?_; rintro e y ⟨rfl, hb⟩; have K := Lib.hid (K2.below (Hid.out (by assumption)) hb); clear hb; obtain ⟨HB, ⟨v0, v1, v2, _, _, _, vl⟩, ⟨r0, r1, r2, g0, g1, g2, rl⟩⟩ := K.out)
            | (go_at_call 58; refine (oneKind_ _ _ _ [⟨k, n, s⟩] _ (by simp [maxLen]) (sl1 _ _ _ _)).mono ?_; rintro e y ⟨rfl, hb⟩; have K := Lib.hid (K2.below (K2.alloc (Hid.out (by assumption)) _) hb); clear hb; obtain ⟨HB, ⟨v0, v1, v2, _, _, _, vl⟩, ⟨r0, r1, r2, g0, g1, g2, rl⟩⟩ := K.out)
            | (go_at_call 41; refine (someNull_ _ _ [⟨k, n, s⟩] _ (by simp [maxLen]) (sl1 _ _ _ _)).mono ?_; rintro e y ⟨rfl, hb⟩; have K := Lib.hid (K2.below (K2.alloc (Hid.out (by assumption)) _) hb); clear hb; obtain ⟨HB, ⟨v0, v1, v2, _, _, _, vl⟩, ⟨r0, r1, r2, g0, g1, g2, rl⟩⟩ := K.out)
            | (go_at_call 59; refine (integer_ _ _).mono ?_; rintro e y ⟨rfl, hb⟩; have K := Lib.hid (K2.below (Hid.out (by assumption)) hb); clear hb; obtain ⟨HB, ⟨v0, v1, v2, _, _, _, vl⟩, ⟨r0, r1, r2, g0, g1, g2, rl⟩⟩ := K.out)
            | (go_at_call 37; refine (true_ _ _ _ _).mono ?_; rintro e y ⟨rfl, hb⟩; have K := Lib.hid (K2.below (Hid.out (by assumption)) hb); clear hb; obtain ⟨HB, ⟨v0, v1, v2, _, _, _, vl⟩, ⟨r0, r1, r2, g0, g1, g2, rl⟩⟩ := K.out)
            | (go_at_call 60; refine (boolean_ _ _).mono ?_; rintro e y ⟨rfl, hb⟩; have K := Lib.hid (K2.below (Hid.out (by assumption)) hb); clear hb; obtain ⟨HB, ⟨v0, v1, v2, _, _, _, vl⟩, ⟨r0, r1, r2, g0, g1, g2, rl⟩⟩ := K.out))
          (try simp only [Exit.inBlock, Exit.then])
          exact ret_two rfl rfl K.out.q' rfl ⟨by rw [HU.out]; rfl, set3 HB _ (lt_add1 _) _ _ _⟩
        · rw [hd] at HU
          have hd1 : d = 1 := by simpa using hd
          obtain ⟨h1, h2⟩ := int_in k n s (by rcases oneK1 d _ hk with h | h | h; exact absurd h (notNull1 _ hn); omega; simpa [hd1] using h) hok
          clear hd1
          go_enter Tryz.func27, Tryz.ntmps27
          go_wp2_with (first
            | (refine wpList_insert_lit rfl (.tmp 9) _ _ _ _ _ rfl Tryz.underlying85 Tryz.underlying9 (Fed.made' _ _ (sz2 _ _ _)) sMinus (.int .i64 1) rfl rfl rfl rfl ?_; intro w1 (hF1 : Fed _ w1 _ [(sMinus, .int .i64 1)]))
            | (refine wpList_insert_lit rfl (.tmp 9) _ _ _ _ _ rfl Tryz.underlying85 Tryz.underlying9 hF1 sNot (.int .i64 3) rfl rfl rfl rfl ?_; intro w2 (hF2 : Fed _ w2 _ unMap); have hlk := run_lookup_lit hF2.here Tryz.underlying85 Tryz.underlying9 (zero25 _) op; rw [HOP.out] at hlk; have K : Hid (K2 w w2 w.heap.size (.int .i64 k) (.int .i64 n) (.string s) (w.heap.size + 1) (.int .i64 0) (.int .i64 0) (.string ⟨#[]⟩)) := Lib.hid ⟨(((new2 w _ _).alloc (by simp; omega) _)).trans (hF2.below (by omega) (by simp; omega)), (((B3.new w _ _ _ 27).alloc _).alloc _).fed hF2, ((B3.new' (w.alloc _) _ (sz1 _ _) _ _ _ 27).alloc _).fed hF2⟩; clear hF1 hF2; obtain ⟨HB, ⟨v0, v1, v2, _, _, _, vl⟩, ⟨r0, r1, r2, g0, g1, g2, rl⟩⟩ := K.out)
            | (go_at_call 31; refine (valid_ _ _ _ _).mono ?_; rintro e y ⟨rfl, hb⟩; have K := Lib.hid (K2.below (Hid.out (by assumption)) hb); clear hb; obtain ⟨HB, ⟨v0, v1, v2, _, _, _, vl⟩, ⟨r0, r1, r2, g0, g1, g2, rl⟩⟩ := K.out)
            | (go_at_call 58; refine (oneKind_ _ _ _ [⟨k, n, s⟩] _ (by simp [maxLen]) (sl1 _ _ _ _)).mono ?_; rintro e y ⟨rfl, hb⟩; have K := Lib.hid (K2.below (K2.alloc (Hid.out (by assumption)) _) hb); clear hb; obtain ⟨HB, ⟨v0, v1, v2, _, _, _, vl⟩, ⟨r0, r1, r2, g0, g1, g2, rl⟩⟩ := K.out)
            | (go_at_call 41; refine (someNull_ _ _ [⟨k, n, s⟩] _ (by simp [maxLen]) (sl1 _ _ _ _)).mono ?_; rintro e y ⟨rfl, hb⟩; have K := Lib.hid (K2.below (K2.alloc (Hid.out (by assumption)) _) hb); clear hb; obtain ⟨HB, ⟨v0, v1, v2, _, _, _, vl⟩, ⟨r0, r1, r2, g0, g1, g2, rl⟩⟩ := K.out)
            | (go_at_call 59; refine (integer_ _ _).mono ?_; rintro e y ⟨rfl, hb⟩; have K := Lib.hid (K2.below (Hid.out (by assumption)) hb); clear hb; obtain ⟨HB, ⟨v0, v1, v2, _, _, _, vl⟩, ⟨r0, r1, r2, g0, g1, g2, rl⟩⟩ := K.out)
            | (go_at_call 37; refine (true_ _ _ _ _).mono ?_; rintro e y ⟨rfl, hb⟩; have K := Lib.hid (K2.below (Hid.out (by assumption)) hb); clear hb; obtain ⟨HB, ⟨v0, v1, v2, _, _, _, vl⟩, ⟨r0, r1, r2, g0, g1, g2, rl⟩⟩ := K.out)
            | (go_at_call 60; refine (boolean_ _ _).mono ?_; rintro e y ⟨rfl, hb⟩; have K := Lib.hid (K2.below (Hid.out (by assumption)) hb); clear hb; obtain ⟨HB, ⟨v0, v1, v2, _, _, _, vl⟩, ⟨r0, r1, r2, g0, g1, g2, rl⟩⟩ := K.out))
          (try simp only [Exit.inBlock, Exit.then])
          exact ret_two rfl rfl K.out.q' rfl ⟨by rw [HU.out]; rfl, set3 HB _ (lt_add1 _) _ _ _⟩
      · rw [hn] at HU
        go_enter Tryz.func27, Tryz.ntmps27
        go_wp2_with (first
          | (refine wpList_insert_lit rfl (.tmp 9) _ _ _ _ _ rfl Tryz.underlying85 Tryz.underlying9 (Fed.made' _ _ (sz2 _ _ _)) sMinus (.int .i64 1) rfl rfl rfl rfl ?_; intro w1 (hF1 : Fed _ w1 _ [(sMinus, .int .i64 1)]))
          | (refine wpList_insert_lit rfl (.tmp 9) _ _ _ _ _ rfl Tryz.underlying85 Tryz.underlying9 hF1 sNot (.int .i64 3) rfl rfl rfl rfl ?_; intro w2 (hF2 : Fed _ w2 _ unMap); have hlk := run_lookup_lit hF2.here Tryz.underlying85 Tryz.underlying9 (zero25 _) op; rw [HOP.out] at hlk; have K : Hid (K2 w w2 w.heap.size (.int .i64 k) (.int .i64 n) (.string s) (w.heap.size + 1) (.int .i64 0) (.int .i64 0) (.string ⟨#[]⟩)) := Lib.hid ⟨(((new2 w _ _).alloc (by simp; omega) _)).trans (hF2.below (by omega) (by simp; omega)), (((B3.new w _ _ _ 27).alloc _).alloc _).fed hF2, ((B3.new' (w.alloc _) _ (sz1 _ _) _ _ _ 27).alloc _).fed hF2⟩; clear hF1 hF2; obtain ⟨HB, ⟨v0, v1, v2, _, _, _, vl⟩, ⟨r0, r1, r2, g0, g1, g2, rl⟩⟩ := K.out)
          | (go_at_call 31; refine (valid_ _ _ _ _).mono ?_; rintro e y ⟨rfl, hb⟩; have K := Lib.hid (K2.below (Hid.out (by assumption)) hb); clear hb; obtain ⟨HB, ⟨v0, v1, v2, _, _, _, vl⟩, ⟨r0, r1, r2, g0, g1, g2, rl⟩⟩ := K.out)
          | (go_at_call 58; refine (oneKind_ _ _ _ [⟨k, n, s⟩] _ (by simp [maxLen]) (sl1 _ _ _ _)).mono ?_; rintro e y ⟨rfl, hb⟩; have K := Lib.hid (K2.below (K2.alloc (Hid.out (by assumption)) _) hb); clear hb; obtain ⟨HB, ⟨v0, v1, v2, _, _, _, vl⟩, ⟨r0, r1, r2, g0, g1, g2, rl⟩⟩ := K.out)
          | (go_at_call 41; refine (someNull_ _ _ [⟨k, n, s⟩] _ (by simp [maxLen]) (sl1 _ _ _ _)).mono ?_; rintro e y ⟨rfl, hb⟩; have K := Lib.hid (K2.below (K2.alloc (Hid.out (by assumption)) _) hb); clear hb; obtain ⟨HB, ⟨v0, v1, v2, _, _, _, vl⟩, ⟨r0, r1, r2, g0, g1, g2, rl⟩⟩ := K.out)
          | (go_at_call 59; refine (integer_ _ _).mono ?_; rintro e y ⟨rfl, hb⟩; have K := Lib.hid (K2.below (Hid.out (by assumption)) hb); clear hb; obtain ⟨HB, ⟨v0, v1, v2, _, _, _, vl⟩, ⟨r0, r1, r2, g0, g1, g2, rl⟩⟩ := K.out)
          | (go_at_call 37; refine (true_ _ _ _ _).mono ?_; rintro e y ⟨rfl, hb⟩; have K := Lib.hid (K2.below (Hid.out (by assumption)) hb); clear hb; obtain ⟨HB, ⟨v0, v1, v2, _, _, _, vl⟩, ⟨r0, r1, r2, g0, g1, g2, rl⟩⟩ := K.out)
          | (go_at_call 60; refine (boolean_ _ _).mono ?_; rintro e y ⟨rfl, hb⟩; have K := Lib.hid (K2.below (Hid.out (by assumption)) hb); clear hb; obtain ⟨HB, ⟨v0, v1, v2, _, _, _, vl⟩, ⟨r0, r1, r2, g0, g1, g2, rl⟩⟩ := K.out))
        (try simp only [Exit.inBlock, Exit.then])
        exact ret_two rfl rfl K.out.q' rfl ⟨by rw [HU.out]; rfl, set3 HB _ (lt_add1 _) _ _ _⟩

end Go.Proofs.YthomeplakcbfoaaGreatDoor
