/-
  What loss scales become behind a step, in the model; and both functions. Conditions: the numbers fit their kinds.
-/
import Derived.Test.YtgffcmmdmenefaaScb
namespace Go.Proofs.Ytgffcmmdmenefaa
open Go.RowKit
set_option linter.unusedVariables false

theorem c_l00Min (a b : Int) (w : World) : Calls Try.prog 90 #[.int .i64 a, .int .i64 b] w fun e w' => e = .returned (.int .i64 (if a < b then a else b)) ∧ w = w' := by
  by_cases h : a < b
  · rw [if_pos h]
    go_enter Try.func90, Try.ntmps90
    go_wp2
    go_ret
    exact ⟨rfl, rfl⟩
  · rw [if_neg h]
    go_enter Try.func90, Try.ntmps90
    go_wp2
    go_ret
    exact ⟨rfl, rfl⟩
set_option maxRecDepth 20000 in
set_option maxHeartbeats 4000000 in
theorem c_l06Next (s : Nat) (g q : Int) (f : Bool) (hv : okLS s g q = true) (w : World) : Calls Try.prog 51 #[scV s g q, .bool f] w fun e w' => e = .returned (scV (nS s g q f) (nG g q f) q) ∧ Below w.heap.size w w' := by
  obtain ⟨s1, s2, g1, g2, q1, q2⟩ := okLS_sc hv
  obtain ⟨hh, _, _⟩ := half_num s1 s2
  obtain ⟨dd, _, _, _⟩ := dbl_num s1 s2
  have hu := up_lt s1 s2
  have hd := down_lt s1 s2
  have hg : IntKind.i64.wrap (g + 1) = g + 1 := IntWalk.i64_in _ (by omega)
  clear hv
  cases f with
  | false =>
    clear dd hu
    by_cases hl : s - 8388608 < 947912704
    · rw [decide_eq_true hl] at hd
      have HX := Lib.hid (show scV (nS s g q false) (nG g q false) q = .agg #[.float .f32 947912704, .int .i64 0, .int .i64 q] by unfold scV; rw [nS_no, nG_no, clamp_lo hl])
      clear hl s1 s2
      rw [HX.out]
      unfold scV
      clear HX
      go_enter Try.func51, Try.ntmps51
      go_wp2_with (fail)
      refine bodyPost_ret (v := .agg #[.float .f32 947912704, .int .i64 0, .int .i64 q]) (by simp [results, Try.results51, go_sem]) rfl ⟨rfl, ?_⟩
      repeat first | with_reducible refine b_alloc ?_ _ | with_reducible refine b_set0 ?_ _ _ | with_reducible refine b_set1 ?_ _ _ | with_reducible refine below_drewN ?_ _
      exact Below.refl _ _
    · rw [decide_eq_false hl] at hd
      have HX := Lib.hid (show scV (nS s g q false) (nG g q false) q = .agg #[.float .f32 (s - 8388608), .int .i64 0, .int .i64 q] by unfold scV; rw [nS_no, nG_no, clamp_mid (by omega) (by omega)])
      clear hl s1 s2
      rw [HX.out]
      unfold scV
      clear HX
      go_enter Try.func51, Try.ntmps51
      go_wp2_with (fail)
      refine bodyPost_ret (v := .agg #[.float .f32 (s - 8388608), .int .i64 0, .int .i64 q]) (by simp [results, Try.results51, go_sem]) rfl ⟨rfl, ?_⟩
      repeat first | with_reducible refine b_alloc ?_ _ | with_reducible refine b_set0 ?_ _ _ | with_reducible refine b_set1 ?_ _ _ | with_reducible refine below_drewN ?_ _
      exact Below.refl _ _
  | true =>
    clear hh hd
    by_cases hq : q ≤ g + 1
    · have m0 := Lib.hid (show (if (0 : Int) < 1000 then (0 : Int) else 1000) = 0 by decide)
      by_cases hl : 1266679808 < s + 8388608
      · rw [decide_eq_true hl] at hu
        have HX := Lib.hid (show scV (nS s g q true) (nG g q true) q = .agg #[.float .f32 1266679808, .int .i64 0, .int .i64 q] by unfold scV; rw [nS_up hq, nG_up hq, clamp_hi hl (by omega)])
        clear hl s1 s2
        rw [HX.out]
        unfold scV
        clear HX
        go_enter Try.func51, Try.ntmps51
        go_wp2_with (go_at_call 90; refine (c_l00Min _ _ _).mono ?_; rintro e w' ⟨rfl, rfl⟩; rw [m0.out])
        refine bodyPost_ret (v := .agg #[.float .f32 1266679808, .int .i64 0, .int .i64 q]) (by simp [results, Try.results51, go_sem]) rfl ⟨rfl, ?_⟩
        repeat first | with_reducible refine b_alloc ?_ _ | with_reducible refine b_set0 ?_ _ _ | with_reducible refine b_set1 ?_ _ _ | with_reducible refine below_drewN ?_ _
        exact Below.refl _ _
      · rw [decide_eq_false hl] at hu
        have HX := Lib.hid (show scV (nS s g q true) (nG g q true) q = .agg #[.float .f32 (s + 8388608), .int .i64 0, .int .i64 q] by unfold scV; rw [nS_up hq, nG_up hq, clamp_mid (by omega) (by omega)])
        clear hl s1 s2
        rw [HX.out]
        unfold scV
        clear HX
        go_enter Try.func51, Try.ntmps51
        go_wp2_with (go_at_call 90; refine (c_l00Min _ _ _).mono ?_; rintro e w' ⟨rfl, rfl⟩; rw [m0.out])
        refine bodyPost_ret (v := .agg #[.float .f32 (s + 8388608), .int .i64 0, .int .i64 q]) (by simp [results, Try.results51, go_sem]) rfl ⟨rfl, ?_⟩
        repeat first | with_reducible refine b_alloc ?_ _ | with_reducible refine b_set0 ?_ _ _ | with_reducible refine b_set1 ?_ _ _ | with_reducible refine below_drewN ?_ _
        exact Below.refl _ _
    · have HX := Lib.hid (show scV (nS s g q true) (nG g q true) q = .agg #[.float .f32 s, .int .i64 (g + 1), .int .i64 q] by unfold scV; rw [nS_on hq, nG_on hq])
      have hq' : g + 1 + 1 ≤ q := by omega
      have m0 := Lib.hid (show (if (g + 1 : Int) < 1000 then (g + 1 : Int) else 1000) = g + 1 by rw [if_pos (by omega)])
      clear dd hu s1 s2
      rw [HX.out]
      unfold scV
      clear HX
      go_enter Try.func51, Try.ntmps51
      go_wp2_with (go_at_call 90; refine (c_l00Min _ _ _).mono ?_; rintro e w' ⟨rfl, rfl⟩; rw [m0.out])
      refine bodyPost_ret (v := .agg #[.float .f32 s, .int .i64 (g + 1), .int .i64 q]) (by simp [results, Try.results51, go_sem]) rfl ⟨rfl, ?_⟩
      repeat first | with_reducible refine b_alloc ?_ _ | with_reducible refine b_set0 ?_ _ _ | with_reducible refine b_set1 ?_ _ _ | with_reducible refine below_drewN ?_ _
      exact Below.refl _ _

theorem vNext_yes {s : Nat} {g q : Int} {f : Bool} (h : okLS s g q = true) : vNext s g q f = (nS s g q f, nG g q f, q, true) := by unfold vNext; rw [if_pos h]
theorem vNext_no {s : Nat} {g q : Int} {f : Bool} (h : okLS s g q = false) : vNext s g q f = (0, 0, 0, false) := by unfold vNext; rw [if_neg (by rw [h]; decide)]
set_option maxRecDepth 20000 in
set_option maxHeartbeats 2000000 in
theorem t_sNextScale (s : Nat) (g q : Int) (f : Bool) (hs : s < 4294967296) (w : World) : Calls Try.prog 18 #[scV s g q, .bool f] w (RetSc (vNext s g q f) w) := by
  have HI := Lib.hid (fun w => c_l06Is s g q hs w)
  unfold scV at HI
  have K0 := Lib.hid ((Blk.new w 26 #[.float .f32 s, .int .i64 g, .int .i64 q]).below ((Below.refl _ _).alloc (Nat.le_refl _) (.cells #[.float .f32 0, .int .i64 0, .int .i64 0] 26)))
  have K1 := Lib.hid (Blk.new (w.alloc (.cells #[.float .f32 s, .int .i64 g, .int .i64 q] 26)) 26 #[.float .f32 0, .int .i64 0, .int .i64 0])
  have B0 := Lib.hid (b_alloc (b_alloc (Below.refl w.heap.size w) (.cells #[.float .f32 s, .int .i64 g, .int .i64 q] 26)) (.cells #[.float .f32 0, .int .i64 0, .int .i64 0] 26))
  simp only [World.size_alloc] at K1
  cases hv : okLS s g q with
  | false =>
    have HX := Lib.hid (show vNext s g q f = (0, 0, 0, false) from vNext_no hv)
    rw [hv] at HI
    rw [HX.out]
    clear hv HX
    unfold scV
    go_enter Try.func18, Try.ntmps18
    go_wp2_with fail
    refine (HI.out _).mono ?_
    rintro e w1 ⟨rfl, hb⟩
    have HB := Lib.hid (Below.next B0.out hb)
    have K1' := Lib.hid (K1.out.below hb)
    clear hb K0 K1 B0
    obtain ⟨p0, p1, p2, p3⟩ := tb K1'.out
    obtain ⟨f0, f1, f2⟩ := tbf K1'.out
    go_wp2_with fail
    obtain ⟨k2, g2⟩ := store3 K1'.out (x' := .float .f32 0) (y' := .int .i64 0) (z' := .int .i64 0)
    obtain ⟨q0, q1, q2, q3⟩ := tb k2
    refine bodyPost_ret (v := .tuple #[.agg #[.float .f32 0, .int .i64 0, .int .i64 0], .bool false]) (by simp [results, Try.results18, go_sem, p0, p1, p2]) rfl ⟨rfl, ?_⟩
    exact Below.at_ HB.out g2 (Nat.le_succ _)
  | true =>
    have HV := Lib.hid hv
    have HX := Lib.hid (show vNext s g q f = (nS s g q f, nG g q f, q, true) from vNext_yes hv)
    have HN := Lib.hid (fun w => c_l06Next s g q f HV.out w)
    rw [hv] at HI
    rw [HX.out]
    clear hv HX
    unfold scV at HN ⊢
    obtain ⟨S', hS⟩ : ∃ x, nS s g q f = x := ⟨_, rfl⟩
    obtain ⟨G', hG⟩ : ∃ x, nG g q f = x := ⟨_, rfl⟩
    rw [hS, hG] at HN
    rw [hS, hG]
    clear hS hG
    go_enter Try.func18, Try.ntmps18
    go_wp2_with fail
    refine (HI.out _).mono ?_
    rintro e w1 ⟨rfl, hb⟩
    have HB := Lib.hid (Below.next B0.out hb)
    have K1' := Lib.hid (K1.out.below hb)
    have K0' := Lib.hid (K0.out.below hb)
    clear hb K0 K1 B0
    obtain ⟨p0, p1, p2, p3⟩ := tb K0'.out
    go_wp2_with fail
    clear p0 p1 p2 p3
    refine (HN.out _).mono ?_
    rintro e w2 ⟨rfl, hb⟩
    have HB2 := Lib.hid (Below.next HB.out hb)
    have K2' := Lib.hid (K1'.out.below hb)
    clear hb K0' K1' HB
    obtain ⟨p0, p1, p2, p3⟩ := tb K2'.out
    obtain ⟨f0, f1, f2⟩ := tbf K2'.out
    go_wp2_with fail
    obtain ⟨k2, g2⟩ := store3 K2'.out (x' := .float .f32 S') (y' := .int .i64 G') (z' := .int .i64 q)
    refine bodyPost_ret (v := .tuple #[.agg #[.float .f32 S', .int .i64 G', .int .i64 q], .bool true]) (by simp [results, Try.results18, go_sem, p0, p1, p2]) rfl ⟨rfl, ?_⟩
    exact Below.at_ HB2.out g2 (Nat.le_succ _)
set_option maxRecDepth 20000 in
set_option maxHeartbeats 2000000 in
theorem t_iNextScale (s : Nat) (g q : Int) (f : Bool) (hs : s < 4294967296) (w : World) : Calls Try.prog 19 #[scV s g q, .bool f] w (RetSc (vNext s g q f) w) := by
  have HI := Lib.hid (fun w => t_iValidScale s g q hs w)
  unfold scV at HI
  have K0 := Lib.hid ((Blk.new w 26 #[.float .f32 s, .int .i64 g, .int .i64 q]).below ((Below.refl _ _).alloc (Nat.le_refl _) (.cells #[.float .f32 0, .int .i64 0, .int .i64 0] 26)))
  have K1 := Lib.hid (Blk.new (w.alloc (.cells #[.float .f32 s, .int .i64 g, .int .i64 q] 26)) 26 #[.float .f32 0, .int .i64 0, .int .i64 0])
  have B0 := Lib.hid (b_alloc (b_alloc (Below.refl w.heap.size w) (.cells #[.float .f32 s, .int .i64 g, .int .i64 q] 26)) (.cells #[.float .f32 0, .int .i64 0, .int .i64 0] 26))
  simp only [World.size_alloc] at K1
  cases hv : okLS s g q with
  | false =>
    have HX := Lib.hid (show vNext s g q f = (0, 0, 0, false) from vNext_no hv)
    rw [hv] at HI
    rw [HX.out]
    clear hv HX
    unfold scV
    go_enter Try.func19, Try.ntmps19
    go_wp2_with fail
    refine (HI.out _).mono ?_
    rintro e w1 ⟨rfl, hb⟩
    have HB := Lib.hid (Below.next B0.out hb)
    have K1' := Lib.hid (K1.out.below hb)
    clear hb K0 K1 B0
    obtain ⟨p0, p1, p2, p3⟩ := tb K1'.out
    obtain ⟨f0, f1, f2⟩ := tbf K1'.out
    go_wp2_with fail
    obtain ⟨k2, g2⟩ := store3 K1'.out (x' := .float .f32 0) (y' := .int .i64 0) (z' := .int .i64 0)
    obtain ⟨q0, q1, q2, q3⟩ := tb k2
    refine bodyPost_ret (v := .tuple #[.agg #[.float .f32 0, .int .i64 0, .int .i64 0], .bool false]) (by simp [results, Try.results19, go_sem, p0, p1, p2]) rfl ⟨rfl, ?_⟩
    exact Below.at_ HB.out g2 (Nat.le_succ _)
  | true =>
    have HV := Lib.hid hv
    have HX := Lib.hid (show vNext s g q f = (nS s g q f, nG g q f, q, true) from vNext_yes hv)
    have HN := Lib.hid (fun w => c_behind s g q f HV.out w)
    rw [hv] at HI
    rw [HX.out]
    clear hv HX
    unfold scV at HN ⊢
    obtain ⟨S', hS⟩ : ∃ x, nS s g q f = x := ⟨_, rfl⟩
    obtain ⟨G', hG⟩ : ∃ x, nG g q f = x := ⟨_, rfl⟩
    rw [hS, hG] at HN
    rw [hS, hG]
    clear hS hG
    go_enter Try.func19, Try.ntmps19
    go_wp2_with fail
    refine (HI.out _).mono ?_
    rintro e w1 ⟨rfl, hb⟩
    have HB := Lib.hid (Below.next B0.out hb)
    have K1' := Lib.hid (K1.out.below hb)
    have K0' := Lib.hid (K0.out.below hb)
    clear hb K0 K1 B0
    obtain ⟨p0, p1, p2, p3⟩ := tb K0'.out
    go_wp2_with fail
    clear p0 p1 p2 p3
    refine (HN.out _).mono ?_
    rintro e w2 ⟨rfl, hb⟩
    have HB2 := Lib.hid (Below.next HB.out hb)
    have K2' := Lib.hid (K1'.out.below hb)
    clear hb K0' K1' HB
    obtain ⟨p0, p1, p2, p3⟩ := tb K2'.out
    obtain ⟨f0, f1, f2⟩ := tbf K2'.out
    go_wp2_with fail
    obtain ⟨k2, g2⟩ := store3 K2'.out (x' := .float .f32 S') (y' := .int .i64 G') (z' := .int .i64 q)
    refine bodyPost_ret (v := .tuple #[.agg #[.float .f32 S', .int .i64 G', .int .i64 q], .bool true]) (by simp [results, Try.results19, go_sem, p0, p1, p2]) rfl ⟨rfl, ?_⟩
    exact Below.at_ HB2.out g2 (Nat.le_succ _)
end Go.Proofs.Ytgffcmmdmenefaa
