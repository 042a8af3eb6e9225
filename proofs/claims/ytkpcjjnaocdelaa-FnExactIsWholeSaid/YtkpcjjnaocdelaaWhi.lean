/-
  Whether all numbers of a list are whole: the program; and IsWhole on both sides. Conditions: the numbers can be read.
-/
import Derived.Test.YtkpcjjnaocdelaaWhs
import Derived.Test.YtkpcjjnaocdelaaVLay
import Derived.Deep.RegionWith
import Derived.Deep.RegionHeld
import Derived.RegionCalls
import Derived.Deep.QuietTactic
namespace Go.Proofs.Ytkpcjjnaocdelaa
open Go.RowKit Ieee Go.Deep Go.WideShapes Go.ChangeShapes
set_option linter.unusedVariables false
set_option linter.unusedSimpArgs false

theorem run_integral_nan {P : Program} {name : String} {way : Ieee.Toward} {x : Nat} (h : isNan .f64 x = true) (w : World) : ∃ (r m : Nat), (Extern.MathFloor.toIntegral name way #[.float .f64 x]).run P w = .ok (.float .f64 r) (w.drewN m) := by
  have h' : (Ieee.double.read x).isNaN = true := h
  cases hd : Ieee.double.read x with
  | number s m p => rw [hd] at h'; cases h'
  | infinity s => rw [hd] at h'; cases h'
  | nan s t =>
    have e : (Extern.MathFloor.toIntegral name way #[.float .f64 x]).run P w = (match FloatKind.f64.decode x with
      | .nan s t => (if FloatKind.f64.format.quiet t = t then pure (.float .f64 x) else do
        let kept ← choose (.extern "math.Floor,Ceil,Trunc,RoundToEven.signallingNaN kept" 2)
        pure (.float .f64 (if kept == 1 then x else FloatKind.f64.encode (.nan s (FloatKind.f64.format.quiet t)))))
      | d => pure (Value.float .f64 (FloatKind.f64.encode (d.integral way))) : Sem Value).run P w := rfl
    rw [e, show FloatKind.f64.decode x = Ieee.double.read x from rfl, hd]
    dsimp only
    by_cases hq : FloatKind.f64.format.quiet t = t
    · rw [if_pos hq]
      exact ⟨x, 0, rfl⟩
    · rw [if_neg hq]
      exact ⟨_, 1, rfl⟩
theorem call_trunc {x : Nat} (h : isNan .f64 x = false) (w : World) : (callFunc 120 #[.float .f64 x]).run Try.prog w = .ok (.value (.float .f64 (rteV .zero x))) w := by
  rw [run_callFunc_extern Try.func120 (by kernel_rfl) (by kernel_rfl) (by kernel_rfl) (e := Extern.MathFloor.toIntegral "math.archTrunc" .zero) (by kernel_rfl), run_integral h]
  rfl
theorem call_trunc_nan {x : Nat} (h : isNan .f64 x = true) (w : World) : ∃ r m, (callFunc 120 #[.float .f64 x]).run Try.prog w = .ok (.value (.float .f64 r)) (w.drewN m) := by
  obtain ⟨r, m, hr⟩ := run_integral_nan (P := Try.prog) (name := "math.archTrunc") (way := .zero) h w
  refine ⟨r, m, ?_⟩
  rw [run_callFunc_extern Try.func120 (by kernel_rfl) (by kernel_rfl) (by kernel_rfl) (e := Extern.MathFloor.toIntegral "math.archTrunc" .zero) (by kernel_rfl), hr]
  rfl
theorem c_trunc (x : Nat) (h : isNan .f64 x = false) (w : World) : Calls Try.prog 89 #[.float .f64 x] w fun e w' => e = .returned (.float .f64 (rteV .zero x)) ∧ w' = w := by
  have hr := fun w => call_trunc h w
  clear h
  go_enter Try.func89, Try.ntmps89
  go_wp2
  go_ret
  exact ⟨rfl, rfl⟩
set_option maxRecDepth 100000 in
theorem c_trunc_nan (x : Nat) (h : isNan .f64 x = true) (w : World) : ∃ r m, Calls Try.prog 89 #[.float .f64 x] w fun e w' => e = .returned (.float .f64 r) ∧ w' = w.drewN m := by
  obtain ⟨r, m, hr⟩ := call_trunc_nan h w
  refine ⟨r, m, ?_⟩
  obtain ⟨w2, hw2⟩ : ∃ w2, w.drewN m = w2 := ⟨_, rfl⟩
  rw [hw2] at hr ⊢
  clear h hw2
  go_enter Try.func89, Try.ntmps89
  go_wp2
  go_ret
  exact ⟨rfl, rfl⟩
theorem trunc_nans (x : Nat) (h : isNan .f64 x = true) (w : World) : ∃ R : Nat → Nat, ∀ n, Calls Try.prog 89 #[.float .f64 x] (w.drewN n) fun e w' => e = .returned (.float .f64 (R n)) ∧ ∃ m, w' = (w.drewN n).drewN m :=
  ⟨fun n => Classical.choose (c_trunc_nan x h (w.drewN n)), fun n => (Classical.choose_spec (Classical.choose_spec (c_trunc_nan x h (w.drewN n)))).mono fun _ _ h => ⟨h.1, _, h.2⟩⟩
theorem b_clear64w (x : Nat) (h : x < 18446744073709551616) : bits .andNot .u64 (x : Int) 9223372036854775808 = ((x % 9223372036854775808 : Nat) : Int) := by
  have := u64_andNot_nat x 9223372036854775808 h (by decide)
  rw [show (18446744073709551615 - 9223372036854775808 : Nat) = 9223372036854775807 from rfl] at this
  rw [show x % 9223372036854775808 = x &&& 9223372036854775807 from (Nat.and_two_pow_sub_one_eq_mod x 63).symm]
  exact this
theorem c_absW (v : Nat) (hx : v < 18446744073709551616) (w : World) : Calls Try.prog 90 #[.float .f64 v] w fun e w' => e = .returned (.float .f64 (v % 9223372036854775808)) ∧ w' = w := by
  have hb := b_clear64w v hx
  go_enter Try.func90, Try.ntmps90
  go_wp2
  go_ret
  exact ⟨rfl, rfl⟩
set_option maxRecDepth 100000 in
set_option maxHeartbeats 2000000 in
theorem c_isWhole1 (x most pm : Nat) (hm1 : 1 ≤ most) (hm : most ≤ 1000) (hx : x < 4294967296) (w : World) (hq : w.cell? ⟨pm, 0, none⟩ = some (.int .i64 most)) :
    Calls Try.prog 88 #[.float .f32 x, .pointer (some ⟨pm, 0, none⟩)] w fun e w' => e = .returned (.bool (wholeF most x)) ∧ ∃ d, w' = w.drewN d := by
  by_cases hn : isNan .f32 x = true
  · have hwn : isNan .f64 (wide x w) = true := by unfold wide; rw [if_pos hn]; exact (cut_nanConv .f64 x _).1
    have HN := Lib.hid (whole_nan (most := most) hn)
    have hwd : wideDr x = 1 := by unfold wideDr; rw [if_pos hn]
    obtain ⟨W, hW⟩ : ∃ W, wide x w = W := ⟨_, rfl⟩
    obtain ⟨w1, hw1⟩ : ∃ w1, w.drewN 1 = w1 := ⟨_, rfl⟩
    rw [hW] at hwn
    obtain ⟨r, m, hc⟩ := c_trunc_nan W hwn w1.drew
    obtain ⟨w2, hw2⟩ : ∃ w2, w1.drew.drewN m = w2 := ⟨_, rfl⟩
    rw [hw2] at hc
    have HW2 := Lib.hid hw2
    have HC := Lib.hid hc
    have HO := Lib.hid (show (FloatKind.f64.format.order r W == some Ordering.eq) = false by rw [order_isNan_r (k := .f64) r hwn]; rfl)
    have hwl : W < 18446744073709551616 := by rw [← hW]; exact wide_lt x w
    have HA := Lib.hid (fun W2 => c_absW W hwl W2)
    have HW1 := Lib.hid hw1
    clear hn hm hm1 hw2 hwn hc
    go_enter Try.func88, Try.ntmps88
    go_wp2_with fail
    have ho := HO.out
    refine wp_region_held_drew (S := fun _ => True) (by kernel_rfl) trivial (fun hHeld => ?_)
    refine wpAnyH_take (i := 0) (v := ?v1) rfl (by kernel_rfl) (by kernel_rfl) (by kernel_rfl) (fun _ _ _ h => h) (Or.inl ⟨by rfl, ?hy1⟩) trivial ?rest1
    case hy1 => (intro w hSw; go_simp; try with_reducible rfl)
    try simp only [Act.put, List.getElem_toArray, List.getElem_cons_succ, List.getElem_cons_zero, List.setIfInBounds_toArray, List.set_cons_zero, List.set_cons_succ]
    refine wpAnyH_take (i := 2) (v := ?v2) rfl (by kernel_rfl) (by kernel_rfl) (by kernel_rfl) (fun _ _ _ h => h) (Or.inl ⟨by rfl, ?hy2⟩) trivial ?rest2
    case hy2 => (intro w hSw; go_simp; try with_reducible rfl)
    try simp only [Act.put, List.getElem_toArray, List.getElem_cons_succ, List.getElem_cons_zero, List.setIfInBounds_toArray, List.set_cons_zero, List.set_cons_succ]
    refine wpAnyH_ready (rs := [1]) (by kernel_rfl) (by simp) ?_
    refine AllReadyH.cons rfl (fun K hK => ?_) AllReadyH.nil
    go_simp
    go_at_call 89
    refine HC.out.mono ?_
    rintro e w3 ⟨rfl, rfl⟩
    refine hK.out _ _ trivial (fun hHeld => ?_)
    clear hK K
    try simp only [Act.put, List.getElem_toArray, List.getElem_cons_succ, List.getElem_cons_zero, List.setIfInBounds_toArray, List.set_cons_zero, List.set_cons_succ]
    refine wpAnyH_take (i := 3) (v := ?v3) rfl (by kernel_rfl) (by kernel_rfl) (by kernel_rfl) (fun _ _ _ h => h) (Or.inl ⟨by rfl, ?hy3⟩) trivial ?rest3
    case hy3 => (intro w hSw; go_simp; try with_reducible rfl)
    try simp only [Act.put, List.getElem_toArray, List.getElem_cons_succ, List.getElem_cons_zero, List.setIfInBounds_toArray, List.set_cons_zero, List.set_cons_succ]
    refine wpAnyH_take (i := 4) (v := ?v4) rfl (by kernel_rfl) (by kernel_rfl) (by kernel_rfl) (fun _ _ _ h => h) (Or.inl ⟨by rfl, ?hy4⟩) trivial ?rest4
    case hy4 => (intro w hSw; go_simp; try with_reducible rfl)
    try simp only [Act.put, List.getElem_toArray, List.getElem_cons_succ, List.getElem_cons_zero, List.setIfInBounds_toArray, List.set_cons_zero, List.set_cons_succ]
    refine wpAnyH_take (i := 5) (v := undef) rfl (by kernel_rfl) (by kernel_rfl) (by kernel_rfl) (fun _ _ _ h => h) (Or.inr ⟨by rfl, rfl⟩) trivial ?_
    try simp only [Act.put, List.getElem_toArray, List.getElem_cons_succ, List.getElem_cons_zero, List.setIfInBounds_toArray, List.set_cons_zero, List.set_cons_succ]
    refine wpAnyH_take (i := 6) (v := undef) rfl (by kernel_rfl) (by kernel_rfl) (by kernel_rfl) (fun _ _ _ h => h) (Or.inr ⟨by rfl, rfl⟩) trivial ?_
    try simp only [Act.put, List.getElem_toArray, List.getElem_cons_succ, List.getElem_cons_zero, List.setIfInBounds_toArray, List.set_cons_zero, List.set_cons_succ]
    refine wpAnyH_take (i := 7) (v := undef) rfl (by kernel_rfl) (by kernel_rfl) (by kernel_rfl) (fun _ _ _ h => h) (Or.inr ⟨by rfl, rfl⟩) trivial ?_
    try simp only [Act.put, List.getElem_toArray, List.getElem_cons_succ, List.getElem_cons_zero, List.setIfInBounds_toArray, List.set_cons_zero, List.set_cons_succ]
    refine wpAnyH_take (i := 8) (v := undef) rfl (by kernel_rfl) (by kernel_rfl) (by kernel_rfl) (fun _ _ _ h => h) (Or.inr ⟨by rfl, rfl⟩) trivial ?_
    try simp only [Act.put, List.getElem_toArray, List.getElem_cons_succ, List.getElem_cons_zero, List.setIfInBounds_toArray, List.set_cons_zero, List.set_cons_succ]
    refine wpAnyH_take (i := 9) (v := undef) rfl (by kernel_rfl) (by kernel_rfl) (by kernel_rfl) (fun _ _ _ h => h) (Or.inr ⟨by rfl, rfl⟩) trivial ?_
    try simp only [Act.put, List.getElem_toArray, List.getElem_cons_succ, List.getElem_cons_zero, List.setIfInBounds_toArray, List.set_cons_zero, List.set_cons_succ]
    refine wpAnyH_take (i := 10) (v := ?v5) rfl (by kernel_rfl) (by kernel_rfl) (by kernel_rfl) (fun _ _ _ h => h) (Or.inl ⟨by rfl, ?hy5⟩) trivial ?rest5
    case hy5 => (intro w hSw; go_simp; try with_reducible rfl)
    try simp only [Act.put, List.getElem_toArray, List.getElem_cons_succ, List.getElem_cons_zero, List.setIfInBounds_toArray, List.set_cons_zero, List.set_cons_succ]
    refine wpAnyH_take (i := 11) (v := ?v6) rfl (by kernel_rfl) (by kernel_rfl) (by kernel_rfl) (fun _ _ _ h => h) (Or.inl ⟨by rfl, ?hy6⟩) trivial ?rest6
    case hy6 => (intro w hSw; go_simp; try with_reducible rfl)
    try simp only [Act.put, List.getElem_toArray, List.getElem_cons_succ, List.getElem_cons_zero, List.setIfInBounds_toArray, List.set_cons_zero, List.set_cons_succ]
    refine wpAnyH_done (by kernel_rfl) ?_ _
    go_wp2
    go_ret
    exact ⟨ret_b HN.out.symm, by rw [← HW2.out, ← HW1.out]; simp only [World.drewN_drew, World.drewN_drewN]; exact ⟨_, rfl⟩⟩
  · have hn' : isNan .f32 x = false := by simpa using hn
    have hww : ∀ w, wide x w = cwide x := fun w => by unfold wide cwide; rw [hn']; rfl
    have hwd : wideDr x = 0 := by unfold wideDr; rw [hn']; rfl
    have hcn : isNan .f64 (cwide x) = false := by
      rw [← hww w]
      unfold wide
      rw [hn']
      exact write_num Ieee.double _ (by simpa [isNan, FloatKind.format] using hn')
    have hcl : cwide x < 18446744073709551616 := by rw [← hww w]; exact wide_lt x w
    have HT := Lib.hid (fun W => c_trunc (cwide x) hcn W)
    have HA := Lib.hid (fun W => c_absW (cwide x) hcl W)
    have key : ∃ b1 b2, (FloatKind.f64.format.order (rteV .zero (cwide x)) (cwide x) == some .eq) = b1 ∧ (FloatKind.f64.format.order (cwide x % 9223372036854775808) (floatOfInt .f64 (most : Int)) == some .lt || FloatKind.f64.format.order (cwide x % 9223372036854775808) (floatOfInt .f64 (most : Int)) == some .eq) = b2 ∧ (b1 && b2) = wholeF most x := by
      refine ⟨_, _, rfl, rfl, ?_⟩
      by_cases hf : x % 2147483648 < 2139095040
      · rw [abs_order hf hm]
        by_cases hmag : magX x ≤ most * 2 ^ 149
        · have hm1000 : magX x ≤ 1000 * 2 ^ 149 := Nat.le_trans hmag (Nat.mul_le_mul_right _ hm)
          rw [trunc_order hf hm1000]
          have h1 := trunc_iff hf hmag
          have h2 : (some (compare ((magX x : Nat) : Int) ((most * 2 ^ 149 : Nat) : Int)) == some Ordering.lt || some (compare ((magX x : Nat) : Int) ((most * 2 ^ 149 : Nat) : Int)) == some Ordering.eq) = true := by
            generalize most * 2 ^ 149 = M at hmag
            rcases cmp_cases ((magX x : Nat) : Int) (M : Int) with ⟨c, e⟩ | ⟨c, e⟩ | ⟨c, e⟩
            · rw [e]; rfl
            · rw [e]; rfl
            · omega
          rw [h2, Bool.and_true, ← h1]
          rfl
        · rw [whole_far (fun h => hmag h.2)]
          have h2 : (some (compare ((magX x : Nat) : Int) ((most * 2 ^ 149 : Nat) : Int)) == some Ordering.lt || some (compare ((magX x : Nat) : Int) ((most * 2 ^ 149 : Nat) : Int)) == some Ordering.eq) = false := by
            generalize most * 2 ^ 149 = M at hmag
            rcases cmp_cases ((magX x : Nat) : Int) (M : Int) with ⟨c, e⟩ | ⟨c, e⟩ | ⟨c, e⟩
            · omega
            · omega
            · rw [e]; rfl
          rw [h2, Bool.and_false]
      · rw [whole_far (fun h => hf h.1)]
        have hinf : cwide x % 9223372036854775808 = 9218868437227405312 := by
          rw [isNan32] at hn'
          simp at hn'
          have hx2 : x = 2139095040 ∨ x = 4286578688 := by omega
          rcases hx2 with rfl | rfl <;> decide +kernel
        rw [hinf, inf_abs most hm]
        simp
    obtain ⟨b1, b2, hb1, hb2, hb⟩ := key
    have HB := Lib.hid hb
    obtain ⟨W, hW⟩ : ∃ W, cwide x = W := ⟨_, rfl⟩
    rw [hW] at hww HT HA hb1 hb2
    obtain ⟨T, hT⟩ : ∃ T, rteV .zero W = T := ⟨_, rfl⟩
    rw [hT] at HT hb1
    obtain ⟨A, hA⟩ : ∃ A, W % 9223372036854775808 = A := ⟨_, rfl⟩
    rw [hA] at HA hb2
    clear hn hn' hcn hcl hb hW hT hA hm hm1
    cases b1 with
    | false =>
      go_enter Try.func88, Try.ntmps88
      go_wp2_with fail
      go_quiet (first
        | (go_at_call 89; exact Calls.quiet_of_same (HT.out _))
        | (go_at_call 90; exact Calls.quiet_of_same (HA.out _)))
      go_wp2
      go_ret
      exact ⟨ret_b (by rw [← HB.out]; simp [hb1]), _, rfl⟩
    | true =>
      go_enter Try.func88, Try.ntmps88
      go_wp2_with fail
      go_quiet (first
        | (go_at_call 89; exact Calls.quiet_of_same (HT.out _))
        | (go_at_call 90; exact Calls.quiet_of_same (HA.out _)))
      go_wp2
      go_ret
      exact ⟨ret_b (by rw [← HB.out]; simp [hb1, hb2]), _, rfl⟩
end Go.Proofs.Ytkpcjjnaocdelaa
