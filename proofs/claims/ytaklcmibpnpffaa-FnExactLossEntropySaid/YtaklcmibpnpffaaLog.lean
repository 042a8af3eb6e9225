/-
  What the logarithm returns: the same for the program and for its model. Conditions: none.
-/
import Derived.Test.YtaklcmibpnpffaaSums
import Derived.Test.YtaklcmibpnpffaaLogMath
namespace Go.Proofs.Ytaklcmibpnpffaa
open Go.RowKit Ieee

theorem p_lt {x y : Nat} (hx : x ≤ 9218868437227405312) (hy : y ≤ 9218868437227405312) : (FloatKind.f64.format.order x y == some .lt) = decide (x < y) := by
  rw [order_pos hx hy, Int.compare_eq_ite_lt]
  by_cases h : x < y
  · rw [if_pos (by omega), decide_eq_true h]; rfl
  · rw [if_neg (by omega), decide_eq_false h]
    split <;> rfl
theorem p_gt {x y : Nat} (hx : x ≤ 9218868437227405312) (hy : y ≤ 9218868437227405312) : (FloatKind.f64.format.order x y == some .gt) = decide (y < x) := by
  rw [order_pos hx hy, Int.compare_eq_ite_lt]
  by_cases h : y < x
  · rw [if_neg (by omega), if_pos (by omega), decide_eq_true h]; rfl
  · rw [decide_eq_false h]
    split
    · rfl
    · rw [if_neg (by omega)]; rfl
theorem p_eq {x y : Nat} (hx : x ≤ 9218868437227405312) (hy : y ≤ 9218868437227405312) : (FloatKind.f64.format.order x y == some .eq) = decide (x = y) := by
  rw [order_pos hx hy, Int.compare_eq_ite_lt]
  by_cases h : x < y
  · rw [if_pos (by omega), decide_eq_false (by omega)]; rfl
  · rw [if_neg (by omega)]
    by_cases h2 : y < x
    · rw [if_pos (by omega), decide_eq_false (by omega)]; rfl
    · rw [if_neg (by omega), decide_eq_true (by omega)]; rfl

def LogRel1 (y : Nat) (w : World) (x i : Value) (wr : World) : Prop := ∃ j n : Nat, j ≤ hN y ∧ x = .float .f64 (y - j * 4503599627370496) ∧ i = .int .i64 (j : Int) ∧ wr = w.drewN n
def LogRel2 (y h : Nat) (w : World) (x i : Value) (wr : World) : Prop := ∃ j n : Nat, j ≤ dN y ∧ x = .float .f64 (y + j * 4503599627370496) ∧ i = .int .i64 ((h : Int) - (j : Int)) ∧ wr = w.drewN n
def LogRel3 (u : Nat) (w : World) (q k : Value) (wr : World) : Prop :=
  ∃ j r n : Nat, j ≤ 13 ∧ k = .int .i64 (25 - 2 * (j : Int)) ∧ q = .float .f64 r ∧ canon .f64 r = clq (canon .f64 u) j ∧ B64 r (5 * (j : Int)) ∧ wr = w.drewN n
/-- a 64-bit number is returned whose canonical bits are v, which is not too great for 32 bits -/
def RetLog (v : Nat) (w : World) (e : Ending) (w' : World) : Prop := ∃ r n : Nat, canon .f64 r = v ∧ tooBig r = false ∧ e = .returned (.float .f64 r) ∧ w' = w.drewN n
theorem tail_canon {y s u q : Nat} {e : Int} {w1 w2 w3 w4 : World} (hs : canon .f64 s = cls y) (hu : canon .f64 u = cop .mul .f64 (cls y) (cls y)) (hq : canon .f64 q = clq (canon .f64 u) 13) :
    canon .f64 (fval .add .f64 (fval .mul .f64 4611686018427387904 (fval .mul .f64 s q w1) w2) (fval .mul .f64 (floatOfInt .f64 e) 4604418534313441775 w3) w4) = clogT y e := by
  have hc : canon .f64 4604418534313441775 = 4604418534313441775 := by decide +kernel
  simp only [canon_fval, canon64_two, canon_ofInt, hc, hs, hq, hu, clogT]
theorem c_isInf (x : Nat) (w : World) : Calls Try.prog 132 #[.float .f64 x, .int .i64 1] w fun e w' => e = .returned (.bool (FloatKind.f64.format.order x 9218868437227405311 == some .gt)) ∧ w' = w := by
  go_enter Try.func132, Try.ntmps132
  go_wp2
  go_ret
  exact ⟨rfl, rfl⟩
set_option maxHeartbeats 2000000 in
theorem c_logWide_mid (y : Nat) (w : World) (hm : Mid y) : Calls Try.prog 114 #[.float .f64 y] w (RetLog (clogT (y2 y) (eN y)) w) := by
  have o1 : (FloatKind.f64.format.order y 0 == some .lt) = false := by rw [p_lt (by have := hm.2; omega) (by omega)]; exact decide_eq_false (by omega)
  have o2 : (FloatKind.f64.format.order y 0 == some .eq) = false := by rw [p_eq (by have := hm.2; omega) (by omega)]; exact decide_eq_false (by have := hm.1; omega)
  have o3 : (FloatKind.f64.format.order y 9218868437227405311 == some .gt) = false := by rw [p_gt (by have := hm.2; omega) (by omega)]; exact decide_eq_false (by have := hm.2; omega)
  have HM := Lib.hid hm
  clear hm
  go_enter Try.func114, Try.ntmps114
  go_wp2_with (first | (go_at_call 132; refine (c_isInf _ _).mono ?_; rintro e v ⟨rfl, hvw⟩; subst v; rw [o3]) | go_in)
  go_loopw [0, 3] (fun x i wr => LogRel1 y w x i wr) (fun _ i _ => 200 - (intOf i).toNat)
  case atStart => exact ⟨0, 0, Nat.zero_le _, by rw [Nat.zero_mul, Nat.sub_zero], rfl, rfl⟩
  case round =>
    obtain ⟨j, n, hj, rfl, rfl, rfl⟩ := hrel
    have hj129 : j ≤ 129 := Nat.le_trans hj (hN_le HM.out)
    obtain ⟨v, hv⟩ : ∃ v, y - j * 4503599627370496 = v := ⟨_, rfl⟩
    have hvs : v ≤ 9218868437227405312 := by rw [← hv]; have := HM.out.2; omega
    rw [hv]
    by_cases hlt : j < hN y
    · have hge := (half_more HM.out hj).2 hlt
      rw [hv] at hge
      have HS := Lib.hid (show ∀ w : World, fval .quo .f64 v 4611686018427387904 w = y - (j + 1) * 4503599627370496 from fun w => by rw [← hv]; exact half_step HM.out hlt w)
      have HLT := Lib.hid hlt
      by_cases heq : v = 4609434218613702656
      · have c1 : (FloatKind.f64.format.order v 4609434218613702656 == some .gt) = false := by rw [p_gt hvs (by omega)]; exact decide_eq_false (by omega)
        have c2 : (FloatKind.f64.format.order v 4609434218613702656 == some .eq) = true := by rw [p_eq hvs (by omega)]; exact decide_eq_true heq
        clear hv hvs hge heq hj hlt
        go_wp2
        go_roundw
        case rel => exact ⟨j + 1, _, HLT.out, by rw [HS.out], by go_num, rfl⟩
        case measure => simp [intOf]; omega
      · have c1 : (FloatKind.f64.format.order v 4609434218613702656 == some .gt) = true := by rw [p_gt hvs (by omega)]; exact decide_eq_true (by omega)
        clear hv hvs hge heq hj hlt
        go_wp2
        go_roundw
        case rel => exact ⟨j + 1, _, HLT.out, by rw [HS.out], by go_num, rfl⟩
        case measure => simp [intOf]; omega
    · have hnge : ¬ 4609434218613702656 ≤ v := fun h => hlt ((half_more HM.out hj).1 (by rw [hv]; exact h))
      have c1 : (FloatKind.f64.format.order v 4609434218613702656 == some .gt) = false := by rw [p_gt hvs (by omega)]; exact decide_eq_false (by omega)
      have c2 : (FloatKind.f64.format.order v 4609434218613702656 == some .eq) = false := by rw [p_eq hvs (by omega)]; exact decide_eq_false (by omega)
      have hjh : j = hN y := by omega
      obtain ⟨h, hh⟩ : ∃ h, hN y = h := ⟨_, rfl⟩
      have HH := Lib.hid hh
      have HY := Lib.hid (show y1 y = v by rw [← hv, hjh]; rfl)
      obtain rfl : j = h := by omega
      have HV1 := Lib.hid (show 4503599627370496 ≤ v by rw [← HY.out]; have := (y1_in HM.out).1; omega)
      have HV2 := Lib.hid (show v ≤ 4609434218613702656 by omega)
      have HD := Lib.hid (show dN v ≤ 150 by rw [← HY.out]; exact dN_le HM.out)
      clear hv hvs hnge hj hlt hh hjh
      go_wp2
      go_loopw [0, 3] (fun x i wr => LogRel2 v j w x i wr) (fun _ i _ => (200 + intOf i).toNat)
      case atStart => exact ⟨0, _, Nat.zero_le _, by rw [Nat.zero_mul, Nat.add_zero], by go_num, rfl⟩
      case round =>
        obtain ⟨i, n', hi, rfl, rfl, rfl⟩ := hrel
        have hi150 : i ≤ 150 := Nat.le_trans hi HD.out
        obtain ⟨z, hz⟩ : ∃ z, v + i * 4503599627370496 = z := ⟨_, rfl⟩
        have hzs : z ≤ 9218868437227405312 := by rw [← hz]; have := HV2.out; omega
        rw [hz]
        by_cases hlt : i < dN v
        · have c3 : (FloatKind.f64.format.order z 4604930618986332160 == some .lt) = true := by
            rw [p_lt hzs (by omega)]; exact decide_eq_true (by rw [← hz]; exact (dbl_more hi).2 hlt)
          have HS := Lib.hid (show ∀ w : World, fval .mul .f64 z 4611686018427387904 w = v + (i + 1) * 4503599627370496 from fun w => by rw [← hz]; exact dbl_step HV1.out hlt w)
          have HLT := Lib.hid hlt
          clear hz hzs hlt hi
          go_wp2
          go_roundw
          case rel => exact ⟨i + 1, _, HLT.out, by rw [HS.out], by go_num, rfl⟩
          case measure => simp [intOf]; omega
        · have c3 : (FloatKind.f64.format.order z 4604930618986332160 == some .lt) = false := by
            rw [p_lt hzs (by omega)]; exact decide_eq_false (fun h => hlt ((dbl_more hi).1 (by rw [hz]; exact h)))
          have hid : i = dN v := by omega
          have HZ := Lib.hid (show y2 y = z by unfold y2; rw [HY.out, ← hid, hz])
          have HE := Lib.hid (show eN y = (j : Int) - (i : Int) by unfold eN; rw [HH.out, HY.out, hid])
          clear hz hzs hlt hi hid
          have HZ1 := Lib.hid (show 4604930618986332160 ≤ z ∧ z < 4609434218613702656 by rw [← HZ.out]; exact y2_in HM.out)
          have HC := Lib.hid (show canon .f64 z = z from canon_num (num_pos (by have := HZ1.out.2; omega)))
          go_wp2
          generalize ha : fval .sub .f64 z 4607182418800017408 (w.drewN n') = a
          generalize hb : fval .add .f64 z 4607182418800017408 (w.drewN (n' + fdr .sub .f64 z 4607182418800017408)) = b
          generalize hs : fval .quo .f64 a b (w.drewN (n' + fdr .sub .f64 z 4607182418800017408 + fdr .add .f64 z 4607182418800017408)) = s
          generalize hu : fval .mul .f64 s s (w.drewN (n' + fdr .sub .f64 z 4607182418800017408 + fdr .add .f64 z 4607182418800017408 + fdr .quo .f64 a b)) = u
          have BS := Lib.hid (show B64 s 2 by rw [← hs, ← ha, ← hb]; exact cls_bound HZ1.out.1 HZ1.out.2 _ _ _)
          have CS := Lib.hid (show canon .f64 s = cls z by rw [← hs, ← ha, ← hb, canon_fval, canon_fval, canon_fval, HC.out, canon64_one, cls])
          have BU := Lib.hid (show B64 u 4 by rw [← hu]; exact (b_mul (a := 2) (b := 2) _ BS.out BS.out (by decide) (by decide) (by decide) (by decide) (by decide)).mono (by decide))
          have CU := Lib.hid (show canon .f64 u = cop .mul .f64 (cls z) (cls z) by rw [← hu, canon_fval, CS.out])
          clear ha hb hs hu
          go_loopw [6, 7] (fun q k wr => LogRel3 u w q k wr) (fun _ k _ => (intOf k + 10).toNat)
          case atStart => exact ⟨0, 0, _, by decide, rfl, rfl, (show canon .f64 0 = 0 by decide +kernel), .inr (by decide), rfl⟩
          case round =>
            obtain ⟨t, q, n3, ht, rfl, rfl, hq, hbq, rfl⟩ := hrel
            have HQ := Lib.hid hq
            have HBQ := Lib.hid hbq
            clear hq hbq
            by_cases hlt : t < 13
            · have hk : (1 : Int) ≤ 25 - 2 * (t : Int) := by omega
              go_wp2
              go_roundw
              case rel => exact ⟨t + 1, _, _, by omega, by go_num, rfl, clq_step rfl HQ.out _ _ _, clq_bound BU.out HBQ.out hlt _ _ _, rfl⟩
              case measure => simp [intOf]; omega
            · obtain rfl : t = 13 := by omega
              go_wp2
              go_ret
              refine ⟨_, _, ?_, log_small BS.out HBQ.out (by omega) (by omega) _ _ _ _, rfl, rfl⟩
              rw [HZ.out, HE.out]
              exact tail_canon CS.out CU.out HQ.out
set_option maxHeartbeats 2000000 in
theorem c_l01LogWide_mid (y : Nat) (w : World) (hm : Mid y) : Calls Try.prog 109 #[.float .f64 y] w (RetLog (clogT (y2 y) (eN y)) w) := by
  have o1 : (FloatKind.f64.format.order y 0 == some .lt) = false := by rw [p_lt (by have := hm.2; omega) (by omega)]; exact decide_eq_false (by omega)
  have o2 : (FloatKind.f64.format.order y 0 == some .eq) = false := by rw [p_eq (by have := hm.2; omega) (by omega)]; exact decide_eq_false (by have := hm.1; omega)
  have o3 : (FloatKind.f64.format.order y 9218868437227405311 == some .gt) = false := by rw [p_gt (by have := hm.2; omega) (by omega)]; exact decide_eq_false (by have := hm.2; omega)
  have o0 : (FloatKind.f64.format.order y y != some .eq) = false := by rw [order_self_ne]; exact num_pos (by have := hm.2; omega)
  have HM := Lib.hid hm
  clear hm
  go_enter Try.func109, Try.ntmps109
  go_wp2_with (first | (go_at_call 132; refine (c_isInf _ _).mono ?_; rintro e v ⟨rfl, hvw⟩; subst v; rw [o3]) | go_in)
  go_loopw [0, 3] (fun x i wr => LogRel1 y w x i wr) (fun _ i _ => 200 - (intOf i).toNat)
  case atStart => exact ⟨0, 0, Nat.zero_le _, by rw [Nat.zero_mul, Nat.sub_zero], rfl, rfl⟩
  case round =>
    obtain ⟨j, n, hj, rfl, rfl, rfl⟩ := hrel
    have hj129 : j ≤ 129 := Nat.le_trans hj (hN_le HM.out)
    obtain ⟨v, hv⟩ : ∃ v, y - j * 4503599627370496 = v := ⟨_, rfl⟩
    have hvs : v ≤ 9218868437227405312 := by rw [← hv]; have := HM.out.2; omega
    rw [hv]
    by_cases hlt : j < hN y
    · have hge := (half_more HM.out hj).2 hlt
      rw [hv] at hge
      have HS := Lib.hid (show ∀ w : World, fval .quo .f64 v 4611686018427387904 w = y - (j + 1) * 4503599627370496 from fun w => by rw [← hv]; exact half_step HM.out hlt w)
      have HLT := Lib.hid hlt
      by_cases heq : v = 4609434218613702656
      · have c1 : (FloatKind.f64.format.order v 4609434218613702656 == some .gt) = false := by rw [p_gt hvs (by omega)]; exact decide_eq_false (by omega)
        have c2 : (FloatKind.f64.format.order v 4609434218613702656 == some .eq) = true := by rw [p_eq hvs (by omega)]; exact decide_eq_true heq
        clear hv hvs hge heq hj hlt
        go_wp2
        go_roundw
        case rel => exact ⟨j + 1, _, HLT.out, by rw [HS.out], by go_num, rfl⟩
        case measure => simp [intOf]; omega
      · have c1 : (FloatKind.f64.format.order v 4609434218613702656 == some .gt) = true := by rw [p_gt hvs (by omega)]; exact decide_eq_true (by omega)
        clear hv hvs hge heq hj hlt
        go_wp2
        go_roundw
        case rel => exact ⟨j + 1, _, HLT.out, by rw [HS.out], by go_num, rfl⟩
        case measure => simp [intOf]; omega
    · have hnge : ¬ 4609434218613702656 ≤ v := fun h => hlt ((half_more HM.out hj).1 (by rw [hv]; exact h))
      have c1 : (FloatKind.f64.format.order v 4609434218613702656 == some .gt) = false := by rw [p_gt hvs (by omega)]; exact decide_eq_false (by omega)
      have c2 : (FloatKind.f64.format.order v 4609434218613702656 == some .eq) = false := by rw [p_eq hvs (by omega)]; exact decide_eq_false (by omega)
      have hjh : j = hN y := by omega
      obtain ⟨h, hh⟩ : ∃ h, hN y = h := ⟨_, rfl⟩
      have HH := Lib.hid hh
      have HY := Lib.hid (show y1 y = v by rw [← hv, hjh]; rfl)
      obtain rfl : j = h := by omega
      have HV1 := Lib.hid (show 4503599627370496 ≤ v by rw [← HY.out]; have := (y1_in HM.out).1; omega)
      have HV2 := Lib.hid (show v ≤ 4609434218613702656 by omega)
      have HD := Lib.hid (show dN v ≤ 150 by rw [← HY.out]; exact dN_le HM.out)
      clear hv hvs hnge hj hlt hh hjh
      go_wp2
      go_loopw [0, 3] (fun x i wr => LogRel2 v j w x i wr) (fun _ i _ => (200 + intOf i).toNat)
      case atStart => exact ⟨0, _, Nat.zero_le _, by rw [Nat.zero_mul, Nat.add_zero], by go_num, rfl⟩
      case round =>
        obtain ⟨i, n', hi, rfl, rfl, rfl⟩ := hrel
        have hi150 : i ≤ 150 := Nat.le_trans hi HD.out
        obtain ⟨z, hz⟩ : ∃ z, v + i * 4503599627370496 = z := ⟨_, rfl⟩
        have hzs : z ≤ 9218868437227405312 := by rw [← hz]; have := HV2.out; omega
        rw [hz]
        by_cases hlt : i < dN v
        · have c3 : (FloatKind.f64.format.order z 4604930618986332160 == some .lt) = true := by
            rw [p_lt hzs (by omega)]; exact decide_eq_true (by rw [← hz]; exact (dbl_more hi).2 hlt)
          have HS := Lib.hid (show ∀ w : World, fval .mul .f64 z 4611686018427387904 w = v + (i + 1) * 4503599627370496 from fun w => by rw [← hz]; exact dbl_step HV1.out hlt w)
          have HLT := Lib.hid hlt
          clear hz hzs hlt hi
          go_wp2
          go_roundw
          case rel => exact ⟨i + 1, _, HLT.out, by rw [HS.out], by go_num, rfl⟩
          case measure => simp [intOf]; omega
        · have c3 : (FloatKind.f64.format.order z 4604930618986332160 == some .lt) = false := by
            rw [p_lt hzs (by omega)]; exact decide_eq_false (fun h => hlt ((dbl_more hi).1 (by rw [hz]; exact h)))
          have hid : i = dN v := by omega
          have HZ := Lib.hid (show y2 y = z by unfold y2; rw [HY.out, ← hid, hz])
          have HE := Lib.hid (show eN y = (j : Int) - (i : Int) by unfold eN; rw [HH.out, HY.out, hid])
          clear hz hzs hlt hi hid
          have HZ1 := Lib.hid (show 4604930618986332160 ≤ z ∧ z < 4609434218613702656 by rw [← HZ.out]; exact y2_in HM.out)
          have HC := Lib.hid (show canon .f64 z = z from canon_num (num_pos (by have := HZ1.out.2; omega)))
          go_wp2
          generalize ha : fval .sub .f64 z 4607182418800017408 (w.drewN n') = a
          generalize hb : fval .add .f64 z 4607182418800017408 (w.drewN (n' + fdr .sub .f64 z 4607182418800017408)) = b
          generalize hs : fval .quo .f64 a b (w.drewN (n' + fdr .sub .f64 z 4607182418800017408 + fdr .add .f64 z 4607182418800017408)) = s
          generalize hu : fval .mul .f64 s s (w.drewN (n' + fdr .sub .f64 z 4607182418800017408 + fdr .add .f64 z 4607182418800017408 + fdr .quo .f64 a b)) = u
          have BS := Lib.hid (show B64 s 2 by rw [← hs, ← ha, ← hb]; exact cls_bound HZ1.out.1 HZ1.out.2 _ _ _)
          have CS := Lib.hid (show canon .f64 s = cls z by rw [← hs, ← ha, ← hb, canon_fval, canon_fval, canon_fval, HC.out, canon64_one, cls])
          have BU := Lib.hid (show B64 u 4 by rw [← hu]; exact (b_mul (a := 2) (b := 2) _ BS.out BS.out (by decide) (by decide) (by decide) (by decide) (by decide)).mono (by decide))
          have CU := Lib.hid (show canon .f64 u = cop .mul .f64 (cls z) (cls z) by rw [← hu, canon_fval, CS.out])
          clear ha hb hs hu
          go_loopw [6, 7] (fun q k wr => LogRel3 u w q k wr) (fun _ k _ => (intOf k + 10).toNat)
          case atStart => exact ⟨0, 0, _, by decide, rfl, rfl, (show canon .f64 0 = 0 by decide +kernel), .inr (by decide), rfl⟩
          case round =>
            obtain ⟨t, q, n3, ht, rfl, rfl, hq, hbq, rfl⟩ := hrel
            have HQ := Lib.hid hq
            have HBQ := Lib.hid hbq
            clear hq hbq
            by_cases hlt : t < 13
            · have hk : (1 : Int) ≤ 25 - 2 * (t : Int) := by omega
              go_wp2
              go_roundw
              case rel => exact ⟨t + 1, _, _, by omega, by go_num, rfl, clq_step rfl HQ.out _ _ _, clq_bound BU.out HBQ.out hlt _ _ _, rfl⟩
              case measure => simp [intOf]; omega
            · obtain rfl : t = 13 := by omega
              go_wp2
              go_ret
              refine ⟨_, _, ?_, log_small BS.out HBQ.out (by omega) (by omega) _ _ _ _, rfl, rfl⟩
              rw [HZ.out, HE.out]
              exact tail_canon CS.out CU.out HQ.out
theorem clogT_nan : clogT (qnan .f64) 0 = qnan .f64 := by decide +kernel
def LogRel0 (z : Nat) (w : World) (x i : Value) (wr : World) : Prop := ∃ n : Nat, x = .float .f64 z ∧ i = .int .i64 0 ∧ wr = w.drewN n
set_option maxHeartbeats 2000000 in
theorem c_logWide_nan (z : Nat) (w : World) (hn : isNan .f64 z = true) : Calls Try.prog 114 #[.float .f64 z] w (RetLog (qnan .f64) w) := by
  have o1 : (FloatKind.f64.format.order z 0 == some .lt) = false := by rw [order_isNan_l _ hn]; rfl
  have o2 : (FloatKind.f64.format.order z 0 == some .eq) = false := by rw [order_isNan_l _ hn]; rfl
  have o3 : (FloatKind.f64.format.order z 9218868437227405311 == some .gt) = false := by rw [order_isNan_l _ hn]; rfl
  have c1 : (FloatKind.f64.format.order z 4609434218613702656 == some .gt) = false := by rw [order_isNan_l _ hn]; rfl
  have c2 : (FloatKind.f64.format.order z 4609434218613702656 == some .eq) = false := by rw [order_isNan_l _ hn]; rfl
  have c3 : (FloatKind.f64.format.order z 4604930618986332160 == some .lt) = false := by rw [order_isNan_l _ hn]; rfl
  have HN := Lib.hid hn
  have HC := Lib.hid (canon_nan hn)
  have HT := Lib.hid clogT_nan
  clear hn
  go_enter Try.func114, Try.ntmps114
  go_wp2_with (first | (go_at_call 132; refine (c_isInf _ _).mono ?_; rintro e v ⟨rfl, hvw⟩; subst v; rw [o3]) | go_in)
  go_loopw [0, 3] (fun x i wr => LogRel0 z w x i wr) (fun _ i _ => (intOf i).toNat)
  case atStart => exact ⟨0, rfl, rfl, rfl⟩
  case round =>
    obtain ⟨n, rfl, rfl, rfl⟩ := hrel
    go_wp2
    go_loopw [0, 3] (fun x i wr => LogRel0 z w x i wr) (fun _ i _ => (intOf i).toNat)
    case atStart => exact ⟨_, rfl, rfl, rfl⟩
    case round =>
      obtain ⟨n', rfl, rfl, rfl⟩ := hrel
      go_wp2
      generalize ha : fval .sub .f64 z 4607182418800017408 (w.drewN n') = a
      generalize hb : fval .add .f64 z 4607182418800017408 (w.drewN (n' + fdr .sub .f64 z 4607182418800017408)) = b
      generalize hs : fval .quo .f64 a b (w.drewN (n' + fdr .sub .f64 z 4607182418800017408 + fdr .add .f64 z 4607182418800017408)) = s
      generalize hu : fval .mul .f64 s s (w.drewN (n' + fdr .sub .f64 z 4607182418800017408 + fdr .add .f64 z 4607182418800017408 + fdr .quo .f64 a b)) = u
      have BS := Lib.hid (show B64 s 2 by rw [← hs, ← ha, ← hb]; exact .inl (fval_none _ (floatBits_nan_l _ _ (fval_none _ (floatBits_nan_l _ _ HN.out)))))
      have CS := Lib.hid (show canon .f64 s = cls (qnan .f64) by rw [← hs, ← ha, ← hb, canon_fval, canon_fval, canon_fval, HC.out, canon64_one, cls])
      have BU := Lib.hid (show B64 u 4 by rw [← hu]; exact (b_mul (a := 2) (b := 2) _ BS.out BS.out (by decide) (by decide) (by decide) (by decide) (by decide)).mono (by decide))
      have CU := Lib.hid (show canon .f64 u = cop .mul .f64 (cls (qnan .f64)) (cls (qnan .f64)) by rw [← hu, canon_fval, CS.out])
      clear ha hb hs hu
      go_loopw [6, 7] (fun q k wr => LogRel3 u w q k wr) (fun _ k _ => (intOf k + 10).toNat)
      case atStart => exact ⟨0, 0, _, by decide, rfl, rfl, (show canon .f64 0 = 0 by decide +kernel), .inr (by decide), rfl⟩
      case round =>
        obtain ⟨t, q, n3, ht, rfl, rfl, hq, hbq, rfl⟩ := hrel
        have HQ := Lib.hid hq
        have HBQ := Lib.hid hbq
        clear hq hbq
        by_cases hlt : t < 13
        · have hk : (1 : Int) ≤ 25 - 2 * (t : Int) := by omega
          go_wp2
          go_roundw
          case rel => exact ⟨t + 1, _, _, by omega, by go_num, rfl, clq_step rfl HQ.out _ _ _, clq_bound BU.out HBQ.out hlt _ _ _, rfl⟩
          case measure => simp [intOf]; omega
        · obtain rfl : t = 13 := by omega
          go_wp2
          go_ret
          refine ⟨_, _, ?_, log_small BS.out HBQ.out (by omega) (by omega) _ _ _ _, rfl, rfl⟩
          rw [← HT.out]
          exact tail_canon CS.out CU.out HQ.out
theorem wide_cases (x : Nat) (w : World) : isNan .f64 (wide x w) = true ∨ (FloatKind.f64.format.order (wide x w) 0 == some .lt) = true ∨ (FloatKind.f64.format.order (wide x w) 0 == some .eq) = true ∨ wide x w = 9218868437227405312 ∨ Mid (wide x w) := by
  unfold wide
  split
  · exact .inl (cut_nanConv .f64 x _).1
  · rename_i hn
    cases hr : Ieee.single.read x with
    | nan s t => exfalso; apply hn; unfold isNan; show (Ieee.single.read x).isNaN = true; rw [hr]; rfl
    | infinity s =>
      cases s
      · exact .inr (.inr (.inr (.inl (by decide +kernel))))
      · exact .inr (.inl (by decide +kernel))
    | number s m e =>
      obtain ⟨h1, h2, h3⟩ := read32_num hr
      show isNan .f64 (Ieee.double.nearest s m e) = true ∨ (FloatKind.f64.format.order (Ieee.double.nearest s m e) 0 == some .lt) = true ∨ (FloatKind.f64.format.order (Ieee.double.nearest s m e) 0 == some .eq) = true ∨ Ieee.double.nearest s m e = 9218868437227405312 ∨ Mid (Ieee.double.nearest s m e)
      by_cases hm : m = 0
      · subst hm
        refine .inr (.inr (.inl ?_))
        unfold Format.nearest
        rw [if_pos rfl]
        cases s <;> decide +kernel
      · obtain ⟨r, hw, hlt⟩ := nearest64_small s hm h1 h2 h3
        have lo := nearest_ge Ieee.double s (m := m) (e := e) (K := -149) (by
          unfold AtLeast
          rw [show (-149 - e).toNat = 0 by omega, Nat.pow_zero]
          exact Nat.mul_pos (Nat.pos_of_ne_zero hm) (Nat.two_pow_pos _)) (by rw [double_least, double_frac]; omega) (by rw [double_pow, double_inf]; decide)
        have hi := nearest_le Ieee.double s (m := m) (e := e) (K := 128) (.inr ⟨by omega, Nat.le_trans (Nat.le_of_lt h1) (Nat.pow_le_pow_right (by decide) (by omega))⟩) (by rw [double_least, double_frac]; omega)
        have hi : Ieee.double.nearest s m e % Ieee.double.signWeight ≤ pow2 Ieee.double 128 := hi
        rw [hw, word_mod _ _ (Nat.le_of_lt hlt), double_pow] at lo hi
        have lo : 874 * 4503599627370496 ≤ r := lo
        have hi : r ≤ 1151 * 4503599627370496 := hi
        rw [hw]
        cases s
        · refine .inr (.inr (.inr (.inr ?_)))
          have e1 : Ieee.double.word false r = r := by unfold Format.word; rw [if_neg (by decide)]
          rw [e1]
          exact ⟨by omega, by omega⟩
        · refine .inr (.inl ?_)
          have e1 : Ieee.double.word true r = 9223372036854775808 + r := by unfold Format.word; rw [if_pos rfl, double_sw]
          have hn : isNan .f64 (9223372036854775808 + r) = false := by rw [isNan64]; exact decide_eq_false (by omega)
          rw [e1, order64 hn (by decide +kernel), key64, show key Ieee.double 0 = 0 by decide +kernel]
          rw [show (9223372036854775808 + r) / 9223372036854775808 = 1 by omega, show (9223372036854775808 + r) % 9223372036854775808 = r by omega, if_pos (by decide), Int.compare_eq_ite_lt, if_pos (by omega)]
          rfl
/-- the logarithm, on one pattern for not-a-numbers -/
def clog (c : Nat) : Nat :=
  if isNan .f64 c = true then qnan .f64 else if (FloatKind.f64.format.order c 0 == some .lt) = true then qnan .f64
  else if (FloatKind.f64.format.order c 0 == some .eq) = true then 18442240474082181120
  else if c = 9218868437227405312 then c else clogT (y2 c) (eN c)
theorem clog_nan {y : Nat} (h : isNan .f64 y = true) : clog (canon .f64 y) = qnan .f64 := by unfold clog; rw [if_pos (by rw [isNan_canon]; exact h)]
theorem num_of_order {y z : Nat} {o : Ordering} (h : (FloatKind.f64.format.order y z == some o) = true) : isNan .f64 y = false := by
  by_cases hn : isNan .f64 y = true
  · rw [order_isNan_l _ hn] at h; cases h
  · simpa using hn
theorem clog_neg {y : Nat} (h : (FloatKind.f64.format.order y 0 == some .lt) = true) : clog (canon .f64 y) = qnan .f64 := by
  have hn := num_of_order h
  rw [canon_num hn]; unfold clog; rw [if_neg (by rw [hn]; decide), if_pos h]
theorem eq_not_lt {y : Nat} (h : (FloatKind.f64.format.order y 0 == some .eq) = true) : (FloatKind.f64.format.order y 0 == some .lt) = false := by
  generalize FloatKind.f64.format.order y 0 = o at *
  rcases o with _ | o
  · cases h
  · cases o <;> first | rfl | cases h
theorem clog_zero {y : Nat} (h : (FloatKind.f64.format.order y 0 == some .eq) = true) : clog (canon .f64 y) = 18442240474082181120 := by
  have hn := num_of_order h
  rw [canon_num hn]; unfold clog; rw [if_neg (by rw [hn]; decide), if_neg (by rw [eq_not_lt h]; decide), if_pos h]
theorem clog_inf : clog (canon .f64 9218868437227405312) = 9218868437227405312 := by decide +kernel
theorem clog_mid {y : Nat} (h : Mid y) : clog (canon .f64 y) = clogT (y2 y) (eN y) := by
  have hn : isNan .f64 y = false := num_pos (by have := h.2; omega)
  rw [canon_num hn]; unfold clog
  rw [if_neg (by rw [hn]; decide), if_neg (by rw [p_lt (by have := h.2; omega) (by omega)]; simp), if_neg (by rw [p_eq (by have := h.2; omega) (by omega)]; have := h.1; simp; omega), if_neg (by have := h.2; omega)]
theorem canon_nan1 : canon .f64 9221120237041090561 = qnan .f64 := by decide +kernel
theorem canon_ninf : canon .f64 18442240474082181120 = 18442240474082181120 := by decide +kernel
theorem canon_pinf : canon .f64 9218868437227405312 = 9218868437227405312 := by decide +kernel
theorem small_nan1 : tooBig 9221120237041090561 = false := by decide +kernel
theorem small_ninf : tooBig 18442240474082181120 = false := by decide +kernel
theorem small_pinf : tooBig 9218868437227405312 = false := by decide +kernel
theorem c_logWide_neg (y : Nat) (w : World) (h : (FloatKind.f64.format.order y 0 == some .lt) = true) : Calls Try.prog 114 #[.float .f64 y] w (RetLog (qnan .f64) w) := by
  go_enter Try.func114, Try.ntmps114
  go_wp2_with go_in
  go_ret
  exact ⟨9221120237041090561, 0, canon_nan1, small_nan1, rfl, rfl⟩
theorem c_logWide_zero (y : Nat) (w : World) (h : (FloatKind.f64.format.order y 0 == some .eq) = true) : Calls Try.prog 114 #[.float .f64 y] w (RetLog 18442240474082181120 w) := by
  have o1 := eq_not_lt h
  go_enter Try.func114, Try.ntmps114
  go_wp2_with go_in
  go_ret
  exact ⟨18442240474082181120, 0, canon_ninf, small_ninf, rfl, rfl⟩
theorem c_logWide_inf (w : World) : Calls Try.prog 114 #[.float .f64 9218868437227405312] w (RetLog 9218868437227405312 w) := by
  obtain ⟨y, hy⟩ : ∃ y, y = 9218868437227405312 := ⟨_, rfl⟩
  rw [← hy]
  have o1 : (FloatKind.f64.format.order y 0 == some .lt) = false := by rw [hy]; decide +kernel
  have o2 : (FloatKind.f64.format.order y 0 == some .eq) = false := by rw [hy]; decide +kernel
  have o3 : (FloatKind.f64.format.order y 9218868437227405311 == some .gt) = true := by rw [hy]; decide +kernel
  have o0 : (FloatKind.f64.format.order y y != some .eq) = false := by rw [hy]; decide +kernel
  have H1 := Lib.hid (show canon .f64 y = y by rw [hy]; exact canon_pinf)
  have H2 := Lib.hid (show tooBig y = false by rw [hy]; exact small_pinf)
  clear hy
  go_enter Try.func114, Try.ntmps114
  go_wp2_with (first | (go_at_call 132; refine (c_isInf _ _).mono ?_; rintro e v ⟨rfl, hvw⟩; subst v; rw [o3]) | go_in)
  go_ret
  exact ⟨y, 0, H1.out, H2.out, rfl, rfl⟩
theorem c_logWide (x : Nat) (w0 w : World) : Calls Try.prog 114 #[.float .f64 (wide x w0)] w (RetLog (clog (canon .f64 (wide x w0))) w) := by
  have hc := wide_cases x w0
  generalize wide x w0 = y at *
  rcases hc with h | h | h | h | h
  · rw [clog_nan h]; exact c_logWide_nan y w h
  · rw [clog_neg h]; exact c_logWide_neg y w h
  · rw [clog_zero h]; exact c_logWide_zero y w h
  · subst h; rw [clog_inf]; exact c_logWide_inf w
  · rw [clog_mid h]; exact c_logWide_mid y w h
theorem c_l01LogWide_nan (y : Nat) (w : World) (hn : isNan .f64 y = true) : Calls Try.prog 109 #[.float .f64 y] w (RetLog (qnan .f64) w) := by
  have o0 : (FloatKind.f64.format.order y y != some .eq) = true := by rw [order_self_ne]; exact hn
  clear hn
  go_enter Try.func109, Try.ntmps109
  go_wp2_with go_in
  go_ret
  exact ⟨9221120237041090561, 0, canon_nan1, small_nan1, rfl, rfl⟩
theorem c_l01LogWide_neg (y : Nat) (w : World) (h : (FloatKind.f64.format.order y 0 == some .lt) = true) : Calls Try.prog 109 #[.float .f64 y] w (RetLog (qnan .f64) w) := by
  have o0 : (FloatKind.f64.format.order y y != some .eq) = false := by rw [order_self_ne]; exact num_of_order h
  go_enter Try.func109, Try.ntmps109
  go_wp2_with go_in
  go_ret
  exact ⟨9221120237041090561, 0, canon_nan1, small_nan1, rfl, rfl⟩
theorem c_l01LogWide_zero (y : Nat) (w : World) (h : (FloatKind.f64.format.order y 0 == some .eq) = true) : Calls Try.prog 109 #[.float .f64 y] w (RetLog 18442240474082181120 w) := by
  have o0 : (FloatKind.f64.format.order y y != some .eq) = false := by rw [order_self_ne]; exact num_of_order h
  have o1 := eq_not_lt h
  go_enter Try.func109, Try.ntmps109
  go_wp2_with go_in
  go_ret
  exact ⟨18442240474082181120, 0, canon_ninf, small_ninf, rfl, rfl⟩
theorem c_l01LogWide_inf (w : World) : Calls Try.prog 109 #[.float .f64 9218868437227405312] w (RetLog 9218868437227405312 w) := by
  obtain ⟨y, hy⟩ : ∃ y, y = 9218868437227405312 := ⟨_, rfl⟩
  rw [← hy]
  have o1 : (FloatKind.f64.format.order y 0 == some .lt) = false := by rw [hy]; decide +kernel
  have o2 : (FloatKind.f64.format.order y 0 == some .eq) = false := by rw [hy]; decide +kernel
  have o3 : (FloatKind.f64.format.order y 9218868437227405311 == some .gt) = true := by rw [hy]; decide +kernel
  have o0 : (FloatKind.f64.format.order y y != some .eq) = false := by rw [hy]; decide +kernel
  have H1 := Lib.hid (show canon .f64 y = y by rw [hy]; exact canon_pinf)
  have H2 := Lib.hid (show tooBig y = false by rw [hy]; exact small_pinf)
  clear hy
  go_enter Try.func109, Try.ntmps109
  go_wp2_with (first | (go_at_call 132; refine (c_isInf _ _).mono ?_; rintro e v ⟨rfl, hvw⟩; subst v; rw [o3]) | go_in)
  go_ret
  exact ⟨y, 0, H1.out, H2.out, rfl, rfl⟩
theorem c_l01LogWide (x : Nat) (w0 w : World) : Calls Try.prog 109 #[.float .f64 (wide x w0)] w (RetLog (clog (canon .f64 (wide x w0))) w) := by
  have hc := wide_cases x w0
  generalize wide x w0 = y at *
  rcases hc with h | h | h | h | h
  · rw [clog_nan h]; exact c_l01LogWide_nan y w h
  · rw [clog_neg h]; exact c_l01LogWide_neg y w h
  · rw [clog_zero h]; exact c_l01LogWide_zero y w h
  · subst h; rw [clog_inf]; exact c_l01LogWide_inf w
  · rw [clog_mid h]; exact c_l01LogWide_mid y w h
theorem c_iLogNumber (x : Nat) (w : World) : Calls Try.prog 82 #[.float .f32 x] w (RetF .f32 (cnarrow (clog (cwide (canon .f32 x)))) w) := by
  go_enter Try.func82, Try.ntmps82
  go_wp2_with (first | (go_at_call 114; refine (c_logWide x _ _).mono ?_; rintro e w' ⟨r, n, hr, hb, rfl, rfl⟩; have HR := Lib.hid hr; have HB := Lib.hid hb; clear hr hb) | go_in)
  go_ret
  refine ⟨_, _, ?_, narrow_lt _ _, rfl, rfl⟩
  rw [canon_narrow _ HB.out, HR.out, canon_wide]
theorem c_l01Log (x : Nat) (w : World) : Calls Try.prog 80 #[.float .f32 x] w (RetF .f32 (cnarrow (clog (cwide (canon .f32 x)))) w) := by
  go_enter Try.func80, Try.ntmps80
  go_wp2_with (first | (go_at_call 109; refine (c_l01LogWide x _ _).mono ?_; rintro e w' ⟨r, n, hr, hb, rfl, rfl⟩; have HR := Lib.hid hr; have HB := Lib.hid hb; clear hr hb) | go_in)
  go_ret
  refine ⟨_, _, ?_, narrow_lt _ _, rfl, rfl⟩
  rw [canon_narrow _ HB.out, HR.out, canon_wide]
end Go.Proofs.Ytaklcmibpnpffaa
