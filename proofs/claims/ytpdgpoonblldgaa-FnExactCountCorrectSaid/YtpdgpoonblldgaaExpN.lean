/-
  What the exponential function returns for numbers that are not greater than 0: the same for the program and for its model. Conditions: the number is at most 0, or none.
-/
import Derived.Test.YtpdgpoonblldgaaSums
import Derived.Test.YtpdgpoonblldgaaExpNeg
namespace Go.Proofs.Ytpdgpoonblldgaa
open Go.RowKit

def cexpW (c : Nat) : Nat := if (FloatKind.f64.format.order c 13864612927836782592 == some .lt) = true then 0 else cexp c
theorem canon64_m200 : canon .f64 13864612927836782592 = 13864612927836782592 := by decide +kernel
theorem canon64_zero : canon .f64 0 = 0 := by decide +kernel
theorem cexpW_lt {x : Nat} (h : (FloatKind.f64.format.order x 13864612927836782592 == some .lt) = true) : cexpW (canon .f64 x) = 0 := by
  unfold cexpW
  rw [if_pos (by rw [← canon64_m200, order_canon]; exact h)]
theorem cexpW_ge {x : Nat} (h : (FloatKind.f64.format.order x 13864612927836782592 == some .lt) = false) : cexpW (canon .f64 x) = cexp (canon .f64 x) := by
  unfold cexpW
  rw [if_neg (by rw [← canon64_m200, order_canon, h]; decide)]
def ExpU1 (t : Nat) (w : World) (p i : Value) (wr : World) : Prop :=
  ∃ j r n : Nat, j ≤ 12 ∧ i = .int .i64 (12 - (j : Int)) ∧ p = .float .f64 r ∧ canon .f64 r = ce1 (canon .f64 t) j ∧ Unit1 r ∧ wr = w.drewN n
def ExpU2 (p0 : Nat) (w : World) (p i : Value) (wr : World) : Prop :=
  ∃ j r n : Nat, j ≤ 8 ∧ i = .int .i64 j ∧ p = .float .f64 r ∧ canon .f64 r = csqr (canon .f64 p0) j ∧ Unit1 r ∧ wr = w.drewN n
def RetU (v : Nat) (w : World) (e : Ending) (w' : World) : Prop := ∃ r n : Nat, canon .f64 r = v ∧ Unit1 r ∧ e = .returned (.float .f64 r) ∧ w' = w.drewN n
set_option maxHeartbeats 1000000 in
theorem c_expWideN (x : Nat) (w : World) (h : NonPos x) (hx : x < 18446744073709551616) : Calls Try.prog 235 #[.float .f64 x] w (RetU (cexpW (canon .f64 x)) w) := by
  have t1 := neg_not_gt h hx
  cases t2 : (FloatKind.f64.format.order x 13864612927836782592 == some .lt) with
  | true =>
    have H := Lib.hid (cexpW_lt t2)
    clear h
    go_enter Try.func235, Try.ntmps235
    go_wp2
    go_ret
    exact ⟨0, 0, by rw [H.out, canon64_zero], .inr (by decide), rfl, rfl⟩
  | false =>
    have H := Lib.hid (cexpW_ge t2)
    have hb := neg_in h hx t2
    have HT := Lib.hid (t_neg hb w)
    have HC := Lib.hid (fun w => canon_fval .quo .f64 x 4643211215818981376 w)
    clear h hb
    go_enter Try.func235, Try.ntmps235
    go_wp2
    go_loopw [4, 5] (fun p i wr => ExpU1 (fval .quo .f64 x 4643211215818981376 w) w p i wr) (fun _ i _ => (intOf i).toNat)
    case atStart => exact ⟨0, 4607182418800017408, _, by decide, rfl, rfl, canon64_one, unit_one, rfl⟩
    case round =>
      obtain ⟨j, r, n, hj, rfl, rfl, hr, hb, rfl⟩ := hrel
      have HR := Lib.hid hr
      have HB := Lib.hid hb
      clear hr hb
      by_cases hlt : j < 12
      · have hk : (1 : Int) ≤ 12 - (j : Int) := by omega
        go_wp2
        go_roundw
        case rel => exact ⟨j + 1, _, _, by omega, by go_num, rfl, ce1_step rfl HR.out _ _ _, ce1_unit HT.out HB.out hlt _ _ _, rfl⟩
        case measure => simp [intOf]; omega
      · obtain rfl : j = 12 := by omega
        go_wp2
        go_loopw [4, 24] (fun p i wr => ExpU2 r w p i wr) (fun _ i _ => 8 - (intOf i).toNat)
        case atStart => exact ⟨0, r, _, by decide, rfl, rfl, rfl, HB.out, rfl⟩
        case round =>
          obtain ⟨j, q, n', hj', rfl, rfl, hq, hb, rfl⟩ := hrel
          have HQ := Lib.hid hq
          have HB2 := Lib.hid hb
          clear hq hb
          by_cases hlt2 : j < 8
          · go_wp2
            go_roundw
            case rel => exact ⟨j + 1, _, _, by omega, by go_num, rfl, csqr_step HQ.out _, unit_sq _ HB2.out, rfl⟩
            case measure => simp [intOf]; omega
          · obtain rfl : j = 8 := by omega
            go_wp2
            go_ret
            exact ⟨q, _, by rw [H.out, HQ.out, HR.out, HC.out, canon64_256]; rfl, HB2.out, rfl, rfl⟩
set_option maxHeartbeats 1000000 in
theorem c_l01ExpWideN (x : Nat) (w : World) (h : NonPos x) (hx : x < 18446744073709551616) : Calls Try.prog 174 #[.float .f64 x] w (RetU (cexpW (canon .f64 x)) w) := by
  by_cases hn : isNan .f64 x = true
  · have ho : (FloatKind.f64.format.order x x != some .eq) = true := by rw [order_self_ne]; exact hn
    have H := Lib.hid (show canon .f64 x = cexpW (canon .f64 x) by rw [cexpW_ge (by rw [order_isNan_l _ hn]; rfl), canon_nan hn, cexp_nan])
    have HN := Lib.hid hn
    clear hn h
    go_enter Try.func174, Try.ntmps174
    go_wp2
    go_ret
    exact ⟨x, 0, H.out, .inl HN.out, rfl, rfl⟩
  have hn : isNan .f64 x = false := by simpa using hn
  have ho : (FloatKind.f64.format.order x x != some .eq) = false := by rw [order_self_ne]; exact hn
  have t1 := neg_not_gt h hx
  cases t2 : (FloatKind.f64.format.order x 13864612927836782592 == some .lt) with
  | true =>
    have H := Lib.hid (cexpW_lt t2)
    clear h hn
    go_enter Try.func174, Try.ntmps174
    go_wp2
    go_ret
    exact ⟨0, 0, by rw [H.out, canon64_zero], .inr (by decide), rfl, rfl⟩
  | false =>
    have H := Lib.hid (cexpW_ge t2)
    have hb := neg_in h hx t2
    have HT := Lib.hid (t_neg hb w)
    have HC := Lib.hid (fun w => canon_fval .quo .f64 x 4643211215818981376 w)
    clear h hb hn
    go_enter Try.func174, Try.ntmps174
    go_wp2
    go_loopw [4, 5] (fun p i wr => ExpU1 (fval .quo .f64 x 4643211215818981376 w) w p i wr) (fun _ i _ => (intOf i).toNat)
    case atStart => exact ⟨0, 4607182418800017408, _, by decide, rfl, rfl, canon64_one, unit_one, rfl⟩
    case round =>
      obtain ⟨j, r, n, hj, rfl, rfl, hr, hb, rfl⟩ := hrel
      have HR := Lib.hid hr
      have HB := Lib.hid hb
      clear hr hb
      by_cases hlt : j < 12
      · have hk : (1 : Int) ≤ 12 - (j : Int) := by omega
        go_wp2
        go_roundw
        case rel => exact ⟨j + 1, _, _, by omega, by go_num, rfl, ce1_step rfl HR.out _ _ _, ce1_unit HT.out HB.out hlt _ _ _, rfl⟩
        case measure => simp [intOf]; omega
      · obtain rfl : j = 12 := by omega
        go_wp2
        go_loopw [4, 6] (fun p i wr => ExpU2 r w p i wr) (fun _ i _ => 8 - (intOf i).toNat)
        case atStart => exact ⟨0, r, _, by decide, rfl, rfl, rfl, HB.out, rfl⟩
        case round =>
          obtain ⟨j, q, n', hj', rfl, rfl, hq, hb, rfl⟩ := hrel
          have HQ := Lib.hid hq
          have HB2 := Lib.hid hb
          clear hq hb
          by_cases hlt2 : j < 8
          · go_wp2
            go_roundw
            case rel => exact ⟨j + 1, _, _, by omega, by go_num, rfl, csqr_step HQ.out _, unit_sq _ HB2.out, rfl⟩
            case measure => simp [intOf]; omega
          · obtain rfl : j = 8 := by omega
            go_wp2
            go_ret
            exact ⟨q, _, by rw [H.out, HQ.out, HR.out, HC.out, canon64_256]; rfl, HB2.out, rfl, rfl⟩
/-- the exponential function of a 32-bit number of at most 0 -/
def cexp32 (d : Nat) : Nat := cnarrow (cexpW (cwide d))
theorem c_iExpN (a : Nat) (w : World) (h : NonPos32 a) (hl : a < 4294967296) : Calls Try.prog 241 #[.float .f32 a] w (RetF .f32 (cexp32 (canon .f32 a)) w) := by
  have HW := Lib.hid (fun w => wide_neg h hl w)
  clear h
  go_enter Try.func241, Try.ntmps241
  go_wp2_with (first | (go_at_call 235; refine (c_expWideN _ _ (HW.out _) (wide64_lt _ _)).mono ?_; rintro e w' ⟨r, n, hr, hu, rfl, rfl⟩; have HR := Lib.hid hr; have HU := Lib.hid hu; clear hr hu) | go_in)
  go_ret
  exact ⟨_, _, by rw [canon_narrow _ (unit_narrow HU.out), HR.out, canon_wide]; rfl, narrow_lt _ _, rfl, rfl⟩
theorem c_l01ExpN (a : Nat) (w : World) (h : NonPos32 a) (hl : a < 4294967296) : Calls Try.prog 170 #[.float .f32 a] w (RetF .f32 (cexp32 (canon .f32 a)) w) := by
  have HW := Lib.hid (fun w => wide_neg h hl w)
  clear h
  go_enter Try.func170, Try.ntmps170
  go_wp2_with (first | (go_at_call 174; refine (c_l01ExpWideN _ _ (HW.out _) (wide64_lt _ _)).mono ?_; rintro e w' ⟨r, n, hr, hu, rfl, rfl⟩; have HR := Lib.hid hr; have HU := Lib.hid hu; clear hr hu) | go_in)
  go_ret
  exact ⟨_, _, by rw [canon_narrow _ (unit_narrow HU.out), HR.out, canon_wide]; rfl, narrow_lt _ _, rfl, rfl⟩
end Go.Proofs.Ytpdgpoonblldgaa
