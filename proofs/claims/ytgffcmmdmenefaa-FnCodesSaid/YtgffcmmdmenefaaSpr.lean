/-
  The spread of numbers, and lists of finite ones: the same for the program and for its model. Conditions: the numbers can be read.
-/
import Derived.Test.YtgffcmmdmenefaaAll
import Derived.Test.YtgffcmmdmenefaaMm
import Derived.Test.YtgffcmmdmenefaaOp5
namespace Go.Proofs.Ytgffcmmdmenefaa
open Go.RowKit Go.Deep Go.WideShapes Go.ChangeShapes
set_option linter.unusedVariables false

def okFin (zs : List Nat) : Bool := decide (zs.length ≤ 256) && zs.all fin32
theorem okFin_few {zs : List Nat} (h : okFin zs = true) : zs.length ≤ 256 := by simp only [okFin, Bool.and_eq_true, decide_eq_true_eq] at h; exact h.1
theorem okFin_at {zs : List Nat} (h : okFin zs = true) {k : Nat} (hk : k < zs.length) : fin32 (zs.getD k 0) = true := by
  simp only [okFin, Bool.and_eq_true, List.all_eq_true] at h
  exact h.2 _ (by simp [List.getD, hk])
theorem fin_num {x : Nat} (h : fin32 x = true) : isNan .f32 x = false := by simp only [fin32, decide_eq_true_eq] at h; rw [isNan32]; simp; omega
def FinRel (zs : List Nat) (w : World) (i : Value) (wr : World) : Prop := ∃ k m : Nat, k ≤ zs.length ∧ i = .int .i64 k ∧ (∀ j, j < k → fin32 (zs.getD j 0) = true) ∧ wr = w.drewN m
theorem okFin_yes {zs : List Nat} (h : zs.length ≤ 256) (ha : ∀ j, j < zs.length → fin32 (zs.getD j 0) = true) : okFin zs = true := by
  simp only [okFin, Bool.and_eq_true, decide_eq_true_eq, List.all_eq_true]
  refine ⟨h, fun x hx => ?_⟩
  obtain ⟨i, hi, rfl⟩ := List.mem_iff_getElem.1 hx
  have := ha i hi
  simpa [List.getD, hi] using this
theorem okFin_no {zs : List Nat} {k : Nat} (hk : k < zs.length) (h : fin32 (zs.getD k 0) = false) : okFin zs = false := by
  cases he : okFin zs with
  | false => rfl
  | true => rw [okFin_at he hk] at h; cases h
theorem c_l06List (a : Option Addr) (n cap : Nat) (zs : List Nat) (w : World) (h : IsFloats .f32 w a n cap zs) : Calls Try.prog 53 #[.slice a n cap] w fun e w' => e = .returned (.bool (okFin zs)) ∧ Drawn w w' := by
  have HF := Lib.hid h
  have hmax : n ≤ 9223372036854775807 := by have h1 := h.1; have h2 := h.2.1; unfold maxLen at h2; omega
  have hlen := h.2.2.1
  subst hlen
  clear h
  by_cases h2 : zs.length ≤ 256
  · have H2 := Lib.hid (show decide (zs.length ≤ 256) = true by simp [h2])
    go_enter Try.func53, Try.ntmps53
    go_wp2
    go_loopw [3] (fun i wr => FinRel zs w i wr) (fun i _ => zs.length - (intOf i).toNat)
    case atStart => exact ⟨0, 0, Nat.zero_le _, rfl, (fun j hj => by omega), rfl⟩
    case round =>
      obtain ⟨k, m, hk, rfl, hz, rfl⟩ := hrel
      have HZ := Lib.hid hz
      have hk0 : (0 : Int) ≤ (k : Int) := by omega
      clear hz
      by_cases hlt : k < zs.length
      · have hlt' : (k : Int) < (zs.length : Int) := by omega
        rcases HF.out.2.2.2.2 with h0 | ⟨b, off, rfl, _, hc⟩
        · omega
        have c1 := hc k hlt
        clear hc
        cases hf : fin32 (zs.getD k 0) with
        | true =>
          have HG := Lib.hid hf
          obtain ⟨x, hx⟩ : ∃ x, zs.getD k 0 = x := ⟨_, rfl⟩
          rw [hx] at c1
          have HX := Lib.hid (show fin32 x = true by rw [← hx]; exact hf)
          clear hx hf
          go_wp2_with (first | (go_at_call 73; refine (c_l01Few _ _ _ _).mono ?_; rintro e w' ⟨rfl, rfl⟩; rw [H2.out]) | (go_at_call 85; refine (c_l01Finite _ _).mono ?_; rintro e w' ⟨rfl, d, rfl⟩; rw [HX.out]))
          go_roundw
          case rel => exact ⟨k + 1, _, hlt, by go_num, (fun j hj => if e : j = k then by rw [e]; exact HG.out else HZ.out j (by omega)), rfl⟩
          case measure => simp [intOf]; omega
        | false =>
          have HN := Lib.hid (okFin_no hlt hf)
          obtain ⟨x, hx⟩ : ∃ x, zs.getD k 0 = x := ⟨_, rfl⟩
          rw [hx] at c1
          have HX := Lib.hid (show fin32 x = false by rw [← hx]; exact hf)
          clear hx hf
          go_wp2_with (first | (go_at_call 73; refine (c_l01Few _ _ _ _).mono ?_; rintro e w' ⟨rfl, rfl⟩; rw [H2.out]) | (go_at_call 85; refine (c_l01Finite _ _).mono ?_; rintro e w' ⟨rfl, d, rfl⟩; rw [HX.out]))
          go_ret
          exact ⟨ret_b (by rw [HN.out]), Drawn.mk _ _⟩
      · obtain rfl : k = zs.length := by omega
        have HY := Lib.hid (okFin_yes h2 HZ.out)
        go_wp2_with (go_at_call 73; refine (c_l01Few _ _ _ _).mono ?_; rintro e w' ⟨rfl, rfl⟩; rw [H2.out])
        go_ret
        exact ⟨ret_b (by rw [HY.out]), Drawn.mk _ _⟩
  · have H2 := Lib.hid (show decide (zs.length ≤ 256) = false by simp [h2])
    have HN := Lib.hid (show okFin zs = false by unfold okFin; rw [H2.out]; rfl)
    have h0 : (0 : Int) < (zs.length : Int) := by omega
    clear h2
    go_enter Try.func53, Try.ntmps53
    go_wp2
    refine wp_loop_rounds 1 ?_
    rw [rounds_succ]
    go_wp2_with (go_at_call 73; refine (c_l01Few _ _ _ _).mono ?_; rintro e w' ⟨rfl, rfl⟩; rw [H2.out])
    go_ret
    exact ⟨ret_b (by rw [HN.out]), Drawn.refl _⟩
theorem c_haveCodes (a : Option Addr) (n cap : Nat) (zs : List Nat) (w : World) (h : IsFloats .f32 w a n cap zs) : Calls Try.prog 55 #[.slice a n cap] w fun e w' => e = .returned (.bool (okFin zs)) ∧ Below w.heap.size w w' := by
  have HC := Lib.hid (c_isAllF 48 fin32 a n cap zs w h (enters_of Try.func48 (by kernel_rfl) (by kernel_rfl)) (fun x wr hx _ => c_iIsFinite x hx wr))
  have hmax : n ≤ 9223372036854775807 := by have h1 := h.1; have h2 := h.2.1; unfold maxLen at h2; omega
  have hlen := h.2.2.1
  subst hlen
  clear h
  by_cases h2 : zs.length ≤ 256
  · have H2 := Lib.hid (show decide (zs.length ≤ 256) = true by simp [h2])
    have h2' : (zs.length : Int) ≤ 256 := by omega
    go_enter Try.func55, Try.ntmps55
    go_wp2_with fail
    refine HC.out.mono ?_
    rintro e w2 ⟨rfl, hb⟩
    have HB := Lib.hid hb
    clear hb
    go_wp2_with fail
    go_ret
    exact ⟨ret_b (by unfold okFin; rw [H2.out]; rfl), HB.out⟩
  · have H2 := Lib.hid (show okFin zs = false by simp [okFin, h2])
    have h2' : (256 : Int) < (zs.length : Int) := by omega
    clear h2
    go_enter Try.func55, Try.ntmps55
    go_wp2_with fail
    go_ret
    exact ⟨ret_b (by rw [H2.out]), Below.refl _ _⟩
def most (z : List Nat) : Nat → Nat
  | 0 => 0
  | k + 1 => max (most z k) (z.getD k 0 % 2147483648)
theorem most_lt {z : List Nat} : ∀ {k : Nat}, (∀ j, j < k → fin32 (z.getD j 0) = true) → most z k < 2139095040
  | 0, _ => by show 0 < 2139095040; decide
  | k + 1, h => by
    have h1 := most_lt (k := k) (fun j hj => h j (by omega))
    have h2 := h k (by omega)
    simp only [fin32, decide_eq_true_eq] at h2
    show max _ _ < _
    omega
theorem zero_num : isNan .f32 0 = false := num32_of (by decide)
theorem c_l06Abs (x : Nat) (hx : x < 4294967296) (hf : fin32 x = true) (w : World) : Calls Try.prog 54 #[.float .f32 x] w fun e w' => e = .returned (.float .f32 (x % 2147483648)) ∧ w = w' := by
  have hn := fin_num hf
  by_cases h1 : 2147483648 < x
  · have ho : FloatKind.f32.format.order x 0 = some .lt := ord_lt hx (by decide) hn zero_num (by rw [k32_neg (by omega), k32_nn (by decide)]; omega)
    have hg : Op.negFloat .f32 x = x % 2147483648 := by
      show x ^^^ 2147483648 = _
      obtain ⟨y, rfl⟩ : ∃ y, x = y + 2147483648 := ⟨x - 2147483648, by omega⟩
      have hy : y < 2 ^ 31 := by omega
      have e : y ^^^ 2 ^ 31 = y + 2 ^ 31 := by
        have := Nat.two_pow_add_eq_or_of_lt hy 1
        rw [Nat.mul_one] at this
        apply Nat.eq_of_testBit_eq
        intro i
        rw [Nat.testBit_xor, Nat.testBit_two_pow, Nat.add_comm]
        by_cases e : 31 = i
        · subst e; rw [Nat.testBit_two_pow_add_eq]; simp
        · by_cases g : i < 31
          · rw [Nat.testBit_two_pow_add_gt g]; simp [e]
          · have h1 : y.testBit i = false := Nat.testBit_lt_two_pow (Nat.lt_of_lt_of_le hy (Nat.pow_le_pow_right (by decide) (by omega)))
            have h2 : (2 ^ 31 + y).testBit i = false := Nat.testBit_lt_two_pow (Nat.lt_of_lt_of_le (show 2 ^ 31 + y < 2 ^ 32 by omega) (Nat.pow_le_pow_right (by decide) (by omega)))
            rw [h1, h2]; simp [e]
      rw [show (2147483648 : Nat) = 2 ^ 31 from rfl, ← e, Nat.xor_assoc, Nat.xor_self, Nat.xor_zero, e, Nat.add_mod_right, Nat.mod_eq_of_lt hy]
    have HG := Lib.hid hg
    clear hf hn hg
    go_enter Try.func54, Try.ntmps54
    go_wp2
    go_ret
    exact ⟨ret_f HG.out, rfl⟩
  · by_cases h2 : x = 0 ∨ x = 2147483648
    · have ho : FloatKind.f32.format.order x 0 = some .eq := ord_eq hx (by decide) hn zero_num (by rcases h2 with rfl | rfl <;> rfl)
      have HX := Lib.hid (show x % 2147483648 = 0 by rcases h2 with rfl | rfl <;> rfl)
      rw [HX.out]
      clear hf hn h1 h2
      go_enter Try.func54, Try.ntmps54
      go_wp2
      go_ret
      exact ⟨rfl, rfl⟩
    · have ho : FloatKind.f32.format.order x 0 = some .gt := ord_gt hx (by decide) hn zero_num (by rw [k32_nn (by decide), k32_nn (by omega)]; omega)
      have HX := Lib.hid (show x % 2147483648 = x by omega)
      rw [HX.out]
      clear hf hn h1 h2
      go_enter Try.func54, Try.ntmps54
      go_wp2
      go_ret
      exact ⟨rfl, rfl⟩
theorem c_abs6 (x : Nat) (hx : x < 4294967296) (w : World) : Calls Try.prog 56 #[.float .f32 x] w fun e w' => e = .returned (.float .f32 (x % 2147483648)) ∧ w = w' := by
  have hb := b_clear x hx
  go_enter Try.func56, Try.ntmps56
  go_wp2
  go_ret
  exact ⟨ret_f (by simp), rfl⟩
theorem ord_words {x y : Nat} (hx : x < 2139095040) (hy : y < 2139095040) : FloatKind.f32.format.order x y = some (compare (x : Int) (y : Int)) := by
  rw [ord32 (by omega) (by omega) (num32_of (by omega)) (num32_of (by omega)), k32_nn (by omega), k32_nn (by omega)]
theorem gt_words {x y : Nat} (hx : x < 2139095040) (hy : y < 2139095040) : (FloatKind.f32.format.order x y == some .gt) = decide (y < x) := by
  rw [ord_words hx hy, Int.compare_eq_ite_lt]
  by_cases h1 : (x : Int) < (y : Int)
  · rw [if_pos h1, decide_eq_false (by omega)]; rfl
  · rw [if_neg h1]
    by_cases h2 : (y : Int) < (x : Int)
    · rw [if_pos h2, decide_eq_true (by omega)]; rfl
    · rw [if_neg h2, decide_eq_false (by omega)]; rfl
theorem max_words {x y : Nat} (w : World) (hx : x < 2139095040) (hy : y < 2139095040) : mmv true .f32 x y w = max x y ∧ mmDr .f32 x y = 0 := by
  have ho := ord_words hx hy
  refine ⟨?_, mmDr_some ho⟩
  rw [Int.compare_eq_ite_lt] at ho
  by_cases h1 : (x : Int) < (y : Int)
  · rw [if_pos h1] at ho
    rw [mm_lt w ho, if_pos rfl]; omega
  · rw [if_neg h1] at ho
    by_cases h2 : (y : Int) < (x : Int)
    · rw [if_pos h2] at ho
      rw [mm_gt w ho, if_pos rfl]; omega
    · obtain rfl : x = y := by omega
      rw [mm_same w (num32_of (by omega))]; omega
def vSpreadOf (z : List Nat) : Nat × Bool := if okFin z then (cop .quo .f32 (most z z.length) 1123942400, true) else (0, false)
theorem vSpreadOf_yes {z : List Nat} (h : okFin z = true) : vSpreadOf z = (cop .quo .f32 (most z z.length) 1123942400, true) := by unfold vSpreadOf; rw [if_pos h]
theorem vSpreadOf_no {z : List Nat} (h : okFin z = false) : vSpreadOf z = (0, false) := by unfold vSpreadOf; rw [if_neg (by rw [h]; decide)]
theorem canon_127 : canon .f32 1123942400 = 1123942400 := by decide +kernel
theorem quo_most {m : Nat} (hm : m < 2139095040) (w : World) : canon .f32 (fval .quo .f32 m 1123942400 w) = cop .quo .f32 m 1123942400 := by rw [canon_fval, canon_127, canon_num (num32_of (by omega))]
def MostRel (zs : List Nat) (w : World) (s i : Value) (wr : World) : Prop := ∃ k : Nat, k ≤ zs.length ∧ i = .int .i64 k ∧ s = .float .f32 (most zs k) ∧ wr = w
set_option maxHeartbeats 400000 in
theorem t_sSpreadOf (z : List Nat) (a0 : Option Addr) (w : World) (h : IsFloats .f32 w a0 z.length z.length z) : Calls Try.prog 21 #[.slice a0 z.length z.length] w (RetFb (vSpreadOf z).1 (vSpreadOf z).2 w) := by
  have HF := Lib.hid h
  have hmax : z.length ≤ 9223372036854775807 := by have := h.2.1; unfold maxLen at this; exact this
  cases hk : okFin z with
  | false =>
    have HX := Lib.hid (vSpreadOf_no hk)
    have HK := Lib.hid hk
    rw [HX.out]
    clear h hk
    go_enter Try.func21, Try.ntmps21
    go_wp2_with (go_at_call 53; refine (c_l06List _ _ _ _ _ HF.out).mono ?_; rintro e w' ⟨rfl, m, rfl⟩; rw [HK.out])
    go_ret2
    exact ⟨0, by decide +kernel, rfl, below_drewN (Below.refl _ _) _⟩
  | true =>
    have HX := Lib.hid (vSpreadOf_yes hk)
    have HK := Lib.hid hk
    have HM := Lib.hid (fun k (hk' : k ≤ z.length) => most_lt (z := z) (k := k) (fun j hj => okFin_at hk (by omega)))
    rw [HX.out]
    clear h hk
    go_enter Try.func21, Try.ntmps21
    go_wp2_with (go_at_call 53; refine (c_l06List _ _ _ _ _ HF.out).mono ?_; rintro e w' ⟨rfl, m, rfl⟩; rw [HK.out])
    have HW := Lib.hid (Drawn.mk w m)
    have HF1 := Lib.hid (HF.out.drewN m)
    generalize w.drewN m = w1 at *
    go_loopw [4, 5] (fun s i wr => MostRel z w1 s i wr) (fun _ i _ => z.length - (intOf i).toNat)
    case atStart => exact ⟨0, Nat.zero_le _, rfl, rfl, rfl⟩
    case round =>
      obtain ⟨k, hk, rfl, rfl, rfl⟩ := hrel
      have hk0 : (0 : Int) ≤ (k : Int) := by omega
      by_cases hlt : k < z.length
      · have hlt' : (k : Int) < (z.length : Int) := by omega
        rcases HF1.out.2.2.2.2 with h0 | ⟨b, off, rfl, _, hc⟩
        · omega
        have c1 := hc k hlt
        have hxl : z.getD k 0 < 4294967296 := HF.out.2.2.2.1 _ (by simp [List.getD, hlt])
        have hxf := okFin_at HK.out hlt
        have hm1 := HM.out k (by omega)
        have hg := gt_words (x := z.getD k 0 % 2147483648) (y := most z k) (by simp only [fin32, decide_eq_true_eq] at hxf; exact hxf) hm1
        have HS := Lib.hid (show most z (k + 1) = max (most z k) (z.getD k 0 % 2147483648) from rfl)
        obtain ⟨x, hx⟩ : ∃ x, z.getD k 0 = x := ⟨_, rfl⟩
        rw [hx] at c1 hxl hxf hg HS
        have HXL := Lib.hid hxl
        have HXF := Lib.hid hxf
        obtain ⟨y, hy⟩ : ∃ y, x % 2147483648 = y := ⟨_, rfl⟩
        obtain ⟨q, hq⟩ : ∃ y, most z k = y := ⟨_, rfl⟩
        have HY := Lib.hid hy
        have HQ := Lib.hid hq
        rw [hy, hq] at hg HS
        rw [hq]
        clear hc hx hxl hxf hm1 hy hq
        by_cases hd : q < y
        · rw [decide_eq_true hd] at hg
          have HR := Lib.hid (show max q y = y by omega)
          clear hd
          go_wp2_with (go_at_call 54; refine (c_l06Abs x HXL.out HXF.out _).mono ?_; rintro e w' ⟨rfl, rfl⟩; rw [HY.out])
          go_roundw
          case rel => exact ⟨k + 1, hlt, by go_num, by rw [HS.out, HR.out], rfl⟩
          case measure => simp [intOf]; omega
        · rw [decide_eq_false hd] at hg
          have HR := Lib.hid (show max q y = q by omega)
          clear hd
          go_wp2_with (go_at_call 54; refine (c_l06Abs x HXL.out HXF.out _).mono ?_; rintro e w' ⟨rfl, rfl⟩; rw [HY.out])
          go_roundw
          case rel => exact ⟨k + 1, hlt, by go_num, by rw [HS.out, HR.out], rfl⟩
          case measure => simp [intOf]; omega
      · obtain rfl : k = z.length := by omega
        have HQ := Lib.hid (quo_most (HM.out z.length (Nat.le_refl _)))
        go_wp2_with fail
        go_ret2
        exact ⟨_, HQ.out _, rfl, below_drewN HW.out.below _⟩
set_option maxHeartbeats 400000 in
theorem t_iSpreadOf (z : List Nat) (a0 : Option Addr) (w : World) (h : IsFloats .f32 w a0 z.length z.length z) : Calls Try.prog 23 #[.slice a0 z.length z.length] w (RetFb (vSpreadOf z).1 (vSpreadOf z).2 w) := by
  have HF := Lib.hid h
  have hmax : z.length ≤ 9223372036854775807 := by have := h.2.1; unfold maxLen at this; exact this
  cases hk : okFin z with
  | false =>
    have HX := Lib.hid (vSpreadOf_no hk)
    have HK := Lib.hid hk
    rw [HX.out]
    clear h hk
    go_enter Try.func23, Try.ntmps23
    go_wp2_with fail
    refine (c_haveCodes _ _ _ _ _ HF.out).mono ?_
    rintro e w' ⟨rfl, hb⟩
    rw [HK.out]
    have HB := Lib.hid hb
    clear hb
    go_wp2_with fail
    go_ret2
    exact ⟨0, by decide +kernel, rfl, HB.out⟩
  | true =>
    have HX := Lib.hid (vSpreadOf_yes hk)
    have HK := Lib.hid hk
    have HM := Lib.hid (fun k (hk' : k ≤ z.length) => most_lt (z := z) (k := k) (fun j hj => okFin_at hk (by omega)))
    rw [HX.out]
    clear h hk
    go_enter Try.func23, Try.ntmps23
    go_wp2_with fail
    refine (c_haveCodes _ _ _ _ _ HF.out).mono ?_
    rintro e w1 ⟨rfl, hb⟩
    rw [HK.out]
    have HB := Lib.hid hb
    have HF1 := Lib.hid (HF.out.kept hb)
    clear hb
    go_wp2_with fail
    go_loopw [4, 12] (fun s i wr => MostRel z w1 s i wr) (fun _ i _ => z.length - (intOf i).toNat)
    case atStart => exact ⟨0, Nat.zero_le _, rfl, rfl, rfl⟩
    case round =>
      obtain ⟨k, hk, rfl, rfl, rfl⟩ := hrel
      have hk0 : (0 : Int) ≤ (k : Int) := by omega
      by_cases hlt : k < z.length
      · have hlt' : (k : Int) < (z.length : Int) := by omega
        rcases HF1.out.2.2.2.2 with h0 | ⟨b, off, rfl, _, hc⟩
        · omega
        have c1 := hc k hlt
        have hxl : z.getD k 0 < 4294967296 := HF.out.2.2.2.1 _ (by simp [List.getD, hlt])
        have hxf := okFin_at HK.out hlt
        have hm1 := HM.out k (by omega)
        have hg := fun w => (max_words (x := most z k) (y := z.getD k 0 % 2147483648) w hm1 (by simp only [fin32, decide_eq_true_eq] at hxf; exact hxf)).1
        have hg2 := (max_words (x := most z k) (y := z.getD k 0 % 2147483648) wr hm1 (by simp only [fin32, decide_eq_true_eq] at hxf; exact hxf)).2
        have HS := Lib.hid (show most z (k + 1) = max (most z k) (z.getD k 0 % 2147483648) from rfl)
        obtain ⟨x, hx⟩ : ∃ x, z.getD k 0 = x := ⟨_, rfl⟩
        rw [hx] at c1 hxl hg2 HS
        simp only [hx] at hg
        have HXL := Lib.hid hxl
        obtain ⟨y, hy⟩ : ∃ y, x % 2147483648 = y := ⟨_, rfl⟩
        obtain ⟨q, hq⟩ : ∃ y, most z k = y := ⟨_, rfl⟩
        have HY := Lib.hid hy
        rw [hy, hq] at hg2 HS
        simp only [hy, hq] at hg
        rw [hq]
        clear hc hx hxl hxf hm1 hy hq
        go_wp2_with (go_at_call 56; refine (c_abs6 x HXL.out _).mono ?_; rintro e w' ⟨rfl, rfl⟩; rw [HY.out])
        go_roundw
        case rel => exact ⟨k + 1, hlt, by go_num, by rw [HS.out], by simp [World.drewN_zero]⟩
        case measure => simp [intOf]; omega
      · obtain rfl : k = z.length := by omega
        have HQ := Lib.hid (quo_most (HM.out z.length (Nat.le_refl _)))
        go_wp2_with fail
        go_ret2
        exact ⟨_, HQ.out _, rfl, below_drewN HB.out _⟩
end Go.Proofs.Ytgffcmmdmenefaa
