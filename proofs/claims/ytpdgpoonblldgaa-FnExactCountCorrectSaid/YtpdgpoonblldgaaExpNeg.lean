/-
  The exponential function of numbers that are not greater than 0: from 0 to 1, or none. Conditions: as each says.
-/
import Derived.Test.YtpdgpoonblldgaaExpMath
namespace Go.Proofs.Ytpdgpoonblldgaa
open Ieee

theorem word_neg (f : Format) (r : Nat) : f.signWeight ≤ f.word true r := by unfold Format.word; simp
theorem nearest_neg (f : Format) (m : Nat) (e : Int) : f.signWeight ≤ f.nearest true m e := by
  unfold Format.nearest
  split
  · exact word_neg _ _
  · exact word_neg _ _
theorem nearest_pos (f : Format) (m : Nat) (e : Int) : f.nearest false m e < f.signWeight := by
  unfold Format.nearest
  split
  · exact word_pos _ (Nat.zero_le _)
  · exact word_pos _ (Nat.min_le_right ..)
theorem nearest_zero (f : Format) (e : Int) : f.nearest false 0 e = 0 := by unfold Format.nearest; simp [Format.word]
/-- none, or of at most 0 (with the sign, or +0) -/
def NonPos (r : Nat) : Prop := isNan .f64 r = true ∨ 9223372036854775808 ≤ r ∨ r = 0
/-- none, or from 0 to 1 -/
def Unit1 (r : Nat) : Prop := isNan .f64 r = true ∨ r ≤ 4607182418800017408
theorem pow2_zero : pow2 Ieee.double 0 = 4607182418800017408 := by decide +kernel
theorem Unit1.b {r : Nat} (h : Unit1 r) : B64 r 0 := by
  rcases h with h | h
  · exact .inl h
  · exact .inr (by rw [pow2_zero]; omega)
theorem unit_one : Unit1 4607182418800017408 := .inr (Nat.le_refl _)
theorem unit_of {r : Nat} (hb : B64 r 0) (hp : Pos r) : Unit1 r := by
  rcases hb with h | h
  · exact .inl h
  · rcases hp with h2 | h2
    · exact .inl h2
    · rw [Nat.mod_eq_of_lt h2, pow2_zero] at h; exact .inr h
/-- what a bounded number reads as -/
theorem read_sign {x : Nat} {K : Int} (hx : x < 18446744073709551616) (h : x % 9223372036854775808 ≤ pow2 Ieee.double K) (h1 : -1022 ≤ K) (h2 : K ≤ 1023) : ∃ m e, Ieee.double.read x = .number (decide (9223372036854775808 ≤ x)) m e ∧ AtMost m e K := by
  have h3 := double_pow_lt h2
  obtain ⟨m, e, hr, hm⟩ := read_le Ieee.double (x := x) (K := K) (by rw [double_sw]; exact h) (by rw [double_least, double_frac]; omega) (by rw [double_sw, double_inf]; omega)
  refine ⟨m, e, ?_, hm⟩
  rw [hr, double_sw]
  congr 1
  by_cases hs : 9223372036854775808 ≤ x
  · have e1 : x / 9223372036854775808 = 1 := by omega
    rw [e1, decide_eq_true hs]; rfl
  · have e1 : x / 9223372036854775808 = 0 := by omega
    rw [e1, decide_eq_false hs]; rfl
theorem read_zero64 : Ieee.double.read 0 = .number false 0 (-1074) := by decide +kernel
/-- of at most 0, and of at most 2 ^ K -/
structure NegB (x : Nat) (K : Int) : Prop where
  b : B64 x K
  n : NonPos x
  l : x < 18446744073709551616
theorem NegB.read {x : Nat} {K : Int} (h : NegB x K) (h1 : -1022 ≤ K) (h2 : K ≤ 1023) : isNan .f64 x = true ∨ (∃ m e, Ieee.double.read x = .number true m e ∧ AtMost m e K) ∨ x = 0 := by
  rcases h.n with hn | hn | hn
  · exact .inl hn
  · rcases h.b with hb | hb
    · exact .inl hb
    · obtain ⟨m, e, hr, hm⟩ := read_sign h.l hb h1 h2
      rw [decide_eq_true hn] at hr
      exact .inr (.inl ⟨m, e, hr, hm⟩)
  · exact .inr (.inr hn)
theorem fval64_lt (op : BinOp) (x y : Nat) (w : World) : fval op .f64 x y w < 18446744073709551616 := fval_lt op .f64 x y w
theorem neg_mul {t p : Nat} (w : World) (ht : NegB t 0) (hp : Unit1 p) : NegB (fval .mul .f64 t p w) 0 := by
  refine ⟨(b_mul w ht.b hp.b (by decide) (by decide) (by decide) (by decide) (by decide)).mono (by decide), ?_, fval64_lt _ _ _ _⟩
  rcases hp with hp | hp
  · exact .inl (fval_none w (floatBits_nan_r _ _ hp))
  obtain ⟨n, j, hr', _⟩ := read_sign (x := p) (K := 0) (by omega) (by rw [pow2_zero]; omega) (by decide) (by decide)
  rw [decide_eq_false (by omega)] at hr'
  rcases ht.read (by decide) (by decide) with h | ⟨m, i, hr, _⟩ | rfl
  · exact .inl (fval_none w (floatBits_nan_l _ _ h))
  · have : floatBits .mul .f64 t p = some (Ieee.double.nearest true (m * n) (i + j)) := by
      show ((Ieee.double.read t).product (Ieee.double.read p)).map Ieee.double.write = _
      rw [hr, hr']; rfl
    rw [fval_some w this]
    have := nearest_neg Ieee.double (m * n) (i + j)
    rw [double_sw] at this
    exact .inr (.inl this)
  · have : floatBits .mul .f64 0 p = some (Ieee.double.nearest false (0 * n) (-1074 + j)) := by
      show ((Ieee.double.read 0).product (Ieee.double.read p)).map Ieee.double.write = _
      rw [read_zero64, hr']; rfl
    rw [fval_some w this, Nat.zero_mul, nearest_zero]
    exact .inr (.inr rfl)
theorem neg_quo {x y : Nat} {a : Int} (b : Int) (w : World) (hx : NegB x a) (hy : pow2 Ieee.double b ≤ y ∧ y < 9218868437227405312) (a1 : -1022 ≤ a) (a2 : a ≤ 1023) (b1 : -1022 ≤ b) (hab : -1022 ≤ a - b) : NegB (fval .quo .f64 x y w) (a - b) := by
  have hym : y % 9223372036854775808 = y := Nat.mod_eq_of_lt (by omega)
  refine ⟨b_quo w hx.b (.inr (by rw [hym]; exact hy)) a1 a2 b1 hab, ?_, fval64_lt _ _ _ _⟩
  obtain ⟨n, j, hr', hn⟩ := read_ge Ieee.double (x := y) (K := b) (by rw [double_sw, hym]; exact hy.1) (by rw [double_least, double_frac]; omega) (by rw [double_sw, double_inf, hym]; exact hy.2)
  rw [double_sw, show (y / 9223372036854775808 % 2 == 1) = false by rw [Nat.div_eq_of_lt (by omega)]; rfl] at hr'
  have hn0 : n ≠ 0 := by
    intro h0; subst h0; unfold AtLeast at hn; rw [Nat.zero_mul] at hn
    have := Nat.two_pow_pos (b - j).toNat; omega
  rcases hx.read a1 a2 with h | ⟨m, i, hr, _⟩ | rfl
  · exact .inl (fval_none w (floatBits_nan_l _ _ h))
  · have hq : floatBits .quo .f64 x y = ((Datum.number true m i).quotient 54 (Datum.number false n j)).map Ieee.double.write := by
      show ((Ieee.double.read x).quotient 54 (Ieee.double.read y)).map Ieee.double.write = _
      rw [hr, hr']
    simp only [Datum.quotient, if_neg hn0] at hq
    rw [fval_some w hq]
    have := nearest_neg Ieee.double (2 * (m <<< (54 + n.log2 - m.log2) / n) + (m <<< (54 + n.log2 - m.log2) % n != 0).toNat) (i - j - ((54 + n.log2 - m.log2 : Nat) : Int) - 1)
    rw [double_sw] at this
    exact .inr (.inl this)
  · have hq : floatBits .quo .f64 0 y = ((Datum.number false 0 (-1074)).quotient 54 (Datum.number false n j)).map Ieee.double.write := by
      show ((Ieee.double.read 0).quotient 54 (Ieee.double.read y)).map Ieee.double.write = _
      rw [read_zero64, hr']
    simp only [Datum.quotient, if_neg hn0] at hq
    rw [fval_some w hq]
    right; right
    show Ieee.double.nearest _ _ _ = 0
    rw [show (2 * (0 <<< (54 + n.log2 - Nat.log2 0) / n) + (0 <<< (54 + n.log2 - Nat.log2 0) % n != 0).toNat) = 0 by simp]
    exact nearest_zero _ _
theorem one_zero_sum : floatBits .add .f64 4607182418800017408 0 = some 4607182418800017408 := by decide +kernel
theorem one_plus {q : Nat} (w : World) (hq : NegB q 0) : Unit1 (fval .add .f64 4607182418800017408 q w) := by
  rcases hq.read (by decide) (by decide) with h | ⟨m, e, hr, hm⟩ | rfl
  · exact .inl (fval_none w (floatBits_nan_r _ _ h))
  · have hs : floatBits .add .f64 4607182418800017408 q = some (Ieee.double.write (.number (if signed false 4503599627370496 (-52 - min (-52) e).toNat + signed true m (e - min (-52) e).toNat = 0 then false && true else decide (signed false 4503599627370496 (-52 - min (-52) e).toNat + signed true m (e - min (-52) e).toNat < 0)) (signed false 4503599627370496 (-52 - min (-52) e).toNat + signed true m (e - min (-52) e).toNat).natAbs (min (-52) e))) := by
      show ((Ieee.double.read 4607182418800017408).sum (Ieee.double.read q)).map Ieee.double.write = _
      rw [hr, read_one]; rfl
    rw [fval_some w hs]
    have e1 : signed false 4503599627370496 (-52 - min (-52) e).toNat = ((2 ^ (0 - min (-52) e).toNat : Nat) : Int) := by
      unfold signed
      simp only [Bool.false_eq_true, if_false, Nat.shiftLeft_eq]
      rw [show (0 - min (-52) e).toNat = 52 + (-52 - min (-52) e).toNat by omega, Nat.pow_add]
    have e2 : signed true m (e - min (-52) e).toNat = -((m * 2 ^ (e - min (-52) e).toNat : Nat) : Int) := by
      unfold signed
      simp only [if_true, Nat.shiftLeft_eq]
    have hle : m * 2 ^ (e - min (-52) e).toNat ≤ 2 ^ (0 - min (-52) e).toNat := atMost_shift hm (by omega)
    rw [e1, e2]
    generalize m * 2 ^ (e - min (-52) e).toNat = M at *
    generalize hP : 2 ^ (0 - min (-52) e).toNat = P at *
    have e3 : (if (P : Int) + -(M : Int) = 0 then false && true else decide ((P : Int) + -(M : Int) < 0)) = false := by
      split
      · rfl
      · rw [decide_eq_false (by omega)]
    rw [e3]
    have e4 : ((P : Int) + -(M : Int)).natAbs = P - M := by omega
    rw [e4]
    have hw := B64.of_write (s := false) (m := P - M) (e := min (-52) e) (K := 0) (.inr ⟨by omega, by rw [hP]; omega⟩) (by decide)
    have hp := nearest_pos Ieee.double (P - M) (min (-52) e)
    rw [double_sw] at hp
    rw [Nat.mod_eq_of_lt hp, pow2_zero] at hw
    exact .inr hw
  · rw [fval_some w one_zero_sum]; exact unit_one
theorem unit_sq {p : Nat} (w : World) (h : Unit1 p) : Unit1 (fval .mul .f64 p p w) := unit_of ((b_mul w h.b h.b (by decide) (by decide) (by decide) (by decide) (by decide)).mono (by decide)) (sqr_pos p w)
theorem ofInt_in {j : Nat} (h : j < 12) : pow2 Ieee.double 0 ≤ floatOfInt .f64 (12 - (j : Int)) ∧ floatOfInt .f64 (12 - (j : Int)) < 9218868437227405312 := by
  have : ∀ i : Fin 12, pow2 Ieee.double 0 ≤ floatOfInt .f64 (12 - ((i : Nat) : Int)) ∧ floatOfInt .f64 (12 - ((i : Nat) : Int)) < 9218868437227405312 := by decide +kernel
  exact this ⟨j, h⟩
theorem ce1_unit {t p j : Nat} (ht : NegB t 0) (hp : Unit1 p) (hj : j < 12) (w1 w2 w3 : World) : Unit1 (fval .add .f64 4607182418800017408 (fval .quo .f64 (fval .mul .f64 t p w1) (floatOfInt .f64 (12 - (j : Int))) w2) w3) :=
  one_plus w3 (neg_quo (a := 0) 0 w2 (neg_mul w1 ht hp) (ofInt_in hj) (by decide) (by decide) (by decide) (by decide))
theorem t_neg {x : Nat} (h : NegB x 8) (w : World) : NegB (fval .quo .f64 x 4643211215818981376 w) 0 :=
  neg_quo (a := 8) 8 w h ⟨by decide +kernel, by decide⟩ (by decide) (by decide) (by decide) (by decide)
theorem unit_narrow {r : Nat} (h : Unit1 r) : tooBig r = false := b_narrow h.b (by decide) (by decide)

/-! of at most 0: not greater than 200; and what is not less than -200 -/
theorem neg_not_gt {x : Nat} (h : NonPos x) (hx : x < 18446744073709551616) : (FloatKind.f64.format.order x 4641240890982006784 == some .gt) = false := by
  by_cases hn : isNan .f64 x = true
  · rw [order_isNan_l _ hn]; rfl
  · have hn : isNan .f64 x = false := by simpa using hn
    rw [order64 hn (by decide +kernel), key64 x, show key Ieee.double 4641240890982006784 = 4641240890982006784 by decide +kernel]
    rcases h with h | h | h
    · rw [h] at hn; cases hn
    · have e1 : x / 9223372036854775808 = 1 := by omega
      rw [e1, Int.compare_eq_ite_lt, if_pos (by simp; omega)]; rfl
    · subst h; decide
theorem neg_in {x : Nat} (h : NonPos x) (hx : x < 18446744073709551616) (h2 : (FloatKind.f64.format.order x 13864612927836782592 == some .lt) = false) : NegB x 8 := by
  refine ⟨?_, h, hx⟩
  by_cases hn : isNan .f64 x = true
  · exact .inl hn
  · have hn : isNan .f64 x = false := by simpa using hn
    right
    rw [order64 hn (by decide +kernel), key64 x, show key Ieee.double 13864612927836782592 = -4641240890982006784 by decide +kernel] at h2
    rw [show pow2 Ieee.double 8 = 4643211215818981376 by decide +kernel]
    rcases h with h | h | h
    · rw [h] at hn; cases hn
    · have e1 : x / 9223372036854775808 = 1 := by omega
      rw [e1, Int.compare_eq_ite_lt] at h2
      by_cases hlt : -((x % 9223372036854775808 : Nat) : Int) < -4641240890982006784
      · rw [if_pos (by simpa using hlt)] at h2; simp at h2
      · omega
    · subst h; decide
/-! 32-bit numbers of at most 0, widened; differences from what is not less -/
def NonPos32 (r : Nat) : Prop := isNan .f32 r = true ∨ 2147483648 ≤ r ∨ r = 0
theorem wide_neg {b : Nat} (h : NonPos32 b) (hb : b < 4294967296) (w : World) : NonPos (wide b w) := by
  by_cases hn : isNan .f32 b = true
  · left
    unfold wide; rw [if_pos hn]; exact (cut_nanConv .f64 b _).1
  · have hn : isNan .f32 b = false := by simpa using hn
    unfold wide
    rw [if_neg (by rw [hn]; decide)]
    rcases h with h | h | h
    · rw [h] at hn; cases hn
    · right; left
      have e1 : b / 2147483648 = 1 := by omega
      rw [← double_sw]
      unfold Format.read
      simp only [single_sw, e1]
      split
      · exact nearest_neg _ _ _
      · split
        · exact nearest_neg _ _ _
        · split
          · exact word_neg _ _
          · exact word_neg _ _
    · subst h; right; right; decide +kernel
theorem wide64_lt (b : Nat) (w : World) : wide b w < 18446744073709551616 := wide_lt b w
theorem sub_neg {x m : Nat} (w : World) (h : (FloatKind.f32.format.order x m == some .gt) = false) : NonPos32 (fval .sub .f32 x m w) := by
  cases hs : floatBits .sub .f32 x m with
  | none => exact .inl (fval_none w hs)
  | some r =>
    rw [fval_some w hs]
    right
    have h' : ((Ieee.single.read x).sum (Ieee.single.read m).opposite).map Ieee.single.write = some r := hs
    have ho : ((Ieee.single.read x).order (Ieee.single.read m) == some .gt) = false := h
    cases hx : Ieee.single.read x with
    | nan s t => rw [hx] at h'; cases h'
    | infinity s =>
      cases hm : Ieee.single.read m with
      | nan s t => rw [hx, hm] at h'; cases h'
      | infinity t =>
        rw [hx, hm] at h' ho
        cases s
        · cases t
          · cases h'
          · exact absurd ho (by decide)
        · cases t
          · have h2 : Ieee.single.write (.infinity true) = r := by injection h'
            rw [← h2]
            left
            have := word_neg Ieee.single Ieee.single.infRung
            rw [single_sw] at this
            exact this
          · cases h'
      | number t n j =>
        rw [hx, hm] at h' ho
        cases s
        · simp [Datum.order] at ho
        · simp only [Datum.sum, Datum.opposite, Option.map_some, Option.some.injEq] at h'
          rw [← h']
          left
          have := word_neg Ieee.single Ieee.single.infRung
          rw [single_sw] at this
          exact this
    | number s k i =>
      cases hm : Ieee.single.read m with
      | nan s t => rw [hx, hm] at h'; cases h'
      | infinity t =>
        rw [hx, hm] at h' ho
        cases t
        · simp only [Datum.sum, Datum.opposite, Option.map_some, Option.some.injEq] at h'
          rw [← h']
          left
          have := word_neg Ieee.single Ieee.single.infRung
          rw [single_sw] at this
          exact this
        · simp [Datum.order] at ho
      | number t n j =>
        rw [hx, hm] at h' ho
        simp only [Datum.sum, Datum.opposite, Option.map_some, Option.some.injEq] at h'
        simp only [Datum.order] at ho
        have e1 : ∀ u : Nat, signed (!t) n u = - signed t n u := by intro u; unfold signed; cases t <;> simp
        rw [e1] at h'
        have hle : signed s k (i - min i j).toNat ≤ signed t n (j - min i j).toNat := by
          rw [Int.compare_eq_ite_lt] at ho
          by_cases h1 : signed s k (i - min i j).toNat < signed t n (j - min i j).toNat
          · omega
          · rw [if_neg h1] at ho
            split at ho
            · simp at ho
            · omega
        generalize signed s k (i - min i j).toNat = S at *
        generalize signed t n (j - min i j).toNat = T at *
        rw [← h']
        show 2147483648 ≤ Ieee.single.nearest _ _ _ ∨ Ieee.single.nearest _ _ _ = 0
        by_cases h0 : S + -T = 0
        · rw [if_pos h0, h0]
          cases (s && !t)
          · right; exact nearest_zero _ _
          · left; have := nearest_neg Ieee.single (0 : Int).natAbs (min i j); rw [single_sw] at this; exact this
        · rw [if_neg h0, decide_eq_true (by omega)]
          left; have := nearest_neg Ieee.single (S + -T).natAbs (min i j); rw [single_sw] at this; exact this
end Go.Proofs.Ytpdgpoonblldgaa
