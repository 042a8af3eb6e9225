/-
  Sums of lists, on the values: products with 1 are the numbers, halves are added as they are, and for small whole numbers all orders give one number. Conditions: as each says.
-/
import Derived.Test.YthcacaafaifnfaaIntG
import Derived.Test.YthcacaafaifnfaaEx32
import Derived.Test.YthcacaafaifnfaaPairs
import Derived.Test.YthcacaafaifnfaaCarried
import Derived.Test.YthcacaafaifnfaaDotIn
namespace Go.Proofs.Ythcacaafaifnfaa
open Ieee Go.RowKit
set_option linter.unusedVariables false

theorem canon_back {y z : Nat} (h : canon .f32 y = z) (hz : isNan .f32 z = false) : y = z := by
  have hn : isNan .f32 y = false := by rw [← isNan_canon, h]; exact hz
  rw [← h, canon_num hn]
theorem word_self {x : Nat} (hx : x < 4294967296) : Ieee.single.word (x / 2147483648 % 2 == 1) (x % 2147483648) = x := by
  unfold Format.word
  rw [single_sw]
  by_cases h : x < 2147483648
  · rw [Nat.div_eq_of_lt h, Nat.mod_eq_of_lt h]; rfl
  · have e : x / 2147483648 = 1 := by omega
    rw [e]
    show 2147483648 + x % 2147483648 = x
    omega
theorem read_one32 : Ieee.single.read 1065353216 = .number false 8388608 (-23) := by decide +kernel
theorem mul_one32 {x : Nat} (hx : x < 4294967296) (hn : isNan .f32 x = false) : floatBits .mul .f32 x 1065353216 = some x := by
  show ((Ieee.single.read x).product (Ieee.single.read 1065353216)).map Ieee.single.write = _
  rw [read_one32]
  have hs := word_self hx
  have hr : x % 2147483648 ≤ 2139095040 := by rw [isNan32] at hn; simpa using hn
  obtain ⟨s, hsg⟩ : ∃ s, (x / 2147483648 % 2 == 1) = s := ⟨_, rfl⟩
  obtain ⟨r, hrr⟩ : ∃ r, x % 2147483648 = r := ⟨_, rfl⟩
  rw [hsg, hrr] at hs
  rw [hrr] at hr
  by_cases h1 : r < 8388608
  · have hrd : Ieee.single.read x = .number s r (-149) := by
      unfold Format.read
      simp only [single_sw, single_bin, single_inf, single_least]
      rw [hsg, hrr, if_pos h1]
    rw [hrd]
    have hpro : (Datum.number s r (-149)).product (Datum.number false 8388608 (-23)) = some (.number (s ^^ false) (r * 2 ^ 23) (-149 + -23)) := by
      rw [show (2 : Nat) ^ 23 = 8388608 by decide]; unfold Datum.product; rfl
    rw [hpro, Option.map_some, Bool.xor_false]
    unfold Format.write
    simp only
    refine congrArg some ?_
    rw [← hs]
    by_cases h0 : r = 0
    · subst h0
      unfold Format.nearest
      simp
    · have hm : r * 2 ^ 23 ≠ 0 := Nat.ne_of_gt (Nat.mul_pos (Nat.pos_of_ne_zero h0) (Nat.two_pow_pos 23))
      have hL : (r * 2 ^ 23).log2 < 46 := by
        rw [Nat.log2_lt hm]
        calc r * 2 ^ 23 < 2 ^ 23 * 2 ^ 23 := Nat.mul_lt_mul_of_pos_right (by omega) (Nat.two_pow_pos 23)
          _ = 2 ^ 46 := by rw [← Nat.pow_add]
      have hc := cut_exact32 s r 23
      unfold Format.nearest
      simp only
      rw [if_neg hm, single_least, single_frac, single_bin, single_inf]
      generalize (r * 2 ^ 23).log2 = L at *
      rw [show max (-149 + -23 + (L : Int) - ((23 : Nat) : Int)) (-149) = -149 by omega]
      rw [show (-149 + -23 - (-149) : Int).toNat = 0 by decide, show ((-149 : Int) - (-149 + -23)).toNat = 23 by decide, Nat.shiftLeft_eq, Nat.pow_zero, Nat.mul_one, hc]
      refine congrArg (Ieee.single.word s) ?_
      rw [show ((-149 : Int) - -149).toNat = 0 by decide, Nat.zero_mul, Nat.zero_add, Nat.min_eq_left (by omega)]
  · by_cases h2 : r < 2139095040
    · have hrd : Ieee.single.read x = .number s (8388608 + r % 8388608) (-149 + ((r / 8388608 - 1 : Nat) : Int)) := by
        unfold Format.read
        simp only [single_sw, single_bin, single_inf, single_least]
        rw [hsg, hrr, if_neg h1, if_pos h2]
      rw [hrd]
      have hmm : r % 8388608 < 8388608 := Nat.mod_lt _ (by decide)
      have hdm := Nat.div_add_mod r 8388608
      have hq1 : 1 ≤ r / 8388608 := by omega
      obtain ⟨q, hq⟩ : ∃ q, r / 8388608 = q := ⟨_, rfl⟩
      obtain ⟨t, ht⟩ : ∃ t, r % 8388608 = t := ⟨_, rfl⟩
      rw [hq, ht] at hdm
      rw [hq] at hq1
      rw [ht] at hmm
      rw [hq, ht]
      have hpro : (Datum.number s (8388608 + t) (-149 + ((q - 1 : Nat) : Int))).product (Datum.number false 8388608 (-23)) = some (.number (s ^^ false) ((8388608 + t) * 2 ^ 23) (-149 + ((q - 1 : Nat) : Int) + -23)) := by
        rw [show (2 : Nat) ^ 23 = 8388608 by decide]; unfold Datum.product; rfl
      rw [hpro, Option.map_some, Bool.xor_false]
      unfold Format.write
      simp only
      refine congrArg some ?_
      rw [nearest_exact32 _ (by omega) (by omega) (by omega)]
      rw [show (-149 + ((q - 1 : Nat) : Int) + -23 + ((23 : Nat) : Int) + 149).toNat = q - 1 by omega]
      rw [← hs]
      refine congrArg (Ieee.single.word s) ?_
      obtain ⟨p, rfl⟩ : ∃ p, q = p + 1 := ⟨q - 1, by omega⟩
      rw [show p + 1 - 1 = p by omega, Nat.min_eq_left (by omega)]
      omega
    · have hr3 : r = 2139095040 := by omega
      subst hr3
      have hrd : Ieee.single.read x = .infinity s := by
        unfold Format.read
        simp only [single_sw, single_bin, single_inf, single_least]
        rw [hsg, hrr]
        rfl
      rw [hrd]
      have hpro : (Datum.infinity s).product (Datum.number false 8388608 (-23)) = some (.infinity (s ^^ false)) := rfl
      rw [hpro, Option.map_some, Bool.xor_false]
      refine congrArg some ?_
      rw [← hs]
      rfl
theorem cop_one {x : Nat} (hx : x < 4294967296) : cop .mul .f32 (canon .f32 x) 1065353216 = canon .f32 x := by
  cases hn : isNan .f32 x with
  | true =>
    have : floatBits .mul .f32 (canon .f32 x) 1065353216 = none := floatBits_nan_l _ _ (by rw [isNan_canon]; exact hn)
    unfold cop
    rw [this, canon_nan hn]
    rfl
  | false =>
    rw [canon_num hn]
    unfold cop
    rw [mul_one32 hx hn]
    rfl
theorem canon_one32 : canon .f32 1065353216 = 1065353216 := by decide +kernel
/-- products with 1 -/
theorem cdot_ones {zs : List Nat} (hz : ∀ x ∈ zs, x < 4294967296) : ∀ k, k ≤ zs.length → cdot (zs.take k) ((List.replicate zs.length 1065353216).take k) = csum (zs.take k)
  | 0, _ => rfl
  | k + 1, h => by
    rw [cdot_snoc zs _ k (by omega) (by simp; omega), cdot_ones hz k (by omega), take_snoc zs k (by omega)]
    unfold csum
    rw [List.foldl_append]
    have e : (List.replicate zs.length 1065353216).getD k 0 = 1065353216 := by simp [List.getD, show k < zs.length by omega]
    rw [e, canon_one32, cop_one (hz _ (by simp [List.getD, show k < zs.length by omega]))]
    rfl
theorem cdot_ones' {zs : List Nat} (hz : ∀ x ∈ zs, x < 4294967296) : cdot zs (List.replicate zs.length 1065353216) = csum zs := by
  have h := cdot_ones hz zs.length (Nat.le_refl _)
  rw [List.take_of_length_le (Nat.le_refl _), List.take_of_length_le (by simp)] at h
  exact h
/-- as deep as one likes -/
theorem cpair_up : ∀ (n : Nat) (zs : List Nat), zs.length ≤ n → cpair (n + 1) zs = cpair n zs
  | 0, zs, h => by rw [cpair_zero (by omega), cpair_zero (by omega)]
  | n + 1, zs, h => by
    by_cases h0 : zs.length = 0
    · rw [cpair_zero h0, cpair_zero h0]
    · by_cases h1 : zs.length = 1
      · rw [cpair_one h1, cpair_one h1]
      · rw [cpair_two (n := n + 1) (zs := zs) (by omega), cpair_two (n := n) (zs := zs) (by omega), cpair_up n _ (by rw [List.length_take]; omega), cpair_up n _ (by rw [List.length_drop]; omega)]
theorem cpair_split {zs : List Nat} (h : 2 ≤ zs.length) (h2 : zs.length ≤ 256) : cpair 256 zs = cop .add .f32 (cpair 256 (zs.take ((zs.length + 1) / 2))) (cpair 256 (zs.drop ((zs.length + 1) / 2))) := by
  rw [cpair_two (n := 255) h, ← cpair_up 255 _ (by rw [List.length_take]; omega), ← cpair_up 255 _ (by rw [List.length_drop]; omega)]
/-! whole numbers -/
def isum (cs : List Int) : Int := cs.foldl (· + ·) 0
theorem isum_snoc (cs : List Int) (c : Int) : isum (cs ++ [c]) = isum cs + c := by unfold isum; rw [List.foldl_append]; rfl
theorem foldl_add (cs : List Int) : ∀ a : Int, cs.foldl (· + ·) a = a + cs.foldl (· + ·) 0 := by
  induction cs with
  | nil => intro a; simp
  | cons c cs ih => intro a; simp only [List.foldl_cons]; rw [ih (a + c), ih (0 + c)]; omega
theorem isum_append (cs ds : List Int) : isum (cs ++ ds) = isum cs + isum ds := by unfold isum; rw [List.foldl_append, foldl_add]
def small (cs : List Int) : Prop := ∀ c ∈ cs, -100 ≤ c ∧ c ≤ 100
theorem isum_small {cs : List Int} (h : small cs) : -(100 * (cs.length : Int)) ≤ isum cs ∧ isum cs ≤ 100 * (cs.length : Int) := by
  induction cs with
  | nil => simp [isum]
  | cons c cs ih =>
    have h1 := ih (fun x hx => h x (List.mem_cons_of_mem _ hx))
    have h2 := h c (List.mem_cons_self ..)
    have e : isum (c :: cs) = c + isum cs := by unfold isum; rw [List.foldl_cons, foldl_add]; omega
    rw [e, List.length_cons]
    omega
theorem small_take {cs : List Int} (h : small cs) (k : Nat) : small (cs.take k) := fun c hc => h c (List.mem_of_mem_take hc)
theorem small_drop {cs : List Int} (h : small cs) (k : Nat) : small (cs.drop k) := fun c hc => h c (List.mem_of_mem_drop hc)
theorem csum_whole {cs : List Int} (h : small cs) (hl : cs.length ≤ 256) : csum (cs.map fi32) = fi32 (isum cs) := by
  have key : ∀ k, k ≤ cs.length → csum ((cs.take k).map fi32) = fi32 (isum (cs.take k)) := by
    intro k
    induction k with
    | zero => intro _; rw [List.take_zero]; exact fi32_zero.symm
    | succ k ih =>
      intro hk
      have e : cs.take (k + 1) = cs.take k ++ [cs.getD k 0] := by
        rw [List.take_add_one]; simp [List.getD, show k < cs.length by omega]
      have hs := isum_small (small_take h k)
      have hc := h (cs.getD k 0) (by simp [List.getD, show k < cs.length by omega])
      rw [List.length_take] at hs
      rw [e, List.map_append, isum_snoc]
      unfold csum
      rw [List.foldl_append]
      show cop .add .f32 (csum ((cs.take k).map fi32)) (canon .f32 (fi32 (cs.getD k 0))) = _
      rw [ih (by omega), canon_fi32]
      exact add_fi32 (by omega) (by omega) (by omega)
  have := key cs.length (Nat.le_refl _)
  rwa [List.take_length] at this
theorem cpair_whole : ∀ (n : Nat) (cs : List Int), small cs → cs.length ≤ n → cs.length ≤ 256 → cpair n (cs.map fi32) = fi32 (isum cs)
  | 0, cs, h, hl, _ => by
    have : cs = [] := List.eq_nil_of_length_eq_zero (by omega)
    subst this; exact fi32_zero.symm
  | n + 1, cs, h, hl, h2 => by
    by_cases h0 : cs.length = 0
    · have : cs = [] := List.eq_nil_of_length_eq_zero h0
      subst this; rw [cpair_zero (by simp)]; exact fi32_zero.symm
    · by_cases h1 : cs.length = 1
      · obtain ⟨c, rfl⟩ := List.length_eq_one_iff.1 h1
        rw [cpair_one (by simp)]
        show canon .f32 (fi32 c) = _
        rw [canon_fi32]
        show _ = fi32 (0 + c)
        rw [Int.zero_add]
      · rw [cpair_two (by simp; omega), List.length_map, ← List.map_take, ← List.map_drop]
        have s1 := isum_small (small_take h ((cs.length + 1) / 2))
        have s2 := isum_small (small_drop h ((cs.length + 1) / 2))
        have e := isum_append (cs.take ((cs.length + 1) / 2)) (cs.drop ((cs.length + 1) / 2))
        rw [List.take_append_drop] at e
        rw [cpair_whole n _ (small_take h _) (by rw [List.length_take]; omega) (by rw [List.length_take]; omega), cpair_whole n _ (small_drop h _) (by rw [List.length_drop]; omega) (by rw [List.length_drop]; omega), e]
        rw [List.length_take] at s1
        rw [List.length_drop] at s2
        exact add_fi32 (by omega) (by omega) (by omega)
theorem fi_small : ((List.range 201).all fun k => cwide (fi32 ((k : Int) - 100)) == fi64 ((k : Int) - 100) && cop .sub .f32 (fi32 ((k : Int) - 100)) 0 == fi32 ((k : Int) - 100) && cop .sub .f32 (fi32 ((k : Int) - 100)) (fi32 ((k : Int) - 100)) == 0 && floatToIntVal .f32 (fi32 ((k : Int) - 100)) .i64 == some ((k : Int) - 100)) = true := by decide +kernel
theorem fi_at {c : Int} (h : -100 ≤ c ∧ c ≤ 100) : cwide (fi32 c) = fi64 c ∧ cop .sub .f32 (fi32 c) 0 = fi32 c ∧ cop .sub .f32 (fi32 c) (fi32 c) = 0 ∧ floatToIntVal .f32 (fi32 c) .i64 = some c := by
  have h1 := List.all_eq_true.1 fi_small (c + 100).toNat (List.mem_range.2 (by omega))
  simp only [Bool.and_eq_true, beq_iff_eq] at h1
  rw [show (((c + 100).toNat : Nat) : Int) - 100 = c by omega] at h1
  exact ⟨h1.1.1.1, h1.1.1.2, h1.1.2, h1.2⟩
theorem read_opp {b : Int} (h0 : b ≠ 0) (hb : b.natAbs < 16777216) : (Ieee.single.read (fi32 b)).opposite = Ieee.single.read (fi32 (-b)) := by
  obtain ⟨l, hl, hlF, h1, h2⟩ := norm32 (N := b.natAbs) (by omega) hb
  have hl2 : (-b).natAbs.log2 = l := by rw [Int.natAbs_neg]; exact hl
  rw [fi32_word h0 hl hlF, fi32_word (n := -b) (by omega) hl2 hlF, Int.natAbs_neg, readInt32 _ hlF h1 h2, readInt32 _ hlF h1 h2]
  show Datum.number (!decide (b < 0)) _ _ = _
  rw [show decide (-b < 0) = !decide (b < 0) by by_cases h : b < 0 <;> simp [h] <;> omega]
theorem sub_fi32 {a b : Int} (ha : a.natAbs < 16777216) (hb : b.natAbs < 16777216) (hab : (a - b).natAbs < 16777216) : cop .sub .f32 (fi32 a) (fi32 b) = fi32 (a - b) := by
  by_cases h0 : b = 0
  · subst h0
    have e : floatBits .sub .f32 (fi32 a) (fi32 0) = floatBits .add .f32 (fi32 a) 2147483648 := by
      rw [fi32_zero]
      show ((Ieee.single.read (fi32 a)).sum (Ieee.single.read 0).opposite).map Ieee.single.write = ((Ieee.single.read (fi32 a)).sum (Ieee.single.read 2147483648)).map Ieee.single.write
      rw [show (Ieee.single.read 0).opposite = Ieee.single.read 2147483648 by decide +kernel]
    have h := sum_whole32 (whole_fi32 ha) whole_neg032 (fun h' => by
      by_cases h0 : a = 0
      · subst h0; left; rw [fi32_zero]; decide +kernel
      · exact .inr (.inr h0)) (by omega)
    unfold cop at h ⊢
    rw [e, h, Int.add_zero, Int.sub_zero]
  · have e : floatBits .sub .f32 (fi32 a) (fi32 b) = floatBits .add .f32 (fi32 a) (fi32 (-b)) := by
      show ((Ieee.single.read (fi32 a)).sum (Ieee.single.read (fi32 b)).opposite).map Ieee.single.write = ((Ieee.single.read (fi32 a)).sum (Ieee.single.read (fi32 (-b)))).map Ieee.single.write
      rw [read_opp h0 hb]
    have h := add_fi32 (a := a) (b := -b) ha (by omega) (by omega)
    unfold cop at h ⊢
    rw [e, h, Int.sub_eq_add_neg]
theorem take_one {cs : List Int} {k : Nat} (hk : k < cs.length) : cs.take (k + 1) = cs.take k ++ [cs.getD k 0] := by
  rw [List.take_add_one]; simp [List.getD, hk]
theorem ccar_whole {cs : List Int} (h : small cs) (hl : cs.length ≤ 256) : (ccar (cs.map fi32)).1 = fi32 (isum cs) := by
  have key : ∀ k, k ≤ cs.length → ccar ((cs.take k).map fi32) = (fi32 (isum (cs.take k)), 0) := by
    intro k
    induction k with
    | zero => intro _; rw [List.take_zero]; exact congrArg (fun x => (x, 0)) fi32_zero.symm
    | succ k ih =>
      intro hk
      have hs := isum_small (small_take h k)
      have hc := h (cs.getD k 0) (by simp [List.getD, show k < cs.length by omega])
      have hf := fi_at hc
      rw [List.length_take] at hs
      rw [take_one (by omega), List.map_append, isum_snoc]
      have hi := ih (by omega)
      unfold ccar at hi ⊢
      rw [List.foldl_append, hi]
      show carStep (fi32 (isum (cs.take k)), 0) (fi32 (cs.getD k 0)) = _
      generalize cs.getD k 0 = c at *
      generalize isum (cs.take k) = S at *
      unfold carStep
      simp only
      rw [canon_fi32, hf.2.1, add_fi32 (by omega) (by omega) (by omega), sub_fi32 (by omega) (by omega) (by omega), show S + c - S = c by omega, hf.2.2.1]
  have := key cs.length (Nat.le_refl _)
  rw [List.take_length] at this
  rw [this]
/-- sums of squares -/
def isq (cs : List Int) : Int := cs.foldl (fun s c => s + c * c) 0
theorem isq_snoc (cs : List Int) (c : Int) : isq (cs ++ [c]) = isq cs + c * c := by unfold isq; rw [List.foldl_append]; rfl
theorem sq_small {c : Int} (h : -100 ≤ c ∧ c ≤ 100) : 0 ≤ c * c ∧ c * c ≤ 10000 := by
  have e := Int.natAbs_mul c c
  have a : c.natAbs * c.natAbs ≤ 100 * 100 := Nat.mul_le_mul (by omega) (by omega)
  have b : 0 ≤ c * c := by
    rcases Int.le_total 0 c with h | h
    · exact Int.mul_nonneg h h
    · exact Int.mul_nonneg_of_nonpos_of_nonpos h h
  generalize c * c = p at *
  generalize c.natAbs * c.natAbs = q at *
  omega
theorem isq_small {cs : List Int} (h : small cs) : ∀ k, k ≤ cs.length → 0 ≤ isq (cs.take k) ∧ isq (cs.take k) ≤ 10000 * (k : Int)
  | 0, _ => by rw [List.take_zero]; exact ⟨Int.le_refl _, Int.le_refl _⟩
  | k + 1, hk => by
    have h1 := isq_small h k (by omega)
    have h2 := sq_small (h (cs.getD k 0) (by simp [List.getD, show k < cs.length by omega]))
    rw [take_one (by omega), isq_snoc]
    generalize cs.getD k 0 * cs.getD k 0 = p at *
    omega
theorem cdot_whole {cs : List Int} (h : small cs) (hl : cs.length ≤ 256) : cdot (cs.map fi32) (cs.map fi32) = fi32 (isq cs) := by
  have key : ∀ k, k ≤ cs.length → cdot ((cs.take k).map fi32) ((cs.take k).map fi32) = fi32 (isq (cs.take k)) := by
    intro k
    induction k with
    | zero => intro _; rw [List.take_zero]; exact fi32_zero.symm
    | succ k ih =>
      intro hk
      have hs := isq_small h k (by omega)
      have hc := h (cs.getD k 0) (by simp [List.getD, show k < cs.length by omega])
      have hq := sq_small hc
      have hi := ih (by omega)
      rw [take_one (by omega), List.map_append, isq_snoc]
      unfold cdot at hi ⊢
      rw [List.zip_append (by simp), List.foldl_append, hi]
      show cop .add .f32 (fi32 (isq (cs.take k))) (cop .mul .f32 (canon .f32 (fi32 (cs.getD k 0))) (canon .f32 (fi32 (cs.getD k 0)))) = _
      rw [canon_fi32]
      generalize cs.getD k 0 = c at *
      have e1 : (c * c).natAbs < 16777216 := by generalize c * c = p at *; omega
      have e2 : (isq (cs.take k) + c * c).natAbs < 16777216 := by generalize c * c = p at *; omega
      exact dot_fi32 (by omega) (by omega) (by omega) e1 e2
  have := key cs.length (Nat.le_refl _)
  rwa [List.take_length] at this
theorem narrow_whole {n : Int} (hb : n.natAbs < 16777216) (w : World) : canon .f32 (narrow (fi64 n) w) = fi32 n ∧ tooBig (fi64 n) = false := by
  have hw : Ieee.single.write (Ieee.double.read (fi64 n)) = fi32 n ∧ tooBig (fi64 n) = false := by
    by_cases h0 : n = 0
    · subst h0; rw [fi64_zero, fi32_zero]; exact ⟨by decide +kernel, by decide +kernel⟩
    · obtain ⟨l, hlF, hr⟩ := read_fi64 h0 (by omega)
      have e : Ieee.single.write (Ieee.double.read (fi64 n)) = fi32 n := by
        rw [hr]
        show Ieee.single.nearest (decide (n < 0)) (n.natAbs * 2 ^ (52 - l)) ((l : Int) - 52) = _
        rw [show (l : Int) - 52 = -((52 - l : Nat) : Int) by omega]
        exact nearest_fi32 _ (fun _ => rfl) (fun h => absurd h h0) hb (by omega)
      refine ⟨e, ?_⟩
      obtain ⟨l', _, hr'⟩ := read_fi32 h0 hb
      rw [hr] at e
      unfold tooBig
      rw [hr]
      show (Ieee.single.read (Ieee.single.write _)).isInfinity = false
      rw [e, hr']
      rfl
  refine ⟨?_, hw.2⟩
  rw [canon_narrow w hw.2, canon_fi64]
  unfold cnarrow
  rw [show isNan .f64 (fi64 n) = false from fi64_num n]
  exact hw.1
end Go.Proofs.Ythcacaafaifnfaa
