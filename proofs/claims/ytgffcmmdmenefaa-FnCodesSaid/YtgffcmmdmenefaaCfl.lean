/-
  Numbers of codes: exact, and back; dots of codes by powers of two: exact. Conditions: as each says.
-/
import Derived.Test.YtgffcmmdmenefaaIntF
import Derived.Test.YtgffcmmdmenefaaEx32
import Derived.Test.YtgffcmmdmenefaaCap
namespace Go.Proofs.Ytgffcmmdmenefaa
open Ieee

theorem canon_back {y z : Nat} (h : canon .f32 y = z) (hz : isNan .f32 z = false) : y = z := by
  have hn : isNan .f32 y = false := by rw [← isNan_canon, h]; exact hz
  rw [← h, canon_num hn]
theorem readWord32 (s : Bool) {q M : Nat} (hq : q ≤ 252) (h1 : 8388608 ≤ M) (h2 : M < 16777216) :
    Ieee.single.read (Ieee.single.word s (q * 8388608 + M)) = .number s M ((q : Int) - 149) := by
  obtain ⟨m, rfl⟩ : ∃ m, M = 8388608 + m := ⟨M - 8388608, by omega⟩
  have hr : q * 8388608 + (8388608 + m) < 2139095040 := by omega
  have hm : m < 8388608 := by omega
  have hd : (q * 8388608 + (8388608 + m)) / 8388608 = q + 1 := by omega
  have hmod : (q * 8388608 + (8388608 + m)) % 8388608 = m := by omega
  have hge : ¬ q * 8388608 + (8388608 + m) < 8388608 := by omega
  generalize hrr : q * 8388608 + (8388608 + m) = r at hr hd hmod hge ⊢
  clear hrr
  have hs : (Ieee.single.word s r / 2147483648 % 2 == 1) = s ∧ Ieee.single.word s r % 2147483648 = r := by
    unfold Format.word
    rw [single_sw]
    cases s
    · simp only [Bool.false_eq_true, if_false]
      exact ⟨by rw [Nat.div_eq_of_lt (by omega)]; rfl, Nat.mod_eq_of_lt (by omega)⟩
    · simp only [if_true]
      refine ⟨?_, by omega⟩
      rw [show (2147483648 + r) / 2147483648 = 1 by omega]; rfl
  unfold Format.read
  simp only [single_sw, single_bin, single_inf, single_least]
  rw [hs.1, hs.2, if_neg hge, if_pos hr, hd, hmod]
  refine congrArg (Datum.number s (8388608 + m)) ?_
  omega
/-- by a power of two -/
theorem mulWord32 (s : Bool) {q q' M c : Nat} {e : Int} (hc : Ieee.single.read c = .number false 8388608 e) (hq : q ≤ 252) (hq' : q' ≤ 252) (he : (q' : Int) = q + e + 23) (h1 : 8388608 ≤ M) (h2 : M < 16777216) :
    cop .mul .f32 (Ieee.single.word s (q * 8388608 + M)) c = Ieee.single.word s (q' * 8388608 + M) := by
  have hf : floatBits .mul .f32 (Ieee.single.word s (q * 8388608 + M)) c = some (Ieee.single.word s (q' * 8388608 + M)) := by
    show ((Ieee.single.read (Ieee.single.word s (q * 8388608 + M))).product (Ieee.single.read c)).map Ieee.single.write = _
    rw [readWord32 s hq h1 h2, hc]
    have hpro : (Datum.number s M ((q : Int) - 149)).product (Datum.number false 8388608 e) = some (.number (s ^^ false) (M * 2 ^ 23) ((q : Int) - 149 + e)) := by
      rw [show (2 : Nat) ^ 23 = 8388608 by decide]; unfold Datum.product; rfl
    rw [hpro, Option.map_some]
    unfold Format.write
    simp only
    rw [nearest_exact32 _ h1 h2 (by omega), Bool.xor_false]
    rw [show ((q : Int) - 149 + e + ((23 : Nat) : Int) + 149).toNat = q' by omega, Nat.min_eq_left (by omega)]
  unfold cop
  rw [hf]
  rfl
theorem dot_four {n : Int} (hn : -200000 ≤ n ∧ n ≤ 200000) : cop .mul .f32 (cop .mul .f32 (floatOfInt .f32 n) 1056964608) 1082130432 = floatOfInt .f32 (2 * n) := by
  by_cases h0 : n = 0
  · subst h0; decide +kernel
  have hN : n.natAbs ≠ 0 := by omega
  obtain ⟨l, hl, hlF, h1, h2⟩ := norm32 hN (by omega)
  have hl17 : l ≤ 17 := by
    have : n.natAbs.log2 < 18 := (Nat.log2_lt hN).2 (by omega)
    omega
  have e1 : floatOfInt .f32 n = Ieee.single.word (decide (n < 0)) ((l + 126) * 8388608 + n.natAbs * 2 ^ (23 - l)) := fi32_word h0 hl hlF
  have hl2 : (2 * n).natAbs.log2 = l + 1 := by
    rw [show (2 * n).natAbs = 2 * n.natAbs by omega, Nat.log2_two_mul hN, hl]
  have e2 : floatOfInt .f32 (2 * n) = Ieee.single.word (decide (2 * n < 0)) ((l + 1 + 126) * 8388608 + (2 * n).natAbs * 2 ^ (23 - (l + 1))) := fi32_word (by omega) hl2 (by omega)
  have e3 : (2 * n).natAbs * 2 ^ (23 - (l + 1)) = n.natAbs * 2 ^ (23 - l) := by
    rw [show (2 * n).natAbs = n.natAbs * 2 by omega, Nat.mul_assoc, ← Nat.pow_succ', show (23 - (l + 1)).succ = 23 - l by omega]
  rw [e1, e2, e3, show decide (2 * n < 0) = decide (n < 0) by congr 1; apply propext; omega]
  rw [mulWord32 (e := -24) (q' := l + 125) _ (by decide +kernel) (by omega) (by omega) (by omega) h1 h2, mulWord32 (e := -21) (q' := l + 1 + 126) _ (by decide +kernel) (by omega) (by omega) (by omega) h1 h2]
def cod1 (n : Int) : Bool := cop .mul .f32 (floatOfInt .f32 n) 1065353216 == floatOfInt .f32 n && fin32 (floatOfInt .f32 n) && lim (rteV .even (vq (floatOfInt .f32 n) 1065353216)) == n
theorem cod1_all : ((List.range 255).all fun k => cod1 ((k : Int) - 127)) = true := by decide +kernel
theorem cod1_at {n : Int} (h1 : -127 ≤ n) (h2 : n ≤ 127) : cop .mul .f32 (floatOfInt .f32 n) 1065353216 = floatOfInt .f32 n ∧ fin32 (floatOfInt .f32 n) = true ∧ lim (rteV .even (vq (floatOfInt .f32 n) 1065353216)) = n := by
  have h := List.all_eq_true.1 cod1_all (n + 127).toNat (List.mem_range.2 (by omega))
  simp only [cod1, Bool.and_eq_true, beq_iff_eq] at h
  rw [show (((n + 127).toNat : Nat) : Int) - 127 = n by omega] at h
  exact ⟨h.1.1, h.1.2, h.2⟩
theorem foi_nn (n : Int) : isNan .f32 (floatOfInt .f32 n) = false := nearest_num _ _ _ _
/-- all numbers of codes -/
theorem num_list {c : List Int} {ys : List Nat} (hc : okCod c = true) (he : ys.map (canon .f32) = (List.range c.length).map (numF c 1065353216)) : ys.length = c.length ∧ (∀ k, k < c.length → ys.getD k 0 = floatOfInt .f32 (c.getD k 0)) ∧ okFin ys = true := by
  have hl : ys.length = c.length := by simpa using congrArg List.length he
  have hat : ∀ k, k < c.length → ys.getD k 0 = floatOfInt .f32 (c.getD k 0) := by
    intro k hk
    have h1 := congrArg (fun l : List Nat => l[k]?) he
    simp [hk, show k < ys.length by omega] at h1
    have h2 := okCod_at hc hk
    have e : numF c 1065353216 k = floatOfInt .f32 (c.getD k 0) := by
      unfold numF
      rw [show canon .f32 1065353216 = 1065353216 by decide +kernel]
      exact (cod1_at h2.1 h2.2).1
    rw [e] at h1
    have := canon_back h1 (foi_nn _)
    simpa [List.getD, show k < ys.length by omega] using this
  exact ⟨hl, hat, okFin_yes (by rw [hl]; exact okCod_few hc) (fun j hj => by rw [hat j (by omega)]; have h2 := okCod_at hc (show j < c.length by omega); exact (cod1_at h2.1 h2.2).2.1)⟩
theorem codes_list {c : List Int} {ys : List Nat} (hc : okCod c = true) (hl : ys.length = c.length) (hat : ∀ k, k < c.length → ys.getD k 0 = floatOfInt .f32 (c.getD k 0)) (hok : okFin ys = true) : vCodesOf ys 1065353216 = (true, c) := by
  unfold vCodesOf
  rw [vCodes_yes hok (by decide), hl]
  refine congrArg (Prod.mk true) ?_
  apply List.ext_getElem (by simp)
  intro k h1 h2
  simp only [List.getElem_map, List.getElem_range]
  have h3 := okCod_at hc h2
  have h4 := (cod1_at h3.1 h3.2).2.2
  rw [← hat k h2] at h4
  unfold codeF rvE
  rw [if_neg (by decide), h4]
  simp [List.getD, h2]
theorem codes_none {ys : List Nat} (hok : okFin ys = true) : vCodesOf ys 0 = (true, List.replicate ys.length 0) := by
  unfold vCodesOf
  rw [vCodes_yes hok (by decide)]
  refine congrArg (Prod.mk true) ?_
  apply List.ext_getElem (by simp)
  intro k h1 h2
  simp [codeF]
end Go.Proofs.Ytgffcmmdmenefaa
