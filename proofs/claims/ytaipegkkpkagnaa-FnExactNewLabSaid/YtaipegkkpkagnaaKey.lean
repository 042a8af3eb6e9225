/-
  How two floats stand to each other: as the integers of their rungs, with their signs. Conditions: neither is a not-a-number.
-/
import Derived.Test.YtaipegkkpkagnaaFl
namespace Go.Proofs.Ytaipegkkpkagnaa
open Ieee
/-- the magnitude of a rung, in units of the least place -/
def mag (B r : Nat) : Nat := if r < B then r else (B + r % B) * 2 ^ (r / B - 1)
theorem mag_succ {B r : Nat} (hB : 0 < B) : mag B r < mag B (r + 1) := by
  unfold mag
  by_cases h1 : r + 1 < B
  · rw [if_pos (by omega), if_pos h1]; omega
  · rw [if_neg h1]
    by_cases h2 : r + 1 = B
    · rw [if_pos (by omega), h2, Nat.mod_self, Nat.div_self hB]; simp; omega
    · rw [if_neg (by omega)]
      by_cases h3 : (r + 1) % B = 0
      · have hq : (r + 1) / B = r / B + 1 := by
          have := @Nat.succ_div r B
          rw [this, if_pos (Nat.dvd_of_mod_eq_zero h3)]
        have hr : r % B = B - 1 := by
          have h4 := Nat.div_add_mod r B
          have h5 := Nat.div_add_mod (r + 1) B
          rw [hq, h3, Nat.mul_add] at h5
          omega
        have hp : 1 ≤ r / B := (Nat.le_div_iff_mul_le hB).2 (by omega)
        rw [hq, h3, hr]
        obtain ⟨k, hk⟩ : ∃ k, r / B = k + 1 := ⟨r / B - 1, by omega⟩
        rw [hk]
        have : 0 < 2 ^ k := Nat.two_pow_pos k
        simp only [Nat.add_sub_cancel, Nat.pow_succ, Nat.add_zero]
        calc (B + (B - 1)) * 2 ^ k < (B * 2) * 2 ^ k := Nat.mul_lt_mul_of_pos_right (by omega) this
          _ = B * (2 ^ k * 2) := by rw [Nat.mul_assoc, Nat.mul_comm 2]
      · have hq : (r + 1) / B = r / B := by
          have := @Nat.succ_div r B
          rw [this, if_neg (fun h => h3 (Nat.mod_eq_zero_of_dvd h))]
          rfl
        have hm : (r + 1) % B = r % B + 1 := by
          have h4 := Nat.div_add_mod r B
          have h5 := Nat.div_add_mod (r + 1) B
          rw [hq] at h5
          omega
        rw [hq, hm]
        exact Nat.mul_lt_mul_of_pos_right (by omega) (Nat.two_pow_pos _)
theorem mag_mono {B : Nat} (hB : 0 < B) {r s : Nat} (h : r < s) : mag B r < mag B s := by
  induction s with
  | zero => omega
  | succ s ih =>
    by_cases e : r = s
    · subst e; exact mag_succ hB
    · exact Nat.lt_trans (ih (by omega)) (mag_succ hB)
theorem mag_lt_iff {B : Nat} (hB : 0 < B) (r s : Nat) : mag B r < mag B s ↔ r < s := by
  constructor
  · intro h
    by_cases e : r < s
    · exact e
    · by_cases e2 : r = s
      · subst e2; omega
      · have := mag_mono hB (show s < r by omega); omega
  · exact mag_mono hB
/-- a word as an integer that rises with the number -/
def key (f : Format) (x : Nat) : Int := if x / f.signWeight % 2 == 1 then -(x % f.signWeight : Nat) else (x % f.signWeight : Nat)
def sval (f : Format) (x : Nat) : Int := if x / f.signWeight % 2 == 1 then -(mag f.binade (x % f.signWeight) : Nat) else (mag f.binade (x % f.signWeight) : Nat)

theorem compare_sval (f : Format) (x y : Nat) : compare (sval f x) (sval f y) = compare (key f x) (key f y) := by
  have hB : 0 < f.binade := Nat.two_pow_pos _
  have h0 : mag f.binade 0 = 0 := by unfold mag; rw [if_pos hB]
  have p1 : ∀ r, 0 < r → 0 < mag f.binade r := fun r h => by have := mag_mono hB h; omega
  unfold sval key
  generalize x % f.signWeight = r
  generalize y % f.signWeight = s
  have a := mag_lt_iff hB r s
  have b := mag_lt_iff hB s r
  have c : r = s → mag f.binade r = mag f.binade s := fun h => by rw [h]
  have pr := p1 r
  have ps := p1 s
  have zr : r = 0 → mag f.binade r = 0 := fun h => by rw [h, h0]
  have zs : s = 0 → mag f.binade s = 0 := fun h => by rw [h, h0]
  generalize mag f.binade r = R at *
  generalize mag f.binade s = S at *
  rw [Int.compare_eq_ite_lt, Int.compare_eq_ite_lt]
  split <;> split <;> (repeat' split) <;> first | rfl | (exfalso; omega)
theorem read_fin (f : Format) (x : Nat) (h : x % f.signWeight < f.infRung) : ∃ m a : Nat, f.read x = .number (x / f.signWeight % 2 == 1) m (f.leastPlace + a) ∧ m * 2 ^ a = mag f.binade (x % f.signWeight) := by
  unfold Format.read mag
  simp only
  split
  · exact ⟨x % f.signWeight, 0, by simp, by simp⟩
  · exact ⟨_, _, rfl, rfl⟩
theorem read_inf (f : Format) (x : Nat) (h : x % f.signWeight = f.infRung) (hb : f.binade ≤ f.infRung) : f.read x = .infinity (x / f.signWeight % 2 == 1) := by
  unfold Format.read
  simp only
  rw [if_neg (by omega), if_neg (by omega), if_pos h]

theorem compare_scale (c : Nat) (hc : 0 < c) (a b : Int) : compare (a * c) (b * c) = compare a b := by
  have h1 : a * c < b * c ↔ a < b := Int.mul_lt_mul_right (by omega)
  have h2 : b * c < a * c ↔ b < a := Int.mul_lt_mul_right (by omega)
  rw [Int.compare_eq_ite_lt, Int.compare_eq_ite_lt]
  simp only [h1, h2]

theorem signed_scale (s : Bool) (m a d : Nat) : signed s m d * ((2 ^ a : Nat) : Int) = if s then -((m * 2 ^ (d + a) : Nat) : Int) else ((m * 2 ^ (d + a) : Nat) : Int) := by
  unfold signed
  rw [Nat.shiftLeft_eq, Nat.pow_add]
  cases s
  · simp only [Bool.false_eq_true, if_false]
    rw [← Int.natCast_mul, Nat.mul_assoc]
  · simp only [if_true]
    rw [Int.neg_mul, ← Int.natCast_mul, Nat.mul_assoc]

theorem cmp_gt (s t : Bool) (R S : Nat) (h : S < R) : compare (if s then -(R : Int) else R) (if t then -(S : Int) else S) = if s then .lt else .gt := by
  rw [Int.compare_eq_ite_lt]
  cases s <;> cases t <;> simp only [Bool.false_eq_true, if_false, if_true] <;> (repeat' split) <;> first | rfl | (exfalso; omega)
theorem cmp_lt (s t : Bool) (R S : Nat) (h : R < S) : compare (if s then -(R : Int) else R) (if t then -(S : Int) else S) = if t then .gt else .lt := by
  rw [Int.compare_eq_ite_lt]
  cases s <;> cases t <;> simp only [Bool.false_eq_true, if_false, if_true] <;> (repeat' split) <;> first | rfl | (exfalso; omega)
theorem cmp_same (s t : Bool) (R : Nat) (h : 0 < R) : compare (if s then -(R : Int) else R) (if t then -(R : Int) else R) = compare t.toNat s.toNat := by
  rw [Int.compare_eq_ite_lt]
  cases s <;> cases t <;> simp only [Bool.false_eq_true, if_false, if_true] <;> (repeat' split) <;> first | rfl | (exfalso; omega)

/-- two numbers, neither of them a not-a-number, stand to each other as their integers do -/
theorem order_key (f : Format) (x y : Nat) (hb : f.binade ≤ f.infRung) (hx : (f.read x).isNaN = false) (hy : (f.read y).isNaN = false) : f.order x y = some (compare (key f x) (key f y)) := by
  have hB : 0 < f.binade := Nat.two_pow_pos _
  have nx : x % f.signWeight ≤ f.infRung := by
    by_cases h : f.infRung < x % f.signWeight
    · rw [read_big f x h hb] at hx; cases hx
    · omega
  have ny : y % f.signWeight ≤ f.infRung := by
    by_cases h : f.infRung < y % f.signWeight
    · rw [read_big f y h hb] at hy; cases hy
    · omega
  unfold Format.order
  by_cases ix : x % f.signWeight = f.infRung
  · rw [read_inf f x ix hb]
    by_cases iy : y % f.signWeight = f.infRung
    · rw [read_inf f y iy hb]
      unfold key
      rw [ix, iy, cmp_same _ _ _ (by omega)]
      rfl
    · obtain ⟨n, b, hr, _⟩ := read_fin f y (by omega)
      rw [hr]
      unfold key
      rw [ix, cmp_gt _ _ _ _ (by omega)]
      rfl
  · obtain ⟨m, a, hr, hm⟩ := read_fin f x (by omega)
    rw [hr]
    by_cases iy : y % f.signWeight = f.infRung
    · rw [read_inf f y iy hb]
      unfold key
      rw [iy, cmp_lt _ _ _ _ (by omega)]
      rfl
    · obtain ⟨n, b, hr', hn⟩ := read_fin f y (by omega)
      rw [hr']
      simp only [Datum.order]
      rw [← compare_sval]
      congr 1
      rw [← compare_scale (2 ^ min a b) (Nat.two_pow_pos _), signed_scale, signed_scale]
      unfold sval
      rw [show (f.leastPlace + (a : Int) - min (f.leastPlace + (a : Int)) (f.leastPlace + (b : Int))).toNat + min a b = a by omega]
      rw [show (f.leastPlace + (b : Int) - min (f.leastPlace + (a : Int)) (f.leastPlace + (b : Int))).toNat + min a b = b by omega]
      rw [hm, hn]
end Go.Proofs.Ytaipegkkpkagnaa
