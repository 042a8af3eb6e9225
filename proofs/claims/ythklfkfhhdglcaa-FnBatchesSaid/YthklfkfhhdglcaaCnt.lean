/-
  How often each row comes in a list of rows. Conditions: none.
-/
import Derived.Test.YthklfkfhhdglcaaBai
import Derived.Test.YthklfkfhhdglcaaLawKit
namespace Go.Proofs.Ythklfkfhhdglcaa
open Go.RowKit Go.Deep Go.WideShapes Go.ChangeShapes
set_option linter.unusedVariables false

def cntI (L : List Int) (n : Nat) : List Int := (List.range n).map fun v : Nat => ((L.count (v : Int) : Nat) : Int)
theorem cntI_length (L : List Int) (n : Nat) : (cntI L n).length = n := by simp [cntI]
theorem cntI_nil (n : Nat) : cntI [] n = List.replicate n 0 := by
  unfold cntI
  apply List.ext_getElem (by simp)
  intro i h1 h2
  simp
theorem cntI_at {L : List Int} {n v : Nat} (h : v < n) : (cntI L n).getD v 0 = ((L.count (v : Int) : Nat) : Int) := by simp [cntI, List.getD, h]
theorem cntI_snoc {L : List Int} {n q : Nat} (h : q < n) : (cntI L n).set q (((L.count (q : Int) : Nat) : Int) + 1) = cntI (L ++ [(q : Int)]) n := by
  unfold cntI
  apply List.ext_getElem (by simp)
  intro i h1 h2
  rw [List.getElem_set]
  by_cases e : q = i
  · subst e
    rw [if_pos rfl]
    simp [List.count_append]
  · rw [if_neg e]
    simp only [List.getElem_map, List.getElem_range, List.count_append]
    have : List.count (i : Int) [(q : Int)] = 0 := by
      rw [List.count_eq_zero]
      simp
      omega
    rw [this]; rfl
theorem upTo_count {n v : Nat} (h : v < n) : (upTo n).count (v : Int) = 1 := by
  induction n with
  | zero => omega
  | succ n ih =>
    rw [upTo_succ, List.count_append]
    by_cases e : v = n
    · subst e
      have : List.count (v : Int) (upTo v) = 0 := by
        rw [List.count_eq_zero]
        intro hm
        have := upTo_mem hm
        omega
      rw [this]; simp
    · rw [ih (by omega)]
      have : List.count (v : Int) [(n : Int)] = 0 := by
        rw [List.count_eq_zero]
        simp
        omega
      rw [this]
theorem two_perms {A B : List Int} {n v : Nat} (hA : A.Perm (upTo n)) (hB : B.Perm (upTo n)) (h : v < n) : (A ++ B).count (v : Int) = 2 := by
  rw [List.count_append, hA.count_eq, hB.count_eq, upTo_count h]
/-- the row of counts behind one more row -/
theorem cnt_step {w : World} {B g c n q : Nat} {L : List Int} (h : OwnI w B (some ⟨g, 0, none⟩) c (cntI L n)) (hq : q < n) (hL : L.length ≤ 100) : OwnI (w.setCell ⟨g, q, none⟩ (.int .i64 (((L.count (q : Int) : Nat) : Int) + 1))) B (some ⟨g, 0, none⟩) c (cntI (L ++ [(q : Int)]) n) := by
  have hc : L.count (q : Int) ≤ L.length := List.count_le_length
  have := ownI_set (k := q) (v := (((L.count (q : Int) : Nat) : Int) + 1)) h (by rw [cntI_length]; exact hq) (by
    simp [Lit.wf, IntKind.min, IntKind.max, IntKind.signed, IntKind.bits]; omega)
  rw [cntI_snoc hq] at this
  exact this
/-- rows in batches -/
theorem part_count {n b r k : Nat} (h1 : 1 ≤ n) (hb : 1 ≤ b) (hk : batK n b = k) (hr : r < k) (e : Nat) : batFrom n b (e * k + r) = r * b ∧ (e * k + r) / batK n b = e ∧ batTo n b (e * k + r) = min n (r * b + b) := by
  have hk1 := batK_pos h1 hb
  rw [hk] at hk1
  have e1 : (e * k + r) % k = r := by rw [Nat.mul_comm, Nat.mul_add_mod]; exact Nat.mod_eq_of_lt hr
  have e2 : (e * k + r) / k = e := by rw [Nat.mul_comm, Nat.mul_add_div (by omega), Nat.div_eq_of_lt hr]; rfl
  refine ⟨by unfold batFrom; rw [hk, e1], by rw [hk]; exact e2, by unfold batTo batFrom; rw [hk, e1]⟩
theorem part_lt {n b r k : Nat} (h1 : 1 ≤ n) (hb : 1 ≤ b) (hk : batK n b = k) (hr : r < k) : r * b < n := by
  have h2 : k * b ≤ n + b - 1 := by rw [← hk]; exact Nat.div_mul_le_self _ _
  have h3 := Nat.mul_le_mul_right b (show r ≤ k - 1 by omega)
  have h4 : (k - 1) * b + b = k * b := by rw [← Nat.succ_mul]; congr 1; omega
  omega
theorem part_all {n b k : Nat} (hb : 1 ≤ b) (hk : batK n b = k) : n ≤ k * b := by
  have h2 := Nat.lt_div_mul_add (show 0 < b by omega) (a := n + b - 1)
  unfold batK at hk
  rw [hk] at h2
  omega
theorem take_part (O : List Int) (r b : Nat) : O.take (r * b) ++ (O.drop (r * b)).take (min O.length (r * b + b) - r * b) = O.take ((r + 1) * b) := by
  rw [Nat.succ_mul, List.take_add]
  congr 1
  by_cases h : r * b + b ≤ O.length
  · rw [Nat.min_eq_right h, Nat.add_sub_cancel_left]
  · rw [Nat.min_eq_left (by omega), List.take_of_length_le (by simp), List.take_of_length_le (by simp; omega)]
end Go.Proofs.Ythklfkfhhdglcaa
