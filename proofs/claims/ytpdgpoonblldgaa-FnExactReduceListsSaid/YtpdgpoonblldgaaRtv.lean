/-
  Sums in a tree, in values: a round adds what the parts of two have; the tree's number. Conditions: none.
-/
import Derived.Test.YtpdgpoonblldgaaRdc
import Derived.Test.YtpdgpoonblldgaaItr
namespace Go.Proofs.Ytpdgpoonblldgaa
open Go.RowKit
set_option linter.unusedVariables false

theorem chCnt_two (n : Nat) : chCnt (n + 2) 2 = chCnt n 2 + 1 := by unfold chCnt; omega
theorem pair_parts : ∀ (n : Nat) (l : List Nat), l.length ≤ n → pairV l = (List.range (chCnt l.length 2)).map fun k => lineV ((l.drop (k * 2)).take 2) := by
  intro n
  induction n with
  | zero =>
    intro l h
    cases l with
    | nil => rfl
    | cons x t => simp at h
  | succ n ih =>
    intro l h
    match l with
    | [] => simp [pairV, chCnt]
    | [x] => simp [pairV, chCnt, lineV, List.range_succ]
    | x :: y :: t =>
      have ht : t.length ≤ n := by simp at h; omega
      rw [show (x :: y :: t).length = t.length + 2 from rfl, chCnt_two, List.range_succ_eq_map, List.map_cons, List.map_map]
      rw [pairV, ih t ht]
      congr 1
      apply List.map_congr_left
      intro k _
      simp only [Function.comp_def]
      rw [show (k + 1) * 2 = k * 2 + 2 by omega]
      rfl
theorem pair_len (l : List Nat) : (pairV l).length = (l.length + 1) / 2 := pairV_length l.length l (Nat.le_refl _)
theorem treeN_short {l : List Nat} (h : l.length ≤ 1) : ∀ m, treeN m l = l := by
  intro m
  induction m with
  | zero => rfl
  | succ m ih =>
    have : pairV l = l := by
      match l with
      | [] => simp [pairV]
      | [x] => simp [pairV]
      | x :: y :: t => simp at h
    show treeN m (pairV l) = l
    rw [this, ih]
theorem treeN_stable : ∀ (n : Nat) (l : List Nat), l.length ≤ n → ∀ m, l.length ≤ m → treeN m l = treeN l.length l := by
  intro n
  induction n with
  | zero =>
    intro l h m _
    rw [treeN_short (by omega) m, treeN_short (by omega)]
  | succ n ih =>
    intro l h m hm
    by_cases h1 : l.length ≤ 1
    · rw [treeN_short h1 m, treeN_short h1]
    · have hp := pair_len l
      obtain ⟨m', rfl⟩ : ∃ m', m = m' + 1 := ⟨m - 1, by omega⟩
      obtain ⟨k, hk⟩ : ∃ k, l.length = k + 1 := ⟨l.length - 1, by omega⟩
      rw [hk]
      show treeN m' (pairV l) = treeN k (pairV l)
      rw [ih (pairV l) (by omega) m' (by omega), ih (pairV l) (by omega) k (by omega)]
theorem treeV_pair {l : List Nat} (h : 2 ≤ l.length) : treeV (pairV l) = treeV l := by
  have hp := pair_len l
  obtain ⟨k, hk⟩ : ∃ k, l.length = k + 1 := ⟨l.length - 1, by omega⟩
  unfold treeV
  rw [hk]
  show _ = (treeN k (pairV l)).getD 0 0
  rw [treeN_stable k (pairV l) (by omega) k (by omega)]
theorem treeV_one {l : List Nat} (h : l.length = 1) : treeV l = l.getD 0 0 := by
  unfold treeV
  rw [treeN_short (by omega)]
theorem part_can (z : List Nat) (k : Nat) : lineV (((z.map (canon .f32)).drop (k * 2)).take 2) = lineV (((z.drop (k * 2)).take 2).map (canon .f32)) := by
  rw [← List.map_drop, ← List.map_take]
/-- what a round of the tree leaves -/
theorem pair_of_parts {z rs : List Nat} {ys : List (ChI z.length 2)} (h1 : rs.map (canon .f32) = ys.map (fun x => lineV (((z.drop (x.1 * 2)).take 2).map (canon .f32)))) (h2 : ys.map Subtype.val = List.range (chCnt z.length 2)) : rs.map (canon .f32) = pairV (z.map (canon .f32)) := by
  rw [h1, pair_parts _ (z.map (canon .f32)) (Nat.le_refl _), List.length_map, ← h2, List.map_map]
  apply List.map_congr_left
  intro x _
  exact (part_can z x.1).symm
theorem pair_count (n : Nat) : chCnt n 2 = (n + 1) / 2 := by unfold chCnt; rfl
end Go.Proofs.Ytpdgpoonblldgaa
