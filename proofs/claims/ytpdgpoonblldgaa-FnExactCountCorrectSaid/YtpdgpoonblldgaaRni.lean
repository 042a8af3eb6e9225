/-
  RunLayer, as the program answers. Conditions: the numbers can be read.
-/
import Derived.Test.YtpdgpoonblldgaaRnr
namespace Go.Proofs.Ytpdgpoonblldgaa
open Go.RowKit Go.Deep Go.WideShapes Go.ChangeShapes
set_option linter.unusedVariables false
set_option linter.unusedSimpArgs false

theorem lay_nat {k i o : Int} {n m : Nat} (h : vLay k i o n m = true) : ∃ i' o' : Nat, i = i' ∧ o = o' ∧ (1 ≤ i' ∧ i' ≤ 8) ∧ (1 ≤ o' ∧ o' ≤ 8) ∧ (k = 0 ∧ n = o' * i' ∧ m = o' ∨ k = 1 ∧ o' = i' ∨ k = 2 ∧ o' = i' ∧ n = i' ∨ k = 3 ∧ o' = i' ∨ k = 4 ∧ o' = i' ∨ k = 5 ∧ o' = i' ∧ n = i' ∧ m = i') := by
  obtain ⟨h1, h2, h3, h4, h5, h6⟩ := (vLay_iff _ _ _ _ _).1 h
  refine ⟨i.toNat, o.toNat, by omega, by omega, by omega, by omega, ?_⟩
  unfold countsOf at h5 h6
  by_cases k0 : k = 0
  · rw [if_pos k0] at h5 h6
    dsimp only at h5 h6
    refine .inl ⟨k0, ?_, by omega⟩
    have e1 : ((o.toNat * i.toNat : Nat) : Int) = o * i := by
      rw [Int.natCast_mul, Int.toNat_of_nonneg (by omega), Int.toNat_of_nonneg (by omega)]
    omega
  · have hio : i = o := by omega
    rw [if_neg k0] at h5 h6
    by_cases k2 : k = 2
    · rw [if_pos k2] at h5 h6; dsimp only at h5 h6
      exact .inr (.inr (.inl ⟨k2, by omega, by omega⟩))
    · rw [if_neg k2] at h5 h6
      by_cases k5 : k = 5
      · rw [if_pos k5] at h5 h6; dsimp only at h5 h6
        exact .inr (.inr (.inr (.inr (.inr ⟨k5, by omega, by omega, by omega⟩))))
      · have : k = 1 ∨ k = 3 ∨ k = 4 := by omega
        rcases this with rfl | rfl | rfl
        · exact .inr (.inl ⟨rfl, by omega⟩)
        · exact .inr (.inr (.inr (.inl ⟨rfl, by omega⟩)))
        · exact .inr (.inr (.inr (.inr (.inl ⟨rfl, by omega⟩))))
theorem c_runnerOf (k : Int) (i o : Nat) (a b : Option Addr) (c d : Nat) (ws bs : List Nat) (w : World) (hv : vLay k i o ws.length bs.length = true) (h : IsFloats .f32 w a ws.length c ws) (h' : IsFloats .f32 w b bs.length d bs) :
    Calls Try.prog 176 #[.agg #[.int .i64 k, .int .i64 i, .int .i64 o, .slice a ws.length c, .slice b bs.length d]] w (RetRun k i o ws bs w) := by
  obtain ⟨i', o', hi', ho', h1, h2, hk⟩ := lay_nat hv
  obtain rfl : i = i' := by omega
  obtain rfl : o = o' := by omega
  rcases hk with ⟨rfl, hn, hm⟩ | ⟨rfl, ho⟩ | ⟨rfl, ho, hn⟩ | ⟨rfl, ho⟩ | ⟨rfl, ho⟩ | ⟨rfl, ho, hn, hm⟩
  · exact c_runner0 i o a b c d ws bs w h1 h2 hn hm h h'
  · exact c_runner1 i o a b c d ws bs w h1 trivial trivial h h'
  · exact c_runner2 i o a b c d ws bs w h1 hn trivial h h'
  · exact c_runner3 i o a b c d ws bs w h1 trivial trivial h h'
  · exact c_runner4 i o a b c d ws bs w h1 trivial trivial h h'
  · exact c_runner5 i o a b c d ws bs w h1 hn hm h h'
theorem runV_len {k : Int} {i o : Nat} {ws bs z : List Nat} (hv : vLay k i o ws.length bs.length = true) (hz : z.length = i) : (runV k i o ws bs z).length = o := by
  refine runV_length k i o ws bs z fun hk => ?_
  obtain ⟨h1, h2, h3, h4, h5, h6⟩ := (vLay_iff _ _ _ _ _).1 hv
  omega
theorem vRunLayer_yes {k : Int} {i o : Nat} {ws bs z : List Nat} (h : vLay k i o ws.length bs.length = true) (hz : z.length = i) : vRunLayer k i o ws bs z = (true, runV k i o ws bs z) := by
  unfold vRunLayer
  rw [if_pos ⟨h, by omega⟩]
  rfl
theorem vRunLayer_no {k i o : Int} {ws bs z : List Nat} (h : vLay k i o ws.length bs.length = false ∨ ¬ (z.length : Int) = i) : vRunLayer k i o ws bs z = (false, []) := by
  unfold vRunLayer
  refine if_neg ?_
  rcases h with h | h
  · rw [h]; simp
  · exact fun x => h x.2
theorem vRunLayer_len (k i o : Int) (ws bs z : List Nat) : (vRunLayer k i o ws bs z).2.length ≤ 1048576 := by
  unfold vRunLayer
  split
  · rename_i h
    obtain ⟨i', o', hi, ho, h1, h2, h3⟩ := lay_nat h.1
    subst hi; subst ho
    dsimp only
    rw [show ((i' : Int)).toNat = i' from rfl, show ((o' : Int)).toNat = o' from rfl, runV_len (by simpa using h.1) (by omega)]
    omega
  · simp
end Go.Proofs.Ytpdgpoonblldgaa
