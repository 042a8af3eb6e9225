/-
  WorkerRows: which rows a worker has, and that both sides say when there are any. Conditions: none.
-/
import Derived.Test.YtdgoladbkaldkaaIls
import Derived.Test.YtdgoladbkaldkaaVal
namespace Go.Proofs.Ytdgoladbkaldkaa
open Go.RowKit Go.Deep Go.WideShapes Go.ChangeShapes
set_option linter.unusedVariables false
set_option linter.unusedSimpArgs false

def okWR (r n : Int) : Bool := (decide (1 ≤ r) && decide (r ≤ 16)) && (decide (1 ≤ n) && decide (n ≤ min r 8))
theorem okWR_iff (r n : Int) : okWR r n = true ↔ 1 ≤ r ∧ r ≤ 16 ∧ 1 ≤ n ∧ n ≤ r ∧ n ≤ 8 := by
  simp only [okWR, Bool.and_eq_true, decide_eq_true_eq]
  omega
theorem okWR_no {r n : Int} (h : ¬ (1 ≤ r ∧ r ≤ 16 ∧ 1 ≤ n ∧ n ≤ r ∧ n ≤ 8)) : okWR r n = false := by
  cases hb : okWR r n
  · rfl
  · exact absurd ((okWR_iff r n).1 hb) h
/-- how many rows worker i has, and where they begin -/
def cntW (R N i : Nat) : Nat := R / N + if i < R % N then 1 else 0
def fstW (R N : Nat) : Nat → Nat
  | 0 => 0
  | k + 1 => fstW R N k + cntW R N k
theorem cntW_le {R N : Nat} (h : R ≤ 16) (i : Nat) : cntW R N i ≤ 17 := by
  have := Nat.div_le_self R N
  unfold cntW
  split <;> omega
theorem fstW_le {R N : Nat} (h : R ≤ 16) (k : Nat) : fstW R N k ≤ 17 * k := by
  induction k with
  | zero => simp [fstW]
  | succ k ih => have := cntW_le (N := N) h k; simp only [fstW]; omega
def rowW (R N i : Nat) : List Int := [(fstW R N i : Int), (cntW R N i : Int)]
def rowsW (R N : Nat) : List (List Int) := (List.range N).map (rowW R N)
def vWorkerRows (r n : Int) : Bool × List (List Int) := if okWR r n = true then (true, rowsW r.toNat n.toNat) else (false, [])
theorem wf_small {x : Nat} (h : x ≤ 1000000) : (Lit.int .i64 (x : Int)).wf = true := by
  simp [Lit.wf, IntKind.min, IntKind.max, IntKind.signed, IntKind.bits]
  omega
theorem rowW_wf {R N i : Nat} (h : R ≤ 16) (hi : i ≤ 1000) : ∀ y ∈ rowW R N i, (Lit.int .i64 y).wf = true := by
  intro y hy
  have h1 := fstW_le (N := N) h i
  have h2 := cntW_le (N := N) h i
  simp only [rowW, List.mem_cons, List.not_mem_nil, or_false] at hy
  rcases hy with rfl | rfl
  · exact wf_small (by omega)
  · exact wf_small (by omega)
theorem vWorkerRows_len (r n : Int) : (vWorkerRows r n).2.length + cntZI (vWorkerRows r n).2 ≤ 1048576 := by
  unfold vWorkerRows
  split
  · rename_i h
    obtain ⟨h1, h2, h3, h4, h5⟩ := (okWR_iff r n).1 h
    have : cntZI (rowsW r.toNat n.toNat) = 2 * n.toNat := by
      simp only [cntZI, rowsW, List.map_map, Function.comp_def, rowW, List.length_cons, List.length_nil]
      have : ∀ k : Nat, ((List.range k).map fun _ => 2).sum = 2 * k := by
        intro k
        induction k with
        | zero => rfl
        | succ k ih => rw [List.range_succ, List.map_append, List.sum_append, ih]; simp; omega
      exact this _
    rw [this]
    simp only [rowsW, List.length_map, List.length_range]
    omega
  · simp [cntZI]
theorem vWorkerRows_wf (r n : Int) : wfZ (vWorkerRows r n).2 := by
  unfold vWorkerRows
  split
  · rename_i h
    obtain ⟨h1, h2, h3, h4, h5⟩ := (okWR_iff r n).1 h
    intro z hz
    obtain ⟨i, hi, rfl⟩ := List.mem_map.1 hz
    exact rowW_wf (by omega) (by have := List.mem_range.1 hi; omega)
  · intro z hz; cases hz
theorem quoW {R N : Nat} : ((R : Int).tdiv (N : Int)) = ((R / N : Nat) : Int) := by rw [Int.tdiv_eq_ediv_of_nonneg (by omega)]; exact (Int.natCast_ediv R N).symm
theorem remW {R N : Nat} : ((R : Int).tmod (N : Int)) = ((R % N : Nat) : Int) := by rw [Int.tmod_eq_emod_of_nonneg (by omega)]; exact (Int.natCast_emod R N).symm

end Go.Proofs.Ytdgoladbkaldkaa
