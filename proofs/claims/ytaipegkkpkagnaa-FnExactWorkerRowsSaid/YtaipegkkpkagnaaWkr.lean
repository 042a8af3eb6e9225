/-
  WorkerRows: which rows a worker has, and that both sides say when there are any. Conditions: none.
-/
import Derived.Test.YtaipegkkpkagnaaIls
import Derived.Test.YtaipegkkpkagnaaVal
namespace Go.Proofs.Ytaipegkkpkagnaa
open Go.RowKit Go.Deep Go.WideShapes Go.ChangeShapes
set_option linter.unusedVariables false
set_option linter.unusedSimpArgs false

def okWR (r n : Int) : Bool := (decide (1 ≤ r) && decide (r ≤ 16)) && (decide (1 ≤ n) && decide (n ≤ min r 8))
theorem okWR_iff (r n : Int) : okWR r n = true ↔ 1 ≤ r ∧ r ≤ 16 ∧ 1 ≤ n ∧ n ≤ r ∧ n ≤ 8 := by
  simp only [okWR, Bool.and_eq_true, decide_eq_true_eq]
  omega
theorem okWR_no {r n : Int} (h : ¬ (1 ≤ r ∧ r ≤ 16 ∧ 1 ≤ n ∧ n ≤ r ∧ n ≤ 8)) : okWR r n = false := by
  cases hb : okWR r n
  · rfl
  · exact absurd ((okWR_iff r n).1 hb) h
/-- how many rows worker i has, and where they begin -/
def cntW (R N i : Nat) : Nat := R / N + if i < R % N then 1 else 0
def fstW (R N : Nat) : Nat → Nat
  | 0 => 0
  | k + 1 => fstW R N k + cntW R N k
theorem cntW_le {R N : Nat} (h : R ≤ 16) (i : Nat) : cntW R N i ≤ 17 := by
  have := Nat.div_le_self R N
  unfold cntW
  split <;> omega
theorem fstW_le {R N : Nat} (h : R ≤ 16) (k : Nat) : fstW R N k ≤ 17 * k := by
  induction k with
  | zero => simp [fstW]
  | succ k ih => have := cntW_le (N := N) h k; simp only [fstW]; omega
def rowW (R N i : Nat) : List Int := [(fstW R N i : Int), (cntW R N i : Int)]
def rowsW (R N : Nat) : List (List Int) := (List.range N).map (rowW R N)
def vWorkerRows (r n : Int) : Bool × List (List Int) := if okWR r n = true then (true, rowsW r.toNat n.toNat) else (false, [])
theorem wf_small {x : Nat} (h : x ≤ 1000000) : (Lit.int .i64 (x : Int)).wf = true := by
  simp [Lit.wf, IntKind.min, IntKind.max, IntKind.signed, IntKind.bits]
  omega
theorem rowW_wf {R N i : Nat} (h : R ≤ 16) (hi : i ≤ 1000) : ∀ y ∈ rowW R N i, (Lit.int .i64 y).wf = true := by
  intro y hy
  have h1 := fstW_le (N := N) h i
  have h2 := cntW_le (N := N) h i
  simp only [rowW, List.mem_cons, List.not_mem_nil, or_false] at hy
  rcases hy with rfl | rfl
  · exact wf_small (by omega)
  · exact wf_small (by omega)
theorem vWorkerRows_len (r n : Int) : (vWorkerRows r n).2.length + cntZI (vWorkerRows r n).2 ≤ 1048576 := by
  unfold vWorkerRows
  split
  · rename_i h
    obtain ⟨h1, h2, h3, h4, h5⟩ := (okWR_iff r n).1 h
    have : cntZI (rowsW r.toNat n.toNat) = 2 * n.toNat := by
      simp only [cntZI, rowsW, List.map_map, Function.comp_def, rowW, List.length_cons, List.length_nil]
      have : ∀ k : Nat, ((List.range k).map fun _ => 2).sum = 2 * k := by
        intro k
        induction k with
        | zero => rfl
        | succ k ih => rw [List.range_succ, List.map_append, List.sum_append, ih]; simp; omega
      exact this _
    rw [this]
    simp only [rowsW, List.length_map, List.length_range]
    omega
  · simp [cntZI]
theorem vWorkerRows_wf (r n : Int) : wfZ (vWorkerRows r n).2 := by
  unfold vWorkerRows
  split
  · rename_i h
    obtain ⟨h1, h2, h3, h4, h5⟩ := (okWR_iff r n).1 h
    intro z hz
    obtain ⟨i, hi, rfl⟩ := List.mem_map.1 hz
    exact rowW_wf (by omega) (by have := List.mem_range.1 hi; omega)
  · intro z hz; cases hz
theorem quoW {R N : Nat} : ((R : Int).tdiv (N : Int)) = ((R / N : Nat) : Int) := by rw [Int.tdiv_eq_ediv_of_nonneg (by omega)]; exact (Int.natCast_ediv R N).symm
theorem remW {R N : Nat} : ((R : Int).tmod (N : Int)) = ((R % N : Nat) : Int) := by rw [Int.tmod_eq_emod_of_nonneg (by omega)]; exact (Int.natCast_emod R N).symm

theorem c_isSideW (n : Int) (b : Bool) (h : (decide (1 ≤ n) && decide (n ≤ 16)) = b) (w : World) : Calls Try.prog 145 #[.int .i64 n] w fun e w' => e = .returned (.bool b) ∧ w = w' := by
  by_cases h1 : 1 ≤ n
  · by_cases h2 : n ≤ 16
    · obtain rfl : true = b := by rw [← h]; simp [h1, h2]
      clear h
      go_enter Try.func145, Try.ntmps145
      go_wp2
      go_ret
      exact ⟨rfl, rfl⟩
    · obtain rfl : false = b := by rw [← h]; simp [h2]
      clear h
      go_enter Try.func145, Try.ntmps145
      go_wp2
      go_ret
      exact ⟨rfl, rfl⟩
  · obtain rfl : false = b := by rw [← h]; simp [h1]
    clear h
    go_enter Try.func145, Try.ntmps145
    go_wp2
    go_ret
    exact ⟨rfl, rfl⟩
theorem c_canDivide (r n : Int) (w : World) : Calls Try.prog 78 #[.int .i64 r, .int .i64 n] w fun e w' => e = .returned (.bool (okWR r n)) ∧ w = w' := by
  obtain ⟨b, hb⟩ : ∃ b, (decide (1 ≤ r) && decide (r ≤ 16)) = b := ⟨_, rfl⟩
  have HB := Lib.hid hb
  cases b with
  | false =>
    rw [okWR_no (by intro h; simp [h.1, h.2.1] at hb)]
    clear hb
    go_enter Try.func78, Try.ntmps78
    go_wp2_with fail
    refine (c_isSideW r false HB.out _).mono ?_
    rintro e w' ⟨rfl, rfl⟩
    go_wp2_with fail
    go_ret
    exact ⟨rfl, rfl⟩
  | true =>
    simp only [Bool.and_eq_true, decide_eq_true_eq] at hb
    by_cases h1 : 1 ≤ n
    · by_cases h8 : r ≤ 8
      · rw [show okWR r n = decide (n ≤ r) by
          by_cases h2 : n ≤ r
          · rw [(okWR_iff r n).2 ⟨hb.1, hb.2, h1, h2, by omega⟩]; simp [h2]
          · rw [okWR_no (by omega)]; simp [h2]]
        go_enter Try.func78, Try.ntmps78
        go_wp2_with fail
        refine (c_isSideW r true HB.out _).mono ?_
        rintro e w' ⟨rfl, rfl⟩
        go_wp2_with fail
        all_goals first | (exfalso; omega) | skip
        go_ret
        exact ⟨rfl, rfl⟩
      · rw [show okWR r n = decide (n ≤ 8) by
          by_cases h2 : n ≤ 8
          · rw [(okWR_iff r n).2 ⟨hb.1, hb.2, h1, by omega, h2⟩]; simp [h2]
          · rw [okWR_no (by omega)]; simp [h2]]
        go_enter Try.func78, Try.ntmps78
        go_wp2_with fail
        refine (c_isSideW r true HB.out _).mono ?_
        rintro e w' ⟨rfl, rfl⟩
        go_wp2_with fail
        all_goals first | (exfalso; omega) | skip
        go_ret
        exact ⟨rfl, rfl⟩
    · rw [okWR_no (by omega)]
      go_enter Try.func78, Try.ntmps78
      go_wp2_with fail
      refine (c_isSideW r true HB.out _).mono ?_
      rintro e w' ⟨rfl, rfl⟩
      go_wp2_with fail
      go_ret
      exact ⟨rfl, rfl⟩
theorem c_l00MinW (a b : Int) (w : World) : Calls Try.prog 144 #[.int .i64 a, .int .i64 b] w fun e w' => e = .returned (.int .i64 (min a b)) ∧ w = w' := by
  by_cases h : a < b
  · rw [show min a b = a by omega]
    go_enter Try.func144, Try.ntmps144
    go_wp2
    go_ret
    exact ⟨rfl, rfl⟩
  · rw [show min a b = b by omega]
    go_enter Try.func144, Try.ntmps144
    go_wp2
    go_ret
    exact ⟨rfl, rfl⟩
theorem c_l10Workers (r n : Int) (w : World) : Calls Try.prog 76 #[.int .i64 r, .int .i64 n] w fun e w' => e = .returned (.bool (okWR r n)) ∧ w = w' := by
  unfold okWR
  obtain ⟨b, hb⟩ : ∃ b, (decide (1 ≤ r) && decide (r ≤ 16)) = b := ⟨_, rfl⟩
  have HB := Lib.hid hb
  rw [hb]
  clear hb
  cases b with
  | false =>
    go_enter Try.func76, Try.ntmps76
    go_wp2_with fail
    refine (c_l00In r 1 16 false HB.out _).mono ?_
    rintro e w' ⟨rfl, rfl⟩
    go_wp2_with fail
    go_ret
    exact ⟨rfl, rfl⟩
  | true =>
    obtain ⟨m, hm⟩ : ∃ m, min r 8 = m := ⟨_, rfl⟩
    have HM := Lib.hid hm
    rw [hm]
    clear hm
    go_enter Try.func76, Try.ntmps76
    go_wp2_with fail
    refine (c_l00In r 1 16 true HB.out _).mono ?_
    rintro e w' ⟨rfl, rfl⟩
    go_wp2_with fail
    refine (c_l00MinW r 8 _).mono ?_
    rintro e w' ⟨rfl, rfl⟩
    rw [HM.out]
    go_wp2_with fail
    refine (c_l00In n 1 m _ rfl _).mono ?_
    rintro e w' ⟨rfl, rfl⟩
    go_wp2_with fail
    go_ret
    exact ⟨by simp, rfl⟩
end Go.Proofs.Ytaipegkkpkagnaa
