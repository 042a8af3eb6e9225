/-
  The shapes of a tape, in values and in the cells of the program's list of them. Conditions: none.
-/
import Derived.Test.YtdgoladbkaldkaaTpa
namespace Go.Proofs.Ytdgoladbkaldkaa
open Go.RowKit Go.Deep Go.WideShapes Go.ChangeShapes
set_option linter.unusedVariables false
set_option linter.unusedSimpArgs false

def behind (n : Nat) (x : Int) : Bool := decide (0 ≤ x) && decide (x < (n : Int))
/-- the shape behind an operation, where the ones before it have the shapes l -/
def opShape (p : TpP) (l : List (Int × Int)) : Option (Int × Int) :=
  if (othersZ p.kd p.xa p.xb p.nu p.rw p.cl p.zd.length && (opsOf p.kd p.xa p.xb).all (behind l.length)) = true then
    (if (shapeA p.kd p.rw p.cl p.zd.length (l.getD p.xa.toNat (0, 0)) (l.getD p.xb.toNat (0, 0))).2 = true then some (shapeA p.kd p.rw p.cl p.zd.length (l.getD p.xa.toNat (0, 0)) (l.getD p.xb.toNat (0, 0))).1 else none) else none
def shUp (ps : List TpP) : Nat → Option (List (Int × Int))
  | 0 => some []
  | k + 1 => match shUp ps k with
    | some l => match ps[k]? with
      | some p => match opShape p l with
        | some s => some (l ++ [s])
        | none => none
      | none => none
    | none => none
def vShapes (ps : List TpP) : Option (List (Int × Int)) := if (decide (1 ≤ ps.length) && decide (ps.length ≤ 48)) = true then shUp ps ps.length else none
theorem shUp_len {ps : List TpP} : ∀ {k : Nat} {l : List (Int × Int)}, shUp ps k = some l → l.length = k
  | 0, l, h => by simp only [shUp, Option.some.injEq] at h; subst h; rfl
  | k + 1, l, h => by
    simp only [shUp] at h
    split at h
    · rename_i l' e
      split at h
      · split at h
        · cases h; rw [List.length_append, shUp_len e]; rfl
        · cases h
      · cases h
    · cases h
theorem shUp_next {ps : List TpP} {k : Nat} {l : List (Int × Int)} {p : TpP} {s : Int × Int} (h : shUp ps k = some l) (hp : ps[k]? = some p) (hs : opShape p l = some s) : shUp ps (k + 1) = some (l ++ [s]) := by simp only [shUp, h, hp, hs]
theorem shUp_stop {ps : List TpP} {k : Nat} {l : List (Int × Int)} {p : TpP} (h : shUp ps k = some l) (hp : ps[k]? = some p) (hs : opShape p l = none) : shUp ps (k + 1) = none := by simp only [shUp, h, hp, hs]
theorem shUp_none {ps : List TpP} {k : Nat} (h : shUp ps k = none) : ∀ n, k ≤ n → shUp ps n = none := by
  intro n
  induction n with
  | zero => intro hk; obtain rfl : k = 0 := by omega
            exact h
  | succ n ih =>
    intro hk
    by_cases e : k = n + 1
    · rw [← e]; exact h
    · simp only [shUp, ih (by omega)]
/-- which cells an operation names: they are there -/
theorem op_range {p : TpP} {k n : Nat} (hk : k < n) (h : (othersZ p.kd p.xa p.xb p.nu p.rw p.cl p.zd.length && (opsOf p.kd p.xa p.xb).all (behind k)) = true) : (0 ≤ p.xa ∧ p.xa < (n : Int)) ∧ (0 ≤ p.xb ∧ p.xb < (n : Int)) := by
  simp only [othersZ, Bool.and_eq_true, Bool.or_eq_true, decide_eq_true_eq] at h
  obtain ⟨⟨h1, h2, _, _⟩, h5⟩ := h
  unfold opsOf at h5
  by_cases h0 : p.kd = 0
  · rw [if_pos h0] at h5
    have ht : tTwo p.kd = false := by rw [h0]; rfl
    rcases h1 with h1 | h1
    · exact absurd h0 h1
    rcases h2 with h2 | h2
    · rw [ht] at h2; cases h2
    omega
  · rw [if_neg h0] at h5
    cases ht : tTwo p.kd with
    | true =>
      rw [if_pos ht] at h5
      simp only [List.all_cons, List.all_nil, behind, Bool.and_eq_true, decide_eq_true_eq, and_true] at h5
      omega
    | false =>
      rw [if_neg (by rw [ht]; decide)] at h5
      simp only [List.all_cons, List.all_nil, behind, Bool.and_eq_true, decide_eq_true_eq, and_true] at h5
      rcases h2 with h2 | h2
      · rw [ht] at h2; cases h2
      omega
def fl2 (l : List (Int × Int)) : List Value := l.flatMap fun (s : Int × Int) => [Value.int .i64 s.1, .int .i64 s.2]
theorem fl2_cons (x : Int × Int) (l : List (Int × Int)) : fl2 (x :: l) = .int .i64 x.1 :: .int .i64 x.2 :: fl2 l := rfl
/-- the cells of a list of n shapes, of which l are known -/
def shV (l : List (Int × Int)) (n : Nat) : List Value := fl2 (l ++ List.replicate (n - l.length) (0, 0))
theorem flat2_get (l : List (Int × Int)) (j : Nat) (s : Int × Int) (h : l[j]? = some s) : (fl2 l)[j * 2]? = some (.int .i64 s.1) ∧ (fl2 l)[j * 2 + 1]? = some (.int .i64 s.2) := by
  induction l generalizing j with
  | nil => simp at h
  | cons x xs ih =>
    cases j with
    | zero => simp only [List.getElem?_cons_zero, Option.some.injEq] at h; subst h; exact ⟨rfl, rfl⟩
    | succ j =>
      simp only [List.getElem?_cons_succ] at h
      obtain ⟨h1, h2⟩ := ih j h
      rw [fl2_cons, show (j + 1) * 2 = j * 2 + 1 + 1 by omega]
      exact ⟨h1, h2⟩
theorem shV_get {l : List (Int × Int)} {n j : Nat} (hl : l.length ≤ n) (hj : j < n) : (shV l n)[j * 2]? = some (.int .i64 (l.getD j (0, 0)).1) ∧ (shV l n)[j * 2 + 1]? = some (.int .i64 (l.getD j (0, 0)).2) := by
  refine flat2_get _ j (l.getD j (0, 0)) ?_
  by_cases h : j < l.length
  · rw [List.getElem?_append_left h, List.getElem?_eq_getElem h]
    simp [List.getD, h]
  · rw [List.getElem?_append_right (by omega), List.getElem?_replicate, if_pos (by omega)]
    simp [List.getD, List.getElem?_eq_none (show l.length ≤ j by omega)]
theorem flat2_set (a b : List (Int × Int)) (x s : Int × Int) : ((fl2 (a ++ x :: b)).set (a.length * 2) (.int .i64 s.1)).set (a.length * 2 + 1) (.int .i64 s.2) = fl2 (a ++ s :: b) := by
  induction a with
  | nil => rfl
  | cons y ys ih =>
    rw [List.cons_append, List.cons_append, fl2_cons, fl2_cons, List.length_cons, show (ys.length + 1) * 2 = ys.length * 2 + 1 + 1 by omega]
    simp only [List.set_cons_succ]
    rw [ih]
theorem shV_set {l : List (Int × Int)} {n : Nat} (h : l.length < n) (s : Int × Int) : ((shV l n).set (l.length * 2) (.int .i64 s.1)).set (l.length * 2 + 1) (.int .i64 s.2) = shV (l ++ [s]) n := by
  unfold shV
  obtain ⟨m, hm⟩ : ∃ m, n - l.length = m + 1 := ⟨n - l.length - 1, by omega⟩
  rw [hm, List.replicate_succ, flat2_set, List.length_append, List.length_singleton, show n - (l.length + 1) = m by omega, List.append_assoc]
  rfl
end Go.Proofs.Ytdgoladbkaldkaa
