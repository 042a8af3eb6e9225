/-
  Shapes of a tape as the model lists them: rows of tensors without numbers; when an operation has a shape. Conditions: none.
-/
import Derived.Test.YtdgoladbkaldkaaTps2
import Derived.Test.YtdgoladbkaldkaaTpq
namespace Go.Proofs.Ytdgoladbkaldkaa
open Go.RowKit Go.Deep Go.WideShapes Go.ChangeShapes
set_option linter.unusedVariables false
set_option linter.unusedSimpArgs false

def fl3 (l : List (Int × Int)) : List Value := l.flatMap fun (s : Int × Int) => [Value.int .i64 s.1, .int .i64 s.2, .slice none 0 0]
theorem fl3_snoc (l : List (Int × Int)) (s : Int × Int) : fl3 (l ++ [s]) = fl3 l ++ [.int .i64 s.1, .int .i64 s.2, .slice none 0 0] := by
  simp [fl3, List.flatMap_append]
theorem fl3_length (l : List (Int × Int)) : (fl3 l).length = l.length * 3 := by
  induction l with
  | nil => rfl
  | cons a l ih => rw [fl3, List.flatMap_cons, List.length_append, ← fl3, ih]; simp; omega
theorem fl3_get (l : List (Int × Int)) (j : Nat) (hj : j < l.length) : (fl3 l)[j * 3]? = some (.int .i64 (l.getD j (0, 0)).1) ∧ (fl3 l)[j * 3 + 1]? = some (.int .i64 (l.getD j (0, 0)).2) ∧ (fl3 l)[j * 3 + 2]? = some (.slice none 0 0) := by
  induction l generalizing j with
  | nil => cases hj
  | cons a l ih =>
    cases j with
    | zero => exact ⟨rfl, rfl, rfl⟩
    | succ j =>
      have h := ih j (by simpa using hj)
      have e : fl3 (a :: l) = .int .i64 a.1 :: .int .i64 a.2 :: .slice none 0 0 :: fl3 l := rfl
      rw [e, show (j + 1) * 3 = j * 3 + 1 + 1 + 1 by omega]
      simpa using h
theorem op_none {p : TpP} {l : List (Int × Int)} (h : (othersZ p.kd p.xa p.xb p.nu p.rw p.cl p.zd.length && (opsOf p.kd p.xa p.xb).all (behind l.length)) = false) : opShape p l = none := by
  rw [opShape, h]; rfl
theorem op_some {p : TpP} {l : List (Int × Int)} (h : (othersZ p.kd p.xa p.xb p.nu p.rw p.cl p.zd.length && (opsOf p.kd p.xa p.xb).all (behind l.length)) = true) :
    opShape p l = if (shapeA p.kd p.rw p.cl p.zd.length (l.getD p.xa.toNat (0, 0)) (l.getD p.xb.toNat (0, 0))).2 = true then some (shapeA p.kd p.rw p.cl p.zd.length (l.getD p.xa.toNat (0, 0)) (l.getD p.xb.toNat (0, 0))).1 else none := by
  rw [opShape, h]; rfl
theorem op_out {p : TpP} {l : List (Int × Int)} (h : (decide (0 ≤ p.kd) && decide (p.kd ≤ 10)) = false) : opShape p l = none := by
  cases hb : (othersZ p.kd p.xa p.xb p.nu p.rw p.cl p.zd.length && (opsOf p.kd p.xa p.xb).all (behind l.length)) with
  | false => exact op_none hb
  | true =>
    have hk : ¬ (0 ≤ p.kd ∧ p.kd ≤ 10) := fun ⟨a, b⟩ => by rw [decide_eq_true a, decide_eq_true b] at h; cases h
    have e : shapeA p.kd p.rw p.cl p.zd.length (l.getD p.xa.toNat (0, 0)) (l.getD p.xb.toNat (0, 0)) = ((0, 0), false) := by
      unfold shapeA
      rw [if_neg (by omega), if_neg (by omega), if_neg (by omega), if_neg (by omega), if_neg (by omega), if_neg (by omega), if_neg (by omega)]
    rw [op_some hb, e]; rfl
theorem op_number {p : TpP} {l : List (Int × Int)} (h5 : ¬ p.kd = 5) (hn : ¬ p.nu = 0) : opShape p l = none := op_none (by simp [othersZ, h5, hn])
/-- an operation that brings its value -/
theorem op_input {p : TpP} {l : List (Int × Int)} (h : p.kd = 0) (hn : p.nu = 0) : opShape p l = if (decide (p.xa = 0) && (decide (p.xb = 0) && vokB p.rw p.cl p.zd.length)) = true then some (p.rw, p.cl) else none := by
  by_cases ha : p.xa = 0
  case neg => rw [op_none (by simp [othersZ, h, ha])]; simp [ha]
  case pos =>
  by_cases hb : p.xb = 0
  case neg => rw [op_none (by simp [othersZ, h, hb, tTwo])]; simp [hb]
  case pos =>
  rw [op_some (by simp [othersZ, opsOf, h, ha, hb, hn])]
  simp [shapeA, h, ha, hb]
theorem op_val {p : TpP} {l : List (Int × Int)} (h : ¬ p.kd = 0) (hz : noneB p.rw p.cl p.zd.length = false) : opShape p l = none := by
  refine op_none ?_
  cases h1 : othersZ p.kd p.xa p.xb p.nu p.rw p.cl p.zd.length with
  | false => rfl
  | true =>
    simp only [othersZ, Bool.and_eq_true, Bool.or_eq_true, decide_eq_true_eq] at h1
    simp only [noneB] at hz
    rcases h1.2.2.2 with h2 | ⟨h2, h3, h4⟩
    · exact absurd h2 h
    · rw [decide_eq_true h2, decide_eq_true h3, decide_eq_true h4] at hz; cases hz
theorem op_a {p : TpP} {l : List (Int × Int)} (h : ¬ p.kd = 0) (ha : ¬ (0 ≤ p.xa ∧ p.xa < (l.length : Int))) : opShape p l = none := by
  refine op_none ?_
  have hb : behind l.length p.xa = false := by
    unfold behind
    cases h1 : decide (0 ≤ p.xa) with
    | false => rfl
    | true => exact decide_eq_false fun h2 => ha ⟨of_decide_eq_true h1, h2⟩
  cases h2 : tTwo p.kd <;> simp [opsOf, h, h2, hb]
theorem op_b {p : TpP} {l : List (Int × Int)} (h : ¬ p.kd = 0) (h2 : tTwo p.kd = true) (ha : ¬ (0 ≤ p.xb ∧ p.xb < (l.length : Int))) : opShape p l = none := by
  refine op_none ?_
  have hb : behind l.length p.xb = false := by
    unfold behind
    cases h1 : decide (0 ≤ p.xb) with
    | false => rfl
    | true => exact decide_eq_false fun h2 => ha ⟨of_decide_eq_true h1, h2⟩
  simp [opsOf, h, h2, hb]
theorem op_b0 {p : TpP} {l : List (Int × Int)} (h2 : tTwo p.kd = false) (hb : ¬ p.xb = 0) : opShape p l = none := op_none (by simp [othersZ, h2, hb])
theorem op_goes {p : TpP} {l : List (Int × Int)} (h : ¬ p.kd = 0) (hn : p.kd = 5 ∨ p.nu = 0) (hz : noneB p.rw p.cl p.zd.length = true) (ha : 0 ≤ p.xa ∧ p.xa < (l.length : Int)) (hb : if tTwo p.kd = true then 0 ≤ p.xb ∧ p.xb < (l.length : Int) else p.xb = 0) :
    opShape p l = if (shapeA p.kd p.rw p.cl p.zd.length (l.getD p.xa.toNat (0, 0)) (l.getD p.xb.toNat (0, 0))).2 = true then some (shapeA p.kd p.rw p.cl p.zd.length (l.getD p.xa.toNat (0, 0)) (l.getD p.xb.toNat (0, 0))).1 else none := by
  refine op_some ?_
  simp only [noneB, Bool.and_eq_true, decide_eq_true_eq] at hz
  have hn' : (decide (p.kd = 5) || decide (p.nu = 0)) = true := by rcases hn with h | h <;> simp [h]
  cases h2 : tTwo p.kd with
  | true =>
    rw [if_pos h2] at hb
    simp [othersZ, opsOf, h, h2, hz, ha, hb, behind, hn]
  | false =>
    rw [if_neg (by simp [h2])] at hb
    simp [othersZ, opsOf, h, h2, hz, ha, hb, behind, hn]
end Go.Proofs.Ytdgoladbkaldkaa
