/-
  RecoverJournal: its values. Conditions: none.
-/
import Derived.Test.YtokminhnkmhneaaDoorJnl
import Derived.Test.YtokminhnkmhneaaDoorPrt
import Derived.Test.YtokminhnkmhneaaDoorRdn
namespace Go.Proofs.YtokminhnkmhneaaDoor
open Go.RowKit Go.Deep Go.WideShapes Go.ChangeShapes
set_option linter.unusedVariables false
set_option linter.unusedSimpArgs false

/-- what stands behind the first space -/
def bodyL (l : List UInt8) : List UInt8 := (Lib.cut l [32]).2.1
def goodL (c : Int) (l : List UInt8) : Bool := decide (l ++ [10] = jline c (bodyL l))
/-- the lines of the longest journal at the beginning of some lines, and its length -/
def recL : Int → List (List UInt8) → List (List UInt8) × Nat
  | _, [] => ([], 0)
  | c, l :: r => if goodL c l = true then (bodyL l :: (recL (chk c (bodyL l)) r).1, l.length + 1 + (recL (chk c (bodyL l)) r).2) else ([], 0)
def recT (c : Int) (t : List UInt8) : List (List UInt8) × Nat := recL c (parts 10 t).dropLast
def vRec (t : List UInt8) : List (List UInt8) × Nat × Bool := if t.length ≤ 8000 then ((recT 0 t).1, (recT 0 t).2, true) else ([], 0, false)
theorem recL_yes {c : Int} {l : List UInt8} (r : List (List UInt8)) (h : goodL c l = true) : recL c (l :: r) = (bodyL l :: (recL (chk c (bodyL l)) r).1, l.length + 1 + (recL (chk c (bodyL l)) r).2) := by rw [recL, if_pos h]
theorem recL_no {c : Int} {l : List UInt8} (r : List (List UInt8)) (h : goodL c l = false) : recL c (l :: r) = ([], 0) := by rw [recL, h]; rfl
theorem bodyL_at {a b : List UInt8} (h : (32 : UInt8) ∉ a) : bodyL (a ++ 32 :: b) = b := by unfold bodyL; rw [cutL_at b h]
theorem bodyL_none {l : List UInt8} (h : (32 : UInt8) ∉ l) : bodyL l = [] := by unfold bodyL; rw [cutL_none h]
theorem bodyL_mem {l : List UInt8} {x : UInt8} (h : x ∈ bodyL l) : x ∈ l := by
  by_cases hs : (32 : UInt8) ∈ l
  · obtain ⟨a, b, rfl, ha⟩ := first_of hs
    rw [bodyL_at ha] at h
    exact List.mem_append_right _ (List.mem_cons_of_mem _ h)
  · rw [bodyL_none hs] at h
    cases h
theorem itoa_no (n : Int) {m : UInt8} (h1 : isDig m = false) (h2 : m ≠ 45) : m ∉ Lib.itoa n := by
  rw [itoa_of]
  intro h
  split at h
  · rcases List.mem_cons.1 h with rfl | h
    · exact h2 rfl
    · rw [dec_digits _ m h] at h1
      cases h1
  · rw [dec_digits _ m h] at h1
    cases h1
/-- a line is good if the right number stands before its first space -/
theorem goodL_at {c : Int} {a b : List UInt8} (h : (32 : UInt8) ∉ a) : goodL c (a ++ 32 :: b) = decide (a = Lib.itoa (chk c b)) := by
  unfold goodL
  rw [bodyL_at h]
  unfold jline
  congr 1
  apply propext
  constructor
  · intro e
    have e1 : a ++ 32 :: (b ++ [10]) = Lib.itoa (chk c b) ++ 32 :: (b ++ [10]) := by simpa using e
    exact (first_split e1 h (itoa_no _ (by decide) (by decide))).1
  · intro e
    rw [← e]
    simp
theorem goodL_none {c : Int} {l : List UInt8} (h : (32 : UInt8) ∉ l) : goodL c l = false := by
  unfold goodL
  rw [bodyL_none h]
  apply decide_eq_false
  intro e
  have hm : (32 : UInt8) ∈ l ++ [10] := by rw [e]; unfold jline; simp
  rcases List.mem_append.1 hm with hm | hm
  · exact h hm
  · exact absurd (List.mem_singleton.1 hm) (by decide)
theorem jline_split (c : Int) (b : List UInt8) : jline c b = (Lib.itoa (chk c b) ++ 32 :: b) ++ [10] := by unfold jline; simp
theorem recT_at {c : Int} {l r : List UInt8} (h : (10 : UInt8) ∉ l) : recT c (l ++ 10 :: r) = recL c (l :: (parts 10 r).dropLast) := by
  unfold recT
  rw [parts_split r h]
  congr 1
  cases hp : parts 10 r with
  | nil => exact absurd hp (parts_ne _ _)
  | cons x y => rfl
/-- the first line of a text -/
def headL (t : List UInt8) : List UInt8 := (Lib.cut t [10]).1
theorem pre_good {c : Int} {l r : List UInt8} (h : (10 : UInt8) ∉ l) : Lib.hasPrefix (l ++ 10 :: r) (jline c (bodyL l)) = goodL c l := by
  have hx : (10 : UInt8) ∉ Lib.itoa (chk c (bodyL l)) ++ 32 :: bodyL l := by
    intro hm
    rcases List.mem_append.1 hm with hm | hm
    · exact itoa_no _ (by decide) (by decide) hm
    · rcases List.mem_cons.1 hm with hm | hm
      · exact absurd hm (by decide)
      · exact h (bodyL_mem hm)
  unfold goodL
  rw [Bool.eq_iff_iff, decide_eq_true_eq]
  unfold Lib.hasPrefix
  rw [List.isPrefixOf_iff_prefix, jline_split]
  constructor
  · rintro ⟨s, hs⟩
    have e : (Lib.itoa (chk c (bodyL l)) ++ 32 :: bodyL l) ++ 10 :: s = l ++ 10 :: r := by rw [← hs]; simp
    exact congrArg (· ++ [10]) (first_split e hx h).1.symm
  · intro e
    refine ⟨r, ?_⟩
    rw [← e]
    simp
theorem recT_yes {c : Int} {t : List UInt8} (h : Lib.hasPrefix t (jline c (bodyL (headL t))) = true) :
    recT c t = (bodyL (headL t) :: (recT (chk c (bodyL (headL t))) (t.drop (jline c (bodyL (headL t))).length)).1, (jline c (bodyL (headL t))).length + (recT (chk c (bodyL (headL t))) (t.drop (jline c (bodyL (headL t))).length)).2) := by
  by_cases hm : (10 : UInt8) ∈ t
  · obtain ⟨l, r, rfl, hl⟩ := first_of hm
    have hh : headL (l ++ 10 :: r) = l := by unfold headL; rw [cutL_at r hl]
    rw [hh] at h ⊢
    rw [pre_good hl] at h
    have hj : jline c (bodyL l) = l ++ [10] := by unfold goodL at h; exact (of_decide_eq_true h).symm
    rw [recT_at hl, recL_yes _ h, hj]
    have hd : (l ++ 10 :: r).drop (l ++ [10]).length = r := by
      rw [show l ++ 10 :: r = (l ++ [10]) ++ r by simp]
      exact List.drop_left' rfl
    rw [hd, List.length_append]
    rfl
  · exfalso
    unfold Lib.hasPrefix at h
    rw [List.isPrefixOf_iff_prefix] at h
    apply hm
    refine h.subset ?_
    unfold jline
    simp
theorem recT_no {c : Int} {t : List UInt8} (h : Lib.hasPrefix t (jline c (bodyL (headL t))) = false) : recT c t = ([], 0) := by
  by_cases hm : (10 : UInt8) ∈ t
  · obtain ⟨l, r, rfl, hl⟩ := first_of hm
    have hh : headL (l ++ 10 :: r) = l := by unfold headL; rw [cutL_at r hl]
    rw [hh, pre_good hl] at h
    rw [recT_at hl, recL_no _ h]
  · unfold recT
    rw [parts_none hm]
    rfl
/-- there are no more lines, nor is the journal longer, than the text -/
theorem pre_len {t p : List UInt8} (h : Lib.hasPrefix t p = true) : p.length ≤ t.length := by
  unfold Lib.hasPrefix at h
  rw [List.isPrefixOf_iff_prefix] at h
  exact h.length_le
end Go.Proofs.YtokminhnkmhneaaDoor
