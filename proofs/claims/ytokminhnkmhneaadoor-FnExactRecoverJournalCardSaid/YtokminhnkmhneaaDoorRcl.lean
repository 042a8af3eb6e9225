/-
  RecoverJournal: how long what it answers is. Conditions: none.
-/
import Derived.Test.YtokminhnkmhneaaDoorRcm
import Derived.Test.YtokminhnkmhneaaDoorMks
namespace Go.Proofs.YtokminhnkmhneaaDoor
open Go.RowKit Go.Deep Go.WideShapes Go.ChangeShapes
set_option linter.unusedVariables false
set_option linter.unusedSimpArgs false

theorem recL_few : ∀ (ps : List (List UInt8)) (c : Int), (recL c ps).1.length ≤ ps.length
  | [], _ => Nat.le_refl _
  | l :: r, c => by
    cases h : goodL c l with
    | true =>
      rw [recL_yes r h, List.length_cons, List.length_cons]
      exact Nat.succ_le_succ (recL_few r _)
    | false =>
      rw [recL_no r h]
      exact Nat.zero_le _
theorem recL_small (M : Nat) : ∀ (ps : List (List UInt8)) (c : Int), (∀ p ∈ ps, p.length ≤ M) → ∀ l ∈ (recL c ps).1, l.length ≤ M
  | [], _, _, l, h => by cases h
  | p :: r, c, hp, l, h => by
    cases hg : goodL c p with
    | true =>
      rw [recL_yes r hg] at h
      rcases List.mem_cons.1 h with rfl | h
      · exact Nat.le_trans (bodyL_len p) (hp p (List.mem_cons_self ..))
      · exact recL_small M r _ (fun q hq => hp q (List.mem_cons_of_mem _ hq)) l h
    | false =>
      rw [recL_no r hg] at h
      cases h
theorem vRec_len (t : List UInt8) : (vRec t).1.length ≤ 8000 := by
  unfold vRec
  split
  · rename_i h
    show (recT 0 t).1.length ≤ 8000
    have h1 := recL_few (parts 10 t).dropLast 0
    have h2 := parts_count 10 t
    rw [List.length_dropLast] at h1
    unfold recT
    omega
  · exact Nat.zero_le _
theorem vRec_small (t : List UInt8) : ∀ l ∈ (vRec t).1, l.length ≤ maxLen := by
  unfold vRec
  split
  · rename_i h
    intro l hl
    have h1 := recL_small 8000 (parts 10 t).dropLast 0 (fun p hp => by have := parts_sizes ((List.dropLast_sublist _).subset hp); omega) l hl
    unfold maxLen
    omega
  · intro l hl
    cases hl
theorem marksT_small (k n : Nat) (h : k + n ≤ 10000000) : ∀ l ∈ marksT k n, l.length ≤ maxLen := by
  intro l hl
  obtain ⟨i, hi, rfl⟩ := List.mem_map.1 hl
  have hi := List.mem_range.1 hi
  have := mkT_len (k := k + i) (by omega)
  unfold maxLen
  omega
theorem OwnS.marksAt {w : World} {B : Nat} {a : Option Addr} {cap k n : Nat} (h : OwnS w B a cap (marksT k n)) (hk : k + n ≤ 10000000) : IsStrs w a n cap ((marksT k n).map strB) := by
  have := h.isStrs (marksT_small k n hk)
  rw [marksT_length] at this
  exact this
end Go.Proofs.YtokminhnkmhneaaDoor
