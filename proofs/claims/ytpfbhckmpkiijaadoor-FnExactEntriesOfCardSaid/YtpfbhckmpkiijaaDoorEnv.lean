/-
  The entries of an archive, in values: four bytes tell how long an entry is, at most eight entries. Conditions: none.
-/
import Derived.Test.YtpfbhckmpkiijaaDoorRbv
import Derived.Test.YtpfbhckmpkiijaaDoorCta
namespace Go.Proofs.YtpfbhckmpkiijaaDoor
open Go.RowKit Go.Deep Go.WideShapes Go.ChangeShapes
set_option linter.unusedVariables false
set_option linter.unusedSimpArgs false

/-- is there a whole entry at the head -/
def entOk (l : List UInt8) : Bool := decide (4 ≤ l.length) && (decide (leN (l.take 4) ≤ 20000) && decide (4 + leN (l.take 4) ≤ l.length))
def entHead (l : List UInt8) : List UInt8 := (l.drop 4).take (leN (l.take 4))
def entRest (l : List UInt8) : List UInt8 := (l.drop 4).drop (leN (l.take 4))
def entL : Nat → List UInt8 → List (List UInt8)
  | 0, _ => []
  | k + 1, l => if entOk l = true then entHead l :: entL k (entRest l) else []
theorem entL_yes {l : List UInt8} (k : Nat) (h : entOk l = true) : entL (k + 1) l = entHead l :: entL k (entRest l) := by simp [entL, h]
theorem entL_no {l : List UInt8} (k : Nat) (h : entOk l = false) : entL k l = [] := by cases k <;> simp [entL, h]
theorem entOk_iff {l : List UInt8} : entOk l = true ↔ 4 ≤ l.length ∧ leN (l.take 4) ≤ 20000 ∧ 4 + leN (l.take 4) ≤ l.length := by simp [entOk]
theorem entHead_len {l : List UInt8} (h : entOk l = true) : (entHead l).length = leN (l.take 4) := by
  obtain ⟨_, _, h3⟩ := entOk_iff.1 h
  unfold entHead
  rw [List.length_take, List.length_drop]
  omega
theorem entL_len : ∀ (k : Nat) (l : List UInt8), (entL k l).length ≤ k
  | 0, _ => by simp [entL]
  | k + 1, l => by
    unfold entL
    split
    · have := entL_len k (entRest l)
      simp only [List.length_cons]
      omega
    · simp
theorem entL_small : ∀ (k : Nat) (l : List UInt8), ∀ t ∈ entL k l, t.length ≤ 20000
  | 0, _ => by simp [entL]
  | k + 1, l => by
    intro t ht
    unfold entL at ht
    split at ht
    · rename_i h
      rcases List.mem_cons.1 ht with rfl | ht
      · rw [entHead_len h]
        exact (entOk_iff.1 h).2.1
      · exact entL_small k (entRest l) t ht
    · cases ht
theorem entRest_len (l : List UInt8) : (entRest l).length ≤ l.length := by
  unfold entRest
  rw [List.length_drop, List.length_drop]
  omega
def vEntriesOf (l : List UInt8) : Bool × List (List UInt8) := if l.length ≤ 160032 then (true, entL 8 l) else (false, [])
theorem vEntriesOf_len (l : List UInt8) : (vEntriesOf l).2.length ≤ 8 := by
  unfold vEntriesOf
  split
  · exact entL_len 8 l
  · simp
theorem vEntriesOf_small (l : List UInt8) : ∀ t ∈ (vEntriesOf l).2, t.length ≤ 20000 := by
  unfold vEntriesOf
  split
  · exact entL_small 8 l
  · intro t h; cases h
/-- so many entries are taken, and so many bytes are left -/
def EntAt (l : List UInt8) (k : Nat) (acc : List (List UInt8)) (rest : List UInt8) : Prop := k ≤ 8 ∧ acc.length = k ∧ acc ++ entL (8 - k) rest = entL 8 l ∧ (∃ p, p ≤ l.length ∧ rest = l.drop p)
theorem EntAt.start (l : List UInt8) : EntAt l 0 [] l := ⟨by omega, rfl, rfl, 0, by omega, rfl⟩
theorem EntAt.next {l : List UInt8} {k : Nat} {acc : List (List UInt8)} {rest : List UInt8} (h : EntAt l k acc rest) (hk : k < 8) (hr : entOk rest = true) : EntAt l (k + 1) (acc ++ [entHead rest]) (entRest rest) := by
  obtain ⟨h1, h2, h3, p, hp, rfl⟩ := h
  obtain ⟨g1, g2, g3⟩ := entOk_iff.1 hr
  refine ⟨hk, by simp [h2], ?_, p + 4 + leN ((l.drop p).take 4), ?_, ?_⟩
  · rw [← h3, show 8 - k = (8 - (k + 1)) + 1 by omega, entL_yes _ hr, List.append_assoc]
    rfl
  · rw [List.length_drop] at g3
    omega
  · unfold entRest
    rw [List.drop_drop, List.drop_drop]
    congr 1
    omega
theorem EntAt.all {l : List UInt8} {acc : List (List UInt8)} {rest : List UInt8} (h : EntAt l 8 acc rest) : acc = entL 8 l := by
  have := h.2.2.1
  simpa [entL] using this
theorem EntAt.stop {l : List UInt8} {k : Nat} {acc : List (List UInt8)} {rest : List UInt8} (h : EntAt l k acc rest) (hr : entOk rest = false) : acc = entL 8 l := by
  have := h.2.2.1
  rw [entL_no _ hr] at this
  simpa using this
end Go.Proofs.YtpfbhckmpkiijaaDoor
