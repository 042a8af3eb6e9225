/-
  The parts of a text between marks. Conditions: none.
-/
import Derived.Lib.IndexMore
import Derived.Lib.IndexLaws
import Derived.Lib.IndexBytes
import Derived.Test.YtpfbhckmpkiijaaDoorRows
namespace Go.Proofs.YtpfbhckmpkiijaaDoor
open Go

/-- the parts of a text between marks -/
def parts (m : UInt8) : List UInt8 → List (List UInt8)
  | [] => [[]]
  | c :: r => if c = m then [] :: parts m r else match parts m r with
    | [] => [[c]]
    | x :: xs => (c :: x) :: xs
theorem parts_ne (m : UInt8) (l : List UInt8) : parts m l ≠ [] := by
  cases l with
  | nil => simp [parts]
  | cons c r =>
    rw [parts]
    split
    · simp
    · split <;> simp
theorem parts_len (m : UInt8) (l : List UInt8) : 1 ≤ (parts m l).length := by
  have := parts_ne m l
  cases h : parts m l with
  | nil => exact absurd h this
  | cons x xs => simp
/-- all parts but the last one, and the last one -/
def pPre (m : UInt8) (l : List UInt8) : List (List UInt8) := (parts m l).dropLast
def pCur (m : UInt8) (l : List UInt8) : List UInt8 := (parts m l).getLastD []
theorem parts_eq (m : UInt8) (l : List UInt8) : parts m l = pPre m l ++ [pCur m l] := by
  unfold pPre pCur
  have h := parts_ne m l
  rw [List.getLastD_eq_getLast?, List.getLast?_eq_some_getLast h]
  exact (List.dropLast_concat_getLast h).symm
theorem pair_of {a b : List (List UInt8)} {x y : List UInt8} (h : a ++ [x] = b ++ [y]) : a = b ∧ x = y := by
  have := List.append_inj' h rfl
  exact ⟨this.1, by simpa using this.2⟩
theorem parts_cons_mark (m : UInt8) (r : List UInt8) : pPre m (m :: r) = [] :: pPre m r ∧ pCur m (m :: r) = pCur m r := by
  refine pair_of ?_
  rw [← parts_eq, parts, if_pos rfl, parts_eq]
  rfl
theorem parts_cons_other (m c : UInt8) (r : List UInt8) (hc : c ≠ m) : parts m (c :: r) = match parts m r with
    | [] => [[c]]
    | x :: xs => (c :: x) :: xs := by rw [parts, if_neg hc]
theorem parts_snoc_mark (m : UInt8) (l : List UInt8) : parts m (l ++ [m]) = parts m l ++ [[]] := by
  induction l with
  | nil => simp [parts]
  | cons c r ih =>
    rw [List.cons_append, parts, ih, parts]
    split
    · rfl
    · cases h : parts m r with
      | nil => exact absurd h (parts_ne m r)
      | cons x xs => rfl
theorem parts_snoc_other (m c : UInt8) (l : List UInt8) (hc : c ≠ m) : parts m (l ++ [c]) = pPre m l ++ [pCur m l ++ [c]] := by
  induction l with
  | nil => simp [parts, pPre, pCur, hc]
  | cons d r ih =>
    by_cases hd : d = m
    · subst hd
      rw [List.cons_append, parts, if_pos rfl, ih, (parts_cons_mark d r).1, (parts_cons_mark d r).2]
      rfl
    · rw [List.cons_append, parts_cons_other m d _ hd, ih]
      have e := parts_eq m r
      have e2 := parts_cons_other m d r hd
      rw [e] at e2
      cases hp : pPre m r with
      | nil =>
        rw [hp] at e2
        have e3 : pPre m (d :: r) = [] ∧ pCur m (d :: r) = d :: pCur m r := pair_of (by rw [← parts_eq, e2]; rfl)
        rw [e3.1, e3.2]
        rfl
      | cons x xs =>
        rw [hp] at e2
        have e3 : pPre m (d :: r) = (d :: x) :: xs ∧ pCur m (d :: r) = pCur m r := pair_of (by rw [← parts_eq, e2]; rfl)
        rw [e3.1, e3.2]
        rfl
theorem pre_snoc_mark (m : UInt8) (l : List UInt8) : pPre m (l ++ [m]) = pPre m l ++ [pCur m l] ∧ pCur m (l ++ [m]) = [] :=
  pair_of (by rw [← parts_eq, parts_snoc_mark, ← parts_eq])
theorem pre_snoc_other (m c : UInt8) (l : List UInt8) (hc : c ≠ m) : pPre m (l ++ [c]) = pPre m l ∧ pCur m (l ++ [c]) = pCur m l ++ [c] :=
  pair_of (by rw [← parts_eq, parts_snoc_other m c l hc])
theorem pCur_suffix (m : UInt8) (l : List UInt8) : ∃ a, l = a ++ pCur m l := by
  refine ⟨l.take (l.length - (pCur m l).length), ?_⟩
  have h : ∀ n, ∀ l : List UInt8, l.length = n → ∃ a, l = a ++ pCur m l := by
    intro n
    induction n with
    | zero =>
      intro l hl
      obtain rfl := List.eq_nil_of_length_eq_zero hl
      exact ⟨[], by simp [pCur, parts]⟩
    | succ n ih =>
      intro l hl
      obtain ⟨r, c, rfl⟩ : ∃ r c, l = r ++ [c] := ⟨l.dropLast, l.getLast (by intro e; rw [e] at hl; simp at hl), (List.dropLast_concat_getLast _).symm⟩
      have hr : r.length = n := by simpa using hl
      obtain ⟨a, ha⟩ := ih r hr
      by_cases hc : c = m
      · subst hc
        exact ⟨r ++ [c], by rw [(pre_snoc_mark c r).2, List.append_nil]⟩
      · refine ⟨a, ?_⟩
        rw [(pre_snoc_other m c r hc).2, ← List.append_assoc, ← ha]
  obtain ⟨a, ha⟩ := h _ l rfl
  conv => lhs; rw [ha]
  congr 1
  have hl : l.length = a.length + (pCur m l).length := by conv => lhs; rw [ha]; rw [List.length_append]
  rw [show l.length - (pCur m l).length = a.length by omega]
  conv => rhs; rw [ha]
  simp
theorem parts_none {m : UInt8} {l : List UInt8} (h : m ∉ l) : parts m l = [l] := by
  induction l with
  | nil => rfl
  | cons c r ih =>
    have hc : c ≠ m := fun e => h (by rw [e]; exact List.mem_cons_self ..)
    rw [parts_cons_other m c r hc, ih (fun hm => h (List.mem_cons_of_mem _ hm))]
theorem parts_split {m : UInt8} {a : List UInt8} (b : List UInt8) (h : m ∉ a) : parts m (a ++ m :: b) = a :: parts m b := by
  induction a with
  | nil => rw [List.nil_append, parts, if_pos rfl]
  | cons c r ih =>
    have hc : c ≠ m := fun e => h (by rw [e]; exact List.mem_cons_self ..)
    rw [List.cons_append, parts_cons_other m c _ hc, ih (fun hm => h (List.mem_cons_of_mem _ hm))]
theorem first_of {m : UInt8} {l : List UInt8} (h : m ∈ l) : ∃ a b, l = a ++ m :: b ∧ m ∉ a := by
  induction l with
  | nil => cases h
  | cons c r ih =>
    by_cases hc : c = m
    · subst hc
      exact ⟨[], r, rfl, by simp⟩
    · obtain ⟨a, b, e, ha⟩ := ih ((List.mem_cons.1 h).resolve_left fun e => hc e.symm)
      refine ⟨c :: a, b, by rw [e]; rfl, ?_⟩
      intro hm
      rcases List.mem_cons.1 hm with h | h
      · exact hc h.symm
      · exact ha h
theorem first_split {m : UInt8} : ∀ {a a' b b' : List UInt8}, a ++ m :: b = a' ++ m :: b' → m ∉ a → m ∉ a' → a = a' ∧ b = b'
  | [], [], b, b', h, _, _ => ⟨rfl, by simpa using h⟩
  | [], c :: r, b, b', h, _, h2 => by
    simp only [List.nil_append, List.cons_append, List.cons.injEq] at h
    exact absurd (by rw [← h.1]; exact List.mem_cons_self ..) h2
  | c :: r, [], b, b', h, h1, _ => by
    simp only [List.nil_append, List.cons_append, List.cons.injEq] at h
    exact absurd (by rw [h.1]; exact List.mem_cons_self ..) h1
  | c :: r, c' :: r', b, b', h, h1, h2 => by
    simp only [List.cons_append, List.cons.injEq] at h
    have := first_split h.2 (fun hm => h1 (List.mem_cons_of_mem _ hm)) (fun hm => h2 (List.mem_cons_of_mem _ hm))
    exact ⟨by rw [h.1, this.1], this.2⟩
theorem indexByte_not {m : UInt8} : ∀ {l : List UInt8}, m ∉ l → Go.Lib.indexByte l m = -1
  | [], _ => rfl
  | c :: r, h => by
    have hc : (c == m) = false := by rw [beq_eq_false_iff_ne]; intro e; exact h (by rw [e]; exact List.mem_cons_self ..)
    rw [Go.Lib.indexByte, hc, indexByte_not (l := r) (fun hm => h (List.mem_cons_of_mem _ hm))]
    rfl
theorem indexByte_at {m : UInt8} (b : List UInt8) : ∀ {a : List UInt8}, m ∉ a → Go.Lib.indexByte (a ++ m :: b) m = a.length
  | [], _ => by simp [Go.Lib.indexByte]
  | c :: r, h => by
    have hc : (c == m) = false := by rw [beq_eq_false_iff_ne]; intro e; exact h (by rw [e]; exact List.mem_cons_self ..)
    have ih := indexByte_at b (a := r) (fun hm => h (List.mem_cons_of_mem _ hm))
    have h1 : (((r.length : Int)) == -1) = false := by rw [beq_eq_false_iff_ne]; omega
    rw [List.cons_append, Go.Lib.indexByte, hc, ih, h1, List.length_cons]
    simp
theorem cutL_none {m : UInt8} {l : List UInt8} (h : m ∉ l) : Go.Lib.cut l [m] = (l, [], false) := by
  unfold Go.Lib.cut
  rw [Go.Lib.index_one, indexByte_not h]
  rfl
theorem cutL_at {m : UInt8} {a : List UInt8} (b : List UInt8) (h : m ∉ a) : Go.Lib.cut (a ++ m :: b) [m] = (a, b, true) := by
  unfold Go.Lib.cut
  rw [Go.Lib.index_one, indexByte_at b h, if_pos (by omega)]
  simp
end Go.Proofs.YtpfbhckmpkiijaaDoor
