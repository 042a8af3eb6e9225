/-
  ReadNumbers: its values. Conditions: none.
-/
import Derived.Test.YtjecphimknfphaaDoorHxm
import Derived.Test.YtjecphimknfphaaDoorPrt
namespace Go.Proofs.YtjecphimknfphaaDoor
open Go.RowKit Go.Deep Go.WideShapes Go.ChangeShapes
set_option linter.unusedVariables false
set_option linter.unusedSimpArgs false

/-- the value of a digit; 16 for what is none -/
def hv (c : UInt8) : Nat := if 48 ≤ c.toNat ∧ c.toNat ≤ 57 then c.toNat - 48 else if 97 ≤ c.toNat ∧ c.toNat ≤ 102 then c.toNat - 87 else 16
def hval (l : List UInt8) : Nat := l.foldl (fun n c => 16 * n + hv c) 0
theorem hval_snoc (l : List UInt8) (c : UInt8) : hval (l ++ [c]) = 16 * hval l + hv c := by unfold hval; rw [List.foldl_append]; rfl
def allH (l : List UInt8) : Bool := l.all fun c => decide (hv c < 16)
theorem allH_snoc (l : List UInt8) (c : UInt8) : allH (l ++ [c]) = (allH l && decide (hv c < 16)) := by unfold allH; rw [List.all_append]; simp
theorem hv_digit {c : UInt8} (h : 48 ≤ c.toNat) (h2 : c.toNat ≤ 57) : hv c = c.toNat - 48 := if_pos ⟨h, h2⟩
theorem hv_letter {c : UInt8} (h : 97 ≤ c.toNat) (h2 : c.toNat ≤ 102) : hv c = c.toNat - 87 := (if_neg (by omega)).trans (if_pos ⟨h, h2⟩)
theorem hv_none {c : UInt8} (h : ¬ (48 ≤ c.toNat ∧ c.toNat ≤ 57)) (h2 : ¬ (97 ≤ c.toNat ∧ c.toNat ≤ 102)) : hv c = 16 := (if_neg h).trans (if_neg h2)
theorem snoc_ind {P : List UInt8 → Prop} (h0 : P []) (h1 : ∀ l c, P l → P (l ++ [c])) (l : List UInt8) : P l := by
  have h : ∀ m : List UInt8, P m.reverse := by
    intro m
    induction m with
    | nil => exact h0
    | cons c m ih => rw [List.reverse_cons]; exact h1 _ _ ih
  have := h l.reverse
  rwa [List.reverse_reverse] at this
theorem hval_lt (l : List UInt8) : allH l = true → hval l < 16 ^ l.length := by
  induction l using snoc_ind with
  | h0 => intro _; decide
  | h1 l c ih =>
    intro h
    rw [allH_snoc, Bool.and_eq_true, decide_eq_true_eq] at h
    rw [hval_snoc, List.length_append, List.length_singleton, Nat.pow_succ]
    have := ih h.1
    omega
theorem hd_hv {c : UInt8} (h : hv c < 16) : hd (hv c) = c := by
  by_cases h1 : 48 ≤ c.toNat ∧ c.toNat ≤ 57
  · rw [hv_digit h1.1 h1.2]
    apply UInt8.toNat_inj.1
    rw [hd_toNat (by omega), if_pos (by omega)]
    omega
  · by_cases h2 : 97 ≤ c.toNat ∧ c.toNat ≤ 102
    · rw [hv_letter h2.1 h2.2]
      apply UInt8.toNat_inj.1
      rw [hd_toNat (by omega), if_neg (by omega)]
      omega
    · rw [hv_none h1 h2] at h
      omega
theorem hv_hd {d : Nat} (h : d < 16) : hv (hd d) = d := by
  have e := hd_toNat h
  by_cases h1 : d < 10
  · rw [if_pos h1] at e
    rw [hv_digit (by omega) (by omega), e]
    omega
  · rw [if_neg h1] at e
    rw [hv_letter (by omega) (by omega), e]
    omega
theorem hk_hval (l : List UInt8) : allH l = true → hk l.length (hval l) = l := by
  induction l using snoc_ind with
  | h0 => intro _; rfl
  | h1 l c ih =>
    intro h
    rw [allH_snoc, Bool.and_eq_true, decide_eq_true_eq] at h
    rw [List.length_append, List.length_singleton, hk_succ, hval_snoc, show (16 * hval l + hv c) / 16 = hval l by omega, show (16 * hval l + hv c) % 16 = hv c by omega, ih h.1, hd_hv h.2]
theorem hval_hk : ∀ (k n : Nat), n < 16 ^ k → hval (hk k n) = n ∧ allH (hk k n) = true
  | 0, n, h => by
    have h0 : n = 0 := by simpa using h
    subst h0
    exact ⟨rfl, rfl⟩
  | k + 1, n, h => by
    rw [Nat.pow_succ] at h
    have ih := hval_hk k (n / 16) (by omega)
    rw [hk_succ, hval_snoc, allH_snoc, ih.1, ih.2, hv_hd (Nat.mod_lt _ (by decide))]
    refine ⟨by omega, ?_⟩
    have : n % 16 < 16 := Nat.mod_lt _ (by decide)
    simp [this]
/-- eight digits -/
def shp8 (l : List UInt8) : Bool := decide (l.length = 8) && allH l
theorem shp8_of {l : List UInt8} (h : shp8 l = true) : l.length = 8 ∧ allH l = true := by unfold shp8 at h; simpa using h
theorem shp8_lt {l : List UInt8} (h : shp8 l = true) : hval l < 4294967296 := by
  have := hval_lt l (shp8_of h).2
  rw [(shp8_of h).1] at this
  omega
def okRN (l : List UInt8) : Bool := shp8 l && decide (canon .f32 (hval l) = hval l)
theorem okRN_of {l : List UInt8} (h : okRN l = true) : shp8 l = true ∧ canon .f32 (hval l) = hval l := by unfold okRN at h; simpa using h
theorem okRN_shape {l : List UInt8} (h : shp8 l = false) : okRN l = false := by unfold okRN; rw [h]; rfl
theorem okRN_nan {l : List UInt8} (h : canon .f32 (hval l) ≠ hval l) : okRN l = false := by unfold okRN; rw [decide_eq_false h, Bool.and_false]
theorem okRN_yes {l : List UInt8} (h : shp8 l = true) (h2 : canon .f32 (hval l) = hval l) : okRN l = true := by unfold okRN; rw [h, decide_eq_true h2]; rfl
theorem numT_yes {l : List UInt8} (h : okRN l = true) : numT (hval l) = l := by
  obtain ⟨h1, h2⟩ := okRN_of h
  unfold numT
  rw [h2, ← (shp8_of h1).1]
  exact hk_hval l (shp8_of h1).2
theorem numT_no {l : List UInt8} {z : Nat} (hz : z < 4294967296) (h : numT z = l) : okRN l = true := by
  have hc := canon_lt32 hz
  unfold numT at h
  obtain ⟨a, b⟩ := hval_hk 8 (canon .f32 z) (by omega)
  have hl := hk_len 8 (canon .f32 z)
  rw [h] at a b hl
  refine okRN_yes (by unfold shp8; rw [hl, b]; rfl) ?_
  rw [a, canon_canon]

def okRNs (l : List UInt8) : Bool := decide ((parts 44 l).length ≤ 256) && (parts 44 l).all okRN
def vRN (l : List UInt8) : Bool × List Nat := if l = noneT then (true, []) else if okRNs l = true then (true, (parts 44 l).map hval) else (false, [])
theorem vRN_none {l : List UInt8} (h : l = noneT) : vRN l = (true, []) := if_pos h
theorem vRN_no {l : List UInt8} (h : l ≠ noneT) (h2 : okRNs l = false) : vRN l = (false, []) := by unfold vRN; rw [if_neg h, h2]; rfl
theorem vRN_yes {l : List UInt8} (h : l ≠ noneT) (h2 : okRNs l = true) : vRN l = (true, (parts 44 l).map hval) := by unfold vRN; rw [if_neg h, if_pos h2]
theorem vRN_len (l : List UInt8) : (vRN l).2.length ≤ 256 := by
  unfold vRN
  split
  · simp
  · split
    · rename_i h
      simp only [okRNs, Bool.and_eq_true, decide_eq_true_eq] at h
      simpa using h.1
    · simp
theorem okRNs_long {l : List UInt8} (h : 256 < (parts 44 l).length) : okRNs l = false := by unfold okRNs; rw [decide_eq_false (by omega)]; rfl
theorem okRNs_bad {l : List UInt8} {k : Nat} {p : List UInt8} (h : (parts 44 l)[k]? = some p) (hp : okRN p = false) : okRNs l = false := by
  unfold okRNs
  have : (parts 44 l).all okRN = false := by
    rw [List.all_eq_false]
    exact ⟨p, List.mem_of_getElem? h, by rw [hp]; decide⟩
  rw [this, Bool.and_false]
theorem okRNs_yes {l : List UInt8} (h : (parts 44 l).length ≤ 256) (h2 : (parts 44 l).all okRN = true) : okRNs l = true := by unfold okRNs; rw [decide_eq_true h, h2]; rfl
theorem okn_next {ps : List (List UInt8)} {k : Nat} {p : List UInt8} (h : ps[k]? = some p) (ha : (ps.take k).all okRN = true) (hp : okRN p = true) : (ps.take (k + 1)).all okRN = true := by
  rw [List.take_add_one, h, List.all_append, ha]
  simp [hp]
theorem hvs_next {ps : List (List UInt8)} {k : Nat} {p : List UInt8} (h : ps[k]? = some p) : (ps.take (k + 1)).map hval = (ps.take k).map hval ++ [hval p] := by
  rw [List.take_add_one, h, List.map_append]
  rfl
/-- the canonical words of what was read are what was read -/
theorem vRN_canon (l : List UInt8) : (vRN l).2.map (canon .f32) = (vRN l).2 := by
  unfold vRN
  split
  · rfl
  · split
    · rename_i h
      simp only [okRNs, Bool.and_eq_true] at h
      rw [List.map_map]
      refine List.map_congr_left fun p hp => ?_
      exact (okRN_of (List.all_eq_true.1 h.2 p hp)).2
    · rfl
end Go.Proofs.YtjecphimknfphaaDoor
