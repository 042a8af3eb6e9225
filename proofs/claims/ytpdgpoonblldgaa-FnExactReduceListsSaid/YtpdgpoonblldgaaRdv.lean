/-
  ReduceLists: both sides in one value. Conditions: the lists can be read.
-/
import Derived.Test.YtpdgpoonblldgaaRdu
import Derived.Test.YtpdgpoonblldgaaRtr
namespace Go.Proofs.Ytpdgpoonblldgaa
open Go.RowKit Go.Deep Go.WideShapes Go.ChangeShapes
set_option linter.unusedVariables false
set_option linter.unusedSimpArgs false

theorem redV_0 (p : Nat) (l : List Nat) : lineV (rotL 0 l) = redV 0 p l := by simp [rotL, redV]
theorem redV_1 (p : Nat) (l : List Nat) : treeV l = redV 1 p l := by simp [redV]
theorem redV_2 (p n : Nat) (l : List Nat) (h : l.length = n) : lineV (rotL (p % n) l) = redV 2 p l := by simp [rotL, redV, ringV, h]
theorem vRed_no {kind : Int} {zz : List (List Nat)} (h : okRed kind zz = false) : vReduceLists kind zz = (false, []) := by
  unfold vReduceLists
  rw [h]
  rfl
theorem t_sReduceLists (kind : Int) (zz : List (List Nat)) (n : Nat) (g : Option Addr) (c : Nat) (y : List FlA) (w : World) (hp : y.map FlA.z = zz) (h : SSAt w g n c y) :
    Calls Try.prog 23 #[.int .i64 kind, .slice g n c] w (RetL (vReduceLists kind zz).1 (vReduceLists kind zz).2 w) := by
  subst hp
  cases hk : (decide (0 ≤ kind) && decide (kind ≤ 2)) with
  | false =>
    rw [vRed_no (by rw [okRed_eq, hk]; rfl)]
    exact c_sReduceNo1 kind hk g n c w
  | true =>
    cases hn : (decide (1 ≤ n) && decide (n ≤ 8)) with
    | false =>
      rw [vRed_no (by rw [okRed_eq, hk]; unfold okL; rw [List.length_map, h.1, hn]; rfl)]
      exact c_sReduceNo2 kind hk g n c hn (by have h1 := h.2.1; have h2 := h.2.2.1; unfold maxLen at h2; omega) w
    | true =>
      rw [Bool.and_eq_true, decide_eq_true_eq, decide_eq_true_eq] at hn
      have hB := c_sReduceBy kind hk g n c y w h hn ((List.range ((y.map FlA.z).getD 0 []).length).map fun p => redV kind p (atV (y.map FlA.z) p)) (fun hok wr hb => by
        have hs := h.kept hb
        rw [Bool.and_eq_true, decide_eq_true_eq, decide_eq_true_eq] at hk
        obtain h0 | h1 | h2 : kind = 0 ∨ kind = 1 ∨ kind = 2 := by omega
        · subst h0
          have e : ∀ p, lineV (rotL 0 (atV (y.map FlA.z) p)) = redV 0 p (atV (y.map FlA.z) p) := fun p => redV_0 p _
          simpa only [e] using c_l10Line g n c y wr hs hok
        · subst h1
          have e : ∀ p, treeV (atV (y.map FlA.z) p) = redV 1 p (atV (y.map FlA.z) p) := fun p => redV_1 p _
          simpa only [e] using c_l10Tree g n c y wr hs hok
        · subst h2
          have e : ∀ p, lineV (rotL (p % n) (atV (y.map FlA.z) p)) = redV 2 p (atV (y.map FlA.z) p) := fun p => redV_2 p n _ (by simp [atV, h.1])
          simpa only [e] using c_l10Ring g n c y wr hs hok)
      cases hok : okL (y.map FlA.z) with
      | false =>
        rw [vRed_no (by rw [okRed_eq, hk, hok]; rfl)]
        rw [hok] at hB
        exact hB
      | true =>
        have hv : okRed kind (y.map FlA.z) = true := by rw [okRed_eq, hk, hok]; rfl
        unfold vReduceLists
        rw [if_pos hv]
        rw [hok] at hB
        exact hB
theorem t_iReduceLists (kind : Int) (zz : List (List Nat)) (n : Nat) (g : Option Addr) (c : Nat) (y : List FlA) (w : World) (hp : y.map FlA.z = zz) (h : SSAt w g n c y) :
    Calls Try.prog 25 #[.int .i64 kind, .slice g n c] w (RetL (vReduceLists kind zz).1 (vReduceLists kind zz).2 w) := by
  subst hp
  exact t_iReduceOver (fun zs a n cap p wr h h1 h8 hp => x_addTree zs a n cap p wr h h1 h8 hp) kind g n c y w h
end Go.Proofs.Ytpdgpoonblldgaa
