/-
  Which tensors are valid: what the tests of the shape return. Conditions: the tensor's cells can be read.
-/
import Derived.Test.YtkfpaehalfjhhaaTens
namespace Go.Proofs.Ytkfpaehalfjhhaa
open Go.RowKit

def sideB (n : Int) : Bool := decide (1 ≤ n) && decide (n ≤ 16)
theorem sideB_iff (n : Int) : sideB n = true ↔ 1 ≤ n ∧ n ≤ 16 := by simp [sideB]
theorem sideB_no (n : Int) : sideB n = false ↔ n < 1 ∨ 16 < n := by
  by_cases h : sideB n = true
  · rw [h]; rw [sideB_iff] at h; simp; omega
  · have h' : sideB n = false := by simpa using h
    rw [sideB_iff] at h; rw [h']; simp; omega
def vokB (r c : Int) (n : Nat) : Bool := (sideB r && sideB c) && decide ((n : Int) = r * c)
theorem mul_small {r c : Int} (h1 : 1 ≤ r) (h2 : r ≤ 16) (h3 : 1 ≤ c) (h4 : c ≤ 16) : 1 ≤ r * c ∧ r * c ≤ 256 := by
  have a : r * c ≤ 16 * c := Int.mul_le_mul_of_nonneg_right h2 (by omega)
  have b : 1 * c ≤ r * c := Int.mul_le_mul_of_nonneg_right h1 (by omega)
  omega
theorem vokB_iff (r c : Int) (n : Nat) : vokB r c n = true ↔ (1 ≤ r ∧ r ≤ 16) ∧ (1 ≤ c ∧ c ≤ 16) ∧ (n : Int) = r * c := by
  simp [vokB, sideB_iff, and_assoc]

theorem c_isSide (n : Int) (b : Bool) (h : sideB n = b) (w : World) : Calls Try.prog 56 #[.int .i64 n] w fun e w' => e = .returned (.bool b) ∧ w = w' := by
  cases b with
  | true =>
    obtain ⟨h1, h2⟩ := (sideB_iff n).1 h
    clear h
    go_enter Try.func56, Try.ntmps56
    go_wp2
    go_ret
    exact ⟨rfl, rfl⟩
  | false =>
    rcases (sideB_no n).1 h with h1 | h1
    · clear h
      go_enter Try.func56, Try.ntmps56
      go_wp2
      go_ret
      exact ⟨rfl, rfl⟩
    · clear h
      have h2 : 1 ≤ n := by omega
      go_enter Try.func56, Try.ntmps56
      go_wp2
      go_ret
      exact ⟨ret_b (decide_eq_false (by omega)), rfl⟩
theorem c_l02Shape (r c : Int) (b : Bool) (h : (sideB r && sideB c) = b) (w : World) : Calls Try.prog 98 #[.int .i64 r, .int .i64 c] w fun e w' => e = .returned (.bool b) ∧ w = w' := by
  have H := Lib.hid h
  clear h
  cases hr : sideB r with
  | false =>
    have HR := Lib.hid hr
    clear hr
    go_enter Try.func98, Try.ntmps98
    go_wp2_with (go_at_call 54; refine (c_l00In _ _ _ false HR.out _).mono ?_; rintro e w' ⟨rfl, rfl⟩)
    go_ret
    exact ⟨ret_b (by rw [← H.out, HR.out]; rfl), rfl⟩
  | true =>
    have HR := Lib.hid hr
    clear hr
    go_enter Try.func98, Try.ntmps98
    go_wp2_with fail
    refine (c_l00In _ _ _ true HR.out _).mono ?_
    rintro e w' ⟨rfl, rfl⟩
    go_wp2_with fail
    refine (c_l00In _ _ _ (sideB c) rfl _).mono ?_
    rintro e w' ⟨rfl, rfl⟩
    go_wp2_with fail
    go_ret
    exact ⟨ret_b (by rw [← H.out, HR.out]; rfl), rfl⟩
theorem c_iValid (r c : Int) (a : Option Addr) (n cap : Nat) (b : Bool) (h : vokB r c n = b) (w : World) :
    Calls Try.prog 32 #[.agg #[.int .i64 r, .int .i64 c, .slice a n cap]] w fun e w' => e = .returned (.bool b) ∧ Below w.heap.size w w' := by
  have H := Lib.hid h
  clear h
  cases hr : sideB r with
  | false =>
    have HR := Lib.hid hr
    have hb : b = false := by rw [← H.out, vokB, hr]; rfl
    subst hb
    clear hr
    go_enter Try.func32, Try.ntmps32
    go_wp2_with (go_at_call 56; refine (c_isSide _ false HR.out _).mono ?_; rintro e w' ⟨rfl, rfl⟩)
    go_ret
    exact ⟨rfl, (Below.refl _ _).alloc (Nat.le_refl _) _⟩
  | true =>
    have HR := Lib.hid hr
    cases hc : sideB c with
    | false =>
      have HC := Lib.hid hc
      have hb : b = false := by rw [← H.out, vokB, hr, hc]; rfl
      subst hb
      clear hr hc
      go_enter Try.func32, Try.ntmps32
      go_wp2_with fail
      refine (c_isSide _ true HR.out _).mono ?_
      rintro e w' ⟨rfl, rfl⟩
      go_wp2_with fail
      refine (c_isSide _ false HC.out _).mono ?_
      rintro e w' ⟨rfl, rfl⟩
      go_wp2_with fail
      go_ret
      exact ⟨rfl, (Below.refl _ _).alloc (Nat.le_refl _) _⟩
    | true =>
      have HC := Lib.hid hc
      obtain ⟨m1, m2⟩ := mul_small ((sideB_iff r).1 hr).1 ((sideB_iff r).1 hr).2 ((sideB_iff c).1 hc).1 ((sideB_iff c).1 hc).2
      have hb : ((n : Int) == r * c) = b := by rw [← H.out, vokB, hr, hc]; simp [Bool.beq_eq_decide_eq]
      have HB := Lib.hid hb
      clear hr hc hb
      go_enter Try.func32, Try.ntmps32
      go_wp2_with fail
      refine (c_isSide _ true HR.out _).mono ?_
      rintro e w' ⟨rfl, rfl⟩
      go_wp2_with fail
      refine (c_isSide _ true HC.out _).mono ?_
      rintro e w' ⟨rfl, rfl⟩
      go_wp2_with fail
      go_ret
      exact ⟨ret_b HB.out, (Below.refl _ _).alloc (Nat.le_refl _) _⟩
set_option linter.unusedVariables false in
set_option maxHeartbeats 400000 in
theorem c_l02Is (g o : Nat) (r c : Int) (a : Option Addr) (n cap : Nat) (b : Bool) (h : vokB r c n = b) (hn : n ≤ 9223372036854775807) (w : World)
    (h0 : w.cell? ⟨g, o, none⟩ = some (.int .i64 r)) (h1 : w.cell? ⟨g, o + 1, none⟩ = some (.int .i64 c)) (h2 : w.cell? ⟨g, o + 2, none⟩ = some (.slice a n cap)) :
    Calls Try.prog 59 #[.pointer (some ⟨g, o, none⟩)] w fun e w' => e = .returned (.bool b) ∧ Drawn w w' := by
  have H := Lib.hid h
  clear h
  cases hs : (sideB r && sideB c) with
  | false =>
    have HS := Lib.hid hs
    have hb : b = false := by rw [← H.out, vokB, hs]; rfl
    subst hb
    clear hs
    go_enter Try.func59, Try.ntmps59
    go_wp2
    go_quiet ((go_at_call 98; exact quiet_left (c_l02Shape _ _ false HS.out _)))
    go_wp2
    go_ret
    exact ⟨rfl, Drawn.mk _ _⟩
  | true =>
    have HS := Lib.hid hs
    have hs' := hs
    simp only [Bool.and_eq_true] at hs'
    obtain ⟨m1, m2⟩ := mul_small ((sideB_iff r).1 hs'.1).1 ((sideB_iff r).1 hs'.1).2 ((sideB_iff c).1 hs'.2).1 ((sideB_iff c).1 hs'.2).2
    have hb : ((n : Int) == r * c) = b := by rw [← H.out, vokB, hs]; simp [Bool.beq_eq_decide_eq]
    have HB := Lib.hid hb
    clear hs hs' hb
    go_enter Try.func59, Try.ntmps59
    go_wp2
    go_quiet ((go_at_call 98; exact quiet_left (c_l02Shape _ _ true HS.out _)))
    go_wp2
    go_ret
    exact ⟨ret_b HB.out, Drawn.mk _ _⟩
end Go.Proofs.Ytkfpaehalfjhhaa
