/-
  The index of the greatest number: the same for the program and for its model. Conditions: the numbers can be read.
-/
import Derived.Test.YtpdgpoonblldgaaGix
import Derived.Test.YtpdgpoonblldgaaOp5
import Derived.BigQuiet
import Derived.Deep.QuietTactic
namespace Go.Proofs.Ytpdgpoonblldgaa
open Go.RowKit Go.Deep Go.WideShapes Go.ChangeShapes
set_option linter.unusedVariables false

def GixRel1 (zs : List Nat) (n : Nat) (w : World) (s i : Value) (wr : World) : Prop := ∃ k m : Nat, 1 ≤ k ∧ k ≤ n ∧ i = .int .i64 k ∧ s = .int .i64 ((gixF (fun j => zs.getD j 0) k : Nat) : Int) ∧ wr = w.drewN m
set_option maxHeartbeats 1000000 in
theorem c_l05Greatest (a : Option Addr) (n cap : Nat) (zs : List Nat) (w : World) (h : IsFloats .f32 w a n cap zs) (h1 : 1 ≤ n) (hn : n ≤ 256) :
    Calls Try.prog 51 #[.slice a n cap] w fun e w' => e = .returned (.int .i64 ((gixF (fun j => zs.getD j 0) n : Nat) : Int)) ∧ Drawn w w' := by
  have HF := Lib.hid h
  clear h
  go_enter Try.func51, Try.ntmps51
  go_wp2
  go_loopw [3, 4] (fun s i wr => GixRel1 zs n w s i wr) (fun _ i _ => n - (intOf i).toNat)
  case atStart => exact ⟨1, 0, Nat.le_refl _, h1, rfl, by rw [gixF_one]; rfl, rfl⟩
  case round =>
    obtain ⟨k, m, hk1, hk, rfl, rfl, rfl⟩ := hrel
    have hq := gixF_le (fun j => zs.getD j 0) k
    have hq2 := gixF_lt (fun j => zs.getD j 0) hk1
    have HY := fun h => gixF_yes (f := fun j => zs.getD j 0) (k := k) h
    have HN := fun h => gixF_no (f := fun j => zs.getD j 0) (k := k) h
    obtain ⟨q, hqq⟩ : ∃ q, gixF (fun j => zs.getD j 0) k = q := ⟨_, rfl⟩
    rw [hqq] at hq hq2 HY HN ⊢
    have HQ := Lib.hid hqq
    have HY' := Lib.hid HY
    have HN' := Lib.hid HN
    have hk0 : (0 : Int) ≤ (k : Int) := by omega
    clear hqq HY HN
    by_cases hlt : k < n
    · have hlt' : (k : Int) < (n : Int) := by omega
      have hq' : (q : Int) < (n : Int) := by omega
      have hq0 : (0 : Int) ≤ (q : Int) := by omega
      rcases HF.out.2.2.2.2 with h0 | ⟨b, off, rfl, _, hc⟩
      · omega
      have c1 := hc k hlt
      have c2 := hc q (by omega)
      clear hc
      cases hgt : (FloatKind.f32.format.order (zs.getD k 0) (zs.getD q 0) == some .gt) with
      | true =>
        have HG := Lib.hid (HY'.out hgt)
        obtain ⟨x, hx⟩ : ∃ x, zs.getD k 0 = x := ⟨_, rfl⟩
        obtain ⟨y, hy⟩ : ∃ x, zs.getD q 0 = x := ⟨_, rfl⟩
        rw [hx] at c1 hgt
        rw [hy] at c2 hgt
        clear hx hy HY' HN'
        go_wp2_with fail
        go_quiet (fail)
        go_wp2_with fail
        go_roundw
        case rel => exact ⟨k + 1, _, by omega, by omega, by go_num, by rw [HG.out], rfl⟩
        case measure => simp [intOf]; omega
      | false =>
        have HG := Lib.hid (HN'.out hgt)
        obtain ⟨x, hx⟩ : ∃ x, zs.getD k 0 = x := ⟨_, rfl⟩
        obtain ⟨y, hy⟩ : ∃ x, zs.getD q 0 = x := ⟨_, rfl⟩
        rw [hx] at c1 hgt
        rw [hy] at c2 hgt
        clear hx hy HY' HN'
        go_wp2_with fail
        go_quiet (fail)
        go_wp2_with fail
        go_roundw
        case rel => exact ⟨k + 1, _, by omega, by omega, by go_num, by rw [HG.out], rfl⟩
        case measure => simp [intOf]; omega
    · obtain rfl : k = n := by omega
      go_wp2_with fail
      go_ret
      exact ⟨ret_i (congrArg (fun x : Nat => (x : Int)) HQ.out.symm), Drawn.mk _ _⟩
def okGof (n : Nat) : Bool := decide (1 ≤ n) && decide (n ≤ 256)
def vGreatestOf (z : List Nat) : Int × Bool := if okGof z.length = true then (((gixF (fun j => z.getD j 0) z.length : Nat) : Int), true) else (0, false)
theorem vGreatestOf_yes {z : List Nat} (h1 : 1 ≤ z.length) (h2 : z.length ≤ 256) : vGreatestOf z = (((gixF (fun j => z.getD j 0) z.length : Nat) : Int), true) := by unfold vGreatestOf; rw [if_pos (by simp [okGof, h1, h2])]
theorem vGreatestOf_no {z : List Nat} (h : z.length = 0 ∨ 257 ≤ z.length) : vGreatestOf z = (0, false) := by unfold vGreatestOf; rw [if_neg (by simp [okGof]; omega)]
end Go.Proofs.Ytpdgpoonblldgaa
