/-
  A list of int64 that the call made, as a cell with what it leads to; its marks. Conditions: the numbers fit.
-/
import Derived.Test.YtdgoladbkaldkaaCl
import Derived.Test.YtdgoladbkaldkaaInts
import Derived.Test.YtdgoladbkaldkaaMark
namespace Go.Proofs.Ytdgoladbkaldkaa
open Go.RowKit
set_option linter.unusedVariables false

def inC (a : Option Addr) (cap : Nat) (ys : List Int) : Cl := .sl 2 1 ys.length a cap (ys.map Cl.int)
theorem vs_int (ys : List Int) : vs (ys.map Cl.int) = ys.map toV := by simp [vs, Function.comp_def, Cl.v, toV]
theorem blL_int (ys : List Int) : blL (ys.map Cl.int) = [] := by
  induction ys with
  | nil => rfl
  | cons y ys ih => simp [blL, Cl.bl, ih]
theorem OwnL_int {w : World} {B : Nat} (ys : List Int) : OwnL w B (ys.map Cl.int) := by
  induction ys with
  | nil => trivial
  | cons y ys ih => exact ⟨trivial, ih⟩
theorem inC_bl (a : Option Addr) (cap : Nat) (ys : List Int) : blL [inC a cap ys] = (blk a).toList := by simp [inC, blL, Cl.bl, blL_int]
theorem inL_of {w : World} {B : Nat} {a : Option Addr} {cap : Nat} {ys : List Int} (h : OwnI w B a cap ys) : OwnL w B [inC a cap ys] := by
  refine ⟨⟨?_, OwnL_int ys⟩, trivial⟩
  rw [vs_int]
  exact h.1
theorem inL_own {w : World} {B : Nat} {a : Option Addr} {cap : Nat} {ys : List Int} (h : OwnL w B [inC a cap ys]) (hw : ∀ y ∈ ys, (Lit.int .i64 y).wf = true) : OwnI w B a cap ys := by
  have h1 := h.1.1
  rw [vs_int] at h1
  exact ⟨h1, hw⟩
theorem inL_row {w : World} {B : Nat} {a : Option Addr} {cap : Nat} {ys : List Int} (h : OwnL w B [inC a cap ys]) (hw : ∀ y ∈ ys, (Lit.int .i64 y).wf = true) : IsRow .i64 w a ys.length cap ys := (inL_own h hw).isRow
theorem c_markIn (a : Option Addr) (cap B k m : Nat) (ys : List Int) (w : World) (h : OwnL w B [inC a cap ys]) (hw : ∀ y ∈ ys, (Lit.int .i64 y).wf = true) (hm : k + ys.length = m) (hk : k ≤ 8388608) (hl : ys.length ≤ 1048576) :
    Calls Try.prog 21 #[.slice a ys.length cap, .int .i64 k] w fun e w' => e = .returned (.int .i64 (m : Int)) ∧ OwnL w' B [inC a cap (marksI k ys.length)] ∧ GrownIn w w' (blL [inC a cap ys]) := by
  refine (c_markInts' a cap B k m ys w (inL_own h hw) hm hk hl).mono ?_
  rintro e w' ⟨rfl, ho, hg⟩
  refine ⟨rfl, inL_of ho, ?_⟩
  rw [inC_bl]
  exact GrownIn.of_grown hg
theorem held_in {w : World} {B : Nat} {a : Option Addr} {cap k n : Nat} (h : OwnL w B [inC a cap (marksI k n)]) (hk : k ≤ 8388608) (hn : n ≤ 1048576) : IsRow .i64 w a n cap (marksI k n) := (inL_own h (marksI_wf k n hk hn)).held
end Go.Proofs.Ytdgoladbkaldkaa
