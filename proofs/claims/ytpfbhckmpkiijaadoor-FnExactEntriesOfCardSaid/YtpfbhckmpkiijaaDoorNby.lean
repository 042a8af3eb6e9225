/-
  NumbersBytes: the model and the program. Conditions: the numbers can be read.
-/
import Derived.Test.YtpfbhckmpkiijaaDoorWr
namespace Go.Proofs.YtpfbhckmpkiijaaDoor
open Go.RowKit Go.Deep Go.WideShapes Go.ChangeShapes
set_option linter.unusedVariables false

/-- a text and ok -/
def RetY (x : ByteArray) (b : Bool) (w : World) (e : Ending) (w' : World) : Prop := e = .returned (.tuple #[.string x, .bool b]) ∧ Below w.heap.size w w'
def vNumbersBytes (zs : List Nat) : ByteArray × Bool := if zs.length ≤ 4096 then (⟨(nb zs).toArray⟩, true) else (⟨#[]⟩, false)
theorem t_iNumbersBytes (zs : List Nat) (a : Option Addr) (c : Nat) (w : World) (h : IsFloats .f32 w a zs.length c zs) : Calls Tryd.prog 13 #[.slice a zs.length c] w (RetY (vNumbersBytes zs).1 (vNumbersBytes zs).2 w) := by
  have hm : zs.length ≤ 9223372036854775807 := by have h1 := h.1; have h2 := h.2.1; unfold maxLen at h2; omega
  unfold vNumbersBytes
  by_cases h4 : zs.length ≤ 4096
  · rw [if_pos h4]
    have al := (Below.refl w.heap.size w).alloc (Nat.le_refl _) (.cells #[.slice none 0 0, .int .i64 0, .int .i8 0] 57)
    have HB0 := Lib.hid al
    have HI := Lib.hid (isW_new w)
    have HC := Lib.hid (fun W (hi : IsW W w.heap.size w.heap.size []) (hs : w.heap.size ≤ W.heap.size) (hb : Below w.heap.size w W) => c_wNumbers a c zs w.heap.size w.heap.size [] W (fun W' hb' _ => h.kept (hb.trans hb')) h4 hi hs (by simp))
    have h4' : (zs.length : Int) ≤ 4096 := by omega
    clear al h4 hm h
    go_enter Tryd.func13, Tryd.ntmps13
    go_wp2_with fail
    refine (HC.out _ HI.out HB0.out.size HB0.out).mono ?_
    rintro e w2 ⟨rfl, hi, hb, _⟩
    have HB2 := Lib.hid (HB0.out.trans hb)
    rw [List.nil_append] at hi
    have HI2 := Lib.hid hi
    clear hi hb
    go_wp2_with fail
    refine (c_BufString _ _ _ _ HI2.out).mono ?_
    rintro e w3 ⟨rfl, n, rfl⟩
    go_wp2_with fail
    go_ret2
    exact ⟨rfl, below_drewN HB2.out n⟩
  · rw [if_neg h4]
    have hd : decide ((zs.length : Int) ≤ 4096) = false := decide_eq_false (by omega)
    have hd2 : decide ((4096 : Int) < (zs.length : Int)) = true := decide_eq_true (by omega)
    clear h h4
    go_enter Tryd.func13, Tryd.ntmps13
    go_wp2_with fail
    go_ret2
    exact ⟨rfl, Below.refl _ _⟩
end Go.Proofs.YtpfbhckmpkiijaaDoor
