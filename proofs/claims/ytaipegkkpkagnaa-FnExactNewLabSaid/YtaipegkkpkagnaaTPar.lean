/-
  CountParams and ParamsOf: what the model and the program answer. Conditions: the cells can be read.
-/
import Derived.Test.YtaipegkkpkagnaaPar
import Derived.Test.YtaipegkkpkagnaaMark
namespace Go.Proofs.Ytaipegkkpkagnaa
open Go.RowKit
set_option linter.unusedVariables false

def vCountParams (ps : List LayP) : Int × Bool := if vMod ps = true then ((((parOf ps).length : Nat) : Int), true) else (0, false)
def vParamsOf (ps : List LayP) : Bool × List Nat := if vMod ps = true then (true, (parOf ps).map (canon .f32)) else (false, [])
theorem vParamsOf_len (ps : List LayP) : (vParamsOf ps).2.length ≤ 1048576 := by
  unfold vParamsOf
  split
  · rename_i h
    have := vMod_parts h
    simp [parOf_length]
    omega
  · simp
theorem t_iCountParams (ps : List LayP) (n : Nat) (g : Option Addr) (c : Nat) (y : List LayA) (w : World) (hp : y.map LayA.p = ps) (h : LaysAt w g n c y) :
    Calls Try.prog 130 #[.agg #[.slice g n c]] w (RetNb (vCountParams ps).1 (vCountParams ps).2 w) := by
  subst hp
  have H := Lib.hid h
  have hn : n = (y.map LayA.p).length := by simpa using h.1.symm
  have b0 := Lib.hid ((Below.refl w.heap.size w).alloc (Nat.le_refl _) (.cells #[.slice g n c] 46))
  have k0 := Lib.hid (Blk.new w 46 #[.slice g n c])
  cases hv : vMod (y.map LayA.p) with
  | false =>
    have HV := Lib.hid hv
    rw [show vCountParams (y.map LayA.p) = (0, false) by simp [vCountParams, hv]]
    clear h hv hn
    go_enter Try.func130, Try.ntmps130
    go_wp2_with fail
    refine (c_iValidModel g c n y _ HV.out _ (H.out.kept b0.out)).mono ?_
    rintro e w1 ⟨rfl, bl⟩
    have HB := Lib.hid (Below.next b0.out bl)
    clear bl
    go_wp2_with fail
    go_ret2
    exact ⟨rfl, HB.out⟩
  | true =>
    have HV := Lib.hid hv
    have HP := Lib.hid (vMod_parts hv)
    have h6 : n ≤ 6 := by have := HP.out; omega
    have H6 := Lib.hid h6
    rw [show vCountParams (y.map LayA.p) = ((((parOf (y.map LayA.p)).length : Nat) : Int), true) by simp [vCountParams, hv]]
    clear h hv hn h6
    go_enter Try.func130, Try.ntmps130
    go_wp2_with fail
    refine (c_iValidModel g c n y _ HV.out _ (H.out.kept b0.out)).mono ?_
    rintro e w1 ⟨rfl, bl⟩
    have HB := Lib.hid (Below.next b0.out bl)
    have K1 := Lib.hid (k0.out.below bl)
    clear bl
    obtain ⟨p0, pl⟩ := tb1 K1.out
    go_wp2_with fail
    clear p0 pl
    refine (c_params g c n y _ (H.out.kept HB.out) HP.out.2.2 H6.out).mono ?_
    rintro e w2 ⟨b, cp, rfl, hf, bl⟩
    have HB2 := Lib.hid (Below.next HB.out bl)
    clear hf bl
    go_wp2_with fail
    go_ret2
    exact ⟨rfl, HB2.out⟩
end Go.Proofs.Ytaipegkkpkagnaa
