/-
  NumbersBytes answers as its model says, for all lists, and changes none of them. Conditions: none.
-/
import Derived.Test.YtpobdigmjfapbaaDoorNbu
import Derived.Test.YtpobdigmjfapbaaDoorTie
import Derived.Test.YtpobdigmjfapbaaDoorCards
import Derived.ChangeOld
import Derived.Below
import Derived.LaidMore
import Derived.LaidLaws
import Derived.SevenTiedAt
namespace Go.Proofs.YtpobdigmjfapbaaDoor.fnExactNumbersBytes
open Go.ChangeShapes Go.WideShapes Go.ChangeAt Go.RowKit
open Go.ChangeMaps (open_string shut_string)
set_option linter.unusedVariables false

set_option maxHeartbeats 4000000 in
set_option maxRecDepth 100000 in
/-- for any contracts of the model and of the program that say the same -/
theorem core (z0 : List Nat) (a0 : Option Addr) (c0 : Nat) (w : World) (w0' : IsFloats .f32 w a0 z0.length c0 z0) (x : ByteArray) (b : Bool) (hL0 : z0.length ≤ 1048576) 
    (CS' : ∀ (a0 : Option Addr) (c0 : Nat) (w : World), (IsFloats .f32 w a0 z0.length c0 z0) → Calls Tryd.prog 17 #[.slice a0 z0.length c0] w (RetY x b w))
    (CI' : ∀ (a0 : Option Addr) (c0 : Nat) (w : World), (IsFloats .f32 w a0 z0.length c0 z0) → Calls Tryd.prog 13 #[.slice a0 z0.length c0] w (RetY x b w)) :
    Calls Tryd.prog 4 #[.slice a0 z0.length c0] w fun e w' => e = .returned (.bool true) ∧ Below w.heap.size w w' := by
  have HS0 := Lib.hid w0'
  have HZ0 := Lib.hid (show z0.length ≤ 1048576 by omega)
  have CS := Lib.hid CS'
  have CI := Lib.hid CI'
  have hs0 : z0.length ≤ 1048576 := by omega
  clear w0' CS' CI'  hL0
  go_enter Tryd.func4, Tryd.ntmps4
  go_wp2_with fail
  have B_0 := Lib.hid (Below.refl w.heap.size w)
  go_wp2_with fail
  refine (c_toFloats _ _ _ z0 _ (HS0.out.kept B_0.out) HZ0.out).mono ?_
  rintro e w1 ⟨aT0, rfl, hf, bl⟩
  have ho := flL_own.2 hf
  have T0_1 := Lib.hid (OwnL.base B_0.out.size _ ho)
  have B_1 := Lib.hid (Below.next B_0.out bl)
  clear B_0
  clear hf ho
  clear bl
  go_wp2_with fail
  refine (CS.out _ _ _ (flL_at.1 (OwnL.at _ T0_1.out))).mono ?_
  rintro e w2 ⟨rfl, bl⟩
  have B_2 := Lib.hid (Below.next B_1.out bl)
  clear B_1
  have T0_2 := Lib.hid (OwnL.kept T0_1.out bl)
  clear T0_1
  clear bl
  clear T0_2
  go_wp2_with fail
  refine (c_toFloats _ _ _ z0 _ (HS0.out.kept B_2.out) HZ0.out).mono ?_
  rintro e w3 ⟨aX0, rfl, hf, bl⟩
  have ho := flL_own.2 hf
  have X0_3 := Lib.hid (OwnL.base B_2.out.size _ ho)
  have B_3 := Lib.hid (Below.next B_2.out bl)
  clear B_2
  clear hf ho
  clear bl
  go_wp2_with fail
  refine (CI.out _ _ _ (flL_at.1 (OwnL.at _ X0_3.out))).mono ?_
  rintro e w4 ⟨rfl, bl⟩
  have B_4 := Lib.hid (Below.next B_3.out bl)
  clear B_3
  have X0_4 := Lib.hid (OwnL.kept X0_3.out bl)
  clear X0_3
  clear bl
  go_wp2_with fail
  refine (c_toFloats _ _ _ z0 _ (HS0.out.kept B_4.out) HZ0.out).mono ?_
  rintro e w5 ⟨aY0, rfl, hf, bl⟩
  have ho := flL_own.2 hf
  have Y0_5 := Lib.hid (OwnL.base B_4.out.size _ ho)
  have B_5 := Lib.hid (Below.next B_4.out bl)
  clear B_4
  have X0_5 := Lib.hid (OwnL.kept X0_4.out bl)
  clear X0_4
  clear hf ho
  clear bl
  go_wp2_with fail
  refine (c_eqFloats _ _ _ _ z0 z0 _ (flL_at.1 (OwnL.at _ X0_5.out)) (flL_at.1 (OwnL.at _ Y0_5.out)) rfl).mono ?_
  rintro e w6 ⟨rfl, dn⟩
  have bl : Below w5.heap.size w5 w6 := by first | exact dn.below | exact (below_drewN (Below.refl _ _) _).trans dn.below
  clear dn
  have B_6 := Lib.hid (Below.next B_5.out bl)
  clear B_5
  have X0_6 := Lib.hid (OwnL.kept X0_5.out bl)
  clear X0_5
  have Y0_6 := Lib.hid (OwnL.kept Y0_5.out bl)
  clear Y0_5
  clear bl
  clear Y0_6
  go_wp2_with fail
  go_ret
  exact ⟨rfl, B_6.out⟩

theorem walk (a0 : Option Addr) (len0 cap0 : Nat) (z0 : List Nat) (w : World) (w0 : IsFloats .f32 w a0 len0 cap0 z0) :
    Calls Tryd.prog 4 #[.slice a0 len0 cap0] w fun e w' => e = .returned (.bool true) ∧ Below w.heap.size w w' := by
  have hn0 : len0 ≤ 9223372036854775807 := by have h1 := w0.1; have h2 := w0.2.1; unfold maxLen at h2; omega
  obtain rfl : z0.length = len0 := w0.2.2.1
  obtain ⟨c0, rfl⟩ : ∃ c, c = cap0 := ⟨_, rfl⟩
  by_cases hL0 : z0.length ≤ 1048576
  case neg =>
    have hq : (1048576 : Int) < (z0.length : Int) := by omega
    clear hL0
    go_enter Tryd.func4, Tryd.ntmps4
    go_wp2
    go_ret
    exact ⟨rfl, (Below.refl w.heap.size w)⟩
  case pos =>
    exact core z0 a0 c0 w w0 (vNumbersBytes z0).1 (vNumbersBytes z0).2 hL0  (fun a0 c0 w h0 => t_sNumbersBytes z0 a0 c0 w h0) (fun a0 c0 w h0 => t_iNumbersBytes z0 a0 c0 w h0)

/-! the door's own heap meets the condition -/
def laid {H : Type} : List (String × DataW H) := [("bytes.ErrTooLarge", Rows.laid_bytes_ErrTooLarge)]
theorem own : ownKnob Tryd.prog.godebug = none := by kernel_rfl
theorem door_met (os : Os) (args : Array Value) : laidMetH Tryd.prog laid ((World.doorLaid Tryd.prog 400 os).forCall (fun _ _ => 0) ⟨#[], args, []⟩).memory :=
  laidMetH_of_parts3 (fuel := 8) (laidMet_of_run' 8 (by kernel_rfl) (by kernel_rfl)) (by kernel_rfl) (by kernel_rfl)
set_option maxRecDepth 100000 in
theorem lifted (os : Os) (started : os.Started) (H : Type) (enc : TypeId × Value → H) :
    ReturnsInHanded {} Tryd.checked os 4 .any (fun w args => (Rows.fnExactNumbersBytesSpec.pre enc Tryd.prog Tryd.f4 [] false w args ∧ laidMetH Tryd.prog laid w) ∧ sizedMet enc Tryd.prog Tryd.f4 (OpenSpec.ofChange Rows.fnExactNumbersBytesSpec) false w args)
      (Rows.fnExactNumbersBytesSpec.post enc Tryd.prog Tryd.f4 false true false false) := by
  refine returnsInHanded_of_change_and (C := Tryd.checked) (X := fun w _ => laidMetH Tryd.prog laid w) (fun _ _ _ hh h => h.of_heap hh) own started (by kernel_rfl) Tryd.func4
    (ChangeSpec.witness_shaped (enc := enc) (C := Tryd.checked) (os := os) (X := fun w _ => laidMetH Tryd.prog laid w) false (World.doorLaid Tryd.prog 400 os) #[.slice none 0 0] 8 rfl (World.shaped_of_RefB (by kernel_rfl) (by kernel_rfl)) (by kernel_rfl) (by kernel_rfl) (by kernel_rfl) (door_met os _)) ?_
  intro W base args ds gs before hval0 hW hcnd _ hL _
  have hval : ∀ (j : Nat) t v, Tryd.f4.params[j]? = some t → args[j]? = some v → Value.okWide Tryd.prog W .any base t v := hval0
  have hW' := hW
  obtain ⟨p, q, hA0, hV, rfl, hfz, hnd⟩ := hW
  have hA : DataW.TrodAll enc Tryd.prog W 0 (fun _ => true) true Tryd.f4.params.toList args.toList ds p := hA0
  rw [Tryd.params4] at hA hval
  obtain ⟨v0, vs0, d0, ds0, p0, q0, hargs, rfl, rfl, h0, rest0⟩ := trodAll_cons hA
  obtain ⟨rfl, rfl, rfl⟩ := trodAll_nil rest0
  obtain rfl : args = #[v0] := by cases args; simp_all
  obtain ⟨rfl, rfl⟩ := trodVars_none hV
  obtain ⟨a0, len0, cap0, rfl⟩ := okWide_slice Tryd.underlying24 (hval 0 24 v0 rfl rfl)
  have k0 := h0
  have lt0 : ∀ x ∈ p0, x.block < W.heap.size := by obtain ⟨m, hm⟩ := k0; exact DataW.trod_lt m _ _ _ hm
  obtain ⟨z0, w0⟩ := isFloats_of (k := .f32) Tryd.underlying24 Tryd.underlying31 (by kernel_rfl) h0
  clear hA0 hval0
  refine (walk a0 len0 cap0 z0 W w0).mono fun e W' ⟨he, bel⟩ => ?_
  subst he
  exact ⟨_, rfl, _, _, _, [], _, [], hW', trodAll_mk1 (shut_bool Tryd.underlying4 _), (trodAll_cons_mk (Below.trod laidOut (by kernel_rfl) (of_decide_eq_true (by kernel_rfl)) k0 bel lt0) trodAll_mk0), rfl, bel.frame _, fun h => by cases h⟩

theorem over : Rows.fnExactNumbersBytesRow.holds Tryd.pinned (OpenSpec.ofChange Rows.fnExactNumbersBytesSpec) :=
  OpenClaim.holds_of_wide 4 Tryd.f4 rfl rfl rfl rfl rfl rfl rfl ⟨rfl, rfl, rfl, rfl, rfl⟩ rfl rfl rfl rfl rfl (by kernel_rfl) Tryd.func4 (by kernel_rfl)
    (of_decide_eq_true (by kernel_rfl)) (by unfold Func.isWrapper; first | (rw [if_pos (by decide +kernel)]; kernel_rfl) | (rw [if_neg (by decide +kernel)]; exact ⟨rfl, rfl⟩))
    (fun os started H enc _ => lifted os started H enc)

/-- the statement: the row, tied to the program's text -/
theorem proved : Rows.FnExactNumbersBytesCardSaid :=
  Claim7.holds_tied_plain_at .later [] Rows.fnExactNumbersBytesCard.laidKinds true Rows.fnExactNumbersBytesCard.stood.harness true
    over (fun _ h => by cases h) (by kernel_rfl) (fun _ h => by cases h) fnExactNumbersBytes_row_tie rfl ⟨rfl, rfl⟩ (by kernel_rfl) rfl
    (fun f fn hf hfn => by
      obtain rfl : f = 4 := Option.some.inj ((show Tryd.prog.funcNamed Rows.fnExactNumbersBytesRow.func = some 4 by kernel_rfl).symm.trans hf) |>.symm
      obtain rfl : fn = Tryd.f4 := (Option.some.inj (Tryd.func4.symm.trans hfn)).symm
      exact ⟨by kernel_rfl, fun j t ht => by
        rw [Tryd.params4] at ht
        rcases j with _ | j
        · obtain rfl : t = 24 := by simpa using ht.symm
          exact (show Tryd.prog.wantsStandIn 24 = false by kernel_rfl)
        · simp at ht⟩)
    (by kernel_rfl)
end Go.Proofs.YtpobdigmjfapbaaDoor.fnExactNumbersBytes
