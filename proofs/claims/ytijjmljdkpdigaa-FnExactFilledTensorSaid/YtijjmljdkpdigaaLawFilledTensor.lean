/-
  FilledTensor answers as its model says, for all arguments, changes none of them, and its answer owns its memory. Conditions: none.
-/
import Derived.Test.YtijjmljdkpdigaaTFilled
import Derived.ChangeOld
import Derived.Below
namespace Go.Proofs.Ytijjmljdkpdigaa.fnExactFilledTensor
open Go.ChangeShapes Go.WideShapes Go.ChangeAt Go.RowKit
open Go.ChangeMaps (open_string shut_string)
set_option linter.unusedVariables false

set_option maxHeartbeats 4000000 in
set_option maxRecDepth 100000 in
/-- for any contracts of the model and of the program that say the same -/
theorem core (a0 : Int) (a1 : Int) (a2 : Nat)    (w : World)  (R C : Int) (b : Bool) (zs : List Nat)
     (hz : zs.length ≤ 1048576) (CS' : ∀ (w : World), Calls Try.prog 20 #[.int .i64 a0, .int .i64 a1, .float .f32 a2] w (RetT R C b zs w))
    (CI' : ∀ (w : World), Calls Try.prog 21 #[.int .i64 a0, .int .i64 a1, .float .f32 a2] w (RetT R C b zs w)) :
    Calls Try.prog 4 #[.int .i64 a0, .int .i64 a1, .float .f32 a2] w fun e w' => e = .returned (.bool true) ∧ Below w.heap.size w w' := by
  have CS := Lib.hid CS'
  have CI := Lib.hid CI'
  clear  CS' CI'
  go_enter Try.func4, Try.ntmps4
  go_wp2_with fail
  have B_0 := Lib.hid (Below.refl w.heap.size w)
  refine (CS.out  _ ).mono ?_
  rintro e w1 ⟨bS, capS, yS, rfl, hf, hyS, bl⟩
  have HYS := Lib.hid hyS
  clear hyS
  have S_1 := Lib.hid (hf.base B_0.out.size)
  have B_1 := Lib.hid (Below.next B_0.out bl)
  clear B_0
  clear bl hf
  go_wp2_with fail
  have bl := (Below.refl w1.heap.size w1).alloc (Nat.le_refl _) (.cells #[.int .i64 R, .int .i64 C, .slice bS yS.length capS] 27)
  have SB_2 := Lib.hid (Blk.new w1 27 #[.int .i64 R, .int .i64 C, .slice bS yS.length capS])
  have B_2 := Lib.hid (Below.next B_1.out bl)
  clear B_1
  have S_2 := Lib.hid (S_1.out.kept bl)
  clear S_1
  clear bl
  generalize w1.alloc (.cells #[.int .i64 R, .int .i64 C, .slice bS yS.length capS] 27) = w2 at B_2 S_2 SB_2 ⊢
  obtain ⟨pSB0, pSB1, pSB2, pSB3⟩ := tb SB_2.out
  try go_wp2_with fail
  clear pSB0 pSB1 pSB2 pSB3
  refine (CI.out  _ ).mono ?_
  rintro e w3 ⟨bG, capG, yG, rfl, hf, hyG, bl⟩
  have HYG := Lib.hid hyG
  clear hyG
  have NS := Lib.hid (OwnF.new_apart S_2.out hf)
  have LG := Lib.hid (hf.lenle HYG.out hz)
  have BG := Lib.hid (hf.base B_2.out.size)
  have G_3 := Lib.hid (hf.base B_2.out.size)
  have B_3 := Lib.hid (Below.next B_2.out bl)
  clear B_2
  have S_3 := Lib.hid (S_2.out.kept bl)
  clear S_2
  have SB_3 := Lib.hid (SB_2.out.below bl)
  clear SB_2
  clear bl hf
  obtain ⟨pSB0, pSB1, pSB2, pSB3⟩ := tb SB_3.out
  go_wp2_with fail
  clear pSB0 pSB1 pSB2 pSB3
  have bl := (Below.refl w3.heap.size w3).alloc (Nat.le_refl _) (.cells #[.int .i64 R, .int .i64 C, .slice bG yG.length capG] 27)
  have GB_4 := Lib.hid (Blk.new w3 27 #[.int .i64 R, .int .i64 C, .slice bG yG.length capG])
  have B_4 := Lib.hid (Below.next B_3.out bl)
  clear B_3
  have S_4 := Lib.hid (S_3.out.kept bl)
  clear S_3
  have SB_4 := Lib.hid (SB_3.out.below bl)
  clear SB_3
  have G_4 := Lib.hid (G_3.out.kept bl)
  clear G_3
  clear bl
  generalize w3.alloc (.cells #[.int .i64 R, .int .i64 C, .slice bG yG.length capG] 27) = w4 at B_4 S_4 SB_4 G_4 GB_4 ⊢
  obtain ⟨pSB0, pSB1, pSB2, pSB3⟩ := tb SB_4.out
  obtain ⟨pGB0, pGB1, pGB2, pGB3⟩ := tb GB_4.out
  try go_wp2_with fail
  clear pSB0 pSB1 pSB2 pSB3 pGB0 pGB1 pGB2 pGB3
  refine (c_eqTensor R C _ _ _ _ yG yS _ G_4.out.isFloats S_4.out.isFloats (HYG.out.trans HYS.out.symm)).mono ?_
  rintro e w5 ⟨rfl, bl⟩
  have B_5 := Lib.hid (Below.next B_4.out bl)
  clear B_4
  have S_5 := Lib.hid (S_4.out.kept bl)
  clear S_4
  have SB_5 := Lib.hid (SB_4.out.below bl)
  clear SB_4
  have G_5 := Lib.hid (G_4.out.kept bl)
  clear G_4
  have GB_5 := Lib.hid (GB_4.out.below bl)
  clear GB_4
  clear bl
  obtain ⟨pSB0, pSB1, pSB2, pSB3⟩ := tb SB_5.out
  obtain ⟨pGB0, pGB1, pGB2, pGB3⟩ := tb GB_5.out
  go_wp2_with fail
  clear pSB0 pSB1 pSB2 pSB3 pGB0 pGB1 pGB2 pGB3
  obtain ⟨q, hq⟩ : ∃ q, 1 + yG.length = q := ⟨_, rfl⟩
  have HQ := Lib.hid hq
  have hq' : q ≤ 4194304 := by have := LG.out; omega
  have hq0 : (0 : Int) ≤ (q : Int) := by omega
  clear hq
  refine (c_markTensor' R C _ _ _ 1 q yG _ G_5.out HQ.out (by decide) LG.out).mono ?_
  rintro e w6 ⟨rfl, ho, hg⟩
  have B_6 := Lib.hid (Below.grownBy B_5.out hg B_5.out.size (fun g h => (G_5.out.lt g h).1))
  have S_6 := Lib.hid (S_5.out.apart hg NS.out)
  have SB_6 := Lib.hid (SB_5.out.apart hg G_5.out (by decide))
  have G_6 := Lib.hid (ho)
  have GB_6 := Lib.hid (GB_5.out.apart hg G_5.out (by decide))
  clear B_5
  clear S_5
  clear SB_5
  clear G_5
  clear GB_5
  clear ho hg
  obtain ⟨pSB0, pSB1, pSB2, pSB3⟩ := tb SB_6.out
  obtain ⟨pGB0, pGB1, pGB2, pGB3⟩ := tb GB_6.out
  go_wp2_with fail
  clear pSB0 pSB1 pSB2 pSB3 pGB0 pGB1 pGB2 pGB3
  refine (c_heldTensor' R C _ _ 1 q yG.length _ G_6.out.held HQ.out (by decide) LG.out).mono ?_
  rintro e w7 ⟨rfl, bl⟩
  have B_7 := Lib.hid (Below.next B_6.out bl)
  clear B_6
  have S_7 := Lib.hid (S_6.out.kept bl)
  clear S_6
  have SB_7 := Lib.hid (SB_6.out.below bl)
  clear SB_6
  have G_7 := Lib.hid (G_6.out.kept bl)
  clear G_6
  have GB_7 := Lib.hid (GB_6.out.below bl)
  clear GB_6
  clear bl
  obtain ⟨pSB0, pSB1, pSB2, pSB3⟩ := tb SB_7.out
  obtain ⟨pGB0, pGB1, pGB2, pGB3⟩ := tb GB_7.out
  go_wp2_with fail
  clear pSB0 pSB1 pSB2 pSB3 pGB0 pGB1 pGB2 pGB3
  refine (CI.out  _ ).mono ?_
  rintro e w8 ⟨bH, capH, yH, rfl, hf, hyH, bl⟩
  have HYH := Lib.hid hyH
  clear hyH
  have H_8 := Lib.hid (hf.base B_7.out.size)
  have B_8 := Lib.hid (Below.next B_7.out bl)
  clear B_7
  have S_8 := Lib.hid (S_7.out.kept bl)
  clear S_7
  have SB_8 := Lib.hid (SB_7.out.below bl)
  clear SB_7
  have G_8 := Lib.hid (G_7.out.kept bl)
  clear G_7
  have GB_8 := Lib.hid (GB_7.out.below bl)
  clear GB_7
  clear bl hf
  obtain ⟨pSB0, pSB1, pSB2, pSB3⟩ := tb SB_8.out
  obtain ⟨pGB0, pGB1, pGB2, pGB3⟩ := tb GB_8.out
  go_wp2_with fail
  clear pSB0 pSB1 pSB2 pSB3 pGB0 pGB1 pGB2 pGB3
  have bl := (Below.refl w8.heap.size w8).alloc (Nat.le_refl _) (.cells #[.int .i64 R, .int .i64 C, .slice bH yH.length capH] 27)
  have HB_9 := Lib.hid (Blk.new w8 27 #[.int .i64 R, .int .i64 C, .slice bH yH.length capH])
  have B_9 := Lib.hid (Below.next B_8.out bl)
  clear B_8
  have S_9 := Lib.hid (S_8.out.kept bl)
  clear S_8
  have SB_9 := Lib.hid (SB_8.out.below bl)
  clear SB_8
  have G_9 := Lib.hid (G_8.out.kept bl)
  clear G_8
  have GB_9 := Lib.hid (GB_8.out.below bl)
  clear GB_8
  have H_9 := Lib.hid (H_8.out.kept bl)
  clear H_8
  clear bl
  generalize w8.alloc (.cells #[.int .i64 R, .int .i64 C, .slice bH yH.length capH] 27) = w9 at B_9 S_9 SB_9 G_9 GB_9 H_9 HB_9 ⊢
  obtain ⟨pSB0, pSB1, pSB2, pSB3⟩ := tb SB_9.out
  obtain ⟨pGB0, pGB1, pGB2, pGB3⟩ := tb GB_9.out
  obtain ⟨pHB0, pHB1, pHB2, pHB3⟩ := tb HB_9.out
  try go_wp2_with fail
  clear pSB0 pSB1 pSB2 pSB3 pGB0 pGB1 pGB2 pGB3 pHB0 pHB1 pHB2 pHB3
  refine (c_eqTensor R C _ _ _ _ yH yS _ H_9.out.isFloats S_9.out.isFloats (HYH.out.trans HYS.out.symm)).mono ?_
  rintro e w10 ⟨rfl, bl⟩
  have B_10 := Lib.hid (Below.next B_9.out bl)
  clear B_9
  have S_10 := Lib.hid (S_9.out.kept bl)
  clear S_9
  have SB_10 := Lib.hid (SB_9.out.below bl)
  clear SB_9
  have G_10 := Lib.hid (G_9.out.kept bl)
  clear G_9
  have GB_10 := Lib.hid (GB_9.out.below bl)
  clear GB_9
  have H_10 := Lib.hid (H_9.out.kept bl)
  clear H_9
  have HB_10 := Lib.hid (HB_9.out.below bl)
  clear HB_9
  clear bl
  obtain ⟨pSB0, pSB1, pSB2, pSB3⟩ := tb SB_10.out
  obtain ⟨pGB0, pGB1, pGB2, pGB3⟩ := tb GB_10.out
  obtain ⟨pHB0, pHB1, pHB2, pHB3⟩ := tb HB_10.out
  go_wp2_with fail
  clear pSB0 pSB1 pSB2 pSB3 pGB0 pGB1 pGB2 pGB3 pHB0 pHB1 pHB2 pHB3
  refine (c_heldTensor' R C _ _ 1 q yG.length _ G_10.out.held HQ.out (by decide) LG.out).mono ?_
  rintro e w11 ⟨rfl, bl⟩
  have B_11 := Lib.hid (Below.next B_10.out bl)
  clear B_10
  have S_11 := Lib.hid (S_10.out.kept bl)
  clear S_10
  have SB_11 := Lib.hid (SB_10.out.below bl)
  clear SB_10
  have G_11 := Lib.hid (G_10.out.kept bl)
  clear G_10
  have GB_11 := Lib.hid (GB_10.out.below bl)
  clear GB_10
  have H_11 := Lib.hid (H_10.out.kept bl)
  clear H_10
  have HB_11 := Lib.hid (HB_10.out.below bl)
  clear HB_10
  clear bl
  obtain ⟨pSB0, pSB1, pSB2, pSB3⟩ := tb SB_11.out
  obtain ⟨pGB0, pGB1, pGB2, pGB3⟩ := tb GB_11.out
  obtain ⟨pHB0, pHB1, pHB2, pHB3⟩ := tb HB_11.out
  go_wp2_with fail
  clear pSB0 pSB1 pSB2 pSB3 pGB0 pGB1 pGB2 pGB3 pHB0 pHB1 pHB2 pHB3
  go_ret
  exact ⟨rfl, B_11.out⟩

theorem walk (a0 : Int) (a1 : Int) (a2 : Nat) (w : World) (w0 : (Lit.int .i64 a0).wf = true) (w1 : (Lit.int .i64 a1).wf = true) (w2 : (Lit.float .f32 a2).wf = true) :
    Calls Try.prog 4 #[.int .i64 a0, .int .i64 a1, .float .f32 a2] w fun e w' => e = .returned (.bool true) ∧ Below w.heap.size w w' := by
  exact core a0 a1 a2    w  (vFilledTensor a0 a1 a2).1 (vFilledTensor a0 a1 a2).2.1 (vFilledTensor a0 a1 a2).2.2.1 (vFilledTensor a0 a1 a2).2.2.2  (vFilledTensor_len a0 a1 a2) (fun  w  => t_sFilledTensor a0 a1 a2   w  (lt32 w2)) (fun  w  => t_iFilledTensor a0 a1 a2   w  (lt32 w2))

/-! the row's step -/
set_option maxRecDepth 100000 in
theorem lifted (os : Os) (started : os.Started) (H : Type) (enc : TypeId × Value → H) :
    ReturnsInHanded {} Try.checked os 4 .any (Rows.fnExactFilledTensorSpec.pre6 enc Try.prog Try.f4 Rows.fnExactFilledTensorRow.domain false) (Rows.fnExactFilledTensorSpec.post enc Try.prog Try.f4 false true false false) := by
  refine returnsInHanded_of_change (C := Try.checked) own started (by kernel_rfl) Try.func4
    (ChangeSpec.witness6 (enc := enc) (C := Try.checked) false ⟨#[], #[.int .i64 0, .int .i64 0, .float .f32 0], []⟩ 8 (by kernel_rfl) (by kernel_rfl) (by kernel_rfl) (by kernel_rfl)) ?_
  intro W base args ds gs before hval0 hW hcnd _
  have hval : ∀ (j : Nat) t v, Try.f4.params[j]? = some t → args[j]? = some v → Value.okWide Try.prog W .any base t v := hval0
  have hW' := hW
  obtain ⟨p, q, hA0, hV, rfl, hfz, hnd⟩ := hW
  have hA : DataW.TrodAll enc Try.prog W 0 (fun _ => true) true Try.f4.params.toList args.toList ds p := hA0
  rw [Try.params4] at hA hval
  obtain ⟨v0, vs0, d0, ds0, p0, q0, hargs, rfl, rfl, h0, rest0⟩ := trodAll_cons hA
  obtain ⟨v1, vs1, d1, ds1, p1, q1, rfl, rfl, rfl, h1, rest1⟩ := trodAll_cons rest0
  obtain ⟨v2, vs2, d2, ds2, p2, q2, rfl, rfl, rfl, h2, rest2⟩ := trodAll_cons rest1
  obtain ⟨rfl, rfl, rfl⟩ := trodAll_nil rest2
  obtain rfl : args = #[v0, v1, v2] := by cases args; simp_all
  obtain ⟨rfl, rfl⟩ := trodVars_none hV
  obtain ⟨a0, rfl, rfl, rfl, w0⟩ := open_int Try.underlying2 (hval 0 2 v0 rfl rfl) h0
  obtain ⟨a1, rfl, rfl, rfl, w1⟩ := open_int Try.underlying2 (hval 1 2 v1 rfl rfl) h1
  obtain ⟨a2, rfl, rfl, rfl, w2⟩ := open_float Try.underlying31 (hval 2 31 v2 rfl rfl) h2
  clear hA0 hval0
  refine (walk a0 a1 a2 W w0 w1 w2).mono fun e W' ⟨he, bel⟩ => ?_
  subst he
  exact ⟨_, rfl, _, _, _, [], _, [], hW', trodAll_mk1 (shut_bool Try.underlying4 _), (trodAll_cons_mk (shut_int Try.underlying2 w0) (trodAll_cons_mk (shut_int Try.underlying2 w1) (trodAll_cons_mk (shut_float Try.underlying31 w2) trodAll_mk0))), rfl, bel.frame _, fun h => by cases h⟩

theorem over : Rows.fnExactFilledTensorRow.holds Try.pinned (OpenSpec.ofChange Rows.fnExactFilledTensorSpec) :=
  OpenClaim.holds_of_wide 4 Try.f4 rfl rfl rfl rfl rfl rfl rfl ⟨rfl, rfl, rfl, rfl, rfl⟩ rfl rfl rfl rfl rfl (by kernel_rfl) Try.func4 (by kernel_rfl)
    (of_decide_eq_true (by kernel_rfl)) (by unfold Func.isWrapper; first | (rw [if_pos (by decide +kernel)]; kernel_rfl) | (rw [if_neg (by decide +kernel)]; exact ⟨rfl, rfl⟩))
    (fun os started H enc _ => lifted os started H enc)

/-- the statement -/
theorem proved : Rows.FnExactFilledTensorSaid := over
end Go.Proofs.Ytijjmljdkpdigaa.fnExactFilledTensor
