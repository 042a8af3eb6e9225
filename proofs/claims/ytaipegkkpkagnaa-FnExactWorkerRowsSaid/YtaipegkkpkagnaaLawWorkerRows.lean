/-
  WorkerRows answers as its model, in lists of its own. Conditions: none.
-/
import Derived.Test.YtaipegkkpkagnaaCls
import Derived.Test.YtaipegkkpkagnaaIls
import Derived.Test.YtaipegkkpkagnaaWks
import Derived.ChangeOld
import Derived.Below
namespace Go.Proofs.Ytaipegkkpkagnaa.fnExactWorkerRows
open Go.ChangeShapes Go.WideShapes Go.ChangeAt Go.RowKit
open Go.ChangeMaps (open_string shut_string)
set_option linter.unusedVariables false

set_option maxHeartbeats 4000000 in
set_option maxRecDepth 100000 in
/-- for any contracts of the model and of the program that say the same -/
theorem core (v0 : Int) (v1 : Int)   (w : World)  (b : Bool) (zs : List (List Int))  (hz : zs.length + cntZI zs ≤ 1048576) (hwz : wfZ zs)
    (CS' : ∀  (w : World), Calls Try.prog 21 #[.int .i64 v0, .int .i64 v1] w (RetIl b zs w))
    (CI' : ∀  (w : World), Calls Try.prog 22 #[.int .i64 v0, .int .i64 v1] w (RetIl b zs w)) :
    Calls Try.prog 5 #[.int .i64 v0, .int .i64 v1] w fun e w' => e = .returned (.bool true) ∧ Below w.heap.size w w' := by
  have HWZ := Lib.hid hwz
  have CS := Lib.hid CS'
  have CI := Lib.hid CI'
  clear  CS' CI'  
  go_enter Try.func5, Try.ntmps5
  go_wp2_with fail
  have B_0 := Lib.hid (Below.refl w.heap.size w)
  go_wp2_with fail
  refine (CS.out  _ ).mono ?_
  rintro e w1 ⟨gS, capS, yS, rfl, ho, hnd, hy, bl⟩
  have HYS := Lib.hid hy
  have S_1 := Lib.hid (OwnL.base B_0.out.size _ ho)
  have B_1 := Lib.hid (Below.next B_0.out bl)
  clear B_0
  clear ho hnd hy
  clear bl
  go_wp2_with fail
  refine (CI.out  _ ).mono ?_
  rintro e w2 ⟨gG, capG, yG, rfl, ho, hnd, hy, bl⟩
  have HYG := Lib.hid hy
  have D_G_S := Lib.hid (apart_new S_1.out ho)
  have NDG := Lib.hid hnd
  have LG := Lib.hid (retIl_bound hy hz)
  have G_2 := Lib.hid (OwnL.base B_1.out.size _ ho)
  have B_2 := Lib.hid (Below.next B_1.out bl)
  clear B_1
  have S_2 := Lib.hid (OwnL.kept S_1.out bl)
  clear S_1
  clear ho hnd hy
  clear bl
  go_wp2_with fail
  refine (c_eqIls' _ _ _ _ yG yS _ (ilsAt_own rfl G_2.out (wf_of HYG.out HWZ.out)) (ilsAt_own rfl S_2.out (wf_of HYS.out HWZ.out)) (HYG.out.trans HYS.out.symm)).mono ?_
  rintro e w3 ⟨rfl, bl⟩
  have B_3 := Lib.hid (Below.next B_2.out bl)
  clear B_2
  have S_3 := Lib.hid (OwnL.kept S_2.out bl)
  clear S_2
  have G_3 := Lib.hid (OwnL.kept G_2.out bl)
  clear G_2
  clear bl
  go_wp2_with fail
  obtain ⟨q, hq⟩ : ∃ q, 1 + cntIl yG = q := ⟨_, rfl⟩
  have HQ := Lib.hid hq
  have hq' : q ≤ 4194304 := by have := LG.out; omega
  have hq0 : (0 : Int) ≤ (q : Int) := by omega
  clear hq
  refine (c_markIls _ _ _ 1 q _ yG _ (wf_of HYG.out HWZ.out) rfl G_3.out NDG.out HQ.out hq' LG.out.2.1 LG.out.2.2).mono ?_
  rintro e w4 ⟨rfl, ho, hg⟩
  have B_4 := Lib.hid (hg.below' B_3.out (fun g h => (OwnL.lt _ G_3.out g h).1))
  have S_4 := Lib.hid (OwnL.apart hg _ S_3.out D_G_S.out)
  have G_4 := Lib.hid (ho)
  clear B_3
  clear S_3
  clear G_3
  clear ho hg
  go_wp2_with fail
  refine (c_heldIls _ _ _ 1 q yG _ rfl (held_il rfl G_4.out (by have := HQ.out; omega) LG.out.2.1) HQ.out hq' LG.out.2.1 LG.out.2.2).mono ?_
  rintro e w' ⟨rfl, rfl⟩
  go_wp2_with fail
  refine (CI.out  _ ).mono ?_
  rintro e w5 ⟨gH, capH, yH, rfl, ho, hnd, hy, bl⟩
  have HYH := Lib.hid hy
  have H_5 := Lib.hid (OwnL.base B_4.out.size _ ho)
  have B_5 := Lib.hid (Below.next B_4.out bl)
  clear B_4
  have S_5 := Lib.hid (OwnL.kept S_4.out bl)
  clear S_4
  have G_5 := Lib.hid (OwnL.kept G_4.out bl)
  clear G_4
  clear ho hnd hy
  clear bl
  go_wp2_with fail
  refine (c_eqIls' _ _ _ _ yH yS _ (ilsAt_own rfl H_5.out (wf_of HYH.out HWZ.out)) (ilsAt_own rfl S_5.out (wf_of HYS.out HWZ.out)) (HYH.out.trans HYS.out.symm)).mono ?_
  rintro e w6 ⟨rfl, bl⟩
  have B_6 := Lib.hid (Below.next B_5.out bl)
  clear B_5
  have S_6 := Lib.hid (OwnL.kept S_5.out bl)
  clear S_5
  have G_6 := Lib.hid (OwnL.kept G_5.out bl)
  clear G_5
  have H_6 := Lib.hid (OwnL.kept H_5.out bl)
  clear H_5
  clear bl
  go_wp2_with fail
  refine (c_heldIls _ _ _ 1 q yG _ rfl (held_il rfl G_6.out (by have := HQ.out; omega) LG.out.2.1) HQ.out hq' LG.out.2.1 LG.out.2.2).mono ?_
  rintro e w' ⟨rfl, rfl⟩
  go_wp2_with fail
  go_ret
  exact ⟨rfl, B_6.out⟩

theorem walk (a0 : Int) (a1 : Int) (w : World) (w0 : (Lit.int .i64 a0).wf = true) (w1 : (Lit.int .i64 a1).wf = true) :
    Calls Try.prog 5 #[.int .i64 a0, .int .i64 a1] w fun e w' => e = .returned (.bool true) ∧ Below w.heap.size w w' := by
  obtain ⟨v0, rfl⟩ : ∃ v, v = a0 := ⟨_, rfl⟩
  obtain ⟨v1, rfl⟩ : ∃ v, v = a1 := ⟨_, rfl⟩
  exact core v0 v1   w  (vWorkerRows v0 v1).1 (vWorkerRows v0 v1).2  (vWorkerRows_len v0 v1) (vWorkerRows_wf v0 v1) (fun   w   => t_sWorkerRows v0 v1 w  ) (fun   w   => t_iWorkerRows v0 v1 w  )

/-! the row's step -/
set_option maxRecDepth 100000 in
theorem lifted (os : Os) (started : os.Started) (H : Type) (enc : TypeId × Value → H) :
    ReturnsInHanded {} Try.checked os 5 .any (Rows.fnExactWorkerRowsSpec.pre6 enc Try.prog Try.f5 Rows.fnExactWorkerRowsRow.domain false) (Rows.fnExactWorkerRowsSpec.post enc Try.prog Try.f5 false true false false) := by
  refine returnsInHanded_of_change (C := Try.checked) own started (by kernel_rfl) Try.func5
    (ChangeSpec.witness6 (enc := enc) (C := Try.checked) false ⟨#[], #[.int .i64 0, .int .i64 0], []⟩ 8 (by kernel_rfl) (by kernel_rfl) (by kernel_rfl) (by kernel_rfl)) ?_
  intro W base args ds gs before hval0 hW hcnd _
  have hval : ∀ (j : Nat) t v, Try.f5.params[j]? = some t → args[j]? = some v → Value.okWide Try.prog W .any base t v := hval0
  have hW' := hW
  obtain ⟨p, q, hA0, hV, rfl, hfz, hnd⟩ := hW
  have hA : DataW.TrodAll enc Try.prog W 0 (fun _ => true) true Try.f5.params.toList args.toList ds p := hA0
  rw [Try.params5] at hA hval
  obtain ⟨v0, vs0, d0, ds0, p0, q0, hargs, rfl, rfl, h0, rest0⟩ := trodAll_cons hA
  obtain ⟨v1, vs1, d1, ds1, p1, q1, rfl, rfl, rfl, h1, rest1⟩ := trodAll_cons rest0
  obtain ⟨rfl, rfl, rfl⟩ := trodAll_nil rest1
  obtain rfl : args = #[v0, v1] := by cases args; simp_all
  obtain ⟨rfl, rfl⟩ := trodVars_none hV
  obtain ⟨a0, rfl, rfl, rfl, w0⟩ := open_int Try.underlying2 (hval 0 2 v0 rfl rfl) h0
  obtain ⟨a1, rfl, rfl, rfl, w1⟩ := open_int Try.underlying2 (hval 1 2 v1 rfl rfl) h1
  clear hA0 hval0
  refine (walk a0 a1 W w0 w1).mono fun e W' ⟨he, bel⟩ => ?_
  subst he
  exact ⟨_, rfl, _, _, _, [], _, [], hW', trodAll_mk1 (shut_bool Try.underlying4 _), (trodAll_cons_mk (shut_int Try.underlying2 w0) (trodAll_cons_mk (shut_int Try.underlying2 w1) trodAll_mk0)), rfl, bel.frame _, fun h => by cases h⟩

theorem named_ : Try.pinned.checked.prog.funcNamed Rows.fnExactWorkerRowsRow.func = some 5 := by kernel_rfl
theorem fk1 : (Rows.fnExactWorkerRowsRow.wf (OpenSpec.ofChange Rows.fnExactWorkerRowsSpec)) = true := by kernel_rfl
theorem fk4 : (Try.f5.params.all (Try.pinned.checked.prog.readableRec ·)) = true := by kernel_rfl
theorem fk5 : (namedTie Try.pinned.checked.prog Rows.fnExactWorkerRowsRow.named Rows.fnExactWorkerRowsSpec.vars) = true := by kernel_rfl
theorem fk6 : ((Rows.fnExactWorkerRowsRow.stops == [])) = true := by kernel_rfl
theorem fk8 : ((Rows.fnExactWorkerRowsRow.knobs == [])) = true := by kernel_rfl
theorem fk10 : ((Rows.fnExactWorkerRowsRow.inPlace == Try.pinned.checked.prog.inPlace 5)) = true := by kernel_rfl
theorem fk11 : ((Rows.fnExactWorkerRowsRow.unfollowed == Try.pinned.checked.prog.unfollowed 5)) = true := by kernel_rfl
theorem fk12 : ((Rows.fnExactWorkerRowsRow.recurses == Try.pinned.checked.prog.recurses 5)) = true := by kernel_rfl
theorem fk13 : ((Rows.fnExactWorkerRowsRow.named == Try.pinned.checked.prog.varsNamed 5)) = true := by kernel_rfl
theorem fk14 : ((Rows.fnExactWorkerRowsRow.maps == (Try.f5.params.toList ++ Rows.fnExactWorkerRowsSpec.plain.varTypes Try.pinned.checked.prog).any (Try.pinned.checked.prog.mapsRec ·))) = true := by kernel_rfl
theorem fk15 : ((Rows.fnExactWorkerRowsRow.ifaces == (Try.f5.params.toList ++ Rows.fnExactWorkerRowsSpec.plain.varTypes Try.pinned.checked.prog).any (Try.pinned.checked.prog.ifacesRec ·))) = true := by kernel_rfl
theorem fk16 : ((Rows.fnExactWorkerRowsRow.mapsOut == Try.pinned.checked.prog.mapsAmong Try.f5.resultTypes.toList)) = true := by kernel_rfl
theorem fk17 : ((Rows.fnExactWorkerRowsRow.loops == (Try.f5.params.toList ++ Rows.fnExactWorkerRowsSpec.plain.varTypes Try.pinned.checked.prog).any (Try.pinned.checked.prog.loopsFrom ·))) = true := by kernel_rfl
theorem fk18 : ((Rows.fnExactWorkerRowsRow.wideKeys == (Try.f5.params.toList ++ Rows.fnExactWorkerRowsSpec.plain.varTypes Try.pinned.checked.prog ++ Try.f5.resultTypes.toList).any (Try.pinned.checked.prog.wideKeysFrom ·))) = true := by kernel_rfl
theorem fk19 : (Rows.fnExactWorkerRowsSpec.vars.all (Try.pinned.checked.prog.varReadable ·)) = true := by kernel_rfl
theorem fk20 : (Try.f5.resultTypes.all (fun t => Try.pinned.checked.prog.readableRec t && decide (t < Try.pinned.checked.prog.types.size))) = true := by kernel_rfl
theorem fk21 : ((Rows.fnExactWorkerRowsRow.ifacesOut == Try.f5.resultTypes.toList.any (Try.pinned.checked.prog.ifacesRec ·))) = true := by kernel_rfl
theorem fk22 : ((Rows.fnExactWorkerRowsRow.loopsOut == Try.f5.resultTypes.toList.any (Try.pinned.checked.prog.loopsFrom ·))) = true := by kernel_rfl
theorem fk23 : (Rows.fnExactWorkerRowsRow.plainKeys == Try.pinned.checked.prog.plainKeys) = true := by rw [cls_keys]; kernel_rfl
theorem fk24 : (Rows.fnExactWorkerRowsRow.shortTexts.isNone) = true := by kernel_rfl
theorem fk27 : (Rows.fnExactWorkerRowsRow.lifted == Try.pinned.checked.prog.liftsFinal) = true := by rw [cls_lift]; kernel_rfl
theorem fk28 : (Try.pinned.checked.prog.make == some Rows.fnExactWorkerRowsRow.make) = true := by rw [cls_make]; kernel_rfl
theorem fk29 : ((Rows.fnExactWorkerRowsRow.kinds == (if Rows.fnExactWorkerRowsRow.domain.isEmpty then [] else Try.f5.params.toList.map fun t => match Try.pinned.checked.prog.underlying t with | some (.int k) => some k | _ => none))) = true := by kernel_rfl
theorem fk30 : ((Rows.fnExactWorkerRowsRow.pinned == Rows.fnExactWorkerRowsRow.pinnedBy)) = true := by kernel_rfl
theorem fk31 : ((Rows.fnExactWorkerRowsRow.veiled == (Try.f5.params.toList ++ Rows.fnExactWorkerRowsSpec.plain.varTypes Try.pinned.checked.prog ++ Try.f5.resultTypes.toList).any (Try.pinned.checked.prog.veiledRec ·))) = true := by kernel_rfl
theorem fk32 : (Rows.fnExactWorkerRowsRow.veiledFits Try.pinned.checked.prog Try.f5.params.toList (Try.f5.params.toList ++ Rows.fnExactWorkerRowsSpec.plain.varTypes Try.pinned.checked.prog ++ Try.f5.resultTypes.toList)) = true := by kernel_rfl
set_option maxRecDepth 100000 in
theorem closed : joinedFacts Try.pinned.checked.prog 5 Try.f5 Rows.fnExactWorkerRowsSpec Rows.fnExactWorkerRowsRow = true := (and2 (and2 (and2 (and2 (and2 (and2 (and2 (and2 (and2 (and2 (and2 (and2 (and2 (and2 (and2 (and2 (and2 (and2 (and2 (and2 (and2 (and2 (and2 (and2 (and2 (and2 (and2 (and2 (and2 (and2 (and2 fk1 cls_laid) cls_maps) fk4) fk5) fk6) cls_stops) fk8) cls_knobs) fk10) fk11) fk12) fk13) fk14) fk15) fk16) fk17) fk18) fk19) fk20) fk21) fk22) fk23) fk24) cls_heard) cls_enter) fk27) fk28) fk29) fk30) fk31) fk32)
theorem over : Rows.fnExactWorkerRowsRow.holds Try.pinned (OpenSpec.ofChange Rows.fnExactWorkerRowsSpec) :=
  OpenClaim.holds_of_wide 5 Try.f5 rfl rfl rfl rfl rfl rfl rfl ⟨rfl, rfl, rfl, rfl, rfl⟩ rfl rfl rfl rfl rfl named_ Try.func5 closed
    (of_decide_eq_true (by kernel_rfl)) (by unfold Func.isWrapper; first | (rw [if_pos (by decide +kernel)]; kernel_rfl) | (rw [if_neg (by decide +kernel)]; exact ⟨rfl, rfl⟩))
    (fun os started H enc _ => lifted os started H enc)

/-- the statement -/
theorem proved : Rows.FnExactWorkerRowsSaid := over
end Go.Proofs.Ytaipegkkpkagnaa.fnExactWorkerRows
