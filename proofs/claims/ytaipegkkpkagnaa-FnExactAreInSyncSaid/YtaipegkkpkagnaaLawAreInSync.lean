/-
  AreInSync answers as its model. Conditions: none; models over the laws' own bound are passed over by the law itself.
-/
import Derived.Test.YtaipegkkpkagnaaCls
import Derived.Test.YtaipegkkpkagnaaAiu
import Derived.ChangeOld
import Derived.Below
namespace Go.Proofs.Ytaipegkkpkagnaa.fnExactAreInSync
open Go.ChangeShapes Go.WideShapes Go.ChangeAt Go.RowKit
open Go.ChangeMaps (open_string shut_string)
set_option linter.unusedVariables false

set_option maxHeartbeats 4000000 in
set_option maxRecDepth 100000 in
/-- for any contracts of the model and of the program that say the same -/
theorem core (ls0 : List ModA) (g0 : Option Addr) (c0 : Nat) (w : World) (w0' : MdsAt w g0 ls0.length c0 ls0) (b : Bool) (hL0 : (ls0.length + cntMd ls0) ≤ 1048576) 
    (CS' : ∀ (g0 : Option Addr) (c0 : Nat) (y0 : List ModA) (w : World), (y0.map ModA.P = ls0.map ModA.P) → (MdsAt w g0 ls0.length c0 y0) → Calls Try.prog 27 #[.slice g0 ls0.length c0] w (RetB b w))
    (CI' : ∀ (g0 : Option Addr) (c0 : Nat) (y0 : List ModA) (w : World), (y0.map ModA.P = ls0.map ModA.P) → (MdsAt w g0 ls0.length c0 y0) → Calls Try.prog 29 #[.slice g0 ls0.length c0] w (RetB b w)) :
    Calls Try.prog 6 #[.slice g0 ls0.length c0] w fun e w' => e = .returned (.bool true) ∧ Below w.heap.size w w' := by
  have HS0 := Lib.hid w0'
  have HZ0 := Lib.hid (show ls0.length + cntMd ls0 ≤ 1048576 by omega)
  have CS := Lib.hid CS'
  have CI := Lib.hid CI'
  obtain ⟨l0, hl0⟩ : ∃ l, 1048576 - (ls0.length + cntMd ls0) = l := ⟨_, rfl⟩
  have hl0' : l0 ≤ 1048576 := by omega
  have HQ0 := Lib.hid (show ls0.length + cntMd ls0 ≤ 1048576 by omega)
  have HE0 := Lib.hid hl0
  have hp0 : (0 : Int) ≤ (l0 : Int) := by omega
  clear w0' CS' CI' hl0 hL0
  go_enter Try.func6, Try.ntmps6
  go_wp2_with fail
  have B_0 := Lib.hid (Below.refl w.heap.size w)
  refine (c_szMds _ _ _ _ _ ls0 _ (HS0.out.kept B_0.out) (Nat.le_refl _) HQ0.out HE0.out).mono ?_
  rintro e w1 ⟨rfl, bl⟩
  have B_1 := Lib.hid (Below.next B_0.out bl)
  clear B_0
  clear bl
  go_wp2_with fail
  refine (c_toMds _ _ _ ls0 _ (HS0.out.kept B_1.out) HZ0.out).mono ?_
  rintro e w2 ⟨gT0, yT0, rfl, hl, hp, ho, hnd, bl⟩
  have HPT0 := Lib.hid hp
  have HLT0 := Lib.hid hl
  have T0_2 := Lib.hid (OwnL.base B_1.out.size _ ho)
  have B_2 := Lib.hid (Below.next B_1.out bl)
  clear B_1
  clear hl hp ho hnd
  clear bl
  go_wp2_with fail
  refine (CS.out _ _ yT0 _ HPT0.out (mdsAt_owns HLT0.out T0_2.out)).mono ?_
  rintro e w3 ⟨rfl, bl⟩
  have B_3 := Lib.hid (Below.next B_2.out bl)
  clear B_2
  have T0_3 := Lib.hid (OwnL.kept T0_2.out bl)
  clear T0_2
  clear bl
  clear T0_3
  go_wp2_with fail
  refine (c_toMds _ _ _ ls0 _ (HS0.out.kept B_3.out) HZ0.out).mono ?_
  rintro e w4 ⟨gX0, yX0, rfl, hl, hp, ho, hnd, bl⟩
  have HPX0 := Lib.hid hp
  have HLX0 := Lib.hid hl
  have X0_4 := Lib.hid (OwnL.base B_3.out.size _ ho)
  have B_4 := Lib.hid (Below.next B_3.out bl)
  clear B_3
  clear hl hp ho hnd
  clear bl
  go_wp2_with fail
  refine (CI.out _ _ yX0 _ HPX0.out (mdsAt_owns HLX0.out X0_4.out)).mono ?_
  rintro e w5 ⟨rfl, bl⟩
  have B_5 := Lib.hid (Below.next B_4.out bl)
  clear B_4
  have X0_5 := Lib.hid (OwnL.kept X0_4.out bl)
  clear X0_4
  clear bl
  go_wp2_with fail
  refine (c_toMds _ _ _ ls0 _ (HS0.out.kept B_5.out) HZ0.out).mono ?_
  rintro e w6 ⟨gY0, yY0, rfl, hl, hp, ho, hnd, bl⟩
  have HPY0 := Lib.hid hp
  have HLY0 := Lib.hid hl
  have Y0_6 := Lib.hid (OwnL.base B_5.out.size _ ho)
  have B_6 := Lib.hid (Below.next B_5.out bl)
  clear B_5
  have X0_6 := Lib.hid (OwnL.kept X0_5.out bl)
  clear X0_5
  clear hl hp ho hnd
  clear bl
  go_wp2_with fail
  refine (c_eqMds _ _ _ _ _ yX0 yY0 _ (mdsAt_owns HLX0.out X0_6.out) (mdsAt_owns HLY0.out Y0_6.out) (id (HPX0.out.trans HPY0.out.symm))).mono ?_
  rintro e w7 ⟨rfl, bl⟩
  have B_7 := Lib.hid (Below.next B_6.out bl)
  clear B_6
  have X0_7 := Lib.hid (OwnL.kept X0_6.out bl)
  clear X0_6
  have Y0_7 := Lib.hid (OwnL.kept Y0_6.out bl)
  clear Y0_6
  clear bl
  clear Y0_7
  go_wp2_with fail
  go_ret
  exact ⟨rfl, B_7.out⟩

theorem walk (v0 : Value) (w : World) (w0 : ∃ (g : Option Addr) (c : Nat) (ls : List ModA), v0 = .slice g ls.length c ∧ MdsAt w g ls.length c ls) :
    Calls Try.prog 6 #[v0] w fun e w' => e = .returned (.bool true) ∧ Below w.heap.size w w' := by
  obtain ⟨g0, c0, ls0, rfl, w0⟩ := w0
  by_cases hL0 : (ls0.length + cntMd ls0) ≤ 1048576
  case neg =>
    have HN := Lib.hid (show 1048576 < ls0.length + cntMd ls0 by omega)
    have HS := Lib.hid w0
    have bl := Lib.hid ((Below.refl w.heap.size w))
    clear hL0 w0
    go_enter Try.func6, Try.ntmps6
    go_wp2_with fail
    refine (c_szMds_no _ _ _ 1048576 ls0 _ (HS.out.kept bl.out) (Nat.le_refl _) HN.out).mono ?_
    rintro e w1 ⟨rfl, hb⟩
    have HB := Lib.hid (Below.next bl.out hb)
    clear hb bl
    go_wp2
    go_ret
    exact ⟨rfl, HB.out⟩
  case pos =>
    exact core ls0 g0 c0 w w0 (vAreInSync (ls0.map ModA.P)) hL0  (fun g0_ c0_ y0_ w hp0 h0 => tt_sAreInSync (ls0.map ModA.P) ls0.length g0_ c0_ y0_ w hp0 h0) (fun g0_ c0_ y0_ w hp0 h0 => tt_iAreInSync (ls0.map ModA.P) ls0.length g0_ c0_ y0_ w hp0 h0)

/-! the row's step -/
set_option maxRecDepth 100000 in
theorem lifted (os : Os) (started : os.Started) (H : Type) (enc : TypeId × Value → H) :
    ReturnsInHanded {} Try.checked os 6 .any (Rows.fnExactAreInSyncSpec.pre6 enc Try.prog Try.f6 Rows.fnExactAreInSyncRow.domain false) (Rows.fnExactAreInSyncSpec.post enc Try.prog Try.f6 false true false false) := by
  refine returnsInHanded_of_change (C := Try.checked) own started (by kernel_rfl) Try.func6
    (ChangeSpec.witness6 (enc := enc) (C := Try.checked) false ⟨#[], #[.slice none 0 0], []⟩ 8 (by kernel_rfl) (by kernel_rfl) (by kernel_rfl) (by kernel_rfl)) ?_
  intro W base args ds gs before hval0 hW hcnd _
  have hval : ∀ (j : Nat) t v, Try.f6.params[j]? = some t → args[j]? = some v → Value.okWide Try.prog W .any base t v := hval0
  have hW' := hW
  obtain ⟨p, q, hA0, hV, rfl, hfz, hnd⟩ := hW
  have hA : DataW.TrodAll enc Try.prog W 0 (fun _ => true) true Try.f6.params.toList args.toList ds p := hA0
  rw [Try.params6] at hA hval
  obtain ⟨v0, vs0, d0, ds0, p0, q0, hargs, rfl, rfl, h0, rest0⟩ := trodAll_cons hA
  obtain ⟨rfl, rfl, rfl⟩ := trodAll_nil rest0
  obtain rfl : args = #[v0] := by cases args; simp_all
  obtain ⟨rfl, rfl⟩ := trodVars_none hV
  have k0 := h0
  have lt0 : ∀ x ∈ p0, x.block < W.heap.size := by obtain ⟨m, hm⟩ := k0; exact DataW.trod_lt m _ _ _ hm
  have w0 := open_Mds (hval 0 63 v0 rfl rfl) h0
  clear hA0 hval0
  refine (walk _ W w0).mono fun e W' ⟨he, bel⟩ => ?_
  subst he
  exact ⟨_, rfl, _, _, _, [], _, [], hW', trodAll_mk1 (shut_bool Try.underlying4 _), (trodAll_cons_mk (Below.trod laidOut (by kernel_rfl) (of_decide_eq_true (by kernel_rfl)) k0 bel lt0) trodAll_mk0), rfl, bel.frame _, fun h => by cases h⟩

theorem named_ : Try.pinned.checked.prog.funcNamed Rows.fnExactAreInSyncRow.func = some 6 := by kernel_rfl
theorem fk1 : (Rows.fnExactAreInSyncRow.wf (OpenSpec.ofChange Rows.fnExactAreInSyncSpec)) = true := by kernel_rfl
theorem fk4 : (Try.f6.params.all (Try.pinned.checked.prog.readableRec ·)) = true := by kernel_rfl
theorem fk5 : (namedTie Try.pinned.checked.prog Rows.fnExactAreInSyncRow.named Rows.fnExactAreInSyncSpec.vars) = true := by kernel_rfl
theorem fk6 : ((Rows.fnExactAreInSyncRow.stops == [])) = true := by kernel_rfl
theorem fk8 : ((Rows.fnExactAreInSyncRow.knobs == [])) = true := by kernel_rfl
theorem fk10 : ((Rows.fnExactAreInSyncRow.inPlace == Try.pinned.checked.prog.inPlace 6)) = true := by kernel_rfl
theorem fk11 : ((Rows.fnExactAreInSyncRow.unfollowed == Try.pinned.checked.prog.unfollowed 6)) = true := by kernel_rfl
theorem fk12 : ((Rows.fnExactAreInSyncRow.recurses == Try.pinned.checked.prog.recurses 6)) = true := by kernel_rfl
theorem fk13 : ((Rows.fnExactAreInSyncRow.named == Try.pinned.checked.prog.varsNamed 6)) = true := by kernel_rfl
theorem fk14 : ((Rows.fnExactAreInSyncRow.maps == (Try.f6.params.toList ++ Rows.fnExactAreInSyncSpec.plain.varTypes Try.pinned.checked.prog).any (Try.pinned.checked.prog.mapsRec ·))) = true := by kernel_rfl
theorem fk15 : ((Rows.fnExactAreInSyncRow.ifaces == (Try.f6.params.toList ++ Rows.fnExactAreInSyncSpec.plain.varTypes Try.pinned.checked.prog).any (Try.pinned.checked.prog.ifacesRec ·))) = true := by kernel_rfl
theorem fk16 : ((Rows.fnExactAreInSyncRow.mapsOut == Try.pinned.checked.prog.mapsAmong Try.f6.resultTypes.toList)) = true := by kernel_rfl
theorem fk17 : ((Rows.fnExactAreInSyncRow.loops == (Try.f6.params.toList ++ Rows.fnExactAreInSyncSpec.plain.varTypes Try.pinned.checked.prog).any (Try.pinned.checked.prog.loopsFrom ·))) = true := by kernel_rfl
theorem fk18 : ((Rows.fnExactAreInSyncRow.wideKeys == (Try.f6.params.toList ++ Rows.fnExactAreInSyncSpec.plain.varTypes Try.pinned.checked.prog ++ Try.f6.resultTypes.toList).any (Try.pinned.checked.prog.wideKeysFrom ·))) = true := by kernel_rfl
theorem fk19 : (Rows.fnExactAreInSyncSpec.vars.all (Try.pinned.checked.prog.varReadable ·)) = true := by kernel_rfl
theorem fk20 : (Try.f6.resultTypes.all (fun t => Try.pinned.checked.prog.readableRec t && decide (t < Try.pinned.checked.prog.types.size))) = true := by kernel_rfl
theorem fk21 : ((Rows.fnExactAreInSyncRow.ifacesOut == Try.f6.resultTypes.toList.any (Try.pinned.checked.prog.ifacesRec ·))) = true := by kernel_rfl
theorem fk22 : ((Rows.fnExactAreInSyncRow.loopsOut == Try.f6.resultTypes.toList.any (Try.pinned.checked.prog.loopsFrom ·))) = true := by kernel_rfl
theorem fk23 : (Rows.fnExactAreInSyncRow.plainKeys == Try.pinned.checked.prog.plainKeys) = true := by rw [cls_keys]; kernel_rfl
theorem fk24 : (Rows.fnExactAreInSyncRow.shortTexts.isNone) = true := by kernel_rfl
theorem fk27 : (Rows.fnExactAreInSyncRow.lifted == Try.pinned.checked.prog.liftsFinal) = true := by rw [cls_lift]; kernel_rfl
theorem fk28 : (Try.pinned.checked.prog.make == some Rows.fnExactAreInSyncRow.make) = true := by rw [cls_make]; kernel_rfl
theorem fk29 : ((Rows.fnExactAreInSyncRow.kinds == (if Rows.fnExactAreInSyncRow.domain.isEmpty then [] else Try.f6.params.toList.map fun t => match Try.pinned.checked.prog.underlying t with | some (.int k) => some k | _ => none))) = true := by kernel_rfl
theorem fk30 : ((Rows.fnExactAreInSyncRow.pinned == Rows.fnExactAreInSyncRow.pinnedBy)) = true := by kernel_rfl
theorem fk31 : ((Rows.fnExactAreInSyncRow.veiled == (Try.f6.params.toList ++ Rows.fnExactAreInSyncSpec.plain.varTypes Try.pinned.checked.prog ++ Try.f6.resultTypes.toList).any (Try.pinned.checked.prog.veiledRec ·))) = true := by kernel_rfl
theorem fk32 : (Rows.fnExactAreInSyncRow.veiledFits Try.pinned.checked.prog Try.f6.params.toList (Try.f6.params.toList ++ Rows.fnExactAreInSyncSpec.plain.varTypes Try.pinned.checked.prog ++ Try.f6.resultTypes.toList)) = true := by kernel_rfl
set_option maxRecDepth 100000 in
theorem closed : joinedFacts Try.pinned.checked.prog 6 Try.f6 Rows.fnExactAreInSyncSpec Rows.fnExactAreInSyncRow = true := (and2 (and2 (and2 (and2 (and2 (and2 (and2 (and2 (and2 (and2 (and2 (and2 (and2 (and2 (and2 (and2 (and2 (and2 (and2 (and2 (and2 (and2 (and2 (and2 (and2 (and2 (and2 (and2 (and2 (and2 (and2 fk1 cls_laid) cls_maps) fk4) fk5) fk6) cls_stops) fk8) cls_knobs) fk10) fk11) fk12) fk13) fk14) fk15) fk16) fk17) fk18) fk19) fk20) fk21) fk22) fk23) fk24) cls_heard) cls_enter) fk27) fk28) fk29) fk30) fk31) fk32)
theorem over : Rows.fnExactAreInSyncRow.holds Try.pinned (OpenSpec.ofChange Rows.fnExactAreInSyncSpec) :=
  OpenClaim.holds_of_wide 6 Try.f6 rfl rfl rfl rfl rfl rfl rfl ⟨rfl, rfl, rfl, rfl, rfl⟩ rfl rfl rfl rfl rfl named_ Try.func6 closed
    (of_decide_eq_true (by kernel_rfl)) (by unfold Func.isWrapper; first | (rw [if_pos (by decide +kernel)]; kernel_rfl) | (rw [if_neg (by decide +kernel)]; exact ⟨rfl, rfl⟩))
    (fun os started H enc _ => lifted os started H enc)

/-- the statement -/
theorem proved : Rows.FnExactAreInSyncSaid := over
end Go.Proofs.Ytaipegkkpkagnaa.fnExactAreInSync
