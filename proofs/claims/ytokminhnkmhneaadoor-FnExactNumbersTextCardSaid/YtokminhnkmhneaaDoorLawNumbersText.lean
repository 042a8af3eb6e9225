/-
  FnExactNumbersText: the text of every list of numbers. No condition.
-/
import Derived.Test.YtokminhnkmhneaaDoorHxn
import Derived.Test.YtokminhnkmhneaaDoorLdt
import Derived.Test.YtokminhnkmhneaaDoorCls
import Derived.Test.YtokminhnkmhneaaDoorTie
import Derived.Test.YtokminhnkmhneaaDoorCards
import Derived.ChangeOld
import Derived.Below
import Derived.LaidMore
import Derived.LaidLaws
import Derived.SevenTiedAt
namespace Go.Proofs.YtokminhnkmhneaaDoor.fnExactNumbersText
open Go.ChangeShapes Go.WideShapes Go.ChangeAt Go.RowKit
open Go.ChangeMaps (open_string shut_string)
set_option linter.unusedVariables false

set_option maxRecDepth 20000 in
set_option maxHeartbeats 4000000 in
theorem walk (a0 : Option Addr) (len0 cap0 : Nat) (z0 : List Nat) (w : World) (w0 : IsFloats .f32 w a0 len0 cap0 z0) (hd : DbOk w) :
    Calls Tryd.prog 5 #[.slice a0 len0 cap0] w fun e w' => e = .returned (.bool true) ∧ Below w.heap.size w w' := by
  obtain rfl : z0.length = len0 := w0.2.2.1
  by_cases hs : z0.length ≤ 1048576
  case neg =>
    have hs' : (1048576 : Int) < (z0.length : Int) := by omega
    clear w0 hs
    go_enter Tryd.func5, Tryd.ntmps5
    go_wp2_with fail
    go_ret
    exact ⟨rfl, Below.refl _ _⟩
  case pos =>
    have hs' : (z0.length : Int) ≤ 1048576 := by omega
    have HT := Lib.hid (fun W (hb : Below w.heap.size w W) => c_toFloats a0 z0.length cap0 z0 W (IsFloats.kept w0 hb) hs)
    have HTB := Lib.hid (fun W (hb : Below w.heap.size w W) => hd.kept hb)
    obtain ⟨n, hn⟩ : ∃ n, z0.length = n := ⟨_, rfl⟩
    have HN := Lib.hid hn
    rw [hn] at hs' HT hs ⊢
    obtain ⟨x, b, hv⟩ : ∃ x b, vNumbersText z0 = (x, b) := ⟨_, _, rfl⟩
    have HV := Lib.hid hv
    clear w0 hn hv hd
    go_enter Tryd.func5, Tryd.ntmps5
    go_wp2_with fail
    refine (HT.out w (Below.refl _ _)).mono ?_
    rintro e w3 ⟨a3, rfl, h3, hb⟩
    have B3 := Lib.hid hb
    have H3 := Lib.hid h3.isFloats
    clear hb h3
    rw [HN.out] at H3
    rw [HN.out]
    go_wp2_with fail
    refine (t_sNumbersText a3 n n z0 w3 H3.out hs).mono ?_
    rintro e w4 ⟨rfl, hb⟩
    have B4 := Lib.hid (Below.next B3.out hb)
    clear hb
    rw [HV.out]
    go_wp2_with fail
    refine (HT.out w4 B4.out).mono ?_
    rintro e w5 ⟨a5, rfl, h5, hb⟩
    have B5 := Lib.hid (Below.next B4.out hb)
    have H5 := Lib.hid h5.isFloats
    clear hb h5
    rw [HN.out] at H5
    rw [HN.out]
    go_wp2_with fail
    refine (t_iNumbersText a5 n n z0 w5 H5.out hs (HTB.out w5 B5.out)).mono ?_
    rintro e w6 ⟨rfl, hb⟩
    have B6 := Lib.hid (Below.next B5.out hb)
    have H6 := Lib.hid (IsFloats.kept H5.out hb)
    clear hb
    rw [HV.out]
    go_wp2_with fail
    refine (HT.out w6 B6.out).mono ?_
    rintro e w7 ⟨a7, rfl, h7, hb⟩
    have B7 := Lib.hid (Below.next B6.out hb)
    have H7 := Lib.hid h7.isFloats
    have H8 := Lib.hid (IsFloats.kept H6.out hb)
    clear hb h7
    rw [HN.out] at H7
    rw [HN.out]
    have HE := Lib.hid (c_eqFloats' a5 a7 n n z0 z0 n w7 H8.out H7.out rfl)
    go_wp2_with fail
    refine HE.out.mono ?_
    rintro e w8 ⟨rfl, hd⟩
    have B8 := Lib.hid (Below.next B7.out hd.below)
    clear hd
    go_wp2_with fail
    go_ret
    exact ⟨rfl, B8.out⟩

/-! the door's own heap meets the condition -/
def laid : List (String × DataW Unit) := Rows.fnExactNumbersTextRow.laid
theorem own : ownKnob Tryd.prog.godebug = none := by kernel_rfl
theorem door_met (os : Os) (args : Array Value) : laidMetH Tryd.prog laid ((World.doorLaid Tryd.prog 400 os).forCall (fun _ _ => 0) ⟨#[], args, []⟩).memory :=
  laidMetH_of_parts3 (fuel := 8) (laidMet_of_run' 8 (by kernel_rfl) (by kernel_rfl)) (by kernel_rfl) (by kernel_rfl)
set_option maxRecDepth 100000 in
theorem lifted (os : Os) (started : os.Started) (H : Type) (enc : TypeId × Value → H) :
    ReturnsInHanded {} Tryd.checked os 5 .any (fun w args => (Rows.fnExactNumbersTextSpec.pre enc Tryd.prog Tryd.f5 [] false w args ∧ laidMetH Tryd.prog laid w) ∧ sizedMet enc Tryd.prog Tryd.f5 (OpenSpec.ofChange Rows.fnExactNumbersTextSpec) false w args)
      (Rows.fnExactNumbersTextSpec.post enc Tryd.prog Tryd.f5 false true false false) := by
  refine returnsInHanded_of_change_and (C := Tryd.checked) (X := fun w _ => laidMetH Tryd.prog laid w) (fun _ _ _ hh h => h.of_heap hh) own started (by kernel_rfl) Tryd.func5
    (ChangeSpec.witness_shaped (enc := enc) (C := Tryd.checked) (os := os) (X := fun w _ => laidMetH Tryd.prog laid w) false (World.doorLaid Tryd.prog 400 os) #[.slice none 0 0] 8 rfl (World.shaped_of_RefB (by kernel_rfl) (by kernel_rfl)) (by kernel_rfl) (by kernel_rfl) (by kernel_rfl) (door_met os _)) ?_
  intro W base args ds gs before hval0 hW hcnd _ hL _
  have hval : ∀ (j : Nat) t v, Tryd.f5.params[j]? = some t → args[j]? = some v → Value.okWide Tryd.prog W .any base t v := hval0
  have hW' := hW
  obtain ⟨p, q, hA0, hV, rfl, hfz, hnd⟩ := hW
  have hA : DataW.TrodAll enc Tryd.prog W 0 (fun _ => true) true Tryd.f5.params.toList args.toList ds p := hA0
  rw [Tryd.params5] at hA hval
  obtain ⟨v0, vs0, d0, ds0, p0, q0, hargs, rfl, rfl, h0, rest0⟩ := trodAll_cons hA
  obtain ⟨rfl, rfl, rfl⟩ := trodAll_nil rest0
  obtain rfl : args = #[v0] := by cases args; simp_all
  obtain ⟨rfl, rfl⟩ := trodVars_none hV
  obtain ⟨a0, len0, cap0, rfl⟩ := okWide_slice Tryd.underlying27 (hval 0 27 v0 rfl rfl)
  have k0 := h0
  have lt0 : ∀ x ∈ p0, x.block < W.heap.size := by obtain ⟨m, hm⟩ := k0; exact DataW.trod_lt m _ _ _ hm
  obtain ⟨z0, w0⟩ := isFloats_of (k := .f32) Tryd.underlying27 Tryd.underlying71 (by kernel_rfl) h0
  clear hA0 hval0
  refine (walk a0 len0 cap0 z0 W w0 (db_ok hL rfl (List.mem_of_getElem? (i := 1) (by kernel_rfl)))).mono fun e W' ⟨he, bel⟩ => ?_
  subst he
  exact ⟨_, rfl, _, _, _, [], _, [], hW', trodAll_mk1 (shut_bool Tryd.underlying4 _), (trodAll_cons_mk (Below.trod laidOut (by kernel_rfl) (of_decide_eq_true (by kernel_rfl)) k0 bel lt0) trodAll_mk0), rfl, bel.frame _, fun h => by cases h⟩

theorem named_ : Tryd.pinned.checked.prog.funcNamed Rows.fnExactNumbersTextRow.func = some 5 := by kernel_rfl
theorem fk1 : (Rows.fnExactNumbersTextRow.wf (OpenSpec.ofChange Rows.fnExactNumbersTextSpec)) = true := by kernel_rfl
theorem fk4 : (Tryd.f5.params.all (Tryd.pinned.checked.prog.readableRec ·)) = true := by kernel_rfl
theorem fk5 : (namedTie Tryd.pinned.checked.prog Rows.fnExactNumbersTextRow.named Rows.fnExactNumbersTextSpec.vars) = true := by kernel_rfl
theorem fk6 : ((Rows.fnExactNumbersTextRow.stops == [])) = true := by kernel_rfl
theorem fk8 : ((Rows.fnExactNumbersTextRow.knobs == [])) = true := by kernel_rfl
theorem fk10 : ((Rows.fnExactNumbersTextRow.inPlace == Tryd.pinned.checked.prog.inPlace 5)) = true := by kernel_rfl
theorem fk11 : ((Rows.fnExactNumbersTextRow.unfollowed == Tryd.pinned.checked.prog.unfollowed 5)) = true := by kernel_rfl
theorem fk12 : ((Rows.fnExactNumbersTextRow.recurses == Tryd.pinned.checked.prog.recurses 5)) = true := by kernel_rfl
theorem fk13 : ((Rows.fnExactNumbersTextRow.named == Tryd.pinned.checked.prog.varsNamed 5)) = true := by kernel_rfl
theorem fk14 : ((Rows.fnExactNumbersTextRow.maps == (Tryd.f5.params.toList ++ Rows.fnExactNumbersTextSpec.plain.varTypes Tryd.pinned.checked.prog).any (Tryd.pinned.checked.prog.mapsRec ·))) = true := by kernel_rfl
theorem fk15 : ((Rows.fnExactNumbersTextRow.ifaces == (Tryd.f5.params.toList ++ Rows.fnExactNumbersTextSpec.plain.varTypes Tryd.pinned.checked.prog).any (Tryd.pinned.checked.prog.ifacesRec ·))) = true := by kernel_rfl
theorem fk16 : ((Rows.fnExactNumbersTextRow.mapsOut == Tryd.pinned.checked.prog.mapsAmong Tryd.f5.resultTypes.toList)) = true := by kernel_rfl
theorem fk17 : ((Rows.fnExactNumbersTextRow.loops == (Tryd.f5.params.toList ++ Rows.fnExactNumbersTextSpec.plain.varTypes Tryd.pinned.checked.prog).any (Tryd.pinned.checked.prog.loopsFrom ·))) = true := by kernel_rfl
theorem fk18 : ((Rows.fnExactNumbersTextRow.wideKeys == (Tryd.f5.params.toList ++ Rows.fnExactNumbersTextSpec.plain.varTypes Tryd.pinned.checked.prog ++ Tryd.f5.resultTypes.toList).any (Tryd.pinned.checked.prog.wideKeysFrom ·))) = true := by kernel_rfl
theorem fk19 : (Rows.fnExactNumbersTextSpec.vars.all (Tryd.pinned.checked.prog.varReadable ·)) = true := by kernel_rfl
theorem fk20 : (Tryd.f5.resultTypes.all (fun t => Tryd.pinned.checked.prog.readableRec t && decide (t < Tryd.pinned.checked.prog.types.size))) = true := by kernel_rfl
theorem fk21 : ((Rows.fnExactNumbersTextRow.ifacesOut == Tryd.f5.resultTypes.toList.any (Tryd.pinned.checked.prog.ifacesRec ·))) = true := by kernel_rfl
theorem fk22 : ((Rows.fnExactNumbersTextRow.loopsOut == Tryd.f5.resultTypes.toList.any (Tryd.pinned.checked.prog.loopsFrom ·))) = true := by kernel_rfl
theorem fk23 : (Rows.fnExactNumbersTextRow.plainKeys == Tryd.pinned.checked.prog.plainKeys) = true := by rw [cls_keys]; kernel_rfl
theorem fk24 : (Rows.fnExactNumbersTextRow.shortTexts.isNone) = true := by kernel_rfl
theorem fk27 : (Rows.fnExactNumbersTextRow.lifted == Tryd.pinned.checked.prog.liftsFinal) = true := by rw [cls_lift]; kernel_rfl
theorem fk28 : (Tryd.pinned.checked.prog.make == some Rows.fnExactNumbersTextRow.make) = true := by rw [cls_make]; kernel_rfl
theorem fk29 : ((Rows.fnExactNumbersTextRow.kinds == (if Rows.fnExactNumbersTextRow.domain.isEmpty then [] else Tryd.f5.params.toList.map fun t => match Tryd.pinned.checked.prog.underlying t with | some (.int k) => some k | _ => none))) = true := by kernel_rfl
theorem fk30 : ((Rows.fnExactNumbersTextRow.pinned == Rows.fnExactNumbersTextRow.pinnedBy)) = true := by kernel_rfl
theorem fk31 : ((Rows.fnExactNumbersTextRow.veiled == (Tryd.f5.params.toList ++ Rows.fnExactNumbersTextSpec.plain.varTypes Tryd.pinned.checked.prog ++ Tryd.f5.resultTypes.toList).any (Tryd.pinned.checked.prog.veiledRec ·))) = true := by kernel_rfl
theorem fk32 : (Rows.fnExactNumbersTextRow.veiledFits Tryd.pinned.checked.prog Tryd.f5.params.toList (Tryd.f5.params.toList ++ Rows.fnExactNumbersTextSpec.plain.varTypes Tryd.pinned.checked.prog ++ Tryd.f5.resultTypes.toList)) = true := by kernel_rfl
set_option maxRecDepth 100000 in
theorem closed : joinedFacts Tryd.pinned.checked.prog 5 Tryd.f5 Rows.fnExactNumbersTextSpec Rows.fnExactNumbersTextRow = true := (and2 (and2 (and2 (and2 (and2 (and2 (and2 (and2 (and2 (and2 (and2 (and2 (and2 (and2 (and2 (and2 (and2 (and2 (and2 (and2 (and2 (and2 (and2 (and2 (and2 (and2 (and2 (and2 (and2 (and2 (and2 fk1 cls_laid) cls_maps) fk4) fk5) fk6) cls_stops) fk8) cls_knobs) fk10) fk11) fk12) fk13) fk14) fk15) fk16) fk17) fk18) fk19) fk20) fk21) fk22) fk23) fk24) cls_heard) cls_enter) fk27) fk28) fk29) fk30) fk31) fk32)
theorem over : Rows.fnExactNumbersTextRow.holds Tryd.pinned (OpenSpec.ofChange Rows.fnExactNumbersTextSpec) :=
  OpenClaim.holds_of_wide 5 Tryd.f5 rfl rfl rfl rfl rfl rfl rfl ⟨rfl, rfl, rfl, rfl, rfl⟩ rfl rfl rfl rfl rfl named_ Tryd.func5 closed
    (of_decide_eq_true (by kernel_rfl)) (by unfold Func.isWrapper; first | (rw [if_pos (by decide +kernel)]; kernel_rfl) | (rw [if_neg (by decide +kernel)]; exact ⟨rfl, rfl⟩))
    (fun os started H enc _ => lifted os started H enc)

/-- the statement: the row, tied to the program's text -/
theorem proved : Rows.FnExactNumbersTextCardSaid :=
  Claim7.holds_tied_plain_at .later [] Rows.fnExactNumbersTextCard.laidKinds true Rows.fnExactNumbersTextCard.stood.harness true
    over (fun _ h => by cases h) (by kernel_rfl) (fun _ h => by cases h) fnExactNumbersText_row_tie rfl ⟨rfl, rfl⟩ (by kernel_rfl) rfl
    (fun f fn hf hfn => by
      obtain rfl : f = 5 := Option.some.inj ((show Tryd.prog.funcNamed Rows.fnExactNumbersTextRow.func = some 5 by kernel_rfl).symm.trans hf) |>.symm
      obtain rfl : fn = Tryd.f5 := (Option.some.inj (Tryd.func5.symm.trans hfn)).symm
      exact ⟨by kernel_rfl, fun j t ht => by
        rw [Tryd.params5] at ht
        rcases j with _ | j
        · obtain rfl : t = 27 := by simpa using ht.symm
          exact (show Tryd.prog.wantsStandIn 27 = false by kernel_rfl)
        · simp at ht⟩)
    (by kernel_rfl)
end Go.Proofs.YtokminhnkmhneaaDoor.fnExactNumbersText
