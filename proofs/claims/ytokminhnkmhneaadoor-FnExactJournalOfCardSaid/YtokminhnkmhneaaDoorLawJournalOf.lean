/-
  FnExactJournalOf: the journal of every list of lines. No condition.
-/
import Derived.Test.YtokminhnkmhneaaDoorJni
import Derived.Test.YtokminhnkmhneaaDoorLdt
import Derived.Test.YtokminhnkmhneaaDoorCls
import Derived.Test.YtokminhnkmhneaaDoorTie
import Derived.Test.YtokminhnkmhneaaDoorCards
import Derived.ChangeOld
import Derived.Below
import Derived.LaidMore
import Derived.LaidLaws
import Derived.SevenTiedAt
namespace Go.Proofs.YtokminhnkmhneaaDoor.fnExactJournalOf
open Go.ChangeShapes Go.WideShapes Go.ChangeAt Go.RowKit
open Go.ChangeMaps (open_string shut_string)
set_option linter.unusedVariables false

set_option maxRecDepth 20000 in
set_option maxHeartbeats 4000000 in
theorem walk (a0 : Option Addr) (len0 cap0 : Nat) (z0 : List ByteArray) (w : World) (w0 : IsStrs w a0 len0 cap0 z0) (ht : TabOk w) :
    Calls Tryd.prog 9 #[.slice a0 len0 cap0] w fun e w' => e = .returned (.bool true) ∧ Below w.heap.size w w' := by
  obtain rfl : z0.length = len0 := w0.1
  by_cases hs : z0.length + cntStr z0 ≤ 1048576
  case neg =>
    have HSZ := Lib.hid (c_szStrs_no a0 cap0 z0.length 1048576 z0 w w0 (by omega) (by omega))
    clear w0 hs
    go_enter Tryd.func9, Tryd.ntmps9
    go_wp2_with fail
    refine HSZ.out.mono ?_
    rintro e w2 ⟨rfl, rfl⟩
    go_wp2_with fail
    go_ret
    exact ⟨rfl, Below.refl _ _⟩
  case pos =>
    obtain ⟨r, hr⟩ : ∃ r, 1048576 - (z0.length + cntStr z0) = r := ⟨_, rfl⟩
    have HSZ := Lib.hid (c_szStrs a0 cap0 z0.length 1048576 r z0 w w0 (by omega) hs hr)
    have hr0 : (0 : Int) ≤ (r : Int) := by omega
    have hn : z0.length ≤ 1048576 := by omega
    have HT := Lib.hid (fun W (hb : Below w.heap.size w W) => c_toStrs a0 cap0 z0 W (w0.kept hb) hn)
    have HLIM := Lib.hid hs
    have HTB := Lib.hid (fun W (hb : Below w.heap.size w W) => ht.kept hb)
    clear w0 hs hr ht
    go_enter Tryd.func9, Tryd.ntmps9
    go_wp2_with fail
    refine HSZ.out.mono ?_
    rintro e w2 ⟨rfl, rfl⟩
    have B0 := Lib.hid (Below.refl w.heap.size w)
    go_wp2_with fail
    refine (HT.out w B0.out).mono ?_
    rintro e w3 ⟨a3, rfl, h3, hb⟩
    have B3 := Lib.hid hb
    have H3 := Lib.hid h3
    clear hb h3
    go_wp2_with fail
    refine (t_sJournalOf a3 z0.length z0.length z0 w3 H3.out HLIM.out).mono ?_
    rintro e w4 ⟨rfl, hb⟩
    have B4 := Lib.hid (Below.next B3.out hb)
    clear hb
    go_wp2_with fail
    refine (HT.out w4 B4.out).mono ?_
    rintro e w5 ⟨a5, rfl, h5, hb⟩
    have B5 := Lib.hid (Below.next B4.out hb)
    have H5 := Lib.hid h5
    clear hb h5
    go_wp2_with fail
    refine (t_iJournalOf a5 z0.length z0.length z0 w5 H5.out HLIM.out (HTB.out w5 B5.out)).mono ?_
    rintro e w6 ⟨rfl, hb⟩
    have B6 := Lib.hid (Below.next B5.out hb)
    have H6 := Lib.hid (H5.out.kept hb)
    clear hb
    go_wp2_with fail
    refine (HT.out w6 B6.out).mono ?_
    rintro e w7 ⟨a7, rfl, h7, hb⟩
    have B7 := Lib.hid (Below.next B6.out hb)
    have H7 := Lib.hid (H6.out.kept hb)
    have H7b := Lib.hid h7
    clear hb h7
    go_wp2_with fail
    refine (c_eqStrs a5 a7 z0.length z0.length z0.length z0 w7 H7.out H7b.out).mono ?_
    rintro e w8 ⟨rfl, dn⟩
    have bl : Below w7.heap.size w7 w8 := by first | exact dn.below | exact (below_drewN (Below.refl _ _) _).trans dn.below
    have B8 := Lib.hid (Below.next B7.out bl)
    clear dn bl
    go_wp2_with fail
    go_ret
    exact ⟨rfl, B8.out⟩

/-! the door's own heap meets the condition -/
def laid : List (String × DataW Unit) := Rows.fnExactJournalOfRow.laid
theorem own : ownKnob Tryd.prog.godebug = none := by kernel_rfl
theorem door_met (os : Os) (args : Array Value) : laidMetH Tryd.prog laid ((World.doorLaid Tryd.prog 400 os).forCall (fun _ _ => 0) ⟨#[], args, []⟩).memory :=
  laidMetH_of_parts3 (fuel := 8) (laidMet_of_run' 8 (by kernel_rfl) (by kernel_rfl)) (by kernel_rfl) (by kernel_rfl)
set_option maxRecDepth 100000 in
theorem lifted (os : Os) (started : os.Started) (H : Type) (enc : TypeId × Value → H) :
    ReturnsInHanded {} Tryd.checked os 9 .any (fun w args => (Rows.fnExactJournalOfSpec.pre enc Tryd.prog Tryd.f9 [] false w args ∧ laidMetH Tryd.prog laid w) ∧ sizedMet enc Tryd.prog Tryd.f9 (OpenSpec.ofChange Rows.fnExactJournalOfSpec) false w args)
      (Rows.fnExactJournalOfSpec.post enc Tryd.prog Tryd.f9 false true false false) := by
  refine returnsInHanded_of_change_and (C := Tryd.checked) (X := fun w _ => laidMetH Tryd.prog laid w) (fun _ _ _ hh h => h.of_heap hh) own started (by kernel_rfl) Tryd.func9
    (ChangeSpec.witness_shaped (enc := enc) (C := Tryd.checked) (os := os) (X := fun w _ => laidMetH Tryd.prog laid w) false (World.doorLaid Tryd.prog 400 os) #[.slice none 0 0] 8 rfl (World.shaped_of_RefB (by kernel_rfl) (by kernel_rfl)) (by kernel_rfl) (by kernel_rfl) (by kernel_rfl) (door_met os _)) ?_
  intro W base args ds gs before hval0 hW hcnd _ hL _
  have hval : ∀ (j : Nat) t v, Tryd.f9.params[j]? = some t → args[j]? = some v → Value.okWide Tryd.prog W .any base t v := hval0
  have hW' := hW
  obtain ⟨p, q, hA0, hV, rfl, hfz, hnd⟩ := hW
  have hA : DataW.TrodAll enc Tryd.prog W 0 (fun _ => true) true Tryd.f9.params.toList args.toList ds p := hA0
  rw [Tryd.params9] at hA hval
  obtain ⟨v0, vs0, d0, ds0, p0, q0, hargs, rfl, rfl, h0, rest0⟩ := trodAll_cons hA
  obtain ⟨rfl, rfl, rfl⟩ := trodAll_nil rest0
  obtain rfl : args = #[v0] := by cases args; simp_all
  obtain ⟨rfl, rfl⟩ := trodVars_none hV
  obtain ⟨a0, len0, cap0, rfl⟩ := okWide_slice Tryd.underlying44 (hval 0 44 v0 rfl rfl)
  have k0 := h0
  have lt0 : ∀ x ∈ p0, x.block < W.heap.size := by obtain ⟨m, hm⟩ := k0; exact DataW.trod_lt m _ _ _ hm
  obtain ⟨z0, w0⟩ := strs_of Tryd.underlying44 Tryd.underlying9 (by kernel_rfl) h0
  clear hA0 hval0
  refine (walk a0 len0 cap0 z0 W w0 (tab_ok hL rfl (List.mem_of_getElem? (i := 2) (by kernel_rfl)))).mono fun e W' ⟨he, bel⟩ => ?_
  subst he
  exact ⟨_, rfl, _, _, _, [], _, [], hW', trodAll_mk1 (shut_bool Tryd.underlying4 _), (trodAll_cons_mk (Below.trod laidOut (by kernel_rfl) (of_decide_eq_true (by kernel_rfl)) k0 bel lt0) trodAll_mk0), rfl, bel.frame _, fun h => by cases h⟩

theorem named_ : Tryd.pinned.checked.prog.funcNamed Rows.fnExactJournalOfRow.func = some 9 := by kernel_rfl
theorem fk1 : (Rows.fnExactJournalOfRow.wf (OpenSpec.ofChange Rows.fnExactJournalOfSpec)) = true := by kernel_rfl
theorem fk4 : (Tryd.f9.params.all (Tryd.pinned.checked.prog.readableRec ·)) = true := by kernel_rfl
theorem fk5 : (namedTie Tryd.pinned.checked.prog Rows.fnExactJournalOfRow.named Rows.fnExactJournalOfSpec.vars) = true := by kernel_rfl
theorem fk6 : ((Rows.fnExactJournalOfRow.stops == [])) = true := by kernel_rfl
theorem fk8 : ((Rows.fnExactJournalOfRow.knobs == [])) = true := by kernel_rfl
theorem fk10 : ((Rows.fnExactJournalOfRow.inPlace == Tryd.pinned.checked.prog.inPlace 9)) = true := by kernel_rfl
theorem fk11 : ((Rows.fnExactJournalOfRow.unfollowed == Tryd.pinned.checked.prog.unfollowed 9)) = true := by kernel_rfl
theorem fk12 : ((Rows.fnExactJournalOfRow.recurses == Tryd.pinned.checked.prog.recurses 9)) = true := by kernel_rfl
theorem fk13 : ((Rows.fnExactJournalOfRow.named == Tryd.pinned.checked.prog.varsNamed 9)) = true := by kernel_rfl
theorem fk14 : ((Rows.fnExactJournalOfRow.maps == (Tryd.f9.params.toList ++ Rows.fnExactJournalOfSpec.plain.varTypes Tryd.pinned.checked.prog).any (Tryd.pinned.checked.prog.mapsRec ·))) = true := by kernel_rfl
theorem fk15 : ((Rows.fnExactJournalOfRow.ifaces == (Tryd.f9.params.toList ++ Rows.fnExactJournalOfSpec.plain.varTypes Tryd.pinned.checked.prog).any (Tryd.pinned.checked.prog.ifacesRec ·))) = true := by kernel_rfl
theorem fk16 : ((Rows.fnExactJournalOfRow.mapsOut == Tryd.pinned.checked.prog.mapsAmong Tryd.f9.resultTypes.toList)) = true := by kernel_rfl
theorem fk17 : ((Rows.fnExactJournalOfRow.loops == (Tryd.f9.params.toList ++ Rows.fnExactJournalOfSpec.plain.varTypes Tryd.pinned.checked.prog).any (Tryd.pinned.checked.prog.loopsFrom ·))) = true := by kernel_rfl
theorem fk18 : ((Rows.fnExactJournalOfRow.wideKeys == (Tryd.f9.params.toList ++ Rows.fnExactJournalOfSpec.plain.varTypes Tryd.pinned.checked.prog ++ Tryd.f9.resultTypes.toList).any (Tryd.pinned.checked.prog.wideKeysFrom ·))) = true := by kernel_rfl
theorem fk19 : (Rows.fnExactJournalOfSpec.vars.all (Tryd.pinned.checked.prog.varReadable ·)) = true := by kernel_rfl
theorem fk20 : (Tryd.f9.resultTypes.all (fun t => Tryd.pinned.checked.prog.readableRec t && decide (t < Tryd.pinned.checked.prog.types.size))) = true := by kernel_rfl
theorem fk21 : ((Rows.fnExactJournalOfRow.ifacesOut == Tryd.f9.resultTypes.toList.any (Tryd.pinned.checked.prog.ifacesRec ·))) = true := by kernel_rfl
theorem fk22 : ((Rows.fnExactJournalOfRow.loopsOut == Tryd.f9.resultTypes.toList.any (Tryd.pinned.checked.prog.loopsFrom ·))) = true := by kernel_rfl
theorem fk23 : (Rows.fnExactJournalOfRow.plainKeys == Tryd.pinned.checked.prog.plainKeys) = true := by rw [cls_keys]; kernel_rfl
theorem fk24 : (Rows.fnExactJournalOfRow.shortTexts.isNone) = true := by kernel_rfl
theorem fk27 : (Rows.fnExactJournalOfRow.lifted == Tryd.pinned.checked.prog.liftsFinal) = true := by rw [cls_lift]; kernel_rfl
theorem fk28 : (Tryd.pinned.checked.prog.make == some Rows.fnExactJournalOfRow.make) = true := by rw [cls_make]; kernel_rfl
theorem fk29 : ((Rows.fnExactJournalOfRow.kinds == (if Rows.fnExactJournalOfRow.domain.isEmpty then [] else Tryd.f9.params.toList.map fun t => match Tryd.pinned.checked.prog.underlying t with | some (.int k) => some k | _ => none))) = true := by kernel_rfl
theorem fk30 : ((Rows.fnExactJournalOfRow.pinned == Rows.fnExactJournalOfRow.pinnedBy)) = true := by kernel_rfl
theorem fk31 : ((Rows.fnExactJournalOfRow.veiled == (Tryd.f9.params.toList ++ Rows.fnExactJournalOfSpec.plain.varTypes Tryd.pinned.checked.prog ++ Tryd.f9.resultTypes.toList).any (Tryd.pinned.checked.prog.veiledRec ·))) = true := by kernel_rfl
theorem fk32 : (Rows.fnExactJournalOfRow.veiledFits Tryd.pinned.checked.prog Tryd.f9.params.toList (Tryd.f9.params.toList ++ Rows.fnExactJournalOfSpec.plain.varTypes Tryd.pinned.checked.prog ++ Tryd.f9.resultTypes.toList)) = true := by kernel_rfl
set_option maxRecDepth 100000 in
theorem closed : joinedFacts Tryd.pinned.checked.prog 9 Tryd.f9 Rows.fnExactJournalOfSpec Rows.fnExactJournalOfRow = true := (and2 (and2 (and2 (and2 (and2 (and2 (and2 (and2 (and2 (and2 (and2 (and2 (and2 (and2 (and2 (and2 (and2 (and2 (and2 (and2 (and2 (and2 (and2 (and2 (and2 (and2 (and2 (and2 (and2 (and2 (and2 fk1 cls_laid) cls_maps) fk4) fk5) fk6) cls_stops) fk8) cls_knobs) fk10) fk11) fk12) fk13) fk14) fk15) fk16) fk17) fk18) fk19) fk20) fk21) fk22) fk23) fk24) cls_heard) cls_enter) fk27) fk28) fk29) fk30) fk31) fk32)
theorem over : Rows.fnExactJournalOfRow.holds Tryd.pinned (OpenSpec.ofChange Rows.fnExactJournalOfSpec) :=
  OpenClaim.holds_of_wide 9 Tryd.f9 rfl rfl rfl rfl rfl rfl rfl ⟨rfl, rfl, rfl, rfl, rfl⟩ rfl rfl rfl rfl rfl named_ Tryd.func9 closed
    (of_decide_eq_true (by kernel_rfl)) (by unfold Func.isWrapper; first | (rw [if_pos (by decide +kernel)]; kernel_rfl) | (rw [if_neg (by decide +kernel)]; exact ⟨rfl, rfl⟩))
    (fun os started H enc _ => lifted os started H enc)

/-- the statement: the row, tied to the program's text -/
theorem proved : Rows.FnExactJournalOfCardSaid :=
  Claim7.holds_tied_plain_at .later [] Rows.fnExactJournalOfCard.laidKinds true Rows.fnExactJournalOfCard.stood.harness true
    over (fun _ h => by cases h) (by kernel_rfl) (fun _ h => by cases h) fnExactJournalOf_row_tie rfl ⟨rfl, rfl⟩ (by kernel_rfl) rfl
    (fun f fn hf hfn => by
      obtain rfl : f = 9 := Option.some.inj ((show Tryd.prog.funcNamed Rows.fnExactJournalOfRow.func = some 9 by kernel_rfl).symm.trans hf) |>.symm
      obtain rfl : fn = Tryd.f9 := (Option.some.inj (Tryd.func9.symm.trans hfn)).symm
      exact ⟨by kernel_rfl, fun j t ht => by
        rw [Tryd.params9] at ht
        rcases j with _ | j
        · obtain rfl : t = 44 := by simpa using ht.symm
          exact (show Tryd.prog.wantsStandIn 44 = false by kernel_rfl)
        · simp at ht⟩)
    (by kernel_rfl)
end Go.Proofs.YtokminhnkmhneaaDoor.fnExactJournalOf
