/-
  FnExactReadNumbers: the numbers of every text. No condition.
-/
import Derived.Test.YtokminhnkmhneaaDoorRnq
import Derived.Test.YtokminhnkmhneaaDoorRnm
import Derived.Test.YtokminhnkmhneaaDoorLdt
import Derived.Test.YtokminhnkmhneaaDoorLsh
import Derived.Test.YtokminhnkmhneaaDoorCls
import Derived.Test.YtokminhnkmhneaaDoorTie
import Derived.Test.YtokminhnkmhneaaDoorCards
import Derived.ChangeOld
import Derived.Below
import Derived.LaidMore
import Derived.Lay
import Derived.MakeChecks
import Derived.LaidLaws
import Derived.SevenTiedAt
namespace Go.Proofs.YtokminhnkmhneaaDoor.fnExactReadNumbers
open Go.ChangeShapes Go.WideShapes Go.ChangeAt Go.RowKit
open Go.ChangeMaps (open_string shut_string)
set_option linter.unusedVariables false

set_option maxRecDepth 20000 in
set_option maxHeartbeats 4000000 in
theorem walk (a0 : ByteArray) (w : World) (w0 : a0.size ≤ maxLen) (he : ErrsOk w) (hd : DbOk w) (hm : MaxOk w) :
    Calls Tryd.prog 6 #[.string a0] w fun e w' => e = .returned (.bool true) ∧ Below w.heap.size w w' := by
  by_cases hs : a0.size ≤ 1048576
  case neg =>
    have hs' : (1048576 : Int) < (a0.size : Int) := by omega
    unfold maxLen at w0
    clear hs
    go_enter Tryd.func6, Tryd.ntmps6
    go_wp2_with fail
    go_ret
    exact ⟨rfl, Below.refl _ _⟩
  have hs' : (a0.size : Int) ≤ 1048576 := by omega
  have HS := Lib.hid (fun W => t_sReadNumbers a0 hs W)
  have HI := Lib.hid (fun W (hb : Below w.heap.size w W) => t_iReadNumbers a0 hs W (he.kept hb) (hd.kept hb) (hm.kept hb))
  have hlen := vRN_len a0.data.toList
  obtain ⟨Z, hZ⟩ : ∃ Z, (vRN a0.data.toList).2 = Z := ⟨_, rfl⟩
  obtain ⟨ok, hok⟩ : ∃ b, (vRN a0.data.toList).1 = b := ⟨_, rfl⟩
  rw [hok, hZ] at HS HI
  rw [hZ] at hlen
  have HLN := Lib.hid hlen
  have B_0 := Lib.hid (Below.refl w.heap.size w)
  clear hok hZ hlen w0 hs he hd hm
  go_enter Tryd.func6, Tryd.ntmps6
  go_wp2_with fail
  refine (HS.out _).mono ?_
  rintro e w1 ⟨aS, cS, yS, rfl, ho, hy, hb⟩
  have HYS := Lib.hid hy
  have S_1 := Lib.hid ho
  have B_1 := Lib.hid hb
  clear ho hy hb
  go_wp2_with fail
  refine (HI.out _ B_1.out).mono ?_
  rintro e w2 ⟨aG, cG, yG, rfl, ho, hy, hb⟩
  have HYG := Lib.hid hy
  have NS := Lib.hid (lt_apart S_1.out.lt ho.lt)
  have G_2 := Lib.hid (ho.base B_1.out.size)
  have B_2 := Lib.hid (Below.next B_1.out hb)
  have S_2 := Lib.hid (S_1.out.kept hb)
  have LG := Lib.hid (show yG.length ≤ 256 by have := congrArg List.length HYG.out; rw [List.length_map] at this; rw [this]; exact HLN.out)
  clear ho hy hb S_1 B_1
  go_wp2_with fail
  refine (c_eqFloats _ _ _ _ yG yS _ G_2.out.isFloats S_2.out.isFloats (HYG.out.trans HYS.out.symm)).mono ?_
  rintro e w3 ⟨rfl, dn⟩
  have bl := dn.below
  clear dn
  have S_3 := Lib.hid (S_2.out.kept bl)
  have G_3 := Lib.hid (G_2.out.kept bl)
  have B_3 := Lib.hid (Below.next B_2.out bl)
  clear bl S_2 G_2 B_2
  go_wp2_with fail
  obtain ⟨q, hq⟩ : ∃ q, 1 + yG.length = q := ⟨_, rfl⟩
  have HQ := Lib.hid hq
  have hq' : q ≤ 257 := by have := LG.out; omega
  have hq0 : (0 : Int) ≤ (q : Int) := by omega
  clear hq
  refine (c_markFloats' _ _ _ 1 q yG _ G_3.out HQ.out (by decide) (by have := LG.out; omega)).mono ?_
  rintro e w4 ⟨rfl, ho, hg⟩
  have G_4 := Lib.hid ho
  have S_4 := Lib.hid (S_3.out.apart hg NS.out)
  have B_4 := Lib.hid (Below.grownBy B_3.out hg B_3.out.size (fun g h => (G_3.out.lt g h).1))
  clear ho hg S_3 G_3 B_3
  go_wp2_with fail
  refine (c_heldFloats' _ _ 1 q yG.length _ G_4.out.held HQ.out (by decide) (by have := LG.out; omega)).mono ?_
  rintro e w' ⟨rfl, rfl⟩
  go_wp2_with fail
  refine (HI.out _ B_4.out).mono ?_
  rintro e w5 ⟨aH, cH, yH, rfl, ho, hy, hb⟩
  have HYH := Lib.hid hy
  have H_5 := Lib.hid ho
  have S_5 := Lib.hid (S_4.out.kept hb)
  have G_5 := Lib.hid (G_4.out.kept hb)
  have B_5 := Lib.hid (Below.next B_4.out hb)
  clear ho hy hb S_4 G_4 B_4
  go_wp2_with fail
  refine (c_eqFloats _ _ _ _ yH yS _ H_5.out.isFloats S_5.out.isFloats (HYH.out.trans HYS.out.symm)).mono ?_
  rintro e w6 ⟨rfl, dn⟩
  have bl := dn.below
  clear dn
  have G_6 := Lib.hid (G_5.out.kept bl)
  have B_6 := Lib.hid (Below.next B_5.out bl)
  clear bl S_5 G_5 H_5 B_5
  go_wp2_with fail
  refine (c_heldFloats' _ _ 1 q yG.length _ G_6.out.held HQ.out (by decide) (by have := LG.out; omega)).mono ?_
  rintro e w' ⟨rfl, rfl⟩
  go_wp2_with fail
  go_ret
  exact ⟨rfl, B_6.out⟩

/-! the door's own heap meets the condition -/
def laid : List (String × DataW Unit) := Rows.fnExactReadNumbersRow.laid
theorem own : ownKnob Tryd.prog.godebug = none := by kernel_rfl
theorem door_met (os : Os) (args : Array Value) : laidMetH Tryd.prog laid ((World.laidAll Tryd.prog os laid).forCall (fun _ _ => 0) ⟨#[], args, []⟩).memory := by
  rw [Go.MakeChecks.laidMetH_plain _ _ _ (by kernel_rfl)]
  exact laidMet_laidAll _ (by kernel_rfl) (by kernel_rfl)
set_option maxRecDepth 100000 in
theorem lifted (os : Os) (started : os.Started) (H : Type) (enc : TypeId × Value → H) :
    ReturnsInHanded {} Tryd.checked os 6 .any (fun w args => (Rows.fnExactReadNumbersSpec.pre enc Tryd.prog Tryd.f6 [] false w args ∧ laidMetH Tryd.prog laid w) ∧ sizedMet enc Tryd.prog Tryd.f6 (OpenSpec.ofChange Rows.fnExactReadNumbersSpec) false w args)
      (Rows.fnExactReadNumbersSpec.post enc Tryd.prog Tryd.f6 false true false false) := by
  refine laid_shaped (C := Tryd.checked) (X := fun w _ => laidMetH Tryd.prog laid w) (fun _ _ _ hh h => h.of_heap hh) own started (by kernel_rfl) Tryd.func6
    (ChangeSpec.witness_shaped (enc := enc) (C := Tryd.checked) (os := os) (X := fun w _ => laidMetH Tryd.prog laid w) false (World.laidAll Tryd.prog os laid) #[.string ByteArray.empty] 8 (World.laidAll_os _ _ _) (World.shaped_of_ZipB (by kernel_rfl) (by kernel_rfl)) (by kernel_rfl) (by kernel_rfl) (by kernel_rfl) (door_met os _)) ?_
  intro W base args ds gs before hval0 hW hcnd _ hL hSh _
  have hval : ∀ (j : Nat) t v, Tryd.f6.params[j]? = some t → args[j]? = some v → Value.okWide Tryd.prog W .any base t v := hval0
  have hW' := hW
  obtain ⟨p, q, hA0, hV, rfl, hfz, hnd⟩ := hW
  have hA : DataW.TrodAll enc Tryd.prog W 0 (fun _ => true) true Tryd.f6.params.toList args.toList ds p := hA0
  rw [Tryd.params6] at hA hval
  obtain ⟨v0, vs0, d0, ds0, p0, q0, hargs, rfl, rfl, h0, rest0⟩ := trodAll_cons hA
  obtain ⟨rfl, rfl, rfl⟩ := trodAll_nil rest0
  obtain rfl : args = #[v0] := by cases args; simp_all
  obtain ⟨rfl, rfl⟩ := trodVars_none hV
  obtain ⟨a0, rfl, rfl, rfl, w0⟩ := open_string Tryd.underlying9 (hval 0 9 v0 rfl rfl) h0
  clear hA0 hval0
  refine (walk a0 W w0 ⟨err_at hL rfl (List.mem_of_getElem? (i := 5) rfl) rfl (by kernel_rfl) (by kernel_rfl), err_at hL rfl (List.mem_of_getElem? (i := 4) rfl) rfl (by kernel_rfl) (by kernel_rfl)⟩ (db_ok hL rfl (List.mem_of_getElem? (i := 1) (by kernel_rfl))) (max_ok hSh)).mono fun e W' ⟨he, bel⟩ => ?_
  subst he
  exact ⟨_, rfl, _, _, _, [], _, [], hW', trodAll_mk1 (shut_bool Tryd.underlying4 _), (trodAll_cons_mk (shut_string Tryd.underlying9 w0) trodAll_mk0), rfl, bel.frame _, fun h => by cases h⟩

theorem named_ : Tryd.pinned.checked.prog.funcNamed Rows.fnExactReadNumbersRow.func = some 6 := by kernel_rfl
theorem fk1 : (Rows.fnExactReadNumbersRow.wf (OpenSpec.ofChange Rows.fnExactReadNumbersSpec)) = true := by kernel_rfl
theorem fk4 : (Tryd.f6.params.all (Tryd.pinned.checked.prog.readableRec ·)) = true := by kernel_rfl
theorem fk5 : (namedTie Tryd.pinned.checked.prog Rows.fnExactReadNumbersRow.named Rows.fnExactReadNumbersSpec.vars) = true := by kernel_rfl
theorem fk6 : ((Rows.fnExactReadNumbersRow.stops == [])) = true := by kernel_rfl
theorem fk8 : ((Rows.fnExactReadNumbersRow.knobs == [])) = true := by kernel_rfl
theorem fk10 : ((Rows.fnExactReadNumbersRow.inPlace == Tryd.pinned.checked.prog.inPlace 6)) = true := by kernel_rfl
theorem fk11 : ((Rows.fnExactReadNumbersRow.unfollowed == Tryd.pinned.checked.prog.unfollowed 6)) = true := by kernel_rfl
theorem fk12 : ((Rows.fnExactReadNumbersRow.recurses == Tryd.pinned.checked.prog.recurses 6)) = true := by kernel_rfl
theorem fk13 : ((Rows.fnExactReadNumbersRow.named == Tryd.pinned.checked.prog.varsNamed 6)) = true := by kernel_rfl
theorem fk14 : ((Rows.fnExactReadNumbersRow.maps == (Tryd.f6.params.toList ++ Rows.fnExactReadNumbersSpec.plain.varTypes Tryd.pinned.checked.prog).any (Tryd.pinned.checked.prog.mapsRec ·))) = true := by kernel_rfl
theorem fk15 : ((Rows.fnExactReadNumbersRow.ifaces == (Tryd.f6.params.toList ++ Rows.fnExactReadNumbersSpec.plain.varTypes Tryd.pinned.checked.prog).any (Tryd.pinned.checked.prog.ifacesRec ·))) = true := by kernel_rfl
theorem fk16 : ((Rows.fnExactReadNumbersRow.mapsOut == Tryd.pinned.checked.prog.mapsAmong Tryd.f6.resultTypes.toList)) = true := by kernel_rfl
theorem fk17 : ((Rows.fnExactReadNumbersRow.loops == (Tryd.f6.params.toList ++ Rows.fnExactReadNumbersSpec.plain.varTypes Tryd.pinned.checked.prog).any (Tryd.pinned.checked.prog.loopsFrom ·))) = true := by kernel_rfl
theorem fk18 : ((Rows.fnExactReadNumbersRow.wideKeys == (Tryd.f6.params.toList ++ Rows.fnExactReadNumbersSpec.plain.varTypes Tryd.pinned.checked.prog ++ Tryd.f6.resultTypes.toList).any (Tryd.pinned.checked.prog.wideKeysFrom ·))) = true := by kernel_rfl
theorem fk19 : (Rows.fnExactReadNumbersSpec.vars.all (Tryd.pinned.checked.prog.varReadable ·)) = true := by kernel_rfl
theorem fk20 : (Tryd.f6.resultTypes.all (fun t => Tryd.pinned.checked.prog.readableRec t && decide (t < Tryd.pinned.checked.prog.types.size))) = true := by kernel_rfl
theorem fk21 : ((Rows.fnExactReadNumbersRow.ifacesOut == Tryd.f6.resultTypes.toList.any (Tryd.pinned.checked.prog.ifacesRec ·))) = true := by kernel_rfl
theorem fk22 : ((Rows.fnExactReadNumbersRow.loopsOut == Tryd.f6.resultTypes.toList.any (Tryd.pinned.checked.prog.loopsFrom ·))) = true := by kernel_rfl
theorem fk23 : (Rows.fnExactReadNumbersRow.plainKeys == Tryd.pinned.checked.prog.plainKeys) = true := by rw [cls_keys]; kernel_rfl
theorem fk24 : (Rows.fnExactReadNumbersRow.shortTexts.isNone) = true := by kernel_rfl
theorem fk27 : (Rows.fnExactReadNumbersRow.lifted == Tryd.pinned.checked.prog.liftsFinal) = true := by rw [cls_lift]; kernel_rfl
theorem fk28 : (Tryd.pinned.checked.prog.make == some Rows.fnExactReadNumbersRow.make) = true := by rw [cls_make]; kernel_rfl
theorem fk29 : ((Rows.fnExactReadNumbersRow.kinds == (if Rows.fnExactReadNumbersRow.domain.isEmpty then [] else Tryd.f6.params.toList.map fun t => match Tryd.pinned.checked.prog.underlying t with | some (.int k) => some k | _ => none))) = true := by kernel_rfl
theorem fk30 : ((Rows.fnExactReadNumbersRow.pinned == Rows.fnExactReadNumbersRow.pinnedBy)) = true := by kernel_rfl
theorem fk31 : ((Rows.fnExactReadNumbersRow.veiled == (Tryd.f6.params.toList ++ Rows.fnExactReadNumbersSpec.plain.varTypes Tryd.pinned.checked.prog ++ Tryd.f6.resultTypes.toList).any (Tryd.pinned.checked.prog.veiledRec ·))) = true := by kernel_rfl
theorem fk32 : (Rows.fnExactReadNumbersRow.veiledFits Tryd.pinned.checked.prog Tryd.f6.params.toList (Tryd.f6.params.toList ++ Rows.fnExactReadNumbersSpec.plain.varTypes Tryd.pinned.checked.prog ++ Tryd.f6.resultTypes.toList)) = true := by kernel_rfl
set_option maxRecDepth 100000 in
theorem closed : joinedFacts Tryd.pinned.checked.prog 6 Tryd.f6 Rows.fnExactReadNumbersSpec Rows.fnExactReadNumbersRow = true := (and2 (and2 (and2 (and2 (and2 (and2 (and2 (and2 (and2 (and2 (and2 (and2 (and2 (and2 (and2 (and2 (and2 (and2 (and2 (and2 (and2 (and2 (and2 (and2 (and2 (and2 (and2 (and2 (and2 (and2 (and2 fk1 cls_laid) cls_maps) fk4) fk5) fk6) cls_stops) fk8) cls_knobs) fk10) fk11) fk12) fk13) fk14) fk15) fk16) fk17) fk18) fk19) fk20) fk21) fk22) fk23) fk24) cls_heard) cls_enter) fk27) fk28) fk29) fk30) fk31) fk32)
theorem over : Rows.fnExactReadNumbersRow.holds Tryd.pinned (OpenSpec.ofChange Rows.fnExactReadNumbersSpec) :=
  OpenClaim.holds_of_wide 6 Tryd.f6 rfl rfl rfl rfl rfl rfl rfl ⟨rfl, rfl, rfl, rfl, rfl⟩ rfl rfl rfl rfl rfl named_ Tryd.func6 closed
    (of_decide_eq_true (by kernel_rfl)) (by unfold Func.isWrapper; first | (rw [if_pos (by decide +kernel)]; kernel_rfl) | (rw [if_neg (by decide +kernel)]; exact ⟨rfl, rfl⟩))
    (fun os started H enc _ => lifted os started H enc)

/-- the statement: the row, tied to the program's text -/
theorem proved : Rows.FnExactReadNumbersCardSaid :=
  Claim7.holds_tied_plain_at .later [] Rows.fnExactReadNumbersCard.laidKinds true Rows.fnExactReadNumbersCard.stood.harness true
    over (fun _ h => by cases h) (by kernel_rfl) (fun _ h => by cases h) fnExactReadNumbers_row_tie rfl ⟨rfl, rfl⟩ (by kernel_rfl) rfl
    (fun f fn hf hfn => by
      obtain rfl : f = 6 := Option.some.inj ((show Tryd.prog.funcNamed Rows.fnExactReadNumbersRow.func = some 6 by kernel_rfl).symm.trans hf) |>.symm
      obtain rfl : fn = Tryd.f6 := (Option.some.inj (Tryd.func6.symm.trans hfn)).symm
      exact ⟨by kernel_rfl, fun j t ht => by
        rw [Tryd.params6] at ht
        rcases j with _ | j
        · obtain rfl : t = 9 := by simpa using ht.symm
          exact (show Tryd.prog.wantsStandIn 9 = false by kernel_rfl)
        · simp at ht⟩)
    (by kernel_rfl)
end Go.Proofs.YtokminhnkmhneaaDoor.fnExactReadNumbers
