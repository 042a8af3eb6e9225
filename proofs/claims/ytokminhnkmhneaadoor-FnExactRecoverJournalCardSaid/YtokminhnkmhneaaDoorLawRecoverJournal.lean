/-
  FnExactRecoverJournal: the lines of every text. No condition.
-/
import Derived.Test.YtokminhnkmhneaaDoorRcl
import Derived.Test.YtokminhnkmhneaaDoorLdt
import Derived.Test.YtokminhnkmhneaaDoorLsh
import Derived.Test.YtokminhnkmhneaaDoorCls
import Derived.Test.YtokminhnkmhneaaDoorTie
import Derived.Test.YtokminhnkmhneaaDoorCards
import Derived.ChangeOld
import Derived.Below
import Derived.LaidMore
import Derived.LaidLaws
import Derived.SevenTiedAt
namespace Go.Proofs.YtokminhnkmhneaaDoor.fnExactRecoverJournal
open Go.ChangeShapes Go.WideShapes Go.ChangeAt Go.RowKit
open Go.ChangeMaps (open_string shut_string)
set_option linter.unusedVariables false

set_option maxRecDepth 20000 in
set_option maxHeartbeats 4000000 in
theorem walk (a0 : ByteArray) (w : World) (w0 : a0.size ≤ maxLen) (ht : TabOk w) (hm : MaxOk w) :
    Calls Tryd.prog 10 #[.string a0] w fun e w' => e = .returned (.bool true) ∧ Below w.heap.size w w' := by
  by_cases hs : a0.size ≤ 1048576
  case neg =>
    have hs' : (1048576 : Int) < (a0.size : Int) := by omega
    unfold maxLen at w0
    clear hs
    go_enter Tryd.func10, Tryd.ntmps10
    go_wp2_with fail
    go_ret
    exact ⟨rfl, Below.refl _ _⟩
  have hs' : (a0.size : Int) ≤ 1048576 := by omega
  have HS := Lib.hid (fun W => t_sRecoverJournal a0 hs W)
  have HI := Lib.hid (fun W (hb : Below w.heap.size w W) => t_iRecoverJournal a0 hs W (ht.kept hb) (hm.kept hb))
  unfold RetRec at HS HI
  have hlen := vRec_len a0.data.toList
  have hsm := vRec_small a0.data.toList
  obtain ⟨Z, hZ⟩ : ∃ Z, (vRec a0.data.toList).1 = Z := ⟨_, rfl⟩
  obtain ⟨N, hN⟩ : ∃ N, (vRec a0.data.toList).2.1 = N := ⟨_, rfl⟩
  obtain ⟨ok, hok⟩ : ∃ b, (vRec a0.data.toList).2.2 = b := ⟨_, rfl⟩
  simp only [hZ, hN, hok] at HS HI hlen hsm
  have HSM := Lib.hid hsm
  obtain ⟨n, hn⟩ : ∃ n, Z.length = n := ⟨_, rfl⟩
  have HZN := Lib.hid hn
  rw [hn] at hlen
  have HLN := Lib.hid hlen
  have hni : (n : Int) ≤ 8000 := by omega
  have B_0 := Lib.hid (Below.refl w.heap.size w)
  clear hok hZ hN hn hlen hsm w0 hs ht hm
  go_enter Tryd.func10, Tryd.ntmps10
  go_wp2_with fail
  refine (HS.out _).mono ?_
  rintro e w1 ⟨aS, cS, yS, rfl, ho, hy, hb⟩
  rw [hy] at ho
  rw [hy, HZN.out]
  clear hy yS
  have S_1 := Lib.hid ho
  have B_1 := Lib.hid hb
  clear ho hb
  go_wp2_with fail
  refine (HI.out _ B_1.out).mono ?_
  rintro e w2 ⟨aG, cG, yG, rfl, ho, hy, hb⟩
  rw [hy] at ho
  rw [hy, HZN.out]
  clear hy yG
  have NS := Lib.hid (lt_apart S_1.out.lt ho.lt)
  have G_2 := Lib.hid (ho.base B_1.out.size)
  have B_2 := Lib.hid (Below.next B_1.out hb)
  have S_2 := Lib.hid (S_1.out.kept hb)
  clear ho hb S_1 B_1
  go_wp2_with fail
  refine (c_eqStrs _ _ _ _ n (Z.map strB) _ (by have h := G_2.out.isStrs HSM.out; rw [HZN.out] at h; exact h) (by have h := S_2.out.isStrs HSM.out; rw [HZN.out] at h; exact h)).mono ?_
  rintro e w3 ⟨rfl, dn⟩
  have bl := dn.below
  clear dn
  have S_3 := Lib.hid (S_2.out.kept bl)
  have G_3 := Lib.hid (G_2.out.kept bl)
  have B_3 := Lib.hid (Below.next B_2.out bl)
  clear bl S_2 G_2 B_2
  have HMK := Lib.hid (fun W (h : OwnS W w.heap.size aG cG Z) => show Calls Tryd.prog 41 #[.slice aG n cG, .int .i64 ((1 : Nat) : Int)] W (RetMarkT 1 w.heap.size aG cG n W) by have h2 := c_markStrs aG cG w.heap.size 1 Z W h (Nat.le_refl _) (by omega) (by rw [HZN.out]; have := HLN.out; omega); rw [HZN.out] at h2; exact h2)
  obtain ⟨q, hq⟩ : ∃ q, 1 + n = q := ⟨_, rfl⟩
  have HQ := Lib.hid hq
  have hq' : q ≤ 8001 := by have := HLN.out; omega
  have hq0 : (0 : Int) ≤ (q : Int) := by omega
  unfold RetMarkT at HMK
  rw [hq] at HMK
  clear hq
  go_wp2_with fail
  refine (HMK.out _ G_3.out).mono ?_
  rintro e w4 ⟨rfl, ho, hg⟩
  have G_4 := Lib.hid ho
  have S_4 := Lib.hid (S_3.out.apart hg NS.out)
  have B_4 := Lib.hid (Below.grownBy B_3.out hg B_3.out.size (fun g h => (G_3.out.lt g h).1))
  clear ho hg S_3 G_3 B_3
  have HHD := Lib.hid (fun W (h : OwnS W w.heap.size aG cG (marksT 1 n)) => show Calls Tryd.prog 42 #[.slice aG n cG, .int .i64 ((1 : Nat) : Int)] W fun e w' => e = .returned (.int .i64 ((q : Nat) : Int)) ∧ Below W.heap.size W w' by have h2 := c_heldStrs aG cG 1 n W (h.marksAt (by have := HLN.out; omega)) (Nat.le_refl _) (by omega) (by have := HLN.out; omega); rw [HQ.out] at h2; exact h2)
  go_wp2_with fail
  refine (HHD.out _ G_4.out).mono ?_
  rintro e w5 ⟨rfl, hb⟩
  have S_5 := Lib.hid (S_4.out.kept hb)
  have G_5 := Lib.hid (G_4.out.kept hb)
  have B_5 := Lib.hid (Below.next B_4.out hb)
  clear hb S_4 G_4 B_4
  go_wp2_with fail
  refine (HI.out _ B_5.out).mono ?_
  rintro e w6 ⟨aH, cH, yH, rfl, ho, hy, hb⟩
  rw [hy] at ho
  rw [hy, HZN.out]
  clear hy yH
  have H_6 := Lib.hid ho
  have S_6 := Lib.hid (S_5.out.kept hb)
  have G_6 := Lib.hid (G_5.out.kept hb)
  have B_6 := Lib.hid (Below.next B_5.out hb)
  clear ho hb S_5 G_5 B_5
  go_wp2_with fail
  refine (c_eqStrs _ _ _ _ n (Z.map strB) _ (by have h := H_6.out.isStrs HSM.out; rw [HZN.out] at h; exact h) (by have h := S_6.out.isStrs HSM.out; rw [HZN.out] at h; exact h)).mono ?_
  rintro e w7 ⟨rfl, dn⟩
  have bl := dn.below
  clear dn
  have S_7 := Lib.hid (S_6.out.kept bl)
  have G_7 := Lib.hid (G_6.out.kept bl)
  have B_7 := Lib.hid (Below.next B_6.out bl)
  clear bl S_6 G_6 H_6 B_6
  go_wp2_with fail
  refine (HHD.out _ G_7.out).mono ?_
  rintro e w8 ⟨rfl, hb⟩
  have S_8 := Lib.hid (S_7.out.kept hb)
  have G_8 := Lib.hid (G_7.out.kept hb)
  have B_8 := Lib.hid (Below.next B_7.out hb)
  clear hb S_7 G_7 B_7
  go_wp2_with fail
  go_ret
  exact ⟨rfl, B_8.out⟩

/-! the door's own heap meets the condition -/
def laid : List (String × DataW Unit) := Rows.fnExactRecoverJournalRow.laid
theorem own : ownKnob Tryd.prog.godebug = none := by kernel_rfl
theorem door_met (os : Os) (args : Array Value) : laidMetH Tryd.prog laid ((World.doorLaid Tryd.prog 400 os).forCall (fun _ _ => 0) ⟨#[], args, []⟩).memory :=
  laidMetH_of_parts3 (fuel := 8) (laidMet_of_run' 8 (by kernel_rfl) (by kernel_rfl)) (by kernel_rfl) (by kernel_rfl)
set_option maxRecDepth 100000 in
theorem lifted (os : Os) (started : os.Started) (H : Type) (enc : TypeId × Value → H) :
    ReturnsInHanded {} Tryd.checked os 10 .any (fun w args => (Rows.fnExactRecoverJournalSpec.pre enc Tryd.prog Tryd.f10 [] false w args ∧ laidMetH Tryd.prog laid w) ∧ sizedMet enc Tryd.prog Tryd.f10 (OpenSpec.ofChange Rows.fnExactRecoverJournalSpec) false w args)
      (Rows.fnExactRecoverJournalSpec.post enc Tryd.prog Tryd.f10 false true false false) := by
  refine laid_shaped (C := Tryd.checked) (X := fun w _ => laidMetH Tryd.prog laid w) (fun _ _ _ hh h => h.of_heap hh) own started (by kernel_rfl) Tryd.func10
    (ChangeSpec.witness_shaped (enc := enc) (C := Tryd.checked) (os := os) (X := fun w _ => laidMetH Tryd.prog laid w) false (World.doorLaid Tryd.prog 400 os) #[.string ByteArray.empty] 8 rfl (World.shaped_of_RefB (by kernel_rfl) (by kernel_rfl)) (by kernel_rfl) (by kernel_rfl) (by kernel_rfl) (door_met os _)) ?_
  intro W base args ds gs before hval0 hW hcnd _ hL hSh _
  have hval : ∀ (j : Nat) t v, Tryd.f10.params[j]? = some t → args[j]? = some v → Value.okWide Tryd.prog W .any base t v := hval0
  have hW' := hW
  obtain ⟨p, q, hA0, hV, rfl, hfz, hnd⟩ := hW
  have hA : DataW.TrodAll enc Tryd.prog W 0 (fun _ => true) true Tryd.f10.params.toList args.toList ds p := hA0
  rw [Tryd.params10] at hA hval
  obtain ⟨v0, vs0, d0, ds0, p0, q0, hargs, rfl, rfl, h0, rest0⟩ := trodAll_cons hA
  obtain ⟨rfl, rfl, rfl⟩ := trodAll_nil rest0
  obtain rfl : args = #[v0] := by cases args; simp_all
  obtain ⟨rfl, rfl⟩ := trodVars_none hV
  obtain ⟨a0, rfl, rfl, rfl, w0⟩ := open_string Tryd.underlying9 (hval 0 9 v0 rfl rfl) h0
  clear hA0 hval0
  refine (walk a0 W w0 (tab_ok hL rfl (List.mem_of_getElem? (i := 2) (by kernel_rfl))) (max_ok hSh)).mono fun e W' ⟨he, bel⟩ => ?_
  subst he
  exact ⟨_, rfl, _, _, _, [], _, [], hW', trodAll_mk1 (shut_bool Tryd.underlying4 _), (trodAll_cons_mk (shut_string Tryd.underlying9 w0) trodAll_mk0), rfl, bel.frame _, fun h => by cases h⟩

theorem named_ : Tryd.pinned.checked.prog.funcNamed Rows.fnExactRecoverJournalRow.func = some 10 := by kernel_rfl
theorem fk1 : (Rows.fnExactRecoverJournalRow.wf (OpenSpec.ofChange Rows.fnExactRecoverJournalSpec)) = true := by kernel_rfl
theorem fk4 : (Tryd.f10.params.all (Tryd.pinned.checked.prog.readableRec ·)) = true := by kernel_rfl
theorem fk5 : (namedTie Tryd.pinned.checked.prog Rows.fnExactRecoverJournalRow.named Rows.fnExactRecoverJournalSpec.vars) = true := by kernel_rfl
theorem fk6 : ((Rows.fnExactRecoverJournalRow.stops == [])) = true := by kernel_rfl
theorem fk8 : ((Rows.fnExactRecoverJournalRow.knobs == [])) = true := by kernel_rfl
theorem fk10 : ((Rows.fnExactRecoverJournalRow.inPlace == Tryd.pinned.checked.prog.inPlace 10)) = true := by kernel_rfl
theorem fk11 : ((Rows.fnExactRecoverJournalRow.unfollowed == Tryd.pinned.checked.prog.unfollowed 10)) = true := by kernel_rfl
theorem fk12 : ((Rows.fnExactRecoverJournalRow.recurses == Tryd.pinned.checked.prog.recurses 10)) = true := by kernel_rfl
theorem fk13 : ((Rows.fnExactRecoverJournalRow.named == Tryd.pinned.checked.prog.varsNamed 10)) = true := by kernel_rfl
theorem fk14 : ((Rows.fnExactRecoverJournalRow.maps == (Tryd.f10.params.toList ++ Rows.fnExactRecoverJournalSpec.plain.varTypes Tryd.pinned.checked.prog).any (Tryd.pinned.checked.prog.mapsRec ·))) = true := by kernel_rfl
theorem fk15 : ((Rows.fnExactRecoverJournalRow.ifaces == (Tryd.f10.params.toList ++ Rows.fnExactRecoverJournalSpec.plain.varTypes Tryd.pinned.checked.prog).any (Tryd.pinned.checked.prog.ifacesRec ·))) = true := by kernel_rfl
theorem fk16 : ((Rows.fnExactRecoverJournalRow.mapsOut == Tryd.pinned.checked.prog.mapsAmong Tryd.f10.resultTypes.toList)) = true := by kernel_rfl
theorem fk17 : ((Rows.fnExactRecoverJournalRow.loops == (Tryd.f10.params.toList ++ Rows.fnExactRecoverJournalSpec.plain.varTypes Tryd.pinned.checked.prog).any (Tryd.pinned.checked.prog.loopsFrom ·))) = true := by kernel_rfl
theorem fk18 : ((Rows.fnExactRecoverJournalRow.wideKeys == (Tryd.f10.params.toList ++ Rows.fnExactRecoverJournalSpec.plain.varTypes Tryd.pinned.checked.prog ++ Tryd.f10.resultTypes.toList).any (Tryd.pinned.checked.prog.wideKeysFrom ·))) = true := by kernel_rfl
theorem fk19 : (Rows.fnExactRecoverJournalSpec.vars.all (Tryd.pinned.checked.prog.varReadable ·)) = true := by kernel_rfl
theorem fk20 : (Tryd.f10.resultTypes.all (fun t => Tryd.pinned.checked.prog.readableRec t && decide (t < Tryd.pinned.checked.prog.types.size))) = true := by kernel_rfl
theorem fk21 : ((Rows.fnExactRecoverJournalRow.ifacesOut == Tryd.f10.resultTypes.toList.any (Tryd.pinned.checked.prog.ifacesRec ·))) = true := by kernel_rfl
theorem fk22 : ((Rows.fnExactRecoverJournalRow.loopsOut == Tryd.f10.resultTypes.toList.any (Tryd.pinned.checked.prog.loopsFrom ·))) = true := by kernel_rfl
theorem fk23 : (Rows.fnExactRecoverJournalRow.plainKeys == Tryd.pinned.checked.prog.plainKeys) = true := by rw [cls_keys]; kernel_rfl
theorem fk24 : (Rows.fnExactRecoverJournalRow.shortTexts.isNone) = true := by kernel_rfl
theorem fk27 : (Rows.fnExactRecoverJournalRow.lifted == Tryd.pinned.checked.prog.liftsFinal) = true := by rw [cls_lift]; kernel_rfl
theorem fk28 : (Tryd.pinned.checked.prog.make == some Rows.fnExactRecoverJournalRow.make) = true := by rw [cls_make]; kernel_rfl
theorem fk29 : ((Rows.fnExactRecoverJournalRow.kinds == (if Rows.fnExactRecoverJournalRow.domain.isEmpty then [] else Tryd.f10.params.toList.map fun t => match Tryd.pinned.checked.prog.underlying t with | some (.int k) => some k | _ => none))) = true := by kernel_rfl
theorem fk30 : ((Rows.fnExactRecoverJournalRow.pinned == Rows.fnExactRecoverJournalRow.pinnedBy)) = true := by kernel_rfl
theorem fk31 : ((Rows.fnExactRecoverJournalRow.veiled == (Tryd.f10.params.toList ++ Rows.fnExactRecoverJournalSpec.plain.varTypes Tryd.pinned.checked.prog ++ Tryd.f10.resultTypes.toList).any (Tryd.pinned.checked.prog.veiledRec ·))) = true := by kernel_rfl
theorem fk32 : (Rows.fnExactRecoverJournalRow.veiledFits Tryd.pinned.checked.prog Tryd.f10.params.toList (Tryd.f10.params.toList ++ Rows.fnExactRecoverJournalSpec.plain.varTypes Tryd.pinned.checked.prog ++ Tryd.f10.resultTypes.toList)) = true := by kernel_rfl
set_option maxRecDepth 100000 in
theorem closed : joinedFacts Tryd.pinned.checked.prog 10 Tryd.f10 Rows.fnExactRecoverJournalSpec Rows.fnExactRecoverJournalRow = true := (and2 (and2 (and2 (and2 (and2 (and2 (and2 (and2 (and2 (and2 (and2 (and2 (and2 (and2 (and2 (and2 (and2 (and2 (and2 (and2 (and2 (and2 (and2 (and2 (and2 (and2 (and2 (and2 (and2 (and2 (and2 fk1 cls_laid) cls_maps) fk4) fk5) fk6) cls_stops) fk8) cls_knobs) fk10) fk11) fk12) fk13) fk14) fk15) fk16) fk17) fk18) fk19) fk20) fk21) fk22) fk23) fk24) cls_heard) cls_enter) fk27) fk28) fk29) fk30) fk31) fk32)
theorem over : Rows.fnExactRecoverJournalRow.holds Tryd.pinned (OpenSpec.ofChange Rows.fnExactRecoverJournalSpec) :=
  OpenClaim.holds_of_wide 10 Tryd.f10 rfl rfl rfl rfl rfl rfl rfl ⟨rfl, rfl, rfl, rfl, rfl⟩ rfl rfl rfl rfl rfl named_ Tryd.func10 closed
    (of_decide_eq_true (by kernel_rfl)) (by unfold Func.isWrapper; first | (rw [if_pos (by decide +kernel)]; kernel_rfl) | (rw [if_neg (by decide +kernel)]; exact ⟨rfl, rfl⟩))
    (fun os started H enc _ => lifted os started H enc)

/-- the statement: the row, tied to the program's text -/
theorem proved : Rows.FnExactRecoverJournalCardSaid :=
  Claim7.holds_tied_plain_at .later [] Rows.fnExactRecoverJournalCard.laidKinds true Rows.fnExactRecoverJournalCard.stood.harness true
    over (fun _ h => by cases h) (by kernel_rfl) (fun _ h => by cases h) fnExactRecoverJournal_row_tie rfl ⟨rfl, rfl⟩ (by kernel_rfl) rfl
    (fun f fn hf hfn => by
      obtain rfl : f = 10 := Option.some.inj ((show Tryd.prog.funcNamed Rows.fnExactRecoverJournalRow.func = some 10 by kernel_rfl).symm.trans hf) |>.symm
      obtain rfl : fn = Tryd.f10 := (Option.some.inj (Tryd.func10.symm.trans hfn)).symm
      exact ⟨by kernel_rfl, fun j t ht => by
        rw [Tryd.params10] at ht
        rcases j with _ | j
        · obtain rfl : t = 9 := by simpa using ht.symm
          exact (show Tryd.prog.wantsStandIn 9 = false by kernel_rfl)
        · simp at ht⟩)
    (by kernel_rfl)
end Go.Proofs.YtokminhnkmhneaaDoor.fnExactRecoverJournal
