/-
  PlanText answers as its model. Conditions: none; a plan over the laws' own bound is passed over by the law itself.
-/
import Derived.Test.YtdngbfpfhkkmpaaDoorPtz
import Derived.Test.YtdngbfpfhkkmpaaDoorTie
import Derived.Test.YtdngbfpfhkkmpaaDoorCards
import Derived.ChangeOld
import Derived.Below
import Derived.LaidMore
import Derived.OpenVars
import Derived.ChangeVars
import Derived.LaidLaws
import Derived.SevenTiedAt
namespace Go.Proofs.YtdngbfpfhkkmpaaDoor.fnExactPlanText
open Go.ChangeShapes Go.WideShapes Go.ChangeAt Go.RowKit
open Go.ChangeMaps (open_string shut_string)
set_option linter.unusedVariables false

set_option maxHeartbeats 4000000 in
set_option maxRecDepth 100000 in
/-- for any contracts of the model and of the program that say the same -/
theorem core (ls0 : List PstA) (g0 : Option Addr) (c0 : Nat) (w : World) (w0' : PstsAt w g0 ls0.length c0 ls0) (ht : TabOk w) (hk : KnOk w) (x : ByteArray) (b : Bool) (hL0 : (ls0.length + pstSum (ls0.map PstA.p)) ≤ 1048576) 
    (CS' : ∀ (g0 : Option Addr) (c0 : Nat) (y0 : List PstA) (w : World), (y0.map PstA.p = ls0.map PstA.p) → (PstsAt w g0 ls0.length c0 y0) → Calls Tryd.prog 5 #[.agg #[.slice g0 ls0.length c0]] w (RetY x b w))
    (CI' : ∀ (g0 : Option Addr) (c0 : Nat) (y0 : List PstA) (w : World), (y0.map PstA.p = ls0.map PstA.p) → (PstsAt w g0 ls0.length c0 y0) → TabOk w → KnOk w → Calls Tryd.prog 7 #[.agg #[.slice g0 ls0.length c0]] w (RetY x b w)) :
    Calls Tryd.prog 3 #[.agg #[.slice g0 ls0.length c0]] w fun e w' => e = .returned (.bool true) ∧ Below w.heap.size w w' := by
  have HS0 := Lib.hid w0'
  have HZ0 := Lib.hid (show ls0.length + pstSum (ls0.map PstA.p) ≤ 1048576 by omega)
  have CS := Lib.hid CS'
  have CI := Lib.hid CI'
  have HTB := Lib.hid ht
  have HKN := Lib.hid hk
  obtain ⟨l0, hl0⟩ : ∃ l, 1048576 - (ls0.length + pstSum (ls0.map PstA.p)) = l := ⟨_, rfl⟩
  have hl0' : l0 ≤ 1048576 := by omega
  have HQ0 := Lib.hid (show ls0.length + pstSum (ls0.map PstA.p) ≤ 1048576 by omega)
  have HE0 := Lib.hid hl0
  have hp0 : (0 : Int) ≤ (l0 : Int) := by omega
  clear w0' CS' CI' ht hk hl0 hL0
  go_enter Tryd.func3, Tryd.ntmps3
  go_wp2_with fail
  have B_0 := Lib.hid (Below.refl w.heap.size w)
  have bl := (Below.refl (w).heap.size (w)).alloc (Nat.le_refl _) (.cells #[.slice g0 ls0.length c0] 24)
  have K0_1 := Lib.hid (Blk.new (w) 24 #[.slice g0 ls0.length c0])
  have B_1 := Lib.hid (Below.next B_0.out bl)
  clear B_0
  clear bl
  generalize (w).alloc (.cells #[.slice g0 ls0.length c0] 24) = w1 at B_1 K0_1 ⊢
  refine (c_szPln _ _ _ _ _ ls0 _ (HS0.out.kept B_1.out) (Nat.le_refl _) HQ0.out HE0.out).mono ?_
  rintro e w2 ⟨rfl, bl⟩
  have B_2 := Lib.hid (Below.next B_1.out bl)
  clear B_1
  have K0_2 := Lib.hid (K0_1.out.below bl)
  clear K0_1
  clear bl
  obtain ⟨pK00, pK0l⟩ := tb1 K0_2.out
  go_wp2_with fail
  clear pK00 pK0l
  refine (c_toPln _ _ _ ls0 _ (HS0.out.kept B_2.out) HZ0.out).mono ?_
  rintro e w3 ⟨gT0, yT0, rfl, hl, hp, ho, hnd, bl⟩
  have HPT0 := Lib.hid hp
  have HLT0 := Lib.hid hl
  have T0_3 := Lib.hid (OwnL.base B_2.out.size _ ho)
  have B_3 := Lib.hid (Below.next B_2.out bl)
  clear B_2
  have K0_3 := Lib.hid (K0_2.out.below bl)
  clear K0_2
  clear hl hp ho hnd
  clear bl
  obtain ⟨pK00, pK0l⟩ := tb1 K0_3.out
  go_wp2_with fail
  clear pK00 pK0l
  refine (CS.out _ _ yT0 _ HPT0.out (pstsAt_own HLT0.out T0_3.out)).mono ?_
  rintro e w4 ⟨rfl, bl⟩
  have B_4 := Lib.hid (Below.next B_3.out bl)
  clear B_3
  have K0_4 := Lib.hid (K0_3.out.below bl)
  clear K0_3
  have T0_4 := Lib.hid (OwnL.kept T0_3.out bl)
  clear T0_3
  clear bl
  clear T0_4
  obtain ⟨pK00, pK0l⟩ := tb1 K0_4.out
  go_wp2_with fail
  clear pK00 pK0l
  refine (c_toPln _ _ _ ls0 _ (HS0.out.kept B_4.out) HZ0.out).mono ?_
  rintro e w5 ⟨gX0, yX0, rfl, hl, hp, ho, hnd, bl⟩
  have HPX0 := Lib.hid hp
  have HLX0 := Lib.hid hl
  have X0_5 := Lib.hid (OwnL.base B_4.out.size _ ho)
  have B_5 := Lib.hid (Below.next B_4.out bl)
  clear B_4
  have K0_5 := Lib.hid (K0_4.out.below bl)
  clear K0_4
  clear hl hp ho hnd
  clear bl
  obtain ⟨pK00, pK0l⟩ := tb1 K0_5.out
  go_wp2_with fail
  clear pK00 pK0l
  have bl := (Below.refl w5.heap.size w5).alloc (Nat.le_refl _) (.cells #[.slice (some ⟨gX0, 0, none⟩) ls0.length ls0.length] 30)
  have XB0_6 := Lib.hid (Blk.new w5 30 #[.slice (some ⟨gX0, 0, none⟩) ls0.length ls0.length])
  have B_6 := Lib.hid (Below.next B_5.out bl)
  clear B_5
  have K0_6 := Lib.hid (K0_5.out.below bl)
  clear K0_5
  have X0_6 := Lib.hid (OwnL.kept X0_5.out bl)
  clear X0_5
  clear bl
  generalize w5.alloc (.cells #[.slice (some ⟨gX0, 0, none⟩) ls0.length ls0.length] 30) = w6 at B_6 K0_6 X0_6 XB0_6 ⊢
  obtain ⟨pK00, pK0l⟩ := tb1 K0_6.out
  obtain ⟨pXB00, pXB0l⟩ := tb1 XB0_6.out
  try go_wp2_with fail
  clear pK00 pK0l pXB00 pXB0l
  refine (CI.out _ _ yX0 _ HPX0.out (pstsAt_own HLX0.out X0_6.out) (HTB.out.kept B_6.out) (HKN.out.kept B_6.out)).mono ?_
  rintro e w7 ⟨rfl, bl⟩
  have B_7 := Lib.hid (Below.next B_6.out bl)
  clear B_6
  have K0_7 := Lib.hid (K0_6.out.below bl)
  clear K0_6
  have X0_7 := Lib.hid (OwnL.kept X0_6.out bl)
  clear X0_6
  have XB0_7 := Lib.hid (XB0_6.out.below bl)
  clear XB0_6
  clear bl
  obtain ⟨pK00, pK0l⟩ := tb1 K0_7.out
  obtain ⟨pXB00, pXB0l⟩ := tb1 XB0_7.out
  go_wp2_with fail
  clear pK00 pK0l pXB00 pXB0l
  have bl : Below w7.heap.size w7 w7.drew := (Below.refl _ _).drew
  have B_8 := Lib.hid (Below.next B_7.out bl)
  clear B_7
  have K0_8 := Lib.hid (K0_7.out.below bl)
  clear K0_7
  have X0_8 := Lib.hid (OwnL.kept X0_7.out bl)
  clear X0_7
  have XB0_8 := Lib.hid (XB0_7.out.below bl)
  clear XB0_7
  clear bl
  obtain ⟨pK00, pK0l⟩ := tb1 K0_8.out
  obtain ⟨pXB00, pXB0l⟩ := tb1 XB0_8.out
  go_region_held3 (fun w' => w'.cell? ⟨w.heap.size, 0, none⟩ = some (.slice g0 ls0.length c0) ∧ w'.cell? ⟨w5.heap.size, 0, none⟩ = some (.slice (some ⟨gX0, 0, none⟩) ls0.length ls0.length)) (go_keep)
    (first
      | (go_at_call 6
         clear pK00 pK0l pXB00 pXB0l
         refine (c_toPln _ _ _ ls0 _ (HS0.out.kept B_8.out) HZ0.out).mono ?_
         rintro e w9 ⟨gY0, yY0, rfl, hl, hp, ho, hnd, bl⟩
         have HPY0 := Lib.hid hp
         have HLY0 := Lib.hid hl
         have Y0_9 := Lib.hid (OwnL.base B_8.out.size _ ho)
         have B_9 := Lib.hid (Below.next B_8.out bl)
         clear B_8
         have K0_9 := Lib.hid (K0_8.out.below bl)
         clear K0_8
         have X0_9 := Lib.hid (OwnL.kept X0_8.out bl)
         clear X0_8
         have XB0_9 := Lib.hid (XB0_8.out.below bl)
         clear XB0_8
         clear hl hp ho hnd
         clear bl
         obtain ⟨pK00, pK0l⟩ := tb1 K0_9.out
         obtain ⟨pXB00, pXB0l⟩ := tb1 XB0_9.out)
      | (go_at_call 8
         clear pK00 pK0l pXB00 pXB0l
         refine (c_eqPln _ _ _ _ _ yX0 yY0 _ (pstsAt_own HLX0.out X0_9.out) (pstsAt_own HLY0.out Y0_9.out) (pst_can_of (HPX0.out.trans HPY0.out.symm))).mono ?_
         rintro e w10 ⟨rfl, bl⟩
         have B_10 := Lib.hid (Below.next B_9.out bl)
         clear B_9
         have K0_10 := Lib.hid (K0_9.out.below bl)
         clear K0_9
         have X0_10 := Lib.hid (OwnL.kept X0_9.out bl)
         clear X0_9
         have XB0_10 := Lib.hid (XB0_9.out.below bl)
         clear XB0_9
         have Y0_10 := Lib.hid (OwnL.kept Y0_9.out bl)
         clear Y0_9
         clear bl
         obtain ⟨pK00, pK0l⟩ := tb1 K0_10.out
         obtain ⟨pXB00, pXB0l⟩ := tb1 XB0_10.out))
  clear pK00 pK0l pXB00 pXB0l
  clear Y0_10
  obtain ⟨pK00, pK0l⟩ := tb1 K0_10.out
  obtain ⟨pXB00, pXB0l⟩ := tb1 XB0_10.out
  go_wp2_with fail
  clear pK00 pK0l pXB00 pXB0l
  go_ret
  exact ⟨rfl, B_10.out⟩

set_option maxRecDepth 20000 in
set_option maxHeartbeats 4000000 in
theorem walk (v0 : Value) (w : World) (w0 : ∃ x : PlnA, v0 = .agg #[.slice x.g x.ls.length x.c] ∧ PstsAt w x.g x.ls.length x.c x.ls) (ht : TabOk w) (hk : KnOk w) :
    Calls Tryd.prog 3 #[v0] w fun e w' => e = .returned (.bool true) ∧ Below w.heap.size w w' := by
  obtain ⟨⟨g0, c0, ls0⟩, rfl, w0⟩ := w0
  by_cases hL0 : (ls0.length + pstSum (ls0.map PstA.p)) ≤ 1048576
  case neg =>
    have HN := Lib.hid (show 1048576 < ls0.length + pstSum (ls0.map PstA.p) by omega)
    have HS := Lib.hid w0
    have bl := Lib.hid (((Below.refl w.heap.size w).alloc (by simp) (.cells #[.slice g0 ls0.length c0] 24)))
    clear hL0 w0
    go_enter Tryd.func3, Tryd.ntmps3
    go_wp2_with fail
    refine (c_szPln_no _ _ _ 1048576 ls0 _ (HS.out.kept bl.out) (Nat.le_refl _) HN.out).mono ?_
    rintro e w1 ⟨rfl, hb⟩
    have HB := Lib.hid (Below.next bl.out hb)
    clear hb bl
    go_wp2
    go_ret
    exact ⟨rfl, HB.out⟩
  case pos =>
    exact core ls0 g0 c0 w w0 ht hk (vPlanText (ls0.map PstA.p)).1 (vPlanText (ls0.map PstA.p)).2 hL0  (fun g0_ c0_ y0_ w hp0 h0 => t_sPlanText (ls0.map PstA.p) ls0.length g0_ c0_ y0_ w hp0 h0 (show ls0.length ≤ 1048576 by omega)) (fun g0_ c0_ y0_ w hp0 h0 ht hk => t_iPlanText (ls0.map PstA.p) ls0.length g0_ c0_ y0_ w hp0 h0 (show ls0.length ≤ 1048576 by omega) ht hk)

/-! the door's own heap meets the condition -/
def laid : List (String × DataW Unit) := Rows.fnExactPlanTextRow.laid
theorem own : ownKnob Tryd.prog.godebug = none := by kernel_rfl
theorem door_met (os : Os) (args : Array Value) : laidMetH Tryd.prog laid ((World.doorLaid Tryd.prog 400 os).forCall (fun _ _ => 0) ⟨#[], args, []⟩).memory :=
  laidMetH_of_parts3 (fuel := 8) (laidMet_of_run' 8 (by kernel_rfl) (by kernel_rfl)) (by kernel_rfl) (by kernel_rfl)
set_option maxRecDepth 100000 in
theorem lifted (os : Os) (started : os.Started) (H : Type) (enc : TypeId × Value → H) :
    ReturnsInHanded {} Tryd.checked os 3 .any (fun w args => (Rows.fnExactPlanTextSpec.pre enc Tryd.prog Tryd.f3 [] false w args ∧ laidMetH Tryd.prog laid w) ∧ sizedMet enc Tryd.prog Tryd.f3 (OpenSpec.ofChange Rows.fnExactPlanTextSpec) false w args)
      (Rows.fnExactPlanTextSpec.post enc Tryd.prog Tryd.f3 false true false false) := by
  refine returnsInHanded_of_change_and (C := Tryd.checked) (X := fun w _ => laidMetH Tryd.prog laid w) (fun _ _ _ hh h => h.of_heap hh) own started (by kernel_rfl) Tryd.func3
    (ChangeSpec.witness_shaped (enc := enc) (C := Tryd.checked) (os := os) (X := fun w _ => laidMetH Tryd.prog laid w) false (World.doorLaid Tryd.prog 400 os) #[.agg #[.slice none 0 0]] 8 rfl (World.shaped_of_RefB (by kernel_rfl) (by kernel_rfl)) (by kernel_rfl) (by kernel_rfl) (by kernel_rfl) (door_met os _)) ?_
  intro W base args ds gs before hval0 hW hcnd _ hL _
  have hval : ∀ (j : Nat) t v, Tryd.f3.params[j]? = some t → args[j]? = some v → Value.okWide Tryd.prog W .any base t v := hval0
  have hW' := hW
  obtain ⟨p, q, hA0, hV, rfl, hfz, hnd⟩ := hW
  have hA : DataW.TrodAll enc Tryd.prog W 0 (fun _ => true) true Tryd.f3.params.toList args.toList ds p := hA0
  rw [Tryd.params3] at hA hval
  obtain ⟨v0, vs0, d0, ds0, p0, q0, hargs, rfl, rfl, h0, rest0⟩ := trodAll_cons hA
  obtain ⟨rfl, rfl, rfl⟩ := trodAll_nil rest0
  obtain rfl : args = #[v0] := by cases args; simp_all
  obtain ⟨g1, rfl⟩ : ∃ g1, gs = [g1] := by
    obtain ⟨_, _, _, _, d, _, hd, _⟩ := trodVars_one hV
    exact ⟨d, hd⟩
  have k0 := h0
  have lt0 : ∀ x ∈ p0, x.block < W.heap.size := by obtain ⟨m, hm⟩ := k0; exact DataW.trod_lt m _ _ _ hm
  have w0 := open_Pln (hval 0 24 v0 rfl rfl) h0
  clear hA0 hval0
  refine (walk _ W w0 (tab_ok hL rfl (List.mem_of_getElem? (i := 2) (by kernel_rfl))) (kn_ok hL rfl (List.mem_of_getElem? (i := 3) (by kernel_rfl)))).mono fun e W' ⟨he, bel⟩ => ?_
  subst he
  exact ⟨_, rfl, _, _, _, [], _, _, hW', trodAll_mk1 (shut_bool Tryd.underlying4 _), (trodAll_cons_mk (Below.trod laidOut (by kernel_rfl) (of_decide_eq_true (by kernel_rfl)) k0 bel lt0) trodAll_mk0), Below.trodVars laidOut bel (by kernel_rfl) hV, bel.frame _, fun h => by cases h⟩

theorem over : Rows.fnExactPlanTextRow.holds Tryd.pinned (OpenSpec.ofChange Rows.fnExactPlanTextSpec) :=
  OpenClaim.holds_of_wide 3 Tryd.f3 rfl rfl rfl rfl rfl rfl rfl ⟨rfl, rfl, rfl, rfl, rfl⟩ rfl rfl rfl rfl rfl (by kernel_rfl) Tryd.func3 (by kernel_rfl)
    (of_decide_eq_true (by kernel_rfl)) (by unfold Func.isWrapper; first | (rw [if_pos (by decide +kernel)]; kernel_rfl) | (rw [if_neg (by decide +kernel)]; exact ⟨rfl, rfl⟩))
    (fun os started H enc _ => lifted os started H enc)

/-- the statement: the row, tied to the program's text -/
theorem proved : Rows.FnExactPlanTextCardSaid :=
  Claim7.holds_tied_plain_at .later [] Rows.fnExactPlanTextCard.laidKinds true Rows.fnExactPlanTextCard.stood.harness Rows.fnExactPlanTextCard.stood.looks
    over (fun _ h => by cases h) (by kernel_rfl) (fun _ h => by cases h) fnExactPlanText_row_tie rfl ⟨rfl, rfl⟩ (by kernel_rfl) rfl
    (fun f fn hf hfn => by
      obtain rfl : f = 3 := Option.some.inj ((show Tryd.prog.funcNamed Rows.fnExactPlanTextRow.func = some 3 by kernel_rfl).symm.trans hf) |>.symm
      obtain rfl : fn = Tryd.f3 := (Option.some.inj (Tryd.func3.symm.trans hfn)).symm
      exact ⟨by kernel_rfl, fun j t ht => by
        rw [Tryd.params3] at ht
        rcases j with _ | j
        · obtain rfl : t = 24 := by simpa using ht.symm
          exact (show Tryd.prog.wantsStandIn 24 = false by kernel_rfl)
        · simp at ht⟩)
    (by kernel_rfl)
end Go.Proofs.YtdngbfpfhkkmpaaDoor.fnExactPlanText
