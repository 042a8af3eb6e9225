/-
  For every list of requests and every list of answers, LongestDelay answers as its model, and writes into no argument.
-/
import Derived.Test.YtnkmgeiehhonkaaCls
import Derived.Test.YtnkmgeiehhonkaaLdy
import Derived.ChangeOld
import Derived.Below
namespace Go.Proofs.Ytnkmgeiehhonkaa.fnExactLongestDelay
open Go.ChangeShapes Go.WideShapes Go.ChangeAt Go.RowKit
open Go.ChangeMaps (open_string shut_string)
set_option linter.unusedVariables false

set_option maxHeartbeats 4000000 in
set_option maxRecDepth 100000 in
/-- for any contracts of the model and of the program that say the same -/
theorem core (ls0 : List ReqA) (ls1 : List AnsA) (g0 : Option Addr) (c0 : Nat) (g1 : Option Addr) (c1 : Nat) (w : World) (w0' : ReqsAt w g0 ls0.length c0 ls0) (w1' : AnssAt w g1 ls1.length c1 ls1) (x : Int) (b : Bool) (hL0 : (ls0.length + reqSum (ls0.map ReqA.p)) ≤ 1048576) (hL1 : (ls0.length + reqSum (ls0.map ReqA.p)) + (ls1.length + ansSum (ls1.map AnsA.p)) ≤ 1048576) 
    (CS' : ∀ (g0 : Option Addr) (c0 : Nat) (y0 : List ReqA) (g1 : Option Addr) (c1 : Nat) (y1 : List AnsA) (w : World), (y0.map ReqA.p = ls0.map ReqA.p) → (ReqsAt w g0 ls0.length c0 y0) → (y1.map AnsA.p = ls1.map AnsA.p) → (AnssAt w g1 ls1.length c1 y1) → Calls Try.prog 30 #[.slice g0 ls0.length c0, .slice g1 ls1.length c1] w (RetNb x b w))
    (CI' : ∀ (g0 : Option Addr) (c0 : Nat) (y0 : List ReqA) (g1 : Option Addr) (c1 : Nat) (y1 : List AnsA) (w : World), (y0.map ReqA.p = ls0.map ReqA.p) → (ReqsAt w g0 ls0.length c0 y0) → (y1.map AnsA.p = ls1.map AnsA.p) → (AnssAt w g1 ls1.length c1 y1) → Calls Try.prog 32 #[.slice g0 ls0.length c0, .slice g1 ls1.length c1] w (RetNb x b w)) :
    Calls Try.prog 5 #[.slice g0 ls0.length c0, .slice g1 ls1.length c1] w fun e w' => e = .returned (.bool true) ∧ Below w.heap.size w w' := by
  have HS0 := Lib.hid w0'
  have HZ0 := Lib.hid (show ls0.length + reqSum (ls0.map ReqA.p) ≤ 1048576 by omega)
  have HS1 := Lib.hid w1'
  have HZ1 := Lib.hid (show ls1.length + ansSum (ls1.map AnsA.p) ≤ 1048576 by omega)
  have CS := Lib.hid CS'
  have CI := Lib.hid CI'
  obtain ⟨l0, hl0⟩ : ∃ l, 1048576 - (ls0.length + reqSum (ls0.map ReqA.p)) = l := ⟨_, rfl⟩
  have hl0' : l0 ≤ 1048576 := by omega
  have HQ0 := Lib.hid (show ls0.length + reqSum (ls0.map ReqA.p) ≤ 1048576 by omega)
  obtain ⟨l1, hl1⟩ : ∃ l, l0 - (ls1.length + ansSum (ls1.map AnsA.p)) = l := ⟨_, rfl⟩
  have hl1' : l1 ≤ 1048576 := by omega
  have HQ1 := Lib.hid (show ls1.length + ansSum (ls1.map AnsA.p) ≤ l0 by omega)
  have HE0 := Lib.hid hl0
  have hp0 : (0 : Int) ≤ (l0 : Int) := by omega
  have HE1 := Lib.hid hl1
  have hp1 : (0 : Int) ≤ (l1 : Int) := by omega
  clear w0' w1' CS' CI' hl1 hl0 hL0 hL1
  go_enter Try.func5, Try.ntmps5
  go_wp2_with fail
  have B_0 := Lib.hid (Below.refl w.heap.size w)
  refine (c_szReqs _ _ _ _ _ ls0 _ (HS0.out.kept B_0.out) (Nat.le_refl _) HQ0.out HE0.out).mono ?_
  rintro e w1 ⟨rfl, bl⟩
  have B_1 := Lib.hid (Below.next B_0.out bl)
  clear B_0
  clear bl
  go_wp2_with fail
  refine (c_szAnss _ _ _ _ _ ls1 _ (HS1.out.kept B_1.out) hl0' HQ1.out HE1.out).mono ?_
  rintro e w2 ⟨rfl, bl⟩
  have B_2 := Lib.hid (Below.next B_1.out bl)
  clear B_1
  clear bl
  go_wp2_with fail
  refine (c_toReqs _ _ _ ls0 _ (HS0.out.kept B_2.out) HZ0.out).mono ?_
  rintro e w3 ⟨gT0, yT0, rfl, hl, hp, ho, hnd, bl⟩
  have HPT0 := Lib.hid hp
  have HLT0 := Lib.hid hl
  have T0_3 := Lib.hid (OwnL.base B_2.out.size _ ho)
  have B_3 := Lib.hid (Below.next B_2.out bl)
  clear B_2
  clear hl hp ho hnd
  clear bl
  go_wp2_with fail
  refine (c_toAnss _ _ _ ls1 _ (HS1.out.kept B_3.out) HZ1.out).mono ?_
  rintro e w4 ⟨gT1, yT1, rfl, hl, hp, ho, hnd, bl⟩
  have HPT1 := Lib.hid hp
  have HLT1 := Lib.hid hl
  have T1_4 := Lib.hid (OwnL.base B_3.out.size _ ho)
  have B_4 := Lib.hid (Below.next B_3.out bl)
  clear B_3
  have T0_4 := Lib.hid (OwnL.kept T0_3.out bl)
  clear T0_3
  clear hl hp ho hnd
  clear bl
  go_wp2_with fail
  refine (CS.out _ _ yT0 _ _ yT1 _ HPT0.out (reqsAt_own HLT0.out T0_4.out) HPT1.out (anssAt_own HLT1.out T1_4.out)).mono ?_
  rintro e w5 ⟨rfl, bl⟩
  have B_5 := Lib.hid (Below.next B_4.out bl)
  clear B_4
  have T0_5 := Lib.hid (OwnL.kept T0_4.out bl)
  clear T0_4
  have T1_5 := Lib.hid (OwnL.kept T1_4.out bl)
  clear T1_4
  clear bl
  clear T0_5
  clear T1_5
  go_wp2_with fail
  refine (c_toReqs _ _ _ ls0 _ (HS0.out.kept B_5.out) HZ0.out).mono ?_
  rintro e w6 ⟨gX0, yX0, rfl, hl, hp, ho, hnd, bl⟩
  have HPX0 := Lib.hid hp
  have HLX0 := Lib.hid hl
  have X0_6 := Lib.hid (OwnL.base B_5.out.size _ ho)
  have B_6 := Lib.hid (Below.next B_5.out bl)
  clear B_5
  clear hl hp ho hnd
  clear bl
  go_wp2_with fail
  refine (c_toAnss _ _ _ ls1 _ (HS1.out.kept B_6.out) HZ1.out).mono ?_
  rintro e w7 ⟨gX1, yX1, rfl, hl, hp, ho, hnd, bl⟩
  have HPX1 := Lib.hid hp
  have HLX1 := Lib.hid hl
  have X1_7 := Lib.hid (OwnL.base B_6.out.size _ ho)
  have B_7 := Lib.hid (Below.next B_6.out bl)
  clear B_6
  have X0_7 := Lib.hid (OwnL.kept X0_6.out bl)
  clear X0_6
  clear hl hp ho hnd
  clear bl
  go_wp2_with fail
  refine (CI.out _ _ yX0 _ _ yX1 _ HPX0.out (reqsAt_own HLX0.out X0_7.out) HPX1.out (anssAt_own HLX1.out X1_7.out)).mono ?_
  rintro e w8 ⟨rfl, bl⟩
  have B_8 := Lib.hid (Below.next B_7.out bl)
  clear B_7
  have X0_8 := Lib.hid (OwnL.kept X0_7.out bl)
  clear X0_7
  have X1_8 := Lib.hid (OwnL.kept X1_7.out bl)
  clear X1_7
  clear bl
  go_wp2_with fail
  refine (c_toReqs _ _ _ ls0 _ (HS0.out.kept B_8.out) HZ0.out).mono ?_
  rintro e w9 ⟨gY0, yY0, rfl, hl, hp, ho, hnd, bl⟩
  have HPY0 := Lib.hid hp
  have HLY0 := Lib.hid hl
  have Y0_9 := Lib.hid (OwnL.base B_8.out.size _ ho)
  have B_9 := Lib.hid (Below.next B_8.out bl)
  clear B_8
  have X0_9 := Lib.hid (OwnL.kept X0_8.out bl)
  clear X0_8
  have X1_9 := Lib.hid (OwnL.kept X1_8.out bl)
  clear X1_8
  clear hl hp ho hnd
  clear bl
  go_wp2_with fail
  refine (c_eqReqs _ _ _ _ _ yX0 yY0 _ (reqsAt_own HLX0.out X0_9.out) (reqsAt_own HLY0.out Y0_9.out) (req_can_of (HPX0.out.trans HPY0.out.symm))).mono ?_
  rintro e w10 ⟨rfl, bl⟩
  have B_10 := Lib.hid (Below.next B_9.out bl)
  clear B_9
  have X0_10 := Lib.hid (OwnL.kept X0_9.out bl)
  clear X0_9
  have X1_10 := Lib.hid (OwnL.kept X1_9.out bl)
  clear X1_9
  have Y0_10 := Lib.hid (OwnL.kept Y0_9.out bl)
  clear Y0_9
  clear bl
  clear Y0_10
  go_wp2_with fail
  refine (c_toAnss _ _ _ ls1 _ (HS1.out.kept B_10.out) HZ1.out).mono ?_
  rintro e w11 ⟨gY1, yY1, rfl, hl, hp, ho, hnd, bl⟩
  have HPY1 := Lib.hid hp
  have HLY1 := Lib.hid hl
  have Y1_11 := Lib.hid (OwnL.base B_10.out.size _ ho)
  have B_11 := Lib.hid (Below.next B_10.out bl)
  clear B_10
  have X0_11 := Lib.hid (OwnL.kept X0_10.out bl)
  clear X0_10
  have X1_11 := Lib.hid (OwnL.kept X1_10.out bl)
  clear X1_10
  clear hl hp ho hnd
  clear bl
  go_wp2_with fail
  refine (c_eqAnss _ _ _ _ _ yX1 yY1 _ (anssAt_own HLX1.out X1_11.out) (anssAt_own HLY1.out Y1_11.out) (ans_can_of (HPX1.out.trans HPY1.out.symm))).mono ?_
  rintro e w12 ⟨rfl, bl⟩
  have B_12 := Lib.hid (Below.next B_11.out bl)
  clear B_11
  have X0_12 := Lib.hid (OwnL.kept X0_11.out bl)
  clear X0_11
  have X1_12 := Lib.hid (OwnL.kept X1_11.out bl)
  clear X1_11
  have Y1_12 := Lib.hid (OwnL.kept Y1_11.out bl)
  clear Y1_11
  clear bl
  clear Y1_12
  go_wp2_with fail
  go_ret
  exact ⟨rfl, B_12.out⟩

theorem walk (v0 : Value) (v1 : Value) (w : World) (w0 : ∃ (g : Option Addr) (c : Nat) (ls : List ReqA), v0 = .slice g ls.length c ∧ ReqsAt w g ls.length c ls) (w1 : ∃ (g : Option Addr) (c : Nat) (ls : List AnsA), v1 = .slice g ls.length c ∧ AnssAt w g ls.length c ls) :
    Calls Try.prog 5 #[v0, v1] w fun e w' => e = .returned (.bool true) ∧ Below w.heap.size w w' := by
  obtain ⟨g0, c0, ls0, rfl, w0⟩ := w0
  obtain ⟨g1, c1, ls1, rfl, w1⟩ := w1
  by_cases hL0 : (ls0.length + reqSum (ls0.map ReqA.p)) ≤ 1048576
  case neg =>
    have HN := Lib.hid (show 1048576 < ls0.length + reqSum (ls0.map ReqA.p) by omega)
    have HS := Lib.hid w0
    have bl := Lib.hid ((Below.refl w.heap.size w))
    clear hL0 w0
    go_enter Try.func5, Try.ntmps5
    go_wp2_with fail
    refine (c_szReqs_no _ _ _ 1048576 ls0 _ (HS.out.kept bl.out) (Nat.le_refl _) HN.out).mono ?_
    rintro e w1 ⟨rfl, hb⟩
    have HB := Lib.hid (Below.next bl.out hb)
    clear hb bl
    go_wp2
    go_ret
    exact ⟨rfl, HB.out⟩
  case pos =>
    by_cases hL1 : (ls0.length + reqSum (ls0.map ReqA.p)) + (ls1.length + ansSum (ls1.map AnsA.p)) ≤ 1048576
    case neg =>
      have HS0 := Lib.hid w0
      have HS1 := Lib.hid w1
      obtain ⟨l0, hl0⟩ : ∃ l, 1048576 - (ls0.length + reqSum (ls0.map ReqA.p)) = l := ⟨_, rfl⟩
      have hl0' : l0 ≤ 1048576 := by omega
      have HQ0 := Lib.hid (show ls0.length + reqSum (ls0.map ReqA.p) ≤ 1048576 by omega)
      have HE0 := Lib.hid hl0
      have hp0 : (0 : Int) ≤ (l0 : Int) := by omega
      have HN := Lib.hid (show l0 < ls1.length + ansSum (ls1.map AnsA.p) by omega)
      clear hl0 hL1 hL0 w0 w1
      go_enter Try.func5, Try.ntmps5
      go_wp2_with fail
      have B_0 := Lib.hid (Below.refl w.heap.size w)
      refine (c_szReqs _ _ _ _ _ ls0 _ (HS0.out.kept B_0.out) (Nat.le_refl _) HQ0.out HE0.out).mono ?_
      rintro e w1 ⟨rfl, bl⟩
      have B_1 := Lib.hid (Below.next B_0.out bl)
      clear B_0
      clear bl
      go_wp2_with fail
      refine (c_szAnss_no _ _ _ l0 ls1 _ (HS1.out.kept B_1.out) hl0' HN.out).mono ?_
      rintro e w2 ⟨rfl, bl⟩
      have B_2 := Lib.hid (Below.next B_1.out bl)
      clear B_1
      clear bl
      go_wp2
      go_ret
      exact ⟨rfl, B_2.out⟩
    case pos =>
      exact core ls0 ls1 g0 c0 g1 c1 w w0 w1 (vLongestDelay (ls0.map ReqA.p) (ls1.map AnsA.p)).1 (vLongestDelay (ls0.map ReqA.p) (ls1.map AnsA.p)).2 hL0 hL1  (fun g0_ c0_ y0_ g1_ c1_ y1_ w hp0 h0 hp1 h1 => t_sLongestDelay (ls0.map ReqA.p) ls0.length g0_ c0_ y0_ (ls1.map AnsA.p) ls1.length g1_ c1_ y1_ w hp0 h0 hp1 h1) (fun g0_ c0_ y0_ g1_ c1_ y1_ w hp0 h0 hp1 h1 => t_iLongestDelay (ls0.map ReqA.p) ls0.length g0_ c0_ y0_ (ls1.map AnsA.p) ls1.length g1_ c1_ y1_ w hp0 h0 hp1 h1)

/-! the row's step -/
set_option maxRecDepth 100000 in
theorem lifted (os : Os) (started : os.Started) (H : Type) (enc : TypeId × Value → H) :
    ReturnsInHanded {} Try.checked os 5 .any (Rows.fnExactLongestDelaySpec.pre6 enc Try.prog Try.f5 Rows.fnExactLongestDelayRow.domain false) (Rows.fnExactLongestDelaySpec.post enc Try.prog Try.f5 false true false false) := by
  refine returnsInHanded_of_change (C := Try.checked) own started (by kernel_rfl) Try.func5
    (ChangeSpec.witness6 (enc := enc) (C := Try.checked) false ⟨#[], #[.slice none 0 0, .slice none 0 0], []⟩ 8 (by kernel_rfl) (by kernel_rfl) (by kernel_rfl) (by kernel_rfl)) ?_
  intro W base args ds gs before hval0 hW hcnd _
  have hval : ∀ (j : Nat) t v, Try.f5.params[j]? = some t → args[j]? = some v → Value.okWide Try.prog W .any base t v := hval0
  have hW' := hW
  obtain ⟨p, q, hA0, hV, rfl, hfz, hnd⟩ := hW
  have hA : DataW.TrodAll enc Try.prog W 0 (fun _ => true) true Try.f5.params.toList args.toList ds p := hA0
  rw [Try.params5] at hA hval
  obtain ⟨v0, vs0, d0, ds0, p0, q0, hargs, rfl, rfl, h0, rest0⟩ := trodAll_cons hA
  obtain ⟨v1, vs1, d1, ds1, p1, q1, rfl, rfl, rfl, h1, rest1⟩ := trodAll_cons rest0
  obtain ⟨rfl, rfl, rfl⟩ := trodAll_nil rest1
  obtain rfl : args = #[v0, v1] := by cases args; simp_all
  obtain ⟨rfl, rfl⟩ := trodVars_none hV
  have k0 := h0
  have lt0 : ∀ x ∈ p0, x.block < W.heap.size := by obtain ⟨m, hm⟩ := k0; exact DataW.trod_lt m _ _ _ hm
  have w0 := open_Reqs (hval 0 40 v0 rfl rfl) h0
  have k1 := h1
  have lt1 : ∀ x ∈ p1, x.block < W.heap.size := by obtain ⟨m, hm⟩ := k1; exact DataW.trod_lt m _ _ _ hm
  have w1 := open_Anss (hval 1 28 v1 rfl rfl) h1
  clear hA0 hval0
  refine (walk _ _ W w0 w1).mono fun e W' ⟨he, bel⟩ => ?_
  subst he
  exact ⟨_, rfl, _, _, _, [], _, [], hW', trodAll_mk1 (shut_bool Try.underlying4 _), (trodAll_cons_mk (Below.trod laidOut (by kernel_rfl) (of_decide_eq_true (by kernel_rfl)) k0 bel lt0) (trodAll_cons_mk (Below.trod laidOut (by kernel_rfl) (of_decide_eq_true (by kernel_rfl)) k1 bel lt1) trodAll_mk0)), rfl, bel.frame _, fun h => by cases h⟩

theorem named_ : Try.pinned.checked.prog.funcNamed Rows.fnExactLongestDelayRow.func = some 5 := by kernel_rfl
theorem fk1 : (Rows.fnExactLongestDelayRow.wf (OpenSpec.ofChange Rows.fnExactLongestDelaySpec)) = true := by kernel_rfl
theorem fk4 : (Try.f5.params.all (Try.pinned.checked.prog.readableRec ·)) = true := by kernel_rfl
theorem fk5 : (namedTie Try.pinned.checked.prog Rows.fnExactLongestDelayRow.named Rows.fnExactLongestDelaySpec.vars) = true := by kernel_rfl
theorem fk6 : ((Rows.fnExactLongestDelayRow.stops == [])) = true := by kernel_rfl
theorem fk8 : ((Rows.fnExactLongestDelayRow.knobs == [])) = true := by kernel_rfl
theorem fk10 : ((Rows.fnExactLongestDelayRow.inPlace == Try.pinned.checked.prog.inPlace 5)) = true := by kernel_rfl
theorem fk11 : ((Rows.fnExactLongestDelayRow.unfollowed == Try.pinned.checked.prog.unfollowed 5)) = true := by kernel_rfl
theorem fk12 : ((Rows.fnExactLongestDelayRow.recurses == Try.pinned.checked.prog.recurses 5)) = true := by kernel_rfl
theorem fk13 : ((Rows.fnExactLongestDelayRow.named == Try.pinned.checked.prog.varsNamed 5)) = true := by kernel_rfl
theorem fk14 : ((Rows.fnExactLongestDelayRow.maps == (Try.f5.params.toList ++ Rows.fnExactLongestDelaySpec.plain.varTypes Try.pinned.checked.prog).any (Try.pinned.checked.prog.mapsRec ·))) = true := by kernel_rfl
theorem fk15 : ((Rows.fnExactLongestDelayRow.ifaces == (Try.f5.params.toList ++ Rows.fnExactLongestDelaySpec.plain.varTypes Try.pinned.checked.prog).any (Try.pinned.checked.prog.ifacesRec ·))) = true := by kernel_rfl
theorem fk16 : ((Rows.fnExactLongestDelayRow.mapsOut == Try.pinned.checked.prog.mapsAmong Try.f5.resultTypes.toList)) = true := by kernel_rfl
theorem fk17 : ((Rows.fnExactLongestDelayRow.loops == (Try.f5.params.toList ++ Rows.fnExactLongestDelaySpec.plain.varTypes Try.pinned.checked.prog).any (Try.pinned.checked.prog.loopsFrom ·))) = true := by kernel_rfl
theorem fk18 : ((Rows.fnExactLongestDelayRow.wideKeys == (Try.f5.params.toList ++ Rows.fnExactLongestDelaySpec.plain.varTypes Try.pinned.checked.prog ++ Try.f5.resultTypes.toList).any (Try.pinned.checked.prog.wideKeysFrom ·))) = true := by kernel_rfl
theorem fk19 : (Rows.fnExactLongestDelaySpec.vars.all (Try.pinned.checked.prog.varReadable ·)) = true := by kernel_rfl
theorem fk20 : (Try.f5.resultTypes.all (fun t => Try.pinned.checked.prog.readableRec t && decide (t < Try.pinned.checked.prog.types.size))) = true := by kernel_rfl
theorem fk21 : ((Rows.fnExactLongestDelayRow.ifacesOut == Try.f5.resultTypes.toList.any (Try.pinned.checked.prog.ifacesRec ·))) = true := by kernel_rfl
theorem fk22 : ((Rows.fnExactLongestDelayRow.loopsOut == Try.f5.resultTypes.toList.any (Try.pinned.checked.prog.loopsFrom ·))) = true := by kernel_rfl
theorem fk23 : (Rows.fnExactLongestDelayRow.plainKeys == Try.pinned.checked.prog.plainKeys) = true := by rw [cls_keys]; kernel_rfl
theorem fk24 : (Rows.fnExactLongestDelayRow.shortTexts.isNone) = true := by kernel_rfl
theorem fk27 : (Rows.fnExactLongestDelayRow.lifted == Try.pinned.checked.prog.liftsFinal) = true := by rw [cls_lift]; kernel_rfl
theorem fk28 : (Try.pinned.checked.prog.make == some Rows.fnExactLongestDelayRow.make) = true := by rw [cls_make]; kernel_rfl
theorem fk29 : ((Rows.fnExactLongestDelayRow.kinds == (if Rows.fnExactLongestDelayRow.domain.isEmpty then [] else Try.f5.params.toList.map fun t => match Try.pinned.checked.prog.underlying t with | some (.int k) => some k | _ => none))) = true := by kernel_rfl
theorem fk30 : ((Rows.fnExactLongestDelayRow.pinned == Rows.fnExactLongestDelayRow.pinnedBy)) = true := by kernel_rfl
theorem fk31 : ((Rows.fnExactLongestDelayRow.veiled == (Try.f5.params.toList ++ Rows.fnExactLongestDelaySpec.plain.varTypes Try.pinned.checked.prog ++ Try.f5.resultTypes.toList).any (Try.pinned.checked.prog.veiledRec ·))) = true := by kernel_rfl
theorem fk32 : (Rows.fnExactLongestDelayRow.veiledFits Try.pinned.checked.prog Try.f5.params.toList (Try.f5.params.toList ++ Rows.fnExactLongestDelaySpec.plain.varTypes Try.pinned.checked.prog ++ Try.f5.resultTypes.toList)) = true := by kernel_rfl
set_option maxRecDepth 100000 in
theorem closed : joinedFacts Try.pinned.checked.prog 5 Try.f5 Rows.fnExactLongestDelaySpec Rows.fnExactLongestDelayRow = true := (and2 (and2 (and2 (and2 (and2 (and2 (and2 (and2 (and2 (and2 (and2 (and2 (and2 (and2 (and2 (and2 (and2 (and2 (and2 (and2 (and2 (and2 (and2 (and2 (and2 (and2 (and2 (and2 (and2 (and2 (and2 fk1 cls_laid) cls_maps) fk4) fk5) fk6) cls_stops) fk8) cls_knobs) fk10) fk11) fk12) fk13) fk14) fk15) fk16) fk17) fk18) fk19) fk20) fk21) fk22) fk23) fk24) cls_heard) cls_enter) fk27) fk28) fk29) fk30) fk31) fk32)
theorem over : Rows.fnExactLongestDelayRow.holds Try.pinned (OpenSpec.ofChange Rows.fnExactLongestDelaySpec) :=
  OpenClaim.holds_of_wide 5 Try.f5 rfl rfl rfl rfl rfl rfl rfl ⟨rfl, rfl, rfl, rfl, rfl⟩ rfl rfl rfl rfl rfl named_ Try.func5 closed
    (of_decide_eq_true (by kernel_rfl)) (by unfold Func.isWrapper; first | (rw [if_pos (by decide +kernel)]; kernel_rfl) | (rw [if_neg (by decide +kernel)]; exact ⟨rfl, rfl⟩))
    (fun os started H enc _ => lifted os started H enc)

/-- the statement -/
theorem proved : Rows.FnExactLongestDelaySaid := over
end Go.Proofs.Ytnkmgeiehhonkaa.fnExactLongestDelay
