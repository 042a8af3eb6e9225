/-
  ReduceLists answers as its model. Conditions: none; lists over the laws' own bound are passed over by the law itself.
-/
import Derived.Test.YtpdgpoonblldgaaCls
import Derived.Test.YtpdgpoonblldgaaRdv
import Derived.Test.YtpdgpoonblldgaaSSk
import Derived.Test.YtpdgpoonblldgaaMark
import Derived.ChangeOld
import Derived.Below
namespace Go.Proofs.Ytpdgpoonblldgaa.fnExactReduceLists
open Go.ChangeShapes Go.WideShapes Go.ChangeAt Go.RowKit
open Go.ChangeMaps (open_string shut_string)
set_option linter.unusedVariables false

set_option maxHeartbeats 4000000 in
set_option maxRecDepth 100000 in
/-- for any contracts of the model and of the program that say the same -/
theorem core (v0 : Int) (ls1 : List FlA)  (g1 : Option Addr) (c1 : Nat) (w : World) (w1' : SSAt w g1 ls1.length c1 ls1) (b : Bool) (zs : List Nat) (hL1 : (ls1.length + cntSS ls1) ≤ 1048576) (hz : zs.length ≤ 1048576)
    (CS' : ∀ (g1 : Option Addr) (c1 : Nat) (y1 : List FlA) (w : World), (y1.map FlA.z = ls1.map FlA.z) → (SSAt w g1 ls1.length c1 y1) → Calls Try.prog 23 #[.int .i64 v0, .slice g1 ls1.length c1] w (RetL b zs w))
    (CI' : ∀ (g1 : Option Addr) (c1 : Nat) (y1 : List FlA) (w : World), (y1.map FlA.z = ls1.map FlA.z) → (SSAt w g1 ls1.length c1 y1) → Calls Try.prog 25 #[.int .i64 v0, .slice g1 ls1.length c1] w (RetL b zs w)) :
    Calls Try.prog 5 #[.int .i64 v0, .slice g1 ls1.length c1] w fun e w' => e = .returned (.bool true) ∧ Below w.heap.size w w' := by
  have HS1 := Lib.hid w1'
  have HZ1 := Lib.hid (show ls1.length + cntSS ls1 ≤ 1048576 by omega)
  have CS := Lib.hid CS'
  have CI := Lib.hid CI'
  obtain ⟨l1, hl1⟩ : ∃ l, 1048576 - (ls1.length + cntSS ls1) = l := ⟨_, rfl⟩
  have hl1' : l1 ≤ 1048576 := by omega
  have HQ1 := Lib.hid (show ls1.length + cntSS ls1 ≤ 1048576 by omega)
  have HE1 := Lib.hid hl1
  have hp1 : (0 : Int) ≤ (l1 : Int) := by omega
  obtain ⟨m1, hm1⟩ : ∃ m, 1 + (0 * ls1.length + cntSS ls1) = m := ⟨_, rfl⟩
  have hm1' : m1 ≤ 4194304 := by omega
  have hn1' : (0 : Int) ≤ (m1 : Int) := by omega
  have HM1 := Lib.hid hm1
  clear hm1
  clear w1' CS' CI' hl1 hL1
  go_enter Try.func5, Try.ntmps5
  go_wp2_with fail
  have B_0 := Lib.hid (Below.refl w.heap.size w)
  refine (c_szSS_b _ _ _ _ _ ls1 _ (HS1.out.kept B_0.out) (Nat.le_refl _) HQ1.out HE1.out).mono ?_
  rintro e w1 ⟨rfl, bl⟩
  have B_1 := Lib.hid (Below.next B_0.out bl)
  clear B_0
  clear bl
  go_wp2_with fail
  refine (c_toSS _ _ _ ls1 _ (HS1.out.kept B_1.out) HZ1.out).mono ?_
  rintro e w2 ⟨gT1, yT1, rfl, hl, hp, ho, hnd, bl⟩
  have HPT1 := Lib.hid hp
  have HLT1 := Lib.hid hl
  have T1_2 := Lib.hid (OwnL.base B_1.out.size _ ho)
  have B_2 := Lib.hid (Below.next B_1.out bl)
  clear B_1
  clear hl hp ho hnd
  clear bl
  go_wp2_with fail
  refine (CS.out _ _ yT1 _ HPT1.out (ssAt_owns HLT1.out T1_2.out)).mono ?_
  rintro e w3 ⟨aS, capS, yS, rfl, hf, hy, bl⟩
  have HYS := Lib.hid hy
  have ho := flL_own.2 hf
  have S_3 := Lib.hid (OwnL.base B_2.out.size _ ho)
  have B_3 := Lib.hid (Below.next B_2.out bl)
  clear B_2
  have T1_3 := Lib.hid (OwnL.kept T1_2.out bl)
  clear T1_2
  clear hf hy ho
  clear bl
  clear T1_3
  go_wp2_with fail
  refine (c_toSS _ _ _ ls1 _ (HS1.out.kept B_3.out) HZ1.out).mono ?_
  rintro e w4 ⟨gX1, yX1, rfl, hl, hp, ho, hnd, bl⟩
  have HPX1 := Lib.hid hp
  have HLX1 := Lib.hid hl
  have D_X1_S := Lib.hid (apart_new S_3.out ho)
  have NDX1 := Lib.hid hnd
  have X1_4 := Lib.hid (OwnL.base B_3.out.size _ ho)
  have B_4 := Lib.hid (Below.next B_3.out bl)
  clear B_3
  have S_4 := Lib.hid (OwnL.kept S_3.out bl)
  clear S_3
  clear hl hp ho hnd
  clear bl
  go_wp2_with fail
  refine (CI.out _ _ yX1 _ HPX1.out (ssAt_owns HLX1.out X1_4.out)).mono ?_
  rintro e w5 ⟨aG, capG, yG, rfl, hf, hy, bl⟩
  have HYG := Lib.hid hy
  have ho := flL_own.2 hf
  have D_G_S := Lib.hid (apart_new S_4.out ho)
  have D_X1_G := Lib.hid (apart_symm (apart_new X1_4.out ho))
  have D_G_X1 := Lib.hid (apart_new X1_4.out ho)
  have LG := Lib.hid (hf.lenle HYG.out hz)
  have G_5 := Lib.hid (OwnL.base B_4.out.size _ ho)
  have B_5 := Lib.hid (Below.next B_4.out bl)
  clear B_4
  have S_5 := Lib.hid (OwnL.kept S_4.out bl)
  clear S_4
  have X1_5 := Lib.hid (OwnL.kept X1_4.out bl)
  clear X1_4
  clear hf hy ho
  clear bl
  go_wp2_with fail
  refine (c_eqFloats _ _ _ _ yG yS _ (flL_at.1 (OwnL.at _ G_5.out)) (flL_at.1 (OwnL.at _ S_5.out)) (HYG.out.trans HYS.out.symm)).mono ?_
  rintro e w6 ⟨rfl, dn⟩
  have bl : Below w5.heap.size w5 w6 := by first | exact dn.below | exact (below_drewN (Below.refl _ _) _).trans dn.below
  clear dn
  have B_6 := Lib.hid (Below.next B_5.out bl)
  clear B_5
  have S_6 := Lib.hid (OwnL.kept S_5.out bl)
  clear S_5
  have X1_6 := Lib.hid (OwnL.kept X1_5.out bl)
  clear X1_5
  have G_6 := Lib.hid (OwnL.kept G_5.out bl)
  clear G_5
  clear bl
  go_wp2_with fail
  refine (c_toSS _ _ _ ls1 _ (HS1.out.kept B_6.out) HZ1.out).mono ?_
  rintro e w7 ⟨gY1, yY1, rfl, hl, hp, ho, hnd, bl⟩
  have HPY1 := Lib.hid hp
  have HLY1 := Lib.hid hl
  have Y1_7 := Lib.hid (OwnL.base B_6.out.size _ ho)
  have B_7 := Lib.hid (Below.next B_6.out bl)
  clear B_6
  have S_7 := Lib.hid (OwnL.kept S_6.out bl)
  clear S_6
  have X1_7 := Lib.hid (OwnL.kept X1_6.out bl)
  clear X1_6
  have G_7 := Lib.hid (OwnL.kept G_6.out bl)
  clear G_6
  clear hl hp ho hnd
  clear bl
  go_wp2_with fail
  refine (c_eqSS _ _ _ _ _ yX1 yY1 _ (ssAt_owns HLX1.out X1_7.out) (ssAt_owns HLY1.out Y1_7.out) (ss_can_of (HPX1.out.trans HPY1.out.symm))).mono ?_
  rintro e w8 ⟨rfl, bl⟩
  have B_8 := Lib.hid (Below.next B_7.out bl)
  clear B_7
  have S_8 := Lib.hid (OwnL.kept S_7.out bl)
  clear S_7
  have X1_8 := Lib.hid (OwnL.kept X1_7.out bl)
  clear X1_7
  have G_8 := Lib.hid (OwnL.kept G_7.out bl)
  clear G_7
  have Y1_8 := Lib.hid (OwnL.kept Y1_7.out bl)
  clear Y1_7
  clear bl
  clear Y1_8
  go_wp2_with fail
  refine (c_markSS4 _ _ _ 1 m1 _ yX1 _ HLX1.out X1_8.out NDX1.out (by rw [cnt_ss_copy HPX1.out]; have := HM1.out; omega) hm1' (by rw [cnt_ss_copy HPX1.out]; have := HZ1.out; omega) (by have := HZ1.out; omega)).mono ?_
  rintro e w9 ⟨rfl, ho, hg⟩
  have B_9 := Lib.hid (hg.below' B_8.out (fun g h => (OwnL.lt _ X1_8.out g h).1))
  have S_9 := Lib.hid (OwnL.apart hg _ S_8.out D_X1_S.out)
  have G_9 := Lib.hid (OwnL.apart hg _ G_8.out D_X1_G.out)
  clear B_8
  clear S_8
  clear X1_8
  clear G_8
  clear ho hg
  go_wp2_with fail
  refine (c_eqFloats _ _ _ _ yG yS _ (flL_at.1 (OwnL.at _ G_9.out)) (flL_at.1 (OwnL.at _ S_9.out)) (HYG.out.trans HYS.out.symm)).mono ?_
  rintro e w10 ⟨rfl, dn⟩
  have bl : Below w9.heap.size w9 w10 := by first | exact dn.below | exact (below_drewN (Below.refl _ _) _).trans dn.below
  clear dn
  have B_10 := Lib.hid (Below.next B_9.out bl)
  clear B_9
  have S_10 := Lib.hid (OwnL.kept S_9.out bl)
  clear S_9
  have G_10 := Lib.hid (OwnL.kept G_9.out bl)
  clear G_9
  clear bl
  go_wp2_with fail
  obtain ⟨q, hq⟩ : ∃ q, 1 + yG.length = q := ⟨_, rfl⟩
  have HQ := Lib.hid hq
  have hq' : q ≤ 4194304 := by have := LG.out; omega
  have hq0 : (0 : Int) ≤ (q : Int) := by omega
  clear hq
  refine (c_markFl _ _ _ 1 q yG _ G_10.out HQ.out (by decide) LG.out).mono ?_
  rintro e w11 ⟨rfl, ho, hg⟩
  have B_11 := Lib.hid (hg.below' B_10.out (fun g h => (OwnL.lt _ G_10.out g h).1))
  have S_11 := Lib.hid (OwnL.apart hg _ S_10.out D_G_S.out)
  have G_11 := Lib.hid (ho)
  clear B_10
  clear S_10
  clear G_10
  clear ho hg
  go_wp2_with fail
  refine (c_heldFloats' _ _ 1 q yG.length _ (held_fl G_11.out) HQ.out (by decide) LG.out).mono ?_
  rintro e w' ⟨rfl, rfl⟩
  go_wp2_with fail
  refine (c_toSS _ _ _ ls1 _ (HS1.out.kept B_11.out) HZ1.out).mono ?_
  rintro e w12 ⟨gU1, yU1, rfl, hl, hp, ho, hnd, bl⟩
  have HPU1 := Lib.hid hp
  have HLU1 := Lib.hid hl
  have U1_12 := Lib.hid (OwnL.base B_11.out.size _ ho)
  have B_12 := Lib.hid (Below.next B_11.out bl)
  clear B_11
  have S_12 := Lib.hid (OwnL.kept S_11.out bl)
  clear S_11
  have G_12 := Lib.hid (OwnL.kept G_11.out bl)
  clear G_11
  clear hl hp ho hnd
  clear bl
  go_wp2_with fail
  refine (CI.out _ _ yU1 _ HPU1.out (ssAt_owns HLU1.out U1_12.out)).mono ?_
  rintro e w13 ⟨aH, capH, yH, rfl, hf, hy, bl⟩
  have HYH := Lib.hid hy
  have ho := flL_own.2 hf
  have H_13 := Lib.hid (OwnL.base B_12.out.size _ ho)
  have B_13 := Lib.hid (Below.next B_12.out bl)
  clear B_12
  have S_13 := Lib.hid (OwnL.kept S_12.out bl)
  clear S_12
  have G_13 := Lib.hid (OwnL.kept G_12.out bl)
  clear G_12
  have U1_13 := Lib.hid (OwnL.kept U1_12.out bl)
  clear U1_12
  clear hf hy ho
  clear bl
  clear U1_13
  go_wp2_with fail
  refine (c_eqFloats _ _ _ _ yH yS _ (flL_at.1 (OwnL.at _ H_13.out)) (flL_at.1 (OwnL.at _ S_13.out)) (HYH.out.trans HYS.out.symm)).mono ?_
  rintro e w14 ⟨rfl, dn⟩
  have bl : Below w13.heap.size w13 w14 := by first | exact dn.below | exact (below_drewN (Below.refl _ _) _).trans dn.below
  clear dn
  have B_14 := Lib.hid (Below.next B_13.out bl)
  clear B_13
  have S_14 := Lib.hid (OwnL.kept S_13.out bl)
  clear S_13
  have G_14 := Lib.hid (OwnL.kept G_13.out bl)
  clear G_13
  have H_14 := Lib.hid (OwnL.kept H_13.out bl)
  clear H_13
  clear bl
  go_wp2_with fail
  refine (c_heldFloats' _ _ 1 q yG.length _ (held_fl G_14.out) HQ.out (by decide) LG.out).mono ?_
  rintro e w' ⟨rfl, rfl⟩
  go_wp2_with fail
  go_ret
  exact ⟨rfl, B_14.out⟩

theorem walk (a0 : Int) (v1 : Value) (w : World) (w0 : (Lit.int .i64 a0).wf = true) (w1 : ∃ (g : Option Addr) (c : Nat) (ls : List FlA), v1 = .slice g ls.length c ∧ SSAt w g ls.length c ls) :
    Calls Try.prog 5 #[.int .i64 a0, v1] w fun e w' => e = .returned (.bool true) ∧ Below w.heap.size w w' := by
  obtain ⟨g1, c1, ls1, rfl, w1⟩ := w1
  obtain ⟨v0, rfl⟩ : ∃ v, v = a0 := ⟨_, rfl⟩
  by_cases hL1 : (ls1.length + cntSS ls1) ≤ 1048576
  case neg =>
    have HN := Lib.hid (show 1048576 < ls1.length + cntSS ls1 by omega)
    have HS := Lib.hid w1
    have bl := Lib.hid ((Below.refl w.heap.size w))
    clear hL1 w1
    go_enter Try.func5, Try.ntmps5
    go_wp2_with fail
    refine (c_szSS_b_no _ _ _ 1048576 ls1 _ (HS.out.kept bl.out) (Nat.le_refl _) HN.out).mono ?_
    rintro e w1 ⟨rfl, hb⟩
    have HB := Lib.hid (Below.next bl.out hb)
    clear hb bl
    go_wp2
    go_ret
    exact ⟨rfl, HB.out⟩
  case pos =>
    exact core v0 ls1  g1 c1 w w1 (vReduceLists v0 (ls1.map FlA.z)).1 (vReduceLists v0 (ls1.map FlA.z)).2 hL1 (vReduceLists_len v0 (ls1.map FlA.z)) (fun  g1_ c1_ y1_ w  hp1 h1 => t_sReduceLists v0 (ls1.map FlA.z) ls1.length g1_ c1_ y1_ w  hp1 h1) (fun  g1_ c1_ y1_ w  hp1 h1 => t_iReduceLists v0 (ls1.map FlA.z) ls1.length g1_ c1_ y1_ w  hp1 h1)

/-! the row's step -/
set_option maxRecDepth 100000 in
theorem lifted (os : Os) (started : os.Started) (H : Type) (enc : TypeId × Value → H) :
    ReturnsInHanded {} Try.checked os 5 .any (Rows.fnExactReduceListsSpec.pre6 enc Try.prog Try.f5 Rows.fnExactReduceListsRow.domain false) (Rows.fnExactReduceListsSpec.post enc Try.prog Try.f5 false true false false) := by
  refine returnsInHanded_of_change (C := Try.checked) own started (by kernel_rfl) Try.func5
    (ChangeSpec.witness6 (enc := enc) (C := Try.checked) false ⟨#[], #[.int .i64 0, .slice none 0 0], []⟩ 8 (by kernel_rfl) (by kernel_rfl) (by kernel_rfl) (by kernel_rfl)) ?_
  intro W base args ds gs before hval0 hW hcnd _
  have hval : ∀ (j : Nat) t v, Try.f5.params[j]? = some t → args[j]? = some v → Value.okWide Try.prog W .any base t v := hval0
  have hW' := hW
  obtain ⟨p, q, hA0, hV, rfl, hfz, hnd⟩ := hW
  have hA : DataW.TrodAll enc Try.prog W 0 (fun _ => true) true Try.f5.params.toList args.toList ds p := hA0
  rw [Try.params5] at hA hval
  obtain ⟨v0, vs0, d0, ds0, p0, q0, hargs, rfl, rfl, h0, rest0⟩ := trodAll_cons hA
  obtain ⟨v1, vs1, d1, ds1, p1, q1, rfl, rfl, rfl, h1, rest1⟩ := trodAll_cons rest0
  obtain ⟨rfl, rfl, rfl⟩ := trodAll_nil rest1
  obtain rfl : args = #[v0, v1] := by cases args; simp_all
  obtain ⟨rfl, rfl⟩ := trodVars_none hV
  obtain ⟨a0, rfl, rfl, rfl, w0⟩ := open_int Try.underlying2 (hval 0 2 v0 rfl rfl) h0
  have k1 := h1
  have lt1 : ∀ x ∈ p1, x.block < W.heap.size := by obtain ⟨m, hm⟩ := k1; exact DataW.trod_lt m _ _ _ hm
  have w1 := open_SS (hval 1 51 v1 rfl rfl) h1
  clear hA0 hval0
  refine (walk a0 _ W w0 w1).mono fun e W' ⟨he, bel⟩ => ?_
  subst he
  exact ⟨_, rfl, _, _, _, [], _, [], hW', trodAll_mk1 (shut_bool Try.underlying4 _), (trodAll_cons_mk (shut_int Try.underlying2 w0) (trodAll_cons_mk (Below.trod laidOut (by kernel_rfl) (of_decide_eq_true (by kernel_rfl)) k1 bel lt1) trodAll_mk0)), rfl, bel.frame _, fun h => by cases h⟩

theorem named_ : Try.pinned.checked.prog.funcNamed Rows.fnExactReduceListsRow.func = some 5 := by kernel_rfl
theorem fk1 : (Rows.fnExactReduceListsRow.wf (OpenSpec.ofChange Rows.fnExactReduceListsSpec)) = true := by kernel_rfl
theorem fk4 : (Try.f5.params.all (Try.pinned.checked.prog.readableRec ·)) = true := by kernel_rfl
theorem fk5 : (namedTie Try.pinned.checked.prog Rows.fnExactReduceListsRow.named Rows.fnExactReduceListsSpec.vars) = true := by kernel_rfl
theorem fk6 : ((Rows.fnExactReduceListsRow.stops == [])) = true := by kernel_rfl
theorem fk8 : ((Rows.fnExactReduceListsRow.knobs == [])) = true := by kernel_rfl
theorem fk10 : ((Rows.fnExactReduceListsRow.inPlace == Try.pinned.checked.prog.inPlace 5)) = true := by kernel_rfl
theorem fk11 : ((Rows.fnExactReduceListsRow.unfollowed == Try.pinned.checked.prog.unfollowed 5)) = true := by kernel_rfl
theorem fk12 : ((Rows.fnExactReduceListsRow.recurses == Try.pinned.checked.prog.recurses 5)) = true := by kernel_rfl
theorem fk13 : ((Rows.fnExactReduceListsRow.named == Try.pinned.checked.prog.varsNamed 5)) = true := by kernel_rfl
theorem fk14 : ((Rows.fnExactReduceListsRow.maps == (Try.f5.params.toList ++ Rows.fnExactReduceListsSpec.plain.varTypes Try.pinned.checked.prog).any (Try.pinned.checked.prog.mapsRec ·))) = true := by kernel_rfl
theorem fk15 : ((Rows.fnExactReduceListsRow.ifaces == (Try.f5.params.toList ++ Rows.fnExactReduceListsSpec.plain.varTypes Try.pinned.checked.prog).any (Try.pinned.checked.prog.ifacesRec ·))) = true := by kernel_rfl
theorem fk16 : ((Rows.fnExactReduceListsRow.mapsOut == Try.pinned.checked.prog.mapsAmong Try.f5.resultTypes.toList)) = true := by kernel_rfl
theorem fk17 : ((Rows.fnExactReduceListsRow.loops == (Try.f5.params.toList ++ Rows.fnExactReduceListsSpec.plain.varTypes Try.pinned.checked.prog).any (Try.pinned.checked.prog.loopsFrom ·))) = true := by kernel_rfl
theorem fk18 : ((Rows.fnExactReduceListsRow.wideKeys == (Try.f5.params.toList ++ Rows.fnExactReduceListsSpec.plain.varTypes Try.pinned.checked.prog ++ Try.f5.resultTypes.toList).any (Try.pinned.checked.prog.wideKeysFrom ·))) = true := by kernel_rfl
theorem fk19 : (Rows.fnExactReduceListsSpec.vars.all (Try.pinned.checked.prog.varReadable ·)) = true := by kernel_rfl
theorem fk20 : (Try.f5.resultTypes.all (fun t => Try.pinned.checked.prog.readableRec t && decide (t < Try.pinned.checked.prog.types.size))) = true := by kernel_rfl
theorem fk21 : ((Rows.fnExactReduceListsRow.ifacesOut == Try.f5.resultTypes.toList.any (Try.pinned.checked.prog.ifacesRec ·))) = true := by kernel_rfl
theorem fk22 : ((Rows.fnExactReduceListsRow.loopsOut == Try.f5.resultTypes.toList.any (Try.pinned.checked.prog.loopsFrom ·))) = true := by kernel_rfl
theorem fk23 : (Rows.fnExactReduceListsRow.plainKeys == Try.pinned.checked.prog.plainKeys) = true := by rw [cls_keys]; kernel_rfl
theorem fk24 : (Rows.fnExactReduceListsRow.shortTexts.isNone) = true := by kernel_rfl
theorem fk27 : (Rows.fnExactReduceListsRow.lifted == Try.pinned.checked.prog.liftsFinal) = true := by rw [cls_lift]; kernel_rfl
theorem fk28 : (Try.pinned.checked.prog.make == some Rows.fnExactReduceListsRow.make) = true := by rw [cls_make]; kernel_rfl
theorem fk29 : ((Rows.fnExactReduceListsRow.kinds == (if Rows.fnExactReduceListsRow.domain.isEmpty then [] else Try.f5.params.toList.map fun t => match Try.pinned.checked.prog.underlying t with | some (.int k) => some k | _ => none))) = true := by kernel_rfl
theorem fk30 : ((Rows.fnExactReduceListsRow.pinned == Rows.fnExactReduceListsRow.pinnedBy)) = true := by kernel_rfl
theorem fk31 : ((Rows.fnExactReduceListsRow.veiled == (Try.f5.params.toList ++ Rows.fnExactReduceListsSpec.plain.varTypes Try.pinned.checked.prog ++ Try.f5.resultTypes.toList).any (Try.pinned.checked.prog.veiledRec ·))) = true := by kernel_rfl
theorem fk32 : (Rows.fnExactReduceListsRow.veiledFits Try.pinned.checked.prog Try.f5.params.toList (Try.f5.params.toList ++ Rows.fnExactReduceListsSpec.plain.varTypes Try.pinned.checked.prog ++ Try.f5.resultTypes.toList)) = true := by kernel_rfl
set_option maxRecDepth 100000 in
theorem closed : joinedFacts Try.pinned.checked.prog 5 Try.f5 Rows.fnExactReduceListsSpec Rows.fnExactReduceListsRow = true := (and2 (and2 (and2 (and2 (and2 (and2 (and2 (and2 (and2 (and2 (and2 (and2 (and2 (and2 (and2 (and2 (and2 (and2 (and2 (and2 (and2 (and2 (and2 (and2 (and2 (and2 (and2 (and2 (and2 (and2 (and2 fk1 cls_laid) cls_maps) fk4) fk5) fk6) cls_stops) fk8) cls_knobs) fk10) fk11) fk12) fk13) fk14) fk15) fk16) fk17) fk18) fk19) fk20) fk21) fk22) fk23) fk24) cls_heard) cls_enter) fk27) fk28) fk29) fk30) fk31) fk32)
theorem over : Rows.fnExactReduceListsRow.holds Try.pinned (OpenSpec.ofChange Rows.fnExactReduceListsSpec) :=
  OpenClaim.holds_of_wide 5 Try.f5 rfl rfl rfl rfl rfl rfl rfl ⟨rfl, rfl, rfl, rfl, rfl⟩ rfl rfl rfl rfl rfl named_ Try.func5 closed
    (of_decide_eq_true (by kernel_rfl)) (by unfold Func.isWrapper; first | (rw [if_pos (by decide +kernel)]; kernel_rfl) | (rw [if_neg (by decide +kernel)]; exact ⟨rfl, rfl⟩))
    (fun os started H enc _ => lifted os started H enc)

/-- the statement -/
theorem proved : Rows.FnExactReduceListsSaid := over
end Go.Proofs.Ytpdgpoonblldgaa.fnExactReduceLists
