/-
  BatchOf returns for every count, batch, seed and step what its model returns, in memory of its own. Conditions: none.
-/
import Derived.Test.YthklfkfhhdglcaaBai
import Derived.ChangeOld
import Derived.Below
namespace Go.Proofs.Ythklfkfhhdglcaa.fnExactBatchOf
open Go.ChangeShapes Go.WideShapes Go.ChangeAt Go.RowKit
open Go.ChangeMaps (open_string shut_string)
set_option linter.unusedVariables false

theorem walk (a0 : Int) (a1 : Int) (a2 : Int) (a3 : Int) (w : World) (w0 : (Lit.int .i64 a0).wf = true) (w1 : (Lit.int .i64 a1).wf = true) (w2 : (Lit.int .i64 a2).wf = true) (w3 : (Lit.int .i64 a3).wf = true) :
    Calls Try.prog 7 #[.int .i64 a0, .int .i64 a1, .int .i64 a2, .int .i64 a3] w fun e w' => e = .returned (.bool true) ∧ Below w.heap.size w w' := by
  have HS := Lib.hid (fun w => t_sBatchOf a0 a1 a2 a3 w)
  have HI := Lib.hid (fun w => t_iBatchOf a0 a1 a2 a3 w)
  have hlen := vBatchOf_len a0 a1 a2 a3
  obtain ⟨Z, hZ⟩ : ∃ Z, (vBatchOf a0 a1 a2 a3).2 = Z := ⟨_, rfl⟩
  obtain ⟨ok, hok⟩ : ∃ b, (vBatchOf a0 a1 a2 a3).1 = b := ⟨_, rfl⟩
  rw [hok, hZ] at HS HI
  rw [hZ] at hlen
  have HLN := Lib.hid hlen
  clear hok hZ hlen w0 w1 w2 w3
  go_enter Try.func7, Try.ntmps7
  go_wp2_with fail
  refine (HS.out _).mono ?_
  rintro e w1 ⟨aS, cS, yS, rfl, ho, hy, hb⟩
  have HYS := Lib.hid hy
  have S_1 := Lib.hid ho
  have B_1 := Lib.hid hb
  clear ho hy hb
  go_wp2_with fail
  refine (HI.out _).mono ?_
  rintro e w2 ⟨aG, cG, yG, rfl, ho, hy, hb⟩
  have HYG := Lib.hid hy
  have NS := Lib.hid (lt_apart S_1.out.lt ho.lt)
  have G_2 := Lib.hid (ho.base B_1.out.size)
  have B_2 := Lib.hid (Below.next B_1.out hb)
  have S_2 := Lib.hid (S_1.out.kept hb)
  have LG := Lib.hid (show yG.length ≤ 16 by rw [HYG.out]; exact HLN.out)
  clear ho hy hb S_1 B_1
  go_wp2_with fail
  refine (c_eqInts _ _ _ _ yG yS _ G_2.out.isRow S_2.out.isRow (HYG.out.trans HYS.out.symm)).mono ?_
  rintro e w3 ⟨rfl, dn⟩
  have bl := dn.below
  clear dn
  have S_3 := Lib.hid (S_2.out.kept bl)
  have G_3 := Lib.hid (G_2.out.kept bl)
  have B_3 := Lib.hid (Below.next B_2.out bl)
  clear bl S_2 G_2 B_2
  go_wp2_with fail
  obtain ⟨q, hq⟩ : ∃ q, 1 + yG.length = q := ⟨_, rfl⟩
  have HQ := Lib.hid hq
  have hq' : q ≤ 17 := by have := LG.out; omega
  have hq0 : (0 : Int) ≤ (q : Int) := by omega
  clear hq
  refine (c_markInts' _ _ _ 1 q yG _ G_3.out HQ.out (by decide) (by have := LG.out; omega)).mono ?_
  rintro e w4 ⟨rfl, ho, hg⟩
  have G_4 := Lib.hid ho
  have S_4 := Lib.hid (S_3.out.apart hg NS.out)
  have B_4 := Lib.hid (Below.grownBy B_3.out hg B_3.out.size (fun g h => (G_3.out.lt g h).1))
  clear ho hg S_3 G_3 B_3
  go_wp2_with fail
  refine (c_heldInts' _ _ 1 q yG.length _ G_4.out.held HQ.out (by decide) (by have := LG.out; omega)).mono ?_
  rintro e w' ⟨rfl, rfl⟩
  go_wp2_with fail
  refine (HI.out _).mono ?_
  rintro e w5 ⟨aH, cH, yH, rfl, ho, hy, hb⟩
  have HYH := Lib.hid hy
  have H_5 := Lib.hid ho
  have S_5 := Lib.hid (S_4.out.kept hb)
  have G_5 := Lib.hid (G_4.out.kept hb)
  have B_5 := Lib.hid (Below.next B_4.out hb)
  clear ho hy hb S_4 G_4 B_4
  go_wp2_with fail
  refine (c_eqInts _ _ _ _ yH yS _ H_5.out.isRow S_5.out.isRow (HYH.out.trans HYS.out.symm)).mono ?_
  rintro e w6 ⟨rfl, dn⟩
  have bl := dn.below
  clear dn
  have G_6 := Lib.hid (G_5.out.kept bl)
  have B_6 := Lib.hid (Below.next B_5.out bl)
  clear bl S_5 G_5 H_5 B_5
  go_wp2_with fail
  refine (c_heldInts' _ _ 1 q yG.length _ G_6.out.held HQ.out (by decide) (by have := LG.out; omega)).mono ?_
  rintro e w' ⟨rfl, rfl⟩
  go_wp2_with fail
  go_ret
  exact ⟨rfl, B_6.out⟩

/-! the row's step -/
set_option maxRecDepth 100000 in
theorem lifted (os : Os) (started : os.Started) (H : Type) (enc : TypeId × Value → H) :
    ReturnsInHanded {} Try.checked os 7 .any (Rows.fnExactBatchOfSpec.pre6 enc Try.prog Try.f7 Rows.fnExactBatchOfRow.domain false) (Rows.fnExactBatchOfSpec.post enc Try.prog Try.f7 false true false false) := by
  refine returnsInHanded_of_change (C := Try.checked) own started (by kernel_rfl) Try.func7
    (ChangeSpec.witness6 (enc := enc) (C := Try.checked) false ⟨#[], #[.int .i64 0, .int .i64 0, .int .i64 0, .int .i64 0], []⟩ 8 (by kernel_rfl) (by kernel_rfl) (by kernel_rfl) (by kernel_rfl)) ?_
  intro W base args ds gs before hval0 hW hcnd _
  have hval : ∀ (j : Nat) t v, Try.f7.params[j]? = some t → args[j]? = some v → Value.okWide Try.prog W .any base t v := hval0
  have hW' := hW
  obtain ⟨p, q, hA0, hV, rfl, hfz, hnd⟩ := hW
  have hA : DataW.TrodAll enc Try.prog W 0 (fun _ => true) true Try.f7.params.toList args.toList ds p := hA0
  rw [Try.params7] at hA hval
  obtain ⟨v0, vs0, d0, ds0, p0, q0, hargs, rfl, rfl, h0, rest0⟩ := trodAll_cons hA
  obtain ⟨v1, vs1, d1, ds1, p1, q1, rfl, rfl, rfl, h1, rest1⟩ := trodAll_cons rest0
  obtain ⟨v2, vs2, d2, ds2, p2, q2, rfl, rfl, rfl, h2, rest2⟩ := trodAll_cons rest1
  obtain ⟨v3, vs3, d3, ds3, p3, q3, rfl, rfl, rfl, h3, rest3⟩ := trodAll_cons rest2
  obtain ⟨rfl, rfl, rfl⟩ := trodAll_nil rest3
  obtain rfl : args = #[v0, v1, v2, v3] := by cases args; simp_all
  obtain ⟨rfl, rfl⟩ := trodVars_none hV
  obtain ⟨a0, rfl, rfl, rfl, w0⟩ := open_int Try.underlying2 (hval 0 2 v0 rfl rfl) h0
  obtain ⟨a1, rfl, rfl, rfl, w1⟩ := open_int Try.underlying2 (hval 1 2 v1 rfl rfl) h1
  obtain ⟨a2, rfl, rfl, rfl, w2⟩ := open_int Try.underlying2 (hval 2 2 v2 rfl rfl) h2
  obtain ⟨a3, rfl, rfl, rfl, w3⟩ := open_int Try.underlying2 (hval 3 2 v3 rfl rfl) h3
  clear hA0 hval0
  refine (walk a0 a1 a2 a3 W w0 w1 w2 w3).mono fun e W' ⟨he, bel⟩ => ?_
  subst he
  exact ⟨_, rfl, _, _, _, [], _, [], hW', trodAll_mk1 (shut_bool Try.underlying4 _), (trodAll_cons_mk (shut_int Try.underlying2 w0) (trodAll_cons_mk (shut_int Try.underlying2 w1) (trodAll_cons_mk (shut_int Try.underlying2 w2) (trodAll_cons_mk (shut_int Try.underlying2 w3) trodAll_mk0)))), rfl, bel.frame _, fun h => by cases h⟩

theorem over : Rows.fnExactBatchOfRow.holds Try.pinned (OpenSpec.ofChange Rows.fnExactBatchOfSpec) :=
  OpenClaim.holds_of_wide 7 Try.f7 rfl rfl rfl rfl rfl rfl rfl ⟨rfl, rfl, rfl, rfl, rfl⟩ rfl rfl rfl rfl rfl (by kernel_rfl) Try.func7 (by kernel_rfl)
    (of_decide_eq_true (by kernel_rfl)) (by unfold Func.isWrapper; first | (rw [if_pos (by decide +kernel)]; kernel_rfl) | (rw [if_neg (by decide +kernel)]; exact ⟨rfl, rfl⟩))
    (fun os started H enc _ => lifted os started H enc)

/-- the statement -/
theorem proved : Rows.FnExactBatchOfSaid := over
end Go.Proofs.Ythklfkfhhdglcaa.fnExactBatchOf
