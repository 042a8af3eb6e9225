/-
  NextScale answers as its model. No condition.
-/
import Derived.Test.YtgffcmmdmenefaaScd
import Derived.ChangeOld
import Derived.Below
namespace Go.Proofs.Ytgffcmmdmenefaa.fnExactNextScale
open Go.ChangeShapes Go.WideShapes Go.ChangeAt Go.RowKit
open Go.ChangeMaps (open_string shut_string)
set_option linter.unusedVariables false

theorem walk (v0 : Value) (a1 : Bool) (w : World) (w0 : ∃ (s : Nat) (g q : Int), v0 = scV s g q ∧ s < 4294967296) :
    Calls Try.prog 4 #[v0, .bool a1] w fun e w' => e = .returned (.bool true) ∧ Below w.heap.size w w' := by
  obtain ⟨s, g, q, rfl, hs⟩ := w0
  have HT := Lib.hid (fun w => c_toSca s g q w)
  have HS := Lib.hid (fun w => t_sNextScale s g q a1 hs w)
  have HI := Lib.hid (fun w => t_iNextScale s g q a1 hs w)
  unfold RetSc at HS HI
  obtain ⟨x, y, z, b, hx⟩ : ∃ x y z b, vNext s g q a1 = (x, y, z, b) := ⟨_, _, _, _, rfl⟩
  rw [hx] at HS HI
  have HE := Lib.hid (fun w => c_eqSca x y z w)
  unfold scV at HT HS HI HE ⊢
  dsimp only at HS HI
  have B_0 := Lib.hid ((Below.refl w.heap.size w).alloc (Nat.le_refl _) (.cells #[.float .f32 s, .int .i64 g, .int .i64 q] 24))
  have K_0 := Lib.hid (Blk.new w 24 #[.float .f32 s, .int .i64 g, .int .i64 q])
  clear hs hx
  go_enter Try.func4, Try.ntmps4
  go_wp2_with fail
  refine (HT.out _).mono ?_
  rintro e w1 ⟨rfl, hb⟩
  have B_1 := Lib.hid (Below.next B_0.out hb)
  have K_1 := Lib.hid (K_0.out.below hb)
  clear hb B_0 K_0
  go_wp2_with fail
  refine (HS.out _).mono ?_
  rintro e w2 ⟨rfl, hb⟩
  have B_2 := Lib.hid (Below.next B_1.out hb)
  have K_2 := Lib.hid (K_1.out.below hb)
  clear hb B_1 K_1
  obtain ⟨p0, p1, p2, p3⟩ := tb K_2.out
  go_wp2_with fail
  clear p0 p1 p2 p3
  have al := (Below.refl w2.heap.size w2).alloc (Nat.le_refl _) (.cells #[.float .f32 x, .int .i64 y, .int .i64 z] 26)
  have K_3 := Lib.hid (K_2.out.below al)
  have J_3 := Lib.hid (Blk.new w2 26 #[.float .f32 x, .int .i64 y, .int .i64 z])
  have B_3 := Lib.hid (Below.next B_2.out al)
  clear al K_2 B_2
  refine (HT.out _).mono ?_
  rintro e w3 ⟨rfl, hb⟩
  have B_4 := Lib.hid (Below.next B_3.out hb)
  have J_4 := Lib.hid (J_3.out.below hb)
  clear hb B_3 J_3 K_3
  go_wp2_with fail
  refine (HI.out _).mono ?_
  rintro e w4 ⟨rfl, hb⟩
  have B_5 := Lib.hid (Below.next B_4.out hb)
  have J_5 := Lib.hid (J_4.out.below hb)
  clear hb B_4 J_4
  obtain ⟨p0, p1, p2, p3⟩ := tb J_5.out
  go_wp2_with fail
  refine (HE.out _).mono ?_
  rintro e w5 ⟨rfl, hb⟩
  have B_6 := Lib.hid (Below.next (Below.next B_5.out ((Below.refl w4.heap.size w4).alloc (Nat.le_refl _) (.cells #[.float .f32 x, .int .i64 y, .int .i64 z] 26))) hb)
  clear hb B_5 J_5 p0 p1 p2 p3
  go_wp2_with fail
  go_ret
  exact ⟨rfl, B_6.out⟩

/-! the row's step -/
set_option maxRecDepth 100000 in
theorem lifted (os : Os) (started : os.Started) (H : Type) (enc : TypeId × Value → H) :
    ReturnsInHanded {} Try.checked os 4 .any (Rows.fnExactNextScaleSpec.pre6 enc Try.prog Try.f4 Rows.fnExactNextScaleRow.domain false) (Rows.fnExactNextScaleSpec.post enc Try.prog Try.f4 false true false false) := by
  refine returnsInHanded_of_change (C := Try.checked) own started (by kernel_rfl) Try.func4
    (ChangeSpec.witness6 (enc := enc) (C := Try.checked) false ⟨#[], #[.agg #[.float .f32 0, .int .i64 0, .int .i64 0], .bool false], []⟩ 8 (by kernel_rfl) (by kernel_rfl) (by kernel_rfl) (by kernel_rfl)) ?_
  intro W base args ds gs before hval0 hW hcnd _
  have hval : ∀ (j : Nat) t v, Try.f4.params[j]? = some t → args[j]? = some v → Value.okWide Try.prog W .any base t v := hval0
  have hW' := hW
  obtain ⟨p, q, hA0, hV, rfl, hfz, hnd⟩ := hW
  have hA : DataW.TrodAll enc Try.prog W 0 (fun _ => true) true Try.f4.params.toList args.toList ds p := hA0
  rw [Try.params4] at hA hval
  obtain ⟨v0, vs0, d0, ds0, p0, q0, hargs, rfl, rfl, h0, rest0⟩ := trodAll_cons hA
  obtain ⟨v1, vs1, d1, ds1, p1, q1, rfl, rfl, rfl, h1, rest1⟩ := trodAll_cons rest0
  obtain ⟨rfl, rfl, rfl⟩ := trodAll_nil rest1
  obtain rfl : args = #[v0, v1] := by cases args; simp_all
  obtain ⟨rfl, rfl⟩ := trodVars_none hV
  have k0 := h0
  have lt0 : ∀ x ∈ p0, x.block < W.heap.size := by obtain ⟨m, hm⟩ := k0; exact DataW.trod_lt m _ _ _ hm
  have w0 := open_Sca (hval 0 24 v0 rfl rfl) h0
  obtain ⟨a1, rfl, rfl, rfl⟩ := open_bool Try.underlying4 (hval 1 4 v1 rfl rfl) h1
  clear hA0 hval0
  refine (walk _ a1 W w0 ).mono fun e W' ⟨he, bel⟩ => ?_
  subst he
  exact ⟨_, rfl, _, _, _, [], _, [], hW', trodAll_mk1 (shut_bool Try.underlying4 _), (trodAll_cons_mk (Below.trod laidOut (by kernel_rfl) (of_decide_eq_true (by kernel_rfl)) k0 bel lt0) (trodAll_cons_mk (shut_bool Try.underlying4 _) trodAll_mk0)), rfl, bel.frame _, fun h => by cases h⟩

theorem over : Rows.fnExactNextScaleRow.holds Try.pinned (OpenSpec.ofChange Rows.fnExactNextScaleSpec) :=
  OpenClaim.holds_of_wide 4 Try.f4 rfl rfl rfl rfl rfl rfl rfl ⟨rfl, rfl, rfl, rfl, rfl⟩ rfl rfl rfl rfl rfl (by kernel_rfl) Try.func4 (by kernel_rfl)
    (of_decide_eq_true (by kernel_rfl)) (by unfold Func.isWrapper; first | (rw [if_pos (by decide +kernel)]; kernel_rfl) | (rw [if_neg (by decide +kernel)]; exact ⟨rfl, rfl⟩))
    (fun os started H enc _ => lifted os started H enc)

/-- the statement -/
theorem proved : Rows.FnExactNextScaleSaid := over
end Go.Proofs.Ytgffcmmdmenefaa.fnExactNextScale
