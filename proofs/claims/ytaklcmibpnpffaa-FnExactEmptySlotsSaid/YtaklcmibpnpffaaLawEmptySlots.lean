/-
  EmptySlots answers as its model says, for all arguments, and its answer owns its memory. Conditions: none.
-/
import Derived.Test.YtaklcmibpnpffaaESl
import Derived.ChangeOld
import Derived.Below
namespace Go.Proofs.Ytaklcmibpnpffaa.fnExactEmptySlots
open Go.ChangeShapes Go.WideShapes Go.ChangeAt Go.RowKit
open Go.ChangeMaps (open_string shut_string)
set_option linter.unusedVariables false

theorem walk (v0 : Value) (a1 : Int) (w : World) (w0 : ∃ (k : Int) (r b1 b2 ep : Nat), v0 = optV k r b1 b2 ep ∧ (Lit.int .i64 k).wf = true ∧ r < 2 ^ 32 ∧ b1 < 2 ^ 32 ∧ b2 < 2 ^ 32 ∧ ep < 2 ^ 32) (w1 : (Lit.int .i64 a1).wf = true) :
    Calls Try.prog 13 #[v0, .int .i64 a1] w fun e w' => e = .returned (.bool true) ∧ Below w.heap.size w w' := by
  obtain ⟨k, r, b1, b2, ep, rfl, hk, _, _, _, _⟩ := w0
  have HT := Lib.hid (fun w => c_toOpt k r b1 b2 ep w)
  have HS := Lib.hid (fun w => t_sEmptySlots k r b1 b2 ep a1 w)
  have HI := Lib.hid (fun w => t_iEmptySlots k r b1 b2 ep a1 w hk)
  have hcn := ssN_vEmpty k a1
  have hln := len_vEmpty k a1
  obtain ⟨ok, hok⟩ : ∃ b, (vEmptySlots k a1).1 = b := ⟨_, rfl⟩
  obtain ⟨zs, hzs⟩ : ∃ b, (vEmptySlots k a1).2 = b := ⟨_, rfl⟩
  rw [hok, hzs] at HS HI
  rw [hzs] at hcn hln
  unfold optV at HT HS HI ⊢
  have HCN := Lib.hid hcn
  have HLN := Lib.hid hln
  have B_0 := Lib.hid ((Below.refl w.heap.size w).alloc (Nat.le_refl _) (.cells #[.int .i64 k, .float .f32 r, .float .f32 b1, .float .f32 b2, .float .f32 ep] 49))
  have K_0 := Lib.hid (Blk.new w 49 #[.int .i64 k, .float .f32 r, .float .f32 b1, .float .f32 b2, .float .f32 ep])
  clear hk hok hzs hcn hln w1
  go_enter Try.func13, Try.ntmps13
  go_wp2_with fail
  refine (HT.out _).mono ?_
  rintro e w1 ⟨rfl, hb⟩
  have B_1 := Lib.hid (Below.next B_0.out hb)
  have K_1 := Lib.hid (K_0.out.below hb)
  clear hb B_0 K_0
  go_wp2_with fail
  refine (HS.out _).mono ?_
  rintro e w2 ⟨gS, cS, yS, rfl, ho, hnd, hy, hb⟩
  have HYS := Lib.hid hy
  have S_2 := Lib.hid (OwnL.base B_1.out.size _ ho)
  have B_2 := Lib.hid (Below.next B_1.out hb)
  have K_2 := Lib.hid (K_1.out.below hb)
  clear ho hnd hy hb B_1 K_1
  obtain ⟨p0, p1, p2, p3, p4, p5⟩ := tbo5 K_2.out
  go_wp2_with fail
  clear p0 p1 p2 p3 p4 p5
  refine (HT.out _).mono ?_
  rintro e w3 ⟨rfl, hb⟩
  have B_3 := Lib.hid (Below.next B_2.out hb)
  have K_3 := Lib.hid (K_2.out.below hb)
  have S_3 := Lib.hid (OwnL.kept S_2.out hb)
  clear hb B_2 K_2 S_2
  go_wp2_with fail
  refine (HI.out _).mono ?_
  rintro e w4 ⟨gG, cG, yG, rfl, ho, hnd, hy, hb⟩
  have HYG := Lib.hid hy
  have DS := Lib.hid (apart_new S_3.out ho)
  have DK := Lib.hid (apart_box K_3.out ho)
  have NDG := Lib.hid hnd
  have G_4 := Lib.hid (OwnL.base B_3.out.size _ ho)
  have B_4 := Lib.hid (Below.next B_3.out hb)
  have K_4 := Lib.hid (K_3.out.below hb)
  have S_4 := Lib.hid (OwnL.kept S_3.out hb)
  clear ho hnd hy hb B_3 K_3 S_3
  go_wp2_with fail
  refine (c_eqSS' _ _ _ _ _ _ yG yS _ G_4.out S_4.out (HYG.out.trans HYS.out.symm)).mono ?_
  rintro e w5 ⟨rfl, hb⟩
  have B_5 := Lib.hid (Below.next B_4.out hb)
  have K_5 := Lib.hid (K_4.out.below hb)
  have S_5 := Lib.hid (OwnL.kept S_4.out hb)
  have G_5 := Lib.hid (OwnL.kept G_4.out hb)
  clear hb B_4 K_4 S_4 G_4
  go_wp2_with fail
  obtain ⟨m, hm⟩ : ∃ m, 1 + cntSS yG = m := ⟨_, rfl⟩
  have hm2 : m ≤ 513 := by have h1 := cnt_of HYG.out; have h2 := HCN.out; omega
  have hl2 : yG.length ≤ 2 := by have h1 := congrArg List.length HYG.out; have h2 := HLN.out; rw [List.length_map] at h1; omega
  obtain ⟨n, hn⟩ : ∃ n, yG.length = n := ⟨_, rfl⟩
  rw [hn] at G_5 NDG DS DK hl2 ⊢
  have HM := Lib.hid hm
  have HN := Lib.hid hn
  have hm0 : (0 : Int) ≤ (m : Int) := by omega
  clear hm hn
  refine (c_markSS gG cG n 1 m w.heap.size yG _ HN.out G_5.out NDG.out HM.out (by omega) (by omega)).mono ?_
  rintro e w6 ⟨rfl, ho, hg⟩
  have G_6 := Lib.hid ho
  have S_6 := Lib.hid (OwnL.apart hg _ S_5.out DS.out)
  have K_6 := Lib.hid (K_5.out.inn hg DK.out)
  have B_6 := Lib.hid (GrownIn.below' hg B_5.out (fun q hq => (OwnL.lt _ G_5.out q hq).1))
  clear ho hg B_5 K_5 S_5 G_5
  go_wp2_with fail
  refine (c_heldSS gG cG n 1 m yG _ HN.out (ssAt_mk HN.out G_6.out) HM.out (by omega) (by omega)).mono ?_
  rintro e w7 ⟨rfl, rfl⟩
  obtain ⟨p0, p1, p2, p3, p4, p5⟩ := tbo5 K_6.out
  go_wp2_with fail
  clear p0 p1 p2 p3 p4 p5
  refine (HT.out _).mono ?_
  rintro e w7 ⟨rfl, hb⟩
  have B_7 := Lib.hid (Below.next B_6.out hb)
  have S_7 := Lib.hid (OwnL.kept S_6.out hb)
  have G_7 := Lib.hid (OwnL.kept G_6.out hb)
  clear hb B_6 K_6 S_6 G_6
  go_wp2_with fail
  refine (HI.out _).mono ?_
  rintro e w8 ⟨gH, cH, yH, rfl, ho, hnd, hy, hb⟩
  have HYH := Lib.hid hy
  have H_8 := Lib.hid ho
  have B_8 := Lib.hid (Below.next B_7.out hb)
  have S_8 := Lib.hid (OwnL.kept S_7.out hb)
  have G_8 := Lib.hid (OwnL.kept G_7.out hb)
  clear ho hnd hy hb B_7 S_7 G_7
  go_wp2_with fail
  refine (c_eqSS' _ _ _ _ _ _ yH yS _ H_8.out S_8.out (HYH.out.trans HYS.out.symm)).mono ?_
  rintro e w9 ⟨rfl, hb⟩
  have B_9 := Lib.hid (Below.next B_8.out hb)
  have G_9 := Lib.hid (OwnL.kept G_8.out hb)
  clear hb B_8 G_8
  go_wp2_with fail
  refine (c_heldSS gG cG n 1 m yG _ HN.out (ssAt_mk HN.out G_9.out) HM.out (by omega) (by omega)).mono ?_
  rintro e w10 ⟨rfl, rfl⟩
  go_wp2_with fail
  go_ret
  exact ⟨rfl, B_9.out⟩

/-! the row's step -/
set_option maxRecDepth 100000 in
theorem lifted (os : Os) (started : os.Started) (H : Type) (enc : TypeId × Value → H) :
    ReturnsInHanded {} Try.checked os 13 .any (Rows.fnExactEmptySlotsSpec.pre6 enc Try.prog Try.f13 Rows.fnExactEmptySlotsRow.domain false) (Rows.fnExactEmptySlotsSpec.post enc Try.prog Try.f13 false true false false) := by
  refine returnsInHanded_of_change (C := Try.checked) own started (by kernel_rfl) Try.func13
    (ChangeSpec.witness6 (enc := enc) (C := Try.checked) false ⟨#[], #[.agg #[.int .i64 0, .float .f32 0, .float .f32 0, .float .f32 0, .float .f32 0], .int .i64 0], []⟩ 8 (by kernel_rfl) (by kernel_rfl) (by kernel_rfl) (by kernel_rfl)) ?_
  intro W base args ds gs before hval0 hW hcnd _
  have hval : ∀ (j : Nat) t v, Try.f13.params[j]? = some t → args[j]? = some v → Value.okWide Try.prog W .any base t v := hval0
  have hW' := hW
  obtain ⟨p, q, hA0, hV, rfl, hfz, hnd⟩ := hW
  have hA : DataW.TrodAll enc Try.prog W 0 (fun _ => true) true Try.f13.params.toList args.toList ds p := hA0
  rw [Try.params13] at hA hval
  obtain ⟨v0, vs0, d0, ds0, p0, q0, hargs, rfl, rfl, h0, rest0⟩ := trodAll_cons hA
  obtain ⟨v1, vs1, d1, ds1, p1, q1, rfl, rfl, rfl, h1, rest1⟩ := trodAll_cons rest0
  obtain ⟨rfl, rfl, rfl⟩ := trodAll_nil rest1
  obtain rfl : args = #[v0, v1] := by cases args; simp_all
  obtain ⟨rfl, rfl⟩ := trodVars_none hV
  have k0 := h0
  have lt0 : ∀ x ∈ p0, x.block < W.heap.size := by obtain ⟨m, hm⟩ := k0; exact DataW.trod_lt m _ _ _ hm
  have w0 := open_Opt (hval 0 49 v0 rfl rfl) h0
  obtain ⟨a1, rfl, rfl, rfl, w1⟩ := open_int Try.underlying2 (hval 1 2 v1 rfl rfl) h1
  clear hA0 hval0
  refine (walk _ a1 W w0 w1).mono fun e W' ⟨he, bel⟩ => ?_
  subst he
  exact ⟨_, rfl, _, _, _, [], _, [], hW', trodAll_mk1 (shut_bool Try.underlying4 _), (trodAll_cons_mk (Below.trod laidOut (by kernel_rfl) (of_decide_eq_true (by kernel_rfl)) k0 bel lt0) (trodAll_cons_mk (shut_int Try.underlying2 w1) trodAll_mk0)), rfl, bel.frame _, fun h => by cases h⟩

theorem over : Rows.fnExactEmptySlotsRow.holds Try.pinned (OpenSpec.ofChange Rows.fnExactEmptySlotsSpec) :=
  OpenClaim.holds_of_wide 13 Try.f13 rfl rfl rfl rfl rfl rfl rfl ⟨rfl, rfl, rfl, rfl, rfl⟩ rfl rfl rfl rfl rfl (by kernel_rfl) Try.func13 (by kernel_rfl)
    (of_decide_eq_true (by kernel_rfl)) (by unfold Func.isWrapper; first | (rw [if_pos (by decide +kernel)]; kernel_rfl) | (rw [if_neg (by decide +kernel)]; exact ⟨rfl, rfl⟩))
    (fun os started H enc _ => lifted os started H enc)

/-- the statement -/
theorem proved : Rows.FnExactEmptySlotsSaid := over
end Go.Proofs.Ytaklcmibpnpffaa.fnExactEmptySlots
